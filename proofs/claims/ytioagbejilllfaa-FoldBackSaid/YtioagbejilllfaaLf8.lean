/- Functions of the program as functions on data, and that they are. -/
import Derived.Test.YtioagbejilllfaaLf1
import Derived.Test.YtioagbejilllfaaLf7
import Derived.Test.YtioagbejilllfaaLy1
import Derived.Test.YtioagbejilllfaaLy2
namespace Go.Proofs.Ytioagbejilllfaa
namespace Ev
open Go
set_option linter.unusedVariables false
set_option linter.unusedSimpArgs false
set_option maxRecDepth 100000
set_option maxHeartbeats 1000000
attribute [local irreducible] OpsL StL TnL WpL EndL
noncomputable def ref03_Part_b1 (n2 : Int) (n3 : Int) (s9 : List (Int)) (a : List (Int) × Int) : Option ((List (Int) × Int) ⊕ ((List (Int)) ⊕ (List (Int)))) :=
  match a with
  | (l53, n54) => (if n54 < ((s9.length : Nat) : Int) then ((atS 1 (mo 1 s9) n54).bind fun n59 => (if n59 ≥ (maxI n2 0) then ((atS 1 (mo 1 s9) n54).bind fun n63 => (if n63 < n3 then ((atS 1 (mo 1 s9) n54).bind fun n67 => (if (IntKind.i64.wrap (n67 - (maxI n2 0))) < 4096 then ((atS 1 (mo 1 s9) n54).bind fun n71 => ((ref03_Put (mo 1 l53) (IntKind.i64.wrap (n71 - (maxI n2 0)))).bind fun s73 => some (.inl (s73, (IntKind.i64.wrap (n54 + 1)))))) else some (.inl (l53, (IntKind.i64.wrap (n54 + 1)))))) else some (.inl (l53, (IntKind.i64.wrap (n54 + 1)))))) else some (.inl (l53, (IntKind.i64.wrap (n54 + 1)))))) else some (.inr (.inl l53)))
noncomputable def ref03_Part (s1 : Sl (Int)) (n2 : Int) (n3 : Int) : Option (List (Int)) :=
  (if n3 ≤ (maxI n2 0) then some ([] : List (Int)) else ((ref03_New (IntKind.i64.wrap (n3 - (maxI n2 0)))).bind fun s6 => ((ref03_List s1).bind fun s9 => ((neL s6).bind fun _ => ((loopO (ref03_Part_b1 n2 n3 s9) (s6, 0)).bind (Sum.elim (fun l75 => some l75) (fun u => some u)))))))
theorem ref03_Part_r (m : Nat) {s1 : Sl (Int)} {n2 : Int} {n3 : Int} {out : List (Int)} (h : ref03_Part s1 n2 n3 = some out) : RunsP E1 (m + 3) 33 [.one (Sl.t r54 s1), .one (iT .i64 n2), .one (iT .i64 n3)] (resM 1 r54 out) := by
  refine fn_M rfl (by rw [E1_fn]; exact show fiOf Try.prog 33 = _ by unfold fiOf; rw [Try.func33]; unfold Try.f33; rfl) rfl ?_
  dsimp only
  unfold ref03_Part at h
  refine L_seq ?_
  refine L_ops ?_
  refine ol_put rfl rfl rfl (q_assign (v := .one (.p true (Sl.t r54 (⟨false, 0, []⟩ : Sl (Int))))) rfl) ?_
  refine ol_end ?_
  refine E_seq ?_
  refine L_seq ?_
  refine L_ops ?_
  refine ol_put rfl rfl rfl (q_move (v := .one (iC .i64 n2)) rfl) ?_
  refine ol_put rfl rfl rfl ((q_minmax rfl rfl ty3 rfl rfl).2 rfl) ?_
  refine ol_put rfl rfl rfl (q_assign (v := .one (iC .i64 (maxI n2 0))) rfl) ?_
  refine ol_end ?_
  refine E_seq ?_
  refine L_seq ?_
  refine L_seq ?_
  refine L_ops ?_
  refine ol_put rfl rfl rfl (q_move (v := .one (iC .i64 n3)) rfl) ?_
  refine ol_put rfl rfl rfl (q_move (v := .one (iC .i64 (maxI n2 0))) rfl) ?_
  by_cases c4 : n3 ≤ (maxI n2 0)
  · replace h := ifT c4 h
    refine ol_put rfl rfl rfl (q_bin rfl rfl (p_leq_t _ _ _ _ _ c4) rfl) ?_
    refine ol_end ?_
    refine E_seq ?_
    refine L_condT rfl ?_
    refine L_seq ?_
    refine L_ops ?_
    refine ol_put rfl rfl rfl (q_assign (v := .one (.p true (Sl.t r54 (⟨false, 0, []⟩ : Sl (Int))))) rfl) ?_
    refine ol_end ?_
    refine E_seq ?_
    refine L_ret ?_
    refine E_seqR ?_
    obtain rfl := Option.some.inj h
    exact E_endF (.inr rfl) (res_tmp rfl res_nil) (vw_cons (vd_one vc_s) vw_nil) (fun h hb => own_p) rfl rfl
  · replace h := ifF c4 h
    refine ol_put rfl rfl rfl (q_bin rfl rfl (p_leq_f _ _ _ _ _ c4) rfl) ?_
    refine ol_end ?_
    refine E_seq ?_
    refine L_condF rfl ?_
    refine L_skip ?_
    refine E_seq ?_
    refine L_seq ?_
    refine L_ops ?_
    refine ol_put rfl rfl rfl (q_move (v := .one (iC .i64 n3)) rfl) ?_
    refine ol_put rfl rfl rfl (q_move (v := .one (iC .i64 (maxI n2 0))) rfl) ?_
    refine ol_put rfl rfl rfl (q_bin rfl rfl (p_sub _ _ _ _ _ _ _) rfl) ?_
    obtain ⟨s6, h5, h⟩ := bindS h
    refine ol_new rfl rfl rfl (q_callO (args := [.one (iC .i64 (IntKind.i64.wrap (n3 - (maxI n2 0))))]) (ref03_New_r (m + 0) h5) rfl rfl (vw_cons (vd_one vc_v) vw_nil) rfl) (fun k7 => ?_)
    refine ol_put rfl rfl rfl (q_assign (v := .one (.own k7 0 (s6).length)) rfl) ?_
    refine ol_end ?_
    refine E_seq ?_
    refine L_seq ?_
    refine L_ops ?_
    refine ol_put rfl rfl rfl (q_move (v := .one (.p false (Sl.t r54 s1))) rfl) ?_
    obtain ⟨s9, h8, h⟩ := bindS h
    refine ol_callM (r := r3) (l := s9) (args := [.one (.p false (Sl.t r54 s1))]) (ref03_List_r (m + 0) h8) rfl rfl rfl rfl rfl rfl (vw_cons (vd_one vc_s) vw_nil) rfl (fun k10 => ?_)
    refine ol_put rfl rfl rfl (q_assign (v := .one (moC s9 k10)) rfl) ?_
    refine ol_end ?_
    refine E_seq ?_
    refine L_seq ?_
    refine L_seq ?_
    refine L_ops ?_
    refine ol_put rfl rfl rfl (q_assign (v := .one (iC .i64 0)) rfl) ?_
    refine ol_end ?_
    refine E_seq ?_
    refine L_block ?_
    obtain ⟨_, h52, h⟩ := bindS h
    refine L_re 7 (v := .one (moC s6 k7)) (Eq.trans (b := .one (.own k7 0 (s6).length)) rfl (congrArg D.one (ne_moC h52))) ?_
    refine L_reS 1 rfl (ne_moL h52) ?_
    let S1 : (List (Int) × Int) → Nat → (Nat → D) → Nat → D := fun a kt g => ups g [(1, .one (iC .i64 (maxI n2 0))), (2, .one (iC .i64 n3)), (7, .one (moC a.1 kt)), (8, .one (moC s9 k10)), (9, .one (iC .i64 a.2))]
    let SL1 : (List (Int) × Int) → Nat → BL := fun a kt => ([moL r3 1 s9 k10, moL r54 1 a.1 kt] : BL)
    let Sx1 : (List (Int)) → Nat → (Nat → D) → Nat → D := fun a kt g => ups g [(7, .one (moC a kt))]
    let SLx1 : (List (Int)) → Nat → BL := fun a kt => ([moL r54 1 a kt] : BL)
    let G1 : (List (Int)) → Ex → St → Prop := fun u => endQ E1 [.tmp 6] (resM 1 r54 u)
    let J1 : ((List (Int)) ⊕ (List (Int))) → Ex → St → Prop := JX 59 0 Sx1 SLx1 G1
    refine L_loopS (ref03_Part_b1 n2 n3 s9) S1 SL1 J1 JX_n (s6, 0) h k7 (ups_self ⟨rfl, rfl, rfl, rfl, rfl, trivial⟩) [0, 1] (by decide) rfl ?_ ?_
    · rintro ⟨l53, n54⟩ k55 g out h
      change ref03_Part_b1 n2 n3 s9 (l53, n54) = some out at h
      unfold ref03_Part_b1 at h
      refine L_seq ?_
      refine L_seq ?_
      refine L_ops ?_
      refine ol_put rfl rfl rfl (q_move (v := .one (iC .i64 n54)) rfl) ?_
      refine ol_put rfl rfl rfl (q_move (v := .one (moC s9 k10)) rfl) ?_
      refine ol_put rfl rfl rfl (q_lenM (l := s9) rfl ty42 rfl rfl rfl rfl) ?_
      by_cases c56 : n54 < ((s9.length : Nat) : Int)
      · replace h := ifT c56 h
        refine ol_put rfl rfl rfl (q_bin rfl rfl (p_lss_t _ _ _ _ _ c56) rfl) ?_
        refine ol_end ?_
        refine E_seq ?_
        refine L_condT rfl ?_
        refine L_skip ?_
        refine E_seq ?_
        refine L_seq ?_
        refine L_block ?_
        refine L_seq ?_
        refine L_ops ?_
        refine ol_put rfl rfl rfl (q_move (v := .one (moC s9 k10)) rfl) ?_
        refine ol_put rfl rfl rfl (q_move (v := .one (iC .i64 n54)) rfl) ?_
        obtain ⟨n59, h58, h⟩ := bindS h
        obtain ⟨h58a, h58⟩ := atM_some h58
        refine ol_put rfl rfl rfl (q_ixM (r := r3) 0 rfl rfl h58a h58 rfl el42) ?_
        refine ol_put rfl rfl rfl (q_loadP (v := .one (iC .i64 n59)) 0 rfl sz3 (segM (r := r3) rfl h58) (map_get h58) rfl rfl) ?_
        refine ol_put rfl rfl rfl (q_move (v := .one (iC .i64 (maxI n2 0))) rfl) ?_
        by_cases c60 : n59 ≥ (maxI n2 0)
        · replace h := ifT c60 h
          refine ol_put rfl rfl rfl (q_bin rfl rfl (p_geq_t _ _ _ _ _ c60) rfl) ?_
          refine ol_put rfl rfl rfl (q_move (v := .one (bC true)) rfl) ?_
          refine ol_put rfl rfl rfl (q_move (v := .one (moC s9 k10)) rfl) ?_
          refine ol_put rfl rfl rfl (q_move (v := .one (iC .i64 n54)) rfl) ?_
          obtain ⟨n63, h62, h⟩ := bindS h
          obtain ⟨h62a, h62⟩ := atM_some h62
          refine ol_put rfl rfl rfl (q_ixM (r := r3) 0 rfl rfl h62a h62 rfl el42) ?_
          refine ol_put rfl rfl rfl (q_loadP (v := .one (iC .i64 n63)) 0 rfl sz3 (segM (r := r3) rfl h62) (map_get h62) rfl rfl) ?_
          refine ol_put rfl rfl rfl (q_move (v := .one (iC .i64 n3)) rfl) ?_
          by_cases c64 : n63 < n3
          · replace h := ifT c64 h
            refine ol_put rfl rfl rfl (q_bin rfl rfl (p_lss_t _ _ _ _ _ c64) rfl) ?_
            refine ol_put rfl rfl rfl (q_pickT (v := .one (bC true)) rfl rfl) ?_
            refine ol_put rfl rfl rfl (q_move (v := .one (bC true)) rfl) ?_
            refine ol_put rfl rfl rfl (q_move (v := .one (moC s9 k10)) rfl) ?_
            refine ol_put rfl rfl rfl (q_move (v := .one (iC .i64 n54)) rfl) ?_
            obtain ⟨n67, h66, h⟩ := bindS h
            obtain ⟨h66a, h66⟩ := atM_some h66
            refine ol_put rfl rfl rfl (q_ixM (r := r3) 0 rfl rfl h66a h66 rfl el42) ?_
            refine ol_put rfl rfl rfl (q_loadP (v := .one (iC .i64 n67)) 0 rfl sz3 (segM (r := r3) rfl h66) (map_get h66) rfl rfl) ?_
            refine ol_put rfl rfl rfl (q_move (v := .one (iC .i64 (maxI n2 0))) rfl) ?_
            refine ol_put rfl rfl rfl (q_bin rfl rfl (p_sub _ _ _ _ _ _ _) rfl) ?_
            by_cases c68 : (IntKind.i64.wrap (n67 - (maxI n2 0))) < 4096
            · replace h := ifT c68 h
              refine ol_put rfl rfl rfl (q_bin rfl rfl (p_lss_t _ _ _ _ _ c68) rfl) ?_
              refine ol_put rfl rfl rfl (q_pickT (v := .one (bC true)) rfl rfl) ?_
              refine ol_end ?_
              refine E_seq ?_
              refine L_condT rfl ?_
              refine L_ops ?_
              refine ol_put rfl rfl rfl (q_move (v := .one (moC l53 k55)) rfl) ?_
              refine ol_put rfl rfl rfl (q_move (v := .one (moC s9 k10)) rfl) ?_
              refine ol_put rfl rfl rfl (q_move (v := .one (iC .i64 n54)) rfl) ?_
              obtain ⟨n71, h70, h⟩ := bindS h
              obtain ⟨h70a, h70⟩ := atM_some h70
              refine ol_put rfl rfl rfl (q_ixM (r := r3) 0 rfl rfl h70a h70 rfl el42) ?_
              refine ol_put rfl rfl rfl (q_loadP (v := .one (iC .i64 n71)) 0 rfl sz3 (segM (r := r3) rfl h70) (map_get h70) rfl rfl) ?_
              refine ol_put rfl rfl rfl (q_move (v := .one (iC .i64 (maxI n2 0))) rfl) ?_
              refine ol_put rfl rfl rfl (q_bin rfl rfl (p_sub _ _ _ _ _ _ _) rfl) ?_
              obtain ⟨s73, h72, h⟩ := bindS h
              refine ol_callM (r := r54) (l := s73) (args := [.one (moC l53 k55), .one (iC .i64 (IntKind.i64.wrap (n71 - (maxI n2 0))))]) (ref03_Put_r (m + 0) h72) rfl rfl rfl rfl rfl rfl (vw_cons (vd_one (vc_M (r := r54) 1 rfl (fun x h m => rfl))) (vw_cons (vd_one vc_v) vw_nil)) rfl (fun k74 => ?_)
              refine ol_put rfl rfl rfl (q_assign (v := .one (moC s73 k74)) rfl) ?_
              refine ol_end ?_
              refine E_blkN ?_
              refine E_seq ?_
              refine L_ops ?_
              refine ol_put rfl rfl rfl (q_move (v := .one (iC .i64 n54)) rfl) ?_
              refine ol_put rfl rfl rfl (q_bin rfl rfl (p_add _ _ _ _ _ _ _) rfl) ?_
              refine ol_put rfl rfl rfl (q_assign (v := .one (iC .i64 (IntKind.i64.wrap (n54 + 1)))) rfl) ?_
              refine ol_end ?_
              obtain rfl := Option.some.inj h
              exact E_next k74 (ups_self ⟨rfl, rfl, rfl, rfl, rfl, trivial⟩) [1, 0] (by decide) rfl
            · replace h := ifF c68 h
              refine ol_put rfl rfl rfl (q_bin rfl rfl (p_lss_f _ _ _ _ _ c68) rfl) ?_
              refine ol_put rfl rfl rfl (q_pickT (v := .one (bC false)) rfl rfl) ?_
              refine ol_end ?_
              refine E_seq ?_
              refine L_condF rfl ?_
              refine L_skip ?_
              refine E_blkN ?_
              refine E_seq ?_
              refine L_ops ?_
              refine ol_put rfl rfl rfl (q_move (v := .one (iC .i64 n54)) rfl) ?_
              refine ol_put rfl rfl rfl (q_bin rfl rfl (p_add _ _ _ _ _ _ _) rfl) ?_
              refine ol_put rfl rfl rfl (q_assign (v := .one (iC .i64 (IntKind.i64.wrap (n54 + 1)))) rfl) ?_
              refine ol_end ?_
              obtain rfl := Option.some.inj h
              exact E_next k55 (ups_self ⟨rfl, rfl, rfl, rfl, rfl, trivial⟩) [0, 1] (by decide) rfl
          · replace h := ifF c64 h
            refine ol_put rfl rfl rfl (q_bin rfl rfl (p_lss_f _ _ _ _ _ c64) rfl) ?_
            refine ol_put rfl rfl rfl (q_pickT (v := .one (bC false)) rfl rfl) ?_
            refine ol_put rfl rfl rfl (q_move (v := .one (bC false)) rfl) ?_
            refine ol_skip rfl rfl rfl ?_
            refine ol_skip rfl rfl rfl ?_
            refine ol_skip rfl rfl rfl ?_
            refine ol_skip rfl rfl rfl ?_
            refine ol_skip rfl rfl rfl ?_
            refine ol_skip rfl rfl rfl ?_
            refine ol_skip rfl rfl rfl ?_
            refine ol_put rfl rfl rfl (q_pickF (v := .one (bC false)) rfl rfl) ?_
            refine ol_end ?_
            refine E_seq ?_
            refine L_condF rfl ?_
            refine L_skip ?_
            refine E_blkN ?_
            refine E_seq ?_
            refine L_ops ?_
            refine ol_put rfl rfl rfl (q_move (v := .one (iC .i64 n54)) rfl) ?_
            refine ol_put rfl rfl rfl (q_bin rfl rfl (p_add _ _ _ _ _ _ _) rfl) ?_
            refine ol_put rfl rfl rfl (q_assign (v := .one (iC .i64 (IntKind.i64.wrap (n54 + 1)))) rfl) ?_
            refine ol_end ?_
            obtain rfl := Option.some.inj h
            exact E_next k55 (ups_self ⟨rfl, rfl, rfl, rfl, rfl, trivial⟩) [0, 1] (by decide) rfl
        · replace h := ifF c60 h
          refine ol_put rfl rfl rfl (q_bin rfl rfl (p_geq_f _ _ _ _ _ c60) rfl) ?_
          refine ol_put rfl rfl rfl (q_move (v := .one (bC false)) rfl) ?_
          refine ol_skip rfl rfl rfl ?_
          refine ol_skip rfl rfl rfl ?_
          refine ol_skip rfl rfl rfl ?_
          refine ol_skip rfl rfl rfl ?_
          refine ol_skip rfl rfl rfl ?_
          refine ol_skip rfl rfl rfl ?_
          refine ol_put rfl rfl rfl (q_pickF (v := .one (bC false)) rfl rfl) ?_
          refine ol_put rfl rfl rfl (q_move (v := .one (bC false)) rfl) ?_
          refine ol_skip rfl rfl rfl ?_
          refine ol_skip rfl rfl rfl ?_
          refine ol_skip rfl rfl rfl ?_
          refine ol_skip rfl rfl rfl ?_
          refine ol_skip rfl rfl rfl ?_
          refine ol_skip rfl rfl rfl ?_
          refine ol_skip rfl rfl rfl ?_
          refine ol_put rfl rfl rfl (q_pickF (v := .one (bC false)) rfl rfl) ?_
          refine ol_end ?_
          refine E_seq ?_
          refine L_condF rfl ?_
          refine L_skip ?_
          refine E_blkN ?_
          refine E_seq ?_
          refine L_ops ?_
          refine ol_put rfl rfl rfl (q_move (v := .one (iC .i64 n54)) rfl) ?_
          refine ol_put rfl rfl rfl (q_bin rfl rfl (p_add _ _ _ _ _ _ _) rfl) ?_
          refine ol_put rfl rfl rfl (q_assign (v := .one (iC .i64 (IntKind.i64.wrap (n54 + 1)))) rfl) ?_
          refine ol_end ?_
          obtain rfl := Option.some.inj h
          exact E_next k55 (ups_self ⟨rfl, rfl, rfl, rfl, rfl, trivial⟩) [0, 1] (by decide) rfl
      · replace h := ifF c56 h
        refine ol_put rfl rfl rfl (q_bin rfl rfl (p_lss_f _ _ _ _ _ c56) rfl) ?_
        refine ol_end ?_
        refine E_seq ?_
        refine L_condF rfl ?_
        refine L_exit ?_
        refine E_seqX ?_
        obtain rfl := Option.some.inj h
        refine E_out ?_
        exact (E_exit k55 (ups_self ⟨rfl, trivial⟩) [1] (by decide) rfl)
    · rintro (l75 | u) h
      · refine J_x (fun k76 g => ?_)
        replace h := elimL h
        refine E_blkH ?_
        refine E_seq ?_
        refine L_seq ?_
        refine L_ops ?_
        refine ol_put rfl rfl rfl (q_move (v := .one (moC l75 k76)) rfl) ?_
        refine ol_put rfl rfl rfl (q_assign (v := .one (moC l75 k76)) rfl) ?_
        refine ol_end ?_
        refine E_seq ?_
        refine L_ret ?_
        obtain rfl := Option.some.inj h
        exact E_endM (r := r54) 0 (.inr rfl) (res_tmp rfl res_nil) rfl (fun x h m => rfl) (fun x => rfl)
      · obtain rfl := Option.some.inj (elimR h)
        exact J_up (fun s hs => hs)

noncomputable def blend_sure (a0 : Int × (Sl (Int × Int))) : Option ((Int × (Sl (Int × Int)))) :=
  match a0 with
  | (n1, s2) => ((spvec_Right (n1, s2)).bind fun b6 => (if b6 = true then some (n1, s2) else some (0, (⟨false, 0, []⟩ : Sl (Int × Int)))))
theorem blend_sure_r (m : Nat) {a0 : Int × (Sl (Int × Int))} {out : (Int × (Sl (Int × Int)))} (h : blend_sure a0 = some out) : RunsX E1 (m + 3) 63 [.agg (r24 a0)] [.agg (r24 out)] := by
  obtain ⟨n1, s2⟩ := a0
  refine fn_X rfl (by rw [E1_fn]; exact show fiOf Try.prog 63 = _ by unfold fiOf; rw [Try.func63]; unfold Try.f63; rfl) rfl ?_
  dsimp only
  unfold blend_sure at h
  refine L_seq ?_
  refine L_ops ?_
  refine ol_new rfl rfl rfl (q_box ty25 rfl (cs := [iC .i64 n1, .p false (Sl.t r33 s2)]) rfl rfl) (fun k3 => ?_)
  refine ol_new rfl rfl rfl (q_alloc ty25 (row := [iC .i64 0, .p true (Sl.t r33 (⟨false, 0, []⟩ : Sl (Int × Int)))]) rfl rfl) (fun k4 => ?_)
  refine ol_end ?_
  refine E_seq ?_
  refine L_seq ?_
  refine L_seq ?_
  refine L_ops ?_
  refine ol_put rfl rfl rfl (q_loadP (v := .agg [iC .i64 n1, .p false (Sl.t r33 s2)]) 1 rfl sz25 rfl rfl rfl rfl) ?_
  obtain ⟨b6, h5, h⟩ := bindS h
  refine ol_put rfl rfl rfl (q_callF (v := .one (bC b6)) (args := [.agg [iC .i64 n1, .p false (Sl.t r33 s2)]]) (spvec_Right_r (m + 0) h5) rfl rfl (vw_cons (vd_agg (vc_cons vc_v (vc_cons vc_s vc_nil))) vw_nil) rfl rfl) ?_
  refine ol_end ?_
  refine E_seq ?_
  rcases b6 with _ | _
  · replace h := ifF (by decide) h
    refine L_condF rfl ?_
    refine L_skip ?_
    refine E_seq ?_
    refine L_seq ?_
    refine L_ops ?_
    refine ol_put rfl rfl rfl (q_build (cs := [iC .i64 0, .p true (Sl.t r33 (⟨false, 0, []⟩ : Sl (Int × Int)))]) ty25 rfl pl25 rfl) ?_
    refine ol_wr rfl rfl (q_store (es' := [[iC .i64 0, .p true (Sl.t r33 (⟨false, 0, []⟩ : Sl (Int × Int)))]]) 0 rfl rfl rfl sz25 rfl rfl rfl rfl rfl) rfl ?_
    refine ol_end ?_
    refine E_seq ?_
    refine L_ret ?_
    obtain rfl := Option.some.inj h
    exact E_endX (.inr rfl) (res_cell (d := .agg [iC .i64 0, .p true (Sl.t r33 (⟨false, 0, []⟩ : Sl (Int × Int)))]) 0 rfl sz25 rfl rfl rfl rfl res_nil) (vw_cons (vd_agg (vc_cons vc_v (vc_cons vc_s vc_nil))) vw_nil) (fun h hb => own_agg) rfl
  · replace h := ifT (by decide) h
    refine L_condT rfl ?_
    refine L_seq ?_
    refine L_ops ?_
    refine ol_put rfl rfl rfl (q_loadP (v := .agg [iC .i64 n1, .p false (Sl.t r33 s2)]) 1 rfl sz25 rfl rfl rfl rfl) ?_
    refine ol_wr rfl rfl (q_store (es' := [[iC .i64 n1, .p false (Sl.t r33 s2)]]) 0 rfl rfl rfl sz25 rfl rfl rfl rfl rfl) rfl ?_
    refine ol_end ?_
    refine E_seq ?_
    refine L_ret ?_
    refine E_seqR ?_
    obtain rfl := Option.some.inj h
    exact E_endX (.inr rfl) (res_cell (d := .agg [iC .i64 n1, .p false (Sl.t r33 s2)]) 0 rfl sz25 rfl rfl rfl rfl res_nil) (vw_cons (vd_agg (vc_cons vc_v (vc_cons vc_s vc_nil))) vw_nil) (fun h hb => own_agg) rfl

noncomputable def ref09_Places_b1 (s6 : Sl (Int × Int)) (a : List (Int) × Int) : Option ((List (Int) × Int) ⊕ ((List (Int)) ⊕ (List (Int)))) :=
  match a with
  | (l29, n30) => (if n30 < ((s6.l.length : Nat) : Int) then ((atS 2 s6 n30).bind fun (n35, n36) => ((app l29 ([n35] : List (Int))).bind fun _ => some (.inl ((l29 ++ ([n35] : List (Int))), (IntKind.i64.wrap (n30 + 1)))))) else some (.inr (.inl l29)))
noncomputable def ref09_Places (a0 : Int × (Sl (Int × Int))) : Option (List (Int)) :=
  match a0 with
  | (n1, s2) => ((ref09_Sure (n1, s2)).bind fun (n5, s6) => ((loopO (ref09_Places_b1 s6) (([] : List (Int)), 0)).bind (Sum.elim (fun l40 => some l40) (fun u => some u))))
theorem ref09_Places_r (m : Nat) {a0 : Int × (Sl (Int × Int))} {out : List (Int)} (h : ref09_Places a0 = some out) : RunsP E1 (m + 3) 38 [.agg (r24 a0)] (resM 1 r3 out) := by
  obtain ⟨n1, s2⟩ := a0
  refine fn_M rfl (by rw [E1_fn]; exact show fiOf Try.prog 38 = _ by unfold fiOf; rw [Try.func38]; unfold Try.f38; rfl) rfl ?_
  dsimp only
  unfold ref09_Places at h
  refine L_seq ?_
  refine L_ops ?_
  refine ol_new rfl rfl rfl (q_box ty25 rfl (cs := [iC .i64 n1, .p false (Sl.t r33 s2)]) rfl rfl) (fun k3 => ?_)
  refine ol_put rfl rfl rfl (q_assign (v := .one (.p true (Sl.t r3 (⟨false, 0, []⟩ : Sl (Int))))) rfl) ?_
  refine ol_end ?_
  refine E_seq ?_
  refine L_seq ?_
  refine L_ops ?_
  refine ol_put rfl rfl rfl (q_loadP (v := .agg [iC .i64 n1, .p false (Sl.t r33 s2)]) 0 rfl sz25 rfl rfl rfl rfl) ?_
  obtain ⟨⟨n5, s6⟩, h4, h⟩ := bindS h
  refine ol_putX rfl rfl rfl (q_callX (v := fun fr7 => .agg [iC .i64 n5, .p fr7 (Sl.t r33 s6)]) (args := [.agg [iC .i64 n1, .p false (Sl.t r33 s2)]]) (ref09_Sure_r (m + 0) h4) rfl rfl (vw_cons (vd_agg (vc_cons vc_v (vc_cons vc_s vc_nil))) vw_nil) rfl rfl (fun fr => rfl)) (fun fr7 => ?_)
  refine ol_wr rfl rfl (q_store (es' := [[iC .i64 n5, .p fr7 (Sl.t r33 s6)]]) 0 rfl rfl rfl sz25 rfl rfl rfl rfl rfl) rfl ?_
  refine ol_end ?_
  refine E_seq ?_
  refine L_seq ?_
  refine L_ops ?_
  refine ol_put rfl rfl rfl (q_assign (v := .one (.p true (Sl.t r3 (⟨false, 0, []⟩ : Sl (Int))))) rfl) ?_
  refine ol_end ?_
  refine E_seq ?_
  refine L_seq ?_
  refine L_seq ?_
  refine L_ops ?_
  refine ol_put rfl rfl rfl (q_assign (v := .one (iC .i64 0)) rfl) ?_
  refine ol_end ?_
  refine E_seq ?_
  refine L_block ?_
  refine L_addM (α := Int) r3 1 ?_
  let S1 : (List (Int) × Int) → Nat → (Nat → D) → Nat → D := fun a kt g => ups g [(1, .one (.ptr k3 0 0)), (3, .one (moC a.1 kt)), (4, .one (iC .i64 a.2))]
  let SL1 : (List (Int) × Int) → Nat → BL := fun a kt => ([[(k3, 2, [[iC .i64 n5, .p fr7 (Sl.t r33 s6)]])], moL r3 1 a.1 kt] : BL)
  let Sx1 : (List (Int)) → Nat → (Nat → D) → Nat → D := fun a kt g => ups g [(3, .one (moC a kt))]
  let SLx1 : (List (Int)) → Nat → BL := fun a kt => ([moL r3 1 a kt] : BL)
  let G1 : (List (Int)) → Ex → St → Prop := fun u => endQ E1 [.tmp 2] (resM 1 r3 u)
  let J1 : ((List (Int)) ⊕ (List (Int))) → Ex → St → Prop := JX 24 0 Sx1 SLx1 G1
  refine L_loopS (ref09_Places_b1 s6) S1 SL1 J1 JX_n (([] : List (Int)), 0) h 1027 (ups_self ⟨rfl, rfl, rfl, trivial⟩) [1, 0] (by decide) rfl ?_ ?_
  · rintro ⟨l29, n30⟩ k31 g out h
    change ref09_Places_b1 s6 (l29, n30) = some out at h
    unfold ref09_Places_b1 at h
    refine L_seq ?_
    refine L_seq ?_
    refine L_ops ?_
    refine ol_put rfl rfl rfl (q_move (v := .one (iC .i64 n30)) rfl) ?_
    refine ol_put rfl rfl rfl (q_fieldP rfl fa25_1 rfl) ?_
    refine ol_put rfl rfl rfl (q_loadP (v := .one (.p fr7 (Sl.t r33 s6))) 0 rfl sz23 rfl rfl rfl rfl) ?_
    refine ol_put rfl rfl rfl (q_lenS rfl ty23 rfl rfl rfl rfl) ?_
    by_cases c32 : n30 < ((s6.l.length : Nat) : Int)
    · replace h := ifT c32 h
      refine ol_put rfl rfl rfl (q_bin rfl rfl (p_lss_t _ _ _ _ _ c32) rfl) ?_
      refine ol_end ?_
      refine E_seq ?_
      refine L_condT rfl ?_
      refine L_skip ?_
      refine E_seq ?_
      refine L_seq ?_
      refine L_block ?_
      refine L_ops ?_
      refine ol_put rfl rfl rfl (q_move (v := .one (moC l29 k31)) rfl) ?_
      refine ol_put rfl rfl rfl (q_fieldP rfl fa25_1 rfl) ?_
      refine ol_put rfl rfl rfl (q_loadP (v := .one (.p fr7 (Sl.t r33 s6))) 0 rfl sz23 rfl rfl rfl rfl) ?_
      refine ol_put rfl rfl rfl (q_move (v := .one (iC .i64 n30)) rfl) ?_
      obtain ⟨⟨n35, n36⟩, h34, h⟩ := bindS h
      obtain ⟨h34a, h34b, h34⟩ := atS_some h34
      refine ol_put rfl rfl rfl (q_ixS rfl rfl h34a h34 (el23.trans (congrArg some h34b.symm))) ?_
      refine ol_put rfl rfl rfl (q_fieldI rfl fa34_0 rfl) ?_
      refine ol_put rfl rfl rfl (q_loadI (v := .one (iC .i64 n35)) rfl sz3 (map_get h34) rfl rfl) ?_
      refine ol_new rfl rfl rfl (q_bslice (cs := [iC .i64 n35]) (es := (([n35] : List (Int))).map (rowC r3)) ty42 rfl ty3 rfl rfl rfl rfl rfl) (fun k37 => ?_)
      obtain ⟨_, h38, h⟩ := bindS h
      obtain ⟨h38b, rfl⟩ := app_some h38
      refine ol_appM (r := r3) (l := l29) (ys := ([n35] : List (Int))) 2 rfl rfl rfl rfl rfl rfl (el_ownM (l := ([n35] : List (Int))) 0 rfl) rfl h38 (fun y => rfl) el42 ty42 rfl rfl rfl rfl rfl (fun k39 => ?_)
      refine ol_put rfl rfl rfl (q_assign (v := .one (moC (l29 ++ ([n35] : List (Int))) k39)) rfl) ?_
      refine ol_end ?_
      refine E_blkN ?_
      refine E_seq ?_
      refine L_ops ?_
      refine ol_put rfl rfl rfl (q_move (v := .one (iC .i64 n30)) rfl) ?_
      refine ol_put rfl rfl rfl (q_bin rfl rfl (p_add _ _ _ _ _ _ _) rfl) ?_
      refine ol_put rfl rfl rfl (q_assign (v := .one (iC .i64 (IntKind.i64.wrap (n30 + 1)))) rfl) ?_
      refine ol_end ?_
      obtain rfl := Option.some.inj h
      exact E_next k39 (ups_self ⟨rfl, rfl, rfl, trivial⟩) [2, 0] (by decide) rfl
    · replace h := ifF c32 h
      refine ol_put rfl rfl rfl (q_bin rfl rfl (p_lss_f _ _ _ _ _ c32) rfl) ?_
      refine ol_end ?_
      refine E_seq ?_
      refine L_condF rfl ?_
      refine L_exit ?_
      refine E_seqX ?_
      obtain rfl := Option.some.inj h
      refine E_out ?_
      exact (E_exit k31 (ups_self ⟨rfl, trivial⟩) [1] (by decide) rfl)
  · rintro (l40 | u) h
    · refine J_x (fun k41 g => ?_)
      replace h := elimL h
      refine E_blkH ?_
      refine E_seq ?_
      refine L_seq ?_
      refine L_ops ?_
      refine ol_put rfl rfl rfl (q_move (v := .one (moC l40 k41)) rfl) ?_
      refine ol_put rfl rfl rfl (q_assign (v := .one (moC l40 k41)) rfl) ?_
      refine ol_end ?_
      refine E_seq ?_
      refine L_ret ?_
      obtain rfl := Option.some.inj h
      exact E_endM (r := r3) 0 (.inr rfl) (res_tmp rfl res_nil) rfl (fun x h m => rfl) (fun x => rfl)
    · obtain rfl := Option.some.inj (elimR h)
      exact J_up (fun s hs => hs)

noncomputable def ref03_Of_b1 (n1 : Int) (s2 : Sl (Int)) (a : List (Int) × Int) : Option ((List (Int) × Int) ⊕ ((List (Int)) ⊕ (List (Int)))) :=
  match a with
  | (l48, n49) => (if n49 < ((s2.l.length : Nat) : Int) then ((atS 1 s2 n49).bind fun n54 => (if n54 ≥ 0 then ((atS 1 s2 n49).bind fun n58 => (if n58 < n1 then ((atS 1 s2 n49).bind fun n62 => (if n62 < 4096 then ((atS 1 s2 n49).bind fun n66 => ((ref03_Put (mo 1 l48) n66).bind fun s68 => some (.inl (s68, (IntKind.i64.wrap (n49 + 1)))))) else some (.inl (l48, (IntKind.i64.wrap (n49 + 1)))))) else some (.inl (l48, (IntKind.i64.wrap (n49 + 1)))))) else some (.inl (l48, (IntKind.i64.wrap (n49 + 1)))))) else some (.inr (.inl l48)))
noncomputable def ref03_Of (n1 : Int) (s2 : Sl (Int)) : Option (List (Int)) :=
  ((ref03_New n1).bind fun s4 => ((neL s4).bind fun _ => ((loopO (ref03_Of_b1 n1 s2) (s4, 0)).bind (Sum.elim (fun l70 => some l70) (fun u => some u)))))
theorem ref03_Of_r (m : Nat) {n1 : Int} {s2 : Sl (Int)} {out : List (Int)} (h : ref03_Of n1 s2 = some out) : RunsP E1 (m + 3) 37 [.one (iT .i64 n1), .one (Sl.t r3 s2)] (resM 1 r54 out) := by
  refine fn_M rfl (by rw [E1_fn]; exact show fiOf Try.prog 37 = _ by unfold fiOf; rw [Try.func37]; unfold Try.f37; rfl) rfl ?_
  dsimp only
  unfold ref03_Of at h
  refine L_seq ?_
  refine L_ops ?_
  refine ol_put rfl rfl rfl (q_assign (v := .one (.p true (Sl.t r54 (⟨false, 0, []⟩ : Sl (Int))))) rfl) ?_
  refine ol_end ?_
  refine E_seq ?_
  refine L_seq ?_
  refine L_ops ?_
  refine ol_put rfl rfl rfl (q_move (v := .one (iC .i64 n1)) rfl) ?_
  obtain ⟨s4, h3, h⟩ := bindS h
  refine ol_new rfl rfl rfl (q_callO (args := [.one (iC .i64 n1)]) (ref03_New_r (m + 0) h3) rfl rfl (vw_cons (vd_one vc_v) vw_nil) rfl) (fun k5 => ?_)
  refine ol_put rfl rfl rfl (q_assign (v := .one (.own k5 0 (s4).length)) rfl) ?_
  refine ol_end ?_
  refine E_seq ?_
  refine L_seq ?_
  refine L_seq ?_
  refine L_ops ?_
  refine ol_put rfl rfl rfl (q_assign (v := .one (iC .i64 0)) rfl) ?_
  refine ol_end ?_
  refine E_seq ?_
  refine L_block ?_
  obtain ⟨_, h47, h⟩ := bindS h
  refine L_re 5 (v := .one (moC s4 k5)) (Eq.trans (b := .one (.own k5 0 (s4).length)) rfl (congrArg D.one (ne_moC h47))) ?_
  refine L_reS 0 rfl (ne_moL h47) ?_
  let S1 : (List (Int) × Int) → Nat → (Nat → D) → Nat → D := fun a kt g => ups g [(0, .one (iC .i64 n1)), (1, .one (.p false (Sl.t r3 s2))), (5, .one (moC a.1 kt)), (6, .one (iC .i64 a.2))]
  let SL1 : (List (Int) × Int) → Nat → BL := fun a kt => ([moL r54 1 a.1 kt] : BL)
  let Sx1 : (List (Int)) → Nat → (Nat → D) → Nat → D := fun a kt g => ups g [(5, .one (moC a kt))]
  let SLx1 : (List (Int)) → Nat → BL := fun a kt => ([moL r54 1 a kt] : BL)
  let G1 : (List (Int)) → Ex → St → Prop := fun u => endQ E1 [.tmp 4] (resM 1 r54 u)
  let J1 : ((List (Int)) ⊕ (List (Int))) → Ex → St → Prop := JX 42 0 Sx1 SLx1 G1
  refine L_loopS (ref03_Of_b1 n1 s2) S1 SL1 J1 JX_n (s4, 0) h k5 (ups_self ⟨rfl, rfl, rfl, rfl, trivial⟩) [0] (by decide) rfl ?_ ?_
  · rintro ⟨l48, n49⟩ k50 g out h
    change ref03_Of_b1 n1 s2 (l48, n49) = some out at h
    unfold ref03_Of_b1 at h
    refine L_seq ?_
    refine L_seq ?_
    refine L_ops ?_
    refine ol_put rfl rfl rfl (q_move (v := .one (iC .i64 n49)) rfl) ?_
    refine ol_put rfl rfl rfl (q_move (v := .one (.p false (Sl.t r3 s2))) rfl) ?_
    refine ol_put rfl rfl rfl (q_lenS rfl ty42 rfl rfl rfl rfl) ?_
    by_cases c51 : n49 < ((s2.l.length : Nat) : Int)
    · replace h := ifT c51 h
      refine ol_put rfl rfl rfl (q_bin rfl rfl (p_lss_t _ _ _ _ _ c51) rfl) ?_
      refine ol_end ?_
      refine E_seq ?_
      refine L_condT rfl ?_
      refine L_skip ?_
      refine E_seq ?_
      refine L_seq ?_
      refine L_block ?_
      refine L_seq ?_
      refine L_ops ?_
      refine ol_put rfl rfl rfl (q_move (v := .one (.p false (Sl.t r3 s2))) rfl) ?_
      refine ol_put rfl rfl rfl (q_move (v := .one (iC .i64 n49)) rfl) ?_
      obtain ⟨n54, h53, h⟩ := bindS h
      obtain ⟨h53a, h53b, h53⟩ := atS_some h53
      refine ol_put rfl rfl rfl (q_ixS rfl rfl h53a h53 (el42.trans (congrArg some h53b.symm))) ?_
      refine ol_put rfl rfl rfl (q_loadI (v := .one (iC .i64 n54)) rfl sz3 (map_get h53) rfl rfl) ?_
      by_cases c55 : n54 ≥ 0
      · replace h := ifT c55 h
        refine ol_put rfl rfl rfl (q_bin rfl rfl (p_geq_t _ _ _ _ _ c55) rfl) ?_
        refine ol_put rfl rfl rfl (q_move (v := .one (bC true)) rfl) ?_
        refine ol_put rfl rfl rfl (q_move (v := .one (.p false (Sl.t r3 s2))) rfl) ?_
        refine ol_put rfl rfl rfl (q_move (v := .one (iC .i64 n49)) rfl) ?_
        obtain ⟨n58, h57, h⟩ := bindS h
        obtain ⟨h57a, h57b, h57⟩ := atS_some h57
        refine ol_put rfl rfl rfl (q_ixS rfl rfl h57a h57 (el42.trans (congrArg some h57b.symm))) ?_
        refine ol_put rfl rfl rfl (q_loadI (v := .one (iC .i64 n58)) rfl sz3 (map_get h57) rfl rfl) ?_
        refine ol_put rfl rfl rfl (q_move (v := .one (iC .i64 n1)) rfl) ?_
        by_cases c59 : n58 < n1
        · replace h := ifT c59 h
          refine ol_put rfl rfl rfl (q_bin rfl rfl (p_lss_t _ _ _ _ _ c59) rfl) ?_
          refine ol_put rfl rfl rfl (q_pickT (v := .one (bC true)) rfl rfl) ?_
          refine ol_put rfl rfl rfl (q_move (v := .one (bC true)) rfl) ?_
          refine ol_put rfl rfl rfl (q_move (v := .one (.p false (Sl.t r3 s2))) rfl) ?_
          refine ol_put rfl rfl rfl (q_move (v := .one (iC .i64 n49)) rfl) ?_
          obtain ⟨n62, h61, h⟩ := bindS h
          obtain ⟨h61a, h61b, h61⟩ := atS_some h61
          refine ol_put rfl rfl rfl (q_ixS rfl rfl h61a h61 (el42.trans (congrArg some h61b.symm))) ?_
          refine ol_put rfl rfl rfl (q_loadI (v := .one (iC .i64 n62)) rfl sz3 (map_get h61) rfl rfl) ?_
          by_cases c63 : n62 < 4096
          · replace h := ifT c63 h
            refine ol_put rfl rfl rfl (q_bin rfl rfl (p_lss_t _ _ _ _ _ c63) rfl) ?_
            refine ol_put rfl rfl rfl (q_pickT (v := .one (bC true)) rfl rfl) ?_
            refine ol_end ?_
            refine E_seq ?_
            refine L_condT rfl ?_
            refine L_ops ?_
            refine ol_put rfl rfl rfl (q_move (v := .one (moC l48 k50)) rfl) ?_
            refine ol_put rfl rfl rfl (q_move (v := .one (.p false (Sl.t r3 s2))) rfl) ?_
            refine ol_put rfl rfl rfl (q_move (v := .one (iC .i64 n49)) rfl) ?_
            obtain ⟨n66, h65, h⟩ := bindS h
            obtain ⟨h65a, h65b, h65⟩ := atS_some h65
            refine ol_put rfl rfl rfl (q_ixS rfl rfl h65a h65 (el42.trans (congrArg some h65b.symm))) ?_
            refine ol_put rfl rfl rfl (q_loadI (v := .one (iC .i64 n66)) rfl sz3 (map_get h65) rfl rfl) ?_
            obtain ⟨s68, h67, h⟩ := bindS h
            refine ol_callM (r := r54) (l := s68) (args := [.one (moC l48 k50), .one (iC .i64 n66)]) (ref03_Put_r (m + 0) h67) rfl rfl rfl rfl rfl rfl (vw_cons (vd_one (vc_M (r := r54) 0 rfl (fun x h m => rfl))) (vw_cons (vd_one vc_v) vw_nil)) rfl (fun k69 => ?_)
            refine ol_put rfl rfl rfl (q_assign (v := .one (moC s68 k69)) rfl) ?_
            refine ol_end ?_
            refine E_blkN ?_
            refine E_seq ?_
            refine L_ops ?_
            refine ol_put rfl rfl rfl (q_move (v := .one (iC .i64 n49)) rfl) ?_
            refine ol_put rfl rfl rfl (q_bin rfl rfl (p_add _ _ _ _ _ _ _) rfl) ?_
            refine ol_put rfl rfl rfl (q_assign (v := .one (iC .i64 (IntKind.i64.wrap (n49 + 1)))) rfl) ?_
            refine ol_end ?_
            obtain rfl := Option.some.inj h
            exact E_next k69 (ups_self ⟨rfl, rfl, rfl, rfl, trivial⟩) [0] (by decide) rfl
          · replace h := ifF c63 h
            refine ol_put rfl rfl rfl (q_bin rfl rfl (p_lss_f _ _ _ _ _ c63) rfl) ?_
            refine ol_put rfl rfl rfl (q_pickT (v := .one (bC false)) rfl rfl) ?_
            refine ol_end ?_
            refine E_seq ?_
            refine L_condF rfl ?_
            refine L_skip ?_
            refine E_blkN ?_
            refine E_seq ?_
            refine L_ops ?_
            refine ol_put rfl rfl rfl (q_move (v := .one (iC .i64 n49)) rfl) ?_
            refine ol_put rfl rfl rfl (q_bin rfl rfl (p_add _ _ _ _ _ _ _) rfl) ?_
            refine ol_put rfl rfl rfl (q_assign (v := .one (iC .i64 (IntKind.i64.wrap (n49 + 1)))) rfl) ?_
            refine ol_end ?_
            obtain rfl := Option.some.inj h
            exact E_next k50 (ups_self ⟨rfl, rfl, rfl, rfl, trivial⟩) [0] (by decide) rfl
        · replace h := ifF c59 h
          refine ol_put rfl rfl rfl (q_bin rfl rfl (p_lss_f _ _ _ _ _ c59) rfl) ?_
          refine ol_put rfl rfl rfl (q_pickT (v := .one (bC false)) rfl rfl) ?_
          refine ol_put rfl rfl rfl (q_move (v := .one (bC false)) rfl) ?_
          refine ol_skip rfl rfl rfl ?_
          refine ol_skip rfl rfl rfl ?_
          refine ol_skip rfl rfl rfl ?_
          refine ol_skip rfl rfl rfl ?_
          refine ol_skip rfl rfl rfl ?_
          refine ol_put rfl rfl rfl (q_pickF (v := .one (bC false)) rfl rfl) ?_
          refine ol_end ?_
          refine E_seq ?_
          refine L_condF rfl ?_
          refine L_skip ?_
          refine E_blkN ?_
          refine E_seq ?_
          refine L_ops ?_
          refine ol_put rfl rfl rfl (q_move (v := .one (iC .i64 n49)) rfl) ?_
          refine ol_put rfl rfl rfl (q_bin rfl rfl (p_add _ _ _ _ _ _ _) rfl) ?_
          refine ol_put rfl rfl rfl (q_assign (v := .one (iC .i64 (IntKind.i64.wrap (n49 + 1)))) rfl) ?_
          refine ol_end ?_
          obtain rfl := Option.some.inj h
          exact E_next k50 (ups_self ⟨rfl, rfl, rfl, rfl, trivial⟩) [0] (by decide) rfl
      · replace h := ifF c55 h
        refine ol_put rfl rfl rfl (q_bin rfl rfl (p_geq_f _ _ _ _ _ c55) rfl) ?_
        refine ol_put rfl rfl rfl (q_move (v := .one (bC false)) rfl) ?_
        refine ol_skip rfl rfl rfl ?_
        refine ol_skip rfl rfl rfl ?_
        refine ol_skip rfl rfl rfl ?_
        refine ol_skip rfl rfl rfl ?_
        refine ol_skip rfl rfl rfl ?_
        refine ol_skip rfl rfl rfl ?_
        refine ol_put rfl rfl rfl (q_pickF (v := .one (bC false)) rfl rfl) ?_
        refine ol_put rfl rfl rfl (q_move (v := .one (bC false)) rfl) ?_
        refine ol_skip rfl rfl rfl ?_
        refine ol_skip rfl rfl rfl ?_
        refine ol_skip rfl rfl rfl ?_
        refine ol_skip rfl rfl rfl ?_
        refine ol_skip rfl rfl rfl ?_
        refine ol_put rfl rfl rfl (q_pickF (v := .one (bC false)) rfl rfl) ?_
        refine ol_end ?_
        refine E_seq ?_
        refine L_condF rfl ?_
        refine L_skip ?_
        refine E_blkN ?_
        refine E_seq ?_
        refine L_ops ?_
        refine ol_put rfl rfl rfl (q_move (v := .one (iC .i64 n49)) rfl) ?_
        refine ol_put rfl rfl rfl (q_bin rfl rfl (p_add _ _ _ _ _ _ _) rfl) ?_
        refine ol_put rfl rfl rfl (q_assign (v := .one (iC .i64 (IntKind.i64.wrap (n49 + 1)))) rfl) ?_
        refine ol_end ?_
        obtain rfl := Option.some.inj h
        exact E_next k50 (ups_self ⟨rfl, rfl, rfl, rfl, trivial⟩) [0] (by decide) rfl
    · replace h := ifF c51 h
      refine ol_put rfl rfl rfl (q_bin rfl rfl (p_lss_f _ _ _ _ _ c51) rfl) ?_
      refine ol_end ?_
      refine E_seq ?_
      refine L_condF rfl ?_
      refine L_exit ?_
      refine E_seqX ?_
      obtain rfl := Option.some.inj h
      refine E_out ?_
      exact (E_exit k50 (ups_self ⟨rfl, trivial⟩) [0] (by decide) rfl)
  · rintro (l70 | u) h
    · refine J_x (fun k71 g => ?_)
      replace h := elimL h
      refine E_blkH ?_
      refine E_seq ?_
      refine L_seq ?_
      refine L_ops ?_
      refine ol_put rfl rfl rfl (q_move (v := .one (moC l70 k71)) rfl) ?_
      refine ol_put rfl rfl rfl (q_assign (v := .one (moC l70 k71)) rfl) ?_
      refine ol_end ?_
      refine E_seq ?_
      refine L_ret ?_
      obtain rfl := Option.some.inj h
      exact E_endM (r := r54) 0 (.inr rfl) (res_tmp rfl res_nil) rfl (fun x h m => rfl) (fun x => rfl)
    · obtain rfl := Option.some.inj (elimR h)
      exact J_up (fun s hs => hs)

noncomputable def flags_within (s1 : Sl (Int)) (n2 : Int) : Option (Bool) :=
  (if n2 ≥ 0 then ((divO .i64 n2 64).bind fun n4 => (if n4 < ((s1.l.length : Nat) : Int) then some true else some false)) else some false)
theorem flags_within_r (m : Nat) {s1 : Sl (Int)} {n2 : Int} {out : Bool} (h : flags_within s1 n2 = some out) : RunsP E1 (m + 1) 76 [.one (Sl.t r54 s1), .one (iT .i64 n2)] (.fresh, [.one (bT out)]) := by
  refine fn_F rfl (by rw [E1_fn]; exact show fiOf Try.prog 76 = _ by unfold fiOf; rw [Try.func76]; unfold Try.f76; rfl) rfl ?_
  dsimp only
  unfold flags_within at h
  refine L_seq ?_
  refine L_ops ?_
  refine ol_put rfl rfl rfl (q_assign (v := .one (bC false)) rfl) ?_
  refine ol_end ?_
  refine E_seq ?_
  refine L_seq ?_
  refine L_ops ?_
  refine ol_put rfl rfl rfl (q_move (v := .one (iC .i64 n2)) rfl) ?_
  by_cases c3 : n2 ≥ 0
  · replace h := ifT c3 h
    refine ol_put rfl rfl rfl (q_bin rfl rfl (p_geq_t _ _ _ _ _ c3) rfl) ?_
    refine ol_put rfl rfl rfl (q_move (v := .one (bC true)) rfl) ?_
    refine ol_put rfl rfl rfl (q_move (v := .one (iC .i64 n2)) rfl) ?_
    obtain ⟨n4, h5, h⟩ := bindS h
    refine ol_put rfl rfl rfl (q_bin rfl rfl (divO_p h5) rfl) ?_
    refine ol_put rfl rfl rfl (q_move (v := .one (.p false (Sl.t r54 s1))) rfl) ?_
    refine ol_put rfl rfl rfl (q_lenS rfl ty62 rfl rfl rfl rfl) ?_
    by_cases c6 : n4 < ((s1.l.length : Nat) : Int)
    · replace h := ifT c6 h
      refine ol_put rfl rfl rfl (q_bin rfl rfl (p_lss_t _ _ _ _ _ c6) rfl) ?_
      refine ol_put rfl rfl rfl (q_pickT (v := .one (bC true)) rfl rfl) ?_
      refine ol_put rfl rfl rfl (q_assign (v := .one (bC true)) rfl) ?_
      refine ol_end ?_
      refine E_seq ?_
      refine L_ret ?_
      obtain rfl := Option.some.inj h
      exact E_endF (.inr rfl) (res_tmp rfl res_nil) (vw_cons (vd_one vc_v) vw_nil) (fun h hb => own_p) rfl rfl
    · replace h := ifF c6 h
      refine ol_put rfl rfl rfl (q_bin rfl rfl (p_lss_f _ _ _ _ _ c6) rfl) ?_
      refine ol_put rfl rfl rfl (q_pickT (v := .one (bC false)) rfl rfl) ?_
      refine ol_put rfl rfl rfl (q_assign (v := .one (bC false)) rfl) ?_
      refine ol_end ?_
      refine E_seq ?_
      refine L_ret ?_
      obtain rfl := Option.some.inj h
      exact E_endF (.inr rfl) (res_tmp rfl res_nil) (vw_cons (vd_one vc_v) vw_nil) (fun h hb => own_p) rfl rfl
  · replace h := ifF c3 h
    refine ol_put rfl rfl rfl (q_bin rfl rfl (p_geq_f _ _ _ _ _ c3) rfl) ?_
    refine ol_put rfl rfl rfl (q_move (v := .one (bC false)) rfl) ?_
    refine ol_skip rfl rfl rfl ?_
    refine ol_skip rfl rfl rfl ?_
    refine ol_skip rfl rfl rfl ?_
    refine ol_skip rfl rfl rfl ?_
    refine ol_skip rfl rfl rfl ?_
    refine ol_put rfl rfl rfl (q_pickF (v := .one (bC false)) rfl rfl) ?_
    refine ol_put rfl rfl rfl (q_assign (v := .one (bC false)) rfl) ?_
    refine ol_end ?_
    refine E_seq ?_
    refine L_ret ?_
    obtain rfl := Option.some.inj h
    exact E_endF (.inr rfl) (res_tmp rfl res_nil) (vw_cons (vd_one vc_v) vw_nil) (fun h hb => own_p) rfl rfl

noncomputable def flags_bit (n1 : Int) : Option (Int) :=
  ((modO n1 64).bind fun n2 => ((shl1 .u64 1 (IntKind.u64.wrap n2)).bind fun n4 => some n4))
theorem flags_bit_r (m : Nat) {n1 : Int} {out : Int} (h : flags_bit n1 = some out) : RunsP E1 (m + 1) 77 [.one (iT .i64 n1)] (.fresh, [.one (iT .u64 out)]) := by
  refine fn_F rfl (by rw [E1_fn]; exact show fiOf Try.prog 77 = _ by unfold fiOf; rw [Try.func77]; unfold Try.f77; rfl) rfl ?_
  dsimp only
  unfold flags_bit at h
  refine L_seq ?_
  refine L_ops ?_
  refine ol_put rfl rfl rfl (q_assign (v := .one (iC .u64 0)) rfl) ?_
  refine ol_end ?_
  refine E_seq ?_
  refine L_seq ?_
  refine L_ops ?_
  refine ol_put rfl rfl rfl (q_move (v := .one (iC .i64 n1)) rfl) ?_
  obtain ⟨n2, h3, h⟩ := bindS h
  refine ol_put rfl rfl rfl (q_bin rfl rfl (modO_p h3) rfl) ?_
  refine ol_put rfl rfl rfl (q_conv rfl (cv3_95_i64 _) rfl) ?_
  obtain ⟨n4, h5, h⟩ := bindS h
  refine ol_put rfl rfl rfl (q_bin rfl rfl (p_shl h5) rfl) ?_
  refine ol_put rfl rfl rfl (q_assign (v := .one (iC .u64 n4)) rfl) ?_
  refine ol_end ?_
  refine E_seq ?_
  refine L_ret ?_
  obtain rfl := Option.some.inj h
  exact E_endF (.inr rfl) (res_tmp rfl res_nil) (vw_cons (vd_one vc_v) vw_nil) (fun h hb => own_p) rfl rfl

noncomputable def flags_Has (s1 : Sl (Int)) (n2 : Int) : Option (Bool) :=
  ((flags_within s1 n2).bind fun b4 => (if b4 = true then ((divO .i64 n2 64).bind fun n5 => ((atS 1 s1 n5).bind fun n9 => ((flags_bit n2).bind fun n11 => (if (andI .u64 n9 n11) ≠ 0 then some true else some false)))) else some false))
theorem flags_Has_r (m : Nat) {s1 : Sl (Int)} {n2 : Int} {out : Bool} (h : flags_Has s1 n2 = some out) : RunsP E1 (m + 2) 64 [.one (Sl.t r54 s1), .one (iT .i64 n2)] (.fresh, [.one (bT out)]) := by
  refine fn_F rfl (by rw [E1_fn]; exact show fiOf Try.prog 64 = _ by unfold fiOf; rw [Try.func64]; unfold Try.f64; rfl) rfl ?_
  dsimp only
  unfold flags_Has at h
  refine L_seq ?_
  refine L_ops ?_
  refine ol_put rfl rfl rfl (q_assign (v := .one (bC false)) rfl) ?_
  refine ol_end ?_
  refine E_seq ?_
  refine L_seq ?_
  refine L_still (by kernel_rfl) ?_
  refine st_put rfl rfl rfl (q_move (v := .one (.p false (Sl.t r54 s1))) rfl) ?_
  refine st_put rfl rfl rfl (q_move (v := .one (iC .i64 n2)) rfl) ?_
  obtain ⟨b4, h3, h⟩ := bindS h
  refine st_put rfl rfl rfl (q_callF (v := .one (bC b4)) (args := [.one (.p false (Sl.t r54 s1)), .one (iC .i64 n2)]) (flags_within_r (m + 0) h3) rfl rfl (vw_cons (vd_one vc_s) (vw_cons (vd_one vc_v) vw_nil)) rfl rfl) ?_
  refine st_put rfl rfl rfl (q_move (v := .one (bC b4)) rfl) ?_
  rcases b4 with _ | _
  · replace h := ifF (by decide) h
    refine st_skip rfl rfl rfl ?_
    refine st_skip rfl rfl rfl ?_
    refine st_skip rfl rfl rfl ?_
    refine st_skip rfl rfl rfl ?_
    refine st_skip rfl rfl rfl ?_
    refine st_skip rfl rfl rfl ?_
    refine st_skip rfl rfl rfl ?_
    refine st_skip rfl rfl rfl ?_
    refine st_skip rfl rfl rfl ?_
    refine st_put rfl rfl rfl (q_pickF (v := .one (bC false)) rfl rfl) ?_
    refine st_put rfl rfl rfl (q_assign (v := .one (bC false)) rfl) ?_
    refine st_end ?_
    refine E_seq ?_
    refine L_ret ?_
    obtain rfl := Option.some.inj h
    exact E_endF (.inr rfl) (res_tmp rfl res_nil) (vw_cons (vd_one vc_v) vw_nil) (fun h hb => own_p) rfl rfl
  · replace h := ifT (by decide) h
    refine st_put rfl rfl rfl (q_move (v := .one (.p false (Sl.t r54 s1))) rfl) ?_
    refine st_put rfl rfl rfl (q_move (v := .one (iC .i64 n2)) rfl) ?_
    obtain ⟨n5, h6, h⟩ := bindS h
    refine st_put rfl rfl rfl (q_bin rfl rfl (divO_p h6) rfl) ?_
    obtain ⟨n9, h8, h⟩ := bindS h
    obtain ⟨h8a, h8b, h8⟩ := atS_some h8
    refine st_put rfl rfl rfl (q_ixS rfl rfl h8a h8 (el62.trans (congrArg some h8b.symm))) ?_
    refine st_put rfl rfl rfl (q_loadI (v := .one (iC .u64 n9)) rfl sz54 (map_get h8) rfl rfl) ?_
    refine st_put rfl rfl rfl (q_move (v := .one (iC .i64 n2)) rfl) ?_
    obtain ⟨n11, h10, h⟩ := bindS h
    refine st_put rfl rfl rfl (q_callF (v := .one (iC .u64 n11)) (args := [.one (iC .i64 n2)]) (flags_bit_r (m + 0) h10) rfl rfl (vw_cons (vd_one vc_v) vw_nil) rfl rfl) ?_
    refine st_put rfl rfl rfl (q_bin rfl rfl (p_and _ _ _ _ _ _ _) rfl) ?_
    by_cases c12 : (andI .u64 n9 n11) ≠ 0
    · replace h := ifT c12 h
      refine st_put rfl rfl rfl (q_bin rfl rfl (p_neq_t _ _ _ _ _ c12) rfl) ?_
      refine st_put rfl rfl rfl (q_pickT (v := .one (bC true)) rfl rfl) ?_
      refine st_put rfl rfl rfl (q_assign (v := .one (bC true)) rfl) ?_
      refine st_end ?_
      refine E_seq ?_
      refine L_ret ?_
      obtain rfl := Option.some.inj h
      exact E_endF (.inr rfl) (res_tmp rfl res_nil) (vw_cons (vd_one vc_v) vw_nil) (fun h hb => own_p) rfl rfl
    · replace h := ifF c12 h
      refine st_put rfl rfl rfl (q_bin rfl rfl (p_neq_f _ _ _ _ _ c12) rfl) ?_
      refine st_put rfl rfl rfl (q_pickT (v := .one (bC false)) rfl rfl) ?_
      refine st_put rfl rfl rfl (q_assign (v := .one (bC false)) rfl) ?_
      refine st_end ?_
      refine E_seq ?_
      refine L_ret ?_
      obtain rfl := Option.some.inj h
      exact E_endF (.inr rfl) (res_tmp rfl res_nil) (vw_cons (vd_one vc_v) vw_nil) (fun h hb => own_p) rfl rfl

noncomputable def blend_Mask_b1 (s3 : Sl (Int)) (s9 : Sl (Int × Int)) (a : Bool × Int × (List (Int × Int))) : Option ((Bool × Int × (List (Int × Int))) ⊕ ((List (Int × Int)) ⊕ (Int × (Sl (Int × Int))))) :=
  match a with
  | (b65, n66, l67) => (if n66 < ((s9.l.length : Nat) : Int) then ((atS 2 s9 n66).bind fun (n72, n73) => ((flags_Has s3 n72).bind fun b76 => (if b76 = true then (if b65 = true then some (.inl (true, (IntKind.i64.wrap (n66 + 1)), l67)) else ((app l67 ([(n72, n73)] : List (Int × Int))).bind fun _ => some (.inl (false, (IntKind.i64.wrap (n66 + 1)), (l67 ++ ([(n72, n73)] : List (Int × Int))))))) else (if b65 = true then ((app l67 ([(n72, n73)] : List (Int × Int))).bind fun _ => some (.inl (true, (IntKind.i64.wrap (n66 + 1)), (l67 ++ ([(n72, n73)] : List (Int × Int)))))) else some (.inl (false, (IntKind.i64.wrap (n66 + 1)), l67)))))) else some (.inr (.inl l67)))
noncomputable def blend_Mask (a0 : Int × (Sl (Int × Int))) (s3 : Sl (Int)) (b4 : Bool) : Option ((Int × (Sl (Int × Int)))) :=
  match a0 with
  | (n1, s2) => ((blend_sure (n1, s2)).bind fun (n8, s9) => ((loopO (blend_Mask_b1 s3 s9) (b4, 0, ([] : List (Int × Int)))).bind (Sum.elim (fun l83 => some (n8, (mo 2 l83))) (fun u => some u))))
theorem blend_Mask_r (m : Nat) {a0 : Int × (Sl (Int × Int))} {s3 : Sl (Int)} {b4 : Bool} {out : (Int × (Sl (Int × Int)))} (h : blend_Mask a0 s3 b4 = some out) : RunsP E1 (m + 4) 36 [.agg (r24 a0), .one (Sl.t r54 s3), .one (bT b4)] (.fresh, [.agg (r24 out)]) := by
  obtain ⟨n1, s2⟩ := a0
  refine fn_F rfl (by rw [E1_fn]; exact show fiOf Try.prog 36 = _ by unfold fiOf; rw [Try.func36]; unfold Try.f36; rfl) rfl ?_
  dsimp only
  unfold blend_Mask at h
  refine L_seq ?_
  refine L_ops ?_
  refine ol_new rfl rfl rfl (q_box ty25 rfl (cs := [iC .i64 n1, .p false (Sl.t r33 s2)]) rfl rfl) (fun k5 => ?_)
  refine ol_new rfl rfl rfl (q_alloc ty25 (row := [iC .i64 0, .p true (Sl.t r33 (⟨false, 0, []⟩ : Sl (Int × Int)))]) rfl rfl) (fun k6 => ?_)
  refine ol_end ?_
  refine E_seq ?_
  refine L_seq ?_
  refine L_ops ?_
  refine ol_put rfl rfl rfl (q_loadP (v := .agg [iC .i64 n1, .p false (Sl.t r33 s2)]) 1 rfl sz25 rfl rfl rfl rfl) ?_
  obtain ⟨⟨n8, s9⟩, h7, h⟩ := bindS h
  refine ol_putX rfl rfl rfl (q_callX (v := fun fr10 => .agg [iC .i64 n8, .p fr10 (Sl.t r33 s9)]) (args := [.agg [iC .i64 n1, .p false (Sl.t r33 s2)]]) (blend_sure_r (m + 0) h7) rfl rfl (vw_cons (vd_agg (vc_cons vc_v (vc_cons vc_s vc_nil))) vw_nil) rfl rfl (fun fr => rfl)) (fun fr10 => ?_)
  refine ol_wr rfl rfl (q_store (es' := [[iC .i64 n8, .p fr10 (Sl.t r33 s9)]]) 1 rfl rfl rfl sz25 rfl rfl rfl rfl rfl) rfl ?_
  refine ol_end ?_
  refine E_seq ?_
  refine L_seq ?_
  refine L_ops ?_
  refine ol_put rfl rfl rfl (q_fieldP rfl fa25_0 rfl) ?_
  refine ol_put rfl rfl rfl (q_loadP (v := .one (iC .i64 n8)) 1 rfl sz3 rfl rfl rfl rfl) ?_
  refine ol_put rfl rfl rfl (q_build (cs := [iC .i64 n8, .p true (Sl.t r33 (⟨false, 0, []⟩ : Sl (Int × Int)))]) ty25 rfl pl25 rfl) ?_
  refine ol_new rfl rfl rfl (q_alloc ty25 (row := [iC .i64 0, .p true (Sl.t r33 (⟨false, 0, []⟩ : Sl (Int × Int)))]) rfl rfl) (fun k11 => ?_)
  refine ol_wr rfl rfl (q_store (es' := [[iC .i64 n8, .p true (Sl.t r33 (⟨false, 0, []⟩ : Sl (Int × Int)))]]) 0 rfl rfl rfl sz25 rfl rfl rfl rfl rfl) rfl ?_
  refine ol_end ?_
  refine E_seq ?_
  refine L_seq ?_
  refine L_seq ?_
  refine L_ops ?_
  refine ol_put rfl rfl rfl (q_fieldP rfl fa25_1 rfl) ?_
  refine ol_put rfl rfl rfl (q_loadP (v := .one (.p fr10 (Sl.t r33 s9))) 2 rfl sz23 rfl rfl rfl rfl) ?_
  refine ol_put rfl rfl rfl (q_lenS rfl ty23 rfl rfl rfl rfl) ?_
  refine ol_put rfl rfl rfl (q_move (v := .one (iC .i64 0)) rfl) ?_
  refine ol_end ?_
  refine E_seq ?_
  refine L_block ?_
  refine L_addM (α := Int × Int) r33 2 ?_
  let S1 : (Bool × Int × (List (Int × Int))) → Nat → (Nat → D) → Nat → D := fun a kt g => ups g [(1, .one (.p false (Sl.t r54 s3))), (2, .one (bC a.1)), (6, .one (.ptr k6 0 0)), (7, .one (.ptr k11 0 0)), (16, .one (.p fr10 (Sl.t r33 s9))), (17, .one (iC .i64 ((s9.l.length : Nat) : Int))), (18, .one (iC .i64 a.2.1))]
  let SL1 : (Bool × Int × (List (Int × Int))) → Nat → BL := fun a kt => ([[(k6, 2, [[iC .i64 0, .p true (Sl.t r33 (⟨false, 0, []⟩ : Sl (Int × Int)))]])], [(k11, 2, [[iC .i64 n8, moC a.2.2 kt]])], moL r33 2 a.2.2 kt] : BL)
  let Sx1 : (List (Int × Int)) → Nat → (Nat → D) → Nat → D := fun a kt g => ups g [(6, .one (.ptr k6 0 0)), (7, .one (.ptr k11 0 0))]
  let SLx1 : (List (Int × Int)) → Nat → BL := fun a kt => ([[(k6, 2, [[iC .i64 0, .p true (Sl.t r33 (⟨false, 0, []⟩ : Sl (Int × Int)))]])], [(k11, 2, [[iC .i64 n8, moC a kt]])], moL r33 2 a kt] : BL)
  let G1 : (Int × (Sl (Int × Int))) → Ex → St → Prop := fun u => endQ E1 [.cell 6 25] (.fresh, [.agg (r24 u)])
  let J1 : ((List (Int × Int)) ⊕ (Int × (Sl (Int × Int)))) → Ex → St → Prop := JX 36 0 Sx1 SLx1 G1
  refine L_loopS (blend_Mask_b1 s3 s9) S1 SL1 J1 JX_n (b4, 0, ([] : List (Int × Int))) h 1063 (ups_self ⟨rfl, rfl, rfl, rfl, rfl, rfl, rfl, trivial⟩) [2, 1, 0] (by decide) rfl ?_ ?_
  · rintro ⟨b65, n66, l67⟩ k68 g out h
    change blend_Mask_b1 s3 s9 (b65, n66, l67) = some out at h
    unfold blend_Mask_b1 at h
    refine L_seq ?_
    refine L_ops ?_
    by_cases c69 : n66 < ((s9.l.length : Nat) : Int)
    · replace h := ifT c69 h
      refine ol_put rfl rfl rfl (q_bin rfl rfl (p_lss_t _ _ _ _ _ c69) rfl) ?_
      refine ol_end ?_
      refine E_seq ?_
      refine L_seq ?_
      refine L_condT rfl ?_
      refine L_skip ?_
      refine E_seq ?_
      refine L_seq ?_
      refine L_block ?_
      refine L_seq ?_
      refine L_ops ?_
      obtain ⟨⟨n72, n73⟩, h71, h⟩ := bindS h
      obtain ⟨h71a, h71b, h71⟩ := atS_some h71
      refine ol_put rfl rfl rfl (q_ixS rfl rfl h71a h71 (el23.trans (congrArg some h71b.symm))) ?_
      refine ol_put rfl rfl rfl (q_loadI (v := .agg [iC .i64 n72, iC .i64 n73]) rfl sz34 (map_get h71) rfl rfl) ?_
      refine ol_new rfl rfl rfl (q_alloc ty34 (row := [iC .i64 0, iC .i64 0]) rfl rfl) (fun k74 => ?_)
      refine ol_wr rfl rfl (q_store (es' := [[iC .i64 n72, iC .i64 n73]]) 0 rfl rfl rfl sz34 rfl rfl rfl rfl rfl) rfl ?_
      refine ol_end ?_
      refine E_seq ?_
      refine L_seq ?_
      refine L_ops ?_
      refine ol_put rfl rfl rfl (q_move (v := .one (.p false (Sl.t r54 s3))) rfl) ?_
      refine ol_put rfl rfl rfl (q_fieldP rfl fa34_0 rfl) ?_
      refine ol_put rfl rfl rfl (q_loadP (v := .one (iC .i64 n72)) 0 rfl sz3 rfl rfl rfl rfl) ?_
      obtain ⟨b76, h75, h⟩ := bindS h
      refine ol_put rfl rfl rfl (q_callF (v := .one (bC b76)) (args := [.one (.p false (Sl.t r54 s3)), .one (iC .i64 n72)]) (flags_Has_r (m + 1) h75) rfl rfl (vw_cons (vd_one vc_s) (vw_cons (vd_one vc_v) vw_nil)) rfl rfl) ?_
      refine ol_put rfl rfl rfl (q_move (v := .one (bC b65)) rfl) ?_
      rcases b76 with _ | _
      · replace h := ifF (by decide) h
        rcases b65 with _ | _
        · replace h := ifF (by decide) h
          refine ol_put rfl rfl rfl (q_binB rfl rfl (eqneqB4 _ _ _ _) rfl) ?_
          refine ol_end ?_
          refine E_seq ?_
          refine L_condF rfl ?_
          refine L_skip ?_
          refine E_blkN ?_
          refine E_seq ?_
          refine L_ops ?_
          refine ol_put rfl rfl rfl (q_bin rfl rfl (p_add _ _ _ _ _ _ _) rfl) ?_
          refine ol_put rfl rfl rfl (q_move (v := .one (iC .i64 (IntKind.i64.wrap (n66 + 1)))) rfl) ?_
          refine ol_end ?_
          obtain rfl := Option.some.inj h
          exact E_next k68 (ups_self ⟨rfl, rfl, rfl, rfl, rfl, rfl, rfl, trivial⟩) [1, 2, 3] (by decide) rfl
        · replace h := ifT (by decide) h
          refine ol_put rfl rfl rfl (q_binB rfl rfl (eqneqB4 _ _ _ _) rfl) ?_
          refine ol_end ?_
          refine E_seq ?_
          refine L_condT rfl ?_
          refine L_ops ?_
          refine ol_put rfl rfl rfl (q_fieldP rfl fa25_1 rfl) ?_
          refine ol_put rfl rfl rfl (q_loadP (v := .one (moC l67 k68)) 2 rfl sz23 rfl rfl rfl rfl) ?_
          refine ol_put rfl rfl rfl (q_loadP (v := .agg [iC .i64 n72, iC .i64 n73]) 0 rfl sz34 rfl rfl rfl rfl) ?_
          refine ol_new rfl rfl rfl (q_bslice (cs := [iC .i64 n72, iC .i64 n73]) (es := (([(n72, n73)] : List (Int × Int))).map (rowC r33)) ty23 rfl ty34 rfl rfl rfl rfl rfl) (fun k77 => ?_)
          obtain ⟨_, h78, h⟩ := bindS h
          obtain ⟨h78b, rfl⟩ := app_some h78
          refine ol_appM (r := r33) (l := l67) (ys := ([(n72, n73)] : List (Int × Int))) 4 rfl rfl rfl rfl rfl rfl (el_ownM (l := ([(n72, n73)] : List (Int × Int))) 0 rfl) rfl h78 (fun y => rfl) el23 ty23 rfl rfl rfl rfl rfl (fun k79 => ?_)
          refine ol_put rfl rfl rfl (q_fieldP rfl fa25_1 rfl) ?_
          refine ol_wr rfl rfl (q_store (es' := [[iC .i64 n8, moC (l67 ++ ([(n72, n73)] : List (Int × Int))) k79]]) 4 rfl rfl rfl sz23 rfl rfl rfl rfl rfl) rfl ?_
          refine ol_end ?_
          refine E_blkN ?_
          refine E_seq ?_
          refine L_ops ?_
          refine ol_put rfl rfl rfl (q_bin rfl rfl (p_add _ _ _ _ _ _ _) rfl) ?_
          refine ol_put rfl rfl rfl (q_move (v := .one (iC .i64 (IntKind.i64.wrap (n66 + 1)))) rfl) ?_
          refine ol_end ?_
          obtain rfl := Option.some.inj h
          exact E_next k79 (ups_self ⟨rfl, rfl, rfl, rfl, rfl, rfl, rfl, trivial⟩) [3, 4, 0] (by decide) rfl
      · replace h := ifT (by decide) h
        rcases b65 with _ | _
        · replace h := ifF (by decide) h
          refine ol_put rfl rfl rfl (q_binB rfl rfl (eqneqB4 _ _ _ _) rfl) ?_
          refine ol_end ?_
          refine E_seq ?_
          refine L_condT rfl ?_
          refine L_ops ?_
          refine ol_put rfl rfl rfl (q_fieldP rfl fa25_1 rfl) ?_
          refine ol_put rfl rfl rfl (q_loadP (v := .one (moC l67 k68)) 2 rfl sz23 rfl rfl rfl rfl) ?_
          refine ol_put rfl rfl rfl (q_loadP (v := .agg [iC .i64 n72, iC .i64 n73]) 0 rfl sz34 rfl rfl rfl rfl) ?_
          refine ol_new rfl rfl rfl (q_bslice (cs := [iC .i64 n72, iC .i64 n73]) (es := (([(n72, n73)] : List (Int × Int))).map (rowC r33)) ty23 rfl ty34 rfl rfl rfl rfl rfl) (fun k80 => ?_)
          obtain ⟨_, h81, h⟩ := bindS h
          obtain ⟨h81b, rfl⟩ := app_some h81
          refine ol_appM (r := r33) (l := l67) (ys := ([(n72, n73)] : List (Int × Int))) 4 rfl rfl rfl rfl rfl rfl (el_ownM (l := ([(n72, n73)] : List (Int × Int))) 0 rfl) rfl h81 (fun y => rfl) el23 ty23 rfl rfl rfl rfl rfl (fun k82 => ?_)
          refine ol_put rfl rfl rfl (q_fieldP rfl fa25_1 rfl) ?_
          refine ol_wr rfl rfl (q_store (es' := [[iC .i64 n8, moC (l67 ++ ([(n72, n73)] : List (Int × Int))) k82]]) 4 rfl rfl rfl sz23 rfl rfl rfl rfl rfl) rfl ?_
          refine ol_end ?_
          refine E_blkN ?_
          refine E_seq ?_
          refine L_ops ?_
          refine ol_put rfl rfl rfl (q_bin rfl rfl (p_add _ _ _ _ _ _ _) rfl) ?_
          refine ol_put rfl rfl rfl (q_move (v := .one (iC .i64 (IntKind.i64.wrap (n66 + 1)))) rfl) ?_
          refine ol_end ?_
          obtain rfl := Option.some.inj h
          exact E_next k82 (ups_self ⟨rfl, rfl, rfl, rfl, rfl, rfl, rfl, trivial⟩) [3, 4, 0] (by decide) rfl
        · replace h := ifT (by decide) h
          refine ol_put rfl rfl rfl (q_binB rfl rfl (eqneqB4 _ _ _ _) rfl) ?_
          refine ol_end ?_
          refine E_seq ?_
          refine L_condF rfl ?_
          refine L_skip ?_
          refine E_blkN ?_
          refine E_seq ?_
          refine L_ops ?_
          refine ol_put rfl rfl rfl (q_bin rfl rfl (p_add _ _ _ _ _ _ _) rfl) ?_
          refine ol_put rfl rfl rfl (q_move (v := .one (iC .i64 (IntKind.i64.wrap (n66 + 1)))) rfl) ?_
          refine ol_end ?_
          obtain rfl := Option.some.inj h
          exact E_next k68 (ups_self ⟨rfl, rfl, rfl, rfl, rfl, rfl, rfl, trivial⟩) [1, 2, 3] (by decide) rfl
    · replace h := ifF c69 h
      refine ol_put rfl rfl rfl (q_bin rfl rfl (p_lss_f _ _ _ _ _ c69) rfl) ?_
      refine ol_end ?_
      refine E_seq ?_
      refine L_seq ?_
      refine L_condF rfl ?_
      refine L_exit ?_
      refine E_seqX ?_
      obtain rfl := Option.some.inj h
      refine E_out ?_
      exact (E_exit k68 (ups_self ⟨rfl, rfl, trivial⟩) [0, 1, 2] (by decide) rfl)
  · rintro (l83 | u) h
    · refine J_x (fun k84 g => ?_)
      replace h := elimL h
      refine E_blkH ?_
      refine E_seq ?_
      refine L_seq ?_
      refine L_ops ?_
      refine ol_put rfl rfl rfl (q_loadP (v := .agg [iC .i64 n8, moC l83 k84]) 1 rfl sz25 rfl rfl rfl rfl) ?_
      refine ol_wr rfl rfl (q_store (es' := [[iC .i64 n8, moC l83 k84]]) 0 rfl rfl rfl sz25 rfl rfl rfl rfl rfl) rfl ?_
      refine ol_end ?_
      refine E_seq ?_
      refine L_ret ?_
      obtain rfl := Option.some.inj h
      exact E_endF (.inr rfl) (res_cell (d := .agg [iC .i64 n8, moC l83 k84]) 0 rfl sz25 rfl rfl rfl rfl res_nil) (vw_cons (vd_agg (vc_cons vc_v (vc_cons (vc_M (r := r33) 2 rfl (fun x h m => rfl)) vc_nil))) vw_nil) (fun h hb => own_agg) rfl rfl
    · obtain rfl := Option.some.inj (elimR h)
      exact J_up (fun s hs => hs)
end Ev
end Go.Proofs.Ytioagbejilllfaa
