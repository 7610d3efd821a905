/- Functions of the program as functions on data, and that they are. -/
import Derived.Test.YtioagbejilllfaaLf1
import Derived.Test.YtioagbejilllfaaLf6
import Derived.Test.YtioagbejilllfaaLy1
namespace Go.Proofs.Ytioagbejilllfaa
namespace Ev
open Go
set_option linter.unusedVariables false
set_option linter.unusedSimpArgs false
set_option maxRecDepth 100000
set_option maxHeartbeats 1000000
attribute [local irreducible] OpsL StL TnL WpL EndL
noncomputable def ref09_Of_b2 (s111 : Sl (Int × Int × Int)) (a : Int × (List (Int × Int))) : Option ((Int × (List (Int × Int))) ⊕ ((List (Int × Int)) ⊕ ((Int × (Sl (Int × Int))) × Int))) :=
  match a with
  | (n169, l170) => (if n169 < ((s111.l.length : Nat) : Int) then ((atS 3 s111 n169).bind fun (n187, n188, n189) => ((atS 3 s111 n169).bind fun (n192, n193, n194) => ((app l170 ([(n188, n194)] : List (Int × Int))).bind fun _ => some (.inl ((IntKind.i64.wrap (n169 + 1)), (l170 ++ ([(n188, n194)] : List (Int × Int)))))))) else some (.inr (.inl l170)))
noncomputable def ref09_Of_b1 (n2 : Int) (s3 : Sl (Int × Int)) (a : (List (Int × Int × Int)) × Int) : Option (((List (Int × Int × Int)) × Int) ⊕ ((List (Int × Int × Int)) ⊕ ((Int × (Sl (Int × Int))) × Int))) :=
  match a with
  | (l75, n76) => (if n76 < ((s3.l.length : Nat) : Int) then ((atS 2 s3 n76).bind fun (n81, n82) => (if n81 < 0 then some (.inr (.inr ((0, (⟨false, 0, []⟩ : Sl (Int × Int))), 3))) else ((atS 2 s3 n76).bind fun (n86, n87) => (if n86 ≥ n2 then some (.inr (.inr ((0, (⟨false, 0, []⟩ : Sl (Int × Int))), 3))) else ((atS 2 s3 n76).bind fun (n101, n102) => ((atS 2 s3 n76).bind fun (n105, n106) => ((app l75 ([(0, n101, n106)] : List (Int × Int × Int))).bind fun _ => some (.inl ((l75 ++ ([(0, n101, n106)] : List (Int × Int × Int))), (IntKind.i64.wrap (n76 + 1))))))))))) else some (.inr (.inl l75)))
noncomputable def ref09_Of (n1 : Int) (n2 : Int) (s3 : Sl (Int × Int)) : Option ((Int × (Sl (Int × Int))) × Int) :=
  ((ref02_Is n1).bind fun b6 => (if b6 = true then (if n2 < 0 then some ((0, (⟨false, 0, []⟩ : Sl (Int × Int))), 3) else (if n2 > 4096 then some ((0, (⟨false, 0, []⟩ : Sl (Int × Int))), 3) else ((loopO (ref09_Of_b1 n2 s3) (([] : List (Int × Int × Int)), 0)).bind (Sum.elim (fun l108 => ((ref05_Combine n1 (mo 3 l108)).bind fun (s111, n112) => (if n112 ≠ 0 then some ((0, (⟨false, 0, []⟩ : Sl (Int × Int))), n112) else ((loopO (ref09_Of_b2 s111) (0, ([] : List (Int × Int)))).bind (Sum.elim (fun l196 => some ((n2, (mo 2 l196)), 0)) (fun u => some u)))))) (fun u => some u))))) else some ((0, (⟨false, 0, []⟩ : Sl (Int × Int))), 8)))
theorem ref09_Of_r (m : Nat) {n1 : Int} {n2 : Int} {s3 : Sl (Int × Int)} {out : (Int × (Sl (Int × Int))) × Int} (h : ref09_Of n1 n2 s3 = some out) : RunsP E1 (m + 4) 53 [.one (iT .i64 n1), .one (iT .i64 n2), .one (Sl.t r33 s3)] (.fresh, [.agg (r24 out.1), .one (iT .i64 out.2)]) := by
  refine fn_F rfl (by rw [E1_fn]; exact show fiOf Try.prog 53 = _ by unfold fiOf; rw [Try.func53]; unfold Try.f53; rfl) rfl ?_
  dsimp only
  unfold ref09_Of at h
  refine L_seq ?_
  refine L_ops ?_
  refine ol_new rfl rfl rfl (q_alloc ty25 (row := [iC .i64 0, .p true (Sl.t r33 (⟨false, 0, []⟩ : Sl (Int × Int)))]) rfl rfl) (fun k4 => ?_)
  refine ol_put rfl rfl rfl (q_assign (v := .one (iC .i64 0)) rfl) ?_
  refine ol_end ?_
  refine E_seq ?_
  refine L_seq ?_
  refine L_seq ?_
  refine L_ops ?_
  refine ol_put rfl rfl rfl (q_move (v := .one (iC .i64 n1)) rfl) ?_
  obtain ⟨b6, h5, h⟩ := bindS h
  refine ol_put rfl rfl rfl (q_callF (v := .one (bC b6)) (args := [.one (iC .i64 n1)]) (ref02_Is_r (m + 2) h5) rfl rfl (vw_cons (vd_one vc_v) vw_nil) rfl rfl) ?_
  rcases b6 with _ | _
  · replace h := ifF (by decide) h
    refine ol_put rfl rfl rfl (q_not rfl) ?_
    refine ol_end ?_
    refine E_seq ?_
    refine L_condT rfl ?_
    refine L_seq ?_
    refine L_ops ?_
    refine ol_put rfl rfl rfl (q_build (cs := [iC .i64 0, .p true (Sl.t r33 (⟨false, 0, []⟩ : Sl (Int × Int)))]) ty25 rfl pl25 rfl) ?_
    refine ol_wr rfl rfl (q_store (es' := [[iC .i64 0, .p true (Sl.t r33 (⟨false, 0, []⟩ : Sl (Int × Int)))]]) 0 rfl rfl rfl sz25 rfl rfl rfl rfl rfl) rfl ?_
    refine ol_put rfl rfl rfl (q_assign (v := .one (iC .i64 8)) rfl) ?_
    refine ol_end ?_
    refine E_seq ?_
    refine L_ret ?_
    refine E_seqR ?_
    obtain rfl := Option.some.inj h
    exact E_endF (.inr rfl) (res_cell (d := .agg [iC .i64 0, .p true (Sl.t r33 (⟨false, 0, []⟩ : Sl (Int × Int)))]) 0 rfl sz25 rfl rfl rfl rfl (res_tmp rfl res_nil)) (vw_cons (vd_agg (vc_cons vc_v (vc_cons vc_s vc_nil))) (vw_cons (vd_one vc_v) vw_nil)) (fun h hb => own_no2) rfl rfl
  · replace h := ifT (by decide) h
    refine ol_put rfl rfl rfl (q_not rfl) ?_
    refine ol_end ?_
    refine E_seq ?_
    refine L_condF rfl ?_
    refine L_skip ?_
    refine E_seq ?_
    refine L_seq ?_
    refine L_seq ?_
    refine L_ops ?_
    refine ol_put rfl rfl rfl (q_move (v := .one (iC .i64 n2)) rfl) ?_
    by_cases c7 : n2 < 0
    · replace h := ifT c7 h
      refine ol_put rfl rfl rfl (q_bin rfl rfl (p_lss_t _ _ _ _ _ c7) rfl) ?_
      refine ol_put rfl rfl rfl (q_move (v := .one (bC true)) rfl) ?_
      refine ol_skip rfl rfl rfl ?_
      refine ol_skip rfl rfl rfl ?_
      refine ol_put rfl rfl rfl (q_pickT (v := .one (bC true)) rfl rfl) ?_
      refine ol_end ?_
      refine E_seq ?_
      refine L_condT rfl ?_
      refine L_seq ?_
      refine L_ops ?_
      refine ol_put rfl rfl rfl (q_build (cs := [iC .i64 0, .p true (Sl.t r33 (⟨false, 0, []⟩ : Sl (Int × Int)))]) ty25 rfl pl25 rfl) ?_
      refine ol_wr rfl rfl (q_store (es' := [[iC .i64 0, .p true (Sl.t r33 (⟨false, 0, []⟩ : Sl (Int × Int)))]]) 0 rfl rfl rfl sz25 rfl rfl rfl rfl rfl) rfl ?_
      refine ol_put rfl rfl rfl (q_assign (v := .one (iC .i64 3)) rfl) ?_
      refine ol_end ?_
      refine E_seq ?_
      refine L_ret ?_
      refine E_seqR ?_
      obtain rfl := Option.some.inj h
      exact E_endF (.inr rfl) (res_cell (d := .agg [iC .i64 0, .p true (Sl.t r33 (⟨false, 0, []⟩ : Sl (Int × Int)))]) 0 rfl sz25 rfl rfl rfl rfl (res_tmp rfl res_nil)) (vw_cons (vd_agg (vc_cons vc_v (vc_cons vc_s vc_nil))) (vw_cons (vd_one vc_v) vw_nil)) (fun h hb => own_no2) rfl rfl
    · replace h := ifF c7 h
      refine ol_put rfl rfl rfl (q_bin rfl rfl (p_lss_f _ _ _ _ _ c7) rfl) ?_
      refine ol_put rfl rfl rfl (q_move (v := .one (bC false)) rfl) ?_
      refine ol_put rfl rfl rfl (q_move (v := .one (iC .i64 n2)) rfl) ?_
      by_cases c8 : n2 > 4096
      · replace h := ifT c8 h
        refine ol_put rfl rfl rfl (q_bin rfl rfl (p_gtr_t _ _ _ _ _ c8) rfl) ?_
        refine ol_put rfl rfl rfl (q_pickF (v := .one (bC true)) rfl rfl) ?_
        refine ol_end ?_
        refine E_seq ?_
        refine L_condT rfl ?_
        refine L_seq ?_
        refine L_ops ?_
        refine ol_put rfl rfl rfl (q_build (cs := [iC .i64 0, .p true (Sl.t r33 (⟨false, 0, []⟩ : Sl (Int × Int)))]) ty25 rfl pl25 rfl) ?_
        refine ol_wr rfl rfl (q_store (es' := [[iC .i64 0, .p true (Sl.t r33 (⟨false, 0, []⟩ : Sl (Int × Int)))]]) 0 rfl rfl rfl sz25 rfl rfl rfl rfl rfl) rfl ?_
        refine ol_put rfl rfl rfl (q_assign (v := .one (iC .i64 3)) rfl) ?_
        refine ol_end ?_
        refine E_seq ?_
        refine L_ret ?_
        refine E_seqR ?_
        obtain rfl := Option.some.inj h
        exact E_endF (.inr rfl) (res_cell (d := .agg [iC .i64 0, .p true (Sl.t r33 (⟨false, 0, []⟩ : Sl (Int × Int)))]) 0 rfl sz25 rfl rfl rfl rfl (res_tmp rfl res_nil)) (vw_cons (vd_agg (vc_cons vc_v (vc_cons vc_s vc_nil))) (vw_cons (vd_one vc_v) vw_nil)) (fun h hb => own_no2) rfl rfl
      · replace h := ifF c8 h
        refine ol_put rfl rfl rfl (q_bin rfl rfl (p_gtr_f _ _ _ _ _ c8) rfl) ?_
        refine ol_put rfl rfl rfl (q_pickF (v := .one (bC false)) rfl rfl) ?_
        refine ol_end ?_
        refine E_seq ?_
        refine L_condF rfl ?_
        refine L_skip ?_
        refine E_seq ?_
        refine L_seq ?_
        refine L_ops ?_
        refine ol_put rfl rfl rfl (q_assign (v := .one (.p true (Sl.t r98 (⟨false, 0, []⟩ : Sl (Int × Int × Int))))) rfl) ?_
        refine ol_end ?_
        refine E_seq ?_
        refine L_seq ?_
        refine L_seq ?_
        refine L_ops ?_
        refine ol_put rfl rfl rfl (q_assign (v := .one (iC .i64 0)) rfl) ?_
        refine ol_end ?_
        refine E_seq ?_
        refine L_block ?_
        refine L_addM (α := Int × Int × Int) r98 3 ?_
        let S1 : ((List (Int × Int × Int)) × Int) → Nat → (Nat → D) → Nat → D := fun a kt g => ups g [(0, .one (iC .i64 n1)), (1, .one (iC .i64 n2)), (2, .one (.p false (Sl.t r33 s3))), (6, .one (.ptr k4 0 0)), (8, .one (moC a.1 kt)), (9, .one (iC .i64 a.2))]
        let SL1 : ((List (Int × Int × Int)) × Int) → Nat → BL := fun a kt => ([[(k4, 2, [[iC .i64 0, .p true (Sl.t r33 (⟨false, 0, []⟩ : Sl (Int × Int)))]])], moL r98 3 a.1 kt] : BL)
        let Sx1 : (List (Int × Int × Int)) → Nat → (Nat → D) → Nat → D := fun a kt g => ups g [(0, .one (iC .i64 n1)), (1, .one (iC .i64 n2)), (6, .one (.ptr k4 0 0)), (8, .one (moC a kt))]
        let SLx1 : (List (Int × Int × Int)) → Nat → BL := fun a kt => ([[(k4, 2, [[iC .i64 0, .p true (Sl.t r33 (⟨false, 0, []⟩ : Sl (Int × Int)))]])], moL r98 3 a kt] : BL)
        let G1 : ((Int × (Sl (Int × Int))) × Int) → Ex → St → Prop := fun u => endQ E1 [.cell 6 25, .tmp 7] (.fresh, [.agg (r24 u.1), .one (iT .i64 u.2)])
        let J1 : ((List (Int × Int × Int)) ⊕ ((Int × (Sl (Int × Int))) × Int)) → Ex → St → Prop := JX 95 0 Sx1 SLx1 G1
        refine L_loopS (ref09_Of_b1 n2 s3) S1 SL1 J1 JX_n (([] : List (Int × Int × Int)), 0) h 1073 (ups_self ⟨rfl, rfl, rfl, rfl, rfl, rfl, trivial⟩) [1, 0] (by decide) rfl ?_ ?_
        · rintro ⟨l75, n76⟩ k77 g out h
          change ref09_Of_b1 n2 s3 (l75, n76) = some out at h
          unfold ref09_Of_b1 at h
          refine L_seq ?_
          refine L_seq ?_
          refine L_ops ?_
          refine ol_put rfl rfl rfl (q_move (v := .one (iC .i64 n76)) rfl) ?_
          refine ol_put rfl rfl rfl (q_move (v := .one (.p false (Sl.t r33 s3))) rfl) ?_
          refine ol_put rfl rfl rfl (q_lenS rfl ty23 rfl rfl rfl rfl) ?_
          by_cases c78 : n76 < ((s3.l.length : Nat) : Int)
          · replace h := ifT c78 h
            refine ol_put rfl rfl rfl (q_bin rfl rfl (p_lss_t _ _ _ _ _ c78) rfl) ?_
            refine ol_end ?_
            refine E_seq ?_
            refine L_condT rfl ?_
            refine L_skip ?_
            refine E_seq ?_
            refine L_seq ?_
            refine L_block ?_
            refine L_seq ?_
            refine L_seq ?_
            refine L_ops ?_
            refine ol_put rfl rfl rfl (q_move (v := .one (.p false (Sl.t r33 s3))) rfl) ?_
            refine ol_put rfl rfl rfl (q_move (v := .one (iC .i64 n76)) rfl) ?_
            obtain ⟨⟨n81, n82⟩, h80, h⟩ := bindS h
            obtain ⟨h80a, h80b, h80⟩ := atS_some h80
            refine ol_put rfl rfl rfl (q_ixS rfl rfl h80a h80 (el23.trans (congrArg some h80b.symm))) ?_
            refine ol_put rfl rfl rfl (q_fieldI rfl fa34_0 rfl) ?_
            refine ol_put rfl rfl rfl (q_loadI (v := .one (iC .i64 n81)) rfl sz3 (map_get h80) rfl rfl) ?_
            by_cases c83 : n81 < 0
            · replace h := ifT c83 h
              refine ol_put rfl rfl rfl (q_bin rfl rfl (p_lss_t _ _ _ _ _ c83) rfl) ?_
              refine ol_put rfl rfl rfl (q_move (v := .one (bC true)) rfl) ?_
              refine ol_skip rfl rfl rfl ?_
              refine ol_skip rfl rfl rfl ?_
              refine ol_skip rfl rfl rfl ?_
              refine ol_skip rfl rfl rfl ?_
              refine ol_skip rfl rfl rfl ?_
              refine ol_skip rfl rfl rfl ?_
              refine ol_skip rfl rfl rfl ?_
              refine ol_put rfl rfl rfl (q_pickT (v := .one (bC true)) rfl rfl) ?_
              refine ol_end ?_
              refine E_seq ?_
              refine L_condT rfl ?_
              refine L_seq ?_
              refine L_ops ?_
              refine ol_put rfl rfl rfl (q_build (cs := [iC .i64 0, .p true (Sl.t r33 (⟨false, 0, []⟩ : Sl (Int × Int)))]) ty25 rfl pl25 rfl) ?_
              refine ol_wr rfl rfl (q_store (es' := [[iC .i64 0, .p true (Sl.t r33 (⟨false, 0, []⟩ : Sl (Int × Int)))]]) 0 rfl rfl rfl sz25 rfl rfl rfl rfl rfl) rfl ?_
              refine ol_put rfl rfl rfl (q_assign (v := .one (iC .i64 3)) rfl) ?_
              refine ol_end ?_
              refine E_seq ?_
              refine L_ret ?_
              refine E_seqR ?_
              refine E_blkR ?_
              refine E_seqR ?_
              obtain rfl := Option.some.inj h
              exact E_out (E_up (E_endF (.inr rfl) (res_cell (d := .agg [iC .i64 0, .p true (Sl.t r33 (⟨false, 0, []⟩ : Sl (Int × Int)))]) 0 rfl sz25 rfl rfl rfl rfl (res_tmp rfl res_nil)) (vw_cons (vd_agg (vc_cons vc_v (vc_cons vc_s vc_nil))) (vw_cons (vd_one vc_v) vw_nil)) (fun h hb => own_no2) rfl rfl))
            · replace h := ifF c83 h
              refine ol_put rfl rfl rfl (q_bin rfl rfl (p_lss_f _ _ _ _ _ c83) rfl) ?_
              refine ol_put rfl rfl rfl (q_move (v := .one (bC false)) rfl) ?_
              refine ol_put rfl rfl rfl (q_move (v := .one (.p false (Sl.t r33 s3))) rfl) ?_
              refine ol_put rfl rfl rfl (q_move (v := .one (iC .i64 n76)) rfl) ?_
              obtain ⟨⟨n86, n87⟩, h85, h⟩ := bindS h
              obtain ⟨h85a, h85b, h85⟩ := atS_some h85
              refine ol_put rfl rfl rfl (q_ixS rfl rfl h85a h85 (el23.trans (congrArg some h85b.symm))) ?_
              refine ol_put rfl rfl rfl (q_fieldI rfl fa34_0 rfl) ?_
              refine ol_put rfl rfl rfl (q_loadI (v := .one (iC .i64 n86)) rfl sz3 (map_get h85) rfl rfl) ?_
              refine ol_put rfl rfl rfl (q_move (v := .one (iC .i64 n2)) rfl) ?_
              by_cases c88 : n86 ≥ n2
              · replace h := ifT c88 h
                refine ol_put rfl rfl rfl (q_bin rfl rfl (p_geq_t _ _ _ _ _ c88) rfl) ?_
                refine ol_put rfl rfl rfl (q_pickF (v := .one (bC true)) rfl rfl) ?_
                refine ol_end ?_
                refine E_seq ?_
                refine L_condT rfl ?_
                refine L_seq ?_
                refine L_ops ?_
                refine ol_put rfl rfl rfl (q_build (cs := [iC .i64 0, .p true (Sl.t r33 (⟨false, 0, []⟩ : Sl (Int × Int)))]) ty25 rfl pl25 rfl) ?_
                refine ol_wr rfl rfl (q_store (es' := [[iC .i64 0, .p true (Sl.t r33 (⟨false, 0, []⟩ : Sl (Int × Int)))]]) 0 rfl rfl rfl sz25 rfl rfl rfl rfl rfl) rfl ?_
                refine ol_put rfl rfl rfl (q_assign (v := .one (iC .i64 3)) rfl) ?_
                refine ol_end ?_
                refine E_seq ?_
                refine L_ret ?_
                refine E_seqR ?_
                refine E_blkR ?_
                refine E_seqR ?_
                obtain rfl := Option.some.inj h
                exact E_out (E_up (E_endF (.inr rfl) (res_cell (d := .agg [iC .i64 0, .p true (Sl.t r33 (⟨false, 0, []⟩ : Sl (Int × Int)))]) 0 rfl sz25 rfl rfl rfl rfl (res_tmp rfl res_nil)) (vw_cons (vd_agg (vc_cons vc_v (vc_cons vc_s vc_nil))) (vw_cons (vd_one vc_v) vw_nil)) (fun h hb => own_no2) rfl rfl))
              · replace h := ifF c88 h
                refine ol_put rfl rfl rfl (q_bin rfl rfl (p_geq_f _ _ _ _ _ c88) rfl) ?_
                refine ol_put rfl rfl rfl (q_pickF (v := .one (bC false)) rfl rfl) ?_
                refine ol_end ?_
                refine E_seq ?_
                refine L_condF rfl ?_
                refine L_skip ?_
                refine E_seq ?_
                refine L_norm (L2 := ([[(k4, 2, [[iC .i64 0, .p true (Sl.t r33 (⟨false, 0, []⟩ : Sl (Int × Int)))]])], moL r98 3 l75 k77] : BL)) [0, 1] (by decide) rfl ?_
                refine L_turn 15 rfl [[], [], [], [], [], [], [], [], [], [], [], [], [], moK l75 k77, []] [(false, []), (false, []), (false, []), (false, []), (false, []), (false, []), (false, []), (false, []), (false, []), (false, []), (false, []), (false, []), (true, []), (true, []), (false, [])] [[1, 2, 3, 4, 5, 6, 7, 8, 9, 10, 11, 12], [0, 2, 6, 7, 8, 9, 10], [0, 1, 6, 7, 8, 9, 10], [0, 6, 7, 8, 9, 10], [0, 6, 7, 8, 9, 10], [0, 6, 7, 8, 9, 10], [0, 1, 2, 3, 4, 5, 7], [0, 1, 2, 3, 4, 5, 6], [0, 1, 2, 3, 4, 5], [0, 1, 2, 3, 4, 5], [0, 1, 2, 3, 4, 5], [0], [0], [], []] (by kernel_rfl) (by kernel_rfl) (by kernel_rfl) ?_ (fun bb89 hlt hnd => ?_)
                · intro bb89 hlt hnd
                  have e_k4 : k4 < bb89 := key_lt hlt 0 rfl
                  have e_k77 : l75 = [] ∨ k77 < bb89 := key_ltM (r := r98) (w := 3) hlt 1 rfl
                  have f_k77 := moK_lt e_k77
                  have d_k77_k4 : k4 ∉ moK l75 k77 := key_neM (r := r98) (w := 3) hnd 1 0 rfl rfl rfl
                  have g_k77_k4 := moK_ne d_k77_k4
                  exact ⟨(by first | (simp; done) | (simp; omega) | (simp; assumption) | (simp_all; done) | (simp_all; omega)), (by first | (simp; done) | (simp; omega) | (simp; assumption) | (simp_all; done) | (simp_all; omega))⟩
                have e_k4 : k4 < bb89 := key_lt hlt 0 rfl
                have e_k77 : l75 = [] ∨ k77 < bb89 := key_ltM (r := r98) (w := 3) hlt 1 rfl
                have f_k77 := moK_lt e_k77
                have d_k77_k4 : k4 ∉ moK l75 k77 := key_neM (r := r98) (w := 3) hnd 1 0 rfl rfl rfl
                have g_k77_k4 := moK_ne d_k77_k4
                clear hlt hnd
                refine tn_put rfl rfl rfl [] (by decide) rfl hmn rfl (q_move (v := .one (moC l75 k77)) rfl) ?_
                refine tn_put rfl rfl rfl [] (by decide) rfl (hm0 rfl) rfl (q_move (v := .one (.p false (Sl.t r33 s3))) rfl) ?_
                refine tn_put rfl rfl rfl [] (by decide) rfl (hm0 rfl) rfl (q_move (v := .one (iC .i64 n76)) rfl) ?_
                obtain ⟨⟨n101, n102⟩, h100, h⟩ := bindS h
                obtain ⟨h100a, h100b, h100⟩ := atS_some h100
                refine tn_put rfl rfl rfl [] (by decide) rfl (hm0 rfl) rfl (q_ixS rfl rfl h100a h100 (el23.trans (congrArg some h100b.symm))) ?_
                refine tn_put rfl rfl rfl [] (by decide) rfl (hm0 rfl) rfl (q_fieldI rfl fa34_0 rfl) ?_
                refine tn_put rfl rfl rfl [] (by decide) rfl (hm0 rfl) rfl (q_loadI (v := .one (iC .i64 n101)) rfl sz3 (map_get h100) rfl rfl) ?_
                refine tn_put rfl rfl rfl [] (by decide) rfl (hm0 rfl) rfl (q_move (v := .one (.p false (Sl.t r33 s3))) rfl) ?_
                refine tn_put rfl rfl rfl [] (by decide) rfl (hm0 rfl) rfl (q_move (v := .one (iC .i64 n76)) rfl) ?_
                obtain ⟨⟨n105, n106⟩, h104, h⟩ := bindS h
                obtain ⟨h104a, h104b, h104⟩ := atS_some h104
                refine tn_put rfl rfl rfl [] (by decide) rfl (hm0 rfl) rfl (q_ixS rfl rfl h104a h104 (el23.trans (congrArg some h104b.symm))) ?_
                refine tn_put rfl rfl rfl [] (by decide) rfl (hm0 rfl) rfl (q_fieldI rfl fa34_1 rfl) ?_
                refine tn_put rfl rfl rfl [] (by decide) rfl (hm0 rfl) rfl (q_loadI (v := .one (iC .i64 n106)) rfl sz2 (map_get h104) rfl rfl) ?_
                refine tn_put rfl rfl rfl [] (by decide) rfl (hm0 rfl) rfl (q_build (cs := [iC .i64 0, iC .i64 n101, iC .i64 n106]) ty99 rfl pl99 rfl) ?_
                refine tn_new rfl rfl rfl [] (by decide) rfl (hm0 rfl) rfl rfl (hkc (by omega) (hkM (e_k77.imp id fun h => by omega) hkn)) (q_bslice (cs := [iC .i64 0, iC .i64 n101, iC .i64 n106]) (es := (([(0, n101, n106)] : List (Int × Int × Int))).map (rowC r98)) ty97 rfl ty99 rfl rfl rfl rfl rfl) ?_
                obtain ⟨_, h107, h⟩ := bindS h
                obtain ⟨h107b, rfl⟩ := app_some h107
                refine tn_appM (r := r98) (l := l75) 0 2 rfl rfl rfl rfl [2, 0] (by decide) rfl (hm0 rfl) rfl rfl (hkc (by omega) (hkc (by omega) (hkM (e_k77.imp id fun h => by omega) hkn))) rfl rfl (el_ownM (l := ([(0, n101, n106)] : List (Int × Int × Int))) 1 rfl) rfl rfl h107 (fun y => rfl) el97 ty97 rfl rfl rfl rfl rfl ?_
                refine tn_put rfl rfl rfl [] (by decide) rfl (hm0 rfl) rfl (q_assign (v := .one (moC (l75 ++ ([(0, n101, n106)] : List (Int × Int × Int))) (bb89 + 13))) rfl) ?_
                refine tn_end ?_
                refine E_blkN ?_
                refine E_seq ?_
                refine L_ops ?_
                refine ol_put rfl rfl rfl (q_move (v := .one (iC .i64 n76)) rfl) ?_
                refine ol_put rfl rfl rfl (q_bin rfl rfl (p_add _ _ _ _ _ _ _) rfl) ?_
                refine ol_put rfl rfl rfl (q_assign (v := .one (iC .i64 (IntKind.i64.wrap (n76 + 1)))) rfl) ?_
                refine ol_end ?_
                obtain rfl := Option.some.inj h
                exact E_next (bb89 + 13) (ups_self ⟨rfl, rfl, rfl, rfl, rfl, rfl, trivial⟩) [2, 0] (by decide) rfl
          · replace h := ifF c78 h
            refine ol_put rfl rfl rfl (q_bin rfl rfl (p_lss_f _ _ _ _ _ c78) rfl) ?_
            refine ol_end ?_
            refine E_seq ?_
            refine L_condF rfl ?_
            refine L_exit ?_
            refine E_seqX ?_
            obtain rfl := Option.some.inj h
            refine E_out ?_
            exact (E_exit k77 (ups_self ⟨rfl, rfl, rfl, rfl, trivial⟩) [0, 1] (by decide) rfl)
        · rintro (l108 | u) h
          · refine J_x (fun k109 g => ?_)
            replace h := elimL h
            refine E_blkH ?_
            refine E_seq ?_
            refine L_seq ?_
            refine L_ops ?_
            refine ol_put rfl rfl rfl (q_move (v := .one (iC .i64 n1)) rfl) ?_
            refine ol_put rfl rfl rfl (q_move (v := .one (moC l108 k109)) rfl) ?_
            obtain ⟨⟨s111, n112⟩, h110, h⟩ := bindS h
            refine ol_put rfl rfl rfl (q_callF (v := .tup [.one (.p true (Sl.t r98 s111)), .one (iC .i64 n112)]) (args := [.one (iC .i64 n1), .one (moC l108 k109)]) (ref05_Combine_r (m + 0) h110) rfl rfl (vw_cons (vd_one vc_v) (vw_cons (vd_one (vc_M (r := r98) 1 rfl (fun x h m => rfl))) vw_nil)) rfl rfl) ?_
            refine ol_put rfl rfl rfl (q_move (v := .tup [.one (.p true (Sl.t r98 s111)), .one (iC .i64 n112)]) rfl) ?_
            refine ol_put rfl rfl rfl (q_ext (v := .one (.p true (Sl.t r98 s111))) rfl rfl) ?_
            refine ol_put rfl rfl rfl (q_ext (v := .one (iC .i64 n112)) rfl rfl) ?_
            refine ol_put rfl rfl rfl (q_assign (v := .one (.p true (Sl.t r98 s111))) rfl) ?_
            refine ol_put rfl rfl rfl (q_assign (v := .one (iC .i64 n112)) rfl) ?_
            refine ol_end ?_
            refine E_seq ?_
            refine L_seq ?_
            refine L_seq ?_
            refine L_ops ?_
            refine ol_put rfl rfl rfl (q_move (v := .one (iC .i64 n112)) rfl) ?_
            by_cases c113 : n112 ≠ 0
            · replace h := ifT c113 h
              refine ol_put rfl rfl rfl (q_bin rfl rfl (p_neq_t _ _ _ _ _ c113) rfl) ?_
              refine ol_end ?_
              refine E_seq ?_
              refine L_condT rfl ?_
              refine L_seq ?_
              refine L_ops ?_
              refine ol_put rfl rfl rfl (q_build (cs := [iC .i64 0, .p true (Sl.t r33 (⟨false, 0, []⟩ : Sl (Int × Int)))]) ty25 rfl pl25 rfl) ?_
              refine ol_put rfl rfl rfl (q_move (v := .one (iC .i64 n112)) rfl) ?_
              refine ol_wr rfl rfl (q_store (es' := [[iC .i64 0, .p true (Sl.t r33 (⟨false, 0, []⟩ : Sl (Int × Int)))]]) 0 rfl rfl rfl sz25 rfl rfl rfl rfl rfl) rfl ?_
              refine ol_put rfl rfl rfl (q_assign (v := .one (iC .i64 n112)) rfl) ?_
              refine ol_end ?_
              refine E_seq ?_
              refine L_ret ?_
              refine E_seqR ?_
              obtain rfl := Option.some.inj h
              exact E_endF (.inr rfl) (res_cell (d := .agg [iC .i64 0, .p true (Sl.t r33 (⟨false, 0, []⟩ : Sl (Int × Int)))]) 0 rfl sz25 rfl rfl rfl rfl (res_tmp rfl res_nil)) (vw_cons (vd_agg (vc_cons vc_v (vc_cons vc_s vc_nil))) (vw_cons (vd_one vc_v) vw_nil)) (fun h hb => own_no2) rfl rfl
            · replace h := ifF c113 h
              refine ol_put rfl rfl rfl (q_bin rfl rfl (p_neq_f _ _ _ _ _ c113) rfl) ?_
              refine ol_end ?_
              refine E_seq ?_
              refine L_condF rfl ?_
              refine L_skip ?_
              refine E_seq ?_
              refine L_seq ?_
              refine L_ops ?_
              refine ol_put rfl rfl rfl (q_move (v := .one (iC .i64 n2)) rfl) ?_
              refine ol_put rfl rfl rfl (q_build (cs := [iC .i64 n2, .p true (Sl.t r33 (⟨false, 0, []⟩ : Sl (Int × Int)))]) ty25 rfl pl25 rfl) ?_
              refine ol_new rfl rfl rfl (q_alloc ty25 (row := [iC .i64 0, .p true (Sl.t r33 (⟨false, 0, []⟩ : Sl (Int × Int)))]) rfl rfl) (fun k114 => ?_)
              refine ol_wr rfl rfl (q_store (es' := [[iC .i64 n2, .p true (Sl.t r33 (⟨false, 0, []⟩ : Sl (Int × Int)))]]) 0 rfl rfl rfl sz25 rfl rfl rfl rfl rfl) rfl ?_
              refine ol_end ?_
              refine E_seq ?_
              refine L_seq ?_
              refine L_seq ?_
              refine L_ops ?_
              refine ol_put rfl rfl rfl (q_assign (v := .one (iC .i64 0)) rfl) ?_
              refine ol_end ?_
              refine E_seq ?_
              refine L_block ?_
              refine L_addM (α := Int × Int) r33 2 ?_
              let S2 : (Int × (List (Int × Int))) → Nat → (Nat → D) → Nat → D := fun a kt g => ups g [(6, .one (.ptr k4 0 0)), (8, .one (.p true (Sl.t r98 s111))), (11, .one (.ptr k114 0 0)), (12, .one (iC .i64 a.1))]
              let SL2 : (Int × (List (Int × Int))) → Nat → BL := fun a kt => ([[(k4, 2, [[iC .i64 0, .p true (Sl.t r33 (⟨false, 0, []⟩ : Sl (Int × Int)))]])], [(k114, 2, [[iC .i64 n2, moC a.2 kt]])], moL r33 2 a.2 kt] : BL)
              let Sx2 : (List (Int × Int)) → Nat → (Nat → D) → Nat → D := fun a kt g => ups g [(6, .one (.ptr k4 0 0)), (11, .one (.ptr k114 0 0))]
              let SLx2 : (List (Int × Int)) → Nat → BL := fun a kt => ([[(k4, 2, [[iC .i64 0, .p true (Sl.t r33 (⟨false, 0, []⟩ : Sl (Int × Int)))]])], [(k114, 2, [[iC .i64 n2, moC a kt]])], moL r33 2 a kt] : BL)
              let G2 : ((Int × (Sl (Int × Int))) × Int) → Ex → St → Prop := fun u => endQ E1 [.cell 6 25, .tmp 7] (.fresh, [.agg (r24 u.1), .one (iT .i64 u.2)])
              let J2 : ((List (Int × Int)) ⊕ ((Int × (Sl (Int × Int))) × Int)) → Ex → St → Prop := JX 95 2 Sx2 SLx2 G2
              refine L_loopS (ref09_Of_b2 s111) S2 SL2 J2 JX_n (0, ([] : List (Int × Int))) h 1167 (ups_self ⟨rfl, rfl, rfl, rfl, trivial⟩) [2, 1, 0] (by decide) rfl ?_ ?_
              · rintro ⟨n169, l170⟩ k171 g out h
                change ref09_Of_b2 s111 (n169, l170) = some out at h
                unfold ref09_Of_b2 at h
                refine L_seq ?_
                refine L_seq ?_
                refine L_ops ?_
                refine ol_put rfl rfl rfl (q_move (v := .one (iC .i64 n169)) rfl) ?_
                refine ol_put rfl rfl rfl (q_move (v := .one (.p true (Sl.t r98 s111))) rfl) ?_
                refine ol_put rfl rfl rfl (q_lenS rfl ty97 rfl rfl rfl rfl) ?_
                by_cases c172 : n169 < ((s111.l.length : Nat) : Int)
                · replace h := ifT c172 h
                  refine ol_put rfl rfl rfl (q_bin rfl rfl (p_lss_t _ _ _ _ _ c172) rfl) ?_
                  refine ol_end ?_
                  refine E_seq ?_
                  refine L_condT rfl ?_
                  refine L_skip ?_
                  refine E_seq ?_
                  refine L_seq ?_
                  refine L_block ?_
                  refine L_norm (L2 := ([[(k4, 2, [[iC .i64 0, .p true (Sl.t r33 (⟨false, 0, []⟩ : Sl (Int × Int)))]])], [(k114, 2, [[iC .i64 n2, moC l170 k171]])], moL r33 2 l170 k171] : BL)) [0, 1, 2] (by decide) rfl ?_
                  refine L_turn 17 rfl [[], [], [], [], [], [], [], [], [], [], [], [], [], [], moK l170 k171, [], [k114]] [(false, []), (false, []), (false, []), (false, []), (false, []), (false, []), (false, []), (false, []), (false, []), (false, []), (false, []), (false, []), (false, []), (true, []), (true, []), (false, []), (false, [])] [[2, 3, 4, 5, 6, 7, 8, 9, 10, 11, 12, 13], [2, 3, 4, 5, 6, 7, 8, 9, 10, 11, 12, 13], [0, 1, 3, 7, 8, 9, 10, 11], [0, 1, 2, 7, 8, 9, 10, 11], [0, 1, 7, 8, 9, 10, 11], [0, 1, 7, 8, 9, 10, 11], [0, 1, 7, 8, 9, 10, 11], [0, 1, 2, 3, 4, 5, 6, 8], [0, 1, 2, 3, 4, 5, 6, 7], [0, 1, 2, 3, 4, 5, 6], [0, 1, 2, 3, 4, 5, 6], [0, 1, 2, 3, 4, 5, 6], [0, 1], [0, 1], [], [], []] (by kernel_rfl) (by kernel_rfl) (by kernel_rfl) ?_ (fun bb173 hlt hnd => ?_)
                  · intro bb173 hlt hnd
                    have e_k4 : k4 < bb173 := key_lt hlt 0 rfl
                    have e_k114 : k114 < bb173 := key_lt hlt 1 rfl
                    have e_k171 : l170 = [] ∨ k171 < bb173 := key_ltM (r := r33) (w := 2) hlt 2 rfl
                    have f_k171 := moK_lt e_k171
                    have d_k114_k4 : k114 ≠ k4 := key_ne hnd 1 0 rfl rfl rfl
                    have d_k171_k4 : k4 ∉ moK l170 k171 := key_neM (r := r33) (w := 2) hnd 2 0 rfl rfl rfl
                    have g_k171_k4 := moK_ne d_k171_k4
                    have d_k171_k114 : k114 ∉ moK l170 k171 := key_neM (r := r33) (w := 2) hnd 2 1 rfl rfl rfl
                    have g_k171_k114 := moK_ne d_k171_k114
                    exact ⟨(by first | (simp; done) | (simp; omega) | (simp; assumption) | (simp_all; done) | (simp_all; omega)), (by first | (simp; done) | (simp; omega) | (simp; assumption) | (simp_all; done) | (simp_all; omega))⟩
                  have e_k4 : k4 < bb173 := key_lt hlt 0 rfl
                  have e_k114 : k114 < bb173 := key_lt hlt 1 rfl
                  have e_k171 : l170 = [] ∨ k171 < bb173 := key_ltM (r := r33) (w := 2) hlt 2 rfl
                  have f_k171 := moK_lt e_k171
                  have d_k114_k4 : k114 ≠ k4 := key_ne hnd 1 0 rfl rfl rfl
                  have d_k171_k4 : k4 ∉ moK l170 k171 := key_neM (r := r33) (w := 2) hnd 2 0 rfl rfl rfl
                  have g_k171_k4 := moK_ne d_k171_k4
                  have d_k171_k114 : k114 ∉ moK l170 k171 := key_neM (r := r33) (w := 2) hnd 2 1 rfl rfl rfl
                  have g_k171_k114 := moK_ne d_k171_k114
                  clear hlt hnd
                  refine tn_put rfl rfl rfl [] (by decide) rfl hmn rfl (q_fieldP rfl fa25_1 rfl) ?_
                  refine tn_put rfl rfl rfl [1] (by decide) rfl (hmc (by first | (simp [turnsOf]; done) | (simp [turnsOf]; omega) | (simp [turnsOf]; assumption) | (simp_all [turnsOf]; done) | (simp_all [turnsOf]; omega)) hmn) rfl (q_loadP (v := .one (moC l170 k171)) 0 rfl sz23 rfl rfl rfl rfl) ?_
                  refine tn_put rfl rfl rfl [] (by decide) rfl (hm0 rfl) rfl (q_move (v := .one (.p true (Sl.t r98 s111))) rfl) ?_
                  refine tn_put rfl rfl rfl [] (by decide) rfl (hm0 rfl) rfl (q_move (v := .one (iC .i64 n169)) rfl) ?_
                  obtain ⟨⟨n187, n188, n189⟩, h186, h⟩ := bindS h
                  obtain ⟨h186a, h186b, h186⟩ := atS_some h186
                  refine tn_put rfl rfl rfl [] (by decide) rfl (hm0 rfl) rfl (q_ixS rfl rfl h186a h186 (el97.trans (congrArg some h186b.symm))) ?_
                  refine tn_put rfl rfl rfl [] (by decide) rfl (hm0 rfl) rfl (q_fieldI rfl fa99_1 rfl) ?_
                  refine tn_put rfl rfl rfl [] (by decide) rfl (hm0 rfl) rfl (q_loadI (v := .one (iC .i64 n188)) rfl sz3 (map_get h186) rfl rfl) ?_
                  refine tn_put rfl rfl rfl [] (by decide) rfl (hm0 rfl) rfl (q_move (v := .one (.p true (Sl.t r98 s111))) rfl) ?_
                  refine tn_put rfl rfl rfl [] (by decide) rfl (hm0 rfl) rfl (q_move (v := .one (iC .i64 n169)) rfl) ?_
                  obtain ⟨⟨n192, n193, n194⟩, h191, h⟩ := bindS h
                  obtain ⟨h191a, h191b, h191⟩ := atS_some h191
                  refine tn_put rfl rfl rfl [] (by decide) rfl (hm0 rfl) rfl (q_ixS rfl rfl h191a h191 (el97.trans (congrArg some h191b.symm))) ?_
                  refine tn_put rfl rfl rfl [] (by decide) rfl (hm0 rfl) rfl (q_fieldI rfl fa99_2 rfl) ?_
                  refine tn_put rfl rfl rfl [] (by decide) rfl (hm0 rfl) rfl (q_loadI (v := .one (iC .i64 n194)) rfl sz2 (map_get h191) rfl rfl) ?_
                  refine tn_put rfl rfl rfl [] (by decide) rfl (hm0 rfl) rfl (q_build (cs := [iC .i64 n188, iC .i64 n194]) ty34 rfl pl34 rfl) ?_
                  refine tn_new rfl rfl rfl [] (by decide) rfl (hm0 rfl) rfl rfl (hkc (by omega) (hkc (by omega) (hkM (e_k171.imp id fun h => by omega) hkn))) (q_bslice (cs := [iC .i64 n188, iC .i64 n194]) (es := (([(n188, n194)] : List (Int × Int))).map (rowC r33)) ty23 rfl ty34 rfl rfl rfl rfl rfl) ?_
                  obtain ⟨_, h195, h⟩ := bindS h
                  obtain ⟨h195b, rfl⟩ := app_some h195
                  refine tn_appM (r := r33) (l := l170) 0 3 rfl rfl rfl rfl [3, 0] (by decide) rfl (hm0 rfl) rfl rfl (hkc (by omega) (hkc (by omega) (hkc (by omega) (hkM (e_k171.imp id fun h => by omega) hkn)))) rfl rfl (el_ownM (l := ([(n188, n194)] : List (Int × Int))) 1 rfl) rfl rfl h195 (fun y => rfl) el23 ty23 rfl rfl rfl rfl rfl ?_
                  refine tn_put rfl rfl rfl [] (by decide) rfl (hm0 rfl) rfl (q_fieldP rfl fa25_1 rfl) ?_
                  refine tn_wr rfl rfl [3] (by decide) rfl (hm0 rfl) rfl (q_store (es' := [[iC .i64 n2, moC (l170 ++ ([(n188, n194)] : List (Int × Int))) (bb173 + 14)]]) 0 rfl rfl rfl sz23 rfl rfl rfl rfl rfl) (q := 3) rfl rfl ?_
                  refine tn_end ?_
                  refine E_blkN ?_
                  refine E_seq ?_
                  refine L_ops ?_
                  refine ol_put rfl rfl rfl (q_move (v := .one (iC .i64 n169)) rfl) ?_
                  refine ol_put rfl rfl rfl (q_bin rfl rfl (p_add _ _ _ _ _ _ _) rfl) ?_
                  refine ol_put rfl rfl rfl (q_assign (v := .one (iC .i64 (IntKind.i64.wrap (n169 + 1)))) rfl) ?_
                  refine ol_end ?_
                  obtain rfl := Option.some.inj h
                  exact E_next (bb173 + 14) (ups_self ⟨rfl, rfl, rfl, rfl, trivial⟩) [2, 3, 0] (by decide) rfl
                · replace h := ifF c172 h
                  refine ol_put rfl rfl rfl (q_bin rfl rfl (p_lss_f _ _ _ _ _ c172) rfl) ?_
                  refine ol_end ?_
                  refine E_seq ?_
                  refine L_condF rfl ?_
                  refine L_exit ?_
                  refine E_seqX ?_
                  obtain rfl := Option.some.inj h
                  refine E_out ?_
                  exact (E_exit k171 (ups_self ⟨rfl, rfl, trivial⟩) [0, 1, 2] (by decide) rfl)
              · rintro (l196 | u) h
                · refine J_x (fun k197 g => ?_)
                  replace h := elimL h
                  refine E_blkH ?_
                  refine E_seq ?_
                  refine L_seq ?_
                  refine L_ops ?_
                  refine ol_put rfl rfl rfl (q_loadP (v := .agg [iC .i64 n2, moC l196 k197]) 1 rfl sz25 rfl rfl rfl rfl) ?_
                  refine ol_wr rfl rfl (q_store (es' := [[iC .i64 n2, moC l196 k197]]) 0 rfl rfl rfl sz25 rfl rfl rfl rfl rfl) rfl ?_
                  refine ol_put rfl rfl rfl (q_assign (v := .one (iC .i64 0)) rfl) ?_
                  refine ol_end ?_
                  refine E_seq ?_
                  refine L_ret ?_
                  obtain rfl := Option.some.inj h
                  exact E_endF (.inr rfl) (res_cell (d := .agg [iC .i64 n2, moC l196 k197]) 0 rfl sz25 rfl rfl rfl rfl (res_tmp rfl res_nil)) (vw_cons (vd_agg (vc_cons vc_v (vc_cons (vc_M (r := r33) 2 rfl (fun x h m => rfl)) vc_nil))) (vw_cons (vd_one vc_v) vw_nil)) (fun h hb => own_no2) rfl rfl
                · obtain rfl := Option.some.inj (elimR h)
                  exact J_up (fun s hs => hs)
          · obtain rfl := Option.some.inj (elimR h)
            exact J_up (fun s hs => hs)

noncomputable def law09_Some_b1 (s2 : Sl (Int × Int)) (n4 : Int) (a : (List (Int × Int)) × Int) : Option (((List (Int × Int)) × Int) ⊕ ((List (Int × Int)) ⊕ (Int × (Sl (Int × Int))))) :=
  match a with
  | (l74, n75) => (if n75 < ((s2.l.length : Nat) : Int) then (if n75 < 60 then (if n4 > 0 then ((atS 2 s2 n75).bind fun (n82, n83) => (if n82 ≥ 0 then ((atS 2 s2 n75).bind fun (n99, n100) => ((modO n99 n4).bind fun n101 => ((atS 2 s2 n75).bind fun (n105, n106) => ((app l74 ([(n101, n106)] : List (Int × Int))).bind fun _ => some (.inl ((l74 ++ ([(n101, n106)] : List (Int × Int))), (IntKind.i64.wrap (n75 + 1)))))))) else some (.inl (l74, (IntKind.i64.wrap (n75 + 1)))))) else some (.inr (.inl l74))) else some (.inr (.inl l74))) else some (.inr (.inl l74)))
noncomputable def law09_Some (n1 : Int) (s2 : Sl (Int × Int)) : Option ((Int × (Sl (Int × Int)))) :=
  ((modO (IntKind.i64.wrap n1) 60).bind fun n4 => ((loopO (law09_Some_b1 s2 n4) (([] : List (Int × Int)), 0)).bind (Sum.elim (fun l108 => ((ref09_Of 1 n4 (mo 2 l108)).bind fun ((n111, s112), n113) => some (n111, s112))) (fun u => some u))))
theorem law09_Some_r (m : Nat) {n1 : Int} {s2 : Sl (Int × Int)} {out : (Int × (Sl (Int × Int)))} (h : law09_Some n1 s2 = some out) : RunsP E1 (m + 5) 25 [.one (iT .u8 n1), .one (Sl.t r33 s2)] (.fresh, [.agg (r24 out)]) := by
  refine fn_F rfl (by rw [E1_fn]; exact show fiOf Try.prog 25 = _ by unfold fiOf; rw [Try.func25]; unfold Try.f25; rfl) rfl ?_
  dsimp only
  unfold law09_Some at h
  refine L_seq ?_
  refine L_ops ?_
  refine ol_new rfl rfl rfl (q_alloc ty25 (row := [iC .i64 0, .p true (Sl.t r33 (⟨false, 0, []⟩ : Sl (Int × Int)))]) rfl rfl) (fun k3 => ?_)
  refine ol_end ?_
  refine E_seq ?_
  refine L_seq ?_
  refine L_ops ?_
  refine ol_put rfl rfl rfl (q_move (v := .one (iC .u8 n1)) rfl) ?_
  refine ol_put rfl rfl rfl (q_conv rfl (cv5_3_u8 _) rfl) ?_
  obtain ⟨n4, h5, h⟩ := bindS h
  refine ol_put rfl rfl rfl (q_bin rfl rfl (modO_p h5) rfl) ?_
  refine ol_put rfl rfl rfl (q_assign (v := .one (iC .i64 n4)) rfl) ?_
  refine ol_end ?_
  refine E_seq ?_
  refine L_seq ?_
  refine L_ops ?_
  refine ol_put rfl rfl rfl (q_assign (v := .one (.p true (Sl.t r33 (⟨false, 0, []⟩ : Sl (Int × Int))))) rfl) ?_
  refine ol_end ?_
  refine E_seq ?_
  refine L_seq ?_
  refine L_seq ?_
  refine L_ops ?_
  refine ol_put rfl rfl rfl (q_assign (v := .one (iC .i64 0)) rfl) ?_
  refine ol_end ?_
  refine E_seq ?_
  refine L_block ?_
  refine L_addM (α := Int × Int) r33 2 ?_
  let S1 : ((List (Int × Int)) × Int) → Nat → (Nat → D) → Nat → D := fun a kt g => ups g [(1, .one (.p false (Sl.t r33 s2))), (4, .one (.ptr k3 0 0)), (5, .one (iC .i64 n4)), (6, .one (moC a.1 kt)), (7, .one (iC .i64 a.2))]
  let SL1 : ((List (Int × Int)) × Int) → Nat → BL := fun a kt => ([[(k3, 2, [[iC .i64 0, .p true (Sl.t r33 (⟨false, 0, []⟩ : Sl (Int × Int)))]])], moL r33 2 a.1 kt] : BL)
  let Sx1 : (List (Int × Int)) → Nat → (Nat → D) → Nat → D := fun a kt g => ups g [(4, .one (.ptr k3 0 0)), (5, .one (iC .i64 n4)), (6, .one (moC a kt))]
  let SLx1 : (List (Int × Int)) → Nat → BL := fun a kt => ([[(k3, 2, [[iC .i64 0, .p true (Sl.t r33 (⟨false, 0, []⟩ : Sl (Int × Int)))]])], moL r33 2 a kt] : BL)
  let G1 : (Int × (Sl (Int × Int))) → Ex → St → Prop := fun u => endQ E1 [.cell 4 25] (.fresh, [.agg (r24 u)])
  let J1 : ((List (Int × Int)) ⊕ (Int × (Sl (Int × Int)))) → Ex → St → Prop := JX 56 0 Sx1 SLx1 G1
  refine L_loopS (law09_Some_b1 s2 n4) S1 SL1 J1 JX_n (([] : List (Int × Int)), 0) h 1072 (ups_self ⟨rfl, rfl, rfl, rfl, rfl, trivial⟩) [1, 0] (by decide) rfl ?_ ?_
  · rintro ⟨l74, n75⟩ k76 g out h
    change law09_Some_b1 s2 n4 (l74, n75) = some out at h
    unfold law09_Some_b1 at h
    refine L_seq ?_
    refine L_seq ?_
    refine L_ops ?_
    refine ol_put rfl rfl rfl (q_move (v := .one (iC .i64 n75)) rfl) ?_
    refine ol_put rfl rfl rfl (q_move (v := .one (.p false (Sl.t r33 s2))) rfl) ?_
    refine ol_put rfl rfl rfl (q_lenS rfl ty23 rfl rfl rfl rfl) ?_
    by_cases c77 : n75 < ((s2.l.length : Nat) : Int)
    · replace h := ifT c77 h
      refine ol_put rfl rfl rfl (q_bin rfl rfl (p_lss_t _ _ _ _ _ c77) rfl) ?_
      refine ol_put rfl rfl rfl (q_move (v := .one (bC true)) rfl) ?_
      refine ol_put rfl rfl rfl (q_move (v := .one (iC .i64 n75)) rfl) ?_
      by_cases c78 : n75 < 60
      · replace h := ifT c78 h
        refine ol_put rfl rfl rfl (q_bin rfl rfl (p_lss_t _ _ _ _ _ c78) rfl) ?_
        refine ol_put rfl rfl rfl (q_pickT (v := .one (bC true)) rfl rfl) ?_
        refine ol_put rfl rfl rfl (q_move (v := .one (bC true)) rfl) ?_
        refine ol_put rfl rfl rfl (q_move (v := .one (iC .i64 n4)) rfl) ?_
        by_cases c79 : n4 > 0
        · replace h := ifT c79 h
          refine ol_put rfl rfl rfl (q_bin rfl rfl (p_gtr_t _ _ _ _ _ c79) rfl) ?_
          refine ol_put rfl rfl rfl (q_pickT (v := .one (bC true)) rfl rfl) ?_
          refine ol_end ?_
          refine E_seq ?_
          refine L_condT rfl ?_
          refine L_skip ?_
          refine E_seq ?_
          refine L_seq ?_
          refine L_block ?_
          refine L_seq ?_
          refine L_ops ?_
          refine ol_put rfl rfl rfl (q_move (v := .one (.p false (Sl.t r33 s2))) rfl) ?_
          refine ol_put rfl rfl rfl (q_move (v := .one (iC .i64 n75)) rfl) ?_
          obtain ⟨⟨n82, n83⟩, h81, h⟩ := bindS h
          obtain ⟨h81a, h81b, h81⟩ := atS_some h81
          refine ol_put rfl rfl rfl (q_ixS rfl rfl h81a h81 (el23.trans (congrArg some h81b.symm))) ?_
          refine ol_put rfl rfl rfl (q_fieldI rfl fa34_0 rfl) ?_
          refine ol_put rfl rfl rfl (q_loadI (v := .one (iC .i64 n82)) rfl sz3 (map_get h81) rfl rfl) ?_
          by_cases c84 : n82 ≥ 0
          · replace h := ifT c84 h
            refine ol_put rfl rfl rfl (q_bin rfl rfl (p_geq_t _ _ _ _ _ c84) rfl) ?_
            refine ol_end ?_
            refine E_seq ?_
            refine L_condT rfl ?_
            refine L_norm (L2 := ([[(k3, 2, [[iC .i64 0, .p true (Sl.t r33 (⟨false, 0, []⟩ : Sl (Int × Int)))]])], moL r33 2 l74 k76] : BL)) [0, 1] (by decide) rfl ?_
            refine L_turn 17 rfl [[], [], [], [], [], [], [], [], [], [], [], [], [], [], [], moK l74 k76, []] [(false, []), (false, []), (false, []), (false, []), (false, []), (false, []), (false, []), (false, []), (false, []), (false, []), (false, []), (false, []), (false, []), (false, []), (true, []), (true, []), (false, [])] [[1, 2, 3, 4, 5, 6, 7, 8, 9, 10, 11, 12, 13, 14], [0, 2, 6, 8, 9, 10, 11, 12], [0, 1, 6, 8, 9, 10, 11, 12], [0, 6, 8, 9, 10, 11, 12], [0, 6, 8, 9, 10, 11, 12], [0, 6, 8, 9, 10, 11, 12], [0, 1, 2, 3, 4, 5, 8, 9, 10, 11, 12], [0, 8, 9, 10, 11, 12], [0, 1, 2, 3, 4, 5, 6, 7, 9], [0, 1, 2, 3, 4, 5, 6, 7, 8], [0, 1, 2, 3, 4, 5, 6, 7], [0, 1, 2, 3, 4, 5, 6, 7], [0, 1, 2, 3, 4, 5, 6, 7], [0], [0], [], []] (by kernel_rfl) (by kernel_rfl) (by kernel_rfl) ?_ (fun bb85 hlt hnd => ?_)
            · intro bb85 hlt hnd
              have e_k3 : k3 < bb85 := key_lt hlt 0 rfl
              have e_k76 : l74 = [] ∨ k76 < bb85 := key_ltM (r := r33) (w := 2) hlt 1 rfl
              have f_k76 := moK_lt e_k76
              have d_k76_k3 : k3 ∉ moK l74 k76 := key_neM (r := r33) (w := 2) hnd 1 0 rfl rfl rfl
              have g_k76_k3 := moK_ne d_k76_k3
              exact ⟨(by first | (simp; done) | (simp; omega) | (simp; assumption) | (simp_all; done) | (simp_all; omega)), (by first | (simp; done) | (simp; omega) | (simp; assumption) | (simp_all; done) | (simp_all; omega))⟩
            have e_k3 : k3 < bb85 := key_lt hlt 0 rfl
            have e_k76 : l74 = [] ∨ k76 < bb85 := key_ltM (r := r33) (w := 2) hlt 1 rfl
            have f_k76 := moK_lt e_k76
            have d_k76_k3 : k3 ∉ moK l74 k76 := key_neM (r := r33) (w := 2) hnd 1 0 rfl rfl rfl
            have g_k76_k3 := moK_ne d_k76_k3
            clear hlt hnd
            refine tn_put rfl rfl rfl [] (by decide) rfl hmn rfl (q_move (v := .one (moC l74 k76)) rfl) ?_
            refine tn_put rfl rfl rfl [] (by decide) rfl (hm0 rfl) rfl (q_move (v := .one (.p false (Sl.t r33 s2))) rfl) ?_
            refine tn_put rfl rfl rfl [] (by decide) rfl (hm0 rfl) rfl (q_move (v := .one (iC .i64 n75)) rfl) ?_
            obtain ⟨⟨n99, n100⟩, h98, h⟩ := bindS h
            obtain ⟨h98a, h98b, h98⟩ := atS_some h98
            refine tn_put rfl rfl rfl [] (by decide) rfl (hm0 rfl) rfl (q_ixS rfl rfl h98a h98 (el23.trans (congrArg some h98b.symm))) ?_
            refine tn_put rfl rfl rfl [] (by decide) rfl (hm0 rfl) rfl (q_fieldI rfl fa34_0 rfl) ?_
            refine tn_put rfl rfl rfl [] (by decide) rfl (hm0 rfl) rfl (q_loadI (v := .one (iC .i64 n99)) rfl sz3 (map_get h98) rfl rfl) ?_
            refine tn_put rfl rfl rfl [] (by decide) rfl (hm0 rfl) rfl (q_move (v := .one (iC .i64 n4)) rfl) ?_
            obtain ⟨n101, h102, h⟩ := bindS h
            refine tn_put rfl rfl rfl [] (by decide) rfl (hm0 rfl) rfl (q_bin rfl rfl (modO_p h102) rfl) ?_
            refine tn_put rfl rfl rfl [] (by decide) rfl (hm0 rfl) rfl (q_move (v := .one (.p false (Sl.t r33 s2))) rfl) ?_
            refine tn_put rfl rfl rfl [] (by decide) rfl (hm0 rfl) rfl (q_move (v := .one (iC .i64 n75)) rfl) ?_
            obtain ⟨⟨n105, n106⟩, h104, h⟩ := bindS h
            obtain ⟨h104a, h104b, h104⟩ := atS_some h104
            refine tn_put rfl rfl rfl [] (by decide) rfl (hm0 rfl) rfl (q_ixS rfl rfl h104a h104 (el23.trans (congrArg some h104b.symm))) ?_
            refine tn_put rfl rfl rfl [] (by decide) rfl (hm0 rfl) rfl (q_fieldI rfl fa34_1 rfl) ?_
            refine tn_put rfl rfl rfl [] (by decide) rfl (hm0 rfl) rfl (q_loadI (v := .one (iC .i64 n106)) rfl sz2 (map_get h104) rfl rfl) ?_
            refine tn_put rfl rfl rfl [] (by decide) rfl (hm0 rfl) rfl (q_build (cs := [iC .i64 n101, iC .i64 n106]) ty34 rfl pl34 rfl) ?_
            refine tn_new rfl rfl rfl [] (by decide) rfl (hm0 rfl) rfl rfl (hkc (by omega) (hkM (e_k76.imp id fun h => by omega) hkn)) (q_bslice (cs := [iC .i64 n101, iC .i64 n106]) (es := (([(n101, n106)] : List (Int × Int))).map (rowC r33)) ty23 rfl ty34 rfl rfl rfl rfl rfl) ?_
            obtain ⟨_, h107, h⟩ := bindS h
            obtain ⟨h107b, rfl⟩ := app_some h107
            refine tn_appM (r := r33) (l := l74) 0 2 rfl rfl rfl rfl [2, 0] (by decide) rfl (hm0 rfl) rfl rfl (hkc (by omega) (hkc (by omega) (hkM (e_k76.imp id fun h => by omega) hkn))) rfl rfl (el_ownM (l := ([(n101, n106)] : List (Int × Int))) 1 rfl) rfl rfl h107 (fun y => rfl) el23 ty23 rfl rfl rfl rfl rfl ?_
            refine tn_put rfl rfl rfl [] (by decide) rfl (hm0 rfl) rfl (q_assign (v := .one (moC (l74 ++ ([(n101, n106)] : List (Int × Int))) (bb85 + 15))) rfl) ?_
            refine tn_end ?_
            refine E_blkN ?_
            refine E_seq ?_
            refine L_ops ?_
            refine ol_put rfl rfl rfl (q_move (v := .one (iC .i64 n75)) rfl) ?_
            refine ol_put rfl rfl rfl (q_bin rfl rfl (p_add _ _ _ _ _ _ _) rfl) ?_
            refine ol_put rfl rfl rfl (q_assign (v := .one (iC .i64 (IntKind.i64.wrap (n75 + 1)))) rfl) ?_
            refine ol_end ?_
            obtain rfl := Option.some.inj h
            exact E_next (bb85 + 15) (ups_self ⟨rfl, rfl, rfl, rfl, rfl, trivial⟩) [2, 0] (by decide) rfl
          · replace h := ifF c84 h
            refine ol_put rfl rfl rfl (q_bin rfl rfl (p_geq_f _ _ _ _ _ c84) rfl) ?_
            refine ol_end ?_
            refine E_seq ?_
            refine L_condF rfl ?_
            refine L_skip ?_
            refine E_blkN ?_
            refine E_seq ?_
            refine L_ops ?_
            refine ol_put rfl rfl rfl (q_move (v := .one (iC .i64 n75)) rfl) ?_
            refine ol_put rfl rfl rfl (q_bin rfl rfl (p_add _ _ _ _ _ _ _) rfl) ?_
            refine ol_put rfl rfl rfl (q_assign (v := .one (iC .i64 (IntKind.i64.wrap (n75 + 1)))) rfl) ?_
            refine ol_end ?_
            obtain rfl := Option.some.inj h
            exact E_next k76 (ups_self ⟨rfl, rfl, rfl, rfl, rfl, trivial⟩) [0, 1] (by decide) rfl
        · replace h := ifF c79 h
          refine ol_put rfl rfl rfl (q_bin rfl rfl (p_gtr_f _ _ _ _ _ c79) rfl) ?_
          refine ol_put rfl rfl rfl (q_pickT (v := .one (bC false)) rfl rfl) ?_
          refine ol_end ?_
          refine E_seq ?_
          refine L_condF rfl ?_
          refine L_exit ?_
          refine E_seqX ?_
          obtain rfl := Option.some.inj h
          refine E_out ?_
          exact (E_exit k76 (ups_self ⟨rfl, rfl, rfl, trivial⟩) [0, 1] (by decide) rfl)
      · replace h := ifF c78 h
        refine ol_put rfl rfl rfl (q_bin rfl rfl (p_lss_f _ _ _ _ _ c78) rfl) ?_
        refine ol_put rfl rfl rfl (q_pickT (v := .one (bC false)) rfl rfl) ?_
        refine ol_put rfl rfl rfl (q_move (v := .one (bC false)) rfl) ?_
        refine ol_skip rfl rfl rfl ?_
        refine ol_skip rfl rfl rfl ?_
        refine ol_put rfl rfl rfl (q_pickF (v := .one (bC false)) rfl rfl) ?_
        refine ol_end ?_
        refine E_seq ?_
        refine L_condF rfl ?_
        refine L_exit ?_
        refine E_seqX ?_
        obtain rfl := Option.some.inj h
        refine E_out ?_
        exact (E_exit k76 (ups_self ⟨rfl, rfl, rfl, trivial⟩) [0, 1] (by decide) rfl)
    · replace h := ifF c77 h
      refine ol_put rfl rfl rfl (q_bin rfl rfl (p_lss_f _ _ _ _ _ c77) rfl) ?_
      refine ol_put rfl rfl rfl (q_move (v := .one (bC false)) rfl) ?_
      refine ol_skip rfl rfl rfl ?_
      refine ol_skip rfl rfl rfl ?_
      refine ol_put rfl rfl rfl (q_pickF (v := .one (bC false)) rfl rfl) ?_
      refine ol_put rfl rfl rfl (q_move (v := .one (bC false)) rfl) ?_
      refine ol_skip rfl rfl rfl ?_
      refine ol_skip rfl rfl rfl ?_
      refine ol_put rfl rfl rfl (q_pickF (v := .one (bC false)) rfl rfl) ?_
      refine ol_end ?_
      refine E_seq ?_
      refine L_condF rfl ?_
      refine L_exit ?_
      refine E_seqX ?_
      obtain rfl := Option.some.inj h
      refine E_out ?_
      exact (E_exit k76 (ups_self ⟨rfl, rfl, rfl, trivial⟩) [0, 1] (by decide) rfl)
  · rintro (l108 | u) h
    · refine J_x (fun k109 g => ?_)
      replace h := elimL h
      refine E_blkH ?_
      refine E_seq ?_
      refine L_seq ?_
      refine L_ops ?_
      refine ol_put rfl rfl rfl (q_move (v := .one (iC .i64 n4)) rfl) ?_
      refine ol_put rfl rfl rfl (q_move (v := .one (moC l108 k109)) rfl) ?_
      obtain ⟨⟨⟨n111, s112⟩, n113⟩, h110, h⟩ := bindS h
      refine ol_put rfl rfl rfl (q_callF (v := .tup [.agg [iC .i64 n111, .p true (Sl.t r33 s112)], .one (iC .i64 n113)]) (args := [.one (iC .i64 1), .one (iC .i64 n4), .one (moC l108 k109)]) (ref09_Of_r (m + 0) h110) rfl rfl (vw_cons (vd_one vc_v) (vw_cons (vd_one vc_v) (vw_cons (vd_one (vc_M (r := r33) 1 rfl (fun x h m => rfl))) vw_nil))) rfl rfl) ?_
      refine ol_put rfl rfl rfl (q_move (v := .tup [.agg [iC .i64 n111, .p true (Sl.t r33 s112)], .one (iC .i64 n113)]) rfl) ?_
      refine ol_put rfl rfl rfl (q_ext (v := .agg [iC .i64 n111, .p true (Sl.t r33 s112)]) rfl rfl) ?_
      refine ol_put rfl rfl rfl (q_ext (v := .one (iC .i64 n113)) rfl rfl) ?_
      refine ol_new rfl rfl rfl (q_alloc ty25 (row := [iC .i64 0, .p true (Sl.t r33 (⟨false, 0, []⟩ : Sl (Int × Int)))]) rfl rfl) (fun k114 => ?_)
      refine ol_wr rfl rfl (q_store (es' := [[iC .i64 n111, .p true (Sl.t r33 s112)]]) 0 rfl rfl rfl sz25 rfl rfl rfl rfl rfl) rfl ?_
      refine ol_put rfl rfl rfl (q_assign (v := .one (iC .i64 n113)) rfl) ?_
      refine ol_end ?_
      refine E_seq ?_
      refine L_seq ?_
      refine L_ops ?_
      refine ol_put rfl rfl rfl (q_loadP (v := .agg [iC .i64 n111, .p true (Sl.t r33 s112)]) 0 rfl sz25 rfl rfl rfl rfl) ?_
      refine ol_wr rfl rfl (q_store (es' := [[iC .i64 n111, .p true (Sl.t r33 s112)]]) 1 rfl rfl rfl sz25 rfl rfl rfl rfl rfl) rfl ?_
      refine ol_end ?_
      refine E_seq ?_
      refine L_ret ?_
      obtain rfl := Option.some.inj h
      exact E_endF (.inr rfl) (res_cell (d := .agg [iC .i64 n111, .p true (Sl.t r33 s112)]) 1 rfl sz25 rfl rfl rfl rfl res_nil) (vw_cons (vd_agg (vc_cons vc_v (vc_cons vc_s vc_nil))) vw_nil) (fun h hb => own_agg) rfl rfl
    · obtain rfl := Option.some.inj (elimR h)
      exact J_up (fun s hs => hs)

noncomputable def ref09_Glue_b2 (n171 : Int) (s181 : Sl (Int × Int)) (a : Int × (List (Int × Int))) : Option ((Int × (List (Int × Int))) ⊕ ((List (Int × Int)) ⊕ ((Int × Int × (List (Int × Int))) ⊕ ((Int × (List (Int × Int))) ⊕ ((Int × (Sl (Int × Int))) × Int))))) :=
  match a with
  | (n227, l228) => (if n227 < ((s181.l.length : Nat) : Int) then ((atS 2 s181 n227).bind fun (n243, n244) => ((atS 2 s181 n227).bind fun (n247, n248) => ((app l228 ([((IntKind.i64.wrap (n171 + n243)), n248)] : List (Int × Int))).bind fun _ => some (.inl ((IntKind.i64.wrap (n227 + 1)), (l228 ++ ([((IntKind.i64.wrap (n171 + n243)), n248)] : List (Int × Int)))))))) else some (.inr (.inl l228)))
noncomputable def ref09_Glue_b1 (s1 : Sl (Int × (Sl (Int × Int)))) (a : Int × Int × (List (Int × Int))) : Option ((Int × Int × (List (Int × Int))) ⊕ ((Int × (List (Int × Int))) ⊕ ((Int × (Sl (Int × Int))) × Int))) :=
  match a with
  | (n170, n171, l172) => (if n170 < ((s1.l.length : Nat) : Int) then ((atS 2 s1 n170).bind fun (n177, s178) => ((ref09_Sure (n177, s178)).bind fun (n180, s181) => ((loopO (ref09_Glue_b2 n171 s181) (0, l172)).bind (Sum.elim (fun l250 => (if (IntKind.i64.wrap (n171 + n180)) > 4096 then some (.inr (.inr ((0, (⟨false, 0, []⟩ : Sl (Int × Int))), 5))) else some (.inl ((IntKind.i64.wrap (n170 + 1)), (IntKind.i64.wrap (n171 + n180)), l250)))) (fun u => some u))))) else some (.inr (.inl (n171, l172))))
noncomputable def ref09_Glue (s1 : Sl (Int × (Sl (Int × Int)))) : Option ((Int × (Sl (Int × Int))) × Int) :=
  ((loopO (ref09_Glue_b1 s1) (0, 0, ([] : List (Int × Int)))).bind (Sum.elim (fun ⟨n253, l254⟩ => some ((n253, (mo 2 l254)), 0)) (fun u => some u)))
theorem ref09_Glue_r (m : Nat) {s1 : Sl (Int × (Sl (Int × Int)))} {out : (Int × (Sl (Int × Int))) × Int} (h : ref09_Glue s1 = some out) : RunsP E1 (m + 3) 26 [.one (Sl.t r24 s1)] (.fresh, [.agg (r24 out.1), .one (iT .i64 out.2)]) := by
  refine fn_F rfl (by rw [E1_fn]; exact show fiOf Try.prog 26 = _ by unfold fiOf; rw [Try.func26]; unfold Try.f26; rfl) rfl ?_
  dsimp only
  unfold ref09_Glue at h
  refine L_seq ?_
  refine L_ops ?_
  refine ol_new rfl rfl rfl (q_alloc ty25 (row := [iC .i64 0, .p true (Sl.t r33 (⟨false, 0, []⟩ : Sl (Int × Int)))]) rfl rfl) (fun k2 => ?_)
  refine ol_put rfl rfl rfl (q_assign (v := .one (iC .i64 0)) rfl) ?_
  refine ol_end ?_
  refine E_seq ?_
  refine L_seq ?_
  refine L_ops ?_
  refine ol_new rfl rfl rfl (q_alloc ty25 (row := [iC .i64 0, .p true (Sl.t r33 (⟨false, 0, []⟩ : Sl (Int × Int)))]) rfl rfl) (fun k3 => ?_)
  refine ol_end ?_
  refine E_seq ?_
  refine L_seq ?_
  refine L_seq ?_
  refine L_ops ?_
  refine ol_put rfl rfl rfl (q_assign (v := .one (iC .i64 0)) rfl) ?_
  refine ol_end ?_
  refine E_seq ?_
  refine L_block ?_
  refine L_addM (α := Int × Int) r33 2 ?_
  let S1 : (Int × Int × (List (Int × Int))) → Nat → (Nat → D) → Nat → D := fun a kt g => ups g [(0, .one (.p false (Sl.t r24 s1))), (2, .one (.ptr k2 0 0)), (4, .one (.ptr k3 0 0)), (5, .one (iC .i64 a.1))]
  let SL1 : (Int × Int × (List (Int × Int))) → Nat → BL := fun a kt => ([[(k2, 2, [[iC .i64 0, .p true (Sl.t r33 (⟨false, 0, []⟩ : Sl (Int × Int)))]])], [(k3, 2, [[iC .i64 a.2.1, moC a.2.2 kt]])], moL r33 2 a.2.2 kt] : BL)
  let Sx1 : (Int × (List (Int × Int))) → Nat → (Nat → D) → Nat → D := fun a kt g => ups g [(2, .one (.ptr k2 0 0)), (4, .one (.ptr k3 0 0))]
  let SLx1 : (Int × (List (Int × Int))) → Nat → BL := fun a kt => ([[(k2, 2, [[iC .i64 0, .p true (Sl.t r33 (⟨false, 0, []⟩ : Sl (Int × Int)))]])], [(k3, 2, [[iC .i64 a.1, moC a.2 kt]])], moL r33 2 a.2 kt] : BL)
  let G1 : ((Int × (Sl (Int × Int))) × Int) → Ex → St → Prop := fun u => endQ E1 [.cell 2 25, .tmp 3] (.fresh, [.agg (r24 u.1), .one (iT .i64 u.2)])
  let J1 : ((Int × (List (Int × Int))) ⊕ ((Int × (Sl (Int × Int))) × Int)) → Ex → St → Prop := JX 58 0 Sx1 SLx1 G1
  refine L_loopS (ref09_Glue_b1 s1) S1 SL1 J1 JX_n (0, 0, ([] : List (Int × Int))) h 1168 (ups_self ⟨rfl, rfl, rfl, rfl, trivial⟩) [2, 1, 0] (by decide) rfl ?_ ?_
  · rintro ⟨n170, n171, l172⟩ k173 g out h
    change ref09_Glue_b1 s1 (n170, n171, l172) = some out at h
    unfold ref09_Glue_b1 at h
    refine L_seq ?_
    refine L_seq ?_
    refine L_ops ?_
    refine ol_put rfl rfl rfl (q_move (v := .one (iC .i64 n170)) rfl) ?_
    refine ol_put rfl rfl rfl (q_move (v := .one (.p false (Sl.t r24 s1))) rfl) ?_
    refine ol_put rfl rfl rfl (q_lenS rfl ty50 rfl rfl rfl rfl) ?_
    by_cases c174 : n170 < ((s1.l.length : Nat) : Int)
    · replace h := ifT c174 h
      refine ol_put rfl rfl rfl (q_bin rfl rfl (p_lss_t _ _ _ _ _ c174) rfl) ?_
      refine ol_end ?_
      refine E_seq ?_
      refine L_condT rfl ?_
      refine L_skip ?_
      refine E_seq ?_
      refine L_seq ?_
      refine L_block ?_
      refine L_seq ?_
      refine L_ops ?_
      refine ol_put rfl rfl rfl (q_move (v := .one (.p false (Sl.t r24 s1))) rfl) ?_
      refine ol_put rfl rfl rfl (q_move (v := .one (iC .i64 n170)) rfl) ?_
      obtain ⟨⟨n177, s178⟩, h176, h⟩ := bindS h
      obtain ⟨h176a, h176b, h176⟩ := atS_some h176
      refine ol_put rfl rfl rfl (q_ixS rfl rfl h176a h176 (el50.trans (congrArg some h176b.symm))) ?_
      refine ol_put rfl rfl rfl (q_loadI (v := .agg [iC .i64 n177, .p false (Sl.t r33 s178)]) rfl sz25 (map_get h176) rfl rfl) ?_
      obtain ⟨⟨n180, s181⟩, h179, h⟩ := bindS h
      refine ol_putX rfl rfl rfl (q_callX (v := fun fr182 => .agg [iC .i64 n180, .p fr182 (Sl.t r33 s181)]) (args := [.agg [iC .i64 n177, .p false (Sl.t r33 s178)]]) (ref09_Sure_r (m + 0) h179) rfl rfl (vw_cons (vd_agg (vc_cons vc_v (vc_cons vc_s vc_nil))) vw_nil) rfl rfl (fun fr => rfl)) (fun fr182 => ?_)
      refine ol_new rfl rfl rfl (q_alloc ty25 (row := [iC .i64 0, .p true (Sl.t r33 (⟨false, 0, []⟩ : Sl (Int × Int)))]) rfl rfl) (fun k183 => ?_)
      refine ol_wr rfl rfl (q_store (es' := [[iC .i64 n180, .p fr182 (Sl.t r33 s181)]]) 0 rfl rfl rfl sz25 rfl rfl rfl rfl rfl) rfl ?_
      refine ol_end ?_
      refine E_seq ?_
      refine L_seq ?_
      refine L_seq ?_
      refine L_ops ?_
      refine ol_put rfl rfl rfl (q_assign (v := .one (iC .i64 0)) rfl) ?_
      refine ol_end ?_
      refine E_seq ?_
      refine L_block ?_
      let S2 : (Int × (List (Int × Int))) → Nat → (Nat → D) → Nat → D := fun a kt g => ups g [(0, .one (.p false (Sl.t r24 s1))), (2, .one (.ptr k2 0 0)), (4, .one (.ptr k3 0 0)), (5, .one (iC .i64 n170)), (6, .one (.ptr k183 0 0)), (7, .one (iC .i64 a.1))]
      let SL2 : (Int × (List (Int × Int))) → Nat → BL := fun a kt => ([[(k2, 2, [[iC .i64 0, .p true (Sl.t r33 (⟨false, 0, []⟩ : Sl (Int × Int)))]])], [(k3, 2, [[iC .i64 n171, moC a.2 kt]])], [(k183, 2, [[iC .i64 n180, .p fr182 (Sl.t r33 s181)]])], moL r33 2 a.2 kt] : BL)
      let Sx2 : (List (Int × Int)) → Nat → (Nat → D) → Nat → D := fun a kt g => ups g [(0, .one (.p false (Sl.t r24 s1))), (2, .one (.ptr k2 0 0)), (4, .one (.ptr k3 0 0)), (5, .one (iC .i64 n170)), (6, .one (.ptr k183 0 0))]
      let SLx2 : (List (Int × Int)) → Nat → BL := fun a kt => ([[(k2, 2, [[iC .i64 0, .p true (Sl.t r33 (⟨false, 0, []⟩ : Sl (Int × Int)))]])], [(k3, 2, [[iC .i64 n171, moC a kt]])], [(k183, 2, [[iC .i64 n180, .p fr182 (Sl.t r33 s181)]])], moL r33 2 a kt] : BL)
      let G2 : ((Int × Int × (List (Int × Int))) ⊕ ((Int × (List (Int × Int))) ⊕ ((Int × (Sl (Int × Int))) × Int))) → Ex → St → Prop := LQ 58 S1 SL1 J1
      let J2 : ((List (Int × Int)) ⊕ ((Int × Int × (List (Int × Int))) ⊕ ((Int × (List (Int × Int))) ⊕ ((Int × (Sl (Int × Int))) × Int)))) → Ex → St → Prop := JX 58 2 Sx2 SLx2 G2
      refine L_loopS (ref09_Glue_b2 n171 s181) S2 SL2 J2 JX_n (0, l172) h k173 (ups_self ⟨rfl, rfl, rfl, rfl, rfl, rfl, trivial⟩) [1, 2, 0, 3] (by decide) rfl ?_ ?_
      · rintro ⟨n227, l228⟩ k229 g out h
        change ref09_Glue_b2 n171 s181 (n227, l228) = some out at h
        unfold ref09_Glue_b2 at h
        refine L_seq ?_
        refine L_seq ?_
        refine L_ops ?_
        refine ol_put rfl rfl rfl (q_move (v := .one (iC .i64 n227)) rfl) ?_
        refine ol_put rfl rfl rfl (q_fieldP rfl fa25_1 rfl) ?_
        refine ol_put rfl rfl rfl (q_loadP (v := .one (.p fr182 (Sl.t r33 s181))) 2 rfl sz23 rfl rfl rfl rfl) ?_
        refine ol_put rfl rfl rfl (q_lenS rfl ty23 rfl rfl rfl rfl) ?_
        by_cases c230 : n227 < ((s181.l.length : Nat) : Int)
        · replace h := ifT c230 h
          refine ol_put rfl rfl rfl (q_bin rfl rfl (p_lss_t _ _ _ _ _ c230) rfl) ?_
          refine ol_end ?_
          refine E_seq ?_
          refine L_condT rfl ?_
          refine L_skip ?_
          refine E_seq ?_
          refine L_seq ?_
          refine L_block ?_
          refine L_norm (L2 := ([[(k2, 2, [[iC .i64 0, .p true (Sl.t r33 (⟨false, 0, []⟩ : Sl (Int × Int)))]])], [(k3, 2, [[iC .i64 n171, moC l228 k229]])], [(k183, 2, [[iC .i64 n180, .p fr182 (Sl.t r33 s181)]])], moL r33 2 l228 k229] : BL)) [0, 1, 2, 3] (by decide) rfl ?_
          refine L_turn 22 rfl [[], [], [], [], [], [], [], [], [], [], [], [], [], [], [], [], [], [], [], moK l228 k229, [], [k3]] [(false, []), (false, []), (false, []), (false, []), (false, []), (false, []), (false, []), (false, []), (false, []), (false, []), (false, []), (false, []), (false, []), (false, []), (false, []), (false, []), (false, []), (false, []), (true, []), (true, []), (false, []), (false, [])] [[2, 3, 4, 5, 6, 7, 8, 9, 10, 11, 12, 13, 14, 15, 16, 17, 18], [2, 3, 4, 5, 6, 7, 8, 9, 10, 11, 12, 13, 14, 15, 16, 17, 18], [0, 1, 4, 5, 6, 7, 8, 9, 11, 12, 13, 14, 15, 16], [0, 1, 4, 5, 6, 7, 8, 9, 11, 12, 13, 14, 15, 16], [0, 1, 2, 3, 6, 11, 12, 13, 14, 15, 16], [0, 1, 2, 3, 6, 11, 12, 13, 14, 15, 16], [0, 1, 2, 3, 4, 5, 11, 12, 13, 14, 15, 16], [0, 1, 2, 3, 11, 12, 13, 14, 15, 16], [0, 1, 2, 3, 11, 12, 13, 14, 15, 16], [0, 1, 2, 3, 11, 12, 13, 14, 15, 16], [0, 1, 11, 12, 13, 14, 15, 16], [0, 1, 2, 3, 4, 5, 6, 7, 8, 9, 10, 13], [0, 1, 2, 3, 4, 5, 6, 7, 8, 9, 10, 13], [0, 1, 2, 3, 4, 5, 6, 7, 8, 9, 10, 11, 12], [0, 1, 2, 3, 4, 5, 6, 7, 8, 9, 10], [0, 1, 2, 3, 4, 5, 6, 7, 8, 9, 10], [0, 1, 2, 3, 4, 5, 6, 7, 8, 9, 10], [0, 1], [0, 1], [], [], []] (by kernel_rfl) (by kernel_rfl) (by kernel_rfl) ?_ (fun bb231 hlt hnd => ?_)
          · intro bb231 hlt hnd
            have e_k2 : k2 < bb231 := key_lt hlt 0 rfl
            have e_k3 : k3 < bb231 := key_lt hlt 1 rfl
            have e_k183 : k183 < bb231 := key_lt hlt 2 rfl
            have e_k229 : l228 = [] ∨ k229 < bb231 := key_ltM (r := r33) (w := 2) hlt 3 rfl
            have f_k229 := moK_lt e_k229
            have d_k3_k2 : k3 ≠ k2 := key_ne hnd 1 0 rfl rfl rfl
            have d_k3_k183 : k3 ≠ k183 := key_ne hnd 1 2 rfl rfl rfl
            have d_k229_k2 : k2 ∉ moK l228 k229 := key_neM (r := r33) (w := 2) hnd 3 0 rfl rfl rfl
            have g_k229_k2 := moK_ne d_k229_k2
            have d_k229_k3 : k3 ∉ moK l228 k229 := key_neM (r := r33) (w := 2) hnd 3 1 rfl rfl rfl
            have g_k229_k3 := moK_ne d_k229_k3
            have d_k229_k183 : k183 ∉ moK l228 k229 := key_neM (r := r33) (w := 2) hnd 3 2 rfl rfl rfl
            have g_k229_k183 := moK_ne d_k229_k183
            exact ⟨(by first | (simp; done) | (simp; omega) | (simp; assumption) | (simp_all; done) | (simp_all; omega)), (by first | (simp; done) | (simp; omega) | (simp; assumption) | (simp_all; done) | (simp_all; omega))⟩
          have e_k2 : k2 < bb231 := key_lt hlt 0 rfl
          have e_k3 : k3 < bb231 := key_lt hlt 1 rfl
          have e_k183 : k183 < bb231 := key_lt hlt 2 rfl
          have e_k229 : l228 = [] ∨ k229 < bb231 := key_ltM (r := r33) (w := 2) hlt 3 rfl
          have f_k229 := moK_lt e_k229
          have d_k3_k2 : k3 ≠ k2 := key_ne hnd 1 0 rfl rfl rfl
          have d_k3_k183 : k3 ≠ k183 := key_ne hnd 1 2 rfl rfl rfl
          have d_k229_k2 : k2 ∉ moK l228 k229 := key_neM (r := r33) (w := 2) hnd 3 0 rfl rfl rfl
          have g_k229_k2 := moK_ne d_k229_k2
          have d_k229_k3 : k3 ∉ moK l228 k229 := key_neM (r := r33) (w := 2) hnd 3 1 rfl rfl rfl
          have g_k229_k3 := moK_ne d_k229_k3
          have d_k229_k183 : k183 ∉ moK l228 k229 := key_neM (r := r33) (w := 2) hnd 3 2 rfl rfl rfl
          have g_k229_k183 := moK_ne d_k229_k183
          clear hlt hnd
          refine tn_put rfl rfl rfl [] (by decide) rfl hmn rfl (q_fieldP rfl fa25_1 rfl) ?_
          refine tn_put rfl rfl rfl [1] (by decide) rfl (hmc (by first | (simp [turnsOf]; done) | (simp [turnsOf]; omega) | (simp [turnsOf]; assumption) | (simp_all [turnsOf]; done) | (simp_all [turnsOf]; omega)) hmn) rfl (q_loadP (v := .one (moC l228 k229)) 0 rfl sz23 rfl rfl rfl rfl) ?_
          refine tn_put rfl rfl rfl [] (by decide) rfl (hm0 rfl) rfl (q_fieldP rfl fa25_0 rfl) ?_
          refine tn_put rfl rfl rfl [1] (by decide) rfl (hm0 rfl) rfl (q_loadP (v := .one (iC .i64 n171)) 0 rfl sz3 rfl rfl rfl rfl) ?_
          refine tn_put rfl rfl rfl [] (by decide) rfl (hm0 rfl) rfl (q_fieldP rfl fa25_1 rfl) ?_
          refine tn_put rfl rfl rfl [2] (by decide) rfl (hm0 rfl) rfl (q_loadP (v := .one (.p fr182 (Sl.t r33 s181))) 0 rfl sz23 rfl rfl rfl rfl) ?_
          refine tn_put rfl rfl rfl [] (by decide) rfl (hm0 rfl) rfl (q_move (v := .one (iC .i64 n227)) rfl) ?_
          obtain ⟨⟨n243, n244⟩, h242, h⟩ := bindS h
          obtain ⟨h242a, h242b, h242⟩ := atS_some h242
          refine tn_put rfl rfl rfl [] (by decide) rfl (hm0 rfl) rfl (q_ixS rfl rfl h242a h242 (el23.trans (congrArg some h242b.symm))) ?_
          refine tn_put rfl rfl rfl [] (by decide) rfl (hm0 rfl) rfl (q_fieldI rfl fa34_0 rfl) ?_
          refine tn_put rfl rfl rfl [] (by decide) rfl (hm0 rfl) rfl (q_loadI (v := .one (iC .i64 n243)) rfl sz3 (map_get h242) rfl rfl) ?_
          refine tn_put rfl rfl rfl [] (by decide) rfl (hm0 rfl) rfl (q_bin rfl rfl (p_add _ _ _ _ _ _ _) rfl) ?_
          refine tn_put rfl rfl rfl [] (by decide) rfl (hm0 rfl) rfl (q_fieldP rfl fa25_1 rfl) ?_
          refine tn_put rfl rfl rfl [2] (by decide) rfl (hm0 rfl) rfl (q_loadP (v := .one (.p fr182 (Sl.t r33 s181))) 0 rfl sz23 rfl rfl rfl rfl) ?_
          refine tn_put rfl rfl rfl [] (by decide) rfl (hm0 rfl) rfl (q_move (v := .one (iC .i64 n227)) rfl) ?_
          obtain ⟨⟨n247, n248⟩, h246, h⟩ := bindS h
          obtain ⟨h246a, h246b, h246⟩ := atS_some h246
          refine tn_put rfl rfl rfl [] (by decide) rfl (hm0 rfl) rfl (q_ixS rfl rfl h246a h246 (el23.trans (congrArg some h246b.symm))) ?_
          refine tn_put rfl rfl rfl [] (by decide) rfl (hm0 rfl) rfl (q_fieldI rfl fa34_1 rfl) ?_
          refine tn_put rfl rfl rfl [] (by decide) rfl (hm0 rfl) rfl (q_loadI (v := .one (iC .i64 n248)) rfl sz2 (map_get h246) rfl rfl) ?_
          refine tn_put rfl rfl rfl [] (by decide) rfl (hm0 rfl) rfl (q_build (cs := [iC .i64 (IntKind.i64.wrap (n171 + n243)), iC .i64 n248]) ty34 rfl pl34 rfl) ?_
          refine tn_new rfl rfl rfl [] (by decide) rfl (hm0 rfl) rfl rfl (hkc (by omega) (hkc (by omega) (hkc (by omega) (hkM (e_k229.imp id fun h => by omega) hkn)))) (q_bslice (cs := [iC .i64 (IntKind.i64.wrap (n171 + n243)), iC .i64 n248]) (es := (([((IntKind.i64.wrap (n171 + n243)), n248)] : List (Int × Int))).map (rowC r33)) ty23 rfl ty34 rfl rfl rfl rfl rfl) ?_
          obtain ⟨_, h249, h⟩ := bindS h
          obtain ⟨h249b, rfl⟩ := app_some h249
          refine tn_appM (r := r33) (l := l228) 0 4 rfl rfl rfl rfl [4, 0] (by decide) rfl (hm0 rfl) rfl rfl (hkc (by omega) (hkc (by omega) (hkc (by omega) (hkc (by omega) (hkM (e_k229.imp id fun h => by omega) hkn))))) rfl rfl (el_ownM (l := ([((IntKind.i64.wrap (n171 + n243)), n248)] : List (Int × Int))) 1 rfl) rfl rfl h249 (fun y => rfl) el23 ty23 rfl rfl rfl rfl rfl ?_
          refine tn_put rfl rfl rfl [] (by decide) rfl (hm0 rfl) rfl (q_fieldP rfl fa25_1 rfl) ?_
          refine tn_wr rfl rfl [3] (by decide) rfl (hm0 rfl) rfl (q_store (es' := [[iC .i64 n171, moC (l228 ++ ([((IntKind.i64.wrap (n171 + n243)), n248)] : List (Int × Int))) (bb231 + 19)]]) 0 rfl rfl rfl sz23 rfl rfl rfl rfl rfl) (q := 3) rfl rfl ?_
          refine tn_end ?_
          refine E_blkN ?_
          refine E_seq ?_
          refine L_ops ?_
          refine ol_put rfl rfl rfl (q_move (v := .one (iC .i64 n227)) rfl) ?_
          refine ol_put rfl rfl rfl (q_bin rfl rfl (p_add _ _ _ _ _ _ _) rfl) ?_
          refine ol_put rfl rfl rfl (q_assign (v := .one (iC .i64 (IntKind.i64.wrap (n227 + 1)))) rfl) ?_
          refine ol_end ?_
          obtain rfl := Option.some.inj h
          exact E_next (bb231 + 19) (ups_self ⟨rfl, rfl, rfl, rfl, rfl, rfl, trivial⟩) [2, 3, 4, 0] (by decide) rfl
        · replace h := ifF c230 h
          refine ol_put rfl rfl rfl (q_bin rfl rfl (p_lss_f _ _ _ _ _ c230) rfl) ?_
          refine ol_end ?_
          refine E_seq ?_
          refine L_condF rfl ?_
          refine L_exit ?_
          refine E_seqX ?_
          obtain rfl := Option.some.inj h
          refine E_out ?_
          exact (E_exit k229 (ups_self ⟨rfl, rfl, rfl, rfl, rfl, trivial⟩) [0, 1, 2, 3] (by decide) rfl)
      · rintro (l250 | u) h
        · refine J_x (fun k251 g => ?_)
          replace h := elimL h
          refine E_blkH ?_
          refine E_seq ?_
          refine L_seq ?_
          refine L_ops ?_
          refine ol_put rfl rfl rfl (q_fieldP rfl fa25_0 rfl) ?_
          refine ol_put rfl rfl rfl (q_loadP (v := .one (iC .i64 n171)) 1 rfl sz3 rfl rfl rfl rfl) ?_
          refine ol_put rfl rfl rfl (q_fieldP rfl fa25_0 rfl) ?_
          refine ol_put rfl rfl rfl (q_loadP (v := .one (iC .i64 n180)) 2 rfl sz3 rfl rfl rfl rfl) ?_
          refine ol_put rfl rfl rfl (q_bin rfl rfl (p_add _ _ _ _ _ _ _) rfl) ?_
          refine ol_put rfl rfl rfl (q_fieldP rfl fa25_0 rfl) ?_
          refine ol_wr rfl rfl (q_store (es' := [[iC .i64 (IntKind.i64.wrap (n171 + n180)), moC l250 k251]]) 1 rfl rfl rfl sz3 rfl rfl rfl rfl rfl) rfl ?_
          refine ol_end ?_
          refine E_seq ?_
          refine L_seq ?_
          refine L_ops ?_
          refine ol_put rfl rfl rfl (q_fieldP rfl fa25_0 rfl) ?_
          refine ol_put rfl rfl rfl (q_loadP (v := .one (iC .i64 (IntKind.i64.wrap (n171 + n180)))) 1 rfl sz3 rfl rfl rfl rfl) ?_
          by_cases c252 : (IntKind.i64.wrap (n171 + n180)) > 4096
          · replace h := ifT c252 h
            refine ol_put rfl rfl rfl (q_bin rfl rfl (p_gtr_t _ _ _ _ _ c252) rfl) ?_
            refine ol_end ?_
            refine E_seq ?_
            refine L_condT rfl ?_
            refine L_seq ?_
            refine L_ops ?_
            refine ol_put rfl rfl rfl (q_build (cs := [iC .i64 0, .p true (Sl.t r33 (⟨false, 0, []⟩ : Sl (Int × Int)))]) ty25 rfl pl25 rfl) ?_
            refine ol_wr rfl rfl (q_store (es' := [[iC .i64 0, .p true (Sl.t r33 (⟨false, 0, []⟩ : Sl (Int × Int)))]]) 0 rfl rfl rfl sz25 rfl rfl rfl rfl rfl) rfl ?_
            refine ol_put rfl rfl rfl (q_assign (v := .one (iC .i64 5)) rfl) ?_
            refine ol_end ?_
            refine E_seq ?_
            refine L_ret ?_
            refine E_blkR ?_
            refine E_seqR ?_
            obtain rfl := Option.some.inj h
            exact E_out (E_up (E_endF (.inr rfl) (res_cell (d := .agg [iC .i64 0, .p true (Sl.t r33 (⟨false, 0, []⟩ : Sl (Int × Int)))]) 0 rfl sz25 rfl rfl rfl rfl (res_tmp rfl res_nil)) (vw_cons (vd_agg (vc_cons vc_v (vc_cons vc_s vc_nil))) (vw_cons (vd_one vc_v) vw_nil)) (fun h hb => own_no2) rfl rfl))
          · replace h := ifF c252 h
            refine ol_put rfl rfl rfl (q_bin rfl rfl (p_gtr_f _ _ _ _ _ c252) rfl) ?_
            refine ol_end ?_
            refine E_seq ?_
            refine L_condF rfl ?_
            refine L_skip ?_
            refine E_blkN ?_
            refine E_seq ?_
            refine L_ops ?_
            refine ol_put rfl rfl rfl (q_move (v := .one (iC .i64 n170)) rfl) ?_
            refine ol_put rfl rfl rfl (q_bin rfl rfl (p_add _ _ _ _ _ _ _) rfl) ?_
            refine ol_put rfl rfl rfl (q_assign (v := .one (iC .i64 (IntKind.i64.wrap (n170 + 1)))) rfl) ?_
            refine ol_end ?_
            obtain rfl := Option.some.inj h
            exact E_next k251 (ups_self ⟨rfl, rfl, rfl, rfl, trivial⟩) [0, 1, 3] (by decide) rfl
        · obtain rfl := Option.some.inj (elimR h)
          exact J_up (fun s hs => hs)
    · replace h := ifF c174 h
      refine ol_put rfl rfl rfl (q_bin rfl rfl (p_lss_f _ _ _ _ _ c174) rfl) ?_
      refine ol_end ?_
      refine E_seq ?_
      refine L_condF rfl ?_
      refine L_exit ?_
      refine E_seqX ?_
      obtain rfl := Option.some.inj h
      refine E_out ?_
      exact (E_exit k173 (ups_self ⟨rfl, rfl, trivial⟩) [0, 1, 2] (by decide) rfl)
  · rintro (⟨n253, l254⟩ | u) h
    · refine J_x (fun k255 g => ?_)
      replace h := elimL h
      refine E_blkH ?_
      refine E_seq ?_
      refine L_seq ?_
      refine L_ops ?_
      refine ol_put rfl rfl rfl (q_loadP (v := .agg [iC .i64 n253, moC l254 k255]) 1 rfl sz25 rfl rfl rfl rfl) ?_
      refine ol_wr rfl rfl (q_store (es' := [[iC .i64 n253, moC l254 k255]]) 0 rfl rfl rfl sz25 rfl rfl rfl rfl rfl) rfl ?_
      refine ol_put rfl rfl rfl (q_assign (v := .one (iC .i64 0)) rfl) ?_
      refine ol_end ?_
      refine E_seq ?_
      refine L_ret ?_
      obtain rfl := Option.some.inj h
      exact E_endF (.inr rfl) (res_cell (d := .agg [iC .i64 n253, moC l254 k255]) 0 rfl sz25 rfl rfl rfl rfl (res_tmp rfl res_nil)) (vw_cons (vd_agg (vc_cons vc_v (vc_cons (vc_M (r := r33) 2 rfl (fun x h m => rfl)) vc_nil))) (vw_cons (vd_one vc_v) vw_nil)) (fun h hb => own_no2) rfl rfl
    · obtain rfl := Option.some.inj (elimR h)
      exact J_up (fun s hs => hs)

noncomputable def ref03_words (n1 : Int) : Option (Int) :=
  (if n1 > 4096 then (if (4096 : Int) < 1 then some 0 else ((divO .i64 (IntKind.i64.wrap (4096 + 63)) 64).bind fun n4 => some n4)) else (if n1 < 1 then some 0 else ((divO .i64 (IntKind.i64.wrap (n1 + 63)) 64).bind fun n7 => some n7)))
theorem ref03_words_r (m : Nat) {n1 : Int} {out : Int} (h : ref03_words n1 = some out) : RunsP E1 (m + 1) 73 [.one (iT .i64 n1)] (.fresh, [.one (iT .i64 out)]) := by
  refine fn_F rfl (by rw [E1_fn]; exact show fiOf Try.prog 73 = _ by unfold fiOf; rw [Try.func73]; unfold Try.f73; rfl) rfl ?_
  dsimp only
  unfold ref03_words at h
  refine L_seq ?_
  refine L_ops ?_
  refine ol_put rfl rfl rfl (q_assign (v := .one (iC .i64 0)) rfl) ?_
  refine ol_end ?_
  refine E_seq ?_
  refine L_seq ?_
  refine L_seq ?_
  refine L_ops ?_
  refine ol_put rfl rfl rfl (q_move (v := .one (iC .i64 n1)) rfl) ?_
  by_cases c2 : n1 > 4096
  · replace h := ifT c2 h
    refine ol_put rfl rfl rfl (q_bin rfl rfl (p_gtr_t _ _ _ _ _ c2) rfl) ?_
    refine ol_end ?_
    refine E_seq ?_
    refine L_condT rfl ?_
    refine L_ops ?_
    refine ol_put rfl rfl rfl (q_assign (v := .one (iC .i64 4096)) rfl) ?_
    refine ol_end ?_
    refine E_seq ?_
    refine L_seq ?_
    refine L_seq ?_
    refine L_ops ?_
    refine ol_put rfl rfl rfl (q_move (v := .one (iC .i64 4096)) rfl) ?_
    by_cases c3 : (4096 : Int) < 1
    · replace h := ifT c3 h
      refine ol_put rfl rfl rfl (q_bin rfl rfl (p_lss_t _ _ _ _ _ c3) rfl) ?_
      refine ol_end ?_
      refine E_seq ?_
      refine L_condT rfl ?_
      refine L_seq ?_
      refine L_ops ?_
      refine ol_put rfl rfl rfl (q_assign (v := .one (iC .i64 0)) rfl) ?_
      refine ol_end ?_
      refine E_seq ?_
      refine L_ret ?_
      refine E_seqR ?_
      obtain rfl := Option.some.inj h
      exact E_endF (.inr rfl) (res_tmp rfl res_nil) (vw_cons (vd_one vc_v) vw_nil) (fun h hb => own_p) rfl rfl
    · replace h := ifF c3 h
      refine ol_put rfl rfl rfl (q_bin rfl rfl (p_lss_f _ _ _ _ _ c3) rfl) ?_
      refine ol_end ?_
      refine E_seq ?_
      refine L_condF rfl ?_
      refine L_skip ?_
      refine E_seq ?_
      refine L_seq ?_
      refine L_ops ?_
      refine ol_put rfl rfl rfl (q_move (v := .one (iC .i64 4096)) rfl) ?_
      refine ol_put rfl rfl rfl (q_bin rfl rfl (p_add _ _ _ _ _ _ _) rfl) ?_
      obtain ⟨n4, h5, h⟩ := bindS h
      refine ol_put rfl rfl rfl (q_bin rfl rfl (divO_p h5) rfl) ?_
      refine ol_put rfl rfl rfl (q_assign (v := .one (iC .i64 n4)) rfl) ?_
      refine ol_end ?_
      refine E_seq ?_
      refine L_ret ?_
      obtain rfl := Option.some.inj h
      exact E_endF (.inr rfl) (res_tmp rfl res_nil) (vw_cons (vd_one vc_v) vw_nil) (fun h hb => own_p) rfl rfl
  · replace h := ifF c2 h
    refine ol_put rfl rfl rfl (q_bin rfl rfl (p_gtr_f _ _ _ _ _ c2) rfl) ?_
    refine ol_end ?_
    refine E_seq ?_
    refine L_condF rfl ?_
    refine L_skip ?_
    refine E_seq ?_
    refine L_seq ?_
    refine L_seq ?_
    refine L_ops ?_
    refine ol_put rfl rfl rfl (q_move (v := .one (iC .i64 n1)) rfl) ?_
    by_cases c6 : n1 < 1
    · replace h := ifT c6 h
      refine ol_put rfl rfl rfl (q_bin rfl rfl (p_lss_t _ _ _ _ _ c6) rfl) ?_
      refine ol_end ?_
      refine E_seq ?_
      refine L_condT rfl ?_
      refine L_seq ?_
      refine L_ops ?_
      refine ol_put rfl rfl rfl (q_assign (v := .one (iC .i64 0)) rfl) ?_
      refine ol_end ?_
      refine E_seq ?_
      refine L_ret ?_
      refine E_seqR ?_
      obtain rfl := Option.some.inj h
      exact E_endF (.inr rfl) (res_tmp rfl res_nil) (vw_cons (vd_one vc_v) vw_nil) (fun h hb => own_p) rfl rfl
    · replace h := ifF c6 h
      refine ol_put rfl rfl rfl (q_bin rfl rfl (p_lss_f _ _ _ _ _ c6) rfl) ?_
      refine ol_end ?_
      refine E_seq ?_
      refine L_condF rfl ?_
      refine L_skip ?_
      refine E_seq ?_
      refine L_seq ?_
      refine L_ops ?_
      refine ol_put rfl rfl rfl (q_move (v := .one (iC .i64 n1)) rfl) ?_
      refine ol_put rfl rfl rfl (q_bin rfl rfl (p_add _ _ _ _ _ _ _) rfl) ?_
      obtain ⟨n7, h8, h⟩ := bindS h
      refine ol_put rfl rfl rfl (q_bin rfl rfl (divO_p h8) rfl) ?_
      refine ol_put rfl rfl rfl (q_assign (v := .one (iC .i64 n7)) rfl) ?_
      refine ol_end ?_
      refine E_seq ?_
      refine L_ret ?_
      obtain rfl := Option.some.inj h
      exact E_endF (.inr rfl) (res_tmp rfl res_nil) (vw_cons (vd_one vc_v) vw_nil) (fun h hb => own_p) rfl rfl

noncomputable def ref03_New (n1 : Int) : Option (List (Int)) :=
  ((ref03_words n1).bind fun n3 => ((lenOk n3).bind fun _ => some (List.replicate n3.toNat (0 : Int))))
theorem ref03_New_r (m : Nat) {n1 : Int} {out : List (Int)} (h : ref03_New n1 = some out) : RunsP E1 (m + 2) 58 [.one (iT .i64 n1)] (.own, [.one (.s true 1 ((out).map r54))]) := by
  refine fn_O rfl (by rw [E1_fn]; exact show fiOf Try.prog 58 = _ by unfold fiOf; rw [Try.func58]; unfold Try.f58; rfl) rfl ?_
  dsimp only
  unfold ref03_New at h
  refine L_seq ?_
  refine L_ops ?_
  refine ol_put rfl rfl rfl (q_assign (v := .one (.p true (Sl.t r54 (⟨false, 0, []⟩ : Sl (Int))))) rfl) ?_
  refine ol_end ?_
  refine E_seq ?_
  refine L_seq ?_
  refine L_ops ?_
  refine ol_put rfl rfl rfl (q_move (v := .one (iC .i64 n1)) rfl) ?_
  obtain ⟨n3, h2, h⟩ := bindS h
  refine ol_put rfl rfl rfl (q_callF (v := .one (iC .i64 n3)) (args := [.one (iC .i64 n1)]) (ref03_words_r (m + 0) h2) rfl rfl (vw_cons (vd_one vc_v) vw_nil) rfl rfl) ?_
  obtain ⟨u4, h5, h⟩ := bindS h
  refine ol_new rfl rfl rfl (q_mkslice (r := rowC r54) (a := (0 : Int)) ty62 rfl ty54 rfl rfl (lenOk_some h5).1 (lenOk_some h5).2 rfl rfl) (fun k6 => ?_)
  refine ol_put rfl rfl rfl (q_assign (v := .one (.own k6 0 ((List.replicate n3.toNat (0 : Int))).length)) rfl) ?_
  refine ol_end ?_
  refine E_seq ?_
  refine L_ret ?_
  obtain rfl := Option.some.inj h
  exact E_endO (r := r54) 0 (.inr rfl) (res_tmp rfl res_nil) rfl (fun x h m => rfl) (fun x => rfl)

noncomputable def ref03_Has (s1 : Sl (Int)) (n2 : Int) : Option (Bool) :=
  (if n2 ≥ 0 then ((divO .i64 n2 64).bind fun n4 => (if n4 < ((s1.l.length : Nat) : Int) then ((divO .i64 n2 64).bind fun n7 => ((atS 1 s1 n7).bind fun n11 => ((modO n2 64).bind fun n12 => ((shr1 .u64 n11 (IntKind.u64.wrap n12)).bind fun n14 => (if (andI .u64 n14 1) = 1 then some true else some false))))) else some false)) else some false)
theorem ref03_Has_r (m : Nat) {s1 : Sl (Int)} {n2 : Int} {out : Bool} (h : ref03_Has s1 n2 = some out) : RunsP E1 (m + 1) 57 [.one (Sl.t r54 s1), .one (iT .i64 n2)] (.fresh, [.one (bT out)]) := by
  refine fn_F rfl (by rw [E1_fn]; exact show fiOf Try.prog 57 = _ by unfold fiOf; rw [Try.func57]; unfold Try.f57; rfl) rfl ?_
  dsimp only
  unfold ref03_Has at h
  refine L_seq ?_
  refine L_ops ?_
  refine ol_put rfl rfl rfl (q_assign (v := .one (bC false)) rfl) ?_
  refine ol_end ?_
  refine E_seq ?_
  refine L_seq ?_
  refine L_ops ?_
  refine ol_put rfl rfl rfl (q_move (v := .one (iC .i64 n2)) rfl) ?_
  by_cases c3 : n2 ≥ 0
  · replace h := ifT c3 h
    refine ol_put rfl rfl rfl (q_bin rfl rfl (p_geq_t _ _ _ _ _ c3) rfl) ?_
    refine ol_put rfl rfl rfl (q_move (v := .one (bC true)) rfl) ?_
    refine ol_put rfl rfl rfl (q_move (v := .one (iC .i64 n2)) rfl) ?_
    obtain ⟨n4, h5, h⟩ := bindS h
    refine ol_put rfl rfl rfl (q_bin rfl rfl (divO_p h5) rfl) ?_
    refine ol_put rfl rfl rfl (q_move (v := .one (.p false (Sl.t r54 s1))) rfl) ?_
    refine ol_put rfl rfl rfl (q_lenS rfl ty62 rfl rfl rfl rfl) ?_
    by_cases c6 : n4 < ((s1.l.length : Nat) : Int)
    · replace h := ifT c6 h
      refine ol_put rfl rfl rfl (q_bin rfl rfl (p_lss_t _ _ _ _ _ c6) rfl) ?_
      refine ol_put rfl rfl rfl (q_pickT (v := .one (bC true)) rfl rfl) ?_
      refine ol_put rfl rfl rfl (q_move (v := .one (bC true)) rfl) ?_
      refine ol_put rfl rfl rfl (q_move (v := .one (.p false (Sl.t r54 s1))) rfl) ?_
      refine ol_put rfl rfl rfl (q_move (v := .one (iC .i64 n2)) rfl) ?_
      obtain ⟨n7, h8, h⟩ := bindS h
      refine ol_put rfl rfl rfl (q_bin rfl rfl (divO_p h8) rfl) ?_
      obtain ⟨n11, h10, h⟩ := bindS h
      obtain ⟨h10a, h10b, h10⟩ := atS_some h10
      refine ol_put rfl rfl rfl (q_ixS rfl rfl h10a h10 (el62.trans (congrArg some h10b.symm))) ?_
      refine ol_put rfl rfl rfl (q_loadI (v := .one (iC .u64 n11)) rfl sz54 (map_get h10) rfl rfl) ?_
      refine ol_put rfl rfl rfl (q_move (v := .one (iC .i64 n2)) rfl) ?_
      obtain ⟨n12, h13, h⟩ := bindS h
      refine ol_put rfl rfl rfl (q_bin rfl rfl (modO_p h13) rfl) ?_
      refine ol_put rfl rfl rfl (q_conv rfl (cv3_95_i64 _) rfl) ?_
      obtain ⟨n14, h15, h⟩ := bindS h
      refine ol_put rfl rfl rfl (q_bin rfl rfl (p_shr h15) rfl) ?_
      refine ol_put rfl rfl rfl (q_bin rfl rfl (p_and _ _ _ _ _ _ _) rfl) ?_
      by_cases c16 : (andI .u64 n14 1) = 1
      · replace h := ifT c16 h
        refine ol_put rfl rfl rfl (q_bin rfl rfl (p_eql_t _ _ _ _ _ c16) rfl) ?_
        refine ol_put rfl rfl rfl (q_pickT (v := .one (bC true)) rfl rfl) ?_
        refine ol_put rfl rfl rfl (q_assign (v := .one (bC true)) rfl) ?_
        refine ol_end ?_
        refine E_seq ?_
        refine L_ret ?_
        obtain rfl := Option.some.inj h
        exact E_endF (.inr rfl) (res_tmp rfl res_nil) (vw_cons (vd_one vc_v) vw_nil) (fun h hb => own_p) rfl rfl
      · replace h := ifF c16 h
        refine ol_put rfl rfl rfl (q_bin rfl rfl (p_eql_f _ _ _ _ _ c16) rfl) ?_
        refine ol_put rfl rfl rfl (q_pickT (v := .one (bC false)) rfl rfl) ?_
        refine ol_put rfl rfl rfl (q_assign (v := .one (bC false)) rfl) ?_
        refine ol_end ?_
        refine E_seq ?_
        refine L_ret ?_
        obtain rfl := Option.some.inj h
        exact E_endF (.inr rfl) (res_tmp rfl res_nil) (vw_cons (vd_one vc_v) vw_nil) (fun h hb => own_p) rfl rfl
    · replace h := ifF c6 h
      refine ol_put rfl rfl rfl (q_bin rfl rfl (p_lss_f _ _ _ _ _ c6) rfl) ?_
      refine ol_put rfl rfl rfl (q_pickT (v := .one (bC false)) rfl rfl) ?_
      refine ol_put rfl rfl rfl (q_move (v := .one (bC false)) rfl) ?_
      refine ol_skip rfl rfl rfl ?_
      refine ol_skip rfl rfl rfl ?_
      refine ol_skip rfl rfl rfl ?_
      refine ol_skip rfl rfl rfl ?_
      refine ol_skip rfl rfl rfl ?_
      refine ol_skip rfl rfl rfl ?_
      refine ol_skip rfl rfl rfl ?_
      refine ol_skip rfl rfl rfl ?_
      refine ol_skip rfl rfl rfl ?_
      refine ol_skip rfl rfl rfl ?_
      refine ol_skip rfl rfl rfl ?_
      refine ol_put rfl rfl rfl (q_pickF (v := .one (bC false)) rfl rfl) ?_
      refine ol_put rfl rfl rfl (q_assign (v := .one (bC false)) rfl) ?_
      refine ol_end ?_
      refine E_seq ?_
      refine L_ret ?_
      obtain rfl := Option.some.inj h
      exact E_endF (.inr rfl) (res_tmp rfl res_nil) (vw_cons (vd_one vc_v) vw_nil) (fun h hb => own_p) rfl rfl
  · replace h := ifF c3 h
    refine ol_put rfl rfl rfl (q_bin rfl rfl (p_geq_f _ _ _ _ _ c3) rfl) ?_
    refine ol_put rfl rfl rfl (q_move (v := .one (bC false)) rfl) ?_
    refine ol_skip rfl rfl rfl ?_
    refine ol_skip rfl rfl rfl ?_
    refine ol_skip rfl rfl rfl ?_
    refine ol_skip rfl rfl rfl ?_
    refine ol_skip rfl rfl rfl ?_
    refine ol_put rfl rfl rfl (q_pickF (v := .one (bC false)) rfl rfl) ?_
    refine ol_put rfl rfl rfl (q_move (v := .one (bC false)) rfl) ?_
    refine ol_skip rfl rfl rfl ?_
    refine ol_skip rfl rfl rfl ?_
    refine ol_skip rfl rfl rfl ?_
    refine ol_skip rfl rfl rfl ?_
    refine ol_skip rfl rfl rfl ?_
    refine ol_skip rfl rfl rfl ?_
    refine ol_skip rfl rfl rfl ?_
    refine ol_skip rfl rfl rfl ?_
    refine ol_skip rfl rfl rfl ?_
    refine ol_skip rfl rfl rfl ?_
    refine ol_skip rfl rfl rfl ?_
    refine ol_put rfl rfl rfl (q_pickF (v := .one (bC false)) rfl rfl) ?_
    refine ol_put rfl rfl rfl (q_assign (v := .one (bC false)) rfl) ?_
    refine ol_end ?_
    refine E_seq ?_
    refine L_ret ?_
    obtain rfl := Option.some.inj h
    exact E_endF (.inr rfl) (res_tmp rfl res_nil) (vw_cons (vd_one vc_v) vw_nil) (fun h hb => own_p) rfl rfl

noncomputable def ref03_List_b1 (s1 : Sl (Int)) (a : List (Int) × Int) : Option ((List (Int) × Int) ⊕ ((List (Int)) ⊕ (List (Int)))) :=
  match a with
  | (l27, n28) => (if n28 < (IntKind.i64.wrap (64 * ((s1.l.length : Nat) : Int))) then ((ref03_Has s1 n28).bind fun b32 => (if b32 = true then ((app l27 ([n28] : List (Int))).bind fun _ => some (.inl ((l27 ++ ([n28] : List (Int))), (IntKind.i64.wrap (n28 + 1))))) else some (.inl (l27, (IntKind.i64.wrap (n28 + 1)))))) else some (.inr (.inl l27)))
noncomputable def ref03_List (s1 : Sl (Int)) : Option (List (Int)) :=
  ((loopO (ref03_List_b1 s1) (([] : List (Int)), 0)).bind (Sum.elim (fun l36 => some l36) (fun u => some u)))
theorem ref03_List_r (m : Nat) {s1 : Sl (Int)} {out : List (Int)} (h : ref03_List s1 = some out) : RunsP E1 (m + 2) 32 [.one (Sl.t r54 s1)] (resM 1 r3 out) := by
  refine fn_M rfl (by rw [E1_fn]; exact show fiOf Try.prog 32 = _ by unfold fiOf; rw [Try.func32]; unfold Try.f32; rfl) rfl ?_
  dsimp only
  unfold ref03_List at h
  refine L_seq ?_
  refine L_ops ?_
  refine ol_put rfl rfl rfl (q_assign (v := .one (.p true (Sl.t r3 (⟨false, 0, []⟩ : Sl (Int))))) rfl) ?_
  refine ol_end ?_
  refine E_seq ?_
  refine L_seq ?_
  refine L_ops ?_
  refine ol_put rfl rfl rfl (q_assign (v := .one (.p true (Sl.t r3 (⟨false, 0, []⟩ : Sl (Int))))) rfl) ?_
  refine ol_end ?_
  refine E_seq ?_
  refine L_seq ?_
  refine L_seq ?_
  refine L_ops ?_
  refine ol_put rfl rfl rfl (q_assign (v := .one (iC .i64 0)) rfl) ?_
  refine ol_end ?_
  refine E_seq ?_
  refine L_block ?_
  refine L_addM (α := Int) r3 1 ?_
  let S1 : (List (Int) × Int) → Nat → (Nat → D) → Nat → D := fun a kt g => ups g [(0, .one (.p false (Sl.t r54 s1))), (3, .one (moC a.1 kt)), (4, .one (iC .i64 a.2))]
  let SL1 : (List (Int) × Int) → Nat → BL := fun a kt => ([moL r3 1 a.1 kt] : BL)
  let Sx1 : (List (Int)) → Nat → (Nat → D) → Nat → D := fun a kt g => ups g [(3, .one (moC a kt))]
  let SLx1 : (List (Int)) → Nat → BL := fun a kt => ([moL r3 1 a kt] : BL)
  let G1 : (List (Int)) → Ex → St → Prop := fun u => endQ E1 [.tmp 2] (resM 1 r3 u)
  let J1 : ((List (Int)) ⊕ (List (Int))) → Ex → St → Prop := JX 20 0 Sx1 SLx1 G1
  refine L_loopS (ref03_List_b1 s1) S1 SL1 J1 JX_n (([] : List (Int)), 0) h 1025 (ups_self ⟨rfl, rfl, rfl, trivial⟩) [0] (by decide) rfl ?_ ?_
  · rintro ⟨l27, n28⟩ k29 g out h
    change ref03_List_b1 s1 (l27, n28) = some out at h
    unfold ref03_List_b1 at h
    refine L_seq ?_
    refine L_seq ?_
    refine L_ops ?_
    refine ol_put rfl rfl rfl (q_move (v := .one (iC .i64 n28)) rfl) ?_
    refine ol_put rfl rfl rfl (q_move (v := .one (.p false (Sl.t r54 s1))) rfl) ?_
    refine ol_put rfl rfl rfl (q_lenS rfl ty62 rfl rfl rfl rfl) ?_
    refine ol_put rfl rfl rfl (q_bin rfl rfl (p_mul _ _ _ _ _ _ _) rfl) ?_
    by_cases c30 : n28 < (IntKind.i64.wrap (64 * ((s1.l.length : Nat) : Int)))
    · replace h := ifT c30 h
      refine ol_put rfl rfl rfl (q_bin rfl rfl (p_lss_t _ _ _ _ _ c30) rfl) ?_
      refine ol_end ?_
      refine E_seq ?_
      refine L_condT rfl ?_
      refine L_skip ?_
      refine E_seq ?_
      refine L_seq ?_
      refine L_block ?_
      refine L_seq ?_
      refine L_ops ?_
      refine ol_put rfl rfl rfl (q_move (v := .one (.p false (Sl.t r54 s1))) rfl) ?_
      refine ol_put rfl rfl rfl (q_move (v := .one (iC .i64 n28)) rfl) ?_
      obtain ⟨b32, h31, h⟩ := bindS h
      refine ol_put rfl rfl rfl (q_callF (v := .one (bC b32)) (args := [.one (.p false (Sl.t r54 s1)), .one (iC .i64 n28)]) (ref03_Has_r (m + 0) h31) rfl rfl (vw_cons (vd_one vc_s) (vw_cons (vd_one vc_v) vw_nil)) rfl rfl) ?_
      refine ol_end ?_
      refine E_seq ?_
      rcases b32 with _ | _
      · replace h := ifF (by decide) h
        refine L_condF rfl ?_
        refine L_skip ?_
        refine E_blkN ?_
        refine E_seq ?_
        refine L_ops ?_
        refine ol_put rfl rfl rfl (q_move (v := .one (iC .i64 n28)) rfl) ?_
        refine ol_put rfl rfl rfl (q_bin rfl rfl (p_add _ _ _ _ _ _ _) rfl) ?_
        refine ol_put rfl rfl rfl (q_assign (v := .one (iC .i64 (IntKind.i64.wrap (n28 + 1)))) rfl) ?_
        refine ol_end ?_
        obtain rfl := Option.some.inj h
        exact E_next k29 (ups_self ⟨rfl, rfl, rfl, trivial⟩) [0] (by decide) rfl
      · replace h := ifT (by decide) h
        refine L_condT rfl ?_
        refine L_ops ?_
        refine ol_put rfl rfl rfl (q_move (v := .one (moC l27 k29)) rfl) ?_
        refine ol_put rfl rfl rfl (q_move (v := .one (iC .i64 n28)) rfl) ?_
        refine ol_new rfl rfl rfl (q_bslice (cs := [iC .i64 n28]) (es := (([n28] : List (Int))).map (rowC r3)) ty42 rfl ty3 rfl rfl rfl rfl rfl) (fun k33 => ?_)
        obtain ⟨_, h34, h⟩ := bindS h
        obtain ⟨h34b, rfl⟩ := app_some h34
        refine ol_appM (r := r3) (l := l27) (ys := ([n28] : List (Int))) 1 rfl rfl rfl rfl rfl rfl (el_ownM (l := ([n28] : List (Int))) 0 rfl) rfl h34 (fun y => rfl) el42 ty42 rfl rfl rfl rfl rfl (fun k35 => ?_)
        refine ol_put rfl rfl rfl (q_assign (v := .one (moC (l27 ++ ([n28] : List (Int))) k35)) rfl) ?_
        refine ol_end ?_
        refine E_blkN ?_
        refine E_seq ?_
        refine L_ops ?_
        refine ol_put rfl rfl rfl (q_move (v := .one (iC .i64 n28)) rfl) ?_
        refine ol_put rfl rfl rfl (q_bin rfl rfl (p_add _ _ _ _ _ _ _) rfl) ?_
        refine ol_put rfl rfl rfl (q_assign (v := .one (iC .i64 (IntKind.i64.wrap (n28 + 1)))) rfl) ?_
        refine ol_end ?_
        obtain rfl := Option.some.inj h
        exact E_next k35 (ups_self ⟨rfl, rfl, rfl, trivial⟩) [0] (by decide) rfl
    · replace h := ifF c30 h
      refine ol_put rfl rfl rfl (q_bin rfl rfl (p_lss_f _ _ _ _ _ c30) rfl) ?_
      refine ol_end ?_
      refine E_seq ?_
      refine L_condF rfl ?_
      refine L_exit ?_
      refine E_seqX ?_
      obtain rfl := Option.some.inj h
      refine E_out ?_
      exact (E_exit k29 (ups_self ⟨rfl, trivial⟩) [0] (by decide) rfl)
  · rintro (l36 | u) h
    · refine J_x (fun k37 g => ?_)
      replace h := elimL h
      refine E_blkH ?_
      refine E_seq ?_
      refine L_seq ?_
      refine L_ops ?_
      refine ol_put rfl rfl rfl (q_move (v := .one (moC l36 k37)) rfl) ?_
      refine ol_put rfl rfl rfl (q_assign (v := .one (moC l36 k37)) rfl) ?_
      refine ol_end ?_
      refine E_seq ?_
      refine L_ret ?_
      obtain rfl := Option.some.inj h
      exact E_endM (r := r3) 0 (.inr rfl) (res_tmp rfl res_nil) rfl (fun x h m => rfl) (fun x => rfl)
    · obtain rfl := Option.some.inj (elimR h)
      exact J_up (fun s hs => hs)

noncomputable def ref03_set (s1 : Sl (Int)) (n2 : Int) (b3 : Bool) : Option (List (Int)) :=
  ((app ([] : List (Int)) s1.l).bind fun _ => (if n2 < 0 then some (([] : List (Int)) ++ s1.l) else ((divO .i64 n2 64).bind fun n8 => (if n8 ≥ ((s1.l.length : Nat) : Int) then some (([] : List (Int)) ++ s1.l) else ((modO n2 64).bind fun n11 => ((shl1 .u64 1 (IntKind.u64.wrap n11)).bind fun n13 => (if b3 = true then ((divO .i64 n2 64).bind fun n25 => ((divO .i64 n2 64).bind fun n27 => ((atS 1 (mo 1 (([] : List (Int)) ++ s1.l)) n27).bind fun n31 => ((atS 1 (mo 1 (([] : List (Int)) ++ s1.l)) n25).bind fun n34 => some ((([] : List (Int)) ++ s1.l).set n25.toNat (orI .u64 n31 n13)))))) else ((divO .i64 n2 64).bind fun n15 => ((divO .i64 n2 64).bind fun n17 => ((atS 1 (mo 1 (([] : List (Int)) ++ s1.l)) n17).bind fun n21 => ((atS 1 (mo 1 (([] : List (Int)) ++ s1.l)) n15).bind fun n24 => some ((([] : List (Int)) ++ s1.l).set n15.toNat (andNotI .u64 n21 n13)))))))))))))
theorem ref03_set_r (m : Nat) {s1 : Sl (Int)} {n2 : Int} {b3 : Bool} {out : List (Int)} (h : ref03_set s1 n2 b3 = some out) : RunsP E1 (m + 1) 74 [.one (Sl.t r54 s1), .one (iT .i64 n2), .one (bT b3)] (resM 1 r54 out) := by
  refine fn_M rfl (by rw [E1_fn]; exact show fiOf Try.prog 74 = _ by unfold fiOf; rw [Try.func74]; unfold Try.f74; rfl) rfl ?_
  dsimp only
  unfold ref03_set at h
  refine L_seq ?_
  refine L_ops ?_
  refine ol_put rfl rfl rfl (q_assign (v := .one (.p true (Sl.t r54 (⟨false, 0, []⟩ : Sl (Int))))) rfl) ?_
  refine ol_end ?_
  refine E_seq ?_
  refine L_seq ?_
  refine L_ops ?_
  refine ol_put rfl rfl rfl (q_assign (v := .one (.p true (Sl.t r54 (⟨false, 0, []⟩ : Sl (Int))))) rfl) ?_
  refine ol_end ?_
  refine E_seq ?_
  refine L_seq ?_
  refine L_ops ?_
  refine ol_put rfl rfl rfl (q_move (v := .one (.p true (Sl.t r54 (⟨false, 0, []⟩ : Sl (Int))))) rfl) ?_
  refine ol_put rfl rfl rfl (q_move (v := .one (.p false (Sl.t r54 s1))) rfl) ?_
  refine ol_addM (α := Int) r54 1 ?_
  obtain ⟨_, h4, h⟩ := bindS h
  obtain ⟨h4b, rfl⟩ := app_some h4
  refine ol_appM (r := r54) (l := ([] : List (Int))) (ys := s1.l) 0 rfl rfl rfl rfl rfl rfl (el_dat (fr := false) (r := r54) (fun x => rfl)) rfl h4 (fun y => rfl) el62 ty62 rfl rfl rfl rfl rfl (fun k6 => ?_)
  refine ol_put rfl rfl rfl (q_assign (v := .one (moC (([] : List (Int)) ++ s1.l) k6)) rfl) ?_
  refine ol_end ?_
  refine E_seq ?_
  refine L_seq ?_
  refine L_seq ?_
  refine L_ops ?_
  refine ol_put rfl rfl rfl (q_move (v := .one (iC .i64 n2)) rfl) ?_
  by_cases c7 : n2 < 0
  · replace h := ifT c7 h
    refine ol_put rfl rfl rfl (q_bin rfl rfl (p_lss_t _ _ _ _ _ c7) rfl) ?_
    refine ol_put rfl rfl rfl (q_move (v := .one (bC true)) rfl) ?_
    refine ol_skip rfl rfl rfl ?_
    refine ol_skip rfl rfl rfl ?_
    refine ol_skip rfl rfl rfl ?_
    refine ol_skip rfl rfl rfl ?_
    refine ol_skip rfl rfl rfl ?_
    refine ol_put rfl rfl rfl (q_pickT (v := .one (bC true)) rfl rfl) ?_
    refine ol_end ?_
    refine E_seq ?_
    refine L_condT rfl ?_
    refine L_seq ?_
    refine L_ops ?_
    refine ol_put rfl rfl rfl (q_move (v := .one (moC (([] : List (Int)) ++ s1.l) k6)) rfl) ?_
    refine ol_put rfl rfl rfl (q_assign (v := .one (moC (([] : List (Int)) ++ s1.l) k6)) rfl) ?_
    refine ol_end ?_
    refine E_seq ?_
    refine L_ret ?_
    refine E_seqR ?_
    obtain rfl := Option.some.inj h
    exact E_endM (r := r54) 0 (.inr rfl) (res_tmp rfl res_nil) rfl (fun x h m => rfl) (fun x => rfl)
  · replace h := ifF c7 h
    refine ol_put rfl rfl rfl (q_bin rfl rfl (p_lss_f _ _ _ _ _ c7) rfl) ?_
    refine ol_put rfl rfl rfl (q_move (v := .one (bC false)) rfl) ?_
    refine ol_put rfl rfl rfl (q_move (v := .one (iC .i64 n2)) rfl) ?_
    obtain ⟨n8, h9, h⟩ := bindS h
    refine ol_put rfl rfl rfl (q_bin rfl rfl (divO_p h9) rfl) ?_
    refine ol_put rfl rfl rfl (q_move (v := .one (.p false (Sl.t r54 s1))) rfl) ?_
    refine ol_put rfl rfl rfl (q_lenS rfl ty62 rfl rfl rfl rfl) ?_
    by_cases c10 : n8 ≥ ((s1.l.length : Nat) : Int)
    · replace h := ifT c10 h
      refine ol_put rfl rfl rfl (q_bin rfl rfl (p_geq_t _ _ _ _ _ c10) rfl) ?_
      refine ol_put rfl rfl rfl (q_pickF (v := .one (bC true)) rfl rfl) ?_
      refine ol_end ?_
      refine E_seq ?_
      refine L_condT rfl ?_
      refine L_seq ?_
      refine L_ops ?_
      refine ol_put rfl rfl rfl (q_move (v := .one (moC (([] : List (Int)) ++ s1.l) k6)) rfl) ?_
      refine ol_put rfl rfl rfl (q_assign (v := .one (moC (([] : List (Int)) ++ s1.l) k6)) rfl) ?_
      refine ol_end ?_
      refine E_seq ?_
      refine L_ret ?_
      refine E_seqR ?_
      obtain rfl := Option.some.inj h
      exact E_endM (r := r54) 0 (.inr rfl) (res_tmp rfl res_nil) rfl (fun x h m => rfl) (fun x => rfl)
    · replace h := ifF c10 h
      refine ol_put rfl rfl rfl (q_bin rfl rfl (p_geq_f _ _ _ _ _ c10) rfl) ?_
      refine ol_put rfl rfl rfl (q_pickF (v := .one (bC false)) rfl rfl) ?_
      refine ol_end ?_
      refine E_seq ?_
      refine L_condF rfl ?_
      refine L_skip ?_
      refine E_seq ?_
      refine L_seq ?_
      refine L_ops ?_
      refine ol_put rfl rfl rfl (q_move (v := .one (iC .i64 n2)) rfl) ?_
      obtain ⟨n11, h12, h⟩ := bindS h
      refine ol_put rfl rfl rfl (q_bin rfl rfl (modO_p h12) rfl) ?_
      refine ol_put rfl rfl rfl (q_conv rfl (cv3_95_i64 _) rfl) ?_
      obtain ⟨n13, h14, h⟩ := bindS h
      refine ol_put rfl rfl rfl (q_bin rfl rfl (p_shl h14) rfl) ?_
      refine ol_put rfl rfl rfl (q_assign (v := .one (iC .u64 n13)) rfl) ?_
      refine ol_end ?_
      refine E_seq ?_
      refine L_seq ?_
      refine L_seq ?_
      refine L_ops ?_
      refine ol_put rfl rfl rfl (q_move (v := .one (bC b3)) rfl) ?_
      refine ol_end ?_
      refine E_seq ?_
      rcases b3 with _ | _
      · replace h := ifF (by decide) h
        refine L_condF rfl ?_
        refine L_ops ?_
        refine ol_put rfl rfl rfl (q_move (v := .one (moC (([] : List (Int)) ++ s1.l) k6)) rfl) ?_
        refine ol_put rfl rfl rfl (q_move (v := .one (iC .i64 n2)) rfl) ?_
        obtain ⟨n15, h16, h⟩ := bindS h
        refine ol_put rfl rfl rfl (q_bin rfl rfl (divO_p h16) rfl) ?_
        refine ol_put rfl rfl rfl (q_move (v := .one (moC (([] : List (Int)) ++ s1.l) k6)) rfl) ?_
        refine ol_put rfl rfl rfl (q_move (v := .one (iC .i64 n2)) rfl) ?_
        obtain ⟨n17, h18, h⟩ := bindS h
        refine ol_put rfl rfl rfl (q_bin rfl rfl (divO_p h18) rfl) ?_
        obtain ⟨n21, h20, h⟩ := bindS h
        obtain ⟨h20a, h20⟩ := atM_some h20
        refine ol_put rfl rfl rfl (q_ixM (r := r54) 0 rfl rfl h20a h20 rfl el62) ?_
        refine ol_put rfl rfl rfl (q_loadP (v := .one (iC .u64 n21)) 0 rfl sz54 (segM (r := r54) rfl h20) (map_get h20) rfl rfl) ?_
        refine ol_put rfl rfl rfl (q_move (v := .one (iC .u64 n13)) rfl) ?_
        refine ol_put rfl rfl rfl (q_bin rfl rfl (p_andNot _ _ _ _ _ _ _) rfl) ?_
        obtain ⟨n24, h23, h⟩ := bindS h
        obtain ⟨h23a, h23⟩ := atM_some h23
        refine ol_put rfl rfl rfl (q_ixM (r := r54) 0 rfl rfl h23a h23 rfl el62) ?_
        refine ol_wr rfl rfl (q_store (e' := rowC r54 (andNotI .u64 n21 n13)) (es' := (((([] : List (Int)) ++ s1.l).set n15.toNat (andNotI .u64 n21 n13))).map (rowC r54)) 0 rfl rfl rfl sz54 rfl (segM (r := r54) rfl h23) (map_get h23) rfl map_set) (congrArg (fun z => List.set _ 0 z) (setM (r := r54) h23)) ?_
        refine ol_re 7 (v := .one (moC ((([] : List (Int)) ++ s1.l).set n15.toNat (andNotI .u64 n21 n13)) k6)) (Eq.trans (b := .one (moC (([] : List (Int)) ++ s1.l) k6)) rfl (congrArg D.one moC_set)) ?_
        refine ol_re 11 (v := .one (moC ((([] : List (Int)) ++ s1.l).set n15.toNat (andNotI .u64 n21 n13)) k6)) (Eq.trans (b := .one (moC (([] : List (Int)) ++ s1.l) k6)) rfl (congrArg D.one moC_set)) ?_
        refine ol_re 38 (v := .one (moC ((([] : List (Int)) ++ s1.l).set n15.toNat (andNotI .u64 n21 n13)) k6)) (Eq.trans (b := .one (moC (([] : List (Int)) ++ s1.l) k6)) rfl (congrArg D.one moC_set)) ?_
        refine ol_re 41 (v := .one (moC ((([] : List (Int)) ++ s1.l).set n15.toNat (andNotI .u64 n21 n13)) k6)) (Eq.trans (b := .one (moC (([] : List (Int)) ++ s1.l) k6)) rfl (congrArg D.one moC_set)) ?_
        refine ol_end ?_
        refine E_seq ?_
        refine L_seq ?_
        refine L_ops ?_
        refine ol_put rfl rfl rfl (q_move (v := .one (moC ((([] : List (Int)) ++ s1.l).set n15.toNat (andNotI .u64 n21 n13)) k6)) rfl) ?_
        refine ol_put rfl rfl rfl (q_assign (v := .one (moC ((([] : List (Int)) ++ s1.l).set n15.toNat (andNotI .u64 n21 n13)) k6)) rfl) ?_
        refine ol_end ?_
        refine E_seq ?_
        refine L_ret ?_
        obtain rfl := Option.some.inj h
        exact E_endM (r := r54) 0 (.inr rfl) (res_tmp rfl res_nil) rfl (fun x h m => rfl) (fun x => rfl)
      · replace h := ifT (by decide) h
        refine L_condT rfl ?_
        refine L_ops ?_
        refine ol_put rfl rfl rfl (q_move (v := .one (moC (([] : List (Int)) ++ s1.l) k6)) rfl) ?_
        refine ol_put rfl rfl rfl (q_move (v := .one (iC .i64 n2)) rfl) ?_
        obtain ⟨n25, h26, h⟩ := bindS h
        refine ol_put rfl rfl rfl (q_bin rfl rfl (divO_p h26) rfl) ?_
        refine ol_put rfl rfl rfl (q_move (v := .one (moC (([] : List (Int)) ++ s1.l) k6)) rfl) ?_
        refine ol_put rfl rfl rfl (q_move (v := .one (iC .i64 n2)) rfl) ?_
        obtain ⟨n27, h28, h⟩ := bindS h
        refine ol_put rfl rfl rfl (q_bin rfl rfl (divO_p h28) rfl) ?_
        obtain ⟨n31, h30, h⟩ := bindS h
        obtain ⟨h30a, h30⟩ := atM_some h30
        refine ol_put rfl rfl rfl (q_ixM (r := r54) 0 rfl rfl h30a h30 rfl el62) ?_
        refine ol_put rfl rfl rfl (q_loadP (v := .one (iC .u64 n31)) 0 rfl sz54 (segM (r := r54) rfl h30) (map_get h30) rfl rfl) ?_
        refine ol_put rfl rfl rfl (q_move (v := .one (iC .u64 n13)) rfl) ?_
        refine ol_put rfl rfl rfl (q_bin rfl rfl (p_or _ _ _ _ _ _ _) rfl) ?_
        obtain ⟨n34, h33, h⟩ := bindS h
        obtain ⟨h33a, h33⟩ := atM_some h33
        refine ol_put rfl rfl rfl (q_ixM (r := r54) 0 rfl rfl h33a h33 rfl el62) ?_
        refine ol_wr rfl rfl (q_store (e' := rowC r54 (orI .u64 n31 n13)) (es' := (((([] : List (Int)) ++ s1.l).set n25.toNat (orI .u64 n31 n13))).map (rowC r54)) 0 rfl rfl rfl sz54 rfl (segM (r := r54) rfl h33) (map_get h33) rfl map_set) (congrArg (fun z => List.set _ 0 z) (setM (r := r54) h33)) ?_
        refine ol_re 7 (v := .one (moC ((([] : List (Int)) ++ s1.l).set n25.toNat (orI .u64 n31 n13)) k6)) (Eq.trans (b := .one (moC (([] : List (Int)) ++ s1.l) k6)) rfl (congrArg D.one moC_set)) ?_
        refine ol_re 11 (v := .one (moC ((([] : List (Int)) ++ s1.l).set n25.toNat (orI .u64 n31 n13)) k6)) (Eq.trans (b := .one (moC (([] : List (Int)) ++ s1.l) k6)) rfl (congrArg D.one moC_set)) ?_
        refine ol_re 27 (v := .one (moC ((([] : List (Int)) ++ s1.l).set n25.toNat (orI .u64 n31 n13)) k6)) (Eq.trans (b := .one (moC (([] : List (Int)) ++ s1.l) k6)) rfl (congrArg D.one moC_set)) ?_
        refine ol_re 30 (v := .one (moC ((([] : List (Int)) ++ s1.l).set n25.toNat (orI .u64 n31 n13)) k6)) (Eq.trans (b := .one (moC (([] : List (Int)) ++ s1.l) k6)) rfl (congrArg D.one moC_set)) ?_
        refine ol_end ?_
        refine E_seq ?_
        refine L_seq ?_
        refine L_ops ?_
        refine ol_put rfl rfl rfl (q_move (v := .one (moC ((([] : List (Int)) ++ s1.l).set n25.toNat (orI .u64 n31 n13)) k6)) rfl) ?_
        refine ol_put rfl rfl rfl (q_assign (v := .one (moC ((([] : List (Int)) ++ s1.l).set n25.toNat (orI .u64 n31 n13)) k6)) rfl) ?_
        refine ol_end ?_
        refine E_seq ?_
        refine L_ret ?_
        obtain rfl := Option.some.inj h
        exact E_endM (r := r54) 0 (.inr rfl) (res_tmp rfl res_nil) rfl (fun x h m => rfl) (fun x => rfl)

noncomputable def ref03_Put (s1 : Sl (Int)) (n2 : Int) : Option (List (Int)) :=
  ((ref03_set s1 n2 true).bind fun s4 => some s4)
theorem ref03_Put_r (m : Nat) {s1 : Sl (Int)} {n2 : Int} {out : List (Int)} (h : ref03_Put s1 n2 = some out) : RunsP E1 (m + 2) 59 [.one (Sl.t r54 s1), .one (iT .i64 n2)] (resM 1 r54 out) := by
  refine fn_M rfl (by rw [E1_fn]; exact show fiOf Try.prog 59 = _ by unfold fiOf; rw [Try.func59]; unfold Try.f59; rfl) rfl ?_
  dsimp only
  unfold ref03_Put at h
  refine L_seq ?_
  refine L_ops ?_
  refine ol_put rfl rfl rfl (q_assign (v := .one (.p true (Sl.t r54 (⟨false, 0, []⟩ : Sl (Int))))) rfl) ?_
  refine ol_end ?_
  refine E_seq ?_
  refine L_seq ?_
  refine L_ops ?_
  refine ol_put rfl rfl rfl (q_move (v := .one (.p false (Sl.t r54 s1))) rfl) ?_
  refine ol_put rfl rfl rfl (q_move (v := .one (iC .i64 n2)) rfl) ?_
  obtain ⟨s4, h3, h⟩ := bindS h
  refine ol_callM (r := r54) (l := s4) (args := [.one (.p false (Sl.t r54 s1)), .one (iC .i64 n2), .one (bC true)]) (ref03_set_r (m + 0) h3) rfl rfl rfl rfl rfl rfl (vw_cons (vd_one vc_s) (vw_cons (vd_one vc_v) (vw_cons (vd_one vc_v) vw_nil))) rfl (fun k5 => ?_)
  refine ol_put rfl rfl rfl (q_assign (v := .one (moC s4 k5)) rfl) ?_
  refine ol_end ?_
  refine E_seq ?_
  refine L_ret ?_
  obtain rfl := Option.some.inj h
  exact E_endM (r := r54) 0 (.inr rfl) (res_tmp rfl res_nil) rfl (fun x h m => rfl) (fun x => rfl)
end Ev
end Go.Proofs.Ytioagbejilllfaa
