/- Functions of the program as functions on data, and that they are. -/
import Derived.Test.YtlcfdmjkbaegpaaLy1
namespace Go.Proofs.Ytlcfdmjkbaegpaa
namespace Ev
open Go
set_option linter.unusedVariables false
set_option linter.unusedSimpArgs false
set_option maxRecDepth 100000
set_option maxHeartbeats 1000000
attribute [local irreducible] OpsL StL TnL WpL EndL
noncomputable def law09_Few (a0 : Int × (Sl (Int × Int))) : Option ((Int × (Sl (Int × Int)))) :=
  match a0 with
  | (n1, s2) => (if ((s2.l.length : Nat) : Int) > 60 then ((cutS 2 s2 0 60).bind fun s6 => some (n1, s6)) else some (n1, s2))
theorem law09_Few_r (m : Nat) {a0 : Int × (Sl (Int × Int))} {out : (Int × (Sl (Int × Int)))} (h : law09_Few a0 = some out) : RunsX E1 (m + 1) 10 [.agg (r24 a0)] [.agg (r24 out)] := by
  obtain ⟨n1, s2⟩ := a0
  refine fn_X rfl (by rw [E1_fn]; exact show fiOf Try.prog 10 = _ by unfold fiOf; rw [Try.func10]; unfold Try.f10; rfl) rfl ?_
  dsimp only
  unfold law09_Few at h
  refine L_seq ?_
  refine L_ops ?_
  refine ol_new rfl rfl rfl (q_box ty25 rfl (cs := [iC .i64 n1, .p false (Sl.t r56 s2)]) rfl rfl) (fun k3 => ?_)
  refine ol_new rfl rfl rfl (q_alloc ty25 (row := [iC .i64 0, .p true (Sl.t r56 (⟨false, 0, []⟩ : Sl (Int × Int)))]) rfl rfl) (fun k4 => ?_)
  refine ol_end ?_
  refine E_seq ?_
  refine L_seq ?_
  refine L_seq ?_
  refine L_ops ?_
  refine ol_put rfl rfl rfl (q_fieldP rfl fa25_1 rfl) ?_
  refine ol_put rfl rfl rfl (q_loadP (v := .one (.p false (Sl.t r56 s2))) 1 rfl sz23 rfl rfl rfl rfl) ?_
  refine ol_put rfl rfl rfl (q_lenS rfl ty23 rfl rfl rfl rfl) ?_
  by_cases c5 : ((s2.l.length : Nat) : Int) > 60
  · replace h := ifT c5 h
    refine ol_put rfl rfl rfl (q_bin rfl rfl (p_gtr_t _ _ _ _ _ c5) rfl) ?_
    refine ol_end ?_
    refine E_seq ?_
    refine L_condT rfl ?_
    refine L_ops ?_
    refine ol_put rfl rfl rfl (q_fieldP rfl fa25_1 rfl) ?_
    refine ol_put rfl rfl rfl (q_loadP (v := .one (.p false (Sl.t r56 s2))) 1 rfl sz23 rfl rfl rfl rfl) ?_
    obtain ⟨s6, h7, h⟩ := bindS h
    refine ol_put rfl rfl rfl (q_sliceS (r := r56) h7 rfl ty23 rfl ty57 no_zero (no_some rfl (Int.le_trans (cutS_some h7).1.1 (cutS_some h7).1.2.1) _)) ?_
    refine ol_put rfl rfl rfl (q_fieldP rfl fa25_1 rfl) ?_
    refine ol_wr rfl rfl (q_store (es' := [[iC .i64 n1, .p false (Sl.t r56 s6)]]) 1 rfl rfl rfl sz23 rfl rfl rfl rfl rfl) rfl ?_
    refine ol_end ?_
    refine E_seq ?_
    refine L_seq ?_
    refine L_ops ?_
    refine ol_put rfl rfl rfl (q_loadP (v := .agg [iC .i64 n1, .p false (Sl.t r56 s6)]) 1 rfl sz25 rfl rfl rfl rfl) ?_
    refine ol_wr rfl rfl (q_store (es' := [[iC .i64 n1, .p false (Sl.t r56 s6)]]) 0 rfl rfl rfl sz25 rfl rfl rfl rfl rfl) rfl ?_
    refine ol_end ?_
    refine E_seq ?_
    refine L_ret ?_
    obtain rfl := Option.some.inj h
    exact E_endX (.inr rfl) (res_cell (d := .agg [iC .i64 n1, .p false (Sl.t r56 s6)]) 0 rfl sz25 rfl rfl rfl rfl res_nil) (vw_cons (vd_agg (vc_cons vc_v (vc_cons vc_s vc_nil))) vw_nil) (fun h hb => own_agg) rfl
  · replace h := ifF c5 h
    refine ol_put rfl rfl rfl (q_bin rfl rfl (p_gtr_f _ _ _ _ _ c5) rfl) ?_
    refine ol_end ?_
    refine E_seq ?_
    refine L_condF rfl ?_
    refine L_skip ?_
    refine E_seq ?_
    refine L_seq ?_
    refine L_ops ?_
    refine ol_put rfl rfl rfl (q_loadP (v := .agg [iC .i64 n1, .p false (Sl.t r56 s2)]) 1 rfl sz25 rfl rfl rfl rfl) ?_
    refine ol_wr rfl rfl (q_store (es' := [[iC .i64 n1, .p false (Sl.t r56 s2)]]) 0 rfl rfl rfl sz25 rfl rfl rfl rfl rfl) rfl ?_
    refine ol_end ?_
    refine E_seq ?_
    refine L_ret ?_
    obtain rfl := Option.some.inj h
    exact E_endX (.inr rfl) (res_cell (d := .agg [iC .i64 n1, .p false (Sl.t r56 s2)]) 0 rfl sz25 rfl rfl rfl rfl res_nil) (vw_cons (vd_agg (vc_cons vc_v (vc_cons vc_s vc_nil))) vw_nil) (fun h hb => own_agg) rfl

noncomputable def ref09_Right_b1 (n1 : Int) (s2 : Sl (Int × Int)) (n33 : Int) : Option (Int ⊕ (Unit ⊕ Bool)) :=
  (if n33 < ((s2.l.length : Nat) : Int) then ((atS 2 s2 n33).bind fun (n37, n38) => (if n37 < 0 then some (.inr (.inr false)) else (if n37 ≥ n1 then some (.inr (.inr false)) else (if n33 > 0 then ((atS 2 s2 (IntKind.i64.wrap (n33 - 1))).bind fun (n44, n45) => (if n37 ≤ n44 then some (.inr (.inr false)) else some (.inl (IntKind.i64.wrap (n33 + 1))))) else some (.inl (IntKind.i64.wrap (n33 + 1))))))) else some (.inr (.inl ())))
noncomputable def ref09_Right (a0 : Int × (Sl (Int × Int))) : Option (Bool) :=
  match a0 with
  | (n1, s2) => (if n1 < 0 then some false else (if n1 > 4096 then some false else ((loopO (ref09_Right_b1 n1 s2) 0).bind (Sum.elim (fun _ => some true) (fun u => some u)))))
theorem ref09_Right_r (m : Nat) {a0 : Int × (Sl (Int × Int))} {out : Bool} (h : ref09_Right a0 = some out) : RunsP E1 (m + 1) 65 [.agg (r24 a0)] (.fresh, [.one (bT out)]) := by
  obtain ⟨n1, s2⟩ := a0
  refine fn_F rfl (by rw [E1_fn]; exact show fiOf Try.prog 65 = _ by unfold fiOf; rw [Try.func65]; unfold Try.f65; rfl) rfl ?_
  dsimp only
  unfold ref09_Right at h
  refine L_seq ?_
  refine L_ops ?_
  refine ol_new rfl rfl rfl (q_box ty25 rfl (cs := [iC .i64 n1, .p false (Sl.t r56 s2)]) rfl rfl) (fun k3 => ?_)
  refine ol_put rfl rfl rfl (q_assign (v := .one (bC false)) rfl) ?_
  refine ol_end ?_
  refine E_seq ?_
  refine L_seq ?_
  refine L_seq ?_
  refine L_ops ?_
  refine ol_put rfl rfl rfl (q_fieldP rfl fa25_0 rfl) ?_
  refine ol_put rfl rfl rfl (q_loadP (v := .one (iC .i64 n1)) 0 rfl sz3 rfl rfl rfl rfl) ?_
  by_cases c4 : n1 < 0
  · replace h := ifT c4 h
    refine ol_put rfl rfl rfl (q_bin rfl rfl (p_lss_t _ _ _ _ _ c4) rfl) ?_
    refine ol_put rfl rfl rfl (q_move (v := .one (bC true)) rfl) ?_
    refine ol_skip rfl rfl rfl ?_
    refine ol_skip rfl rfl rfl ?_
    refine ol_skip rfl rfl rfl ?_
    refine ol_put rfl rfl rfl (q_pickT (v := .one (bC true)) rfl rfl) ?_
    refine ol_end ?_
    refine E_seq ?_
    refine L_condT rfl ?_
    refine L_seq ?_
    refine L_ops ?_
    refine ol_put rfl rfl rfl (q_assign (v := .one (bC false)) rfl) ?_
    refine ol_end ?_
    refine E_seq ?_
    refine L_ret ?_
    refine E_seqR ?_
    obtain rfl := Option.some.inj h
    exact E_endF (.inr rfl) (res_tmp rfl res_nil) (vw_cons (vd_one vc_v) vw_nil) (fun h hb => own_p) rfl rfl
  · replace h := ifF c4 h
    refine ol_put rfl rfl rfl (q_bin rfl rfl (p_lss_f _ _ _ _ _ c4) rfl) ?_
    refine ol_put rfl rfl rfl (q_move (v := .one (bC false)) rfl) ?_
    refine ol_put rfl rfl rfl (q_fieldP rfl fa25_0 rfl) ?_
    refine ol_put rfl rfl rfl (q_loadP (v := .one (iC .i64 n1)) 0 rfl sz3 rfl rfl rfl rfl) ?_
    by_cases c5 : n1 > 4096
    · replace h := ifT c5 h
      refine ol_put rfl rfl rfl (q_bin rfl rfl (p_gtr_t _ _ _ _ _ c5) rfl) ?_
      refine ol_put rfl rfl rfl (q_pickF (v := .one (bC true)) rfl rfl) ?_
      refine ol_end ?_
      refine E_seq ?_
      refine L_condT rfl ?_
      refine L_seq ?_
      refine L_ops ?_
      refine ol_put rfl rfl rfl (q_assign (v := .one (bC false)) rfl) ?_
      refine ol_end ?_
      refine E_seq ?_
      refine L_ret ?_
      refine E_seqR ?_
      obtain rfl := Option.some.inj h
      exact E_endF (.inr rfl) (res_tmp rfl res_nil) (vw_cons (vd_one vc_v) vw_nil) (fun h hb => own_p) rfl rfl
    · replace h := ifF c5 h
      refine ol_put rfl rfl rfl (q_bin rfl rfl (p_gtr_f _ _ _ _ _ c5) rfl) ?_
      refine ol_put rfl rfl rfl (q_pickF (v := .one (bC false)) rfl rfl) ?_
      refine ol_end ?_
      refine E_seq ?_
      refine L_condF rfl ?_
      refine L_skip ?_
      refine E_seq ?_
      refine L_seq ?_
      refine L_seq ?_
      refine L_ops ?_
      refine ol_put rfl rfl rfl (q_assign (v := .one (iC .i64 0)) rfl) ?_
      refine ol_end ?_
      refine E_seq ?_
      refine L_block ?_
      let S1 : Int → Unit → (Nat → D) → Nat → D := fun a kt g => ups g [(1, .one (.ptr k3 0 0)), (3, .one (iC .i64 a))]
      let SL1 : Int → Unit → BL := fun a kt => ([[(k3, 2, [[iC .i64 n1, .p false (Sl.t r56 s2)]])]] : BL)
      let G1 : Bool → Ex → St → Prop := fun u => endQ E1 [.tmp 2] (.fresh, [.one (bT u)])
      let Sx1 : Unit → Unit → (Nat → D) → Nat → D := fun a kt g => ups g []
      let SLx1 : Unit → Unit → BL := fun a kt => ([] : BL)
      let J1 : (Unit ⊕ Bool) → Ex → St → Prop := JX 57 0 Sx1 SLx1 G1
      refine L_loopS (ref09_Right_b1 n1 s2) S1 SL1 J1 JX_n 0 h () (ups_self ⟨rfl, rfl, trivial⟩) [0] (by decide) rfl ?_ ?_
      · rintro n33 _ g out h
        change ref09_Right_b1 n1 s2 n33 = some out at h
        unfold ref09_Right_b1 at h
        refine L_seq ?_
        refine L_seq ?_
        refine L_ops ?_
        refine ol_put rfl rfl rfl (q_move (v := .one (iC .i64 n33)) rfl) ?_
        refine ol_put rfl rfl rfl (q_fieldP rfl fa25_1 rfl) ?_
        refine ol_put rfl rfl rfl (q_loadP (v := .one (.p false (Sl.t r56 s2))) 0 rfl sz23 rfl rfl rfl rfl) ?_
        refine ol_put rfl rfl rfl (q_lenS rfl ty23 rfl rfl rfl rfl) ?_
        by_cases c34 : n33 < ((s2.l.length : Nat) : Int)
        · replace h := ifT c34 h
          refine ol_put rfl rfl rfl (q_bin rfl rfl (p_lss_t _ _ _ _ _ c34) rfl) ?_
          refine ol_end ?_
          refine E_seq ?_
          refine L_condT rfl ?_
          refine L_skip ?_
          refine E_seq ?_
          refine L_seq ?_
          refine L_block ?_
          refine L_seq ?_
          refine L_still (by kernel_rfl) ?_
          refine st_put rfl rfl rfl (q_fieldP rfl fa25_1 rfl) ?_
          refine st_put rfl rfl rfl (q_loadP (v := .one (.p false (Sl.t r56 s2))) 0 rfl sz23 rfl rfl rfl rfl) ?_
          refine st_put rfl rfl rfl (q_move (v := .one (iC .i64 n33)) rfl) ?_
          obtain ⟨⟨n37, n38⟩, h36, h⟩ := bindS h
          obtain ⟨h36a, h36b, h36⟩ := atS_some h36
          refine st_put rfl rfl rfl (q_ixS rfl rfl h36a h36 (el23.trans (congrArg some h36b.symm))) ?_
          refine st_put rfl rfl rfl (q_fieldI rfl fa57_0 rfl) ?_
          refine st_put rfl rfl rfl (q_loadI (v := .one (iC .i64 n37)) rfl sz3 (map_get h36) rfl rfl) ?_
          by_cases c39 : n37 < 0
          · replace h := ifT c39 h
            refine st_put rfl rfl rfl (q_bin rfl rfl (p_lss_t _ _ _ _ _ c39) rfl) ?_
            refine st_put rfl rfl rfl (q_move (v := .one (bC true)) rfl) ?_
            refine st_skip rfl rfl rfl ?_
            refine st_skip rfl rfl rfl ?_
            refine st_skip rfl rfl rfl ?_
            refine st_skip rfl rfl rfl ?_
            refine st_skip rfl rfl rfl ?_
            refine st_skip rfl rfl rfl ?_
            refine st_skip rfl rfl rfl ?_
            refine st_skip rfl rfl rfl ?_
            refine st_skip rfl rfl rfl ?_
            refine st_put rfl rfl rfl (q_pickT (v := .one (bC true)) rfl rfl) ?_
            refine st_put rfl rfl rfl (q_move (v := .one (bC true)) rfl) ?_
            refine st_skip rfl rfl rfl ?_
            refine st_skip rfl rfl rfl ?_
            refine st_skip rfl rfl rfl ?_
            refine st_skip rfl rfl rfl ?_
            refine st_skip rfl rfl rfl ?_
            refine st_skip rfl rfl rfl ?_
            refine st_skip rfl rfl rfl ?_
            refine st_skip rfl rfl rfl ?_
            refine st_skip rfl rfl rfl ?_
            refine st_skip rfl rfl rfl ?_
            refine st_skip rfl rfl rfl ?_
            refine st_skip rfl rfl rfl ?_
            refine st_skip rfl rfl rfl ?_
            refine st_skip rfl rfl rfl ?_
            refine st_skip rfl rfl rfl ?_
            refine st_skip rfl rfl rfl ?_
            refine st_skip rfl rfl rfl ?_
            refine st_skip rfl rfl rfl ?_
            refine st_put rfl rfl rfl (q_pickT (v := .one (bC true)) rfl rfl) ?_
            refine st_end ?_
            refine E_seq ?_
            refine L_condT rfl ?_
            refine L_seq ?_
            refine L_ops ?_
            refine ol_put rfl rfl rfl (q_assign (v := .one (bC false)) rfl) ?_
            refine ol_end ?_
            refine E_seq ?_
            refine L_ret ?_
            refine E_blkR ?_
            refine E_seqR ?_
            obtain rfl := Option.some.inj h
            exact E_out (E_up (E_endF (.inr rfl) (res_tmp rfl res_nil) (vw_cons (vd_one vc_v) vw_nil) (fun h hb => own_p) rfl rfl))
          · replace h := ifF c39 h
            refine st_put rfl rfl rfl (q_bin rfl rfl (p_lss_f _ _ _ _ _ c39) rfl) ?_
            refine st_put rfl rfl rfl (q_move (v := .one (bC false)) rfl) ?_
            refine st_put rfl rfl rfl (q_fieldP rfl fa25_1 rfl) ?_
            refine st_put rfl rfl rfl (q_loadP (v := .one (.p false (Sl.t r56 s2))) 0 rfl sz23 rfl rfl rfl rfl) ?_
            refine st_put rfl rfl rfl (q_move (v := .one (iC .i64 n33)) rfl) ?_
            refine st_put rfl rfl rfl (q_ixS rfl rfl h36a h36 (el23.trans (congrArg some h36b.symm))) ?_
            refine st_put rfl rfl rfl (q_fieldI rfl fa57_0 rfl) ?_
            refine st_put rfl rfl rfl (q_loadI (v := .one (iC .i64 n37)) rfl sz3 (map_get h36) rfl rfl) ?_
            refine st_put rfl rfl rfl (q_fieldP rfl fa25_0 rfl) ?_
            refine st_put rfl rfl rfl (q_loadP (v := .one (iC .i64 n1)) 0 rfl sz3 rfl rfl rfl rfl) ?_
            by_cases c40 : n37 ≥ n1
            · replace h := ifT c40 h
              refine st_put rfl rfl rfl (q_bin rfl rfl (p_geq_t _ _ _ _ _ c40) rfl) ?_
              refine st_put rfl rfl rfl (q_pickF (v := .one (bC true)) rfl rfl) ?_
              refine st_put rfl rfl rfl (q_move (v := .one (bC true)) rfl) ?_
              refine st_skip rfl rfl rfl ?_
              refine st_skip rfl rfl rfl ?_
              refine st_skip rfl rfl rfl ?_
              refine st_skip rfl rfl rfl ?_
              refine st_skip rfl rfl rfl ?_
              refine st_skip rfl rfl rfl ?_
              refine st_skip rfl rfl rfl ?_
              refine st_skip rfl rfl rfl ?_
              refine st_skip rfl rfl rfl ?_
              refine st_skip rfl rfl rfl ?_
              refine st_skip rfl rfl rfl ?_
              refine st_skip rfl rfl rfl ?_
              refine st_skip rfl rfl rfl ?_
              refine st_skip rfl rfl rfl ?_
              refine st_skip rfl rfl rfl ?_
              refine st_skip rfl rfl rfl ?_
              refine st_skip rfl rfl rfl ?_
              refine st_skip rfl rfl rfl ?_
              refine st_put rfl rfl rfl (q_pickT (v := .one (bC true)) rfl rfl) ?_
              refine st_end ?_
              refine E_seq ?_
              refine L_condT rfl ?_
              refine L_seq ?_
              refine L_ops ?_
              refine ol_put rfl rfl rfl (q_assign (v := .one (bC false)) rfl) ?_
              refine ol_end ?_
              refine E_seq ?_
              refine L_ret ?_
              refine E_blkR ?_
              refine E_seqR ?_
              obtain rfl := Option.some.inj h
              exact E_out (E_up (E_endF (.inr rfl) (res_tmp rfl res_nil) (vw_cons (vd_one vc_v) vw_nil) (fun h hb => own_p) rfl rfl))
            · replace h := ifF c40 h
              refine st_put rfl rfl rfl (q_bin rfl rfl (p_geq_f _ _ _ _ _ c40) rfl) ?_
              refine st_put rfl rfl rfl (q_pickF (v := .one (bC false)) rfl rfl) ?_
              refine st_put rfl rfl rfl (q_move (v := .one (bC false)) rfl) ?_
              refine st_put rfl rfl rfl (q_move (v := .one (iC .i64 n33)) rfl) ?_
              by_cases c41 : n33 > 0
              · replace h := ifT c41 h
                refine st_put rfl rfl rfl (q_bin rfl rfl (p_gtr_t _ _ _ _ _ c41) rfl) ?_
                refine st_put rfl rfl rfl (q_move (v := .one (bC true)) rfl) ?_
                refine st_put rfl rfl rfl (q_fieldP rfl fa25_1 rfl) ?_
                refine st_put rfl rfl rfl (q_loadP (v := .one (.p false (Sl.t r56 s2))) 0 rfl sz23 rfl rfl rfl rfl) ?_
                refine st_put rfl rfl rfl (q_move (v := .one (iC .i64 n33)) rfl) ?_
                refine st_put rfl rfl rfl (q_ixS rfl rfl h36a h36 (el23.trans (congrArg some h36b.symm))) ?_
                refine st_put rfl rfl rfl (q_fieldI rfl fa57_0 rfl) ?_
                refine st_put rfl rfl rfl (q_loadI (v := .one (iC .i64 n37)) rfl sz3 (map_get h36) rfl rfl) ?_
                refine st_put rfl rfl rfl (q_fieldP rfl fa25_1 rfl) ?_
                refine st_put rfl rfl rfl (q_loadP (v := .one (.p false (Sl.t r56 s2))) 0 rfl sz23 rfl rfl rfl rfl) ?_
                refine st_put rfl rfl rfl (q_move (v := .one (iC .i64 n33)) rfl) ?_
                refine st_put rfl rfl rfl (q_bin rfl rfl (p_sub _ _ _ _ _ _ _) rfl) ?_
                obtain ⟨⟨n44, n45⟩, h43, h⟩ := bindS h
                obtain ⟨h43a, h43b, h43⟩ := atS_some h43
                refine st_put rfl rfl rfl (q_ixS rfl rfl h43a h43 (el23.trans (congrArg some h43b.symm))) ?_
                refine st_put rfl rfl rfl (q_fieldI rfl fa57_0 rfl) ?_
                refine st_put rfl rfl rfl (q_loadI (v := .one (iC .i64 n44)) rfl sz3 (map_get h43) rfl rfl) ?_
                by_cases c46 : n37 ≤ n44
                · replace h := ifT c46 h
                  refine st_put rfl rfl rfl (q_bin rfl rfl (p_leq_t _ _ _ _ _ c46) rfl) ?_
                  refine st_put rfl rfl rfl (q_pickT (v := .one (bC true)) rfl rfl) ?_
                  refine st_put rfl rfl rfl (q_pickF (v := .one (bC true)) rfl rfl) ?_
                  refine st_end ?_
                  refine E_seq ?_
                  refine L_condT rfl ?_
                  refine L_seq ?_
                  refine L_ops ?_
                  refine ol_put rfl rfl rfl (q_assign (v := .one (bC false)) rfl) ?_
                  refine ol_end ?_
                  refine E_seq ?_
                  refine L_ret ?_
                  refine E_blkR ?_
                  refine E_seqR ?_
                  obtain rfl := Option.some.inj h
                  exact E_out (E_up (E_endF (.inr rfl) (res_tmp rfl res_nil) (vw_cons (vd_one vc_v) vw_nil) (fun h hb => own_p) rfl rfl))
                · replace h := ifF c46 h
                  refine st_put rfl rfl rfl (q_bin rfl rfl (p_leq_f _ _ _ _ _ c46) rfl) ?_
                  refine st_put rfl rfl rfl (q_pickT (v := .one (bC false)) rfl rfl) ?_
                  refine st_put rfl rfl rfl (q_pickF (v := .one (bC false)) rfl rfl) ?_
                  refine st_end ?_
                  refine E_seq ?_
                  refine L_condF rfl ?_
                  refine L_skip ?_
                  refine E_blkN ?_
                  refine E_seq ?_
                  refine L_ops ?_
                  refine ol_put rfl rfl rfl (q_move (v := .one (iC .i64 n33)) rfl) ?_
                  refine ol_put rfl rfl rfl (q_bin rfl rfl (p_add _ _ _ _ _ _ _) rfl) ?_
                  refine ol_put rfl rfl rfl (q_assign (v := .one (iC .i64 (IntKind.i64.wrap (n33 + 1)))) rfl) ?_
                  refine ol_end ?_
                  obtain rfl := Option.some.inj h
                  exact E_next () (ups_self ⟨rfl, rfl, trivial⟩) [0] (by decide) rfl
              · replace h := ifF c41 h
                refine st_put rfl rfl rfl (q_bin rfl rfl (p_gtr_f _ _ _ _ _ c41) rfl) ?_
                refine st_put rfl rfl rfl (q_move (v := .one (bC false)) rfl) ?_
                refine st_skip rfl rfl rfl ?_
                refine st_skip rfl rfl rfl ?_
                refine st_skip rfl rfl rfl ?_
                refine st_skip rfl rfl rfl ?_
                refine st_skip rfl rfl rfl ?_
                refine st_skip rfl rfl rfl ?_
                refine st_skip rfl rfl rfl ?_
                refine st_skip rfl rfl rfl ?_
                refine st_skip rfl rfl rfl ?_
                refine st_skip rfl rfl rfl ?_
                refine st_skip rfl rfl rfl ?_
                refine st_skip rfl rfl rfl ?_
                refine st_skip rfl rfl rfl ?_
                refine st_skip rfl rfl rfl ?_
                refine st_put rfl rfl rfl (q_pickF (v := .one (bC false)) rfl rfl) ?_
                refine st_put rfl rfl rfl (q_pickF (v := .one (bC false)) rfl rfl) ?_
                refine st_end ?_
                refine E_seq ?_
                refine L_condF rfl ?_
                refine L_skip ?_
                refine E_blkN ?_
                refine E_seq ?_
                refine L_ops ?_
                refine ol_put rfl rfl rfl (q_move (v := .one (iC .i64 n33)) rfl) ?_
                refine ol_put rfl rfl rfl (q_bin rfl rfl (p_add _ _ _ _ _ _ _) rfl) ?_
                refine ol_put rfl rfl rfl (q_assign (v := .one (iC .i64 (IntKind.i64.wrap (n33 + 1)))) rfl) ?_
                refine ol_end ?_
                obtain rfl := Option.some.inj h
                exact E_next () (ups_self ⟨rfl, rfl, trivial⟩) [0] (by decide) rfl
        · replace h := ifF c34 h
          refine ol_put rfl rfl rfl (q_bin rfl rfl (p_lss_f _ _ _ _ _ c34) rfl) ?_
          refine ol_end ?_
          refine E_seq ?_
          refine L_condF rfl ?_
          refine L_exit ?_
          refine E_seqX ?_
          obtain rfl := Option.some.inj h
          refine E_out ?_
          exact (E_exit () (ups_self trivial) [] (by decide) rfl)
      · rintro (_ | u) h
        · refine J_x (fun kt g => ?_)
          replace h := elimL h
          refine E_blkH ?_
          refine E_seq ?_
          refine L_seq ?_
          refine L_ops ?_
          refine ol_put rfl rfl rfl (q_assign (v := .one (bC true)) rfl) ?_
          refine ol_end ?_
          refine E_seq ?_
          refine L_ret ?_
          obtain rfl := Option.some.inj h
          exact E_endF (.inr rfl) (res_tmp rfl res_nil) (vw_cons (vd_one vc_v) vw_nil) (fun h hb => own_p) rfl rfl
        · obtain rfl := Option.some.inj (elimR h)
          exact J_up (fun s hs => hs)

noncomputable def ref09_Sure (a0 : Int × (Sl (Int × Int))) : Option ((Int × (Sl (Int × Int)))) :=
  match a0 with
  | (n1, s2) => ((ref09_Right (n1, s2)).bind fun b6 => (if b6 = true then some (n1, s2) else some (0, (⟨false, 0, []⟩ : Sl (Int × Int)))))
theorem ref09_Sure_r (m : Nat) {a0 : Int × (Sl (Int × Int))} {out : (Int × (Sl (Int × Int)))} (h : ref09_Sure a0 = some out) : RunsX E1 (m + 2) 37 [.agg (r24 a0)] [.agg (r24 out)] := by
  obtain ⟨n1, s2⟩ := a0
  refine fn_X rfl (by rw [E1_fn]; exact show fiOf Try.prog 37 = _ by unfold fiOf; rw [Try.func37]; unfold Try.f37; rfl) rfl ?_
  dsimp only
  unfold ref09_Sure at h
  refine L_seq ?_
  refine L_ops ?_
  refine ol_new rfl rfl rfl (q_box ty25 rfl (cs := [iC .i64 n1, .p false (Sl.t r56 s2)]) rfl rfl) (fun k3 => ?_)
  refine ol_new rfl rfl rfl (q_alloc ty25 (row := [iC .i64 0, .p true (Sl.t r56 (⟨false, 0, []⟩ : Sl (Int × Int)))]) rfl rfl) (fun k4 => ?_)
  refine ol_end ?_
  refine E_seq ?_
  refine L_seq ?_
  refine L_seq ?_
  refine L_ops ?_
  refine ol_put rfl rfl rfl (q_loadP (v := .agg [iC .i64 n1, .p false (Sl.t r56 s2)]) 1 rfl sz25 rfl rfl rfl rfl) ?_
  obtain ⟨b6, h5, h⟩ := bindS h
  refine ol_put rfl rfl rfl (q_callF (v := .one (bC b6)) (args := [.agg [iC .i64 n1, .p false (Sl.t r56 s2)]]) (ref09_Right_r (m + 0) h5) rfl rfl (vw_cons (vd_agg (vc_cons vc_v (vc_cons vc_s vc_nil))) vw_nil) rfl rfl) ?_
  refine ol_end ?_
  refine E_seq ?_
  rcases b6 with _ | _
  · replace h := ifF (by decide) h
    refine L_condF rfl ?_
    refine L_skip ?_
    refine E_seq ?_
    refine L_seq ?_
    refine L_ops ?_
    refine ol_put rfl rfl rfl (q_build (cs := [iC .i64 0, .p true (Sl.t r56 (⟨false, 0, []⟩ : Sl (Int × Int)))]) ty25 rfl pl25 rfl) ?_
    refine ol_wr rfl rfl (q_store (es' := [[iC .i64 0, .p true (Sl.t r56 (⟨false, 0, []⟩ : Sl (Int × Int)))]]) 0 rfl rfl rfl sz25 rfl rfl rfl rfl rfl) rfl ?_
    refine ol_end ?_
    refine E_seq ?_
    refine L_ret ?_
    obtain rfl := Option.some.inj h
    exact E_endX (.inr rfl) (res_cell (d := .agg [iC .i64 0, .p true (Sl.t r56 (⟨false, 0, []⟩ : Sl (Int × Int)))]) 0 rfl sz25 rfl rfl rfl rfl res_nil) (vw_cons (vd_agg (vc_cons vc_v (vc_cons vc_s vc_nil))) vw_nil) (fun h hb => own_agg) rfl
  · replace h := ifT (by decide) h
    refine L_condT rfl ?_
    refine L_seq ?_
    refine L_ops ?_
    refine ol_put rfl rfl rfl (q_loadP (v := .agg [iC .i64 n1, .p false (Sl.t r56 s2)]) 1 rfl sz25 rfl rfl rfl rfl) ?_
    refine ol_wr rfl rfl (q_store (es' := [[iC .i64 n1, .p false (Sl.t r56 s2)]]) 0 rfl rfl rfl sz25 rfl rfl rfl rfl rfl) rfl ?_
    refine ol_end ?_
    refine E_seq ?_
    refine L_ret ?_
    refine E_seqR ?_
    obtain rfl := Option.some.inj h
    exact E_endX (.inr rfl) (res_cell (d := .agg [iC .i64 n1, .p false (Sl.t r56 s2)]) 0 rfl sz25 rfl rfl rfl rfl res_nil) (vw_cons (vd_agg (vc_cons vc_v (vc_cons vc_s vc_nil))) vw_nil) (fun h hb => own_agg) rfl

noncomputable def ref11_has_b1 (s2 : Sl (Int × Int)) (n3 : Int) (n18 : Int) : Option (Int ⊕ (Unit ⊕ (Int × Bool))) :=
  (if n18 < ((s2.l.length : Nat) : Int) then ((atS 2 s2 n18).bind fun (n22, n23) => (if n22 = n3 then some (.inr (.inr (n23, true))) else some (.inl (IntKind.i64.wrap (n18 + 1))))) else some (.inr (.inl ())))
noncomputable def ref11_has (a0 : Int × (Sl (Int × Int))) (n3 : Int) : Option (Int × Bool) :=
  match a0 with
  | (n1, s2) => ((loopO (ref11_has_b1 s2 n3) 0).bind (Sum.elim (fun _ => some (0, false)) (fun u => some u)))
theorem ref11_has_r (m : Nat) {a0 : Int × (Sl (Int × Int))} {n3 : Int} {out : Int × Bool} (h : ref11_has a0 n3 = some out) : RunsP E1 (m + 1) 38 [.agg (r24 a0), .one (iT .i64 n3)] (.fresh, [.one (iT .i64 out.1), .one (bT out.2)]) := by
  obtain ⟨n1, s2⟩ := a0
  refine fn_F rfl (by rw [E1_fn]; exact show fiOf Try.prog 38 = _ by unfold fiOf; rw [Try.func38]; unfold Try.f38; rfl) rfl ?_
  dsimp only
  unfold ref11_has at h
  refine L_seq ?_
  refine L_ops ?_
  refine ol_new rfl rfl rfl (q_box ty25 rfl (cs := [iC .i64 n1, .p false (Sl.t r56 s2)]) rfl rfl) (fun k4 => ?_)
  refine ol_put rfl rfl rfl (q_assign (v := .one (iC .i64 0)) rfl) ?_
  refine ol_put rfl rfl rfl (q_assign (v := .one (bC false)) rfl) ?_
  refine ol_end ?_
  refine E_seq ?_
  refine L_seq ?_
  refine L_seq ?_
  refine L_ops ?_
  refine ol_put rfl rfl rfl (q_assign (v := .one (iC .i64 0)) rfl) ?_
  refine ol_end ?_
  refine E_seq ?_
  refine L_block ?_
  let S1 : Int → Unit → (Nat → D) → Nat → D := fun a kt g => ups g [(1, .one (iC .i64 n3)), (2, .one (.ptr k4 0 0)), (6, .one (iC .i64 a))]
  let SL1 : Int → Unit → BL := fun a kt => ([[(k4, 2, [[iC .i64 n1, .p false (Sl.t r56 s2)]])]] : BL)
  let G1 : (Int × Bool) → Ex → St → Prop := fun u => endQ E1 [.tmp 4, .tmp 5] (.fresh, [.one (iT .i64 u.1), .one (bT u.2)])
  let Sx1 : Unit → Unit → (Nat → D) → Nat → D := fun a kt g => ups g []
  let SLx1 : Unit → Unit → BL := fun a kt => ([] : BL)
  let J1 : (Unit ⊕ (Int × Bool)) → Ex → St → Prop := JX 28 0 Sx1 SLx1 G1
  refine L_loopS (ref11_has_b1 s2 n3) S1 SL1 J1 JX_n 0 h () (ups_self ⟨rfl, rfl, rfl, trivial⟩) [0] (by decide) rfl ?_ ?_
  · rintro n18 _ g out h
    change ref11_has_b1 s2 n3 n18 = some out at h
    unfold ref11_has_b1 at h
    refine L_seq ?_
    refine L_seq ?_
    refine L_ops ?_
    refine ol_put rfl rfl rfl (q_move (v := .one (iC .i64 n18)) rfl) ?_
    refine ol_put rfl rfl rfl (q_fieldP rfl fa25_1 rfl) ?_
    refine ol_put rfl rfl rfl (q_loadP (v := .one (.p false (Sl.t r56 s2))) 0 rfl sz23 rfl rfl rfl rfl) ?_
    refine ol_put rfl rfl rfl (q_lenS rfl ty23 rfl rfl rfl rfl) ?_
    by_cases c19 : n18 < ((s2.l.length : Nat) : Int)
    · replace h := ifT c19 h
      refine ol_put rfl rfl rfl (q_bin rfl rfl (p_lss_t _ _ _ _ _ c19) rfl) ?_
      refine ol_end ?_
      refine E_seq ?_
      refine L_condT rfl ?_
      refine L_skip ?_
      refine E_seq ?_
      refine L_seq ?_
      refine L_block ?_
      refine L_seq ?_
      refine L_ops ?_
      refine ol_put rfl rfl rfl (q_fieldP rfl fa25_1 rfl) ?_
      refine ol_put rfl rfl rfl (q_loadP (v := .one (.p false (Sl.t r56 s2))) 0 rfl sz23 rfl rfl rfl rfl) ?_
      refine ol_put rfl rfl rfl (q_move (v := .one (iC .i64 n18)) rfl) ?_
      obtain ⟨⟨n22, n23⟩, h21, h⟩ := bindS h
      obtain ⟨h21a, h21b, h21⟩ := atS_some h21
      refine ol_put rfl rfl rfl (q_ixS rfl rfl h21a h21 (el23.trans (congrArg some h21b.symm))) ?_
      refine ol_put rfl rfl rfl (q_fieldI rfl fa57_0 rfl) ?_
      refine ol_put rfl rfl rfl (q_loadI (v := .one (iC .i64 n22)) rfl sz3 (map_get h21) rfl rfl) ?_
      refine ol_put rfl rfl rfl (q_move (v := .one (iC .i64 n3)) rfl) ?_
      by_cases c24 : n22 = n3
      · replace h := ifT c24 h
        refine ol_put rfl rfl rfl (q_bin rfl rfl (p_eql_t _ _ _ _ _ c24) rfl) ?_
        refine ol_end ?_
        refine E_seq ?_
        refine L_condT rfl ?_
        refine L_seq ?_
        refine L_ops ?_
        refine ol_put rfl rfl rfl (q_fieldP rfl fa25_1 rfl) ?_
        refine ol_put rfl rfl rfl (q_loadP (v := .one (.p false (Sl.t r56 s2))) 0 rfl sz23 rfl rfl rfl rfl) ?_
        refine ol_put rfl rfl rfl (q_move (v := .one (iC .i64 n18)) rfl) ?_
        refine ol_put rfl rfl rfl (q_ixS rfl rfl h21a h21 (el23.trans (congrArg some h21b.symm))) ?_
        refine ol_put rfl rfl rfl (q_fieldI rfl fa57_1 rfl) ?_
        refine ol_put rfl rfl rfl (q_loadI (v := .one (iC .i64 n23)) rfl sz2 (map_get h21) rfl rfl) ?_
        refine ol_put rfl rfl rfl (q_assign (v := .one (iC .i64 n23)) rfl) ?_
        refine ol_put rfl rfl rfl (q_assign (v := .one (bC true)) rfl) ?_
        refine ol_end ?_
        refine E_seq ?_
        refine L_ret ?_
        refine E_blkR ?_
        refine E_seqR ?_
        obtain rfl := Option.some.inj h
        exact E_out (E_up (E_endF (.inr rfl) (res_tmp rfl (res_tmp rfl res_nil)) (vw_cons (vd_one vc_v) (vw_cons (vd_one vc_v) vw_nil)) (fun h hb => own_no2) rfl rfl))
      · replace h := ifF c24 h
        refine ol_put rfl rfl rfl (q_bin rfl rfl (p_eql_f _ _ _ _ _ c24) rfl) ?_
        refine ol_end ?_
        refine E_seq ?_
        refine L_condF rfl ?_
        refine L_skip ?_
        refine E_blkN ?_
        refine E_seq ?_
        refine L_ops ?_
        refine ol_put rfl rfl rfl (q_move (v := .one (iC .i64 n18)) rfl) ?_
        refine ol_put rfl rfl rfl (q_bin rfl rfl (p_add _ _ _ _ _ _ _) rfl) ?_
        refine ol_put rfl rfl rfl (q_assign (v := .one (iC .i64 (IntKind.i64.wrap (n18 + 1)))) rfl) ?_
        refine ol_end ?_
        obtain rfl := Option.some.inj h
        exact E_next () (ups_self ⟨rfl, rfl, rfl, trivial⟩) [0] (by decide) rfl
    · replace h := ifF c19 h
      refine ol_put rfl rfl rfl (q_bin rfl rfl (p_lss_f _ _ _ _ _ c19) rfl) ?_
      refine ol_end ?_
      refine E_seq ?_
      refine L_condF rfl ?_
      refine L_exit ?_
      refine E_seqX ?_
      obtain rfl := Option.some.inj h
      refine E_out ?_
      exact (E_exit () (ups_self trivial) [] (by decide) rfl)
  · rintro (_ | u) h
    · refine J_x (fun kt g => ?_)
      replace h := elimL h
      refine E_blkH ?_
      refine E_seq ?_
      refine L_seq ?_
      refine L_ops ?_
      refine ol_put rfl rfl rfl (q_assign (v := .one (iC .i64 0)) rfl) ?_
      refine ol_put rfl rfl rfl (q_assign (v := .one (bC false)) rfl) ?_
      refine ol_end ?_
      refine E_seq ?_
      refine L_ret ?_
      obtain rfl := Option.some.inj h
      exact E_endF (.inr rfl) (res_tmp rfl (res_tmp rfl res_nil)) (vw_cons (vd_one vc_v) (vw_cons (vd_one vc_v) vw_nil)) (fun h hb => own_no2) rfl rfl
    · obtain rfl := Option.some.inj (elimR h)
      exact J_up (fun s hs => hs)
end Ev
end Go.Proofs.Ytlcfdmjkbaegpaa
