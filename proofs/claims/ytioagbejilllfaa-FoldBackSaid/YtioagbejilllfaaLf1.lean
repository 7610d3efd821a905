/- Functions of the program as functions on data, and that they are. -/
import Derived.Test.YtioagbejilllfaaLy1
import Derived.Test.YtioagbejilllfaaLy2
namespace Go.Proofs.Ytioagbejilllfaa
namespace Ev
open Go
set_option linter.unusedVariables false
set_option linter.unusedSimpArgs false
set_option maxRecDepth 100000
set_option maxHeartbeats 1000000
attribute [local irreducible] OpsL StL TnL WpL EndL
noncomputable def law09_Few (a0 : Int × (Sl (Int × Int))) : Option ((Int × (Sl (Int × Int)))) :=
  match a0 with
  | (n1, s2) => (if ((s2.l.length : Nat) : Int) > 60 then ((cutS 2 s2 0 60).bind fun s6 => some (n1, s6)) else some (n1, s2))
theorem law09_Few_r (m : Nat) {a0 : Int × (Sl (Int × Int))} {out : (Int × (Sl (Int × Int)))} (h : law09_Few a0 = some out) : RunsX E1 (m + 1) 10 [.agg (r24 a0)] [.agg (r24 out)] := by
  obtain ⟨n1, s2⟩ := a0
  refine fn_X rfl (by rw [E1_fn]; exact show fiOf Try.prog 10 = _ by unfold fiOf; rw [Try.func10]; unfold Try.f10; rfl) rfl ?_
  dsimp only
  unfold law09_Few at h
  refine L_seq ?_
  refine L_ops ?_
  refine ol_new rfl rfl rfl (q_box ty25 rfl (cs := [iC .i64 n1, .p false (Sl.t r33 s2)]) rfl rfl) (fun k3 => ?_)
  refine ol_new rfl rfl rfl (q_alloc ty25 (row := [iC .i64 0, .p true (Sl.t r33 (⟨false, 0, []⟩ : Sl (Int × Int)))]) rfl rfl) (fun k4 => ?_)
  refine ol_end ?_
  refine E_seq ?_
  refine L_seq ?_
  refine L_seq ?_
  refine L_ops ?_
  refine ol_put rfl rfl rfl (q_fieldP rfl fa25_1 rfl) ?_
  refine ol_put rfl rfl rfl (q_loadP (v := .one (.p false (Sl.t r33 s2))) 1 rfl sz23 rfl rfl rfl rfl) ?_
  refine ol_put rfl rfl rfl (q_lenS rfl ty23 rfl rfl rfl rfl) ?_
  by_cases c5 : ((s2.l.length : Nat) : Int) > 60
  · replace h := ifT c5 h
    refine ol_put rfl rfl rfl (q_bin rfl rfl (p_gtr_t _ _ _ _ _ c5) rfl) ?_
    refine ol_end ?_
    refine E_seq ?_
    refine L_condT rfl ?_
    refine L_ops ?_
    refine ol_put rfl rfl rfl (q_fieldP rfl fa25_1 rfl) ?_
    refine ol_put rfl rfl rfl (q_loadP (v := .one (.p false (Sl.t r33 s2))) 1 rfl sz23 rfl rfl rfl rfl) ?_
    obtain ⟨s6, h7, h⟩ := bindS h
    refine ol_put rfl rfl rfl (q_sliceS (r := r33) h7 rfl ty23 rfl ty34 no_zero (no_some rfl (Int.le_trans (cutS_some h7).1.1 (cutS_some h7).1.2.1) _)) ?_
    refine ol_put rfl rfl rfl (q_fieldP rfl fa25_1 rfl) ?_
    refine ol_wr rfl rfl (q_store (es' := [[iC .i64 n1, .p false (Sl.t r33 s6)]]) 1 rfl rfl rfl sz23 rfl rfl rfl rfl rfl) rfl ?_
    refine ol_end ?_
    refine E_seq ?_
    refine L_seq ?_
    refine L_ops ?_
    refine ol_put rfl rfl rfl (q_loadP (v := .agg [iC .i64 n1, .p false (Sl.t r33 s6)]) 1 rfl sz25 rfl rfl rfl rfl) ?_
    refine ol_wr rfl rfl (q_store (es' := [[iC .i64 n1, .p false (Sl.t r33 s6)]]) 0 rfl rfl rfl sz25 rfl rfl rfl rfl rfl) rfl ?_
    refine ol_end ?_
    refine E_seq ?_
    refine L_ret ?_
    obtain rfl := Option.some.inj h
    exact E_endX (.inr rfl) (res_cell (d := .agg [iC .i64 n1, .p false (Sl.t r33 s6)]) 0 rfl sz25 rfl rfl rfl rfl res_nil) (vw_cons (vd_agg (vc_cons vc_v (vc_cons vc_s vc_nil))) vw_nil) (fun h hb => own_agg) rfl
  · replace h := ifF c5 h
    refine ol_put rfl rfl rfl (q_bin rfl rfl (p_gtr_f _ _ _ _ _ c5) rfl) ?_
    refine ol_end ?_
    refine E_seq ?_
    refine L_condF rfl ?_
    refine L_skip ?_
    refine E_seq ?_
    refine L_seq ?_
    refine L_ops ?_
    refine ol_put rfl rfl rfl (q_loadP (v := .agg [iC .i64 n1, .p false (Sl.t r33 s2)]) 1 rfl sz25 rfl rfl rfl rfl) ?_
    refine ol_wr rfl rfl (q_store (es' := [[iC .i64 n1, .p false (Sl.t r33 s2)]]) 0 rfl rfl rfl sz25 rfl rfl rfl rfl rfl) rfl ?_
    refine ol_end ?_
    refine E_seq ?_
    refine L_ret ?_
    obtain rfl := Option.some.inj h
    exact E_endX (.inr rfl) (res_cell (d := .agg [iC .i64 n1, .p false (Sl.t r33 s2)]) 0 rfl sz25 rfl rfl rfl rfl res_nil) (vw_cons (vd_agg (vc_cons vc_v (vc_cons vc_s vc_nil))) vw_nil) (fun h hb => own_agg) rfl

noncomputable def ring_Is (n1 : Int) : Option (Bool) :=
  (if n1 ≥ 1 then (if n1 ≤ 5 then some true else some false) else some false)
theorem ring_Is_r (m : Nat) {n1 : Int} {out : Bool} (h : ring_Is n1 = some out) : RunsP E1 (m + 1) 39 [.one (iT .i64 n1)] (.fresh, [.one (bT out)]) := by
  refine fn_F rfl (by rw [E1_fn]; exact show fiOf Try.prog 39 = _ by unfold fiOf; rw [Try.func39]; unfold Try.f39; rfl) rfl ?_
  dsimp only
  unfold ring_Is at h
  refine L_seq ?_
  refine L_ops ?_
  refine ol_put rfl rfl rfl (q_assign (v := .one (bC false)) rfl) ?_
  refine ol_end ?_
  refine E_seq ?_
  refine L_seq ?_
  refine L_ops ?_
  refine ol_put rfl rfl rfl (q_move (v := .one (iC .i64 n1)) rfl) ?_
  by_cases c2 : n1 ≥ 1
  · replace h := ifT c2 h
    refine ol_put rfl rfl rfl (q_bin rfl rfl (p_geq_t _ _ _ _ _ c2) rfl) ?_
    refine ol_put rfl rfl rfl (q_move (v := .one (bC true)) rfl) ?_
    refine ol_put rfl rfl rfl (q_move (v := .one (iC .i64 n1)) rfl) ?_
    by_cases c3 : n1 ≤ 5
    · replace h := ifT c3 h
      refine ol_put rfl rfl rfl (q_bin rfl rfl (p_leq_t _ _ _ _ _ c3) rfl) ?_
      refine ol_put rfl rfl rfl (q_pickT (v := .one (bC true)) rfl rfl) ?_
      refine ol_put rfl rfl rfl (q_assign (v := .one (bC true)) rfl) ?_
      refine ol_end ?_
      refine E_seq ?_
      refine L_ret ?_
      obtain rfl := Option.some.inj h
      exact E_endF (.inr rfl) (res_tmp rfl res_nil) (vw_cons (vd_one vc_v) vw_nil) (fun h hb => own_p) rfl rfl
    · replace h := ifF c3 h
      refine ol_put rfl rfl rfl (q_bin rfl rfl (p_leq_f _ _ _ _ _ c3) rfl) ?_
      refine ol_put rfl rfl rfl (q_pickT (v := .one (bC false)) rfl rfl) ?_
      refine ol_put rfl rfl rfl (q_assign (v := .one (bC false)) rfl) ?_
      refine ol_end ?_
      refine E_seq ?_
      refine L_ret ?_
      obtain rfl := Option.some.inj h
      exact E_endF (.inr rfl) (res_tmp rfl res_nil) (vw_cons (vd_one vc_v) vw_nil) (fun h hb => own_p) rfl rfl
  · replace h := ifF c2 h
    refine ol_put rfl rfl rfl (q_bin rfl rfl (p_geq_f _ _ _ _ _ c2) rfl) ?_
    refine ol_put rfl rfl rfl (q_move (v := .one (bC false)) rfl) ?_
    refine ol_skip rfl rfl rfl ?_
    refine ol_skip rfl rfl rfl ?_
    refine ol_put rfl rfl rfl (q_pickF (v := .one (bC false)) rfl rfl) ?_
    refine ol_put rfl rfl rfl (q_assign (v := .one (bC false)) rfl) ?_
    refine ol_end ?_
    refine E_seq ?_
    refine L_ret ?_
    obtain rfl := Option.some.inj h
    exact E_endF (.inr rfl) (res_tmp rfl res_nil) (vw_cons (vd_one vc_v) vw_nil) (fun h hb => own_p) rfl rfl

noncomputable def ring_Zero (n1 : Int) : Option (Int) :=
  (if n1 = 1 then some 4611686018427387904 else (if n1 = 3 then some 4611686018427387904 else (if n1 = 4 then some 4611686018427387904 else some 0)))
theorem ring_Zero_r (m : Nat) {n1 : Int} {out : Int} (h : ring_Zero n1 = some out) : RunsP E1 (m + 1) 41 [.one (iT .i64 n1)] (.fresh, [.one (iT .i64 out)]) := by
  refine fn_F rfl (by rw [E1_fn]; exact show fiOf Try.prog 41 = _ by unfold fiOf; rw [Try.func41]; unfold Try.f41; rfl) rfl ?_
  dsimp only
  unfold ring_Zero at h
  refine L_seq ?_
  refine L_ops ?_
  refine ol_put rfl rfl rfl (q_assign (v := .one (iC .i64 0)) rfl) ?_
  refine ol_end ?_
  refine E_seq ?_
  refine L_seq ?_
  refine L_seq ?_
  refine L_ops ?_
  refine ol_put rfl rfl rfl (q_move (v := .one (iC .i64 n1)) rfl) ?_
  refine ol_end ?_
  refine E_seq ?_
  refine L_block ?_
  refine L_seq ?_
  refine L_seq ?_
  refine L_ops ?_
  by_cases c2 : n1 = 1
  · replace h := ifT c2 h
    refine ol_put rfl rfl rfl (q_bin rfl rfl (p_eql_t _ _ _ _ _ c2) rfl) ?_
    refine ol_put rfl rfl rfl (q_assign (v := .one (bC true)) rfl) ?_
    refine ol_end ?_
    refine E_seq ?_
    refine L_condT rfl ?_
    refine L_skip ?_
    refine E_seq ?_
    refine L_condT rfl ?_
    refine L_seq ?_
    refine L_ops ?_
    refine ol_put rfl rfl rfl (q_assign (v := .one (iC .i64 4611686018427387904)) rfl) ?_
    refine ol_end ?_
    refine E_seq ?_
    refine L_ret ?_
    refine E_blkR ?_
    refine E_seqR ?_
    obtain rfl := Option.some.inj h
    exact E_endF (.inr rfl) (res_tmp rfl res_nil) (vw_cons (vd_one vc_v) vw_nil) (fun h hb => own_p) rfl rfl
  · replace h := ifF c2 h
    refine ol_put rfl rfl rfl (q_bin rfl rfl (p_eql_f _ _ _ _ _ c2) rfl) ?_
    refine ol_put rfl rfl rfl (q_assign (v := .one (bC false)) rfl) ?_
    refine ol_end ?_
    refine E_seq ?_
    refine L_condF rfl ?_
    refine L_seq ?_
    refine L_ops ?_
    by_cases c3 : n1 = 3
    · replace h := ifT c3 h
      refine ol_put rfl rfl rfl (q_bin rfl rfl (p_eql_t _ _ _ _ _ c3) rfl) ?_
      refine ol_put rfl rfl rfl (q_assign (v := .one (bC true)) rfl) ?_
      refine ol_end ?_
      refine E_seq ?_
      refine L_condT rfl ?_
      refine L_skip ?_
      refine E_seq ?_
      refine L_condT rfl ?_
      refine L_seq ?_
      refine L_ops ?_
      refine ol_put rfl rfl rfl (q_assign (v := .one (iC .i64 4611686018427387904)) rfl) ?_
      refine ol_end ?_
      refine E_seq ?_
      refine L_ret ?_
      refine E_blkR ?_
      refine E_seqR ?_
      obtain rfl := Option.some.inj h
      exact E_endF (.inr rfl) (res_tmp rfl res_nil) (vw_cons (vd_one vc_v) vw_nil) (fun h hb => own_p) rfl rfl
    · replace h := ifF c3 h
      refine ol_put rfl rfl rfl (q_bin rfl rfl (p_eql_f _ _ _ _ _ c3) rfl) ?_
      refine ol_put rfl rfl rfl (q_assign (v := .one (bC false)) rfl) ?_
      refine ol_end ?_
      refine E_seq ?_
      refine L_condF rfl ?_
      refine L_ops ?_
      by_cases c4 : n1 = 4
      · replace h := ifT c4 h
        refine ol_put rfl rfl rfl (q_bin rfl rfl (p_eql_t _ _ _ _ _ c4) rfl) ?_
        refine ol_put rfl rfl rfl (q_assign (v := .one (bC true)) rfl) ?_
        refine ol_end ?_
        refine E_seq ?_
        refine L_condT rfl ?_
        refine L_seq ?_
        refine L_ops ?_
        refine ol_put rfl rfl rfl (q_assign (v := .one (iC .i64 4611686018427387904)) rfl) ?_
        refine ol_end ?_
        refine E_seq ?_
        refine L_ret ?_
        refine E_blkR ?_
        refine E_seqR ?_
        obtain rfl := Option.some.inj h
        exact E_endF (.inr rfl) (res_tmp rfl res_nil) (vw_cons (vd_one vc_v) vw_nil) (fun h hb => own_p) rfl rfl
      · replace h := ifF c4 h
        refine ol_put rfl rfl rfl (q_bin rfl rfl (p_eql_f _ _ _ _ _ c4) rfl) ?_
        refine ol_put rfl rfl rfl (q_assign (v := .one (bC false)) rfl) ?_
        refine ol_end ?_
        refine E_seq ?_
        refine L_condF rfl ?_
        refine L_skip ?_
        refine E_blkN ?_
        refine E_seq ?_
        refine L_seq ?_
        refine L_ops ?_
        refine ol_put rfl rfl rfl (q_assign (v := .one (iC .i64 0)) rfl) ?_
        refine ol_end ?_
        refine E_seq ?_
        refine L_ret ?_
        obtain rfl := Option.some.inj h
        exact E_endF (.inr rfl) (res_tmp rfl res_nil) (vw_cons (vd_one vc_v) vw_nil) (fun h hb => own_p) rfl rfl

noncomputable def wide_Of (n1 : Int) : Option ((Int × Int)) :=
  ((shr1 .i64 n1 63).bind fun n3 => some (n3, (IntKind.u64.wrap n1)))
theorem wide_Of_r (m : Nat) {n1 : Int} {out : (Int × Int)} (h : wide_Of n1 = some out) : RunsP E1 (m + 1) 40 [.one (iT .i64 n1)] (.fresh, [.agg (r55 out)]) := by
  refine fn_F rfl (by rw [E1_fn]; exact show fiOf Try.prog 40 = _ by unfold fiOf; rw [Try.func40]; unfold Try.f40; rfl) rfl ?_
  dsimp only
  unfold wide_Of at h
  refine L_seq ?_
  refine L_ops ?_
  refine ol_new rfl rfl rfl (q_alloc ty56 (row := [iC .i64 0, iC .u64 0]) rfl rfl) (fun k2 => ?_)
  refine ol_end ?_
  refine E_seq ?_
  refine L_seq ?_
  refine L_ops ?_
  refine ol_put rfl rfl rfl (q_move (v := .one (iC .i64 n1)) rfl) ?_
  obtain ⟨n3, h4, h⟩ := bindS h
  refine ol_put rfl rfl rfl (q_bin rfl rfl (p_shr h4) rfl) ?_
  refine ol_put rfl rfl rfl (q_move (v := .one (iC .i64 n1)) rfl) ?_
  refine ol_put rfl rfl rfl (q_conv rfl (cv2_54_i64 _) rfl) ?_
  refine ol_put rfl rfl rfl (q_build (cs := [iC .i64 n3, iC .u64 (IntKind.u64.wrap n1)]) ty56 rfl pl56 rfl) ?_
  refine ol_wr rfl rfl (q_store (es' := [[iC .i64 n3, iC .u64 (IntKind.u64.wrap n1)]]) 0 rfl rfl rfl sz56 rfl rfl rfl rfl rfl) rfl ?_
  refine ol_end ?_
  refine E_seq ?_
  refine L_ret ?_
  obtain rfl := Option.some.inj h
  exact E_endF (.inr rfl) (res_cell (d := .agg [iC .i64 n3, iC .u64 (IntKind.u64.wrap n1)]) 0 rfl sz56 rfl rfl rfl rfl res_nil) (vw_cons (vd_agg (vc_cons vc_v (vc_cons vc_v vc_nil))) vw_nil) (fun h hb => own_agg) rfl rfl

noncomputable def spvec_size (n1 : Int) : Option (Bool) :=
  (if n1 ≥ 0 then (if n1 ≤ 4096 then some true else some false) else some false)
theorem spvec_size_r (m : Nat) {n1 : Int} {out : Bool} (h : spvec_size n1 = some out) : RunsP E1 (m + 1) 78 [.one (iT .i64 n1)] (.fresh, [.one (bT out)]) := by
  refine fn_F rfl (by rw [E1_fn]; exact show fiOf Try.prog 78 = _ by unfold fiOf; rw [Try.func78]; unfold Try.f78; rfl) rfl ?_
  dsimp only
  unfold spvec_size at h
  refine L_seq ?_
  refine L_ops ?_
  refine ol_put rfl rfl rfl (q_assign (v := .one (bC false)) rfl) ?_
  refine ol_end ?_
  refine E_seq ?_
  refine L_seq ?_
  refine L_ops ?_
  refine ol_put rfl rfl rfl (q_move (v := .one (iC .i64 n1)) rfl) ?_
  by_cases c2 : n1 ≥ 0
  · replace h := ifT c2 h
    refine ol_put rfl rfl rfl (q_bin rfl rfl (p_geq_t _ _ _ _ _ c2) rfl) ?_
    refine ol_put rfl rfl rfl (q_move (v := .one (bC true)) rfl) ?_
    refine ol_put rfl rfl rfl (q_move (v := .one (iC .i64 n1)) rfl) ?_
    by_cases c3 : n1 ≤ 4096
    · replace h := ifT c3 h
      refine ol_put rfl rfl rfl (q_bin rfl rfl (p_leq_t _ _ _ _ _ c3) rfl) ?_
      refine ol_put rfl rfl rfl (q_pickT (v := .one (bC true)) rfl rfl) ?_
      refine ol_put rfl rfl rfl (q_assign (v := .one (bC true)) rfl) ?_
      refine ol_end ?_
      refine E_seq ?_
      refine L_ret ?_
      obtain rfl := Option.some.inj h
      exact E_endF (.inr rfl) (res_tmp rfl res_nil) (vw_cons (vd_one vc_v) vw_nil) (fun h hb => own_p) rfl rfl
    · replace h := ifF c3 h
      refine ol_put rfl rfl rfl (q_bin rfl rfl (p_leq_f _ _ _ _ _ c3) rfl) ?_
      refine ol_put rfl rfl rfl (q_pickT (v := .one (bC false)) rfl rfl) ?_
      refine ol_put rfl rfl rfl (q_assign (v := .one (bC false)) rfl) ?_
      refine ol_end ?_
      refine E_seq ?_
      refine L_ret ?_
      obtain rfl := Option.some.inj h
      exact E_endF (.inr rfl) (res_tmp rfl res_nil) (vw_cons (vd_one vc_v) vw_nil) (fun h hb => own_p) rfl rfl
  · replace h := ifF c2 h
    refine ol_put rfl rfl rfl (q_bin rfl rfl (p_geq_f _ _ _ _ _ c2) rfl) ?_
    refine ol_put rfl rfl rfl (q_move (v := .one (bC false)) rfl) ?_
    refine ol_skip rfl rfl rfl ?_
    refine ol_skip rfl rfl rfl ?_
    refine ol_put rfl rfl rfl (q_pickF (v := .one (bC false)) rfl rfl) ?_
    refine ol_put rfl rfl rfl (q_assign (v := .one (bC false)) rfl) ?_
    refine ol_end ?_
    refine E_seq ?_
    refine L_ret ?_
    obtain rfl := Option.some.inj h
    exact E_endF (.inr rfl) (res_tmp rfl res_nil) (vw_cons (vd_one vc_v) vw_nil) (fun h hb => own_p) rfl rfl

noncomputable def spvec_Right_b1 (n1 : Int) (s2 : Sl (Int × Int)) (a : Int × Int) : Option ((Int × Int) ⊕ (Unit ⊕ Bool)) :=
  match a with
  | (n24, n25) => (if n25 < ((s2.l.length : Nat) : Int) then ((atS 2 s2 n25).bind fun (n29, n30) => (if n29 ≤ n24 then some (.inr (.inr false)) else (if n29 ≥ n1 then some (.inr (.inr false)) else some (.inl (n29, (IntKind.i64.wrap (n25 + 1))))))) else some (.inr (.inl ())))
noncomputable def spvec_Right (a0 : Int × (Sl (Int × Int))) : Option (Bool) :=
  match a0 with
  | (n1, s2) => ((spvec_size n1).bind fun b5 => (if b5 = true then ((loopO (spvec_Right_b1 n1 s2) ((-1), 0)).bind (Sum.elim (fun _ => some true) (fun u => some u))) else some false))
theorem spvec_Right_r (m : Nat) {a0 : Int × (Sl (Int × Int))} {out : Bool} (h : spvec_Right a0 = some out) : RunsP E1 (m + 2) 65 [.agg (r24 a0)] (.fresh, [.one (bT out)]) := by
  obtain ⟨n1, s2⟩ := a0
  refine fn_F rfl (by rw [E1_fn]; exact show fiOf Try.prog 65 = _ by unfold fiOf; rw [Try.func65]; unfold Try.f65; rfl) rfl ?_
  dsimp only
  unfold spvec_Right at h
  refine L_seq ?_
  refine L_ops ?_
  refine ol_new rfl rfl rfl (q_box ty25 rfl (cs := [iC .i64 n1, .p false (Sl.t r33 s2)]) rfl rfl) (fun k3 => ?_)
  refine ol_put rfl rfl rfl (q_assign (v := .one (bC false)) rfl) ?_
  refine ol_end ?_
  refine E_seq ?_
  refine L_seq ?_
  refine L_seq ?_
  refine L_ops ?_
  refine ol_put rfl rfl rfl (q_fieldP rfl fa25_0 rfl) ?_
  refine ol_put rfl rfl rfl (q_loadP (v := .one (iC .i64 n1)) 0 rfl sz3 rfl rfl rfl rfl) ?_
  obtain ⟨b5, h4, h⟩ := bindS h
  refine ol_put rfl rfl rfl (q_callF (v := .one (bC b5)) (args := [.one (iC .i64 n1)]) (spvec_size_r (m + 0) h4) rfl rfl (vw_cons (vd_one vc_v) vw_nil) rfl rfl) ?_
  rcases b5 with _ | _
  · replace h := ifF (by decide) h
    refine ol_put rfl rfl rfl (q_not rfl) ?_
    refine ol_end ?_
    refine E_seq ?_
    refine L_condT rfl ?_
    refine L_seq ?_
    refine L_ops ?_
    refine ol_put rfl rfl rfl (q_assign (v := .one (bC false)) rfl) ?_
    refine ol_end ?_
    refine E_seq ?_
    refine L_ret ?_
    refine E_seqR ?_
    obtain rfl := Option.some.inj h
    exact E_endF (.inr rfl) (res_tmp rfl res_nil) (vw_cons (vd_one vc_v) vw_nil) (fun h hb => own_p) rfl rfl
  · replace h := ifT (by decide) h
    refine ol_put rfl rfl rfl (q_not rfl) ?_
    refine ol_end ?_
    refine E_seq ?_
    refine L_condF rfl ?_
    refine L_skip ?_
    refine E_seq ?_
    refine L_seq ?_
    refine L_ops ?_
    refine ol_put rfl rfl rfl (q_assign (v := .one (iC .i64 (-1))) rfl) ?_
    refine ol_end ?_
    refine E_seq ?_
    refine L_seq ?_
    refine L_seq ?_
    refine L_ops ?_
    refine ol_put rfl rfl rfl (q_fieldP rfl fa25_1 rfl) ?_
    refine ol_put rfl rfl rfl (q_loadP (v := .one (.p false (Sl.t r33 s2))) 0 rfl sz23 rfl rfl rfl rfl) ?_
    refine ol_put rfl rfl rfl (q_lenS rfl ty23 rfl rfl rfl rfl) ?_
    refine ol_put rfl rfl rfl (q_move (v := .one (iC .i64 0)) rfl) ?_
    refine ol_end ?_
    refine E_seq ?_
    refine L_block ?_
    let S1 : (Int × Int) → Unit → (Nat → D) → Nat → D := fun a kt g => ups g [(1, .one (.ptr k3 0 0)), (3, .one (iC .i64 a.1)), (11, .one (.p false (Sl.t r33 s2))), (12, .one (iC .i64 ((s2.l.length : Nat) : Int))), (13, .one (iC .i64 a.2))]
    let SL1 : (Int × Int) → Unit → BL := fun a kt => ([[(k3, 2, [[iC .i64 n1, .p false (Sl.t r33 s2)]])]] : BL)
    let Sx1 : Unit → Unit → (Nat → D) → Nat → D := fun a kt g => ups g []
    let SLx1 : Unit → Unit → BL := fun a kt => ([] : BL)
    let G1 : Bool → Ex → St → Prop := fun u => endQ E1 [.tmp 2] (.fresh, [.one (bT u)])
    let J1 : (Unit ⊕ Bool) → Ex → St → Prop := JX 31 0 Sx1 SLx1 G1
    refine L_loopS (spvec_Right_b1 n1 s2) S1 SL1 J1 JX_n ((-1), 0) h () (ups_self ⟨rfl, rfl, rfl, rfl, rfl, trivial⟩) [0] (by decide) rfl ?_ ?_
    · rintro ⟨n24, n25⟩ _ g out h
      change spvec_Right_b1 n1 s2 (n24, n25) = some out at h
      unfold spvec_Right_b1 at h
      refine L_seq ?_
      refine L_ops ?_
      by_cases c26 : n25 < ((s2.l.length : Nat) : Int)
      · replace h := ifT c26 h
        refine ol_put rfl rfl rfl (q_bin rfl rfl (p_lss_t _ _ _ _ _ c26) rfl) ?_
        refine ol_end ?_
        refine E_seq ?_
        refine L_seq ?_
        refine L_condT rfl ?_
        refine L_skip ?_
        refine E_seq ?_
        refine L_seq ?_
        refine L_block ?_
        refine L_seq ?_
        refine L_ops ?_
        obtain ⟨⟨n29, n30⟩, h28, h⟩ := bindS h
        obtain ⟨h28a, h28b, h28⟩ := atS_some h28
        refine ol_put rfl rfl rfl (q_ixS rfl rfl h28a h28 (el23.trans (congrArg some h28b.symm))) ?_
        refine ol_put rfl rfl rfl (q_loadI (v := .agg [iC .i64 n29, iC .i64 n30]) rfl sz34 (map_get h28) rfl rfl) ?_
        refine ol_new rfl rfl rfl (q_alloc ty34 (row := [iC .i64 0, iC .i64 0]) rfl rfl) (fun k31 => ?_)
        refine ol_wr rfl rfl (q_store (es' := [[iC .i64 n29, iC .i64 n30]]) 0 rfl rfl rfl sz34 rfl rfl rfl rfl rfl) rfl ?_
        refine ol_end ?_
        refine E_seq ?_
        refine L_seq ?_
        refine L_seq ?_
        refine L_ops ?_
        refine ol_put rfl rfl rfl (q_fieldP rfl fa34_0 rfl) ?_
        refine ol_put rfl rfl rfl (q_loadP (v := .one (iC .i64 n29)) 0 rfl sz3 rfl rfl rfl rfl) ?_
        refine ol_put rfl rfl rfl (q_move (v := .one (iC .i64 n24)) rfl) ?_
        by_cases c32 : n29 ≤ n24
        · replace h := ifT c32 h
          refine ol_put rfl rfl rfl (q_bin rfl rfl (p_leq_t _ _ _ _ _ c32) rfl) ?_
          refine ol_put rfl rfl rfl (q_move (v := .one (bC true)) rfl) ?_
          refine ol_skip rfl rfl rfl ?_
          refine ol_skip rfl rfl rfl ?_
          refine ol_skip rfl rfl rfl ?_
          refine ol_skip rfl rfl rfl ?_
          refine ol_skip rfl rfl rfl ?_
          refine ol_put rfl rfl rfl (q_pickT (v := .one (bC true)) rfl rfl) ?_
          refine ol_end ?_
          refine E_seq ?_
          refine L_condT rfl ?_
          refine L_seq ?_
          refine L_ops ?_
          refine ol_put rfl rfl rfl (q_assign (v := .one (bC false)) rfl) ?_
          refine ol_end ?_
          refine E_seq ?_
          refine L_ret ?_
          refine E_seqR ?_
          refine E_blkR ?_
          refine E_seqR ?_
          obtain rfl := Option.some.inj h
          exact E_out (E_up (E_endF (.inr rfl) (res_tmp rfl res_nil) (vw_cons (vd_one vc_v) vw_nil) (fun h hb => own_p) rfl rfl))
        · replace h := ifF c32 h
          refine ol_put rfl rfl rfl (q_bin rfl rfl (p_leq_f _ _ _ _ _ c32) rfl) ?_
          refine ol_put rfl rfl rfl (q_move (v := .one (bC false)) rfl) ?_
          refine ol_put rfl rfl rfl (q_fieldP rfl fa34_0 rfl) ?_
          refine ol_put rfl rfl rfl (q_loadP (v := .one (iC .i64 n29)) 0 rfl sz3 rfl rfl rfl rfl) ?_
          refine ol_put rfl rfl rfl (q_fieldP rfl fa25_0 rfl) ?_
          refine ol_put rfl rfl rfl (q_loadP (v := .one (iC .i64 n1)) 1 rfl sz3 rfl rfl rfl rfl) ?_
          by_cases c33 : n29 ≥ n1
          · replace h := ifT c33 h
            refine ol_put rfl rfl rfl (q_bin rfl rfl (p_geq_t _ _ _ _ _ c33) rfl) ?_
            refine ol_put rfl rfl rfl (q_pickF (v := .one (bC true)) rfl rfl) ?_
            refine ol_end ?_
            refine E_seq ?_
            refine L_condT rfl ?_
            refine L_seq ?_
            refine L_ops ?_
            refine ol_put rfl rfl rfl (q_assign (v := .one (bC false)) rfl) ?_
            refine ol_end ?_
            refine E_seq ?_
            refine L_ret ?_
            refine E_seqR ?_
            refine E_blkR ?_
            refine E_seqR ?_
            obtain rfl := Option.some.inj h
            exact E_out (E_up (E_endF (.inr rfl) (res_tmp rfl res_nil) (vw_cons (vd_one vc_v) vw_nil) (fun h hb => own_p) rfl rfl))
          · replace h := ifF c33 h
            refine ol_put rfl rfl rfl (q_bin rfl rfl (p_geq_f _ _ _ _ _ c33) rfl) ?_
            refine ol_put rfl rfl rfl (q_pickF (v := .one (bC false)) rfl rfl) ?_
            refine ol_end ?_
            refine E_seq ?_
            refine L_condF rfl ?_
            refine L_skip ?_
            refine E_seq ?_
            refine L_ops ?_
            refine ol_put rfl rfl rfl (q_fieldP rfl fa34_0 rfl) ?_
            refine ol_put rfl rfl rfl (q_loadP (v := .one (iC .i64 n29)) 0 rfl sz3 rfl rfl rfl rfl) ?_
            refine ol_put rfl rfl rfl (q_assign (v := .one (iC .i64 n29)) rfl) ?_
            refine ol_end ?_
            refine E_blkN ?_
            refine E_seq ?_
            refine L_ops ?_
            refine ol_put rfl rfl rfl (q_bin rfl rfl (p_add _ _ _ _ _ _ _) rfl) ?_
            refine ol_put rfl rfl rfl (q_move (v := .one (iC .i64 (IntKind.i64.wrap (n25 + 1)))) rfl) ?_
            refine ol_end ?_
            obtain rfl := Option.some.inj h
            exact E_next () (ups_self ⟨rfl, rfl, rfl, rfl, rfl, trivial⟩) [1] (by decide) rfl
      · replace h := ifF c26 h
        refine ol_put rfl rfl rfl (q_bin rfl rfl (p_lss_f _ _ _ _ _ c26) rfl) ?_
        refine ol_end ?_
        refine E_seq ?_
        refine L_seq ?_
        refine L_condF rfl ?_
        refine L_exit ?_
        refine E_seqX ?_
        obtain rfl := Option.some.inj h
        refine E_out ?_
        exact (E_exit () (ups_self trivial) [] (by decide) rfl)
    · rintro (_ | u) h
      · refine J_x (fun kt g => ?_)
        replace h := elimL h
        refine E_blkH ?_
        refine E_seq ?_
        refine L_seq ?_
        refine L_ops ?_
        refine ol_put rfl rfl rfl (q_assign (v := .one (bC true)) rfl) ?_
        refine ol_end ?_
        refine E_seq ?_
        refine L_ret ?_
        obtain rfl := Option.some.inj h
        exact E_endF (.inr rfl) (res_tmp rfl res_nil) (vw_cons (vd_one vc_v) vw_nil) (fun h hb => own_p) rfl rfl
      · obtain rfl := Option.some.inj (elimR h)
        exact J_up (fun s hs => hs)

noncomputable def fold_sure (a0 : Int × (Sl (Int × Int))) : Option ((Int × (Sl (Int × Int)))) :=
  match a0 with
  | (n1, s2) => ((spvec_Right (n1, s2)).bind fun b6 => (if b6 = true then some (n1, s2) else some (0, (⟨false, 0, []⟩ : Sl (Int × Int)))))
theorem fold_sure_r (m : Nat) {a0 : Int × (Sl (Int × Int))} {out : (Int × (Sl (Int × Int)))} (h : fold_sure a0 = some out) : RunsX E1 (m + 3) 42 [.agg (r24 a0)] [.agg (r24 out)] := by
  obtain ⟨n1, s2⟩ := a0
  refine fn_X rfl (by rw [E1_fn]; exact show fiOf Try.prog 42 = _ by unfold fiOf; rw [Try.func42]; unfold Try.f42; rfl) rfl ?_
  dsimp only
  unfold fold_sure at h
  refine L_seq ?_
  refine L_ops ?_
  refine ol_new rfl rfl rfl (q_box ty25 rfl (cs := [iC .i64 n1, .p false (Sl.t r33 s2)]) rfl rfl) (fun k3 => ?_)
  refine ol_new rfl rfl rfl (q_alloc ty25 (row := [iC .i64 0, .p true (Sl.t r33 (⟨false, 0, []⟩ : Sl (Int × Int)))]) rfl rfl) (fun k4 => ?_)
  refine ol_end ?_
  refine E_seq ?_
  refine L_seq ?_
  refine L_seq ?_
  refine L_ops ?_
  refine ol_put rfl rfl rfl (q_loadP (v := .agg [iC .i64 n1, .p false (Sl.t r33 s2)]) 1 rfl sz25 rfl rfl rfl rfl) ?_
  obtain ⟨b6, h5, h⟩ := bindS h
  refine ol_put rfl rfl rfl (q_callF (v := .one (bC b6)) (args := [.agg [iC .i64 n1, .p false (Sl.t r33 s2)]]) (spvec_Right_r (m + 0) h5) rfl rfl (vw_cons (vd_agg (vc_cons vc_v (vc_cons vc_s vc_nil))) vw_nil) rfl rfl) ?_
  refine ol_end ?_
  refine E_seq ?_
  rcases b6 with _ | _
  · replace h := ifF (by decide) h
    refine L_condF rfl ?_
    refine L_skip ?_
    refine E_seq ?_
    refine L_seq ?_
    refine L_ops ?_
    refine ol_put rfl rfl rfl (q_build (cs := [iC .i64 0, .p true (Sl.t r33 (⟨false, 0, []⟩ : Sl (Int × Int)))]) ty25 rfl pl25 rfl) ?_
    refine ol_wr rfl rfl (q_store (es' := [[iC .i64 0, .p true (Sl.t r33 (⟨false, 0, []⟩ : Sl (Int × Int)))]]) 0 rfl rfl rfl sz25 rfl rfl rfl rfl rfl) rfl ?_
    refine ol_end ?_
    refine E_seq ?_
    refine L_ret ?_
    obtain rfl := Option.some.inj h
    exact E_endX (.inr rfl) (res_cell (d := .agg [iC .i64 0, .p true (Sl.t r33 (⟨false, 0, []⟩ : Sl (Int × Int)))]) 0 rfl sz25 rfl rfl rfl rfl res_nil) (vw_cons (vd_agg (vc_cons vc_v (vc_cons vc_s vc_nil))) vw_nil) (fun h hb => own_agg) rfl
  · replace h := ifT (by decide) h
    refine L_condT rfl ?_
    refine L_seq ?_
    refine L_ops ?_
    refine ol_put rfl rfl rfl (q_loadP (v := .agg [iC .i64 n1, .p false (Sl.t r33 s2)]) 1 rfl sz25 rfl rfl rfl rfl) ?_
    refine ol_wr rfl rfl (q_store (es' := [[iC .i64 n1, .p false (Sl.t r33 s2)]]) 0 rfl rfl rfl sz25 rfl rfl rfl rfl rfl) rfl ?_
    refine ol_end ?_
    refine E_seq ?_
    refine L_ret ?_
    refine E_seqR ?_
    obtain rfl := Option.some.inj h
    exact E_endX (.inr rfl) (res_cell (d := .agg [iC .i64 n1, .p false (Sl.t r33 s2)]) 0 rfl sz25 rfl rfl rfl rfl res_nil) (vw_cons (vd_agg (vc_cons vc_v (vc_cons vc_s vc_nil))) vw_nil) (fun h hb => own_agg) rfl

noncomputable def wide_Compare (a0 : Int × Int) (a1 : Int × Int) : Option (Int) :=
  match a0, a1 with
  | (n1, n2), (n3, n4) => (if n1 = n3 ∧ n2 = n4 then some 0 else (if n1 < n3 then some (-1) else (if n1 = n3 then (if n2 < n4 then some (-1) else some 1) else some 1)))
theorem wide_Compare_r (m : Nat) {a0 : Int × Int} {a1 : Int × Int} {out : Int} (h : wide_Compare a0 a1 = some out) : RunsP E1 (m + 1) 79 [.agg (r55 a0), .agg (r55 a1)] (.fresh, [.one (iT .i64 out)]) := by
  obtain ⟨n1, n2⟩ := a0
  obtain ⟨n3, n4⟩ := a1
  refine fn_F rfl (by rw [E1_fn]; exact show fiOf Try.prog 79 = _ by unfold fiOf; rw [Try.func79]; unfold Try.f79; rfl) rfl ?_
  dsimp only
  unfold wide_Compare at h
  refine L_seq ?_
  refine L_ops ?_
  refine ol_new rfl rfl rfl (q_box ty56 rfl (cs := [iC .i64 n1, iC .u64 n2]) rfl rfl) (fun k5 => ?_)
  refine ol_new rfl rfl rfl (q_box ty56 rfl (cs := [iC .i64 n3, iC .u64 n4]) rfl rfl) (fun k6 => ?_)
  refine ol_put rfl rfl rfl (q_assign (v := .one (iC .i64 0)) rfl) ?_
  refine ol_end ?_
  refine E_seq ?_
  refine L_seq ?_
  refine L_block ?_
  refine L_seq ?_
  refine L_ops ?_
  refine ol_put rfl rfl rfl (q_loadP (v := .agg [iC .i64 n1, iC .u64 n2]) 1 rfl sz56 rfl rfl rfl rfl) ?_
  refine ol_put rfl rfl rfl (q_loadP (v := .agg [iC .i64 n3, iC .u64 n4]) 0 rfl sz56 rfl rfl rfl rfl) ?_
  by_cases c7 : n1 = n3 ∧ n2 = n4
  · replace h := ifT c7 h
    refine ol_put rfl rfl rfl (q_binA rfl rfl (by rfl) (by rfl) (eqeqlA56_t _ _ c7) rfl) ?_
    refine ol_put rfl rfl rfl (q_assign (v := .one (bC true)) rfl) ?_
    refine ol_end ?_
    refine E_seq ?_
    refine L_condT rfl ?_
    refine L_seq ?_
    refine L_ops ?_
    refine ol_put rfl rfl rfl (q_assign (v := .one (iC .i64 0)) rfl) ?_
    refine ol_end ?_
    refine E_seq ?_
    refine L_ret ?_
    refine E_blkR ?_
    refine E_seqR ?_
    obtain rfl := Option.some.inj h
    exact E_endF (.inr rfl) (res_tmp rfl res_nil) (vw_cons (vd_one vc_v) vw_nil) (fun h hb => own_p) rfl rfl
  · replace h := ifF c7 h
    refine ol_put rfl rfl rfl (q_binA rfl rfl (by rfl) (by rfl) (eqeqlA56_f _ _ c7) rfl) ?_
    refine ol_put rfl rfl rfl (q_assign (v := .one (bC false)) rfl) ?_
    refine ol_end ?_
    refine E_seq ?_
    refine L_condF rfl ?_
    refine L_seq ?_
    refine L_ops ?_
    refine ol_put rfl rfl rfl (q_fieldP rfl fa56_0 rfl) ?_
    refine ol_put rfl rfl rfl (q_loadP (v := .one (iC .i64 n1)) 1 rfl sz2 rfl rfl rfl rfl) ?_
    refine ol_put rfl rfl rfl (q_fieldP rfl fa56_0 rfl) ?_
    refine ol_put rfl rfl rfl (q_loadP (v := .one (iC .i64 n3)) 0 rfl sz2 rfl rfl rfl rfl) ?_
    by_cases c8 : n1 < n3
    · replace h := ifT c8 h
      refine ol_put rfl rfl rfl (q_bin rfl rfl (p_lss_t _ _ _ _ _ c8) rfl) ?_
      refine ol_put rfl rfl rfl (q_move (v := .one (bC true)) rfl) ?_
      refine ol_skip rfl rfl rfl ?_
      refine ol_skip rfl rfl rfl ?_
      refine ol_skip rfl rfl rfl ?_
      refine ol_skip rfl rfl rfl ?_
      refine ol_skip rfl rfl rfl ?_
      refine ol_skip rfl rfl rfl ?_
      refine ol_skip rfl rfl rfl ?_
      refine ol_skip rfl rfl rfl ?_
      refine ol_skip rfl rfl rfl ?_
      refine ol_skip rfl rfl rfl ?_
      refine ol_skip rfl rfl rfl ?_
      refine ol_skip rfl rfl rfl ?_
      refine ol_put rfl rfl rfl (q_pickT (v := .one (bC true)) rfl rfl) ?_
      refine ol_put rfl rfl rfl (q_assign (v := .one (bC true)) rfl) ?_
      refine ol_end ?_
      refine E_seq ?_
      refine L_condT rfl ?_
      refine L_seq ?_
      refine L_ops ?_
      refine ol_put rfl rfl rfl (q_assign (v := .one (iC .i64 (-1))) rfl) ?_
      refine ol_end ?_
      refine E_seq ?_
      refine L_ret ?_
      refine E_blkR ?_
      refine E_seqR ?_
      obtain rfl := Option.some.inj h
      exact E_endF (.inr rfl) (res_tmp rfl res_nil) (vw_cons (vd_one vc_v) vw_nil) (fun h hb => own_p) rfl rfl
    · replace h := ifF c8 h
      refine ol_put rfl rfl rfl (q_bin rfl rfl (p_lss_f _ _ _ _ _ c8) rfl) ?_
      refine ol_put rfl rfl rfl (q_move (v := .one (bC false)) rfl) ?_
      refine ol_put rfl rfl rfl (q_fieldP rfl fa56_0 rfl) ?_
      refine ol_put rfl rfl rfl (q_loadP (v := .one (iC .i64 n1)) 1 rfl sz2 rfl rfl rfl rfl) ?_
      refine ol_put rfl rfl rfl (q_fieldP rfl fa56_0 rfl) ?_
      refine ol_put rfl rfl rfl (q_loadP (v := .one (iC .i64 n3)) 0 rfl sz2 rfl rfl rfl rfl) ?_
      by_cases c9 : n1 = n3
      · replace h := ifT c9 h
        refine ol_put rfl rfl rfl (q_bin rfl rfl (p_eql_t _ _ _ _ _ c9) rfl) ?_
        refine ol_put rfl rfl rfl (q_move (v := .one (bC true)) rfl) ?_
        refine ol_put rfl rfl rfl (q_fieldP rfl fa56_1 rfl) ?_
        refine ol_put rfl rfl rfl (q_loadP (v := .one (iC .u64 n2)) 1 rfl sz54 rfl rfl rfl rfl) ?_
        refine ol_put rfl rfl rfl (q_fieldP rfl fa56_1 rfl) ?_
        refine ol_put rfl rfl rfl (q_loadP (v := .one (iC .u64 n4)) 0 rfl sz54 rfl rfl rfl rfl) ?_
        by_cases c10 : n2 < n4
        · replace h := ifT c10 h
          refine ol_put rfl rfl rfl (q_bin rfl rfl (p_lss_t _ _ _ _ _ c10) rfl) ?_
          refine ol_put rfl rfl rfl (q_pickT (v := .one (bC true)) rfl rfl) ?_
          refine ol_put rfl rfl rfl (q_pickF (v := .one (bC true)) rfl rfl) ?_
          refine ol_put rfl rfl rfl (q_assign (v := .one (bC true)) rfl) ?_
          refine ol_end ?_
          refine E_seq ?_
          refine L_condT rfl ?_
          refine L_seq ?_
          refine L_ops ?_
          refine ol_put rfl rfl rfl (q_assign (v := .one (iC .i64 (-1))) rfl) ?_
          refine ol_end ?_
          refine E_seq ?_
          refine L_ret ?_
          refine E_blkR ?_
          refine E_seqR ?_
          obtain rfl := Option.some.inj h
          exact E_endF (.inr rfl) (res_tmp rfl res_nil) (vw_cons (vd_one vc_v) vw_nil) (fun h hb => own_p) rfl rfl
        · replace h := ifF c10 h
          refine ol_put rfl rfl rfl (q_bin rfl rfl (p_lss_f _ _ _ _ _ c10) rfl) ?_
          refine ol_put rfl rfl rfl (q_pickT (v := .one (bC false)) rfl rfl) ?_
          refine ol_put rfl rfl rfl (q_pickF (v := .one (bC false)) rfl rfl) ?_
          refine ol_put rfl rfl rfl (q_assign (v := .one (bC false)) rfl) ?_
          refine ol_end ?_
          refine E_seq ?_
          refine L_condF rfl ?_
          refine L_skip ?_
          refine E_blkN ?_
          refine E_seq ?_
          refine L_seq ?_
          refine L_ops ?_
          refine ol_put rfl rfl rfl (q_assign (v := .one (iC .i64 1)) rfl) ?_
          refine ol_end ?_
          refine E_seq ?_
          refine L_ret ?_
          obtain rfl := Option.some.inj h
          exact E_endF (.inr rfl) (res_tmp rfl res_nil) (vw_cons (vd_one vc_v) vw_nil) (fun h hb => own_p) rfl rfl
      · replace h := ifF c9 h
        refine ol_put rfl rfl rfl (q_bin rfl rfl (p_eql_f _ _ _ _ _ c9) rfl) ?_
        refine ol_put rfl rfl rfl (q_move (v := .one (bC false)) rfl) ?_
        refine ol_skip rfl rfl rfl ?_
        refine ol_skip rfl rfl rfl ?_
        refine ol_skip rfl rfl rfl ?_
        refine ol_skip rfl rfl rfl ?_
        refine ol_skip rfl rfl rfl ?_
        refine ol_put rfl rfl rfl (q_pickF (v := .one (bC false)) rfl rfl) ?_
        refine ol_put rfl rfl rfl (q_pickF (v := .one (bC false)) rfl rfl) ?_
        refine ol_put rfl rfl rfl (q_assign (v := .one (bC false)) rfl) ?_
        refine ol_end ?_
        refine E_seq ?_
        refine L_condF rfl ?_
        refine L_skip ?_
        refine E_blkN ?_
        refine E_seq ?_
        refine L_seq ?_
        refine L_ops ?_
        refine ol_put rfl rfl rfl (q_assign (v := .one (iC .i64 1)) rfl) ?_
        refine ol_end ?_
        refine E_seq ?_
        refine L_ret ?_
        obtain rfl := Option.some.inj h
        exact E_endF (.inr rfl) (res_tmp rfl res_nil) (vw_cons (vd_one vc_v) vw_nil) (fun h hb => own_p) rfl rfl

noncomputable def ring_lesser (a0 : Int × Int) (a1 : Int × Int) : Option ((Int × Int)) :=
  match a0, a1 with
  | (n1, n2), (n3, n4) => ((wide_Compare (n3, n4) (n1, n2)).bind fun n9 => (if n9 < 0 then some (n3, n4) else some (n1, n2)))
theorem ring_lesser_r (m : Nat) {a0 : Int × Int} {a1 : Int × Int} {out : (Int × Int)} (h : ring_lesser a0 a1 = some out) : RunsP E1 (m + 2) 66 [.agg (r55 a0), .agg (r55 a1)] (.fresh, [.agg (r55 out)]) := by
  obtain ⟨n1, n2⟩ := a0
  obtain ⟨n3, n4⟩ := a1
  refine fn_F rfl (by rw [E1_fn]; exact show fiOf Try.prog 66 = _ by unfold fiOf; rw [Try.func66]; unfold Try.f66; rfl) rfl ?_
  dsimp only
  unfold ring_lesser at h
  refine L_seq ?_
  refine L_ops ?_
  refine ol_new rfl rfl rfl (q_box ty56 rfl (cs := [iC .i64 n1, iC .u64 n2]) rfl rfl) (fun k5 => ?_)
  refine ol_new rfl rfl rfl (q_box ty56 rfl (cs := [iC .i64 n3, iC .u64 n4]) rfl rfl) (fun k6 => ?_)
  refine ol_new rfl rfl rfl (q_alloc ty56 (row := [iC .i64 0, iC .u64 0]) rfl rfl) (fun k7 => ?_)
  refine ol_end ?_
  refine E_seq ?_
  refine L_seq ?_
  refine L_seq ?_
  refine L_ops ?_
  refine ol_put rfl rfl rfl (q_loadP (v := .agg [iC .i64 n3, iC .u64 n4]) 1 rfl sz56 rfl rfl rfl rfl) ?_
  refine ol_put rfl rfl rfl (q_loadP (v := .agg [iC .i64 n1, iC .u64 n2]) 2 rfl sz56 rfl rfl rfl rfl) ?_
  obtain ⟨n9, h8, h⟩ := bindS h
  refine ol_put rfl rfl rfl (q_callF (v := .one (iC .i64 n9)) (args := [.agg [iC .i64 n3, iC .u64 n4], .agg [iC .i64 n1, iC .u64 n2]]) (wide_Compare_r (m + 0) h8) rfl rfl (vw_cons (vd_agg (vc_cons vc_v (vc_cons vc_v vc_nil))) (vw_cons (vd_agg (vc_cons vc_v (vc_cons vc_v vc_nil))) vw_nil)) rfl rfl) ?_
  by_cases c10 : n9 < 0
  · replace h := ifT c10 h
    refine ol_put rfl rfl rfl (q_bin rfl rfl (p_lss_t _ _ _ _ _ c10) rfl) ?_
    refine ol_end ?_
    refine E_seq ?_
    refine L_condT rfl ?_
    refine L_seq ?_
    refine L_ops ?_
    refine ol_put rfl rfl rfl (q_loadP (v := .agg [iC .i64 n3, iC .u64 n4]) 1 rfl sz56 rfl rfl rfl rfl) ?_
    refine ol_wr rfl rfl (q_store (es' := [[iC .i64 n3, iC .u64 n4]]) 0 rfl rfl rfl sz56 rfl rfl rfl rfl rfl) rfl ?_
    refine ol_end ?_
    refine E_seq ?_
    refine L_ret ?_
    refine E_seqR ?_
    obtain rfl := Option.some.inj h
    exact E_endF (.inr rfl) (res_cell (d := .agg [iC .i64 n3, iC .u64 n4]) 0 rfl sz56 rfl rfl rfl rfl res_nil) (vw_cons (vd_agg (vc_cons vc_v (vc_cons vc_v vc_nil))) vw_nil) (fun h hb => own_agg) rfl rfl
  · replace h := ifF c10 h
    refine ol_put rfl rfl rfl (q_bin rfl rfl (p_lss_f _ _ _ _ _ c10) rfl) ?_
    refine ol_end ?_
    refine E_seq ?_
    refine L_condF rfl ?_
    refine L_skip ?_
    refine E_seq ?_
    refine L_seq ?_
    refine L_ops ?_
    refine ol_put rfl rfl rfl (q_loadP (v := .agg [iC .i64 n1, iC .u64 n2]) 2 rfl sz56 rfl rfl rfl rfl) ?_
    refine ol_wr rfl rfl (q_store (es' := [[iC .i64 n1, iC .u64 n2]]) 0 rfl rfl rfl sz56 rfl rfl rfl rfl rfl) rfl ?_
    refine ol_end ?_
    refine E_seq ?_
    refine L_ret ?_
    obtain rfl := Option.some.inj h
    exact E_endF (.inr rfl) (res_cell (d := .agg [iC .i64 n1, iC .u64 n2]) 0 rfl sz56 rfl rfl rfl rfl res_nil) (vw_cons (vd_agg (vc_cons vc_v (vc_cons vc_v vc_nil))) vw_nil) (fun h hb => own_agg) rfl rfl

noncomputable def ring_truth (b1 : Bool) : Option ((Int × Int)) :=
  (if b1 = true then ((wide_Of 1).bind fun (n4, n5) => some (n4, n5)) else some (0, 0))
theorem ring_truth_r (m : Nat) {b1 : Bool} {out : (Int × Int)} (h : ring_truth b1 = some out) : RunsP E1 (m + 2) 67 [.one (bT b1)] (.fresh, [.agg (r55 out)]) := by
  refine fn_F rfl (by rw [E1_fn]; exact show fiOf Try.prog 67 = _ by unfold fiOf; rw [Try.func67]; unfold Try.f67; rfl) rfl ?_
  dsimp only
  unfold ring_truth at h
  refine L_seq ?_
  refine L_ops ?_
  refine ol_new rfl rfl rfl (q_alloc ty56 (row := [iC .i64 0, iC .u64 0]) rfl rfl) (fun k2 => ?_)
  refine ol_end ?_
  refine E_seq ?_
  refine L_seq ?_
  refine L_seq ?_
  refine L_ops ?_
  refine ol_put rfl rfl rfl (q_move (v := .one (bC b1)) rfl) ?_
  refine ol_end ?_
  refine E_seq ?_
  rcases b1 with _ | _
  · replace h := ifF (by decide) h
    refine L_condF rfl ?_
    refine L_skip ?_
    refine E_seq ?_
    refine L_seq ?_
    refine L_ops ?_
    refine ol_put rfl rfl rfl (q_build (cs := [iC .i64 0, iC .u64 0]) ty56 rfl pl56 rfl) ?_
    refine ol_wr rfl rfl (q_store (es' := [[iC .i64 0, iC .u64 0]]) 0 rfl rfl rfl sz56 rfl rfl rfl rfl rfl) rfl ?_
    refine ol_end ?_
    refine E_seq ?_
    refine L_ret ?_
    obtain rfl := Option.some.inj h
    exact E_endF (.inr rfl) (res_cell (d := .agg [iC .i64 0, iC .u64 0]) 0 rfl sz56 rfl rfl rfl rfl res_nil) (vw_cons (vd_agg (vc_cons vc_v (vc_cons vc_v vc_nil))) vw_nil) (fun h hb => own_agg) rfl rfl
  · replace h := ifT (by decide) h
    refine L_condT rfl ?_
    refine L_seq ?_
    refine L_ops ?_
    obtain ⟨⟨n4, n5⟩, h3, h⟩ := bindS h
    refine ol_put rfl rfl rfl (q_callF (v := .agg [iC .i64 n4, iC .u64 n5]) (args := [.one (iC .i64 1)]) (wide_Of_r (m + 0) h3) rfl rfl (vw_cons (vd_one vc_v) vw_nil) rfl rfl) ?_
    refine ol_wr rfl rfl (q_store (es' := [[iC .i64 n4, iC .u64 n5]]) 0 rfl rfl rfl sz56 rfl rfl rfl rfl rfl) rfl ?_
    refine ol_end ?_
    refine E_seq ?_
    refine L_ret ?_
    refine E_seqR ?_
    obtain rfl := Option.some.inj h
    exact E_endF (.inr rfl) (res_cell (d := .agg [iC .i64 n4, iC .u64 n5]) 0 rfl sz56 rfl rfl rfl rfl res_nil) (vw_cons (vd_agg (vc_cons vc_v (vc_cons vc_v vc_nil))) vw_nil) (fun h hb => own_agg) rfl rfl

noncomputable def wide_Add (a0 : Int × Int) (a1 : Int × Int) : Option ((Int × Int)) :=
  match a0, a1 with
  | (n1, n2), (n3, n4) => (if (IntKind.u64.wrap (n2 + n4)) < n2 then some ((IntKind.i64.wrap ((IntKind.i64.wrap (n1 + n3)) + 1)), (IntKind.u64.wrap (n2 + n4))) else some ((IntKind.i64.wrap (n1 + n3)), (IntKind.u64.wrap (n2 + n4))))
theorem wide_Add_r (m : Nat) {a0 : Int × Int} {a1 : Int × Int} {out : (Int × Int)} (h : wide_Add a0 a1 = some out) : RunsP E1 (m + 1) 68 [.agg (r55 a0), .agg (r55 a1)] (.fresh, [.agg (r55 out)]) := by
  obtain ⟨n1, n2⟩ := a0
  obtain ⟨n3, n4⟩ := a1
  refine fn_F rfl (by rw [E1_fn]; exact show fiOf Try.prog 68 = _ by unfold fiOf; rw [Try.func68]; unfold Try.f68; rfl) rfl ?_
  dsimp only
  unfold wide_Add at h
  refine L_seq ?_
  refine L_ops ?_
  refine ol_new rfl rfl rfl (q_box ty56 rfl (cs := [iC .i64 n1, iC .u64 n2]) rfl rfl) (fun k5 => ?_)
  refine ol_new rfl rfl rfl (q_box ty56 rfl (cs := [iC .i64 n3, iC .u64 n4]) rfl rfl) (fun k6 => ?_)
  refine ol_new rfl rfl rfl (q_alloc ty56 (row := [iC .i64 0, iC .u64 0]) rfl rfl) (fun k7 => ?_)
  refine ol_end ?_
  refine E_seq ?_
  refine L_seq ?_
  refine L_ops ?_
  refine ol_put rfl rfl rfl (q_fieldP rfl fa56_0 rfl) ?_
  refine ol_put rfl rfl rfl (q_loadP (v := .one (iC .i64 n1)) 2 rfl sz2 rfl rfl rfl rfl) ?_
  refine ol_put rfl rfl rfl (q_fieldP rfl fa56_0 rfl) ?_
  refine ol_put rfl rfl rfl (q_loadP (v := .one (iC .i64 n3)) 1 rfl sz2 rfl rfl rfl rfl) ?_
  refine ol_put rfl rfl rfl (q_bin rfl rfl (p_add _ _ _ _ _ _ _) rfl) ?_
  refine ol_put rfl rfl rfl (q_fieldP rfl fa56_1 rfl) ?_
  refine ol_put rfl rfl rfl (q_loadP (v := .one (iC .u64 n2)) 2 rfl sz54 rfl rfl rfl rfl) ?_
  refine ol_put rfl rfl rfl (q_fieldP rfl fa56_1 rfl) ?_
  refine ol_put rfl rfl rfl (q_loadP (v := .one (iC .u64 n4)) 1 rfl sz54 rfl rfl rfl rfl) ?_
  refine ol_put rfl rfl rfl (q_bin rfl rfl (p_add _ _ _ _ _ _ _) rfl) ?_
  refine ol_put rfl rfl rfl (q_build (cs := [iC .i64 (IntKind.i64.wrap (n1 + n3)), iC .u64 (IntKind.u64.wrap (n2 + n4))]) ty56 rfl pl56 rfl) ?_
  refine ol_new rfl rfl rfl (q_alloc ty56 (row := [iC .i64 0, iC .u64 0]) rfl rfl) (fun k8 => ?_)
  refine ol_wr rfl rfl (q_store (es' := [[iC .i64 (IntKind.i64.wrap (n1 + n3)), iC .u64 (IntKind.u64.wrap (n2 + n4))]]) 0 rfl rfl rfl sz56 rfl rfl rfl rfl rfl) rfl ?_
  refine ol_end ?_
  refine E_seq ?_
  refine L_seq ?_
  refine L_seq ?_
  refine L_ops ?_
  refine ol_put rfl rfl rfl (q_fieldP rfl fa56_1 rfl) ?_
  refine ol_put rfl rfl rfl (q_loadP (v := .one (iC .u64 (IntKind.u64.wrap (n2 + n4)))) 0 rfl sz54 rfl rfl rfl rfl) ?_
  refine ol_put rfl rfl rfl (q_fieldP rfl fa56_1 rfl) ?_
  refine ol_put rfl rfl rfl (q_loadP (v := .one (iC .u64 n2)) 3 rfl sz54 rfl rfl rfl rfl) ?_
  by_cases c9 : (IntKind.u64.wrap (n2 + n4)) < n2
  · replace h := ifT c9 h
    refine ol_put rfl rfl rfl (q_bin rfl rfl (p_lss_t _ _ _ _ _ c9) rfl) ?_
    refine ol_end ?_
    refine E_seq ?_
    refine L_condT rfl ?_
    refine L_ops ?_
    refine ol_put rfl rfl rfl (q_fieldP rfl fa56_0 rfl) ?_
    refine ol_put rfl rfl rfl (q_loadP (v := .one (iC .i64 (IntKind.i64.wrap (n1 + n3)))) 0 rfl sz2 rfl rfl rfl rfl) ?_
    refine ol_put rfl rfl rfl (q_bin rfl rfl (p_add _ _ _ _ _ _ _) rfl) ?_
    refine ol_put rfl rfl rfl (q_fieldP rfl fa56_0 rfl) ?_
    refine ol_wr rfl rfl (q_store (es' := [[iC .i64 (IntKind.i64.wrap ((IntKind.i64.wrap (n1 + n3)) + 1)), iC .u64 (IntKind.u64.wrap (n2 + n4))]]) 0 rfl rfl rfl sz2 rfl rfl rfl rfl rfl) rfl ?_
    refine ol_end ?_
    refine E_seq ?_
    refine L_seq ?_
    refine L_ops ?_
    refine ol_put rfl rfl rfl (q_loadP (v := .agg [iC .i64 (IntKind.i64.wrap ((IntKind.i64.wrap (n1 + n3)) + 1)), iC .u64 (IntKind.u64.wrap (n2 + n4))]) 0 rfl sz56 rfl rfl rfl rfl) ?_
    refine ol_wr rfl rfl (q_store (es' := [[iC .i64 (IntKind.i64.wrap ((IntKind.i64.wrap (n1 + n3)) + 1)), iC .u64 (IntKind.u64.wrap (n2 + n4))]]) 1 rfl rfl rfl sz56 rfl rfl rfl rfl rfl) rfl ?_
    refine ol_end ?_
    refine E_seq ?_
    refine L_ret ?_
    obtain rfl := Option.some.inj h
    exact E_endF (.inr rfl) (res_cell (d := .agg [iC .i64 (IntKind.i64.wrap ((IntKind.i64.wrap (n1 + n3)) + 1)), iC .u64 (IntKind.u64.wrap (n2 + n4))]) 1 rfl sz56 rfl rfl rfl rfl res_nil) (vw_cons (vd_agg (vc_cons vc_v (vc_cons vc_v vc_nil))) vw_nil) (fun h hb => own_agg) rfl rfl
  · replace h := ifF c9 h
    refine ol_put rfl rfl rfl (q_bin rfl rfl (p_lss_f _ _ _ _ _ c9) rfl) ?_
    refine ol_end ?_
    refine E_seq ?_
    refine L_condF rfl ?_
    refine L_skip ?_
    refine E_seq ?_
    refine L_seq ?_
    refine L_ops ?_
    refine ol_put rfl rfl rfl (q_loadP (v := .agg [iC .i64 (IntKind.i64.wrap (n1 + n3)), iC .u64 (IntKind.u64.wrap (n2 + n4))]) 0 rfl sz56 rfl rfl rfl rfl) ?_
    refine ol_wr rfl rfl (q_store (es' := [[iC .i64 (IntKind.i64.wrap (n1 + n3)), iC .u64 (IntKind.u64.wrap (n2 + n4))]]) 1 rfl rfl rfl sz56 rfl rfl rfl rfl rfl) rfl ?_
    refine ol_end ?_
    refine E_seq ?_
    refine L_ret ?_
    obtain rfl := Option.some.inj h
    exact E_endF (.inr rfl) (res_cell (d := .agg [iC .i64 (IntKind.i64.wrap (n1 + n3)), iC .u64 (IntKind.u64.wrap (n2 + n4))]) 1 rfl sz56 rfl rfl rfl rfl res_nil) (vw_cons (vd_agg (vc_cons vc_v (vc_cons vc_v vc_nil))) vw_nil) (fun h hb => own_agg) rfl rfl

noncomputable def ring_Add (n1 : Int) (a1 : Int × Int) (a2 : Int × Int) : Option ((Int × Int)) :=
  match a1, a2 with
  | (n2, n3), (n4, n5) => (if n1 = 1 then ((ring_lesser (n2, n3) (n4, n5)).bind fun (n11, n12) => some (n11, n12)) else (if n1 = 3 then ((ring_lesser (n2, n3) (n4, n5)).bind fun (n15, n16) => some (n15, n16)) else (if n1 = 4 then ((ring_lesser (n2, n3) (n4, n5)).bind fun (n19, n20) => some (n19, n20)) else (if n1 = 2 then (if n2 = 0 ∧ n3 = 0 then (if n4 = 0 ∧ n5 = 0 then ((ring_truth false).bind fun (n25, n26) => some (n25, n26)) else ((ring_truth true).bind fun (n28, n29) => some (n28, n29))) else ((ring_truth true).bind fun (n31, n32) => some (n31, n32))) else (if n1 = 5 then ((wide_Add (n2, n3) (n4, n5)).bind fun (n35, n36) => some (n35, n36)) else some (0, 0))))))
theorem ring_Add_r (m : Nat) {n1 : Int} {a1 : Int × Int} {a2 : Int × Int} {out : (Int × Int)} (h : ring_Add n1 a1 a2 = some out) : RunsP E1 (m + 3) 43 [.one (iT .i64 n1), .agg (r55 a1), .agg (r55 a2)] (.fresh, [.agg (r55 out)]) := by
  obtain ⟨n2, n3⟩ := a1
  obtain ⟨n4, n5⟩ := a2
  refine fn_F rfl (by rw [E1_fn]; exact show fiOf Try.prog 43 = _ by unfold fiOf; rw [Try.func43]; unfold Try.f43; rfl) rfl ?_
  dsimp only
  unfold ring_Add at h
  refine L_seq ?_
  refine L_ops ?_
  refine ol_new rfl rfl rfl (q_box ty56 rfl (cs := [iC .i64 n2, iC .u64 n3]) rfl rfl) (fun k6 => ?_)
  refine ol_new rfl rfl rfl (q_box ty56 rfl (cs := [iC .i64 n4, iC .u64 n5]) rfl rfl) (fun k7 => ?_)
  refine ol_new rfl rfl rfl (q_alloc ty56 (row := [iC .i64 0, iC .u64 0]) rfl rfl) (fun k8 => ?_)
  refine ol_end ?_
  refine E_seq ?_
  refine L_seq ?_
  refine L_seq ?_
  refine L_ops ?_
  refine ol_put rfl rfl rfl (q_move (v := .one (iC .i64 n1)) rfl) ?_
  refine ol_end ?_
  refine E_seq ?_
  refine L_block ?_
  refine L_seq ?_
  refine L_seq ?_
  refine L_ops ?_
  by_cases c9 : n1 = 1
  · replace h := ifT c9 h
    refine ol_put rfl rfl rfl (q_bin rfl rfl (p_eql_t _ _ _ _ _ c9) rfl) ?_
    refine ol_put rfl rfl rfl (q_assign (v := .one (bC true)) rfl) ?_
    refine ol_end ?_
    refine E_seq ?_
    refine L_condT rfl ?_
    refine L_skip ?_
    refine E_seq ?_
    refine L_condT rfl ?_
    refine L_seq ?_
    refine L_ops ?_
    refine ol_put rfl rfl rfl (q_loadP (v := .agg [iC .i64 n2, iC .u64 n3]) 2 rfl sz56 rfl rfl rfl rfl) ?_
    refine ol_put rfl rfl rfl (q_loadP (v := .agg [iC .i64 n4, iC .u64 n5]) 1 rfl sz56 rfl rfl rfl rfl) ?_
    obtain ⟨⟨n11, n12⟩, h10, h⟩ := bindS h
    refine ol_put rfl rfl rfl (q_callF (v := .agg [iC .i64 n11, iC .u64 n12]) (args := [.agg [iC .i64 n2, iC .u64 n3], .agg [iC .i64 n4, iC .u64 n5]]) (ring_lesser_r (m + 0) h10) rfl rfl (vw_cons (vd_agg (vc_cons vc_v (vc_cons vc_v vc_nil))) (vw_cons (vd_agg (vc_cons vc_v (vc_cons vc_v vc_nil))) vw_nil)) rfl rfl) ?_
    refine ol_wr rfl rfl (q_store (es' := [[iC .i64 n11, iC .u64 n12]]) 0 rfl rfl rfl sz56 rfl rfl rfl rfl rfl) rfl ?_
    refine ol_end ?_
    refine E_seq ?_
    refine L_ret ?_
    refine E_blkR ?_
    refine E_seqR ?_
    obtain rfl := Option.some.inj h
    exact E_endF (.inr rfl) (res_cell (d := .agg [iC .i64 n11, iC .u64 n12]) 0 rfl sz56 rfl rfl rfl rfl res_nil) (vw_cons (vd_agg (vc_cons vc_v (vc_cons vc_v vc_nil))) vw_nil) (fun h hb => own_agg) rfl rfl
  · replace h := ifF c9 h
    refine ol_put rfl rfl rfl (q_bin rfl rfl (p_eql_f _ _ _ _ _ c9) rfl) ?_
    refine ol_put rfl rfl rfl (q_assign (v := .one (bC false)) rfl) ?_
    refine ol_end ?_
    refine E_seq ?_
    refine L_condF rfl ?_
    refine L_seq ?_
    refine L_ops ?_
    by_cases c13 : n1 = 3
    · replace h := ifT c13 h
      refine ol_put rfl rfl rfl (q_bin rfl rfl (p_eql_t _ _ _ _ _ c13) rfl) ?_
      refine ol_put rfl rfl rfl (q_assign (v := .one (bC true)) rfl) ?_
      refine ol_end ?_
      refine E_seq ?_
      refine L_condT rfl ?_
      refine L_skip ?_
      refine E_seq ?_
      refine L_condT rfl ?_
      refine L_seq ?_
      refine L_ops ?_
      refine ol_put rfl rfl rfl (q_loadP (v := .agg [iC .i64 n2, iC .u64 n3]) 2 rfl sz56 rfl rfl rfl rfl) ?_
      refine ol_put rfl rfl rfl (q_loadP (v := .agg [iC .i64 n4, iC .u64 n5]) 1 rfl sz56 rfl rfl rfl rfl) ?_
      obtain ⟨⟨n15, n16⟩, h14, h⟩ := bindS h
      refine ol_put rfl rfl rfl (q_callF (v := .agg [iC .i64 n15, iC .u64 n16]) (args := [.agg [iC .i64 n2, iC .u64 n3], .agg [iC .i64 n4, iC .u64 n5]]) (ring_lesser_r (m + 0) h14) rfl rfl (vw_cons (vd_agg (vc_cons vc_v (vc_cons vc_v vc_nil))) (vw_cons (vd_agg (vc_cons vc_v (vc_cons vc_v vc_nil))) vw_nil)) rfl rfl) ?_
      refine ol_wr rfl rfl (q_store (es' := [[iC .i64 n15, iC .u64 n16]]) 0 rfl rfl rfl sz56 rfl rfl rfl rfl rfl) rfl ?_
      refine ol_end ?_
      refine E_seq ?_
      refine L_ret ?_
      refine E_blkR ?_
      refine E_seqR ?_
      obtain rfl := Option.some.inj h
      exact E_endF (.inr rfl) (res_cell (d := .agg [iC .i64 n15, iC .u64 n16]) 0 rfl sz56 rfl rfl rfl rfl res_nil) (vw_cons (vd_agg (vc_cons vc_v (vc_cons vc_v vc_nil))) vw_nil) (fun h hb => own_agg) rfl rfl
    · replace h := ifF c13 h
      refine ol_put rfl rfl rfl (q_bin rfl rfl (p_eql_f _ _ _ _ _ c13) rfl) ?_
      refine ol_put rfl rfl rfl (q_assign (v := .one (bC false)) rfl) ?_
      refine ol_end ?_
      refine E_seq ?_
      refine L_condF rfl ?_
      refine L_ops ?_
      by_cases c17 : n1 = 4
      · replace h := ifT c17 h
        refine ol_put rfl rfl rfl (q_bin rfl rfl (p_eql_t _ _ _ _ _ c17) rfl) ?_
        refine ol_put rfl rfl rfl (q_assign (v := .one (bC true)) rfl) ?_
        refine ol_end ?_
        refine E_seq ?_
        refine L_condT rfl ?_
        refine L_seq ?_
        refine L_ops ?_
        refine ol_put rfl rfl rfl (q_loadP (v := .agg [iC .i64 n2, iC .u64 n3]) 2 rfl sz56 rfl rfl rfl rfl) ?_
        refine ol_put rfl rfl rfl (q_loadP (v := .agg [iC .i64 n4, iC .u64 n5]) 1 rfl sz56 rfl rfl rfl rfl) ?_
        obtain ⟨⟨n19, n20⟩, h18, h⟩ := bindS h
        refine ol_put rfl rfl rfl (q_callF (v := .agg [iC .i64 n19, iC .u64 n20]) (args := [.agg [iC .i64 n2, iC .u64 n3], .agg [iC .i64 n4, iC .u64 n5]]) (ring_lesser_r (m + 0) h18) rfl rfl (vw_cons (vd_agg (vc_cons vc_v (vc_cons vc_v vc_nil))) (vw_cons (vd_agg (vc_cons vc_v (vc_cons vc_v vc_nil))) vw_nil)) rfl rfl) ?_
        refine ol_wr rfl rfl (q_store (es' := [[iC .i64 n19, iC .u64 n20]]) 0 rfl rfl rfl sz56 rfl rfl rfl rfl rfl) rfl ?_
        refine ol_end ?_
        refine E_seq ?_
        refine L_ret ?_
        refine E_blkR ?_
        refine E_seqR ?_
        obtain rfl := Option.some.inj h
        exact E_endF (.inr rfl) (res_cell (d := .agg [iC .i64 n19, iC .u64 n20]) 0 rfl sz56 rfl rfl rfl rfl res_nil) (vw_cons (vd_agg (vc_cons vc_v (vc_cons vc_v vc_nil))) vw_nil) (fun h hb => own_agg) rfl rfl
      · replace h := ifF c17 h
        refine ol_put rfl rfl rfl (q_bin rfl rfl (p_eql_f _ _ _ _ _ c17) rfl) ?_
        refine ol_put rfl rfl rfl (q_assign (v := .one (bC false)) rfl) ?_
        refine ol_end ?_
        refine E_seq ?_
        refine L_condF rfl ?_
        refine L_seq ?_
        refine L_ops ?_
        by_cases c21 : n1 = 2
        · replace h := ifT c21 h
          refine ol_put rfl rfl rfl (q_bin rfl rfl (p_eql_t _ _ _ _ _ c21) rfl) ?_
          refine ol_put rfl rfl rfl (q_assign (v := .one (bC true)) rfl) ?_
          refine ol_end ?_
          refine E_seq ?_
          refine L_condT rfl ?_
          refine L_seq ?_
          refine L_ops ?_
          refine ol_put rfl rfl rfl (q_loadP (v := .agg [iC .i64 n2, iC .u64 n3]) 2 rfl sz56 rfl rfl rfl rfl) ?_
          refine ol_put rfl rfl rfl (q_build (cs := [iC .i64 0, iC .u64 0]) ty56 rfl pl56 rfl) ?_
          by_cases c22 : n2 = 0 ∧ n3 = 0
          · replace h := ifT c22 h
            refine ol_put rfl rfl rfl (q_binA rfl rfl (by rfl) (by rfl) (eqneqA56_t _ _ c22) rfl) ?_
            refine ol_put rfl rfl rfl (q_move (v := .one (bC false)) rfl) ?_
            refine ol_put rfl rfl rfl (q_loadP (v := .agg [iC .i64 n4, iC .u64 n5]) 1 rfl sz56 rfl rfl rfl rfl) ?_
            refine ol_put rfl rfl rfl (q_build (cs := [iC .i64 0, iC .u64 0]) ty56 rfl pl56 rfl) ?_
            by_cases c23 : n4 = 0 ∧ n5 = 0
            · replace h := ifT c23 h
              refine ol_put rfl rfl rfl (q_binA rfl rfl (by rfl) (by rfl) (eqneqA56_t _ _ c23) rfl) ?_
              refine ol_put rfl rfl rfl (q_pickF (v := .one (bC false)) rfl rfl) ?_
              obtain ⟨⟨n25, n26⟩, h24, h⟩ := bindS h
              refine ol_put rfl rfl rfl (q_callF (v := .agg [iC .i64 n25, iC .u64 n26]) (args := [.one (bC false)]) (ring_truth_r (m + 0) h24) rfl rfl (vw_cons (vd_one vc_v) vw_nil) rfl rfl) ?_
              refine ol_wr rfl rfl (q_store (es' := [[iC .i64 n25, iC .u64 n26]]) 0 rfl rfl rfl sz56 rfl rfl rfl rfl rfl) rfl ?_
              refine ol_end ?_
              refine E_seq ?_
              refine L_ret ?_
              refine E_blkR ?_
              refine E_seqR ?_
              obtain rfl := Option.some.inj h
              exact E_endF (.inr rfl) (res_cell (d := .agg [iC .i64 n25, iC .u64 n26]) 0 rfl sz56 rfl rfl rfl rfl res_nil) (vw_cons (vd_agg (vc_cons vc_v (vc_cons vc_v vc_nil))) vw_nil) (fun h hb => own_agg) rfl rfl
            · replace h := ifF c23 h
              refine ol_put rfl rfl rfl (q_binA rfl rfl (by rfl) (by rfl) (eqneqA56_f _ _ c23) rfl) ?_
              refine ol_put rfl rfl rfl (q_pickF (v := .one (bC true)) rfl rfl) ?_
              obtain ⟨⟨n28, n29⟩, h27, h⟩ := bindS h
              refine ol_put rfl rfl rfl (q_callF (v := .agg [iC .i64 n28, iC .u64 n29]) (args := [.one (bC true)]) (ring_truth_r (m + 0) h27) rfl rfl (vw_cons (vd_one vc_v) vw_nil) rfl rfl) ?_
              refine ol_wr rfl rfl (q_store (es' := [[iC .i64 n28, iC .u64 n29]]) 0 rfl rfl rfl sz56 rfl rfl rfl rfl rfl) rfl ?_
              refine ol_end ?_
              refine E_seq ?_
              refine L_ret ?_
              refine E_blkR ?_
              refine E_seqR ?_
              obtain rfl := Option.some.inj h
              exact E_endF (.inr rfl) (res_cell (d := .agg [iC .i64 n28, iC .u64 n29]) 0 rfl sz56 rfl rfl rfl rfl res_nil) (vw_cons (vd_agg (vc_cons vc_v (vc_cons vc_v vc_nil))) vw_nil) (fun h hb => own_agg) rfl rfl
          · replace h := ifF c22 h
            refine ol_put rfl rfl rfl (q_binA rfl rfl (by rfl) (by rfl) (eqneqA56_f _ _ c22) rfl) ?_
            refine ol_put rfl rfl rfl (q_move (v := .one (bC true)) rfl) ?_
            refine ol_skip rfl rfl rfl ?_
            refine ol_skip rfl rfl rfl ?_
            refine ol_skip rfl rfl rfl ?_
            refine ol_put rfl rfl rfl (q_pickT (v := .one (bC true)) rfl rfl) ?_
            obtain ⟨⟨n31, n32⟩, h30, h⟩ := bindS h
            refine ol_put rfl rfl rfl (q_callF (v := .agg [iC .i64 n31, iC .u64 n32]) (args := [.one (bC true)]) (ring_truth_r (m + 0) h30) rfl rfl (vw_cons (vd_one vc_v) vw_nil) rfl rfl) ?_
            refine ol_wr rfl rfl (q_store (es' := [[iC .i64 n31, iC .u64 n32]]) 0 rfl rfl rfl sz56 rfl rfl rfl rfl rfl) rfl ?_
            refine ol_end ?_
            refine E_seq ?_
            refine L_ret ?_
            refine E_blkR ?_
            refine E_seqR ?_
            obtain rfl := Option.some.inj h
            exact E_endF (.inr rfl) (res_cell (d := .agg [iC .i64 n31, iC .u64 n32]) 0 rfl sz56 rfl rfl rfl rfl res_nil) (vw_cons (vd_agg (vc_cons vc_v (vc_cons vc_v vc_nil))) vw_nil) (fun h hb => own_agg) rfl rfl
        · replace h := ifF c21 h
          refine ol_put rfl rfl rfl (q_bin rfl rfl (p_eql_f _ _ _ _ _ c21) rfl) ?_
          refine ol_put rfl rfl rfl (q_assign (v := .one (bC false)) rfl) ?_
          refine ol_end ?_
          refine E_seq ?_
          refine L_condF rfl ?_
          refine L_seq ?_
          refine L_ops ?_
          by_cases c33 : n1 = 5
          · replace h := ifT c33 h
            refine ol_put rfl rfl rfl (q_bin rfl rfl (p_eql_t _ _ _ _ _ c33) rfl) ?_
            refine ol_put rfl rfl rfl (q_assign (v := .one (bC true)) rfl) ?_
            refine ol_end ?_
            refine E_seq ?_
            refine L_condT rfl ?_
            refine L_seq ?_
            refine L_ops ?_
            refine ol_put rfl rfl rfl (q_loadP (v := .agg [iC .i64 n2, iC .u64 n3]) 2 rfl sz56 rfl rfl rfl rfl) ?_
            refine ol_put rfl rfl rfl (q_loadP (v := .agg [iC .i64 n4, iC .u64 n5]) 1 rfl sz56 rfl rfl rfl rfl) ?_
            obtain ⟨⟨n35, n36⟩, h34, h⟩ := bindS h
            refine ol_put rfl rfl rfl (q_callF (v := .agg [iC .i64 n35, iC .u64 n36]) (args := [.agg [iC .i64 n2, iC .u64 n3], .agg [iC .i64 n4, iC .u64 n5]]) (wide_Add_r (m + 1) h34) rfl rfl (vw_cons (vd_agg (vc_cons vc_v (vc_cons vc_v vc_nil))) (vw_cons (vd_agg (vc_cons vc_v (vc_cons vc_v vc_nil))) vw_nil)) rfl rfl) ?_
            refine ol_wr rfl rfl (q_store (es' := [[iC .i64 n35, iC .u64 n36]]) 0 rfl rfl rfl sz56 rfl rfl rfl rfl rfl) rfl ?_
            refine ol_end ?_
            refine E_seq ?_
            refine L_ret ?_
            refine E_blkR ?_
            refine E_seqR ?_
            obtain rfl := Option.some.inj h
            exact E_endF (.inr rfl) (res_cell (d := .agg [iC .i64 n35, iC .u64 n36]) 0 rfl sz56 rfl rfl rfl rfl res_nil) (vw_cons (vd_agg (vc_cons vc_v (vc_cons vc_v vc_nil))) vw_nil) (fun h hb => own_agg) rfl rfl
          · replace h := ifF c33 h
            refine ol_put rfl rfl rfl (q_bin rfl rfl (p_eql_f _ _ _ _ _ c33) rfl) ?_
            refine ol_put rfl rfl rfl (q_assign (v := .one (bC false)) rfl) ?_
            refine ol_end ?_
            refine E_seq ?_
            refine L_condF rfl ?_
            refine L_skip ?_
            refine E_blkN ?_
            refine E_seq ?_
            refine L_seq ?_
            refine L_ops ?_
            refine ol_put rfl rfl rfl (q_build (cs := [iC .i64 0, iC .u64 0]) ty56 rfl pl56 rfl) ?_
            refine ol_wr rfl rfl (q_store (es' := [[iC .i64 0, iC .u64 0]]) 0 rfl rfl rfl sz56 rfl rfl rfl rfl rfl) rfl ?_
            refine ol_end ?_
            refine E_seq ?_
            refine L_ret ?_
            obtain rfl := Option.some.inj h
            exact E_endF (.inr rfl) (res_cell (d := .agg [iC .i64 0, iC .u64 0]) 0 rfl sz56 rfl rfl rfl rfl res_nil) (vw_cons (vd_agg (vc_cons vc_v (vc_cons vc_v vc_nil))) vw_nil) (fun h hb => own_agg) rfl rfl

noncomputable def wide_Narrow (a0 : Int × Int) : Option (Int × Bool) :=
  match a0 with
  | (n1, n2) => ((wide_Of (IntKind.i64.wrap n2)).bind fun (n5, n6) => (if n1 = n5 ∧ n2 = n6 then some ((IntKind.i64.wrap n2), true) else some (0, false)))
theorem wide_Narrow_r (m : Nat) {a0 : Int × Int} {out : Int × Bool} (h : wide_Narrow a0 = some out) : RunsP E1 (m + 2) 69 [.agg (r55 a0)] (.fresh, [.one (iT .i64 out.1), .one (bT out.2)]) := by
  obtain ⟨n1, n2⟩ := a0
  refine fn_F rfl (by rw [E1_fn]; exact show fiOf Try.prog 69 = _ by unfold fiOf; rw [Try.func69]; unfold Try.f69; rfl) rfl ?_
  dsimp only
  unfold wide_Narrow at h
  refine L_seq ?_
  refine L_ops ?_
  refine ol_new rfl rfl rfl (q_box ty56 rfl (cs := [iC .i64 n1, iC .u64 n2]) rfl rfl) (fun k3 => ?_)
  refine ol_put rfl rfl rfl (q_assign (v := .one (iC .i64 0)) rfl) ?_
  refine ol_put rfl rfl rfl (q_assign (v := .one (bC false)) rfl) ?_
  refine ol_end ?_
  refine E_seq ?_
  refine L_seq ?_
  refine L_ops ?_
  refine ol_put rfl rfl rfl (q_fieldP rfl fa56_1 rfl) ?_
  refine ol_put rfl rfl rfl (q_loadP (v := .one (iC .u64 n2)) 0 rfl sz54 rfl rfl rfl rfl) ?_
  refine ol_put rfl rfl rfl (q_conv rfl (cv54_2_u64 _) rfl) ?_
  refine ol_put rfl rfl rfl (q_assign (v := .one (iC .i64 (IntKind.i64.wrap n2))) rfl) ?_
  refine ol_end ?_
  refine E_seq ?_
  refine L_seq ?_
  refine L_seq ?_
  refine L_still (by kernel_rfl) ?_
  refine st_put rfl rfl rfl (q_loadP (v := .agg [iC .i64 n1, iC .u64 n2]) 0 rfl sz56 rfl rfl rfl rfl) ?_
  refine st_put rfl rfl rfl (q_move (v := .one (iC .i64 (IntKind.i64.wrap n2))) rfl) ?_
  obtain ⟨⟨n5, n6⟩, h4, h⟩ := bindS h
  refine st_put rfl rfl rfl (q_callF (v := .agg [iC .i64 n5, iC .u64 n6]) (args := [.one (iC .i64 (IntKind.i64.wrap n2))]) (wide_Of_r (m + 0) h4) rfl rfl (vw_cons (vd_one vc_v) vw_nil) rfl rfl) ?_
  by_cases c7 : n1 = n5 ∧ n2 = n6
  · replace h := ifT c7 h
    refine st_put rfl rfl rfl (q_binA rfl rfl (by rfl) (by rfl) (eqneqA56_t _ _ c7) rfl) ?_
    refine st_end ?_
    refine E_seq ?_
    refine L_condF rfl ?_
    refine L_skip ?_
    refine E_seq ?_
    refine L_seq ?_
    refine L_ops ?_
    refine ol_put rfl rfl rfl (q_move (v := .one (iC .i64 (IntKind.i64.wrap n2))) rfl) ?_
    refine ol_put rfl rfl rfl (q_assign (v := .one (iC .i64 (IntKind.i64.wrap n2))) rfl) ?_
    refine ol_put rfl rfl rfl (q_assign (v := .one (bC true)) rfl) ?_
    refine ol_end ?_
    refine E_seq ?_
    refine L_ret ?_
    obtain rfl := Option.some.inj h
    exact E_endF (.inr rfl) (res_tmp rfl (res_tmp rfl res_nil)) (vw_cons (vd_one vc_v) (vw_cons (vd_one vc_v) vw_nil)) (fun h hb => own_no2) rfl rfl
  · replace h := ifF c7 h
    refine st_put rfl rfl rfl (q_binA rfl rfl (by rfl) (by rfl) (eqneqA56_f _ _ c7) rfl) ?_
    refine st_end ?_
    refine E_seq ?_
    refine L_condT rfl ?_
    refine L_seq ?_
    refine L_ops ?_
    refine ol_put rfl rfl rfl (q_assign (v := .one (iC .i64 0)) rfl) ?_
    refine ol_put rfl rfl rfl (q_assign (v := .one (bC false)) rfl) ?_
    refine ol_end ?_
    refine E_seq ?_
    refine L_ret ?_
    refine E_seqR ?_
    obtain rfl := Option.some.inj h
    exact E_endF (.inr rfl) (res_tmp rfl (res_tmp rfl res_nil)) (vw_cons (vd_one vc_v) (vw_cons (vd_one vc_v) vw_nil)) (fun h hb => own_no2) rfl rfl

noncomputable def ring_Narrow (n1 : Int) (a1 : Int × Int) : Option (Int × Bool) :=
  match a1 with
  | (n2, n3) => ((wide_Narrow (n2, n3)).bind fun (n6, b7) => some (n6, b7))
theorem ring_Narrow_r (m : Nat) {n1 : Int} {a1 : Int × Int} {out : Int × Bool} (h : ring_Narrow n1 a1 = some out) : RunsP E1 (m + 3) 44 [.one (iT .i64 n1), .agg (r55 a1)] (.fresh, [.one (iT .i64 out.1), .one (bT out.2)]) := by
  obtain ⟨n2, n3⟩ := a1
  refine fn_F rfl (by rw [E1_fn]; exact show fiOf Try.prog 44 = _ by unfold fiOf; rw [Try.func44]; unfold Try.f44; rfl) rfl ?_
  dsimp only
  unfold ring_Narrow at h
  refine L_seq ?_
  refine L_ops ?_
  refine ol_new rfl rfl rfl (q_box ty56 rfl (cs := [iC .i64 n2, iC .u64 n3]) rfl rfl) (fun k4 => ?_)
  refine ol_put rfl rfl rfl (q_assign (v := .one (iC .i64 0)) rfl) ?_
  refine ol_put rfl rfl rfl (q_assign (v := .one (bC false)) rfl) ?_
  refine ol_end ?_
  refine E_seq ?_
  refine L_seq ?_
  refine L_ops ?_
  refine ol_put rfl rfl rfl (q_loadP (v := .agg [iC .i64 n2, iC .u64 n3]) 0 rfl sz56 rfl rfl rfl rfl) ?_
  obtain ⟨⟨n6, b7⟩, h5, h⟩ := bindS h
  refine ol_put rfl rfl rfl (q_callF (v := .tup [.one (iC .i64 n6), .one (bC b7)]) (args := [.agg [iC .i64 n2, iC .u64 n3]]) (wide_Narrow_r (m + 0) h5) rfl rfl (vw_cons (vd_agg (vc_cons vc_v (vc_cons vc_v vc_nil))) vw_nil) rfl rfl) ?_
  refine ol_put rfl rfl rfl (q_ext (v := .one (iC .i64 n6)) rfl rfl) ?_
  refine ol_put rfl rfl rfl (q_ext (v := .one (bC b7)) rfl rfl) ?_
  refine ol_put rfl rfl rfl (q_assign (v := .one (iC .i64 n6)) rfl) ?_
  refine ol_put rfl rfl rfl (q_assign (v := .one (bC b7)) rfl) ?_
  refine ol_end ?_
  refine E_seq ?_
  refine L_ret ?_
  obtain rfl := Option.some.inj h
  exact E_endF (.inr rfl) (res_tmp rfl (res_tmp rfl res_nil)) (vw_cons (vd_one vc_v) (vw_cons (vd_one vc_v) vw_nil)) (fun h hb => own_no2) rfl rfl

noncomputable def fold_Reduce_b1 (n1 : Int) (s15 : Sl (Int × Int)) (a : Int × Int × Int) : Option ((Int × Int × Int) ⊕ ((Int × Int) ⊕ (Int × Int))) :=
  match a with
  | (n66, n67, n68) => (if n66 < ((s15.l.length : Nat) : Int) then ((atS 2 s15 n66).bind fun (n72, n73) => (if n66 = 0 then ((wide_Of n73).bind fun (n77, n78) => some (.inl ((IntKind.i64.wrap (n66 + 1)), n77, n78))) else ((wide_Of n73).bind fun (n87, n88) => ((ring_Add n1 (n67, n68) (n87, n88)).bind fun (n90, n91) => some (.inl ((IntKind.i64.wrap (n66 + 1)), n90, n91)))))) else some (.inr (.inl (n67, n68))))
noncomputable def fold_Reduce (n1 : Int) (a1 : Int × (Sl (Int × Int))) : Option (Int × Int) :=
  match a1 with
  | (n2, s3) => ((ring_Is n1).bind fun b6 => (if b6 = true then ((ring_Zero n1).bind fun n8 => ((wide_Of n8).bind fun (n10, n11) => ((fold_sure (n2, s3)).bind fun (n14, s15) => ((loopO (fold_Reduce_b1 n1 s15) (0, n10, n11)).bind (Sum.elim (fun ⟨n92, n93⟩ => ((ring_Narrow n1 (n92, n93)).bind fun (n95, b96) => (if b96 = true then some (n95, 0) else some (0, 12)))) (fun u => some u)))))) else some (0, 8)))
theorem fold_Reduce_r (m : Nat) {n1 : Int} {a1 : Int × (Sl (Int × Int))} {out : Int × Int} (h : fold_Reduce n1 a1 = some out) : RunsP E1 (m + 4) 11 [.one (iT .i64 n1), .agg (r24 a1)] (.fresh, [.one (iT .i64 out.1), .one (iT .i64 out.2)]) := by
  obtain ⟨n2, s3⟩ := a1
  refine fn_F rfl (by rw [E1_fn]; exact show fiOf Try.prog 11 = _ by unfold fiOf; rw [Try.func11]; unfold Try.f11; rfl) rfl ?_
  dsimp only
  unfold fold_Reduce at h
  refine L_seq ?_
  refine L_ops ?_
  refine ol_new rfl rfl rfl (q_box ty25 rfl (cs := [iC .i64 n2, .p false (Sl.t r33 s3)]) rfl rfl) (fun k4 => ?_)
  refine ol_put rfl rfl rfl (q_assign (v := .one (iC .i64 0)) rfl) ?_
  refine ol_put rfl rfl rfl (q_assign (v := .one (iC .i64 0)) rfl) ?_
  refine ol_end ?_
  refine E_seq ?_
  refine L_seq ?_
  refine L_seq ?_
  refine L_ops ?_
  refine ol_put rfl rfl rfl (q_move (v := .one (iC .i64 n1)) rfl) ?_
  obtain ⟨b6, h5, h⟩ := bindS h
  refine ol_put rfl rfl rfl (q_callF (v := .one (bC b6)) (args := [.one (iC .i64 n1)]) (ring_Is_r (m + 2) h5) rfl rfl (vw_cons (vd_one vc_v) vw_nil) rfl rfl) ?_
  rcases b6 with _ | _
  · replace h := ifF (by decide) h
    refine ol_put rfl rfl rfl (q_not rfl) ?_
    refine ol_end ?_
    refine E_seq ?_
    refine L_condT rfl ?_
    refine L_seq ?_
    refine L_ops ?_
    refine ol_put rfl rfl rfl (q_assign (v := .one (iC .i64 0)) rfl) ?_
    refine ol_put rfl rfl rfl (q_assign (v := .one (iC .i64 8)) rfl) ?_
    refine ol_end ?_
    refine E_seq ?_
    refine L_ret ?_
    refine E_seqR ?_
    obtain rfl := Option.some.inj h
    exact E_endF (.inr rfl) (res_tmp rfl (res_tmp rfl res_nil)) (vw_cons (vd_one vc_v) (vw_cons (vd_one vc_v) vw_nil)) (fun h hb => own_no2) rfl rfl
  · replace h := ifT (by decide) h
    refine ol_put rfl rfl rfl (q_not rfl) ?_
    refine ol_end ?_
    refine E_seq ?_
    refine L_condF rfl ?_
    refine L_skip ?_
    refine E_seq ?_
    refine L_seq ?_
    refine L_ops ?_
    refine ol_put rfl rfl rfl (q_move (v := .one (iC .i64 n1)) rfl) ?_
    obtain ⟨n8, h7, h⟩ := bindS h
    refine ol_put rfl rfl rfl (q_callF (v := .one (iC .i64 n8)) (args := [.one (iC .i64 n1)]) (ring_Zero_r (m + 2) h7) rfl rfl (vw_cons (vd_one vc_v) vw_nil) rfl rfl) ?_
    obtain ⟨⟨n10, n11⟩, h9, h⟩ := bindS h
    refine ol_put rfl rfl rfl (q_callF (v := .agg [iC .i64 n10, iC .u64 n11]) (args := [.one (iC .i64 n8)]) (wide_Of_r (m + 2) h9) rfl rfl (vw_cons (vd_one vc_v) vw_nil) rfl rfl) ?_
    refine ol_new rfl rfl rfl (q_alloc ty56 (row := [iC .i64 0, iC .u64 0]) rfl rfl) (fun k12 => ?_)
    refine ol_wr rfl rfl (q_store (es' := [[iC .i64 n10, iC .u64 n11]]) 0 rfl rfl rfl sz56 rfl rfl rfl rfl rfl) rfl ?_
    refine ol_end ?_
    refine E_seq ?_
    refine L_seq ?_
    refine L_seq ?_
    refine L_ops ?_
    refine ol_put rfl rfl rfl (q_loadP (v := .agg [iC .i64 n2, .p false (Sl.t r33 s3)]) 1 rfl sz25 rfl rfl rfl rfl) ?_
    obtain ⟨⟨n14, s15⟩, h13, h⟩ := bindS h
    refine ol_putX rfl rfl rfl (q_callX (v := fun fr16 => .agg [iC .i64 n14, .p fr16 (Sl.t r33 s15)]) (args := [.agg [iC .i64 n2, .p false (Sl.t r33 s3)]]) (fold_sure_r (m + 0) h13) rfl rfl (vw_cons (vd_agg (vc_cons vc_v (vc_cons vc_s vc_nil))) vw_nil) rfl rfl (fun fr => rfl)) (fun fr16 => ?_)
    refine ol_put rfl rfl rfl (q_fieldV (v := .one (.p fr16 (Sl.t r33 s15))) rfl fa25_1 rfl rfl) ?_
    refine ol_put rfl rfl rfl (q_lenS rfl ty23 rfl rfl rfl rfl) ?_
    refine ol_put rfl rfl rfl (q_move (v := .one (iC .i64 0)) rfl) ?_
    refine ol_end ?_
    refine E_seq ?_
    refine L_block ?_
    let S1 : (Int × Int × Int) → Unit → (Nat → D) → Nat → D := fun a kt g => ups g [(0, .one (iC .i64 n1)), (6, .one (.ptr k12 0 0)), (19, .one (.p fr16 (Sl.t r33 s15))), (20, .one (iC .i64 ((s15.l.length : Nat) : Int))), (21, .one (iC .i64 a.1))]
    let SL1 : (Int × Int × Int) → Unit → BL := fun a kt => ([[(k12, 2, [[iC .i64 a.2.1, iC .u64 a.2.2]])]] : BL)
    let Sx1 : (Int × Int) → Unit → (Nat → D) → Nat → D := fun a kt g => ups g [(0, .one (iC .i64 n1)), (6, .one (.ptr k12 0 0))]
    let SLx1 : (Int × Int) → Unit → BL := fun a kt => ([[(k12, 2, [[iC .i64 a.1, iC .u64 a.2]])]] : BL)
    let G1 : (Int × Int) → Ex → St → Prop := fun u => endQ E1 [.tmp 4, .tmp 5] (.fresh, [.one (iT .i64 u.1), .one (iT .i64 u.2)])
    let J1 : ((Int × Int) ⊕ (Int × Int)) → Ex → St → Prop := JX 47 0 Sx1 SLx1 G1
    refine L_loopS (fold_Reduce_b1 n1 s15) S1 SL1 J1 JX_n (0, n10, n11) h () (ups_self ⟨rfl, rfl, rfl, rfl, rfl, trivial⟩) [0] (by decide) rfl ?_ ?_
    · rintro ⟨n66, n67, n68⟩ _ g out h
      change fold_Reduce_b1 n1 s15 (n66, n67, n68) = some out at h
      unfold fold_Reduce_b1 at h
      refine L_seq ?_
      refine L_ops ?_
      by_cases c69 : n66 < ((s15.l.length : Nat) : Int)
      · replace h := ifT c69 h
        refine ol_put rfl rfl rfl (q_bin rfl rfl (p_lss_t _ _ _ _ _ c69) rfl) ?_
        refine ol_end ?_
        refine E_seq ?_
        refine L_seq ?_
        refine L_condT rfl ?_
        refine L_skip ?_
        refine E_seq ?_
        refine L_seq ?_
        refine L_block ?_
        refine L_seq ?_
        refine L_ops ?_
        refine ol_put rfl rfl rfl (q_move (v := .one (iC .i64 n66)) rfl) ?_
        obtain ⟨⟨n72, n73⟩, h71, h⟩ := bindS h
        obtain ⟨h71a, h71b, h71⟩ := atS_some h71
        refine ol_put rfl rfl rfl (q_ixS rfl rfl h71a h71 (el23.trans (congrArg some h71b.symm))) ?_
        refine ol_put rfl rfl rfl (q_loadI (v := .agg [iC .i64 n72, iC .i64 n73]) rfl sz34 (map_get h71) rfl rfl) ?_
        refine ol_new rfl rfl rfl (q_alloc ty34 (row := [iC .i64 0, iC .i64 0]) rfl rfl) (fun k74 => ?_)
        refine ol_put rfl rfl rfl (q_assign (v := .one (iC .i64 n66)) rfl) ?_
        refine ol_wr rfl rfl (q_store (es' := [[iC .i64 n72, iC .i64 n73]]) 0 rfl rfl rfl sz34 rfl rfl rfl rfl rfl) rfl ?_
        refine ol_end ?_
        refine E_seq ?_
        refine L_seq ?_
        refine L_ops ?_
        refine ol_put rfl rfl rfl (q_move (v := .one (iC .i64 n66)) rfl) ?_
        by_cases c75 : n66 = 0
        · replace h := ifT c75 h
          refine ol_put rfl rfl rfl (q_bin rfl rfl (p_eql_t _ _ _ _ _ c75) rfl) ?_
          refine ol_end ?_
          refine E_seq ?_
          refine L_condT rfl ?_
          refine L_ops ?_
          refine ol_put rfl rfl rfl (q_fieldP rfl fa34_1 rfl) ?_
          refine ol_put rfl rfl rfl (q_loadP (v := .one (iC .i64 n73)) 0 rfl sz2 rfl rfl rfl rfl) ?_
          obtain ⟨⟨n77, n78⟩, h76, h⟩ := bindS h
          refine ol_put rfl rfl rfl (q_callF (v := .agg [iC .i64 n77, iC .u64 n78]) (args := [.one (iC .i64 n73)]) (wide_Of_r (m + 2) h76) rfl rfl (vw_cons (vd_one vc_v) vw_nil) rfl rfl) ?_
          refine ol_wr rfl rfl (q_store (es' := [[iC .i64 n77, iC .u64 n78]]) 1 rfl rfl rfl sz56 rfl rfl rfl rfl rfl) rfl ?_
          refine ol_end ?_
          refine E_blkN ?_
          refine E_seq ?_
          refine L_ops ?_
          refine ol_put rfl rfl rfl (q_bin rfl rfl (p_add _ _ _ _ _ _ _) rfl) ?_
          refine ol_put rfl rfl rfl (q_move (v := .one (iC .i64 (IntKind.i64.wrap (n66 + 1)))) rfl) ?_
          refine ol_end ?_
          obtain rfl := Option.some.inj h
          exact E_next () (ups_self ⟨rfl, rfl, rfl, rfl, rfl, trivial⟩) [1] (by decide) rfl
        · replace h := ifF c75 h
          refine ol_put rfl rfl rfl (q_bin rfl rfl (p_eql_f _ _ _ _ _ c75) rfl) ?_
          refine ol_end ?_
          refine E_seq ?_
          refine L_condF rfl ?_
          refine L_norm (L2 := ([[(k74, 2, [[iC .i64 n72, iC .i64 n73]])], [(k12, 2, [[iC .i64 n67, iC .u64 n68]])]] : BL)) [0, 1] (by decide) rfl ?_
          refine L_turn 7 rfl [[], [], [], [], [], [], [k12]] [(false, []), (false, []), (false, []), (false, []), (false, []), (false, []), (false, [])] [[1, 2, 3, 4], [0, 2, 3, 4], [0, 1], [0, 1], [0, 1], [], []] (by kernel_rfl) (by kernel_rfl) (by kernel_rfl) ?_ (fun bb79 hlt hnd => ?_)
          · intro bb79 hlt hnd
            have e_k74 : k74 < bb79 := key_lt hlt 0 rfl
            have e_k12 : k12 < bb79 := key_lt hlt 1 rfl
            have d_k12_k74 : k12 ≠ k74 := key_ne hnd 1 0 rfl rfl rfl
            exact ⟨(by first | (simp; done) | (simp; omega) | (simp; assumption) | (simp_all; done) | (simp_all; omega)), (by first | (simp; done) | (simp; omega) | (simp; assumption) | (simp_all; done) | (simp_all; omega))⟩
          have e_k74 : k74 < bb79 := key_lt hlt 0 rfl
          have e_k12 : k12 < bb79 := key_lt hlt 1 rfl
          have d_k12_k74 : k12 ≠ k74 := key_ne hnd 1 0 rfl rfl rfl
          clear hlt hnd
          refine tn_put rfl rfl rfl [] (by decide) rfl (hm0 rfl) rfl (q_move (v := .one (iC .i64 n1)) rfl) ?_
          refine tn_put rfl rfl rfl [1] (by decide) rfl (hm0 rfl) rfl (q_loadP (v := .agg [iC .i64 n67, iC .u64 n68]) 0 rfl sz56 rfl rfl rfl rfl) ?_
          refine tn_put rfl rfl rfl [] (by decide) rfl (hm0 rfl) rfl (q_fieldP rfl fa34_1 rfl) ?_
          refine tn_put rfl rfl rfl [0] (by decide) rfl (hm0 rfl) rfl (q_loadP (v := .one (iC .i64 n73)) 0 rfl sz2 rfl rfl rfl rfl) ?_
          obtain ⟨⟨n87, n88⟩, h86, h⟩ := bindS h
          refine tn_put rfl rfl rfl [] (by decide) rfl (hm0 rfl) rfl (q_callF (v := .agg [iC .i64 n87, iC .u64 n88]) (args := [.one (iC .i64 n73)]) (wide_Of_r (m + 2) h86) rfl rfl (vw_cons (vd_one vc_v) vw_nil) rfl rfl) ?_
          obtain ⟨⟨n90, n91⟩, h89, h⟩ := bindS h
          refine tn_put rfl rfl rfl [] (by decide) rfl (hm0 rfl) rfl (q_callF (v := .agg [iC .i64 n90, iC .u64 n91]) (args := [.one (iC .i64 n1), .agg [iC .i64 n67, iC .u64 n68], .agg [iC .i64 n87, iC .u64 n88]]) (ring_Add_r (m + 0) h89) rfl rfl (vw_cons (vd_one vc_v) (vw_cons (vd_agg (vc_cons vc_v (vc_cons vc_v vc_nil))) (vw_cons (vd_agg (vc_cons vc_v (vc_cons vc_v vc_nil))) vw_nil))) rfl rfl) ?_
          refine tn_wr rfl rfl [1] (by decide) rfl (hm0 rfl) rfl (q_store (es' := [[iC .i64 n90, iC .u64 n91]]) 0 rfl rfl rfl sz56 rfl rfl rfl rfl rfl) (q := 1) rfl rfl ?_
          refine tn_end ?_
          refine E_blkN ?_
          refine E_seq ?_
          refine L_ops ?_
          refine ol_put rfl rfl rfl (q_bin rfl rfl (p_add _ _ _ _ _ _ _) rfl) ?_
          refine ol_put rfl rfl rfl (q_move (v := .one (iC .i64 (IntKind.i64.wrap (n66 + 1)))) rfl) ?_
          refine ol_end ?_
          obtain rfl := Option.some.inj h
          exact E_next () (ups_self ⟨rfl, rfl, rfl, rfl, rfl, trivial⟩) [1] (by decide) rfl
      · replace h := ifF c69 h
        refine ol_put rfl rfl rfl (q_bin rfl rfl (p_lss_f _ _ _ _ _ c69) rfl) ?_
        refine ol_end ?_
        refine E_seq ?_
        refine L_seq ?_
        refine L_condF rfl ?_
        refine L_exit ?_
        refine E_seqX ?_
        obtain rfl := Option.some.inj h
        refine E_out ?_
        exact (E_exit () (ups_self ⟨rfl, rfl, trivial⟩) [0] (by decide) rfl)
    · rintro (⟨n92, n93⟩ | u) h
      · refine J_x (fun kt g => ?_)
        replace h := elimL h
        refine E_blkH ?_
        refine E_seq ?_
        refine L_seq ?_
        refine L_ops ?_
        refine ol_put rfl rfl rfl (q_move (v := .one (iC .i64 n1)) rfl) ?_
        refine ol_put rfl rfl rfl (q_loadP (v := .agg [iC .i64 n92, iC .u64 n93]) 0 rfl sz56 rfl rfl rfl rfl) ?_
        obtain ⟨⟨n95, b96⟩, h94, h⟩ := bindS h
        refine ol_put rfl rfl rfl (q_callF (v := .tup [.one (iC .i64 n95), .one (bC b96)]) (args := [.one (iC .i64 n1), .agg [iC .i64 n92, iC .u64 n93]]) (ring_Narrow_r (m + 0) h94) rfl rfl (vw_cons (vd_one vc_v) (vw_cons (vd_agg (vc_cons vc_v (vc_cons vc_v vc_nil))) vw_nil)) rfl rfl) ?_
        refine ol_put rfl rfl rfl (q_move (v := .tup [.one (iC .i64 n95), .one (bC b96)]) rfl) ?_
        refine ol_put rfl rfl rfl (q_ext (v := .one (iC .i64 n95)) rfl rfl) ?_
        refine ol_put rfl rfl rfl (q_ext (v := .one (bC b96)) rfl rfl) ?_
        refine ol_put rfl rfl rfl (q_assign (v := .one (iC .i64 n95)) rfl) ?_
        refine ol_put rfl rfl rfl (q_assign (v := .one (bC b96)) rfl) ?_
        refine ol_end ?_
        refine E_seq ?_
        refine L_seq ?_
        refine L_seq ?_
        refine L_ops ?_
        refine ol_put rfl rfl rfl (q_move (v := .one (bC b96)) rfl) ?_
        rcases b96 with _ | _
        · replace h := ifF (by decide) h
          refine ol_put rfl rfl rfl (q_not rfl) ?_
          refine ol_end ?_
          refine E_seq ?_
          refine L_condT rfl ?_
          refine L_seq ?_
          refine L_ops ?_
          refine ol_put rfl rfl rfl (q_assign (v := .one (iC .i64 0)) rfl) ?_
          refine ol_put rfl rfl rfl (q_assign (v := .one (iC .i64 12)) rfl) ?_
          refine ol_end ?_
          refine E_seq ?_
          refine L_ret ?_
          refine E_seqR ?_
          obtain rfl := Option.some.inj h
          exact E_endF (.inr rfl) (res_tmp rfl (res_tmp rfl res_nil)) (vw_cons (vd_one vc_v) (vw_cons (vd_one vc_v) vw_nil)) (fun h hb => own_no2) rfl rfl
        · replace h := ifT (by decide) h
          refine ol_put rfl rfl rfl (q_not rfl) ?_
          refine ol_end ?_
          refine E_seq ?_
          refine L_condF rfl ?_
          refine L_skip ?_
          refine E_seq ?_
          refine L_seq ?_
          refine L_ops ?_
          refine ol_put rfl rfl rfl (q_move (v := .one (iC .i64 n95)) rfl) ?_
          refine ol_put rfl rfl rfl (q_assign (v := .one (iC .i64 n95)) rfl) ?_
          refine ol_put rfl rfl rfl (q_assign (v := .one (iC .i64 0)) rfl) ?_
          refine ol_end ?_
          refine E_seq ?_
          refine L_ret ?_
          obtain rfl := Option.some.inj h
          exact E_endF (.inr rfl) (res_tmp rfl (res_tmp rfl res_nil)) (vw_cons (vd_one vc_v) (vw_cons (vd_one vc_v) vw_nil)) (fun h hb => own_no2) rfl rfl
      · obtain rfl := Option.some.inj (elimR h)
        exact J_up (fun s hs => hs)

noncomputable def ref09_Right_b1 (n1 : Int) (s2 : Sl (Int × Int)) (n49 : Int) : Option (Int ⊕ (Unit ⊕ Bool)) :=
  (if n49 < ((s2.l.length : Nat) : Int) then ((atS 2 s2 n49).bind fun (n53, n54) => (if n53 < 0 then some (.inr (.inr false)) else ((atS 2 s2 n49).bind fun (n58, n59) => (if n58 ≥ n1 then some (.inr (.inr false)) else (if n49 > 0 then ((atS 2 s2 n49).bind fun (n64, n65) => ((atS 2 s2 (IntKind.i64.wrap (n49 - 1))).bind fun (n68, n69) => (if n64 ≤ n68 then some (.inr (.inr false)) else some (.inl (IntKind.i64.wrap (n49 + 1)))))) else some (.inl (IntKind.i64.wrap (n49 + 1)))))))) else some (.inr (.inl ())))
noncomputable def ref09_Right (a0 : Int × (Sl (Int × Int))) : Option (Bool) :=
  match a0 with
  | (n1, s2) => (if n1 < 0 then some false else (if n1 > 4096 then some false else ((loopO (ref09_Right_b1 n1 s2) 0).bind (Sum.elim (fun _ => some true) (fun u => some u)))))
theorem ref09_Right_r (m : Nat) {a0 : Int × (Sl (Int × Int))} {out : Bool} (h : ref09_Right a0 = some out) : RunsP E1 (m + 1) 70 [.agg (r24 a0)] (.fresh, [.one (bT out)]) := by
  obtain ⟨n1, s2⟩ := a0
  refine fn_F rfl (by rw [E1_fn]; exact show fiOf Try.prog 70 = _ by unfold fiOf; rw [Try.func70]; unfold Try.f70; rfl) rfl ?_
  dsimp only
  unfold ref09_Right at h
  refine L_seq ?_
  refine L_ops ?_
  refine ol_new rfl rfl rfl (q_box ty25 rfl (cs := [iC .i64 n1, .p false (Sl.t r33 s2)]) rfl rfl) (fun k3 => ?_)
  refine ol_put rfl rfl rfl (q_assign (v := .one (bC false)) rfl) ?_
  refine ol_end ?_
  refine E_seq ?_
  refine L_seq ?_
  refine L_seq ?_
  refine L_ops ?_
  refine ol_put rfl rfl rfl (q_fieldP rfl fa25_0 rfl) ?_
  refine ol_put rfl rfl rfl (q_loadP (v := .one (iC .i64 n1)) 0 rfl sz3 rfl rfl rfl rfl) ?_
  by_cases c4 : n1 < 0
  · replace h := ifT c4 h
    refine ol_put rfl rfl rfl (q_bin rfl rfl (p_lss_t _ _ _ _ _ c4) rfl) ?_
    refine ol_put rfl rfl rfl (q_move (v := .one (bC true)) rfl) ?_
    refine ol_skip rfl rfl rfl ?_
    refine ol_skip rfl rfl rfl ?_
    refine ol_skip rfl rfl rfl ?_
    refine ol_put rfl rfl rfl (q_pickT (v := .one (bC true)) rfl rfl) ?_
    refine ol_end ?_
    refine E_seq ?_
    refine L_condT rfl ?_
    refine L_seq ?_
    refine L_ops ?_
    refine ol_put rfl rfl rfl (q_assign (v := .one (bC false)) rfl) ?_
    refine ol_end ?_
    refine E_seq ?_
    refine L_ret ?_
    refine E_seqR ?_
    obtain rfl := Option.some.inj h
    exact E_endF (.inr rfl) (res_tmp rfl res_nil) (vw_cons (vd_one vc_v) vw_nil) (fun h hb => own_p) rfl rfl
  · replace h := ifF c4 h
    refine ol_put rfl rfl rfl (q_bin rfl rfl (p_lss_f _ _ _ _ _ c4) rfl) ?_
    refine ol_put rfl rfl rfl (q_move (v := .one (bC false)) rfl) ?_
    refine ol_put rfl rfl rfl (q_fieldP rfl fa25_0 rfl) ?_
    refine ol_put rfl rfl rfl (q_loadP (v := .one (iC .i64 n1)) 0 rfl sz3 rfl rfl rfl rfl) ?_
    by_cases c5 : n1 > 4096
    · replace h := ifT c5 h
      refine ol_put rfl rfl rfl (q_bin rfl rfl (p_gtr_t _ _ _ _ _ c5) rfl) ?_
      refine ol_put rfl rfl rfl (q_pickF (v := .one (bC true)) rfl rfl) ?_
      refine ol_end ?_
      refine E_seq ?_
      refine L_condT rfl ?_
      refine L_seq ?_
      refine L_ops ?_
      refine ol_put rfl rfl rfl (q_assign (v := .one (bC false)) rfl) ?_
      refine ol_end ?_
      refine E_seq ?_
      refine L_ret ?_
      refine E_seqR ?_
      obtain rfl := Option.some.inj h
      exact E_endF (.inr rfl) (res_tmp rfl res_nil) (vw_cons (vd_one vc_v) vw_nil) (fun h hb => own_p) rfl rfl
    · replace h := ifF c5 h
      refine ol_put rfl rfl rfl (q_bin rfl rfl (p_gtr_f _ _ _ _ _ c5) rfl) ?_
      refine ol_put rfl rfl rfl (q_pickF (v := .one (bC false)) rfl rfl) ?_
      refine ol_end ?_
      refine E_seq ?_
      refine L_condF rfl ?_
      refine L_skip ?_
      refine E_seq ?_
      refine L_seq ?_
      refine L_seq ?_
      refine L_ops ?_
      refine ol_put rfl rfl rfl (q_assign (v := .one (iC .i64 0)) rfl) ?_
      refine ol_end ?_
      refine E_seq ?_
      refine L_block ?_
      let S1 : Int → Unit → (Nat → D) → Nat → D := fun a kt g => ups g [(1, .one (.ptr k3 0 0)), (3, .one (iC .i64 a))]
      let SL1 : Int → Unit → BL := fun a kt => ([[(k3, 2, [[iC .i64 n1, .p false (Sl.t r33 s2)]])]] : BL)
      let Sx1 : Unit → Unit → (Nat → D) → Nat → D := fun a kt g => ups g []
      let SLx1 : Unit → Unit → BL := fun a kt => ([] : BL)
      let G1 : Bool → Ex → St → Prop := fun u => endQ E1 [.tmp 2] (.fresh, [.one (bT u)])
      let J1 : (Unit ⊕ Bool) → Ex → St → Prop := JX 57 0 Sx1 SLx1 G1
      refine L_loopS (ref09_Right_b1 n1 s2) S1 SL1 J1 JX_n 0 h () (ups_self ⟨rfl, rfl, trivial⟩) [0] (by decide) rfl ?_ ?_
      · rintro n49 _ g out h
        change ref09_Right_b1 n1 s2 n49 = some out at h
        unfold ref09_Right_b1 at h
        refine L_seq ?_
        refine L_seq ?_
        refine L_ops ?_
        refine ol_put rfl rfl rfl (q_move (v := .one (iC .i64 n49)) rfl) ?_
        refine ol_put rfl rfl rfl (q_fieldP rfl fa25_1 rfl) ?_
        refine ol_put rfl rfl rfl (q_loadP (v := .one (.p false (Sl.t r33 s2))) 0 rfl sz23 rfl rfl rfl rfl) ?_
        refine ol_put rfl rfl rfl (q_lenS rfl ty23 rfl rfl rfl rfl) ?_
        by_cases c50 : n49 < ((s2.l.length : Nat) : Int)
        · replace h := ifT c50 h
          refine ol_put rfl rfl rfl (q_bin rfl rfl (p_lss_t _ _ _ _ _ c50) rfl) ?_
          refine ol_end ?_
          refine E_seq ?_
          refine L_condT rfl ?_
          refine L_skip ?_
          refine E_seq ?_
          refine L_seq ?_
          refine L_block ?_
          refine L_seq ?_
          refine L_still (by kernel_rfl) ?_
          refine st_put rfl rfl rfl (q_fieldP rfl fa25_1 rfl) ?_
          refine st_put rfl rfl rfl (q_loadP (v := .one (.p false (Sl.t r33 s2))) 0 rfl sz23 rfl rfl rfl rfl) ?_
          refine st_put rfl rfl rfl (q_move (v := .one (iC .i64 n49)) rfl) ?_
          obtain ⟨⟨n53, n54⟩, h52, h⟩ := bindS h
          obtain ⟨h52a, h52b, h52⟩ := atS_some h52
          refine st_put rfl rfl rfl (q_ixS rfl rfl h52a h52 (el23.trans (congrArg some h52b.symm))) ?_
          refine st_put rfl rfl rfl (q_fieldI rfl fa34_0 rfl) ?_
          refine st_put rfl rfl rfl (q_loadI (v := .one (iC .i64 n53)) rfl sz3 (map_get h52) rfl rfl) ?_
          by_cases c55 : n53 < 0
          · replace h := ifT c55 h
            refine st_put rfl rfl rfl (q_bin rfl rfl (p_lss_t _ _ _ _ _ c55) rfl) ?_
            refine st_put rfl rfl rfl (q_move (v := .one (bC true)) rfl) ?_
            refine st_skip rfl rfl rfl ?_
            refine st_skip rfl rfl rfl ?_
            refine st_skip rfl rfl rfl ?_
            refine st_skip rfl rfl rfl ?_
            refine st_skip rfl rfl rfl ?_
            refine st_skip rfl rfl rfl ?_
            refine st_skip rfl rfl rfl ?_
            refine st_skip rfl rfl rfl ?_
            refine st_skip rfl rfl rfl ?_
            refine st_put rfl rfl rfl (q_pickT (v := .one (bC true)) rfl rfl) ?_
            refine st_put rfl rfl rfl (q_move (v := .one (bC true)) rfl) ?_
            refine st_skip rfl rfl rfl ?_
            refine st_skip rfl rfl rfl ?_
            refine st_skip rfl rfl rfl ?_
            refine st_skip rfl rfl rfl ?_
            refine st_skip rfl rfl rfl ?_
            refine st_skip rfl rfl rfl ?_
            refine st_skip rfl rfl rfl ?_
            refine st_skip rfl rfl rfl ?_
            refine st_skip rfl rfl rfl ?_
            refine st_skip rfl rfl rfl ?_
            refine st_skip rfl rfl rfl ?_
            refine st_skip rfl rfl rfl ?_
            refine st_skip rfl rfl rfl ?_
            refine st_skip rfl rfl rfl ?_
            refine st_skip rfl rfl rfl ?_
            refine st_skip rfl rfl rfl ?_
            refine st_skip rfl rfl rfl ?_
            refine st_skip rfl rfl rfl ?_
            refine st_put rfl rfl rfl (q_pickT (v := .one (bC true)) rfl rfl) ?_
            refine st_end ?_
            refine E_seq ?_
            refine L_condT rfl ?_
            refine L_seq ?_
            refine L_ops ?_
            refine ol_put rfl rfl rfl (q_assign (v := .one (bC false)) rfl) ?_
            refine ol_end ?_
            refine E_seq ?_
            refine L_ret ?_
            refine E_blkR ?_
            refine E_seqR ?_
            obtain rfl := Option.some.inj h
            exact E_out (E_up (E_endF (.inr rfl) (res_tmp rfl res_nil) (vw_cons (vd_one vc_v) vw_nil) (fun h hb => own_p) rfl rfl))
          · replace h := ifF c55 h
            refine st_put rfl rfl rfl (q_bin rfl rfl (p_lss_f _ _ _ _ _ c55) rfl) ?_
            refine st_put rfl rfl rfl (q_move (v := .one (bC false)) rfl) ?_
            refine st_put rfl rfl rfl (q_fieldP rfl fa25_1 rfl) ?_
            refine st_put rfl rfl rfl (q_loadP (v := .one (.p false (Sl.t r33 s2))) 0 rfl sz23 rfl rfl rfl rfl) ?_
            refine st_put rfl rfl rfl (q_move (v := .one (iC .i64 n49)) rfl) ?_
            obtain ⟨⟨n58, n59⟩, h57, h⟩ := bindS h
            obtain ⟨h57a, h57b, h57⟩ := atS_some h57
            refine st_put rfl rfl rfl (q_ixS rfl rfl h57a h57 (el23.trans (congrArg some h57b.symm))) ?_
            refine st_put rfl rfl rfl (q_fieldI rfl fa34_0 rfl) ?_
            refine st_put rfl rfl rfl (q_loadI (v := .one (iC .i64 n58)) rfl sz3 (map_get h57) rfl rfl) ?_
            refine st_put rfl rfl rfl (q_fieldP rfl fa25_0 rfl) ?_
            refine st_put rfl rfl rfl (q_loadP (v := .one (iC .i64 n1)) 0 rfl sz3 rfl rfl rfl rfl) ?_
            by_cases c60 : n58 ≥ n1
            · replace h := ifT c60 h
              refine st_put rfl rfl rfl (q_bin rfl rfl (p_geq_t _ _ _ _ _ c60) rfl) ?_
              refine st_put rfl rfl rfl (q_pickF (v := .one (bC true)) rfl rfl) ?_
              refine st_put rfl rfl rfl (q_move (v := .one (bC true)) rfl) ?_
              refine st_skip rfl rfl rfl ?_
              refine st_skip rfl rfl rfl ?_
              refine st_skip rfl rfl rfl ?_
              refine st_skip rfl rfl rfl ?_
              refine st_skip rfl rfl rfl ?_
              refine st_skip rfl rfl rfl ?_
              refine st_skip rfl rfl rfl ?_
              refine st_skip rfl rfl rfl ?_
              refine st_skip rfl rfl rfl ?_
              refine st_skip rfl rfl rfl ?_
              refine st_skip rfl rfl rfl ?_
              refine st_skip rfl rfl rfl ?_
              refine st_skip rfl rfl rfl ?_
              refine st_skip rfl rfl rfl ?_
              refine st_skip rfl rfl rfl ?_
              refine st_skip rfl rfl rfl ?_
              refine st_skip rfl rfl rfl ?_
              refine st_skip rfl rfl rfl ?_
              refine st_put rfl rfl rfl (q_pickT (v := .one (bC true)) rfl rfl) ?_
              refine st_end ?_
              refine E_seq ?_
              refine L_condT rfl ?_
              refine L_seq ?_
              refine L_ops ?_
              refine ol_put rfl rfl rfl (q_assign (v := .one (bC false)) rfl) ?_
              refine ol_end ?_
              refine E_seq ?_
              refine L_ret ?_
              refine E_blkR ?_
              refine E_seqR ?_
              obtain rfl := Option.some.inj h
              exact E_out (E_up (E_endF (.inr rfl) (res_tmp rfl res_nil) (vw_cons (vd_one vc_v) vw_nil) (fun h hb => own_p) rfl rfl))
            · replace h := ifF c60 h
              refine st_put rfl rfl rfl (q_bin rfl rfl (p_geq_f _ _ _ _ _ c60) rfl) ?_
              refine st_put rfl rfl rfl (q_pickF (v := .one (bC false)) rfl rfl) ?_
              refine st_put rfl rfl rfl (q_move (v := .one (bC false)) rfl) ?_
              refine st_put rfl rfl rfl (q_move (v := .one (iC .i64 n49)) rfl) ?_
              by_cases c61 : n49 > 0
              · replace h := ifT c61 h
                refine st_put rfl rfl rfl (q_bin rfl rfl (p_gtr_t _ _ _ _ _ c61) rfl) ?_
                refine st_put rfl rfl rfl (q_move (v := .one (bC true)) rfl) ?_
                refine st_put rfl rfl rfl (q_fieldP rfl fa25_1 rfl) ?_
                refine st_put rfl rfl rfl (q_loadP (v := .one (.p false (Sl.t r33 s2))) 0 rfl sz23 rfl rfl rfl rfl) ?_
                refine st_put rfl rfl rfl (q_move (v := .one (iC .i64 n49)) rfl) ?_
                obtain ⟨⟨n64, n65⟩, h63, h⟩ := bindS h
                obtain ⟨h63a, h63b, h63⟩ := atS_some h63
                refine st_put rfl rfl rfl (q_ixS rfl rfl h63a h63 (el23.trans (congrArg some h63b.symm))) ?_
                refine st_put rfl rfl rfl (q_fieldI rfl fa34_0 rfl) ?_
                refine st_put rfl rfl rfl (q_loadI (v := .one (iC .i64 n64)) rfl sz3 (map_get h63) rfl rfl) ?_
                refine st_put rfl rfl rfl (q_fieldP rfl fa25_1 rfl) ?_
                refine st_put rfl rfl rfl (q_loadP (v := .one (.p false (Sl.t r33 s2))) 0 rfl sz23 rfl rfl rfl rfl) ?_
                refine st_put rfl rfl rfl (q_move (v := .one (iC .i64 n49)) rfl) ?_
                refine st_put rfl rfl rfl (q_bin rfl rfl (p_sub _ _ _ _ _ _ _) rfl) ?_
                obtain ⟨⟨n68, n69⟩, h67, h⟩ := bindS h
                obtain ⟨h67a, h67b, h67⟩ := atS_some h67
                refine st_put rfl rfl rfl (q_ixS rfl rfl h67a h67 (el23.trans (congrArg some h67b.symm))) ?_
                refine st_put rfl rfl rfl (q_fieldI rfl fa34_0 rfl) ?_
                refine st_put rfl rfl rfl (q_loadI (v := .one (iC .i64 n68)) rfl sz3 (map_get h67) rfl rfl) ?_
                by_cases c70 : n64 ≤ n68
                · replace h := ifT c70 h
                  refine st_put rfl rfl rfl (q_bin rfl rfl (p_leq_t _ _ _ _ _ c70) rfl) ?_
                  refine st_put rfl rfl rfl (q_pickT (v := .one (bC true)) rfl rfl) ?_
                  refine st_put rfl rfl rfl (q_pickF (v := .one (bC true)) rfl rfl) ?_
                  refine st_end ?_
                  refine E_seq ?_
                  refine L_condT rfl ?_
                  refine L_seq ?_
                  refine L_ops ?_
                  refine ol_put rfl rfl rfl (q_assign (v := .one (bC false)) rfl) ?_
                  refine ol_end ?_
                  refine E_seq ?_
                  refine L_ret ?_
                  refine E_blkR ?_
                  refine E_seqR ?_
                  obtain rfl := Option.some.inj h
                  exact E_out (E_up (E_endF (.inr rfl) (res_tmp rfl res_nil) (vw_cons (vd_one vc_v) vw_nil) (fun h hb => own_p) rfl rfl))
                · replace h := ifF c70 h
                  refine st_put rfl rfl rfl (q_bin rfl rfl (p_leq_f _ _ _ _ _ c70) rfl) ?_
                  refine st_put rfl rfl rfl (q_pickT (v := .one (bC false)) rfl rfl) ?_
                  refine st_put rfl rfl rfl (q_pickF (v := .one (bC false)) rfl rfl) ?_
                  refine st_end ?_
                  refine E_seq ?_
                  refine L_condF rfl ?_
                  refine L_skip ?_
                  refine E_blkN ?_
                  refine E_seq ?_
                  refine L_ops ?_
                  refine ol_put rfl rfl rfl (q_move (v := .one (iC .i64 n49)) rfl) ?_
                  refine ol_put rfl rfl rfl (q_bin rfl rfl (p_add _ _ _ _ _ _ _) rfl) ?_
                  refine ol_put rfl rfl rfl (q_assign (v := .one (iC .i64 (IntKind.i64.wrap (n49 + 1)))) rfl) ?_
                  refine ol_end ?_
                  obtain rfl := Option.some.inj h
                  exact E_next () (ups_self ⟨rfl, rfl, trivial⟩) [0] (by decide) rfl
              · replace h := ifF c61 h
                refine st_put rfl rfl rfl (q_bin rfl rfl (p_gtr_f _ _ _ _ _ c61) rfl) ?_
                refine st_put rfl rfl rfl (q_move (v := .one (bC false)) rfl) ?_
                refine st_skip rfl rfl rfl ?_
                refine st_skip rfl rfl rfl ?_
                refine st_skip rfl rfl rfl ?_
                refine st_skip rfl rfl rfl ?_
                refine st_skip rfl rfl rfl ?_
                refine st_skip rfl rfl rfl ?_
                refine st_skip rfl rfl rfl ?_
                refine st_skip rfl rfl rfl ?_
                refine st_skip rfl rfl rfl ?_
                refine st_skip rfl rfl rfl ?_
                refine st_skip rfl rfl rfl ?_
                refine st_skip rfl rfl rfl ?_
                refine st_skip rfl rfl rfl ?_
                refine st_skip rfl rfl rfl ?_
                refine st_put rfl rfl rfl (q_pickF (v := .one (bC false)) rfl rfl) ?_
                refine st_put rfl rfl rfl (q_pickF (v := .one (bC false)) rfl rfl) ?_
                refine st_end ?_
                refine E_seq ?_
                refine L_condF rfl ?_
                refine L_skip ?_
                refine E_blkN ?_
                refine E_seq ?_
                refine L_ops ?_
                refine ol_put rfl rfl rfl (q_move (v := .one (iC .i64 n49)) rfl) ?_
                refine ol_put rfl rfl rfl (q_bin rfl rfl (p_add _ _ _ _ _ _ _) rfl) ?_
                refine ol_put rfl rfl rfl (q_assign (v := .one (iC .i64 (IntKind.i64.wrap (n49 + 1)))) rfl) ?_
                refine ol_end ?_
                obtain rfl := Option.some.inj h
                exact E_next () (ups_self ⟨rfl, rfl, trivial⟩) [0] (by decide) rfl
        · replace h := ifF c50 h
          refine ol_put rfl rfl rfl (q_bin rfl rfl (p_lss_f _ _ _ _ _ c50) rfl) ?_
          refine ol_end ?_
          refine E_seq ?_
          refine L_condF rfl ?_
          refine L_exit ?_
          refine E_seqX ?_
          obtain rfl := Option.some.inj h
          refine E_out ?_
          exact (E_exit () (ups_self trivial) [] (by decide) rfl)
      · rintro (_ | u) h
        · refine J_x (fun kt g => ?_)
          replace h := elimL h
          refine E_blkH ?_
          refine E_seq ?_
          refine L_seq ?_
          refine L_ops ?_
          refine ol_put rfl rfl rfl (q_assign (v := .one (bC true)) rfl) ?_
          refine ol_end ?_
          refine E_seq ?_
          refine L_ret ?_
          obtain rfl := Option.some.inj h
          exact E_endF (.inr rfl) (res_tmp rfl res_nil) (vw_cons (vd_one vc_v) vw_nil) (fun h hb => own_p) rfl rfl
        · obtain rfl := Option.some.inj (elimR h)
          exact J_up (fun s hs => hs)

noncomputable def ref09_Sure (a0 : Int × (Sl (Int × Int))) : Option ((Int × (Sl (Int × Int)))) :=
  match a0 with
  | (n1, s2) => ((ref09_Right (n1, s2)).bind fun b6 => (if b6 = true then some (n1, s2) else some (0, (⟨false, 0, []⟩ : Sl (Int × Int)))))
theorem ref09_Sure_r (m : Nat) {a0 : Int × (Sl (Int × Int))} {out : (Int × (Sl (Int × Int)))} (h : ref09_Sure a0 = some out) : RunsX E1 (m + 2) 45 [.agg (r24 a0)] [.agg (r24 out)] := by
  obtain ⟨n1, s2⟩ := a0
  refine fn_X rfl (by rw [E1_fn]; exact show fiOf Try.prog 45 = _ by unfold fiOf; rw [Try.func45]; unfold Try.f45; rfl) rfl ?_
  dsimp only
  unfold ref09_Sure at h
  refine L_seq ?_
  refine L_ops ?_
  refine ol_new rfl rfl rfl (q_box ty25 rfl (cs := [iC .i64 n1, .p false (Sl.t r33 s2)]) rfl rfl) (fun k3 => ?_)
  refine ol_new rfl rfl rfl (q_alloc ty25 (row := [iC .i64 0, .p true (Sl.t r33 (⟨false, 0, []⟩ : Sl (Int × Int)))]) rfl rfl) (fun k4 => ?_)
  refine ol_end ?_
  refine E_seq ?_
  refine L_seq ?_
  refine L_seq ?_
  refine L_ops ?_
  refine ol_put rfl rfl rfl (q_loadP (v := .agg [iC .i64 n1, .p false (Sl.t r33 s2)]) 1 rfl sz25 rfl rfl rfl rfl) ?_
  obtain ⟨b6, h5, h⟩ := bindS h
  refine ol_put rfl rfl rfl (q_callF (v := .one (bC b6)) (args := [.agg [iC .i64 n1, .p false (Sl.t r33 s2)]]) (ref09_Right_r (m + 0) h5) rfl rfl (vw_cons (vd_agg (vc_cons vc_v (vc_cons vc_s vc_nil))) vw_nil) rfl rfl) ?_
  refine ol_end ?_
  refine E_seq ?_
  rcases b6 with _ | _
  · replace h := ifF (by decide) h
    refine L_condF rfl ?_
    refine L_skip ?_
    refine E_seq ?_
    refine L_seq ?_
    refine L_ops ?_
    refine ol_put rfl rfl rfl (q_build (cs := [iC .i64 0, .p true (Sl.t r33 (⟨false, 0, []⟩ : Sl (Int × Int)))]) ty25 rfl pl25 rfl) ?_
    refine ol_wr rfl rfl (q_store (es' := [[iC .i64 0, .p true (Sl.t r33 (⟨false, 0, []⟩ : Sl (Int × Int)))]]) 0 rfl rfl rfl sz25 rfl rfl rfl rfl rfl) rfl ?_
    refine ol_end ?_
    refine E_seq ?_
    refine L_ret ?_
    obtain rfl := Option.some.inj h
    exact E_endX (.inr rfl) (res_cell (d := .agg [iC .i64 0, .p true (Sl.t r33 (⟨false, 0, []⟩ : Sl (Int × Int)))]) 0 rfl sz25 rfl rfl rfl rfl res_nil) (vw_cons (vd_agg (vc_cons vc_v (vc_cons vc_s vc_nil))) vw_nil) (fun h hb => own_agg) rfl
  · replace h := ifT (by decide) h
    refine L_condT rfl ?_
    refine L_seq ?_
    refine L_ops ?_
    refine ol_put rfl rfl rfl (q_loadP (v := .agg [iC .i64 n1, .p false (Sl.t r33 s2)]) 1 rfl sz25 rfl rfl rfl rfl) ?_
    refine ol_wr rfl rfl (q_store (es' := [[iC .i64 n1, .p false (Sl.t r33 s2)]]) 0 rfl rfl rfl sz25 rfl rfl rfl rfl rfl) rfl ?_
    refine ol_end ?_
    refine E_seq ?_
    refine L_ret ?_
    refine E_seqR ?_
    obtain rfl := Option.some.inj h
    exact E_endX (.inr rfl) (res_cell (d := .agg [iC .i64 n1, .p false (Sl.t r33 s2)]) 0 rfl sz25 rfl rfl rfl rfl res_nil) (vw_cons (vd_agg (vc_cons vc_v (vc_cons vc_s vc_nil))) vw_nil) (fun h hb => own_agg) rfl

noncomputable def ref02_Is (n1 : Int) : Option (Bool) :=
  (if n1 ≥ 1 then (if n1 ≤ 5 then some true else some false) else some false)
theorem ref02_Is_r (m : Nat) {n1 : Int} {out : Bool} (h : ref02_Is n1 = some out) : RunsP E1 (m + 1) 27 [.one (iT .i64 n1)] (.fresh, [.one (bT out)]) := by
  refine fn_F rfl (by rw [E1_fn]; exact show fiOf Try.prog 27 = _ by unfold fiOf; rw [Try.func27]; unfold Try.f27; rfl) rfl ?_
  dsimp only
  unfold ref02_Is at h
  refine L_seq ?_
  refine L_ops ?_
  refine ol_put rfl rfl rfl (q_assign (v := .one (bC false)) rfl) ?_
  refine ol_end ?_
  refine E_seq ?_
  refine L_seq ?_
  refine L_ops ?_
  refine ol_put rfl rfl rfl (q_move (v := .one (iC .i64 n1)) rfl) ?_
  by_cases c2 : n1 ≥ 1
  · replace h := ifT c2 h
    refine ol_put rfl rfl rfl (q_bin rfl rfl (p_geq_t _ _ _ _ _ c2) rfl) ?_
    refine ol_put rfl rfl rfl (q_move (v := .one (bC true)) rfl) ?_
    refine ol_put rfl rfl rfl (q_move (v := .one (iC .i64 n1)) rfl) ?_
    by_cases c3 : n1 ≤ 5
    · replace h := ifT c3 h
      refine ol_put rfl rfl rfl (q_bin rfl rfl (p_leq_t _ _ _ _ _ c3) rfl) ?_
      refine ol_put rfl rfl rfl (q_pickT (v := .one (bC true)) rfl rfl) ?_
      refine ol_put rfl rfl rfl (q_assign (v := .one (bC true)) rfl) ?_
      refine ol_end ?_
      refine E_seq ?_
      refine L_ret ?_
      obtain rfl := Option.some.inj h
      exact E_endF (.inr rfl) (res_tmp rfl res_nil) (vw_cons (vd_one vc_v) vw_nil) (fun h hb => own_p) rfl rfl
    · replace h := ifF c3 h
      refine ol_put rfl rfl rfl (q_bin rfl rfl (p_leq_f _ _ _ _ _ c3) rfl) ?_
      refine ol_put rfl rfl rfl (q_pickT (v := .one (bC false)) rfl rfl) ?_
      refine ol_put rfl rfl rfl (q_assign (v := .one (bC false)) rfl) ?_
      refine ol_end ?_
      refine E_seq ?_
      refine L_ret ?_
      obtain rfl := Option.some.inj h
      exact E_endF (.inr rfl) (res_tmp rfl res_nil) (vw_cons (vd_one vc_v) vw_nil) (fun h hb => own_p) rfl rfl
  · replace h := ifF c2 h
    refine ol_put rfl rfl rfl (q_bin rfl rfl (p_geq_f _ _ _ _ _ c2) rfl) ?_
    refine ol_put rfl rfl rfl (q_move (v := .one (bC false)) rfl) ?_
    refine ol_skip rfl rfl rfl ?_
    refine ol_skip rfl rfl rfl ?_
    refine ol_put rfl rfl rfl (q_pickF (v := .one (bC false)) rfl rfl) ?_
    refine ol_put rfl rfl rfl (q_assign (v := .one (bC false)) rfl) ?_
    refine ol_end ?_
    refine E_seq ?_
    refine L_ret ?_
    obtain rfl := Option.some.inj h
    exact E_endF (.inr rfl) (res_tmp rfl res_nil) (vw_cons (vd_one vc_v) vw_nil) (fun h hb => own_p) rfl rfl

noncomputable def ref02_least (n1 : Int) : Option (Bool) :=
  (if n1 = 1 then some true else (if n1 = 3 then some true else (if n1 = 4 then some true else some false)))
theorem ref02_least_r (m : Nat) {n1 : Int} {out : Bool} (h : ref02_least n1 = some out) : RunsP E1 (m + 1) 71 [.one (iT .i64 n1)] (.fresh, [.one (bT out)]) := by
  refine fn_F rfl (by rw [E1_fn]; exact show fiOf Try.prog 71 = _ by unfold fiOf; rw [Try.func71]; unfold Try.f71; rfl) rfl ?_
  dsimp only
  unfold ref02_least at h
  refine L_seq ?_
  refine L_ops ?_
  refine ol_put rfl rfl rfl (q_assign (v := .one (bC false)) rfl) ?_
  refine ol_end ?_
  refine E_seq ?_
  refine L_seq ?_
  refine L_ops ?_
  refine ol_put rfl rfl rfl (q_move (v := .one (iC .i64 n1)) rfl) ?_
  by_cases c2 : n1 = 1
  · replace h := ifT c2 h
    refine ol_put rfl rfl rfl (q_bin rfl rfl (p_eql_t _ _ _ _ _ c2) rfl) ?_
    refine ol_put rfl rfl rfl (q_move (v := .one (bC true)) rfl) ?_
    refine ol_skip rfl rfl rfl ?_
    refine ol_skip rfl rfl rfl ?_
    refine ol_put rfl rfl rfl (q_pickT (v := .one (bC true)) rfl rfl) ?_
    refine ol_put rfl rfl rfl (q_move (v := .one (bC true)) rfl) ?_
    refine ol_skip rfl rfl rfl ?_
    refine ol_skip rfl rfl rfl ?_
    refine ol_put rfl rfl rfl (q_pickT (v := .one (bC true)) rfl rfl) ?_
    refine ol_put rfl rfl rfl (q_assign (v := .one (bC true)) rfl) ?_
    refine ol_end ?_
    refine E_seq ?_
    refine L_ret ?_
    obtain rfl := Option.some.inj h
    exact E_endF (.inr rfl) (res_tmp rfl res_nil) (vw_cons (vd_one vc_v) vw_nil) (fun h hb => own_p) rfl rfl
  · replace h := ifF c2 h
    refine ol_put rfl rfl rfl (q_bin rfl rfl (p_eql_f _ _ _ _ _ c2) rfl) ?_
    refine ol_put rfl rfl rfl (q_move (v := .one (bC false)) rfl) ?_
    refine ol_put rfl rfl rfl (q_move (v := .one (iC .i64 n1)) rfl) ?_
    by_cases c3 : n1 = 3
    · replace h := ifT c3 h
      refine ol_put rfl rfl rfl (q_bin rfl rfl (p_eql_t _ _ _ _ _ c3) rfl) ?_
      refine ol_put rfl rfl rfl (q_pickF (v := .one (bC true)) rfl rfl) ?_
      refine ol_put rfl rfl rfl (q_move (v := .one (bC true)) rfl) ?_
      refine ol_skip rfl rfl rfl ?_
      refine ol_skip rfl rfl rfl ?_
      refine ol_put rfl rfl rfl (q_pickT (v := .one (bC true)) rfl rfl) ?_
      refine ol_put rfl rfl rfl (q_assign (v := .one (bC true)) rfl) ?_
      refine ol_end ?_
      refine E_seq ?_
      refine L_ret ?_
      obtain rfl := Option.some.inj h
      exact E_endF (.inr rfl) (res_tmp rfl res_nil) (vw_cons (vd_one vc_v) vw_nil) (fun h hb => own_p) rfl rfl
    · replace h := ifF c3 h
      refine ol_put rfl rfl rfl (q_bin rfl rfl (p_eql_f _ _ _ _ _ c3) rfl) ?_
      refine ol_put rfl rfl rfl (q_pickF (v := .one (bC false)) rfl rfl) ?_
      refine ol_put rfl rfl rfl (q_move (v := .one (bC false)) rfl) ?_
      refine ol_put rfl rfl rfl (q_move (v := .one (iC .i64 n1)) rfl) ?_
      by_cases c4 : n1 = 4
      · replace h := ifT c4 h
        refine ol_put rfl rfl rfl (q_bin rfl rfl (p_eql_t _ _ _ _ _ c4) rfl) ?_
        refine ol_put rfl rfl rfl (q_pickF (v := .one (bC true)) rfl rfl) ?_
        refine ol_put rfl rfl rfl (q_assign (v := .one (bC true)) rfl) ?_
        refine ol_end ?_
        refine E_seq ?_
        refine L_ret ?_
        obtain rfl := Option.some.inj h
        exact E_endF (.inr rfl) (res_tmp rfl res_nil) (vw_cons (vd_one vc_v) vw_nil) (fun h hb => own_p) rfl rfl
      · replace h := ifF c4 h
        refine ol_put rfl rfl rfl (q_bin rfl rfl (p_eql_f _ _ _ _ _ c4) rfl) ?_
        refine ol_put rfl rfl rfl (q_pickF (v := .one (bC false)) rfl rfl) ?_
        refine ol_put rfl rfl rfl (q_assign (v := .one (bC false)) rfl) ?_
        refine ol_end ?_
        refine E_seq ?_
        refine L_ret ?_
        obtain rfl := Option.some.inj h
        exact E_endF (.inr rfl) (res_tmp rfl res_nil) (vw_cons (vd_one vc_v) vw_nil) (fun h hb => own_p) rfl rfl

noncomputable def ref02_Zero (n1 : Int) : Option (Int) :=
  ((ref02_least n1).bind fun b3 => (if b3 = true then some 4611686018427387904 else some 0))
theorem ref02_Zero_r (m : Nat) {n1 : Int} {out : Int} (h : ref02_Zero n1 = some out) : RunsP E1 (m + 2) 46 [.one (iT .i64 n1)] (.fresh, [.one (iT .i64 out)]) := by
  refine fn_F rfl (by rw [E1_fn]; exact show fiOf Try.prog 46 = _ by unfold fiOf; rw [Try.func46]; unfold Try.f46; rfl) rfl ?_
  dsimp only
  unfold ref02_Zero at h
  refine L_seq ?_
  refine L_ops ?_
  refine ol_put rfl rfl rfl (q_assign (v := .one (iC .i64 0)) rfl) ?_
  refine ol_end ?_
  refine E_seq ?_
  refine L_seq ?_
  refine L_seq ?_
  refine L_ops ?_
  refine ol_put rfl rfl rfl (q_move (v := .one (iC .i64 n1)) rfl) ?_
  obtain ⟨b3, h2, h⟩ := bindS h
  refine ol_put rfl rfl rfl (q_callF (v := .one (bC b3)) (args := [.one (iC .i64 n1)]) (ref02_least_r (m + 0) h2) rfl rfl (vw_cons (vd_one vc_v) vw_nil) rfl rfl) ?_
  refine ol_end ?_
  refine E_seq ?_
  rcases b3 with _ | _
  · replace h := ifF (by decide) h
    refine L_condF rfl ?_
    refine L_skip ?_
    refine E_seq ?_
    refine L_seq ?_
    refine L_ops ?_
    refine ol_put rfl rfl rfl (q_assign (v := .one (iC .i64 0)) rfl) ?_
    refine ol_end ?_
    refine E_seq ?_
    refine L_ret ?_
    obtain rfl := Option.some.inj h
    exact E_endF (.inr rfl) (res_tmp rfl res_nil) (vw_cons (vd_one vc_v) vw_nil) (fun h hb => own_p) rfl rfl
  · replace h := ifT (by decide) h
    refine L_condT rfl ?_
    refine L_seq ?_
    refine L_ops ?_
    refine ol_put rfl rfl rfl (q_assign (v := .one (iC .i64 4611686018427387904)) rfl) ?_
    refine ol_end ?_
    refine E_seq ?_
    refine L_ret ?_
    refine E_seqR ?_
    obtain rfl := Option.some.inj h
    exact E_endF (.inr rfl) (res_tmp rfl res_nil) (vw_cons (vd_one vc_v) vw_nil) (fun h hb => own_p) rfl rfl
end Ev
end Go.Proofs.Ytioagbejilllfaa
