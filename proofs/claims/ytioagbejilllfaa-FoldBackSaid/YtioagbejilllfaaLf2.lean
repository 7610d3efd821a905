/- Functions of the program as functions on data, and that they are. -/
import Derived.Test.YtioagbejilllfaaLf1
import Derived.Test.YtioagbejilllfaaLy1
import Derived.Test.YtioagbejilllfaaLy2
namespace Go.Proofs.Ytioagbejilllfaa
namespace Ev
open Go
set_option linter.unusedVariables false
set_option linter.unusedSimpArgs false
set_option maxRecDepth 100000
set_option maxHeartbeats 1000000
attribute [local irreducible] OpsL StL TnL WpL EndL
noncomputable def ref01_Of (n1 : Int) : Option ((Int × Int)) :=
  (if n1 < 0 then some ((-1), (IntKind.u64.wrap n1)) else some (0, (IntKind.u64.wrap n1)))
theorem ref01_Of_r (m : Nat) {n1 : Int} {out : (Int × Int)} (h : ref01_Of n1 = some out) : RunsP E1 (m + 1) 30 [.one (iT .i64 n1)] (.fresh, [.agg (r55 out)]) := by
  refine fn_F rfl (by rw [E1_fn]; exact show fiOf Try.prog 30 = _ by unfold fiOf; rw [Try.func30]; unfold Try.f30; rfl) rfl ?_
  dsimp only
  unfold ref01_Of at h
  refine L_seq ?_
  refine L_ops ?_
  refine ol_new rfl rfl rfl (q_alloc ty56 (row := [iC .i64 0, iC .u64 0]) rfl rfl) (fun k2 => ?_)
  refine ol_end ?_
  refine E_seq ?_
  refine L_seq ?_
  refine L_seq ?_
  refine L_ops ?_
  refine ol_put rfl rfl rfl (q_move (v := .one (iC .i64 n1)) rfl) ?_
  by_cases c3 : n1 < 0
  · replace h := ifT c3 h
    refine ol_put rfl rfl rfl (q_bin rfl rfl (p_lss_t _ _ _ _ _ c3) rfl) ?_
    refine ol_end ?_
    refine E_seq ?_
    refine L_condT rfl ?_
    refine L_seq ?_
    refine L_ops ?_
    refine ol_put rfl rfl rfl (q_move (v := .one (iC .i64 n1)) rfl) ?_
    refine ol_put rfl rfl rfl (q_conv rfl (cv2_54_i64 _) rfl) ?_
    refine ol_put rfl rfl rfl (q_build (cs := [iC .i64 (-1), iC .u64 (IntKind.u64.wrap n1)]) ty56 rfl pl56 rfl) ?_
    refine ol_wr rfl rfl (q_store (es' := [[iC .i64 (-1), iC .u64 (IntKind.u64.wrap n1)]]) 0 rfl rfl rfl sz56 rfl rfl rfl rfl rfl) rfl ?_
    refine ol_end ?_
    refine E_seq ?_
    refine L_ret ?_
    refine E_seqR ?_
    obtain rfl := Option.some.inj h
    exact E_endF (.inr rfl) (res_cell (d := .agg [iC .i64 (-1), iC .u64 (IntKind.u64.wrap n1)]) 0 rfl sz56 rfl rfl rfl rfl res_nil) (vw_cons (vd_agg (vc_cons vc_v (vc_cons vc_v vc_nil))) vw_nil) (fun h hb => own_agg) rfl rfl
  · replace h := ifF c3 h
    refine ol_put rfl rfl rfl (q_bin rfl rfl (p_lss_f _ _ _ _ _ c3) rfl) ?_
    refine ol_end ?_
    refine E_seq ?_
    refine L_condF rfl ?_
    refine L_skip ?_
    refine E_seq ?_
    refine L_seq ?_
    refine L_ops ?_
    refine ol_put rfl rfl rfl (q_move (v := .one (iC .i64 n1)) rfl) ?_
    refine ol_put rfl rfl rfl (q_conv rfl (cv2_54_i64 _) rfl) ?_
    refine ol_put rfl rfl rfl (q_build (cs := [iC .i64 0, iC .u64 (IntKind.u64.wrap n1)]) ty56 rfl pl56 rfl) ?_
    refine ol_wr rfl rfl (q_store (es' := [[iC .i64 0, iC .u64 (IntKind.u64.wrap n1)]]) 0 rfl rfl rfl sz56 rfl rfl rfl rfl rfl) rfl ?_
    refine ol_end ?_
    refine E_seq ?_
    refine L_ret ?_
    obtain rfl := Option.some.inj h
    exact E_endF (.inr rfl) (res_cell (d := .agg [iC .i64 0, iC .u64 (IntKind.u64.wrap n1)]) 0 rfl sz56 rfl rfl rfl rfl res_nil) (vw_cons (vd_agg (vc_cons vc_v (vc_cons vc_v vc_nil))) vw_nil) (fun h hb => own_agg) rfl rfl

noncomputable def ref01_Compare (a0 : Int × Int) (a1 : Int × Int) : Option (Int) :=
  match a0, a1 with
  | (n1, n2), (n3, n4) => (if n1 < n3 then some (-1) else (if n1 = n3 then (if n2 < n4 then some (-1) else (if n1 = n3 ∧ n2 = n4 then some 0 else some 1)) else (if n1 = n3 ∧ n2 = n4 then some 0 else some 1)))
theorem ref01_Compare_r (m : Nat) {a0 : Int × Int} {a1 : Int × Int} {out : Int} (h : ref01_Compare a0 a1 = some out) : RunsP E1 (m + 1) 54 [.agg (r55 a0), .agg (r55 a1)] (.fresh, [.one (iT .i64 out)]) := by
  obtain ⟨n1, n2⟩ := a0
  obtain ⟨n3, n4⟩ := a1
  refine fn_F rfl (by rw [E1_fn]; exact show fiOf Try.prog 54 = _ by unfold fiOf; rw [Try.func54]; unfold Try.f54; rfl) rfl ?_
  dsimp only
  unfold ref01_Compare at h
  refine L_seq ?_
  refine L_ops ?_
  refine ol_new rfl rfl rfl (q_box ty56 rfl (cs := [iC .i64 n1, iC .u64 n2]) rfl rfl) (fun k5 => ?_)
  refine ol_new rfl rfl rfl (q_box ty56 rfl (cs := [iC .i64 n3, iC .u64 n4]) rfl rfl) (fun k6 => ?_)
  refine ol_put rfl rfl rfl (q_assign (v := .one (iC .i64 0)) rfl) ?_
  refine ol_end ?_
  refine E_seq ?_
  refine L_seq ?_
  refine L_seq ?_
  refine L_ops ?_
  refine ol_put rfl rfl rfl (q_fieldP rfl fa56_0 rfl) ?_
  refine ol_put rfl rfl rfl (q_loadP (v := .one (iC .i64 n1)) 1 rfl sz2 rfl rfl rfl rfl) ?_
  refine ol_put rfl rfl rfl (q_fieldP rfl fa56_0 rfl) ?_
  refine ol_put rfl rfl rfl (q_loadP (v := .one (iC .i64 n3)) 0 rfl sz2 rfl rfl rfl rfl) ?_
  by_cases c7 : n1 < n3
  · replace h := ifT c7 h
    refine ol_put rfl rfl rfl (q_bin rfl rfl (p_lss_t _ _ _ _ _ c7) rfl) ?_
    refine ol_put rfl rfl rfl (q_move (v := .one (bC true)) rfl) ?_
    refine ol_skip rfl rfl rfl ?_
    refine ol_skip rfl rfl rfl ?_
    refine ol_skip rfl rfl rfl ?_
    refine ol_skip rfl rfl rfl ?_
    refine ol_skip rfl rfl rfl ?_
    refine ol_skip rfl rfl rfl ?_
    refine ol_skip rfl rfl rfl ?_
    refine ol_skip rfl rfl rfl ?_
    refine ol_skip rfl rfl rfl ?_
    refine ol_skip rfl rfl rfl ?_
    refine ol_skip rfl rfl rfl ?_
    refine ol_skip rfl rfl rfl ?_
    refine ol_put rfl rfl rfl (q_pickT (v := .one (bC true)) rfl rfl) ?_
    refine ol_end ?_
    refine E_seq ?_
    refine L_condT rfl ?_
    refine L_seq ?_
    refine L_ops ?_
    refine ol_put rfl rfl rfl (q_assign (v := .one (iC .i64 (-1))) rfl) ?_
    refine ol_end ?_
    refine E_seq ?_
    refine L_ret ?_
    refine E_seqR ?_
    obtain rfl := Option.some.inj h
    exact E_endF (.inr rfl) (res_tmp rfl res_nil) (vw_cons (vd_one vc_v) vw_nil) (fun h hb => own_p) rfl rfl
  · replace h := ifF c7 h
    refine ol_put rfl rfl rfl (q_bin rfl rfl (p_lss_f _ _ _ _ _ c7) rfl) ?_
    refine ol_put rfl rfl rfl (q_move (v := .one (bC false)) rfl) ?_
    refine ol_put rfl rfl rfl (q_fieldP rfl fa56_0 rfl) ?_
    refine ol_put rfl rfl rfl (q_loadP (v := .one (iC .i64 n1)) 1 rfl sz2 rfl rfl rfl rfl) ?_
    refine ol_put rfl rfl rfl (q_fieldP rfl fa56_0 rfl) ?_
    refine ol_put rfl rfl rfl (q_loadP (v := .one (iC .i64 n3)) 0 rfl sz2 rfl rfl rfl rfl) ?_
    by_cases c8 : n1 = n3
    · replace h := ifT c8 h
      refine ol_put rfl rfl rfl (q_bin rfl rfl (p_eql_t _ _ _ _ _ c8) rfl) ?_
      refine ol_put rfl rfl rfl (q_move (v := .one (bC true)) rfl) ?_
      refine ol_put rfl rfl rfl (q_fieldP rfl fa56_1 rfl) ?_
      refine ol_put rfl rfl rfl (q_loadP (v := .one (iC .u64 n2)) 1 rfl sz54 rfl rfl rfl rfl) ?_
      refine ol_put rfl rfl rfl (q_fieldP rfl fa56_1 rfl) ?_
      refine ol_put rfl rfl rfl (q_loadP (v := .one (iC .u64 n4)) 0 rfl sz54 rfl rfl rfl rfl) ?_
      by_cases c9 : n2 < n4
      · replace h := ifT c9 h
        refine ol_put rfl rfl rfl (q_bin rfl rfl (p_lss_t _ _ _ _ _ c9) rfl) ?_
        refine ol_put rfl rfl rfl (q_pickT (v := .one (bC true)) rfl rfl) ?_
        refine ol_put rfl rfl rfl (q_pickF (v := .one (bC true)) rfl rfl) ?_
        refine ol_end ?_
        refine E_seq ?_
        refine L_condT rfl ?_
        refine L_seq ?_
        refine L_ops ?_
        refine ol_put rfl rfl rfl (q_assign (v := .one (iC .i64 (-1))) rfl) ?_
        refine ol_end ?_
        refine E_seq ?_
        refine L_ret ?_
        refine E_seqR ?_
        obtain rfl := Option.some.inj h
        exact E_endF (.inr rfl) (res_tmp rfl res_nil) (vw_cons (vd_one vc_v) vw_nil) (fun h hb => own_p) rfl rfl
      · replace h := ifF c9 h
        refine ol_put rfl rfl rfl (q_bin rfl rfl (p_lss_f _ _ _ _ _ c9) rfl) ?_
        refine ol_put rfl rfl rfl (q_pickT (v := .one (bC false)) rfl rfl) ?_
        refine ol_put rfl rfl rfl (q_pickF (v := .one (bC false)) rfl rfl) ?_
        refine ol_end ?_
        refine E_seq ?_
        refine L_condF rfl ?_
        refine L_skip ?_
        refine E_seq ?_
        refine L_seq ?_
        refine L_seq ?_
        refine L_ops ?_
        refine ol_put rfl rfl rfl (q_loadP (v := .agg [iC .i64 n1, iC .u64 n2]) 1 rfl sz56 rfl rfl rfl rfl) ?_
        refine ol_put rfl rfl rfl (q_loadP (v := .agg [iC .i64 n3, iC .u64 n4]) 0 rfl sz56 rfl rfl rfl rfl) ?_
        by_cases c10 : n1 = n3 ∧ n2 = n4
        · replace h := ifT c10 h
          refine ol_put rfl rfl rfl (q_binA rfl rfl (by rfl) (by rfl) (eqeqlA56_t _ _ c10) rfl) ?_
          refine ol_end ?_
          refine E_seq ?_
          refine L_condT rfl ?_
          refine L_seq ?_
          refine L_ops ?_
          refine ol_put rfl rfl rfl (q_assign (v := .one (iC .i64 0)) rfl) ?_
          refine ol_end ?_
          refine E_seq ?_
          refine L_ret ?_
          refine E_seqR ?_
          obtain rfl := Option.some.inj h
          exact E_endF (.inr rfl) (res_tmp rfl res_nil) (vw_cons (vd_one vc_v) vw_nil) (fun h hb => own_p) rfl rfl
        · replace h := ifF c10 h
          refine ol_put rfl rfl rfl (q_binA rfl rfl (by rfl) (by rfl) (eqeqlA56_f _ _ c10) rfl) ?_
          refine ol_end ?_
          refine E_seq ?_
          refine L_condF rfl ?_
          refine L_skip ?_
          refine E_seq ?_
          refine L_seq ?_
          refine L_ops ?_
          refine ol_put rfl rfl rfl (q_assign (v := .one (iC .i64 1)) rfl) ?_
          refine ol_end ?_
          refine E_seq ?_
          refine L_ret ?_
          obtain rfl := Option.some.inj h
          exact E_endF (.inr rfl) (res_tmp rfl res_nil) (vw_cons (vd_one vc_v) vw_nil) (fun h hb => own_p) rfl rfl
    · replace h := ifF c8 h
      refine ol_put rfl rfl rfl (q_bin rfl rfl (p_eql_f _ _ _ _ _ c8) rfl) ?_
      refine ol_put rfl rfl rfl (q_move (v := .one (bC false)) rfl) ?_
      refine ol_skip rfl rfl rfl ?_
      refine ol_skip rfl rfl rfl ?_
      refine ol_skip rfl rfl rfl ?_
      refine ol_skip rfl rfl rfl ?_
      refine ol_skip rfl rfl rfl ?_
      refine ol_put rfl rfl rfl (q_pickF (v := .one (bC false)) rfl rfl) ?_
      refine ol_put rfl rfl rfl (q_pickF (v := .one (bC false)) rfl rfl) ?_
      refine ol_end ?_
      refine E_seq ?_
      refine L_condF rfl ?_
      refine L_skip ?_
      refine E_seq ?_
      refine L_seq ?_
      refine L_seq ?_
      refine L_ops ?_
      refine ol_put rfl rfl rfl (q_loadP (v := .agg [iC .i64 n1, iC .u64 n2]) 1 rfl sz56 rfl rfl rfl rfl) ?_
      refine ol_put rfl rfl rfl (q_loadP (v := .agg [iC .i64 n3, iC .u64 n4]) 0 rfl sz56 rfl rfl rfl rfl) ?_
      by_cases c11 : n1 = n3 ∧ n2 = n4
      · replace h := ifT c11 h
        refine ol_put rfl rfl rfl (q_binA rfl rfl (by rfl) (by rfl) (eqeqlA56_t _ _ c11) rfl) ?_
        refine ol_end ?_
        refine E_seq ?_
        refine L_condT rfl ?_
        refine L_seq ?_
        refine L_ops ?_
        refine ol_put rfl rfl rfl (q_assign (v := .one (iC .i64 0)) rfl) ?_
        refine ol_end ?_
        refine E_seq ?_
        refine L_ret ?_
        refine E_seqR ?_
        obtain rfl := Option.some.inj h
        exact E_endF (.inr rfl) (res_tmp rfl res_nil) (vw_cons (vd_one vc_v) vw_nil) (fun h hb => own_p) rfl rfl
      · replace h := ifF c11 h
        refine ol_put rfl rfl rfl (q_binA rfl rfl (by rfl) (by rfl) (eqeqlA56_f _ _ c11) rfl) ?_
        refine ol_end ?_
        refine E_seq ?_
        refine L_condF rfl ?_
        refine L_skip ?_
        refine E_seq ?_
        refine L_seq ?_
        refine L_ops ?_
        refine ol_put rfl rfl rfl (q_assign (v := .one (iC .i64 1)) rfl) ?_
        refine ol_end ?_
        refine E_seq ?_
        refine L_ret ?_
        obtain rfl := Option.some.inj h
        exact E_endF (.inr rfl) (res_tmp rfl res_nil) (vw_cons (vd_one vc_v) vw_nil) (fun h hb => own_p) rfl rfl

noncomputable def ref02_truth (b1 : Bool) : Option ((Int × Int)) :=
  (if b1 = true then some (0, 1) else some (0, 0))
theorem ref02_truth_r (m : Nat) {b1 : Bool} {out : (Int × Int)} (h : ref02_truth b1 = some out) : RunsP E1 (m + 1) 55 [.one (bT b1)] (.fresh, [.agg (r55 out)]) := by
  refine fn_F rfl (by rw [E1_fn]; exact show fiOf Try.prog 55 = _ by unfold fiOf; rw [Try.func55]; unfold Try.f55; rfl) rfl ?_
  dsimp only
  unfold ref02_truth at h
  refine L_seq ?_
  refine L_ops ?_
  refine ol_new rfl rfl rfl (q_alloc ty56 (row := [iC .i64 0, iC .u64 0]) rfl rfl) (fun k2 => ?_)
  refine ol_end ?_
  refine E_seq ?_
  refine L_seq ?_
  refine L_seq ?_
  refine L_ops ?_
  refine ol_put rfl rfl rfl (q_move (v := .one (bC b1)) rfl) ?_
  refine ol_end ?_
  refine E_seq ?_
  rcases b1 with _ | _
  · replace h := ifF (by decide) h
    refine L_condF rfl ?_
    refine L_skip ?_
    refine E_seq ?_
    refine L_seq ?_
    refine L_ops ?_
    refine ol_put rfl rfl rfl (q_build (cs := [iC .i64 0, iC .u64 0]) ty56 rfl pl56 rfl) ?_
    refine ol_wr rfl rfl (q_store (es' := [[iC .i64 0, iC .u64 0]]) 0 rfl rfl rfl sz56 rfl rfl rfl rfl rfl) rfl ?_
    refine ol_end ?_
    refine E_seq ?_
    refine L_ret ?_
    obtain rfl := Option.some.inj h
    exact E_endF (.inr rfl) (res_cell (d := .agg [iC .i64 0, iC .u64 0]) 0 rfl sz56 rfl rfl rfl rfl res_nil) (vw_cons (vd_agg (vc_cons vc_v (vc_cons vc_v vc_nil))) vw_nil) (fun h hb => own_agg) rfl rfl
  · replace h := ifT (by decide) h
    refine L_condT rfl ?_
    refine L_seq ?_
    refine L_ops ?_
    refine ol_put rfl rfl rfl (q_build (cs := [iC .i64 0, iC .u64 1]) ty56 rfl pl56 rfl) ?_
    refine ol_wr rfl rfl (q_store (es' := [[iC .i64 0, iC .u64 1]]) 0 rfl rfl rfl sz56 rfl rfl rfl rfl rfl) rfl ?_
    refine ol_end ?_
    refine E_seq ?_
    refine L_ret ?_
    refine E_seqR ?_
    obtain rfl := Option.some.inj h
    exact E_endF (.inr rfl) (res_cell (d := .agg [iC .i64 0, iC .u64 1]) 0 rfl sz56 rfl rfl rfl rfl res_nil) (vw_cons (vd_agg (vc_cons vc_v (vc_cons vc_v vc_nil))) vw_nil) (fun h hb => own_agg) rfl rfl

noncomputable def ref01_Add (a0 : Int × Int) (a1 : Int × Int) : Option ((Int × Int)) :=
  match a0, a1 with
  | (n1, n2), (n3, n4) => (if (IntKind.u64.wrap (n2 + n4)) < n2 then some ((IntKind.i64.wrap ((IntKind.i64.wrap (n1 + n3)) + 1)), (IntKind.u64.wrap (n2 + n4))) else some ((IntKind.i64.wrap (n1 + n3)), (IntKind.u64.wrap (n2 + n4))))
theorem ref01_Add_r (m : Nat) {a0 : Int × Int} {a1 : Int × Int} {out : (Int × Int)} (h : ref01_Add a0 a1 = some out) : RunsP E1 (m + 1) 56 [.agg (r55 a0), .agg (r55 a1)] (.fresh, [.agg (r55 out)]) := by
  obtain ⟨n1, n2⟩ := a0
  obtain ⟨n3, n4⟩ := a1
  refine fn_F rfl (by rw [E1_fn]; exact show fiOf Try.prog 56 = _ by unfold fiOf; rw [Try.func56]; unfold Try.f56; rfl) rfl ?_
  dsimp only
  unfold ref01_Add at h
  refine L_seq ?_
  refine L_ops ?_
  refine ol_new rfl rfl rfl (q_box ty56 rfl (cs := [iC .i64 n1, iC .u64 n2]) rfl rfl) (fun k5 => ?_)
  refine ol_new rfl rfl rfl (q_box ty56 rfl (cs := [iC .i64 n3, iC .u64 n4]) rfl rfl) (fun k6 => ?_)
  refine ol_new rfl rfl rfl (q_alloc ty56 (row := [iC .i64 0, iC .u64 0]) rfl rfl) (fun k7 => ?_)
  refine ol_end ?_
  refine E_seq ?_
  refine L_seq ?_
  refine L_ops ?_
  refine ol_put rfl rfl rfl (q_fieldP rfl fa56_1 rfl) ?_
  refine ol_put rfl rfl rfl (q_loadP (v := .one (iC .u64 n2)) 2 rfl sz54 rfl rfl rfl rfl) ?_
  refine ol_put rfl rfl rfl (q_fieldP rfl fa56_1 rfl) ?_
  refine ol_put rfl rfl rfl (q_loadP (v := .one (iC .u64 n4)) 1 rfl sz54 rfl rfl rfl rfl) ?_
  refine ol_put rfl rfl rfl (q_bin rfl rfl (p_add _ _ _ _ _ _ _) rfl) ?_
  refine ol_put rfl rfl rfl (q_assign (v := .one (iC .u64 (IntKind.u64.wrap (n2 + n4)))) rfl) ?_
  refine ol_end ?_
  refine E_seq ?_
  refine L_seq ?_
  refine L_ops ?_
  refine ol_put rfl rfl rfl (q_fieldP rfl fa56_0 rfl) ?_
  refine ol_put rfl rfl rfl (q_loadP (v := .one (iC .i64 n1)) 2 rfl sz2 rfl rfl rfl rfl) ?_
  refine ol_put rfl rfl rfl (q_fieldP rfl fa56_0 rfl) ?_
  refine ol_put rfl rfl rfl (q_loadP (v := .one (iC .i64 n3)) 1 rfl sz2 rfl rfl rfl rfl) ?_
  refine ol_put rfl rfl rfl (q_bin rfl rfl (p_add _ _ _ _ _ _ _) rfl) ?_
  refine ol_put rfl rfl rfl (q_assign (v := .one (iC .i64 (IntKind.i64.wrap (n1 + n3)))) rfl) ?_
  refine ol_end ?_
  refine E_seq ?_
  refine L_seq ?_
  refine L_seq ?_
  refine L_ops ?_
  refine ol_put rfl rfl rfl (q_move (v := .one (iC .u64 (IntKind.u64.wrap (n2 + n4)))) rfl) ?_
  refine ol_put rfl rfl rfl (q_fieldP rfl fa56_1 rfl) ?_
  refine ol_put rfl rfl rfl (q_loadP (v := .one (iC .u64 n2)) 2 rfl sz54 rfl rfl rfl rfl) ?_
  by_cases c8 : (IntKind.u64.wrap (n2 + n4)) < n2
  · replace h := ifT c8 h
    refine ol_put rfl rfl rfl (q_bin rfl rfl (p_lss_t _ _ _ _ _ c8) rfl) ?_
    refine ol_end ?_
    refine E_seq ?_
    refine L_condT rfl ?_
    refine L_ops ?_
    refine ol_put rfl rfl rfl (q_move (v := .one (iC .i64 (IntKind.i64.wrap (n1 + n3)))) rfl) ?_
    refine ol_put rfl rfl rfl (q_bin rfl rfl (p_add _ _ _ _ _ _ _) rfl) ?_
    refine ol_put rfl rfl rfl (q_assign (v := .one (iC .i64 (IntKind.i64.wrap ((IntKind.i64.wrap (n1 + n3)) + 1)))) rfl) ?_
    refine ol_end ?_
    refine E_seq ?_
    refine L_seq ?_
    refine L_ops ?_
    refine ol_put rfl rfl rfl (q_move (v := .one (iC .i64 (IntKind.i64.wrap ((IntKind.i64.wrap (n1 + n3)) + 1)))) rfl) ?_
    refine ol_put rfl rfl rfl (q_move (v := .one (iC .u64 (IntKind.u64.wrap (n2 + n4)))) rfl) ?_
    refine ol_put rfl rfl rfl (q_build (cs := [iC .i64 (IntKind.i64.wrap ((IntKind.i64.wrap (n1 + n3)) + 1)), iC .u64 (IntKind.u64.wrap (n2 + n4))]) ty56 rfl pl56 rfl) ?_
    refine ol_wr rfl rfl (q_store (es' := [[iC .i64 (IntKind.i64.wrap ((IntKind.i64.wrap (n1 + n3)) + 1)), iC .u64 (IntKind.u64.wrap (n2 + n4))]]) 0 rfl rfl rfl sz56 rfl rfl rfl rfl rfl) rfl ?_
    refine ol_end ?_
    refine E_seq ?_
    refine L_ret ?_
    obtain rfl := Option.some.inj h
    exact E_endF (.inr rfl) (res_cell (d := .agg [iC .i64 (IntKind.i64.wrap ((IntKind.i64.wrap (n1 + n3)) + 1)), iC .u64 (IntKind.u64.wrap (n2 + n4))]) 0 rfl sz56 rfl rfl rfl rfl res_nil) (vw_cons (vd_agg (vc_cons vc_v (vc_cons vc_v vc_nil))) vw_nil) (fun h hb => own_agg) rfl rfl
  · replace h := ifF c8 h
    refine ol_put rfl rfl rfl (q_bin rfl rfl (p_lss_f _ _ _ _ _ c8) rfl) ?_
    refine ol_end ?_
    refine E_seq ?_
    refine L_condF rfl ?_
    refine L_skip ?_
    refine E_seq ?_
    refine L_seq ?_
    refine L_ops ?_
    refine ol_put rfl rfl rfl (q_move (v := .one (iC .i64 (IntKind.i64.wrap (n1 + n3)))) rfl) ?_
    refine ol_put rfl rfl rfl (q_move (v := .one (iC .u64 (IntKind.u64.wrap (n2 + n4)))) rfl) ?_
    refine ol_put rfl rfl rfl (q_build (cs := [iC .i64 (IntKind.i64.wrap (n1 + n3)), iC .u64 (IntKind.u64.wrap (n2 + n4))]) ty56 rfl pl56 rfl) ?_
    refine ol_wr rfl rfl (q_store (es' := [[iC .i64 (IntKind.i64.wrap (n1 + n3)), iC .u64 (IntKind.u64.wrap (n2 + n4))]]) 0 rfl rfl rfl sz56 rfl rfl rfl rfl rfl) rfl ?_
    refine ol_end ?_
    refine E_seq ?_
    refine L_ret ?_
    obtain rfl := Option.some.inj h
    exact E_endF (.inr rfl) (res_cell (d := .agg [iC .i64 (IntKind.i64.wrap (n1 + n3)), iC .u64 (IntKind.u64.wrap (n2 + n4))]) 0 rfl sz56 rfl rfl rfl rfl res_nil) (vw_cons (vd_agg (vc_cons vc_v (vc_cons vc_v vc_nil))) vw_nil) (fun h hb => own_agg) rfl rfl

noncomputable def ref02_Add (n1 : Int) (a1 : Int × Int) (a2 : Int × Int) : Option ((Int × Int)) :=
  match a1, a2 with
  | (n2, n3), (n4, n5) => (if n1 = 1 then ((ref01_Compare (n4, n5) (n2, n3)).bind fun n11 => (if n11 < 0 then some (n4, n5) else some (n2, n3))) else (if n1 = 3 then ((ref01_Compare (n4, n5) (n2, n3)).bind fun n15 => (if n15 < 0 then some (n4, n5) else some (n2, n3))) else (if n1 = 4 then ((ref01_Compare (n4, n5) (n2, n3)).bind fun n19 => (if n19 < 0 then some (n4, n5) else some (n2, n3))) else (if n1 = 2 then (if n2 = 0 ∧ n3 = 0 then (if n4 = 0 ∧ n5 = 0 then ((ref02_truth false).bind fun (n25, n26) => some (n25, n26)) else ((ref02_truth true).bind fun (n28, n29) => some (n28, n29))) else ((ref02_truth true).bind fun (n31, n32) => some (n31, n32))) else (if n1 = 5 then ((ref01_Add (n2, n3) (n4, n5)).bind fun (n35, n36) => some (n35, n36)) else some (0, 0))))))
theorem ref02_Add_r (m : Nat) {n1 : Int} {a1 : Int × Int} {a2 : Int × Int} {out : (Int × Int)} (h : ref02_Add n1 a1 a2 = some out) : RunsP E1 (m + 2) 29 [.one (iT .i64 n1), .agg (r55 a1), .agg (r55 a2)] (.fresh, [.agg (r55 out)]) := by
  obtain ⟨n2, n3⟩ := a1
  obtain ⟨n4, n5⟩ := a2
  refine fn_F rfl (by rw [E1_fn]; exact show fiOf Try.prog 29 = _ by unfold fiOf; rw [Try.func29]; unfold Try.f29; rfl) rfl ?_
  dsimp only
  unfold ref02_Add at h
  refine L_seq ?_
  refine L_ops ?_
  refine ol_new rfl rfl rfl (q_box ty56 rfl (cs := [iC .i64 n2, iC .u64 n3]) rfl rfl) (fun k6 => ?_)
  refine ol_new rfl rfl rfl (q_box ty56 rfl (cs := [iC .i64 n4, iC .u64 n5]) rfl rfl) (fun k7 => ?_)
  refine ol_new rfl rfl rfl (q_alloc ty56 (row := [iC .i64 0, iC .u64 0]) rfl rfl) (fun k8 => ?_)
  refine ol_end ?_
  refine E_seq ?_
  refine L_seq ?_
  refine L_ops ?_
  refine ol_put rfl rfl rfl (q_move (v := .one (iC .i64 n1)) rfl) ?_
  refine ol_end ?_
  refine E_seq ?_
  refine L_block ?_
  refine L_seq ?_
  refine L_seq ?_
  refine L_ops ?_
  by_cases c9 : n1 = 1
  · replace h := ifT c9 h
    refine ol_put rfl rfl rfl (q_bin rfl rfl (p_eql_t _ _ _ _ _ c9) rfl) ?_
    refine ol_put rfl rfl rfl (q_assign (v := .one (bC true)) rfl) ?_
    refine ol_end ?_
    refine E_seq ?_
    refine L_condT rfl ?_
    refine L_skip ?_
    refine E_seq ?_
    refine L_condT rfl ?_
    refine L_seq ?_
    refine L_seq ?_
    refine L_ops ?_
    refine ol_put rfl rfl rfl (q_loadP (v := .agg [iC .i64 n4, iC .u64 n5]) 1 rfl sz56 rfl rfl rfl rfl) ?_
    refine ol_put rfl rfl rfl (q_loadP (v := .agg [iC .i64 n2, iC .u64 n3]) 2 rfl sz56 rfl rfl rfl rfl) ?_
    obtain ⟨n11, h10, h⟩ := bindS h
    refine ol_put rfl rfl rfl (q_callF (v := .one (iC .i64 n11)) (args := [.agg [iC .i64 n4, iC .u64 n5], .agg [iC .i64 n2, iC .u64 n3]]) (ref01_Compare_r (m + 0) h10) rfl rfl (vw_cons (vd_agg (vc_cons vc_v (vc_cons vc_v vc_nil))) (vw_cons (vd_agg (vc_cons vc_v (vc_cons vc_v vc_nil))) vw_nil)) rfl rfl) ?_
    by_cases c12 : n11 < 0
    · replace h := ifT c12 h
      refine ol_put rfl rfl rfl (q_bin rfl rfl (p_lss_t _ _ _ _ _ c12) rfl) ?_
      refine ol_end ?_
      refine E_seq ?_
      refine L_condT rfl ?_
      refine L_seq ?_
      refine L_ops ?_
      refine ol_put rfl rfl rfl (q_loadP (v := .agg [iC .i64 n4, iC .u64 n5]) 1 rfl sz56 rfl rfl rfl rfl) ?_
      refine ol_wr rfl rfl (q_store (es' := [[iC .i64 n4, iC .u64 n5]]) 0 rfl rfl rfl sz56 rfl rfl rfl rfl rfl) rfl ?_
      refine ol_end ?_
      refine E_seq ?_
      refine L_ret ?_
      refine E_seqR ?_
      refine E_blkR ?_
      obtain rfl := Option.some.inj h
      exact E_endF (.inr rfl) (res_cell (d := .agg [iC .i64 n4, iC .u64 n5]) 0 rfl sz56 rfl rfl rfl rfl res_nil) (vw_cons (vd_agg (vc_cons vc_v (vc_cons vc_v vc_nil))) vw_nil) (fun h hb => own_agg) rfl rfl
    · replace h := ifF c12 h
      refine ol_put rfl rfl rfl (q_bin rfl rfl (p_lss_f _ _ _ _ _ c12) rfl) ?_
      refine ol_end ?_
      refine E_seq ?_
      refine L_condF rfl ?_
      refine L_skip ?_
      refine E_seq ?_
      refine L_seq ?_
      refine L_ops ?_
      refine ol_put rfl rfl rfl (q_loadP (v := .agg [iC .i64 n2, iC .u64 n3]) 2 rfl sz56 rfl rfl rfl rfl) ?_
      refine ol_wr rfl rfl (q_store (es' := [[iC .i64 n2, iC .u64 n3]]) 0 rfl rfl rfl sz56 rfl rfl rfl rfl rfl) rfl ?_
      refine ol_end ?_
      refine E_seq ?_
      refine L_ret ?_
      refine E_blkR ?_
      obtain rfl := Option.some.inj h
      exact E_endF (.inr rfl) (res_cell (d := .agg [iC .i64 n2, iC .u64 n3]) 0 rfl sz56 rfl rfl rfl rfl res_nil) (vw_cons (vd_agg (vc_cons vc_v (vc_cons vc_v vc_nil))) vw_nil) (fun h hb => own_agg) rfl rfl
  · replace h := ifF c9 h
    refine ol_put rfl rfl rfl (q_bin rfl rfl (p_eql_f _ _ _ _ _ c9) rfl) ?_
    refine ol_put rfl rfl rfl (q_assign (v := .one (bC false)) rfl) ?_
    refine ol_end ?_
    refine E_seq ?_
    refine L_condF rfl ?_
    refine L_seq ?_
    refine L_ops ?_
    by_cases c13 : n1 = 3
    · replace h := ifT c13 h
      refine ol_put rfl rfl rfl (q_bin rfl rfl (p_eql_t _ _ _ _ _ c13) rfl) ?_
      refine ol_put rfl rfl rfl (q_assign (v := .one (bC true)) rfl) ?_
      refine ol_end ?_
      refine E_seq ?_
      refine L_condT rfl ?_
      refine L_skip ?_
      refine E_seq ?_
      refine L_condT rfl ?_
      refine L_seq ?_
      refine L_seq ?_
      refine L_ops ?_
      refine ol_put rfl rfl rfl (q_loadP (v := .agg [iC .i64 n4, iC .u64 n5]) 1 rfl sz56 rfl rfl rfl rfl) ?_
      refine ol_put rfl rfl rfl (q_loadP (v := .agg [iC .i64 n2, iC .u64 n3]) 2 rfl sz56 rfl rfl rfl rfl) ?_
      obtain ⟨n15, h14, h⟩ := bindS h
      refine ol_put rfl rfl rfl (q_callF (v := .one (iC .i64 n15)) (args := [.agg [iC .i64 n4, iC .u64 n5], .agg [iC .i64 n2, iC .u64 n3]]) (ref01_Compare_r (m + 0) h14) rfl rfl (vw_cons (vd_agg (vc_cons vc_v (vc_cons vc_v vc_nil))) (vw_cons (vd_agg (vc_cons vc_v (vc_cons vc_v vc_nil))) vw_nil)) rfl rfl) ?_
      by_cases c16 : n15 < 0
      · replace h := ifT c16 h
        refine ol_put rfl rfl rfl (q_bin rfl rfl (p_lss_t _ _ _ _ _ c16) rfl) ?_
        refine ol_end ?_
        refine E_seq ?_
        refine L_condT rfl ?_
        refine L_seq ?_
        refine L_ops ?_
        refine ol_put rfl rfl rfl (q_loadP (v := .agg [iC .i64 n4, iC .u64 n5]) 1 rfl sz56 rfl rfl rfl rfl) ?_
        refine ol_wr rfl rfl (q_store (es' := [[iC .i64 n4, iC .u64 n5]]) 0 rfl rfl rfl sz56 rfl rfl rfl rfl rfl) rfl ?_
        refine ol_end ?_
        refine E_seq ?_
        refine L_ret ?_
        refine E_seqR ?_
        refine E_blkR ?_
        obtain rfl := Option.some.inj h
        exact E_endF (.inr rfl) (res_cell (d := .agg [iC .i64 n4, iC .u64 n5]) 0 rfl sz56 rfl rfl rfl rfl res_nil) (vw_cons (vd_agg (vc_cons vc_v (vc_cons vc_v vc_nil))) vw_nil) (fun h hb => own_agg) rfl rfl
      · replace h := ifF c16 h
        refine ol_put rfl rfl rfl (q_bin rfl rfl (p_lss_f _ _ _ _ _ c16) rfl) ?_
        refine ol_end ?_
        refine E_seq ?_
        refine L_condF rfl ?_
        refine L_skip ?_
        refine E_seq ?_
        refine L_seq ?_
        refine L_ops ?_
        refine ol_put rfl rfl rfl (q_loadP (v := .agg [iC .i64 n2, iC .u64 n3]) 2 rfl sz56 rfl rfl rfl rfl) ?_
        refine ol_wr rfl rfl (q_store (es' := [[iC .i64 n2, iC .u64 n3]]) 0 rfl rfl rfl sz56 rfl rfl rfl rfl rfl) rfl ?_
        refine ol_end ?_
        refine E_seq ?_
        refine L_ret ?_
        refine E_blkR ?_
        obtain rfl := Option.some.inj h
        exact E_endF (.inr rfl) (res_cell (d := .agg [iC .i64 n2, iC .u64 n3]) 0 rfl sz56 rfl rfl rfl rfl res_nil) (vw_cons (vd_agg (vc_cons vc_v (vc_cons vc_v vc_nil))) vw_nil) (fun h hb => own_agg) rfl rfl
    · replace h := ifF c13 h
      refine ol_put rfl rfl rfl (q_bin rfl rfl (p_eql_f _ _ _ _ _ c13) rfl) ?_
      refine ol_put rfl rfl rfl (q_assign (v := .one (bC false)) rfl) ?_
      refine ol_end ?_
      refine E_seq ?_
      refine L_condF rfl ?_
      refine L_ops ?_
      by_cases c17 : n1 = 4
      · replace h := ifT c17 h
        refine ol_put rfl rfl rfl (q_bin rfl rfl (p_eql_t _ _ _ _ _ c17) rfl) ?_
        refine ol_put rfl rfl rfl (q_assign (v := .one (bC true)) rfl) ?_
        refine ol_end ?_
        refine E_seq ?_
        refine L_condT rfl ?_
        refine L_seq ?_
        refine L_seq ?_
        refine L_ops ?_
        refine ol_put rfl rfl rfl (q_loadP (v := .agg [iC .i64 n4, iC .u64 n5]) 1 rfl sz56 rfl rfl rfl rfl) ?_
        refine ol_put rfl rfl rfl (q_loadP (v := .agg [iC .i64 n2, iC .u64 n3]) 2 rfl sz56 rfl rfl rfl rfl) ?_
        obtain ⟨n19, h18, h⟩ := bindS h
        refine ol_put rfl rfl rfl (q_callF (v := .one (iC .i64 n19)) (args := [.agg [iC .i64 n4, iC .u64 n5], .agg [iC .i64 n2, iC .u64 n3]]) (ref01_Compare_r (m + 0) h18) rfl rfl (vw_cons (vd_agg (vc_cons vc_v (vc_cons vc_v vc_nil))) (vw_cons (vd_agg (vc_cons vc_v (vc_cons vc_v vc_nil))) vw_nil)) rfl rfl) ?_
        by_cases c20 : n19 < 0
        · replace h := ifT c20 h
          refine ol_put rfl rfl rfl (q_bin rfl rfl (p_lss_t _ _ _ _ _ c20) rfl) ?_
          refine ol_end ?_
          refine E_seq ?_
          refine L_condT rfl ?_
          refine L_seq ?_
          refine L_ops ?_
          refine ol_put rfl rfl rfl (q_loadP (v := .agg [iC .i64 n4, iC .u64 n5]) 1 rfl sz56 rfl rfl rfl rfl) ?_
          refine ol_wr rfl rfl (q_store (es' := [[iC .i64 n4, iC .u64 n5]]) 0 rfl rfl rfl sz56 rfl rfl rfl rfl rfl) rfl ?_
          refine ol_end ?_
          refine E_seq ?_
          refine L_ret ?_
          refine E_seqR ?_
          refine E_blkR ?_
          obtain rfl := Option.some.inj h
          exact E_endF (.inr rfl) (res_cell (d := .agg [iC .i64 n4, iC .u64 n5]) 0 rfl sz56 rfl rfl rfl rfl res_nil) (vw_cons (vd_agg (vc_cons vc_v (vc_cons vc_v vc_nil))) vw_nil) (fun h hb => own_agg) rfl rfl
        · replace h := ifF c20 h
          refine ol_put rfl rfl rfl (q_bin rfl rfl (p_lss_f _ _ _ _ _ c20) rfl) ?_
          refine ol_end ?_
          refine E_seq ?_
          refine L_condF rfl ?_
          refine L_skip ?_
          refine E_seq ?_
          refine L_seq ?_
          refine L_ops ?_
          refine ol_put rfl rfl rfl (q_loadP (v := .agg [iC .i64 n2, iC .u64 n3]) 2 rfl sz56 rfl rfl rfl rfl) ?_
          refine ol_wr rfl rfl (q_store (es' := [[iC .i64 n2, iC .u64 n3]]) 0 rfl rfl rfl sz56 rfl rfl rfl rfl rfl) rfl ?_
          refine ol_end ?_
          refine E_seq ?_
          refine L_ret ?_
          refine E_blkR ?_
          obtain rfl := Option.some.inj h
          exact E_endF (.inr rfl) (res_cell (d := .agg [iC .i64 n2, iC .u64 n3]) 0 rfl sz56 rfl rfl rfl rfl res_nil) (vw_cons (vd_agg (vc_cons vc_v (vc_cons vc_v vc_nil))) vw_nil) (fun h hb => own_agg) rfl rfl
      · replace h := ifF c17 h
        refine ol_put rfl rfl rfl (q_bin rfl rfl (p_eql_f _ _ _ _ _ c17) rfl) ?_
        refine ol_put rfl rfl rfl (q_assign (v := .one (bC false)) rfl) ?_
        refine ol_end ?_
        refine E_seq ?_
        refine L_condF rfl ?_
        refine L_seq ?_
        refine L_ops ?_
        by_cases c21 : n1 = 2
        · replace h := ifT c21 h
          refine ol_put rfl rfl rfl (q_bin rfl rfl (p_eql_t _ _ _ _ _ c21) rfl) ?_
          refine ol_put rfl rfl rfl (q_assign (v := .one (bC true)) rfl) ?_
          refine ol_end ?_
          refine E_seq ?_
          refine L_condT rfl ?_
          refine L_seq ?_
          refine L_ops ?_
          refine ol_put rfl rfl rfl (q_loadP (v := .agg [iC .i64 n2, iC .u64 n3]) 2 rfl sz56 rfl rfl rfl rfl) ?_
          refine ol_put rfl rfl rfl (q_build (cs := [iC .i64 0, iC .u64 0]) ty56 rfl pl56 rfl) ?_
          by_cases c22 : n2 = 0 ∧ n3 = 0
          · replace h := ifT c22 h
            refine ol_put rfl rfl rfl (q_binA rfl rfl (by rfl) (by rfl) (eqneqA56_t _ _ c22) rfl) ?_
            refine ol_put rfl rfl rfl (q_move (v := .one (bC false)) rfl) ?_
            refine ol_put rfl rfl rfl (q_loadP (v := .agg [iC .i64 n4, iC .u64 n5]) 1 rfl sz56 rfl rfl rfl rfl) ?_
            refine ol_put rfl rfl rfl (q_build (cs := [iC .i64 0, iC .u64 0]) ty56 rfl pl56 rfl) ?_
            by_cases c23 : n4 = 0 ∧ n5 = 0
            · replace h := ifT c23 h
              refine ol_put rfl rfl rfl (q_binA rfl rfl (by rfl) (by rfl) (eqneqA56_t _ _ c23) rfl) ?_
              refine ol_put rfl rfl rfl (q_pickF (v := .one (bC false)) rfl rfl) ?_
              obtain ⟨⟨n25, n26⟩, h24, h⟩ := bindS h
              refine ol_put rfl rfl rfl (q_callF (v := .agg [iC .i64 n25, iC .u64 n26]) (args := [.one (bC false)]) (ref02_truth_r (m + 0) h24) rfl rfl (vw_cons (vd_one vc_v) vw_nil) rfl rfl) ?_
              refine ol_wr rfl rfl (q_store (es' := [[iC .i64 n25, iC .u64 n26]]) 0 rfl rfl rfl sz56 rfl rfl rfl rfl rfl) rfl ?_
              refine ol_end ?_
              refine E_seq ?_
              refine L_ret ?_
              refine E_blkR ?_
              obtain rfl := Option.some.inj h
              exact E_endF (.inr rfl) (res_cell (d := .agg [iC .i64 n25, iC .u64 n26]) 0 rfl sz56 rfl rfl rfl rfl res_nil) (vw_cons (vd_agg (vc_cons vc_v (vc_cons vc_v vc_nil))) vw_nil) (fun h hb => own_agg) rfl rfl
            · replace h := ifF c23 h
              refine ol_put rfl rfl rfl (q_binA rfl rfl (by rfl) (by rfl) (eqneqA56_f _ _ c23) rfl) ?_
              refine ol_put rfl rfl rfl (q_pickF (v := .one (bC true)) rfl rfl) ?_
              obtain ⟨⟨n28, n29⟩, h27, h⟩ := bindS h
              refine ol_put rfl rfl rfl (q_callF (v := .agg [iC .i64 n28, iC .u64 n29]) (args := [.one (bC true)]) (ref02_truth_r (m + 0) h27) rfl rfl (vw_cons (vd_one vc_v) vw_nil) rfl rfl) ?_
              refine ol_wr rfl rfl (q_store (es' := [[iC .i64 n28, iC .u64 n29]]) 0 rfl rfl rfl sz56 rfl rfl rfl rfl rfl) rfl ?_
              refine ol_end ?_
              refine E_seq ?_
              refine L_ret ?_
              refine E_blkR ?_
              obtain rfl := Option.some.inj h
              exact E_endF (.inr rfl) (res_cell (d := .agg [iC .i64 n28, iC .u64 n29]) 0 rfl sz56 rfl rfl rfl rfl res_nil) (vw_cons (vd_agg (vc_cons vc_v (vc_cons vc_v vc_nil))) vw_nil) (fun h hb => own_agg) rfl rfl
          · replace h := ifF c22 h
            refine ol_put rfl rfl rfl (q_binA rfl rfl (by rfl) (by rfl) (eqneqA56_f _ _ c22) rfl) ?_
            refine ol_put rfl rfl rfl (q_move (v := .one (bC true)) rfl) ?_
            refine ol_skip rfl rfl rfl ?_
            refine ol_skip rfl rfl rfl ?_
            refine ol_skip rfl rfl rfl ?_
            refine ol_put rfl rfl rfl (q_pickT (v := .one (bC true)) rfl rfl) ?_
            obtain ⟨⟨n31, n32⟩, h30, h⟩ := bindS h
            refine ol_put rfl rfl rfl (q_callF (v := .agg [iC .i64 n31, iC .u64 n32]) (args := [.one (bC true)]) (ref02_truth_r (m + 0) h30) rfl rfl (vw_cons (vd_one vc_v) vw_nil) rfl rfl) ?_
            refine ol_wr rfl rfl (q_store (es' := [[iC .i64 n31, iC .u64 n32]]) 0 rfl rfl rfl sz56 rfl rfl rfl rfl rfl) rfl ?_
            refine ol_end ?_
            refine E_seq ?_
            refine L_ret ?_
            refine E_blkR ?_
            obtain rfl := Option.some.inj h
            exact E_endF (.inr rfl) (res_cell (d := .agg [iC .i64 n31, iC .u64 n32]) 0 rfl sz56 rfl rfl rfl rfl res_nil) (vw_cons (vd_agg (vc_cons vc_v (vc_cons vc_v vc_nil))) vw_nil) (fun h hb => own_agg) rfl rfl
        · replace h := ifF c21 h
          refine ol_put rfl rfl rfl (q_bin rfl rfl (p_eql_f _ _ _ _ _ c21) rfl) ?_
          refine ol_put rfl rfl rfl (q_assign (v := .one (bC false)) rfl) ?_
          refine ol_end ?_
          refine E_seq ?_
          refine L_condF rfl ?_
          refine L_seq ?_
          refine L_ops ?_
          by_cases c33 : n1 = 5
          · replace h := ifT c33 h
            refine ol_put rfl rfl rfl (q_bin rfl rfl (p_eql_t _ _ _ _ _ c33) rfl) ?_
            refine ol_put rfl rfl rfl (q_assign (v := .one (bC true)) rfl) ?_
            refine ol_end ?_
            refine E_seq ?_
            refine L_condT rfl ?_
            refine L_seq ?_
            refine L_ops ?_
            refine ol_put rfl rfl rfl (q_loadP (v := .agg [iC .i64 n2, iC .u64 n3]) 2 rfl sz56 rfl rfl rfl rfl) ?_
            refine ol_put rfl rfl rfl (q_loadP (v := .agg [iC .i64 n4, iC .u64 n5]) 1 rfl sz56 rfl rfl rfl rfl) ?_
            obtain ⟨⟨n35, n36⟩, h34, h⟩ := bindS h
            refine ol_put rfl rfl rfl (q_callF (v := .agg [iC .i64 n35, iC .u64 n36]) (args := [.agg [iC .i64 n2, iC .u64 n3], .agg [iC .i64 n4, iC .u64 n5]]) (ref01_Add_r (m + 0) h34) rfl rfl (vw_cons (vd_agg (vc_cons vc_v (vc_cons vc_v vc_nil))) (vw_cons (vd_agg (vc_cons vc_v (vc_cons vc_v vc_nil))) vw_nil)) rfl rfl) ?_
            refine ol_wr rfl rfl (q_store (es' := [[iC .i64 n35, iC .u64 n36]]) 0 rfl rfl rfl sz56 rfl rfl rfl rfl rfl) rfl ?_
            refine ol_end ?_
            refine E_seq ?_
            refine L_ret ?_
            refine E_blkR ?_
            obtain rfl := Option.some.inj h
            exact E_endF (.inr rfl) (res_cell (d := .agg [iC .i64 n35, iC .u64 n36]) 0 rfl sz56 rfl rfl rfl rfl res_nil) (vw_cons (vd_agg (vc_cons vc_v (vc_cons vc_v vc_nil))) vw_nil) (fun h hb => own_agg) rfl rfl
          · replace h := ifF c33 h
            refine ol_put rfl rfl rfl (q_bin rfl rfl (p_eql_f _ _ _ _ _ c33) rfl) ?_
            refine ol_put rfl rfl rfl (q_assign (v := .one (bC false)) rfl) ?_
            refine ol_end ?_
            refine E_seq ?_
            refine L_condF rfl ?_
            refine L_seq ?_
            refine L_ops ?_
            refine ol_put rfl rfl rfl (q_build (cs := [iC .i64 0, iC .u64 0]) ty56 rfl pl56 rfl) ?_
            refine ol_wr rfl rfl (q_store (es' := [[iC .i64 0, iC .u64 0]]) 0 rfl rfl rfl sz56 rfl rfl rfl rfl rfl) rfl ?_
            refine ol_end ?_
            refine E_seq ?_
            refine L_ret ?_
            refine E_blkR ?_
            obtain rfl := Option.some.inj h
            exact E_endF (.inr rfl) (res_cell (d := .agg [iC .i64 0, iC .u64 0]) 0 rfl sz56 rfl rfl rfl rfl res_nil) (vw_cons (vd_agg (vc_cons vc_v (vc_cons vc_v vc_nil))) vw_nil) (fun h hb => own_agg) rfl rfl

noncomputable def ref01_Narrow (a0 : Int × Int) : Option (Int × Bool) :=
  match a0 with
  | (n1, n2) => (if n1 = 0 then (if (IntKind.i64.wrap n2) ≥ 0 then some ((IntKind.i64.wrap n2), true) else (if n1 = (-1) then (if (IntKind.i64.wrap n2) < 0 then some ((IntKind.i64.wrap n2), true) else some (0, false)) else some (0, false))) else (if n1 = (-1) then (if (IntKind.i64.wrap n2) < 0 then some ((IntKind.i64.wrap n2), true) else some (0, false)) else some (0, false)))
theorem ref01_Narrow_r (m : Nat) {a0 : Int × Int} {out : Int × Bool} (h : ref01_Narrow a0 = some out) : RunsP E1 (m + 1) 28 [.agg (r55 a0)] (.fresh, [.one (iT .i64 out.1), .one (bT out.2)]) := by
  obtain ⟨n1, n2⟩ := a0
  refine fn_F rfl (by rw [E1_fn]; exact show fiOf Try.prog 28 = _ by unfold fiOf; rw [Try.func28]; unfold Try.f28; rfl) rfl ?_
  dsimp only
  unfold ref01_Narrow at h
  refine L_seq ?_
  refine L_ops ?_
  refine ol_new rfl rfl rfl (q_box ty56 rfl (cs := [iC .i64 n1, iC .u64 n2]) rfl rfl) (fun k3 => ?_)
  refine ol_put rfl rfl rfl (q_assign (v := .one (iC .i64 0)) rfl) ?_
  refine ol_put rfl rfl rfl (q_assign (v := .one (bC false)) rfl) ?_
  refine ol_end ?_
  refine E_seq ?_
  refine L_seq ?_
  refine L_ops ?_
  refine ol_put rfl rfl rfl (q_fieldP rfl fa56_1 rfl) ?_
  refine ol_put rfl rfl rfl (q_loadP (v := .one (iC .u64 n2)) 0 rfl sz54 rfl rfl rfl rfl) ?_
  refine ol_put rfl rfl rfl (q_conv rfl (cv54_2_u64 _) rfl) ?_
  refine ol_put rfl rfl rfl (q_assign (v := .one (iC .i64 (IntKind.i64.wrap n2))) rfl) ?_
  refine ol_end ?_
  refine E_seq ?_
  refine L_seq ?_
  refine L_seq ?_
  refine L_ops ?_
  refine ol_put rfl rfl rfl (q_fieldP rfl fa56_0 rfl) ?_
  refine ol_put rfl rfl rfl (q_loadP (v := .one (iC .i64 n1)) 0 rfl sz2 rfl rfl rfl rfl) ?_
  by_cases c4 : n1 = 0
  · replace h := ifT c4 h
    refine ol_put rfl rfl rfl (q_bin rfl rfl (p_eql_t _ _ _ _ _ c4) rfl) ?_
    refine ol_put rfl rfl rfl (q_move (v := .one (bC true)) rfl) ?_
    refine ol_put rfl rfl rfl (q_move (v := .one (iC .i64 (IntKind.i64.wrap n2))) rfl) ?_
    by_cases c5 : (IntKind.i64.wrap n2) ≥ 0
    · replace h := ifT c5 h
      refine ol_put rfl rfl rfl (q_bin rfl rfl (p_geq_t _ _ _ _ _ c5) rfl) ?_
      refine ol_put rfl rfl rfl (q_pickT (v := .one (bC true)) rfl rfl) ?_
      refine ol_put rfl rfl rfl (q_move (v := .one (bC true)) rfl) ?_
      refine ol_skip rfl rfl rfl ?_
      refine ol_skip rfl rfl rfl ?_
      refine ol_skip rfl rfl rfl ?_
      refine ol_skip rfl rfl rfl ?_
      refine ol_skip rfl rfl rfl ?_
      refine ol_skip rfl rfl rfl ?_
      refine ol_skip rfl rfl rfl ?_
      refine ol_put rfl rfl rfl (q_pickT (v := .one (bC true)) rfl rfl) ?_
      refine ol_end ?_
      refine E_seq ?_
      refine L_condT rfl ?_
      refine L_seq ?_
      refine L_ops ?_
      refine ol_put rfl rfl rfl (q_move (v := .one (iC .i64 (IntKind.i64.wrap n2))) rfl) ?_
      refine ol_put rfl rfl rfl (q_assign (v := .one (iC .i64 (IntKind.i64.wrap n2))) rfl) ?_
      refine ol_put rfl rfl rfl (q_assign (v := .one (bC true)) rfl) ?_
      refine ol_end ?_
      refine E_seq ?_
      refine L_ret ?_
      refine E_seqR ?_
      obtain rfl := Option.some.inj h
      exact E_endF (.inr rfl) (res_tmp rfl (res_tmp rfl res_nil)) (vw_cons (vd_one vc_v) (vw_cons (vd_one vc_v) vw_nil)) (fun h hb => own_no2) rfl rfl
    · replace h := ifF c5 h
      refine ol_put rfl rfl rfl (q_bin rfl rfl (p_geq_f _ _ _ _ _ c5) rfl) ?_
      refine ol_put rfl rfl rfl (q_pickT (v := .one (bC false)) rfl rfl) ?_
      refine ol_put rfl rfl rfl (q_move (v := .one (bC false)) rfl) ?_
      refine ol_put rfl rfl rfl (q_fieldP rfl fa56_0 rfl) ?_
      refine ol_put rfl rfl rfl (q_loadP (v := .one (iC .i64 n1)) 0 rfl sz2 rfl rfl rfl rfl) ?_
      by_cases c6 : n1 = (-1)
      · replace h := ifT c6 h
        refine ol_put rfl rfl rfl (q_bin rfl rfl (p_eql_t _ _ _ _ _ c6) rfl) ?_
        refine ol_put rfl rfl rfl (q_move (v := .one (bC true)) rfl) ?_
        refine ol_put rfl rfl rfl (q_move (v := .one (iC .i64 (IntKind.i64.wrap n2))) rfl) ?_
        by_cases c7 : (IntKind.i64.wrap n2) < 0
        · replace h := ifT c7 h
          refine ol_put rfl rfl rfl (q_bin rfl rfl (p_lss_t _ _ _ _ _ c7) rfl) ?_
          refine ol_put rfl rfl rfl (q_pickT (v := .one (bC true)) rfl rfl) ?_
          refine ol_put rfl rfl rfl (q_pickF (v := .one (bC true)) rfl rfl) ?_
          refine ol_end ?_
          refine E_seq ?_
          refine L_condT rfl ?_
          refine L_seq ?_
          refine L_ops ?_
          refine ol_put rfl rfl rfl (q_move (v := .one (iC .i64 (IntKind.i64.wrap n2))) rfl) ?_
          refine ol_put rfl rfl rfl (q_assign (v := .one (iC .i64 (IntKind.i64.wrap n2))) rfl) ?_
          refine ol_put rfl rfl rfl (q_assign (v := .one (bC true)) rfl) ?_
          refine ol_end ?_
          refine E_seq ?_
          refine L_ret ?_
          refine E_seqR ?_
          obtain rfl := Option.some.inj h
          exact E_endF (.inr rfl) (res_tmp rfl (res_tmp rfl res_nil)) (vw_cons (vd_one vc_v) (vw_cons (vd_one vc_v) vw_nil)) (fun h hb => own_no2) rfl rfl
        · replace h := ifF c7 h
          refine ol_put rfl rfl rfl (q_bin rfl rfl (p_lss_f _ _ _ _ _ c7) rfl) ?_
          refine ol_put rfl rfl rfl (q_pickT (v := .one (bC false)) rfl rfl) ?_
          refine ol_put rfl rfl rfl (q_pickF (v := .one (bC false)) rfl rfl) ?_
          refine ol_end ?_
          refine E_seq ?_
          refine L_condF rfl ?_
          refine L_skip ?_
          refine E_seq ?_
          refine L_seq ?_
          refine L_ops ?_
          refine ol_put rfl rfl rfl (q_assign (v := .one (iC .i64 0)) rfl) ?_
          refine ol_put rfl rfl rfl (q_assign (v := .one (bC false)) rfl) ?_
          refine ol_end ?_
          refine E_seq ?_
          refine L_ret ?_
          obtain rfl := Option.some.inj h
          exact E_endF (.inr rfl) (res_tmp rfl (res_tmp rfl res_nil)) (vw_cons (vd_one vc_v) (vw_cons (vd_one vc_v) vw_nil)) (fun h hb => own_no2) rfl rfl
      · replace h := ifF c6 h
        refine ol_put rfl rfl rfl (q_bin rfl rfl (p_eql_f _ _ _ _ _ c6) rfl) ?_
        refine ol_put rfl rfl rfl (q_move (v := .one (bC false)) rfl) ?_
        refine ol_skip rfl rfl rfl ?_
        refine ol_skip rfl rfl rfl ?_
        refine ol_put rfl rfl rfl (q_pickF (v := .one (bC false)) rfl rfl) ?_
        refine ol_put rfl rfl rfl (q_pickF (v := .one (bC false)) rfl rfl) ?_
        refine ol_end ?_
        refine E_seq ?_
        refine L_condF rfl ?_
        refine L_skip ?_
        refine E_seq ?_
        refine L_seq ?_
        refine L_ops ?_
        refine ol_put rfl rfl rfl (q_assign (v := .one (iC .i64 0)) rfl) ?_
        refine ol_put rfl rfl rfl (q_assign (v := .one (bC false)) rfl) ?_
        refine ol_end ?_
        refine E_seq ?_
        refine L_ret ?_
        obtain rfl := Option.some.inj h
        exact E_endF (.inr rfl) (res_tmp rfl (res_tmp rfl res_nil)) (vw_cons (vd_one vc_v) (vw_cons (vd_one vc_v) vw_nil)) (fun h hb => own_no2) rfl rfl
  · replace h := ifF c4 h
    refine ol_put rfl rfl rfl (q_bin rfl rfl (p_eql_f _ _ _ _ _ c4) rfl) ?_
    refine ol_put rfl rfl rfl (q_move (v := .one (bC false)) rfl) ?_
    refine ol_skip rfl rfl rfl ?_
    refine ol_skip rfl rfl rfl ?_
    refine ol_put rfl rfl rfl (q_pickF (v := .one (bC false)) rfl rfl) ?_
    refine ol_put rfl rfl rfl (q_move (v := .one (bC false)) rfl) ?_
    refine ol_put rfl rfl rfl (q_fieldP rfl fa56_0 rfl) ?_
    refine ol_put rfl rfl rfl (q_loadP (v := .one (iC .i64 n1)) 0 rfl sz2 rfl rfl rfl rfl) ?_
    by_cases c8 : n1 = (-1)
    · replace h := ifT c8 h
      refine ol_put rfl rfl rfl (q_bin rfl rfl (p_eql_t _ _ _ _ _ c8) rfl) ?_
      refine ol_put rfl rfl rfl (q_move (v := .one (bC true)) rfl) ?_
      refine ol_put rfl rfl rfl (q_move (v := .one (iC .i64 (IntKind.i64.wrap n2))) rfl) ?_
      by_cases c9 : (IntKind.i64.wrap n2) < 0
      · replace h := ifT c9 h
        refine ol_put rfl rfl rfl (q_bin rfl rfl (p_lss_t _ _ _ _ _ c9) rfl) ?_
        refine ol_put rfl rfl rfl (q_pickT (v := .one (bC true)) rfl rfl) ?_
        refine ol_put rfl rfl rfl (q_pickF (v := .one (bC true)) rfl rfl) ?_
        refine ol_end ?_
        refine E_seq ?_
        refine L_condT rfl ?_
        refine L_seq ?_
        refine L_ops ?_
        refine ol_put rfl rfl rfl (q_move (v := .one (iC .i64 (IntKind.i64.wrap n2))) rfl) ?_
        refine ol_put rfl rfl rfl (q_assign (v := .one (iC .i64 (IntKind.i64.wrap n2))) rfl) ?_
        refine ol_put rfl rfl rfl (q_assign (v := .one (bC true)) rfl) ?_
        refine ol_end ?_
        refine E_seq ?_
        refine L_ret ?_
        refine E_seqR ?_
        obtain rfl := Option.some.inj h
        exact E_endF (.inr rfl) (res_tmp rfl (res_tmp rfl res_nil)) (vw_cons (vd_one vc_v) (vw_cons (vd_one vc_v) vw_nil)) (fun h hb => own_no2) rfl rfl
      · replace h := ifF c9 h
        refine ol_put rfl rfl rfl (q_bin rfl rfl (p_lss_f _ _ _ _ _ c9) rfl) ?_
        refine ol_put rfl rfl rfl (q_pickT (v := .one (bC false)) rfl rfl) ?_
        refine ol_put rfl rfl rfl (q_pickF (v := .one (bC false)) rfl rfl) ?_
        refine ol_end ?_
        refine E_seq ?_
        refine L_condF rfl ?_
        refine L_skip ?_
        refine E_seq ?_
        refine L_seq ?_
        refine L_ops ?_
        refine ol_put rfl rfl rfl (q_assign (v := .one (iC .i64 0)) rfl) ?_
        refine ol_put rfl rfl rfl (q_assign (v := .one (bC false)) rfl) ?_
        refine ol_end ?_
        refine E_seq ?_
        refine L_ret ?_
        obtain rfl := Option.some.inj h
        exact E_endF (.inr rfl) (res_tmp rfl (res_tmp rfl res_nil)) (vw_cons (vd_one vc_v) (vw_cons (vd_one vc_v) vw_nil)) (fun h hb => own_no2) rfl rfl
    · replace h := ifF c8 h
      refine ol_put rfl rfl rfl (q_bin rfl rfl (p_eql_f _ _ _ _ _ c8) rfl) ?_
      refine ol_put rfl rfl rfl (q_move (v := .one (bC false)) rfl) ?_
      refine ol_skip rfl rfl rfl ?_
      refine ol_skip rfl rfl rfl ?_
      refine ol_put rfl rfl rfl (q_pickF (v := .one (bC false)) rfl rfl) ?_
      refine ol_put rfl rfl rfl (q_pickF (v := .one (bC false)) rfl rfl) ?_
      refine ol_end ?_
      refine E_seq ?_
      refine L_condF rfl ?_
      refine L_skip ?_
      refine E_seq ?_
      refine L_seq ?_
      refine L_ops ?_
      refine ol_put rfl rfl rfl (q_assign (v := .one (iC .i64 0)) rfl) ?_
      refine ol_put rfl rfl rfl (q_assign (v := .one (bC false)) rfl) ?_
      refine ol_end ?_
      refine E_seq ?_
      refine L_ret ?_
      obtain rfl := Option.some.inj h
      exact E_endF (.inr rfl) (res_tmp rfl (res_tmp rfl res_nil)) (vw_cons (vd_one vc_v) (vw_cons (vd_one vc_v) vw_nil)) (fun h hb => own_no2) rfl rfl

noncomputable def ref12_Reduce_b1 (n1 : Int) (s7 : Sl (Int × Int)) (a : Int × Int × Int) : Option ((Int × Int × Int) ⊕ ((Int × Int) ⊕ (Int × Int))) :=
  match a with
  | (n46, n47, n48) => (if n46 < ((s7.l.length : Nat) : Int) then ((atS 2 s7 n46).bind fun (n52, n53) => ((ref01_Of n53).bind fun (n55, n56) => (if n46 = 0 then some (.inl ((IntKind.i64.wrap (n46 + 1)), n55, n56)) else ((ref02_Add n1 (n47, n48) (n55, n56)).bind fun (n60, n61) => some (.inl ((IntKind.i64.wrap (n46 + 1)), n60, n61)))))) else some (.inr (.inl (n47, n48))))
noncomputable def ref12_Reduce (n1 : Int) (a1 : Int × (Sl (Int × Int))) : Option (Int × Int) :=
  match a1 with
  | (n2, s3) => ((ref09_Sure (n2, s3)).bind fun (n6, s7) => ((ref02_Is n1).bind fun b10 => (if b10 = true then ((ref02_Zero n1).bind fun n12 => ((ref01_Of n12).bind fun (n14, n15) => ((loopO (ref12_Reduce_b1 n1 s7) (0, n14, n15)).bind (Sum.elim (fun ⟨n62, n63⟩ => ((ref01_Narrow (n62, n63)).bind fun (n65, b66) => (if b66 = true then some (n65, 0) else some (0, 12)))) (fun u => some u))))) else some (0, 8))))
theorem ref12_Reduce_r (m : Nat) {n1 : Int} {a1 : Int × (Sl (Int × Int))} {out : Int × Int} (h : ref12_Reduce n1 a1 = some out) : RunsP E1 (m + 3) 12 [.one (iT .i64 n1), .agg (r24 a1)] (.fresh, [.one (iT .i64 out.1), .one (iT .i64 out.2)]) := by
  obtain ⟨n2, s3⟩ := a1
  refine fn_F rfl (by rw [E1_fn]; exact show fiOf Try.prog 12 = _ by unfold fiOf; rw [Try.func12]; unfold Try.f12; rfl) rfl ?_
  dsimp only
  unfold ref12_Reduce at h
  refine L_seq ?_
  refine L_ops ?_
  refine ol_new rfl rfl rfl (q_box ty25 rfl (cs := [iC .i64 n2, .p false (Sl.t r33 s3)]) rfl rfl) (fun k4 => ?_)
  refine ol_put rfl rfl rfl (q_assign (v := .one (iC .i64 0)) rfl) ?_
  refine ol_put rfl rfl rfl (q_assign (v := .one (iC .i64 0)) rfl) ?_
  refine ol_end ?_
  refine E_seq ?_
  refine L_seq ?_
  refine L_ops ?_
  refine ol_put rfl rfl rfl (q_loadP (v := .agg [iC .i64 n2, .p false (Sl.t r33 s3)]) 0 rfl sz25 rfl rfl rfl rfl) ?_
  obtain ⟨⟨n6, s7⟩, h5, h⟩ := bindS h
  refine ol_putX rfl rfl rfl (q_callX (v := fun fr8 => .agg [iC .i64 n6, .p fr8 (Sl.t r33 s7)]) (args := [.agg [iC .i64 n2, .p false (Sl.t r33 s3)]]) (ref09_Sure_r (m + 0) h5) rfl rfl (vw_cons (vd_agg (vc_cons vc_v (vc_cons vc_s vc_nil))) vw_nil) rfl rfl (fun fr => rfl)) (fun fr8 => ?_)
  refine ol_wr rfl rfl (q_store (es' := [[iC .i64 n6, .p fr8 (Sl.t r33 s7)]]) 0 rfl rfl rfl sz25 rfl rfl rfl rfl rfl) rfl ?_
  refine ol_end ?_
  refine E_seq ?_
  refine L_seq ?_
  refine L_seq ?_
  refine L_ops ?_
  refine ol_put rfl rfl rfl (q_move (v := .one (iC .i64 n1)) rfl) ?_
  obtain ⟨b10, h9, h⟩ := bindS h
  refine ol_put rfl rfl rfl (q_callF (v := .one (bC b10)) (args := [.one (iC .i64 n1)]) (ref02_Is_r (m + 1) h9) rfl rfl (vw_cons (vd_one vc_v) vw_nil) rfl rfl) ?_
  rcases b10 with _ | _
  · replace h := ifF (by decide) h
    refine ol_put rfl rfl rfl (q_not rfl) ?_
    refine ol_end ?_
    refine E_seq ?_
    refine L_condT rfl ?_
    refine L_seq ?_
    refine L_ops ?_
    refine ol_put rfl rfl rfl (q_assign (v := .one (iC .i64 0)) rfl) ?_
    refine ol_put rfl rfl rfl (q_assign (v := .one (iC .i64 8)) rfl) ?_
    refine ol_end ?_
    refine E_seq ?_
    refine L_ret ?_
    refine E_seqR ?_
    obtain rfl := Option.some.inj h
    exact E_endF (.inr rfl) (res_tmp rfl (res_tmp rfl res_nil)) (vw_cons (vd_one vc_v) (vw_cons (vd_one vc_v) vw_nil)) (fun h hb => own_no2) rfl rfl
  · replace h := ifT (by decide) h
    refine ol_put rfl rfl rfl (q_not rfl) ?_
    refine ol_end ?_
    refine E_seq ?_
    refine L_condF rfl ?_
    refine L_skip ?_
    refine E_seq ?_
    refine L_seq ?_
    refine L_ops ?_
    refine ol_put rfl rfl rfl (q_move (v := .one (iC .i64 n1)) rfl) ?_
    obtain ⟨n12, h11, h⟩ := bindS h
    refine ol_put rfl rfl rfl (q_callF (v := .one (iC .i64 n12)) (args := [.one (iC .i64 n1)]) (ref02_Zero_r (m + 0) h11) rfl rfl (vw_cons (vd_one vc_v) vw_nil) rfl rfl) ?_
    obtain ⟨⟨n14, n15⟩, h13, h⟩ := bindS h
    refine ol_put rfl rfl rfl (q_callF (v := .agg [iC .i64 n14, iC .u64 n15]) (args := [.one (iC .i64 n12)]) (ref01_Of_r (m + 1) h13) rfl rfl (vw_cons (vd_one vc_v) vw_nil) rfl rfl) ?_
    refine ol_new rfl rfl rfl (q_alloc ty56 (row := [iC .i64 0, iC .u64 0]) rfl rfl) (fun k16 => ?_)
    refine ol_wr rfl rfl (q_store (es' := [[iC .i64 n14, iC .u64 n15]]) 0 rfl rfl rfl sz56 rfl rfl rfl rfl rfl) rfl ?_
    refine ol_end ?_
    refine E_seq ?_
    refine L_seq ?_
    refine L_seq ?_
    refine L_ops ?_
    refine ol_put rfl rfl rfl (q_assign (v := .one (iC .i64 0)) rfl) ?_
    refine ol_end ?_
    refine E_seq ?_
    refine L_block ?_
    let S1 : (Int × Int × Int) → Unit → (Nat → D) → Nat → D := fun a kt g => ups g [(0, .one (iC .i64 n1)), (3, .one (.ptr k4 0 0)), (6, .one (.ptr k16 0 0)), (7, .one (iC .i64 a.1))]
    let SL1 : (Int × Int × Int) → Unit → BL := fun a kt => ([[(k4, 2, [[iC .i64 n6, .p fr8 (Sl.t r33 s7)]])], [(k16, 2, [[iC .i64 a.2.1, iC .u64 a.2.2]])]] : BL)
    let Sx1 : (Int × Int) → Unit → (Nat → D) → Nat → D := fun a kt g => ups g [(6, .one (.ptr k16 0 0))]
    let SLx1 : (Int × Int) → Unit → BL := fun a kt => ([[(k16, 2, [[iC .i64 a.1, iC .u64 a.2]])]] : BL)
    let G1 : (Int × Int) → Ex → St → Prop := fun u => endQ E1 [.tmp 4, .tmp 5] (.fresh, [.one (iT .i64 u.1), .one (iT .i64 u.2)])
    let J1 : ((Int × Int) ⊕ (Int × Int)) → Ex → St → Prop := JX 48 0 Sx1 SLx1 G1
    refine L_loopS (ref12_Reduce_b1 n1 s7) S1 SL1 J1 JX_n (0, n14, n15) h () (ups_self ⟨rfl, rfl, rfl, rfl, trivial⟩) [1, 0] (by decide) rfl ?_ ?_
    · rintro ⟨n46, n47, n48⟩ _ g out h
      change ref12_Reduce_b1 n1 s7 (n46, n47, n48) = some out at h
      unfold ref12_Reduce_b1 at h
      refine L_seq ?_
      refine L_seq ?_
      refine L_ops ?_
      refine ol_put rfl rfl rfl (q_move (v := .one (iC .i64 n46)) rfl) ?_
      refine ol_put rfl rfl rfl (q_fieldP rfl fa25_1 rfl) ?_
      refine ol_put rfl rfl rfl (q_loadP (v := .one (.p fr8 (Sl.t r33 s7))) 0 rfl sz23 rfl rfl rfl rfl) ?_
      refine ol_put rfl rfl rfl (q_lenS rfl ty23 rfl rfl rfl rfl) ?_
      by_cases c49 : n46 < ((s7.l.length : Nat) : Int)
      · replace h := ifT c49 h
        refine ol_put rfl rfl rfl (q_bin rfl rfl (p_lss_t _ _ _ _ _ c49) rfl) ?_
        refine ol_end ?_
        refine E_seq ?_
        refine L_condT rfl ?_
        refine L_skip ?_
        refine E_seq ?_
        refine L_seq ?_
        refine L_block ?_
        refine L_seq ?_
        refine L_ops ?_
        refine ol_put rfl rfl rfl (q_fieldP rfl fa25_1 rfl) ?_
        refine ol_put rfl rfl rfl (q_loadP (v := .one (.p fr8 (Sl.t r33 s7))) 0 rfl sz23 rfl rfl rfl rfl) ?_
        refine ol_put rfl rfl rfl (q_move (v := .one (iC .i64 n46)) rfl) ?_
        obtain ⟨⟨n52, n53⟩, h51, h⟩ := bindS h
        obtain ⟨h51a, h51b, h51⟩ := atS_some h51
        refine ol_put rfl rfl rfl (q_ixS rfl rfl h51a h51 (el23.trans (congrArg some h51b.symm))) ?_
        refine ol_put rfl rfl rfl (q_fieldI rfl fa34_1 rfl) ?_
        refine ol_put rfl rfl rfl (q_loadI (v := .one (iC .i64 n53)) rfl sz2 (map_get h51) rfl rfl) ?_
        obtain ⟨⟨n55, n56⟩, h54, h⟩ := bindS h
        refine ol_put rfl rfl rfl (q_callF (v := .agg [iC .i64 n55, iC .u64 n56]) (args := [.one (iC .i64 n53)]) (ref01_Of_r (m + 1) h54) rfl rfl (vw_cons (vd_one vc_v) vw_nil) rfl rfl) ?_
        refine ol_new rfl rfl rfl (q_alloc ty56 (row := [iC .i64 0, iC .u64 0]) rfl rfl) (fun k57 => ?_)
        refine ol_wr rfl rfl (q_store (es' := [[iC .i64 n55, iC .u64 n56]]) 0 rfl rfl rfl sz56 rfl rfl rfl rfl rfl) rfl ?_
        refine ol_end ?_
        refine E_seq ?_
        refine L_seq ?_
        refine L_ops ?_
        refine ol_put rfl rfl rfl (q_move (v := .one (iC .i64 n46)) rfl) ?_
        by_cases c58 : n46 = 0
        · replace h := ifT c58 h
          refine ol_put rfl rfl rfl (q_bin rfl rfl (p_eql_t _ _ _ _ _ c58) rfl) ?_
          refine ol_end ?_
          refine E_seq ?_
          refine L_condT rfl ?_
          refine L_ops ?_
          refine ol_put rfl rfl rfl (q_loadP (v := .agg [iC .i64 n55, iC .u64 n56]) 0 rfl sz56 rfl rfl rfl rfl) ?_
          refine ol_wr rfl rfl (q_store (es' := [[iC .i64 n55, iC .u64 n56]]) 2 rfl rfl rfl sz56 rfl rfl rfl rfl rfl) rfl ?_
          refine ol_end ?_
          refine E_blkN ?_
          refine E_seq ?_
          refine L_ops ?_
          refine ol_put rfl rfl rfl (q_move (v := .one (iC .i64 n46)) rfl) ?_
          refine ol_put rfl rfl rfl (q_bin rfl rfl (p_add _ _ _ _ _ _ _) rfl) ?_
          refine ol_put rfl rfl rfl (q_assign (v := .one (iC .i64 (IntKind.i64.wrap (n46 + 1)))) rfl) ?_
          refine ol_end ?_
          obtain rfl := Option.some.inj h
          exact E_next () (ups_self ⟨rfl, rfl, rfl, rfl, trivial⟩) [1, 2] (by decide) rfl
        · replace h := ifF c58 h
          refine ol_put rfl rfl rfl (q_bin rfl rfl (p_eql_f _ _ _ _ _ c58) rfl) ?_
          refine ol_end ?_
          refine E_seq ?_
          refine L_condF rfl ?_
          refine L_ops ?_
          refine ol_put rfl rfl rfl (q_move (v := .one (iC .i64 n1)) rfl) ?_
          refine ol_put rfl rfl rfl (q_loadP (v := .agg [iC .i64 n47, iC .u64 n48]) 2 rfl sz56 rfl rfl rfl rfl) ?_
          refine ol_put rfl rfl rfl (q_loadP (v := .agg [iC .i64 n55, iC .u64 n56]) 0 rfl sz56 rfl rfl rfl rfl) ?_
          obtain ⟨⟨n60, n61⟩, h59, h⟩ := bindS h
          refine ol_put rfl rfl rfl (q_callF (v := .agg [iC .i64 n60, iC .u64 n61]) (args := [.one (iC .i64 n1), .agg [iC .i64 n47, iC .u64 n48], .agg [iC .i64 n55, iC .u64 n56]]) (ref02_Add_r (m + 0) h59) rfl rfl (vw_cons (vd_one vc_v) (vw_cons (vd_agg (vc_cons vc_v (vc_cons vc_v vc_nil))) (vw_cons (vd_agg (vc_cons vc_v (vc_cons vc_v vc_nil))) vw_nil))) rfl rfl) ?_
          refine ol_wr rfl rfl (q_store (es' := [[iC .i64 n60, iC .u64 n61]]) 2 rfl rfl rfl sz56 rfl rfl rfl rfl rfl) rfl ?_
          refine ol_end ?_
          refine E_blkN ?_
          refine E_seq ?_
          refine L_ops ?_
          refine ol_put rfl rfl rfl (q_move (v := .one (iC .i64 n46)) rfl) ?_
          refine ol_put rfl rfl rfl (q_bin rfl rfl (p_add _ _ _ _ _ _ _) rfl) ?_
          refine ol_put rfl rfl rfl (q_assign (v := .one (iC .i64 (IntKind.i64.wrap (n46 + 1)))) rfl) ?_
          refine ol_end ?_
          obtain rfl := Option.some.inj h
          exact E_next () (ups_self ⟨rfl, rfl, rfl, rfl, trivial⟩) [1, 2] (by decide) rfl
      · replace h := ifF c49 h
        refine ol_put rfl rfl rfl (q_bin rfl rfl (p_lss_f _ _ _ _ _ c49) rfl) ?_
        refine ol_end ?_
        refine E_seq ?_
        refine L_condF rfl ?_
        refine L_exit ?_
        refine E_seqX ?_
        obtain rfl := Option.some.inj h
        refine E_out ?_
        exact (E_exit () (ups_self ⟨rfl, trivial⟩) [1] (by decide) rfl)
    · rintro (⟨n62, n63⟩ | u) h
      · refine J_x (fun kt g => ?_)
        replace h := elimL h
        refine E_blkH ?_
        refine E_seq ?_
        refine L_seq ?_
        refine L_ops ?_
        refine ol_put rfl rfl rfl (q_loadP (v := .agg [iC .i64 n62, iC .u64 n63]) 0 rfl sz56 rfl rfl rfl rfl) ?_
        obtain ⟨⟨n65, b66⟩, h64, h⟩ := bindS h
        refine ol_put rfl rfl rfl (q_callF (v := .tup [.one (iC .i64 n65), .one (bC b66)]) (args := [.agg [iC .i64 n62, iC .u64 n63]]) (ref01_Narrow_r (m + 1) h64) rfl rfl (vw_cons (vd_agg (vc_cons vc_v (vc_cons vc_v vc_nil))) vw_nil) rfl rfl) ?_
        refine ol_put rfl rfl rfl (q_move (v := .tup [.one (iC .i64 n65), .one (bC b66)]) rfl) ?_
        refine ol_put rfl rfl rfl (q_ext (v := .one (iC .i64 n65)) rfl rfl) ?_
        refine ol_put rfl rfl rfl (q_ext (v := .one (bC b66)) rfl rfl) ?_
        refine ol_put rfl rfl rfl (q_assign (v := .one (iC .i64 n65)) rfl) ?_
        refine ol_put rfl rfl rfl (q_assign (v := .one (bC b66)) rfl) ?_
        refine ol_end ?_
        refine E_seq ?_
        refine L_seq ?_
        refine L_seq ?_
        refine L_ops ?_
        refine ol_put rfl rfl rfl (q_move (v := .one (bC b66)) rfl) ?_
        rcases b66 with _ | _
        · replace h := ifF (by decide) h
          refine ol_put rfl rfl rfl (q_not rfl) ?_
          refine ol_end ?_
          refine E_seq ?_
          refine L_condT rfl ?_
          refine L_seq ?_
          refine L_ops ?_
          refine ol_put rfl rfl rfl (q_assign (v := .one (iC .i64 0)) rfl) ?_
          refine ol_put rfl rfl rfl (q_assign (v := .one (iC .i64 12)) rfl) ?_
          refine ol_end ?_
          refine E_seq ?_
          refine L_ret ?_
          refine E_seqR ?_
          obtain rfl := Option.some.inj h
          exact E_endF (.inr rfl) (res_tmp rfl (res_tmp rfl res_nil)) (vw_cons (vd_one vc_v) (vw_cons (vd_one vc_v) vw_nil)) (fun h hb => own_no2) rfl rfl
        · replace h := ifT (by decide) h
          refine ol_put rfl rfl rfl (q_not rfl) ?_
          refine ol_end ?_
          refine E_seq ?_
          refine L_condF rfl ?_
          refine L_skip ?_
          refine E_seq ?_
          refine L_seq ?_
          refine L_ops ?_
          refine ol_put rfl rfl rfl (q_move (v := .one (iC .i64 n65)) rfl) ?_
          refine ol_put rfl rfl rfl (q_assign (v := .one (iC .i64 n65)) rfl) ?_
          refine ol_put rfl rfl rfl (q_assign (v := .one (iC .i64 0)) rfl) ?_
          refine ol_end ?_
          refine E_seq ?_
          refine L_ret ?_
          obtain rfl := Option.some.inj h
          exact E_endF (.inr rfl) (res_tmp rfl (res_tmp rfl res_nil)) (vw_cons (vd_one vc_v) (vw_cons (vd_one vc_v) vw_nil)) (fun h hb => own_no2) rfl rfl
      · obtain rfl := Option.some.inj (elimR h)
        exact J_up (fun s hs => hs)

noncomputable def fold_Least_b1 (s7 : Sl (Int × Int)) (a : Int × Int × Int) : Option ((Int × Int × Int) ⊕ ((Int × Int) ⊕ ((Int × Int) × Bool))) :=
  match a with
  | (n32, n33, n34) => (if n32 < ((s7.l.length : Nat) : Int) then ((atS 2 s7 n32).bind fun (n38, n39) => (if n39 < n34 then some (.inl ((IntKind.i64.wrap (n32 + 1)), n38, n39)) else some (.inl ((IntKind.i64.wrap (n32 + 1)), n33, n34)))) else some (.inr (.inl (n33, n34))))
noncomputable def fold_Least (a0 : Int × (Sl (Int × Int))) : Option ((Int × Int) × Bool) :=
  match a0 with
  | (n1, s2) => ((fold_sure (n1, s2)).bind fun (n6, s7) => (if ((s7.l.length : Nat) : Int) = 0 then some ((0, 0), false) else ((atS 2 s7 0).bind fun (n12, n13) => ((loopO (fold_Least_b1 s7) (0, n12, n13)).bind (Sum.elim (fun ⟨n42, n43⟩ => some ((n42, n43), true)) (fun u => some u))))))
theorem fold_Least_r (m : Nat) {a0 : Int × (Sl (Int × Int))} {out : (Int × Int) × Bool} (h : fold_Least a0 = some out) : RunsP E1 (m + 4) 13 [.agg (r24 a0)] (.fresh, [.agg (r33 out.1), .one (bT out.2)]) := by
  obtain ⟨n1, s2⟩ := a0
  refine fn_F rfl (by rw [E1_fn]; exact show fiOf Try.prog 13 = _ by unfold fiOf; rw [Try.func13]; unfold Try.f13; rfl) rfl ?_
  dsimp only
  unfold fold_Least at h
  refine L_seq ?_
  refine L_ops ?_
  refine ol_new rfl rfl rfl (q_box ty25 rfl (cs := [iC .i64 n1, .p false (Sl.t r33 s2)]) rfl rfl) (fun k3 => ?_)
  refine ol_new rfl rfl rfl (q_alloc ty34 (row := [iC .i64 0, iC .i64 0]) rfl rfl) (fun k4 => ?_)
  refine ol_put rfl rfl rfl (q_assign (v := .one (bC false)) rfl) ?_
  refine ol_end ?_
  refine E_seq ?_
  refine L_seq ?_
  refine L_ops ?_
  refine ol_put rfl rfl rfl (q_loadP (v := .agg [iC .i64 n1, .p false (Sl.t r33 s2)]) 1 rfl sz25 rfl rfl rfl rfl) ?_
  obtain ⟨⟨n6, s7⟩, h5, h⟩ := bindS h
  refine ol_putX rfl rfl rfl (q_callX (v := fun fr8 => .agg [iC .i64 n6, .p fr8 (Sl.t r33 s7)]) (args := [.agg [iC .i64 n1, .p false (Sl.t r33 s2)]]) (fold_sure_r (m + 0) h5) rfl rfl (vw_cons (vd_agg (vc_cons vc_v (vc_cons vc_s vc_nil))) vw_nil) rfl rfl (fun fr => rfl)) (fun fr8 => ?_)
  refine ol_put rfl rfl rfl (q_fieldV (v := .one (.p fr8 (Sl.t r33 s7))) rfl fa25_1 rfl rfl) ?_
  refine ol_put rfl rfl rfl (q_assign (v := .one (.p fr8 (Sl.t r33 s7))) rfl) ?_
  refine ol_end ?_
  refine E_seq ?_
  refine L_seq ?_
  refine L_seq ?_
  refine L_ops ?_
  refine ol_put rfl rfl rfl (q_move (v := .one (.p fr8 (Sl.t r33 s7))) rfl) ?_
  refine ol_put rfl rfl rfl (q_lenS rfl ty23 rfl rfl rfl rfl) ?_
  by_cases c9 : ((s7.l.length : Nat) : Int) = 0
  · replace h := ifT c9 h
    refine ol_put rfl rfl rfl (q_bin rfl rfl (p_eql_t _ _ _ _ _ c9) rfl) ?_
    refine ol_end ?_
    refine E_seq ?_
    refine L_condT rfl ?_
    refine L_seq ?_
    refine L_ops ?_
    refine ol_put rfl rfl rfl (q_build (cs := [iC .i64 0, iC .i64 0]) ty34 rfl pl34 rfl) ?_
    refine ol_wr rfl rfl (q_store (es' := [[iC .i64 0, iC .i64 0]]) 0 rfl rfl rfl sz34 rfl rfl rfl rfl rfl) rfl ?_
    refine ol_put rfl rfl rfl (q_assign (v := .one (bC false)) rfl) ?_
    refine ol_end ?_
    refine E_seq ?_
    refine L_ret ?_
    refine E_seqR ?_
    obtain rfl := Option.some.inj h
    exact E_endF (.inr rfl) (res_cell (d := .agg [iC .i64 0, iC .i64 0]) 0 rfl sz34 rfl rfl rfl rfl (res_tmp rfl res_nil)) (vw_cons (vd_agg (vc_cons vc_v (vc_cons vc_v vc_nil))) (vw_cons (vd_one vc_v) vw_nil)) (fun h hb => own_no2) rfl rfl
  · replace h := ifF c9 h
    refine ol_put rfl rfl rfl (q_bin rfl rfl (p_eql_f _ _ _ _ _ c9) rfl) ?_
    refine ol_end ?_
    refine E_seq ?_
    refine L_condF rfl ?_
    refine L_skip ?_
    refine E_seq ?_
    refine L_seq ?_
    refine L_ops ?_
    refine ol_put rfl rfl rfl (q_move (v := .one (.p fr8 (Sl.t r33 s7))) rfl) ?_
    obtain ⟨⟨n12, n13⟩, h11, h⟩ := bindS h
    obtain ⟨h11a, h11b, h11⟩ := atS_some h11
    refine ol_put rfl rfl rfl (q_ixS rfl rfl h11a h11 (el23.trans (congrArg some h11b.symm))) ?_
    refine ol_put rfl rfl rfl (q_loadI (v := .agg [iC .i64 n12, iC .i64 n13]) rfl sz34 (map_get h11) rfl rfl) ?_
    refine ol_new rfl rfl rfl (q_alloc ty34 (row := [iC .i64 0, iC .i64 0]) rfl rfl) (fun k14 => ?_)
    refine ol_wr rfl rfl (q_store (es' := [[iC .i64 n12, iC .i64 n13]]) 0 rfl rfl rfl sz34 rfl rfl rfl rfl rfl) rfl ?_
    refine ol_end ?_
    refine E_seq ?_
    refine L_seq ?_
    refine L_seq ?_
    refine L_ops ?_
    refine ol_put rfl rfl rfl (q_move (v := .one (.p fr8 (Sl.t r33 s7))) rfl) ?_
    refine ol_put rfl rfl rfl (q_lenS rfl ty23 rfl rfl rfl rfl) ?_
    refine ol_put rfl rfl rfl (q_move (v := .one (iC .i64 0)) rfl) ?_
    refine ol_end ?_
    refine E_seq ?_
    refine L_block ?_
    let S1 : (Int × Int × Int) → Unit → (Nat → D) → Nat → D := fun a kt g => ups g [(2, .one (.ptr k4 0 0)), (5, .one (.ptr k14 0 0)), (18, .one (.p fr8 (Sl.t r33 s7))), (19, .one (iC .i64 ((s7.l.length : Nat) : Int))), (20, .one (iC .i64 a.1))]
    let SL1 : (Int × Int × Int) → Unit → BL := fun a kt => ([[(k4, 2, [[iC .i64 0, iC .i64 0]])], [(k14, 2, [[iC .i64 a.2.1, iC .i64 a.2.2]])]] : BL)
    let Sx1 : (Int × Int) → Unit → (Nat → D) → Nat → D := fun a kt g => ups g [(2, .one (.ptr k4 0 0)), (5, .one (.ptr k14 0 0))]
    let SLx1 : (Int × Int) → Unit → BL := fun a kt => ([[(k4, 2, [[iC .i64 0, iC .i64 0]])], [(k14, 2, [[iC .i64 a.1, iC .i64 a.2]])]] : BL)
    let G1 : ((Int × Int) × Bool) → Ex → St → Prop := fun u => endQ E1 [.cell 2 34, .tmp 3] (.fresh, [.agg (r33 u.1), .one (bT u.2)])
    let J1 : ((Int × Int) ⊕ ((Int × Int) × Bool)) → Ex → St → Prop := JX 32 0 Sx1 SLx1 G1
    refine L_loopS (fold_Least_b1 s7) S1 SL1 J1 JX_n (0, n12, n13) h () (ups_self ⟨rfl, rfl, rfl, rfl, rfl, trivial⟩) [1, 0] (by decide) rfl ?_ ?_
    · rintro ⟨n32, n33, n34⟩ _ g out h
      change fold_Least_b1 s7 (n32, n33, n34) = some out at h
      unfold fold_Least_b1 at h
      refine L_seq ?_
      refine L_ops ?_
      by_cases c35 : n32 < ((s7.l.length : Nat) : Int)
      · replace h := ifT c35 h
        refine ol_put rfl rfl rfl (q_bin rfl rfl (p_lss_t _ _ _ _ _ c35) rfl) ?_
        refine ol_end ?_
        refine E_seq ?_
        refine L_seq ?_
        refine L_condT rfl ?_
        refine L_skip ?_
        refine E_seq ?_
        refine L_seq ?_
        refine L_block ?_
        refine L_seq ?_
        refine L_ops ?_
        obtain ⟨⟨n38, n39⟩, h37, h⟩ := bindS h
        obtain ⟨h37a, h37b, h37⟩ := atS_some h37
        refine ol_put rfl rfl rfl (q_ixS rfl rfl h37a h37 (el23.trans (congrArg some h37b.symm))) ?_
        refine ol_put rfl rfl rfl (q_loadI (v := .agg [iC .i64 n38, iC .i64 n39]) rfl sz34 (map_get h37) rfl rfl) ?_
        refine ol_new rfl rfl rfl (q_alloc ty34 (row := [iC .i64 0, iC .i64 0]) rfl rfl) (fun k40 => ?_)
        refine ol_wr rfl rfl (q_store (es' := [[iC .i64 n38, iC .i64 n39]]) 0 rfl rfl rfl sz34 rfl rfl rfl rfl rfl) rfl ?_
        refine ol_end ?_
        refine E_seq ?_
        refine L_seq ?_
        refine L_ops ?_
        refine ol_put rfl rfl rfl (q_fieldP rfl fa34_1 rfl) ?_
        refine ol_put rfl rfl rfl (q_loadP (v := .one (iC .i64 n39)) 0 rfl sz2 rfl rfl rfl rfl) ?_
        refine ol_put rfl rfl rfl (q_fieldP rfl fa34_1 rfl) ?_
        refine ol_put rfl rfl rfl (q_loadP (v := .one (iC .i64 n34)) 2 rfl sz2 rfl rfl rfl rfl) ?_
        by_cases c41 : n39 < n34
        · replace h := ifT c41 h
          refine ol_put rfl rfl rfl (q_bin rfl rfl (p_lss_t _ _ _ _ _ c41) rfl) ?_
          refine ol_end ?_
          refine E_seq ?_
          refine L_condT rfl ?_
          refine L_ops ?_
          refine ol_put rfl rfl rfl (q_loadP (v := .agg [iC .i64 n38, iC .i64 n39]) 0 rfl sz34 rfl rfl rfl rfl) ?_
          refine ol_wr rfl rfl (q_store (es' := [[iC .i64 n38, iC .i64 n39]]) 2 rfl rfl rfl sz34 rfl rfl rfl rfl rfl) rfl ?_
          refine ol_end ?_
          refine E_blkN ?_
          refine E_seq ?_
          refine L_ops ?_
          refine ol_put rfl rfl rfl (q_bin rfl rfl (p_add _ _ _ _ _ _ _) rfl) ?_
          refine ol_put rfl rfl rfl (q_move (v := .one (iC .i64 (IntKind.i64.wrap (n32 + 1)))) rfl) ?_
          refine ol_end ?_
          obtain rfl := Option.some.inj h
          exact E_next () (ups_self ⟨rfl, rfl, rfl, rfl, rfl, trivial⟩) [1, 2] (by decide) rfl
        · replace h := ifF c41 h
          refine ol_put rfl rfl rfl (q_bin rfl rfl (p_lss_f _ _ _ _ _ c41) rfl) ?_
          refine ol_end ?_
          refine E_seq ?_
          refine L_condF rfl ?_
          refine L_skip ?_
          refine E_blkN ?_
          refine E_seq ?_
          refine L_ops ?_
          refine ol_put rfl rfl rfl (q_bin rfl rfl (p_add _ _ _ _ _ _ _) rfl) ?_
          refine ol_put rfl rfl rfl (q_move (v := .one (iC .i64 (IntKind.i64.wrap (n32 + 1)))) rfl) ?_
          refine ol_end ?_
          obtain rfl := Option.some.inj h
          exact E_next () (ups_self ⟨rfl, rfl, rfl, rfl, rfl, trivial⟩) [1, 2] (by decide) rfl
      · replace h := ifF c35 h
        refine ol_put rfl rfl rfl (q_bin rfl rfl (p_lss_f _ _ _ _ _ c35) rfl) ?_
        refine ol_end ?_
        refine E_seq ?_
        refine L_seq ?_
        refine L_condF rfl ?_
        refine L_exit ?_
        refine E_seqX ?_
        obtain rfl := Option.some.inj h
        refine E_out ?_
        exact (E_exit () (ups_self ⟨rfl, rfl, trivial⟩) [0, 1] (by decide) rfl)
    · rintro (⟨n42, n43⟩ | u) h
      · refine J_x (fun kt g => ?_)
        replace h := elimL h
        refine E_blkH ?_
        refine E_seq ?_
        refine L_seq ?_
        refine L_ops ?_
        refine ol_put rfl rfl rfl (q_loadP (v := .agg [iC .i64 n42, iC .i64 n43]) 1 rfl sz34 rfl rfl rfl rfl) ?_
        refine ol_wr rfl rfl (q_store (es' := [[iC .i64 n42, iC .i64 n43]]) 0 rfl rfl rfl sz34 rfl rfl rfl rfl rfl) rfl ?_
        refine ol_put rfl rfl rfl (q_assign (v := .one (bC true)) rfl) ?_
        refine ol_end ?_
        refine E_seq ?_
        refine L_ret ?_
        obtain rfl := Option.some.inj h
        exact E_endF (.inr rfl) (res_cell (d := .agg [iC .i64 n42, iC .i64 n43]) 0 rfl sz34 rfl rfl rfl rfl (res_tmp rfl res_nil)) (vw_cons (vd_agg (vc_cons vc_v (vc_cons vc_v vc_nil))) (vw_cons (vd_one vc_v) vw_nil)) (fun h hb => own_no2) rfl rfl
      · obtain rfl := Option.some.inj (elimR h)
        exact J_up (fun s hs => hs)

noncomputable def ref12_Least_b1 (s7 : Sl (Int × Int)) (a : Int × Int × Int) : Option ((Int × Int × Int) ⊕ ((Int × Int) ⊕ ((Int × Int) × Bool))) :=
  match a with
  | (n43, n44, n45) => (if n43 < ((s7.l.length : Nat) : Int) then (if n43 = 0 then ((atS 2 s7 n43).bind fun (n50, n51) => some (.inl ((IntKind.i64.wrap (n43 + 1)), n50, n51))) else ((atS 2 s7 n43).bind fun (n54, n55) => (if n55 < n45 then ((atS 2 s7 n43).bind fun (n59, n60) => some (.inl ((IntKind.i64.wrap (n43 + 1)), n59, n60))) else some (.inl ((IntKind.i64.wrap (n43 + 1)), n44, n45))))) else some (.inr (.inl (n44, n45))))
noncomputable def ref12_Least (a0 : Int × (Sl (Int × Int))) : Option ((Int × Int) × Bool) :=
  match a0 with
  | (n1, s2) => ((ref09_Sure (n1, s2)).bind fun (n6, s7) => ((loopO (ref12_Least_b1 s7) (0, 0, 0)).bind (Sum.elim (fun ⟨n61, n62⟩ => (if ((s7.l.length : Nat) : Int) > 0 then some ((n61, n62), true) else some ((n61, n62), false))) (fun u => some u))))
theorem ref12_Least_r (m : Nat) {a0 : Int × (Sl (Int × Int))} {out : (Int × Int) × Bool} (h : ref12_Least a0 = some out) : RunsP E1 (m + 3) 14 [.agg (r24 a0)] (.fresh, [.agg (r33 out.1), .one (bT out.2)]) := by
  obtain ⟨n1, s2⟩ := a0
  refine fn_F rfl (by rw [E1_fn]; exact show fiOf Try.prog 14 = _ by unfold fiOf; rw [Try.func14]; unfold Try.f14; rfl) rfl ?_
  dsimp only
  unfold ref12_Least at h
  refine L_seq ?_
  refine L_ops ?_
  refine ol_new rfl rfl rfl (q_box ty25 rfl (cs := [iC .i64 n1, .p false (Sl.t r33 s2)]) rfl rfl) (fun k3 => ?_)
  refine ol_new rfl rfl rfl (q_alloc ty34 (row := [iC .i64 0, iC .i64 0]) rfl rfl) (fun k4 => ?_)
  refine ol_put rfl rfl rfl (q_assign (v := .one (bC false)) rfl) ?_
  refine ol_end ?_
  refine E_seq ?_
  refine L_seq ?_
  refine L_ops ?_
  refine ol_put rfl rfl rfl (q_loadP (v := .agg [iC .i64 n1, .p false (Sl.t r33 s2)]) 1 rfl sz25 rfl rfl rfl rfl) ?_
  obtain ⟨⟨n6, s7⟩, h5, h⟩ := bindS h
  refine ol_putX rfl rfl rfl (q_callX (v := fun fr8 => .agg [iC .i64 n6, .p fr8 (Sl.t r33 s7)]) (args := [.agg [iC .i64 n1, .p false (Sl.t r33 s2)]]) (ref09_Sure_r (m + 0) h5) rfl rfl (vw_cons (vd_agg (vc_cons vc_v (vc_cons vc_s vc_nil))) vw_nil) rfl rfl (fun fr => rfl)) (fun fr8 => ?_)
  refine ol_wr rfl rfl (q_store (es' := [[iC .i64 n6, .p fr8 (Sl.t r33 s7)]]) 1 rfl rfl rfl sz25 rfl rfl rfl rfl rfl) rfl ?_
  refine ol_end ?_
  refine E_seq ?_
  refine L_seq ?_
  refine L_ops ?_
  refine ol_new rfl rfl rfl (q_alloc ty34 (row := [iC .i64 0, iC .i64 0]) rfl rfl) (fun k9 => ?_)
  refine ol_end ?_
  refine E_seq ?_
  refine L_seq ?_
  refine L_seq ?_
  refine L_ops ?_
  refine ol_put rfl rfl rfl (q_assign (v := .one (iC .i64 0)) rfl) ?_
  refine ol_end ?_
  refine E_seq ?_
  refine L_block ?_
  let S1 : (Int × Int × Int) → Unit → (Nat → D) → Nat → D := fun a kt g => ups g [(1, .one (.ptr k3 0 0)), (2, .one (.ptr k4 0 0)), (4, .one (.ptr k9 0 0)), (5, .one (iC .i64 a.1))]
  let SL1 : (Int × Int × Int) → Unit → BL := fun a kt => ([[(k3, 2, [[iC .i64 n6, .p fr8 (Sl.t r33 s7)]])], [(k4, 2, [[iC .i64 0, iC .i64 0]])], [(k9, 2, [[iC .i64 a.2.1, iC .i64 a.2.2]])]] : BL)
  let Sx1 : (Int × Int) → Unit → (Nat → D) → Nat → D := fun a kt g => ups g [(1, .one (.ptr k3 0 0)), (2, .one (.ptr k4 0 0)), (4, .one (.ptr k9 0 0))]
  let SLx1 : (Int × Int) → Unit → BL := fun a kt => ([[(k3, 2, [[iC .i64 n6, .p fr8 (Sl.t r33 s7)]])], [(k4, 2, [[iC .i64 0, iC .i64 0]])], [(k9, 2, [[iC .i64 a.1, iC .i64 a.2]])]] : BL)
  let G1 : ((Int × Int) × Bool) → Ex → St → Prop := fun u => endQ E1 [.cell 2 34, .tmp 3] (.fresh, [.agg (r33 u.1), .one (bT u.2)])
  let J1 : ((Int × Int) ⊕ ((Int × Int) × Bool)) → Ex → St → Prop := JX 38 0 Sx1 SLx1 G1
  refine L_loopS (ref12_Least_b1 s7) S1 SL1 J1 JX_n (0, 0, 0) h () (ups_self ⟨rfl, rfl, rfl, rfl, trivial⟩) [2, 1, 0] (by decide) rfl ?_ ?_
  · rintro ⟨n43, n44, n45⟩ _ g out h
    change ref12_Least_b1 s7 (n43, n44, n45) = some out at h
    unfold ref12_Least_b1 at h
    refine L_seq ?_
    refine L_seq ?_
    refine L_ops ?_
    refine ol_put rfl rfl rfl (q_move (v := .one (iC .i64 n43)) rfl) ?_
    refine ol_put rfl rfl rfl (q_fieldP rfl fa25_1 rfl) ?_
    refine ol_put rfl rfl rfl (q_loadP (v := .one (.p fr8 (Sl.t r33 s7))) 0 rfl sz23 rfl rfl rfl rfl) ?_
    refine ol_put rfl rfl rfl (q_lenS rfl ty23 rfl rfl rfl rfl) ?_
    by_cases c46 : n43 < ((s7.l.length : Nat) : Int)
    · replace h := ifT c46 h
      refine ol_put rfl rfl rfl (q_bin rfl rfl (p_lss_t _ _ _ _ _ c46) rfl) ?_
      refine ol_end ?_
      refine E_seq ?_
      refine L_condT rfl ?_
      refine L_skip ?_
      refine E_seq ?_
      refine L_seq ?_
      refine L_block ?_
      refine L_seq ?_
      refine L_still (by kernel_rfl) ?_
      refine st_put rfl rfl rfl (q_move (v := .one (iC .i64 n43)) rfl) ?_
      by_cases c47 : n43 = 0
      · replace h := ifT c47 h
        refine st_put rfl rfl rfl (q_bin rfl rfl (p_eql_t _ _ _ _ _ c47) rfl) ?_
        refine st_put rfl rfl rfl (q_move (v := .one (bC true)) rfl) ?_
        refine st_skip rfl rfl rfl ?_
        refine st_skip rfl rfl rfl ?_
        refine st_skip rfl rfl rfl ?_
        refine st_skip rfl rfl rfl ?_
        refine st_skip rfl rfl rfl ?_
        refine st_skip rfl rfl rfl ?_
        refine st_skip rfl rfl rfl ?_
        refine st_skip rfl rfl rfl ?_
        refine st_skip rfl rfl rfl ?_
        refine st_put rfl rfl rfl (q_pickT (v := .one (bC true)) rfl rfl) ?_
        refine st_end ?_
        refine E_seq ?_
        refine L_condT rfl ?_
        refine L_ops ?_
        refine ol_put rfl rfl rfl (q_fieldP rfl fa25_1 rfl) ?_
        refine ol_put rfl rfl rfl (q_loadP (v := .one (.p fr8 (Sl.t r33 s7))) 0 rfl sz23 rfl rfl rfl rfl) ?_
        refine ol_put rfl rfl rfl (q_move (v := .one (iC .i64 n43)) rfl) ?_
        obtain ⟨⟨n50, n51⟩, h49, h⟩ := bindS h
        obtain ⟨h49a, h49b, h49⟩ := atS_some h49
        refine ol_put rfl rfl rfl (q_ixS rfl rfl h49a h49 (el23.trans (congrArg some h49b.symm))) ?_
        refine ol_put rfl rfl rfl (q_loadI (v := .agg [iC .i64 n50, iC .i64 n51]) rfl sz34 (map_get h49) rfl rfl) ?_
        refine ol_wr rfl rfl (q_store (es' := [[iC .i64 n50, iC .i64 n51]]) 2 rfl rfl rfl sz34 rfl rfl rfl rfl rfl) rfl ?_
        refine ol_end ?_
        refine E_blkN ?_
        refine E_seq ?_
        refine L_ops ?_
        refine ol_put rfl rfl rfl (q_move (v := .one (iC .i64 n43)) rfl) ?_
        refine ol_put rfl rfl rfl (q_bin rfl rfl (p_add _ _ _ _ _ _ _) rfl) ?_
        refine ol_put rfl rfl rfl (q_assign (v := .one (iC .i64 (IntKind.i64.wrap (n43 + 1)))) rfl) ?_
        refine ol_end ?_
        obtain rfl := Option.some.inj h
        exact E_next () (ups_self ⟨rfl, rfl, rfl, rfl, trivial⟩) [0, 1, 2] (by decide) rfl
      · replace h := ifF c47 h
        refine st_put rfl rfl rfl (q_bin rfl rfl (p_eql_f _ _ _ _ _ c47) rfl) ?_
        refine st_put rfl rfl rfl (q_move (v := .one (bC false)) rfl) ?_
        refine st_put rfl rfl rfl (q_fieldP rfl fa25_1 rfl) ?_
        refine st_put rfl rfl rfl (q_loadP (v := .one (.p fr8 (Sl.t r33 s7))) 0 rfl sz23 rfl rfl rfl rfl) ?_
        refine st_put rfl rfl rfl (q_move (v := .one (iC .i64 n43)) rfl) ?_
        obtain ⟨⟨n54, n55⟩, h53, h⟩ := bindS h
        obtain ⟨h53a, h53b, h53⟩ := atS_some h53
        refine st_put rfl rfl rfl (q_ixS rfl rfl h53a h53 (el23.trans (congrArg some h53b.symm))) ?_
        refine st_put rfl rfl rfl (q_fieldI rfl fa34_1 rfl) ?_
        refine st_put rfl rfl rfl (q_loadI (v := .one (iC .i64 n55)) rfl sz2 (map_get h53) rfl rfl) ?_
        refine st_put rfl rfl rfl (q_fieldP rfl fa34_1 rfl) ?_
        refine st_put rfl rfl rfl (q_loadP (v := .one (iC .i64 n45)) 2 rfl sz2 rfl rfl rfl rfl) ?_
        by_cases c56 : n55 < n45
        · replace h := ifT c56 h
          refine st_put rfl rfl rfl (q_bin rfl rfl (p_lss_t _ _ _ _ _ c56) rfl) ?_
          refine st_put rfl rfl rfl (q_pickF (v := .one (bC true)) rfl rfl) ?_
          refine st_end ?_
          refine E_seq ?_
          refine L_condT rfl ?_
          refine L_ops ?_
          refine ol_put rfl rfl rfl (q_fieldP rfl fa25_1 rfl) ?_
          refine ol_put rfl rfl rfl (q_loadP (v := .one (.p fr8 (Sl.t r33 s7))) 0 rfl sz23 rfl rfl rfl rfl) ?_
          refine ol_put rfl rfl rfl (q_move (v := .one (iC .i64 n43)) rfl) ?_
          obtain ⟨⟨n59, n60⟩, h58, h⟩ := bindS h
          obtain ⟨h58a, h58b, h58⟩ := atS_some h58
          refine ol_put rfl rfl rfl (q_ixS rfl rfl h58a h58 (el23.trans (congrArg some h58b.symm))) ?_
          refine ol_put rfl rfl rfl (q_loadI (v := .agg [iC .i64 n59, iC .i64 n60]) rfl sz34 (map_get h58) rfl rfl) ?_
          refine ol_wr rfl rfl (q_store (es' := [[iC .i64 n59, iC .i64 n60]]) 2 rfl rfl rfl sz34 rfl rfl rfl rfl rfl) rfl ?_
          refine ol_end ?_
          refine E_blkN ?_
          refine E_seq ?_
          refine L_ops ?_
          refine ol_put rfl rfl rfl (q_move (v := .one (iC .i64 n43)) rfl) ?_
          refine ol_put rfl rfl rfl (q_bin rfl rfl (p_add _ _ _ _ _ _ _) rfl) ?_
          refine ol_put rfl rfl rfl (q_assign (v := .one (iC .i64 (IntKind.i64.wrap (n43 + 1)))) rfl) ?_
          refine ol_end ?_
          obtain rfl := Option.some.inj h
          exact E_next () (ups_self ⟨rfl, rfl, rfl, rfl, trivial⟩) [0, 1, 2] (by decide) rfl
        · replace h := ifF c56 h
          refine st_put rfl rfl rfl (q_bin rfl rfl (p_lss_f _ _ _ _ _ c56) rfl) ?_
          refine st_put rfl rfl rfl (q_pickF (v := .one (bC false)) rfl rfl) ?_
          refine st_end ?_
          refine E_seq ?_
          refine L_condF rfl ?_
          refine L_skip ?_
          refine E_blkN ?_
          refine E_seq ?_
          refine L_ops ?_
          refine ol_put rfl rfl rfl (q_move (v := .one (iC .i64 n43)) rfl) ?_
          refine ol_put rfl rfl rfl (q_bin rfl rfl (p_add _ _ _ _ _ _ _) rfl) ?_
          refine ol_put rfl rfl rfl (q_assign (v := .one (iC .i64 (IntKind.i64.wrap (n43 + 1)))) rfl) ?_
          refine ol_end ?_
          obtain rfl := Option.some.inj h
          exact E_next () (ups_self ⟨rfl, rfl, rfl, rfl, trivial⟩) [0, 1, 2] (by decide) rfl
    · replace h := ifF c46 h
      refine ol_put rfl rfl rfl (q_bin rfl rfl (p_lss_f _ _ _ _ _ c46) rfl) ?_
      refine ol_end ?_
      refine E_seq ?_
      refine L_condF rfl ?_
      refine L_exit ?_
      refine E_seqX ?_
      obtain rfl := Option.some.inj h
      refine E_out ?_
      exact (E_exit () (ups_self ⟨rfl, rfl, rfl, trivial⟩) [0, 1, 2] (by decide) rfl)
  · rintro (⟨n61, n62⟩ | u) h
    · refine J_x (fun kt g => ?_)
      replace h := elimL h
      refine E_blkH ?_
      refine E_seq ?_
      refine L_seq ?_
      refine L_norm (L2 := ([[(k3, 2, [[iC .i64 n6, .p fr8 (Sl.t r33 s7)]])], [(k4, 2, [[iC .i64 0, iC .i64 0]])], [(k9, 2, [[iC .i64 n61, iC .i64 n62]])]] : BL)) [0, 1, 2] (by decide) rfl ?_
      refine L_turn 7 rfl [[], [], [], [], [], [k4], []] [(false, []), (false, []), (false, []), (false, []), (false, []), (false, []), (false, [])] [[1, 2, 3, 4], [0, 5], [0, 5], [0, 5], [0, 5], [1, 2, 3, 4], []] (by kernel_rfl) (by kernel_rfl) (by kernel_rfl) ?_ (fun bb63 hlt hnd => ?_)
      · intro bb63 hlt hnd
        have e_k3 : k3 < bb63 := key_lt hlt 0 rfl
        have e_k4 : k4 < bb63 := key_lt hlt 1 rfl
        have e_k9 : k9 < bb63 := key_lt hlt 2 rfl
        have d_k4_k3 : k4 ≠ k3 := key_ne hnd 1 0 rfl rfl rfl
        have d_k4_k9 : k4 ≠ k9 := key_ne hnd 1 2 rfl rfl rfl
        exact ⟨(by first | (simp; done) | (simp; omega) | (simp; assumption) | (simp_all; done) | (simp_all; omega)), (by first | (simp; done) | (simp; omega) | (simp; assumption) | (simp_all; done) | (simp_all; omega))⟩
      have e_k3 : k3 < bb63 := key_lt hlt 0 rfl
      have e_k4 : k4 < bb63 := key_lt hlt 1 rfl
      have e_k9 : k9 < bb63 := key_lt hlt 2 rfl
      have d_k4_k3 : k4 ≠ k3 := key_ne hnd 1 0 rfl rfl rfl
      have d_k4_k9 : k4 ≠ k9 := key_ne hnd 1 2 rfl rfl rfl
      clear hlt hnd
      refine tn_put rfl rfl rfl [2] (by decide) rfl (hm0 rfl) rfl (q_loadP (v := .agg [iC .i64 n61, iC .i64 n62]) 0 rfl sz34 rfl rfl rfl rfl) ?_
      refine tn_put rfl rfl rfl [] (by decide) rfl hmn rfl (q_fieldP rfl fa25_1 rfl) ?_
      refine tn_put rfl rfl rfl [0] (by decide) rfl (hmc (by first | (simp [turnsOf]; done) | (simp [turnsOf]; omega) | (simp [turnsOf]; assumption) | (simp_all [turnsOf]; done) | (simp_all [turnsOf]; omega)) hmn) rfl (q_loadP (v := .one (.p fr8 (Sl.t r33 s7))) 0 rfl sz23 rfl rfl rfl rfl) ?_
      refine tn_put rfl rfl rfl [] (by decide) rfl hmn rfl (q_lenS rfl ty23 rfl rfl rfl rfl) ?_
      by_cases c65 : ((s7.l.length : Nat) : Int) > 0
      · replace h := ifT c65 h
        refine tn_put rfl rfl rfl [] (by decide) rfl hmn rfl (q_bin rfl rfl (p_gtr_t _ _ _ _ _ c65) rfl) ?_
        refine tn_wr rfl rfl [1] (by decide) rfl (hm0 rfl) rfl (q_store (es' := [[iC .i64 n61, iC .i64 n62]]) 0 rfl rfl rfl sz34 rfl rfl rfl rfl rfl) (q := 1) rfl rfl ?_
        refine tn_put rfl rfl rfl [] (by decide) rfl (hm0 rfl) rfl (q_assign (v := .one (bC true)) rfl) ?_
        refine tn_end ?_
        refine E_seq ?_
        refine L_ret ?_
        obtain rfl := Option.some.inj h
        exact E_endF (.inr rfl) (res_cell (d := .agg [iC .i64 n61, iC .i64 n62]) 1 rfl sz34 rfl rfl rfl rfl (res_tmp rfl res_nil)) (vw_cons (vd_agg (vc_cons vc_v (vc_cons vc_v vc_nil))) (vw_cons (vd_one vc_v) vw_nil)) (fun h hb => own_no2) rfl rfl
      · replace h := ifF c65 h
        refine tn_put rfl rfl rfl [] (by decide) rfl hmn rfl (q_bin rfl rfl (p_gtr_f _ _ _ _ _ c65) rfl) ?_
        refine tn_wr rfl rfl [1] (by decide) rfl (hm0 rfl) rfl (q_store (es' := [[iC .i64 n61, iC .i64 n62]]) 0 rfl rfl rfl sz34 rfl rfl rfl rfl rfl) (q := 1) rfl rfl ?_
        refine tn_put rfl rfl rfl [] (by decide) rfl (hm0 rfl) rfl (q_assign (v := .one (bC false)) rfl) ?_
        refine tn_end ?_
        refine E_seq ?_
        refine L_ret ?_
        obtain rfl := Option.some.inj h
        exact E_endF (.inr rfl) (res_cell (d := .agg [iC .i64 n61, iC .i64 n62]) 1 rfl sz34 rfl rfl rfl rfl (res_tmp rfl res_nil)) (vw_cons (vd_agg (vc_cons vc_v (vc_cons vc_v vc_nil))) (vw_cons (vd_one vc_v) vw_nil)) (fun h hb => own_no2) rfl rfl
    · obtain rfl := Option.some.inj (elimR h)
      exact J_up (fun s hs => hs)

noncomputable def fold_Holds (n1 : Int) (n2 : Int) (n3 : Int) : Option (Bool) :=
  (if n1 = 2 then (if n3 < n2 then some true else some false) else (if n1 = 1 then (if n2 < n3 then some true else some false) else (if n1 = 3 then (if n2 = n3 then (if n1 = 3 then some true else some false) else (if n1 = 3 then some false else some true)) else (if n1 = 4 then (if n2 = n3 then (if n1 = 3 then some true else some false) else (if n1 = 3 then some false else some true)) else some false))))
theorem fold_Holds_r (m : Nat) {n1 : Int} {n2 : Int} {n3 : Int} {out : Bool} (h : fold_Holds n1 n2 n3 = some out) : RunsP E1 (m + 1) 16 [.one (iT .i64 n1), .one (iT .i64 n2), .one (iT .i64 n3)] (.fresh, [.one (bT out)]) := by
  refine fn_F rfl (by rw [E1_fn]; exact show fiOf Try.prog 16 = _ by unfold fiOf; rw [Try.func16]; unfold Try.f16; rfl) rfl ?_
  dsimp only
  unfold fold_Holds at h
  refine L_seq ?_
  refine L_ops ?_
  refine ol_put rfl rfl rfl (q_assign (v := .one (bC false)) rfl) ?_
  refine ol_end ?_
  refine E_seq ?_
  refine L_seq ?_
  refine L_seq ?_
  refine L_ops ?_
  refine ol_put rfl rfl rfl (q_move (v := .one (iC .i64 n1)) rfl) ?_
  refine ol_end ?_
  refine E_seq ?_
  refine L_block ?_
  refine L_seq ?_
  refine L_block ?_
  refine L_seq ?_
  refine L_block ?_
  refine L_seq ?_
  refine L_block ?_
  refine L_seq ?_
  refine L_seq ?_
  refine L_seq ?_
  refine L_ops ?_
  by_cases c4 : n1 = 2
  · replace h := ifT c4 h
    refine ol_put rfl rfl rfl (q_bin rfl rfl (p_eql_t _ _ _ _ _ c4) rfl) ?_
    refine ol_put rfl rfl rfl (q_assign (v := .one (bC true)) rfl) ?_
    refine ol_end ?_
    refine E_seq ?_
    refine L_condT rfl ?_
    refine L_exit ?_
    refine E_seqX ?_
    refine E_seqX ?_
    refine E_blkH ?_
    refine E_seq ?_
    refine L_ops ?_
    refine ol_put rfl rfl rfl (q_move (v := .one (iC .i64 n3)) rfl) ?_
    refine ol_put rfl rfl rfl (q_move (v := .one (iC .i64 n2)) rfl) ?_
    refine ol_put rfl rfl rfl (q_assign (v := .one (iC .i64 n3)) rfl) ?_
    refine ol_put rfl rfl rfl (q_assign (v := .one (iC .i64 n2)) rfl) ?_
    refine ol_end ?_
    refine E_blkN ?_
    refine E_seq ?_
    refine L_seq ?_
    refine L_seq ?_
    refine L_ops ?_
    refine ol_put rfl rfl rfl (q_move (v := .one (iC .i64 n3)) rfl) ?_
    refine ol_put rfl rfl rfl (q_move (v := .one (iC .i64 n2)) rfl) ?_
    by_cases c5 : n3 < n2
    · replace h := ifT c5 h
      refine ol_put rfl rfl rfl (q_bin rfl rfl (p_lss_t _ _ _ _ _ c5) rfl) ?_
      refine ol_put rfl rfl rfl (q_assign (v := .one (bC true)) rfl) ?_
      refine ol_end ?_
      refine E_seq ?_
      refine L_ret ?_
      refine E_seqR ?_
      refine E_blkR ?_
      refine E_seqR ?_
      refine E_blkR ?_
      refine E_seqR ?_
      obtain rfl := Option.some.inj h
      exact E_endF (.inr rfl) (res_tmp rfl res_nil) (vw_cons (vd_one vc_v) vw_nil) (fun h hb => own_p) rfl rfl
    · replace h := ifF c5 h
      refine ol_put rfl rfl rfl (q_bin rfl rfl (p_lss_f _ _ _ _ _ c5) rfl) ?_
      refine ol_put rfl rfl rfl (q_assign (v := .one (bC false)) rfl) ?_
      refine ol_end ?_
      refine E_seq ?_
      refine L_ret ?_
      refine E_seqR ?_
      refine E_blkR ?_
      refine E_seqR ?_
      refine E_blkR ?_
      refine E_seqR ?_
      obtain rfl := Option.some.inj h
      exact E_endF (.inr rfl) (res_tmp rfl res_nil) (vw_cons (vd_one vc_v) vw_nil) (fun h hb => own_p) rfl rfl
  · replace h := ifF c4 h
    refine ol_put rfl rfl rfl (q_bin rfl rfl (p_eql_f _ _ _ _ _ c4) rfl) ?_
    refine ol_put rfl rfl rfl (q_assign (v := .one (bC false)) rfl) ?_
    refine ol_end ?_
    refine E_seq ?_
    refine L_condF rfl ?_
    refine L_skip ?_
    refine E_seq ?_
    refine L_seq ?_
    refine L_seq ?_
    refine L_ops ?_
    by_cases c6 : n1 = 1
    · replace h := ifT c6 h
      refine ol_put rfl rfl rfl (q_bin rfl rfl (p_eql_t _ _ _ _ _ c6) rfl) ?_
      refine ol_put rfl rfl rfl (q_assign (v := .one (bC true)) rfl) ?_
      refine ol_end ?_
      refine E_seq ?_
      refine L_condT rfl ?_
      refine L_exit ?_
      refine E_seqX ?_
      refine E_seqX ?_
      refine E_blkX rfl ?_
      refine E_seqX ?_
      refine E_blkH ?_
      refine E_seq ?_
      refine L_seq ?_
      refine L_seq ?_
      refine L_ops ?_
      refine ol_put rfl rfl rfl (q_move (v := .one (iC .i64 n2)) rfl) ?_
      refine ol_put rfl rfl rfl (q_move (v := .one (iC .i64 n3)) rfl) ?_
      by_cases c7 : n2 < n3
      · replace h := ifT c7 h
        refine ol_put rfl rfl rfl (q_bin rfl rfl (p_lss_t _ _ _ _ _ c7) rfl) ?_
        refine ol_put rfl rfl rfl (q_assign (v := .one (bC true)) rfl) ?_
        refine ol_end ?_
        refine E_seq ?_
        refine L_ret ?_
        refine E_seqR ?_
        refine E_blkR ?_
        refine E_seqR ?_
        refine E_blkR ?_
        refine E_seqR ?_
        obtain rfl := Option.some.inj h
        exact E_endF (.inr rfl) (res_tmp rfl res_nil) (vw_cons (vd_one vc_v) vw_nil) (fun h hb => own_p) rfl rfl
      · replace h := ifF c7 h
        refine ol_put rfl rfl rfl (q_bin rfl rfl (p_lss_f _ _ _ _ _ c7) rfl) ?_
        refine ol_put rfl rfl rfl (q_assign (v := .one (bC false)) rfl) ?_
        refine ol_end ?_
        refine E_seq ?_
        refine L_ret ?_
        refine E_seqR ?_
        refine E_blkR ?_
        refine E_seqR ?_
        refine E_blkR ?_
        refine E_seqR ?_
        obtain rfl := Option.some.inj h
        exact E_endF (.inr rfl) (res_tmp rfl res_nil) (vw_cons (vd_one vc_v) vw_nil) (fun h hb => own_p) rfl rfl
    · replace h := ifF c6 h
      refine ol_put rfl rfl rfl (q_bin rfl rfl (p_eql_f _ _ _ _ _ c6) rfl) ?_
      refine ol_put rfl rfl rfl (q_assign (v := .one (bC false)) rfl) ?_
      refine ol_end ?_
      refine E_seq ?_
      refine L_condF rfl ?_
      refine L_skip ?_
      refine E_seq ?_
      refine L_seq ?_
      refine L_seq ?_
      refine L_ops ?_
      by_cases c8 : n1 = 3
      · replace h := ifT c8 h
        refine ol_put rfl rfl rfl (q_bin rfl rfl (p_eql_t _ _ _ _ _ c8) rfl) ?_
        refine ol_put rfl rfl rfl (q_assign (v := .one (bC true)) rfl) ?_
        refine ol_end ?_
        refine E_seq ?_
        refine L_condT rfl ?_
        refine L_skip ?_
        refine E_seq ?_
        refine L_condT rfl ?_
        refine L_exit ?_
        refine E_seqX ?_
        refine E_blkX rfl ?_
        refine E_seqX ?_
        refine E_blkX rfl ?_
        refine E_seqX ?_
        refine E_blkH ?_
        refine E_seq ?_
        refine L_seq ?_
        refine L_seq ?_
        refine L_ops ?_
        refine ol_put rfl rfl rfl (q_move (v := .one (iC .i64 n2)) rfl) ?_
        refine ol_put rfl rfl rfl (q_move (v := .one (iC .i64 n3)) rfl) ?_
        by_cases c9 : n2 = n3
        · replace h := ifT c9 h
          refine ol_put rfl rfl rfl (q_bin rfl rfl (p_eql_t _ _ _ _ _ c9) rfl) ?_
          refine ol_put rfl rfl rfl (q_move (v := .one (iC .i64 n1)) rfl) ?_
          by_cases c10 : n1 = 3
          · replace h := ifT c10 h
            refine ol_put rfl rfl rfl (q_bin rfl rfl (p_eql_t _ _ _ _ _ c10) rfl) ?_
            refine ol_put rfl rfl rfl (q_binB rfl rfl (eqeqlB4 _ _ _ _) rfl) ?_
            refine ol_put rfl rfl rfl (q_assign (v := .one (bC true)) rfl) ?_
            refine ol_end ?_
            refine E_seq ?_
            refine L_ret ?_
            refine E_seqR ?_
            refine E_blkR ?_
            refine E_seqR ?_
            obtain rfl := Option.some.inj h
            exact E_endF (.inr rfl) (res_tmp rfl res_nil) (vw_cons (vd_one vc_v) vw_nil) (fun h hb => own_p) rfl rfl
          · replace h := ifF c10 h
            refine ol_put rfl rfl rfl (q_bin rfl rfl (p_eql_f _ _ _ _ _ c10) rfl) ?_
            refine ol_put rfl rfl rfl (q_binB rfl rfl (eqeqlB4 _ _ _ _) rfl) ?_
            refine ol_put rfl rfl rfl (q_assign (v := .one (bC false)) rfl) ?_
            refine ol_end ?_
            refine E_seq ?_
            refine L_ret ?_
            refine E_seqR ?_
            refine E_blkR ?_
            refine E_seqR ?_
            obtain rfl := Option.some.inj h
            exact E_endF (.inr rfl) (res_tmp rfl res_nil) (vw_cons (vd_one vc_v) vw_nil) (fun h hb => own_p) rfl rfl
        · replace h := ifF c9 h
          refine ol_put rfl rfl rfl (q_bin rfl rfl (p_eql_f _ _ _ _ _ c9) rfl) ?_
          refine ol_put rfl rfl rfl (q_move (v := .one (iC .i64 n1)) rfl) ?_
          by_cases c11 : n1 = 3
          · replace h := ifT c11 h
            refine ol_put rfl rfl rfl (q_bin rfl rfl (p_eql_t _ _ _ _ _ c11) rfl) ?_
            refine ol_put rfl rfl rfl (q_binB rfl rfl (eqeqlB4 _ _ _ _) rfl) ?_
            refine ol_put rfl rfl rfl (q_assign (v := .one (bC false)) rfl) ?_
            refine ol_end ?_
            refine E_seq ?_
            refine L_ret ?_
            refine E_seqR ?_
            refine E_blkR ?_
            refine E_seqR ?_
            obtain rfl := Option.some.inj h
            exact E_endF (.inr rfl) (res_tmp rfl res_nil) (vw_cons (vd_one vc_v) vw_nil) (fun h hb => own_p) rfl rfl
          · replace h := ifF c11 h
            refine ol_put rfl rfl rfl (q_bin rfl rfl (p_eql_f _ _ _ _ _ c11) rfl) ?_
            refine ol_put rfl rfl rfl (q_binB rfl rfl (eqeqlB4 _ _ _ _) rfl) ?_
            refine ol_put rfl rfl rfl (q_assign (v := .one (bC true)) rfl) ?_
            refine ol_end ?_
            refine E_seq ?_
            refine L_ret ?_
            refine E_seqR ?_
            refine E_blkR ?_
            refine E_seqR ?_
            obtain rfl := Option.some.inj h
            exact E_endF (.inr rfl) (res_tmp rfl res_nil) (vw_cons (vd_one vc_v) vw_nil) (fun h hb => own_p) rfl rfl
      · replace h := ifF c8 h
        refine ol_put rfl rfl rfl (q_bin rfl rfl (p_eql_f _ _ _ _ _ c8) rfl) ?_
        refine ol_put rfl rfl rfl (q_assign (v := .one (bC false)) rfl) ?_
        refine ol_end ?_
        refine E_seq ?_
        refine L_condF rfl ?_
        refine L_ops ?_
        by_cases c12 : n1 = 4
        · replace h := ifT c12 h
          refine ol_put rfl rfl rfl (q_bin rfl rfl (p_eql_t _ _ _ _ _ c12) rfl) ?_
          refine ol_put rfl rfl rfl (q_assign (v := .one (bC true)) rfl) ?_
          refine ol_end ?_
          refine E_seq ?_
          refine L_condT rfl ?_
          refine L_exit ?_
          refine E_seqX ?_
          refine E_blkX rfl ?_
          refine E_seqX ?_
          refine E_blkX rfl ?_
          refine E_seqX ?_
          refine E_blkH ?_
          refine E_seq ?_
          refine L_seq ?_
          refine L_seq ?_
          refine L_ops ?_
          refine ol_put rfl rfl rfl (q_move (v := .one (iC .i64 n2)) rfl) ?_
          refine ol_put rfl rfl rfl (q_move (v := .one (iC .i64 n3)) rfl) ?_
          by_cases c13 : n2 = n3
          · replace h := ifT c13 h
            refine ol_put rfl rfl rfl (q_bin rfl rfl (p_eql_t _ _ _ _ _ c13) rfl) ?_
            refine ol_put rfl rfl rfl (q_move (v := .one (iC .i64 n1)) rfl) ?_
            by_cases c14 : n1 = 3
            · replace h := ifT c14 h
              refine ol_put rfl rfl rfl (q_bin rfl rfl (p_eql_t _ _ _ _ _ c14) rfl) ?_
              refine ol_put rfl rfl rfl (q_binB rfl rfl (eqeqlB4 _ _ _ _) rfl) ?_
              refine ol_put rfl rfl rfl (q_assign (v := .one (bC true)) rfl) ?_
              refine ol_end ?_
              refine E_seq ?_
              refine L_ret ?_
              refine E_seqR ?_
              refine E_blkR ?_
              refine E_seqR ?_
              obtain rfl := Option.some.inj h
              exact E_endF (.inr rfl) (res_tmp rfl res_nil) (vw_cons (vd_one vc_v) vw_nil) (fun h hb => own_p) rfl rfl
            · replace h := ifF c14 h
              refine ol_put rfl rfl rfl (q_bin rfl rfl (p_eql_f _ _ _ _ _ c14) rfl) ?_
              refine ol_put rfl rfl rfl (q_binB rfl rfl (eqeqlB4 _ _ _ _) rfl) ?_
              refine ol_put rfl rfl rfl (q_assign (v := .one (bC false)) rfl) ?_
              refine ol_end ?_
              refine E_seq ?_
              refine L_ret ?_
              refine E_seqR ?_
              refine E_blkR ?_
              refine E_seqR ?_
              obtain rfl := Option.some.inj h
              exact E_endF (.inr rfl) (res_tmp rfl res_nil) (vw_cons (vd_one vc_v) vw_nil) (fun h hb => own_p) rfl rfl
          · replace h := ifF c13 h
            refine ol_put rfl rfl rfl (q_bin rfl rfl (p_eql_f _ _ _ _ _ c13) rfl) ?_
            refine ol_put rfl rfl rfl (q_move (v := .one (iC .i64 n1)) rfl) ?_
            by_cases c15 : n1 = 3
            · replace h := ifT c15 h
              refine ol_put rfl rfl rfl (q_bin rfl rfl (p_eql_t _ _ _ _ _ c15) rfl) ?_
              refine ol_put rfl rfl rfl (q_binB rfl rfl (eqeqlB4 _ _ _ _) rfl) ?_
              refine ol_put rfl rfl rfl (q_assign (v := .one (bC false)) rfl) ?_
              refine ol_end ?_
              refine E_seq ?_
              refine L_ret ?_
              refine E_seqR ?_
              refine E_blkR ?_
              refine E_seqR ?_
              obtain rfl := Option.some.inj h
              exact E_endF (.inr rfl) (res_tmp rfl res_nil) (vw_cons (vd_one vc_v) vw_nil) (fun h hb => own_p) rfl rfl
            · replace h := ifF c15 h
              refine ol_put rfl rfl rfl (q_bin rfl rfl (p_eql_f _ _ _ _ _ c15) rfl) ?_
              refine ol_put rfl rfl rfl (q_binB rfl rfl (eqeqlB4 _ _ _ _) rfl) ?_
              refine ol_put rfl rfl rfl (q_assign (v := .one (bC true)) rfl) ?_
              refine ol_end ?_
              refine E_seq ?_
              refine L_ret ?_
              refine E_seqR ?_
              refine E_blkR ?_
              refine E_seqR ?_
              obtain rfl := Option.some.inj h
              exact E_endF (.inr rfl) (res_tmp rfl res_nil) (vw_cons (vd_one vc_v) vw_nil) (fun h hb => own_p) rfl rfl
        · replace h := ifF c12 h
          refine ol_put rfl rfl rfl (q_bin rfl rfl (p_eql_f _ _ _ _ _ c12) rfl) ?_
          refine ol_put rfl rfl rfl (q_assign (v := .one (bC false)) rfl) ?_
          refine ol_end ?_
          refine E_seq ?_
          refine L_condF rfl ?_
          refine L_skip ?_
          refine E_seq ?_
          refine L_exit ?_
          refine E_blkX rfl ?_
          refine E_seqX ?_
          refine E_blkX rfl ?_
          refine E_seqX ?_
          refine E_blkX rfl ?_
          refine E_seqX ?_
          refine E_blkH ?_
          refine E_seq ?_
          refine L_seq ?_
          refine L_ops ?_
          refine ol_put rfl rfl rfl (q_assign (v := .one (bC false)) rfl) ?_
          refine ol_end ?_
          refine E_seq ?_
          refine L_ret ?_
          obtain rfl := Option.some.inj h
          exact E_endF (.inr rfl) (res_tmp rfl res_nil) (vw_cons (vd_one vc_v) vw_nil) (fun h hb => own_p) rfl rfl
end Ev
end Go.Proofs.Ytioagbejilllfaa
