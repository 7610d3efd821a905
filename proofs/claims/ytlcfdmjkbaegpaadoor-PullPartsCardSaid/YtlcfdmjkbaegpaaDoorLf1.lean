/- Functions of the program as functions on data, and that they are. -/
import Derived.Test.YtlcfdmjkbaegpaaDoorEvZ
import Derived.Test.YtlcfdmjkbaegpaaDoorLy1
import Derived.Test.YtlcfdmjkbaegpaaDoorLy2
namespace Go.Proofs.YtlcfdmjkbaegpaaDoor
namespace Ev
open Go
set_option linter.unusedVariables false
set_option linter.unusedSimpArgs false
set_option maxRecDepth 100000
set_option maxHeartbeats 1000000
attribute [local irreducible] OpsL StL TnL WpL EndL
noncomputable def ref02_Is (n1 : Int) : Option (Bool) :=
 (if n1 ≥ 1 then (if n1 ≤ 5 then some true else some false) else some false)
theorem ref02_Is_r (m : Nat) {n1 : Int} {out : Bool} (h : ref02_Is n1 = some out) : RunsP E1 (m + 1) 44 [.one (iT .i64 n1)] (.fresh, [.one (bT out)]) := by
 refine fn_F rfl (by rw [E1_fn]; exact show fiOf Tryd.prog 44 = _ by unfold fiOf; rw [Tryd.func44]; unfold Tryd.f44; rfl) rfl ?_
 dsimp only
 unfold ref02_Is at h
 refine lS (lO ?_)
 refine pq (qa bf) ?_
 refine oN ?_
 refine pq (qm (iO n1)) ?_
 by_cases c2 : n1 ≥ 1
 replace h := ifT c2 h
 refine pq (qb (p_geq_tZ c2)) ?_
 refine pq (qm bt) ?_
 refine pq (qm (iO n1)) ?_
 by_cases c3 : n1 ≤ 5
 replace h := ifT c3 h
 refine pq (qb (p_leq_tZ c3)) ?_
 refine pq (qpt bt) ?_
 refine pq (qa bt) ?_
 refine oE (eS (lR ?_))
 obtain rfl := sj h
 exact eF1
 replace h := ifF c3 h
 refine pq (qb (p_leq_fZ c3)) ?_
 refine pq (qpt bf) ?_
 refine pq (qa bf) ?_
 refine oE (eS (lR ?_))
 obtain rfl := sj h
 exact eF1
 replace h := ifF c2 h
 refine pq (qb (p_geq_fZ c2)) ?_
 refine pq (qm bf) ?_
 iterate 2 refine os ?_
 refine pq (qpf bf) ?_
 refine pq (qa bf) ?_
 refine oE (eS (lR ?_))
 obtain rfl := sj h
 exact eF1
noncomputable def ref01_Of (n1 : Int) : Option ((Int × Int)) :=
 (if n1 < 0 then some ((-1), (IntKind.u64.wrap n1)) else some (0, (IntKind.u64.wrap n1)))
theorem ref01_Of_r (m : Nat) {n1 : Int} {out : (Int × Int)} (h : ref01_Of n1 = some out) : RunsP E1 (m + 1) 55 [.one (iT .i64 n1)] (.fresh, [.agg (r61 out)]) := by
 refine fn_F rfl (by rw [E1_fn]; exact show fiOf Tryd.prog 55 = _ by unfold fiOf; rw [Tryd.func55]; unfold Tryd.f55; rfl) rfl ?_
 dsimp only
 unfold ref01_Of at h
 refine lS (lO ?_)
 refine ol_new rfl rfl rfl (q_alloc ty62 (row := [iI 0, uI 0]) rfl rfl) (fun k2 => ?_)
 refine oE (eS (lS (lS (lO ?_))))
 refine pq (qm (iO n1)) ?_
 by_cases c3 : n1 < 0
 replace h := ifT c3 h
 refine pq (qb (p_lss_tZ c3)) ?_
 refine oE (eS (cT rfl (lS (lO ?_))))
 refine pq (qm (iO n1)) ?_
 refine pq (q_conv rfl (cv2_60_i64 _) rfl) ?_
 refine pq (q_build (cs := [iI (-1), uI (IntKind.u64.wrap n1)]) ty62 rfl pl62 rfl) ?_
 refine ow [[iI (-1), uI (IntKind.u64.wrap n1)]] 0 sz62 ?_
 refine oE (eS (lR (eR ?_)))
 obtain rfl := sj h
 exact E_endF (.inr rfl) (res_cell (d := .agg [iI (-1), uI (IntKind.u64.wrap n1)]) 0 rfl sz62 rfl rfl rfl rfl res_nil) (vw_cons (vd_agg (vc_cons vc_v (vc_cons vc_v vc_nil))) vw_nil) oG rfl rfl
 replace h := ifF c3 h
 refine pq (qb (p_lss_fZ c3)) ?_
 refine oE (eS (cF rfl (lK (eS (lS (lO ?_))))))
 refine pq (qm (iO n1)) ?_
 refine pq (q_conv rfl (cv2_60_i64 _) rfl) ?_
 refine pq (q_build (cs := [iI 0, uI (IntKind.u64.wrap n1)]) ty62 rfl pl62 rfl) ?_
 refine ow [[iI 0, uI (IntKind.u64.wrap n1)]] 0 sz62 ?_
 refine oE (eS (lR ?_))
 obtain rfl := sj h
 exact E_endF (.inr rfl) (res_cell (d := .agg [iI 0, uI (IntKind.u64.wrap n1)]) 0 rfl sz62 rfl rfl rfl rfl res_nil) (vw_cons (vd_agg (vc_cons vc_v (vc_cons vc_v vc_nil))) vw_nil) oG rfl rfl
noncomputable def ref01_Compare (a0 : Int × Int) (a1 : Int × Int) : Option (Int) :=
 match a0, a1 with
 | (n1, n2), (n3, n4) => (if n1 < n3 then some (-1) else (if n1 = n3 then (if n2 < n4 then some (-1) else (if n1 = n3 ∧ n2 = n4 then some 0 else some 1)) else (if n1 = n3 ∧ n2 = n4 then some 0 else some 1)))
theorem ref01_Compare_r (m : Nat) {a0 : Int × Int} {a1 : Int × Int} {out : Int} (h : ref01_Compare a0 a1 = some out) : RunsP E1 (m + 1) 78 [.agg (r61 a0), .agg (r61 a1)] (.fresh, [.one (iT .i64 out)]) := by
 obtain ⟨n1, n2⟩ := a0
 obtain ⟨n3, n4⟩ := a1
 refine fn_F rfl (by rw [E1_fn]; exact show fiOf Tryd.prog 78 = _ by unfold fiOf; rw [Tryd.func78]; unfold Tryd.f78; rfl) rfl ?_
 dsimp only
 unfold ref01_Compare at h
 refine lS (lO ?_)
 refine ol_new rfl rfl rfl (q_box ty62 rfl (cs := [iI n1, uI n2]) rfl rfl) (fun k5 => ?_)
 refine ol_new rfl rfl rfl (q_box ty62 rfl (cs := [iI n3, uI n4]) rfl rfl) (fun k6 => ?_)
 refine pq (qa (iO 0)) ?_
 refine oE (eS (lS (lS (lO ?_))))
 refine pq (q_fieldP rfl fa62_0 rfl) ?_
 refine pq (ql (iO n1) 1 sz2) ?_
 refine pq (q_fieldP rfl fa62_0 rfl) ?_
 refine pq (ql (iO n3) 0 sz2) ?_
 by_cases c7 : n1 < n3
 replace h := ifT c7 h
 refine pq (qb (p_lss_tZ c7)) ?_
 refine pq (qm bt) ?_
 iterate 12 refine os ?_
 refine pq (qpt bt) ?_
 refine oE (eS (cT rfl (lS (lO ?_))))
 refine pq (qa (iO (-1))) ?_
 refine oE (eS (lR (eR ?_)))
 obtain rfl := sj h
 exact eF1
 replace h := ifF c7 h
 refine pq (qb (p_lss_fZ c7)) ?_
 refine pq (qm bf) ?_
 refine pq (q_fieldP rfl fa62_0 rfl) ?_
 refine pq (ql (iO n1) 1 sz2) ?_
 refine pq (q_fieldP rfl fa62_0 rfl) ?_
 refine pq (ql (iO n3) 0 sz2) ?_
 by_cases c8 : n1 = n3
 replace h := ifT c8 h
 refine pq (qb (p_eql_tZ c8)) ?_
 refine pq (qm bt) ?_
 refine pq (q_fieldP rfl fa62_1 rfl) ?_
 refine pq (ql (.one (uI n2)) 1 sz60) ?_
 refine pq (q_fieldP rfl fa62_1 rfl) ?_
 refine pq (ql (.one (uI n4)) 0 sz60) ?_
 by_cases c9 : n2 < n4
 replace h := ifT c9 h
 refine pq (qb (p_lss_tZ c9)) ?_
 refine pq (qpt bt) ?_
 refine pq (qpf bt) ?_
 refine oE (eS (cT rfl (lS (lO ?_))))
 refine pq (qa (iO (-1))) ?_
 refine oE (eS (lR (eR ?_)))
 obtain rfl := sj h
 exact eF1
 replace h := ifF c9 h
 refine pq (qb (p_lss_fZ c9)) ?_
 refine pq (qpt bf) ?_
 refine pq (qpf bf) ?_
 refine oE (eS (cF rfl (lK (eS (lS (lS (lO ?_)))))))
 refine pq (ql (.agg [iI n1, uI n2]) 1 sz62) ?_
 refine pq (ql (.agg [iI n3, uI n4]) 0 sz62) ?_
 by_cases c10 : n1 = n3 ∧ n2 = n4
 replace h := ifT c10 h
 refine pq (q_binA rfl rfl (by rfl) (by rfl) (eqeqlA62_t _ _ c10) rfl) ?_
 refine oE (eS (cT rfl (lS (lO ?_))))
 refine pq (qa (iO 0)) ?_
 refine oE (eS (lR (eR ?_)))
 obtain rfl := sj h
 exact eF1
 replace h := ifF c10 h
 refine pq (q_binA rfl rfl (by rfl) (by rfl) (eqeqlA62_f _ _ c10) rfl) ?_
 refine oE (eS (cF rfl (lK (eS (lS (lO ?_))))))
 refine pq (qa (iO 1)) ?_
 refine oE (eS (lR ?_))
 obtain rfl := sj h
 exact eF1
 replace h := ifF c8 h
 refine pq (qb (p_eql_fZ c8)) ?_
 refine pq (qm bf) ?_
 iterate 5 refine os ?_
 refine pq (qpf bf) ?_
 refine pq (qpf bf) ?_
 refine oE (eS (cF rfl (lK (eS (lS (lS (lO ?_)))))))
 refine pq (ql (.agg [iI n1, uI n2]) 1 sz62) ?_
 refine pq (ql (.agg [iI n3, uI n4]) 0 sz62) ?_
 by_cases c11 : n1 = n3 ∧ n2 = n4
 replace h := ifT c11 h
 refine pq (q_binA rfl rfl (by rfl) (by rfl) (eqeqlA62_t _ _ c11) rfl) ?_
 refine oE (eS (cT rfl (lS (lO ?_))))
 refine pq (qa (iO 0)) ?_
 refine oE (eS (lR (eR ?_)))
 obtain rfl := sj h
 exact eF1
 replace h := ifF c11 h
 refine pq (q_binA rfl rfl (by rfl) (by rfl) (eqeqlA62_f _ _ c11) rfl) ?_
 refine oE (eS (cF rfl (lK (eS (lS (lO ?_))))))
 refine pq (qa (iO 1)) ?_
 refine oE (eS (lR ?_))
 obtain rfl := sj h
 exact eF1
noncomputable def ref02_truth (b1 : Bool) : Option ((Int × Int)) :=
 (if b1 = true then some (0, 1) else some (0, 0))
theorem ref02_truth_r (m : Nat) {b1 : Bool} {out : (Int × Int)} (h : ref02_truth b1 = some out) : RunsP E1 (m + 1) 79 [.one (bT b1)] (.fresh, [.agg (r61 out)]) := by
 refine fn_F rfl (by rw [E1_fn]; exact show fiOf Tryd.prog 79 = _ by unfold fiOf; rw [Tryd.func79]; unfold Tryd.f79; rfl) rfl ?_
 dsimp only
 unfold ref02_truth at h
 refine lS (lO ?_)
 refine ol_new rfl rfl rfl (q_alloc ty62 (row := [iI 0, uI 0]) rfl rfl) (fun k2 => ?_)
 refine oE (eS (lS (lS (lO ?_))))
 refine pq (qm (bO b1)) ?_
 refine oE (eS ?_)
 rcases b1 with _ | _
 replace h := wF h
 refine cF rfl (lK (eS (lS (lO ?_))))
 refine pq (q_build (cs := [iI 0, uI 0]) ty62 rfl pl62 rfl) ?_
 refine ow [[iI 0, uI 0]] 0 sz62 ?_
 refine oE (eS (lR ?_))
 obtain rfl := sj h
 exact E_endF (.inr rfl) (res_cell (d := .agg [iI 0, uI 0]) 0 rfl sz62 rfl rfl rfl rfl res_nil) (vw_cons (vd_agg (vc_cons vc_v (vc_cons vc_v vc_nil))) vw_nil) oG rfl rfl
 replace h := wT h
 refine cT rfl (lS (lO ?_))
 refine pq (q_build (cs := [iI 0, uI 1]) ty62 rfl pl62 rfl) ?_
 refine ow [[iI 0, uI 1]] 0 sz62 ?_
 refine oE (eS (lR (eR ?_)))
 obtain rfl := sj h
 exact E_endF (.inr rfl) (res_cell (d := .agg [iI 0, uI 1]) 0 rfl sz62 rfl rfl rfl rfl res_nil) (vw_cons (vd_agg (vc_cons vc_v (vc_cons vc_v vc_nil))) vw_nil) oG rfl rfl
noncomputable def ref01_Add (a0 : Int × Int) (a1 : Int × Int) : Option ((Int × Int)) :=
 match a0, a1 with
 | (n1, n2), (n3, n4) => (if (IntKind.u64.wrap (n2 + n4)) < n2 then some ((IntKind.i64.wrap ((IntKind.i64.wrap (n1 + n3)) + 1)), (IntKind.u64.wrap (n2 + n4))) else some ((IntKind.i64.wrap (n1 + n3)), (IntKind.u64.wrap (n2 + n4))))
theorem ref01_Add_r (m : Nat) {a0 : Int × Int} {a1 : Int × Int} {out : (Int × Int)} (h : ref01_Add a0 a1 = some out) : RunsP E1 (m + 1) 77 [.agg (r61 a0), .agg (r61 a1)] (.fresh, [.agg (r61 out)]) := by
 obtain ⟨n1, n2⟩ := a0
 obtain ⟨n3, n4⟩ := a1
 refine fn_F rfl (by rw [E1_fn]; exact show fiOf Tryd.prog 77 = _ by unfold fiOf; rw [Tryd.func77]; unfold Tryd.f77; rfl) rfl ?_
 dsimp only
 unfold ref01_Add at h
 refine lS (lO ?_)
 refine ol_new rfl rfl rfl (q_box ty62 rfl (cs := [iI n1, uI n2]) rfl rfl) (fun k5 => ?_)
 refine ol_new rfl rfl rfl (q_box ty62 rfl (cs := [iI n3, uI n4]) rfl rfl) (fun k6 => ?_)
 refine ol_new rfl rfl rfl (q_alloc ty62 (row := [iI 0, uI 0]) rfl rfl) (fun k7 => ?_)
 refine oN ?_
 refine pq (q_fieldP rfl fa62_1 rfl) ?_
 refine pq (ql (.one (uI n2)) 2 sz60) ?_
 refine pq (q_fieldP rfl fa62_1 rfl) ?_
 refine pq (ql (.one (uI n4)) 1 sz60) ?_
 refine pq (qb p_addY) ?_
 refine pq (qa (.one (uI (IntKind.u64.wrap (n2 + n4))))) ?_
 refine oN ?_
 refine pq (q_fieldP rfl fa62_0 rfl) ?_
 refine pq (ql (iO n1) 2 sz2) ?_
 refine pq (q_fieldP rfl fa62_0 rfl) ?_
 refine pq (ql (iO n3) 1 sz2) ?_
 refine pq (qb p_addY) ?_
 refine pq (qa (iO (IntKind.i64.wrap (n1 + n3)))) ?_
 refine oE (eS (lS (lS (lO ?_))))
 refine pq (qm (.one (uI (IntKind.u64.wrap (n2 + n4))))) ?_
 refine pq (q_fieldP rfl fa62_1 rfl) ?_
 refine pq (ql (.one (uI n2)) 2 sz60) ?_
 by_cases c8 : (IntKind.u64.wrap (n2 + n4)) < n2
 replace h := ifT c8 h
 refine pq (qb (p_lss_tZ c8)) ?_
 refine oE (eS (cT rfl (lO ?_)))
 refine pq (qm (iO (IntKind.i64.wrap (n1 + n3)))) ?_
 refine pq (qb p_addY) ?_
 refine pq (qa (.one (iI (IntKind.i64.wrap ((IntKind.i64.wrap (n1 + n3)) + 1))))) ?_
 refine oN ?_
 refine pq (qm (.one (iI (IntKind.i64.wrap ((IntKind.i64.wrap (n1 + n3)) + 1))))) ?_
 refine pq (qm (.one (uI (IntKind.u64.wrap (n2 + n4))))) ?_
 refine pq (q_build (cs := [iI (IntKind.i64.wrap ((IntKind.i64.wrap (n1 + n3)) + 1)), uI (IntKind.u64.wrap (n2 + n4))]) ty62 rfl pl62 rfl) ?_
 refine ow [[iI (IntKind.i64.wrap ((IntKind.i64.wrap (n1 + n3)) + 1)), uI (IntKind.u64.wrap (n2 + n4))]] 0 sz62 ?_
 refine oE (eS (lR ?_))
 obtain rfl := sj h
 exact E_endF (.inr rfl) (res_cell (d := .agg [iI (IntKind.i64.wrap ((IntKind.i64.wrap (n1 + n3)) + 1)), uI (IntKind.u64.wrap (n2 + n4))]) 0 rfl sz62 rfl rfl rfl rfl res_nil) (vw_cons (vd_agg (vc_cons vc_v (vc_cons vc_v vc_nil))) vw_nil) oG rfl rfl
 replace h := ifF c8 h
 refine pq (qb (p_lss_fZ c8)) ?_
 refine oE (eS (cF rfl (lK (eS (lS (lO ?_))))))
 refine pq (qm (iO (IntKind.i64.wrap (n1 + n3)))) ?_
 refine pq (qm (.one (uI (IntKind.u64.wrap (n2 + n4))))) ?_
 refine pq (q_build (cs := [iI (IntKind.i64.wrap (n1 + n3)), uI (IntKind.u64.wrap (n2 + n4))]) ty62 rfl pl62 rfl) ?_
 refine ow [[iI (IntKind.i64.wrap (n1 + n3)), uI (IntKind.u64.wrap (n2 + n4))]] 0 sz62 ?_
 refine oE (eS (lR ?_))
 obtain rfl := sj h
 exact E_endF (.inr rfl) (res_cell (d := .agg [iI (IntKind.i64.wrap (n1 + n3)), uI (IntKind.u64.wrap (n2 + n4))]) 0 rfl sz62 rfl rfl rfl rfl res_nil) (vw_cons (vd_agg (vc_cons vc_v (vc_cons vc_v vc_nil))) vw_nil) oG rfl rfl
noncomputable def ref02_Add (n1 : Int) (a1 : Int × Int) (a2 : Int × Int) : Option ((Int × Int)) :=
 match a1, a2 with
 | (n2, n3), (n4, n5) => (if n1 = 1 then ((ref01_Compare (n4, n5) (n2, n3)).bind fun n11 => (if n11 < 0 then some (n4, n5) else some (n2, n3))) else (if n1 = 3 then ((ref01_Compare (n4, n5) (n2, n3)).bind fun n15 => (if n15 < 0 then some (n4, n5) else some (n2, n3))) else (if n1 = 4 then ((ref01_Compare (n4, n5) (n2, n3)).bind fun n19 => (if n19 < 0 then some (n4, n5) else some (n2, n3))) else (if n1 = 2 then (if n2 = 0 ∧ n3 = 0 then (if n4 = 0 ∧ n5 = 0 then ((ref02_truth false).bind fun (n25, n26) => some (n25, n26)) else ((ref02_truth true).bind fun (n28, n29) => some (n28, n29))) else ((ref02_truth true).bind fun (n31, n32) => some (n31, n32))) else (if n1 = 5 then ((ref01_Add (n2, n3) (n4, n5)).bind fun (n35, n36) => some (n35, n36)) else some (0, 0))))))
theorem ref02_Add_r (m : Nat) {n1 : Int} {a1 : Int × Int} {a2 : Int × Int} {out : (Int × Int)} (h : ref02_Add n1 a1 a2 = some out) : RunsP E1 (m + 2) 47 [.one (iT .i64 n1), .agg (r61 a1), .agg (r61 a2)] (.fresh, [.agg (r61 out)]) := by
 obtain ⟨n2, n3⟩ := a1
 obtain ⟨n4, n5⟩ := a2
 refine fn_F rfl (by rw [E1_fn]; exact show fiOf Tryd.prog 47 = _ by unfold fiOf; rw [Tryd.func47]; unfold Tryd.f47; rfl) rfl ?_
 dsimp only
 unfold ref02_Add at h
 refine lS (lO ?_)
 refine ol_new rfl rfl rfl (q_box ty62 rfl (cs := [iI n2, uI n3]) rfl rfl) (fun k6 => ?_)
 refine ol_new rfl rfl rfl (q_box ty62 rfl (cs := [iI n4, uI n5]) rfl rfl) (fun k7 => ?_)
 refine ol_new rfl rfl rfl (q_alloc ty62 (row := [iI 0, uI 0]) rfl rfl) (fun k8 => ?_)
 refine oN ?_
 refine pq (qm (iO n1)) ?_
 refine oE (eS (lB (lS (lS (lO ?_)))))
 by_cases c9 : n1 = 1
 replace h := ifT c9 h
 refine pq (qb (p_eql_tZ c9)) ?_
 refine pq (qa bt) ?_
 refine oE (eS (cT rfl (lK (eS (cT rfl (lS (lS (lO ?_))))))))
 refine pq (ql (.agg [iI n4, uI n5]) 1 sz62) ?_
 refine pq (ql (.agg [iI n2, uI n3]) 2 sz62) ?_
 obtain ⟨n11, h10, h⟩ := bindS h
 refine pq (qc (iO n11) [.agg [iI n4, uI n5], .agg [iI n2, uI n3]] (ref01_Compare_r (m + 0) h10) (vw_cons (vd_agg (vc_cons vc_v (vc_cons vc_v vc_nil))) (vw_cons (vd_agg (vc_cons vc_v (vc_cons vc_v vc_nil))) vw_nil))) ?_
 by_cases c12 : n11 < 0
 replace h := ifT c12 h
 refine pq (qb (p_lss_tZ c12)) ?_
 refine oE (eS (cT rfl (lS (lO ?_))))
 refine pq (ql (.agg [iI n4, uI n5]) 1 sz62) ?_
 refine ow [[iI n4, uI n5]] 0 sz62 ?_
 refine oE (eS (lR (eR (bR ?_))))
 obtain rfl := sj h
 exact E_endF (.inr rfl) (res_cell (d := .agg [iI n4, uI n5]) 0 rfl sz62 rfl rfl rfl rfl res_nil) (vw_cons (vd_agg (vc_cons vc_v (vc_cons vc_v vc_nil))) vw_nil) oG rfl rfl
 replace h := ifF c12 h
 refine pq (qb (p_lss_fZ c12)) ?_
 refine oE (eS (cF rfl (lK (eS (lS (lO ?_))))))
 refine pq (ql (.agg [iI n2, uI n3]) 2 sz62) ?_
 refine ow [[iI n2, uI n3]] 0 sz62 ?_
 refine oE (eS (lR (bR ?_)))
 obtain rfl := sj h
 exact E_endF (.inr rfl) (res_cell (d := .agg [iI n2, uI n3]) 0 rfl sz62 rfl rfl rfl rfl res_nil) (vw_cons (vd_agg (vc_cons vc_v (vc_cons vc_v vc_nil))) vw_nil) oG rfl rfl
 replace h := ifF c9 h
 refine pq (qb (p_eql_fZ c9)) ?_
 refine pq (qa bf) ?_
 refine oE (eS (cF rfl (lS (lO ?_))))
 by_cases c13 : n1 = 3
 replace h := ifT c13 h
 refine pq (qb (p_eql_tZ c13)) ?_
 refine pq (qa bt) ?_
 refine oE (eS (cT rfl (lK (eS (cT rfl (lS (lS (lO ?_))))))))
 refine pq (ql (.agg [iI n4, uI n5]) 1 sz62) ?_
 refine pq (ql (.agg [iI n2, uI n3]) 2 sz62) ?_
 obtain ⟨n15, h14, h⟩ := bindS h
 refine pq (qc (iO n15) [.agg [iI n4, uI n5], .agg [iI n2, uI n3]] (ref01_Compare_r (m + 0) h14) (vw_cons (vd_agg (vc_cons vc_v (vc_cons vc_v vc_nil))) (vw_cons (vd_agg (vc_cons vc_v (vc_cons vc_v vc_nil))) vw_nil))) ?_
 by_cases c16 : n15 < 0
 replace h := ifT c16 h
 refine pq (qb (p_lss_tZ c16)) ?_
 refine oE (eS (cT rfl (lS (lO ?_))))
 refine pq (ql (.agg [iI n4, uI n5]) 1 sz62) ?_
 refine ow [[iI n4, uI n5]] 0 sz62 ?_
 refine oE (eS (lR (eR (bR ?_))))
 obtain rfl := sj h
 exact E_endF (.inr rfl) (res_cell (d := .agg [iI n4, uI n5]) 0 rfl sz62 rfl rfl rfl rfl res_nil) (vw_cons (vd_agg (vc_cons vc_v (vc_cons vc_v vc_nil))) vw_nil) oG rfl rfl
 replace h := ifF c16 h
 refine pq (qb (p_lss_fZ c16)) ?_
 refine oE (eS (cF rfl (lK (eS (lS (lO ?_))))))
 refine pq (ql (.agg [iI n2, uI n3]) 2 sz62) ?_
 refine ow [[iI n2, uI n3]] 0 sz62 ?_
 refine oE (eS (lR (bR ?_)))
 obtain rfl := sj h
 exact E_endF (.inr rfl) (res_cell (d := .agg [iI n2, uI n3]) 0 rfl sz62 rfl rfl rfl rfl res_nil) (vw_cons (vd_agg (vc_cons vc_v (vc_cons vc_v vc_nil))) vw_nil) oG rfl rfl
 replace h := ifF c13 h
 refine pq (qb (p_eql_fZ c13)) ?_
 refine pq (qa bf) ?_
 refine oE (eS (cF rfl (lO ?_)))
 by_cases c17 : n1 = 4
 replace h := ifT c17 h
 refine pq (qb (p_eql_tZ c17)) ?_
 refine pq (qa bt) ?_
 refine oE (eS (cT rfl (lS (lS (lO ?_)))))
 refine pq (ql (.agg [iI n4, uI n5]) 1 sz62) ?_
 refine pq (ql (.agg [iI n2, uI n3]) 2 sz62) ?_
 obtain ⟨n19, h18, h⟩ := bindS h
 refine pq (qc (iO n19) [.agg [iI n4, uI n5], .agg [iI n2, uI n3]] (ref01_Compare_r (m + 0) h18) (vw_cons (vd_agg (vc_cons vc_v (vc_cons vc_v vc_nil))) (vw_cons (vd_agg (vc_cons vc_v (vc_cons vc_v vc_nil))) vw_nil))) ?_
 by_cases c20 : n19 < 0
 replace h := ifT c20 h
 refine pq (qb (p_lss_tZ c20)) ?_
 refine oE (eS (cT rfl (lS (lO ?_))))
 refine pq (ql (.agg [iI n4, uI n5]) 1 sz62) ?_
 refine ow [[iI n4, uI n5]] 0 sz62 ?_
 refine oE (eS (lR (eR (bR ?_))))
 obtain rfl := sj h
 exact E_endF (.inr rfl) (res_cell (d := .agg [iI n4, uI n5]) 0 rfl sz62 rfl rfl rfl rfl res_nil) (vw_cons (vd_agg (vc_cons vc_v (vc_cons vc_v vc_nil))) vw_nil) oG rfl rfl
 replace h := ifF c20 h
 refine pq (qb (p_lss_fZ c20)) ?_
 refine oE (eS (cF rfl (lK (eS (lS (lO ?_))))))
 refine pq (ql (.agg [iI n2, uI n3]) 2 sz62) ?_
 refine ow [[iI n2, uI n3]] 0 sz62 ?_
 refine oE (eS (lR (bR ?_)))
 obtain rfl := sj h
 exact E_endF (.inr rfl) (res_cell (d := .agg [iI n2, uI n3]) 0 rfl sz62 rfl rfl rfl rfl res_nil) (vw_cons (vd_agg (vc_cons vc_v (vc_cons vc_v vc_nil))) vw_nil) oG rfl rfl
 replace h := ifF c17 h
 refine pq (qb (p_eql_fZ c17)) ?_
 refine pq (qa bf) ?_
 refine oE (eS (cF rfl (lS (lO ?_))))
 by_cases c21 : n1 = 2
 replace h := ifT c21 h
 refine pq (qb (p_eql_tZ c21)) ?_
 refine pq (qa bt) ?_
 refine oE (eS (cT rfl (lS (lO ?_))))
 refine pq (ql (.agg [iI n2, uI n3]) 2 sz62) ?_
 refine pq (q_build (cs := [iI 0, uI 0]) ty62 rfl pl62 rfl) ?_
 by_cases c22 : n2 = 0 ∧ n3 = 0
 replace h := ifT c22 h
 refine pq (q_binA rfl rfl (by rfl) (by rfl) (eqneqA62_t _ _ c22) rfl) ?_
 refine pq (qm bf) ?_
 refine pq (ql (.agg [iI n4, uI n5]) 1 sz62) ?_
 refine pq (q_build (cs := [iI 0, uI 0]) ty62 rfl pl62 rfl) ?_
 by_cases c23 : n4 = 0 ∧ n5 = 0
 replace h := ifT c23 h
 refine pq (q_binA rfl rfl (by rfl) (by rfl) (eqneqA62_t _ _ c23) rfl) ?_
 refine pq (qpf bf) ?_
 obtain ⟨⟨n25, n26⟩, h24, h⟩ := bindS h
 refine pq (qc (.agg [iI n25, uI n26]) [bf] (ref02_truth_r (m + 0) h24) (vw_cons (vd_one vc_v) vw_nil)) ?_
 refine ow [[iI n25, uI n26]] 0 sz62 ?_
 refine oE (eS (lR (bR ?_)))
 obtain rfl := sj h
 exact E_endF (.inr rfl) (res_cell (d := .agg [iI n25, uI n26]) 0 rfl sz62 rfl rfl rfl rfl res_nil) (vw_cons (vd_agg (vc_cons vc_v (vc_cons vc_v vc_nil))) vw_nil) oG rfl rfl
 replace h := ifF c23 h
 refine pq (q_binA rfl rfl (by rfl) (by rfl) (eqneqA62_f _ _ c23) rfl) ?_
 refine pq (qpf bt) ?_
 obtain ⟨⟨n28, n29⟩, h27, h⟩ := bindS h
 refine pq (qc (.agg [iI n28, uI n29]) [bt] (ref02_truth_r (m + 0) h27) (vw_cons (vd_one vc_v) vw_nil)) ?_
 refine ow [[iI n28, uI n29]] 0 sz62 ?_
 refine oE (eS (lR (bR ?_)))
 obtain rfl := sj h
 exact E_endF (.inr rfl) (res_cell (d := .agg [iI n28, uI n29]) 0 rfl sz62 rfl rfl rfl rfl res_nil) (vw_cons (vd_agg (vc_cons vc_v (vc_cons vc_v vc_nil))) vw_nil) oG rfl rfl
 replace h := ifF c22 h
 refine pq (q_binA rfl rfl (by rfl) (by rfl) (eqneqA62_f _ _ c22) rfl) ?_
 refine pq (qm bt) ?_
 iterate 3 refine os ?_
 refine pq (qpt bt) ?_
 obtain ⟨⟨n31, n32⟩, h30, h⟩ := bindS h
 refine pq (qc (.agg [iI n31, uI n32]) [bt] (ref02_truth_r (m + 0) h30) (vw_cons (vd_one vc_v) vw_nil)) ?_
 refine ow [[iI n31, uI n32]] 0 sz62 ?_
 refine oE (eS (lR (bR ?_)))
 obtain rfl := sj h
 exact E_endF (.inr rfl) (res_cell (d := .agg [iI n31, uI n32]) 0 rfl sz62 rfl rfl rfl rfl res_nil) (vw_cons (vd_agg (vc_cons vc_v (vc_cons vc_v vc_nil))) vw_nil) oG rfl rfl
 replace h := ifF c21 h
 refine pq (qb (p_eql_fZ c21)) ?_
 refine pq (qa bf) ?_
 refine oE (eS (cF rfl (lS (lO ?_))))
 by_cases c33 : n1 = 5
 replace h := ifT c33 h
 refine pq (qb (p_eql_tZ c33)) ?_
 refine pq (qa bt) ?_
 refine oE (eS (cT rfl (lS (lO ?_))))
 refine pq (ql (.agg [iI n2, uI n3]) 2 sz62) ?_
 refine pq (ql (.agg [iI n4, uI n5]) 1 sz62) ?_
 obtain ⟨⟨n35, n36⟩, h34, h⟩ := bindS h
 refine pq (qc (.agg [iI n35, uI n36]) [.agg [iI n2, uI n3], .agg [iI n4, uI n5]] (ref01_Add_r (m + 0) h34) (vw_cons (vd_agg (vc_cons vc_v (vc_cons vc_v vc_nil))) (vw_cons (vd_agg (vc_cons vc_v (vc_cons vc_v vc_nil))) vw_nil))) ?_
 refine ow [[iI n35, uI n36]] 0 sz62 ?_
 refine oE (eS (lR (bR ?_)))
 obtain rfl := sj h
 exact E_endF (.inr rfl) (res_cell (d := .agg [iI n35, uI n36]) 0 rfl sz62 rfl rfl rfl rfl res_nil) (vw_cons (vd_agg (vc_cons vc_v (vc_cons vc_v vc_nil))) vw_nil) oG rfl rfl
 replace h := ifF c33 h
 refine pq (qb (p_eql_fZ c33)) ?_
 refine pq (qa bf) ?_
 refine oE (eS (cF rfl (lS (lO ?_))))
 refine pq (q_build (cs := [iI 0, uI 0]) ty62 rfl pl62 rfl) ?_
 refine ow [[iI 0, uI 0]] 0 sz62 ?_
 refine oE (eS (lR (bR ?_)))
 obtain rfl := sj h
 exact E_endF (.inr rfl) (res_cell (d := .agg [iI 0, uI 0]) 0 rfl sz62 rfl rfl rfl rfl res_nil) (vw_cons (vd_agg (vc_cons vc_v (vc_cons vc_v vc_nil))) vw_nil) oG rfl rfl
noncomputable def ref09_Right_b1 (n1 : Int) (s2 : Sl (Int × Int)) (n33 : Int) : Option (Int ⊕ (Unit ⊕ Bool)) :=
 (if n33 < ((s2.l.length : Nat) : Int) then ((atS 2 s2 n33).bind fun (n37, n38) => (if n37 < 0 then some (.inr (.inr false)) else (if n37 ≥ n1 then some (.inr (.inr false)) else (if n33 > 0 then ((atS 2 s2 (IntKind.i64.wrap (n33 - 1))).bind fun (n44, n45) => (if n37 ≤ n44 then some (.inr (.inr false)) else some (.inl (IntKind.i64.wrap (n33 + 1))))) else some (.inl (IntKind.i64.wrap (n33 + 1))))))) else some (.inr (.inl ())))
noncomputable def ref09_Right (a0 : Int × (Sl (Int × Int))) : Option (Bool) :=
 match a0 with
 | (n1, s2) => (if n1 < 0 then some false else (if n1 > 4096 then some false else ((loopO (ref09_Right_b1 n1 s2) 0).bind (Sum.elim (fun _ => some true) (fun u => some u)))))
theorem ref09_Right_r (m : Nat) {a0 : Int × (Sl (Int × Int))} {out : Bool} (h : ref09_Right a0 = some out) : RunsP E1 (m + 1) 61 [.agg (r38 a0)] (.fresh, [.one (bT out)]) := by
 obtain ⟨n1, s2⟩ := a0
 refine fn_F rfl (by rw [E1_fn]; exact show fiOf Tryd.prog 61 = _ by unfold fiOf; rw [Tryd.func61]; unfold Tryd.f61; rfl) rfl ?_
 dsimp only
 unfold ref09_Right at h
 refine lS (lO ?_)
 refine ol_new rfl rfl rfl (q_box ty39 rfl (cs := [iI n1, sF r70 s2]) rfl rfl) (fun k3 => ?_)
 refine pq (qa bf) ?_
 refine oE (eS (lS (lS (lO ?_))))
 refine pq (q_fieldP rfl fa39_0 rfl) ?_
 refine pq (ql (iO n1) 0 sz3) ?_
 by_cases c4 : n1 < 0
 replace h := ifT c4 h
 refine pq (qb (p_lss_tZ c4)) ?_
 refine pq (qm bt) ?_
 iterate 3 refine os ?_
 refine pq (qpt bt) ?_
 refine oE (eS (cT rfl (lS (lO ?_))))
 refine pq (qa bf) ?_
 refine oE (eS (lR (eR ?_)))
 obtain rfl := sj h
 exact eF1
 replace h := ifF c4 h
 refine pq (qb (p_lss_fZ c4)) ?_
 refine pq (qm bf) ?_
 refine pq (q_fieldP rfl fa39_0 rfl) ?_
 refine pq (ql (iO n1) 0 sz3) ?_
 by_cases c5 : n1 > 4096
 replace h := ifT c5 h
 refine pq (qb (p_gtr_tZ c5)) ?_
 refine pq (qpf bt) ?_
 refine oE (eS (cT rfl (lS (lO ?_))))
 refine pq (qa bf) ?_
 refine oE (eS (lR (eR ?_)))
 obtain rfl := sj h
 exact eF1
 replace h := ifF c5 h
 refine pq (qb (p_gtr_fZ c5)) ?_
 refine pq (qpf bf) ?_
 refine oE (eS (cF rfl (lK (eS (lS (lS (lO ?_)))))))
 refine pq (qa (iO 0)) ?_
 refine oE (eS (lB ?_))
 let S1 : Int → Unit → (Nat → D) → Nat → D := fun a kt g => ups g [(1, .one (.ptr k3 0 0)), (3, iO a)]
 let SL1 : Int → Unit → BL := fun a kt => ([[(k3, 2, [[iI n1, sF r70 s2]])]] : BL)
 let G1 : Bool → Ex → St → Prop := fun u => endQ E1 [.tmp 2] (.fresh, [.one (bT u)])
 let Sx1 : Unit → Unit → (Nat → D) → Nat → D := fun a kt g => ups g []
 let SLx1 : Unit → Unit → BL := fun a kt => ([] : BL)
 let J1 : (Unit ⊕ Bool) → Ex → St → Prop := JX 57 0 Sx1 SLx1 G1
 refine L_loopS (ref09_Right_b1 n1 s2) S1 SL1 J1 JX_n 0 h () (ups_self ⟨rfl, rfl, trivial⟩) [0] (by decide) rfl ?_ ?_
 rintro n33 _ g out h
 change ref09_Right_b1 n1 s2 n33 = some out at h
 unfold ref09_Right_b1 at h
 refine lS (lS (lO ?_))
 refine pq (qm (iO n33)) ?_
 refine pq (q_fieldP rfl fa39_1 rfl) ?_
 refine pq (ql (.one (sF r70 s2)) 0 sz25) ?_
 refine pq (q_lenS rfl ty25 rfl rfl rfl rfl) ?_
 by_cases c34 : n33 < ((s2.l.length : Nat) : Int)
 replace h := ifT c34 h
 refine pq (qb (p_lss_tZ c34)) ?_
 refine oE (eS (cT rfl (lK (eS (lS (lB (lS ?_)))))))
 refine L_still (by kernel_rfl) ?_
 refine sq (q_fieldP rfl fa39_1 rfl) ?_
 refine sq (ql (.one (sF r70 s2)) 0 sz25) ?_
 refine sq (qm (iO n33)) ?_
 obtain ⟨⟨n37, n38⟩, h36, h⟩ := bindS h
 obtain ⟨h36a, h36b, h36⟩ := atS_some h36
 refine sq (q_ixS rfl rfl h36a h36 (el25.trans (congrArg some h36b.symm))) ?_
 refine sq (q_fieldI rfl fa71_0 rfl) ?_
 refine sq (q_loadI (v := iO n37) rfl sz3 (map_get h36) rfl rfl) ?_
 by_cases c39 : n37 < 0
 replace h := ifT c39 h
 refine sq (qb (p_lss_tZ c39)) ?_
 refine sq (qm bt) ?_
 iterate 9 refine ss ?_
 refine sq (qpt bt) ?_
 refine sq (qm bt) ?_
 iterate 18 refine ss ?_
 refine sq (qpt bt) ?_
 refine st_end (eS (cT rfl (lS (lO ?_))))
 refine pq (qa bf) ?_
 refine oE (eS (lR (bR (eR ?_))))
 obtain rfl := sj h
 exact E_out (E_up (eF1))
 replace h := ifF c39 h
 refine sq (qb (p_lss_fZ c39)) ?_
 refine sq (qm bf) ?_
 refine sq (q_fieldP rfl fa39_1 rfl) ?_
 refine sq (ql (.one (sF r70 s2)) 0 sz25) ?_
 refine sq (qm (iO n33)) ?_
 refine sq (q_ixS rfl rfl h36a h36 (el25.trans (congrArg some h36b.symm))) ?_
 refine sq (q_fieldI rfl fa71_0 rfl) ?_
 refine sq (q_loadI (v := iO n37) rfl sz3 (map_get h36) rfl rfl) ?_
 refine sq (q_fieldP rfl fa39_0 rfl) ?_
 refine sq (ql (iO n1) 0 sz3) ?_
 by_cases c40 : n37 ≥ n1
 replace h := ifT c40 h
 refine sq (qb (p_geq_tZ c40)) ?_
 refine sq (qpf bt) ?_
 refine sq (qm bt) ?_
 iterate 18 refine ss ?_
 refine sq (qpt bt) ?_
 refine st_end (eS (cT rfl (lS (lO ?_))))
 refine pq (qa bf) ?_
 refine oE (eS (lR (bR (eR ?_))))
 obtain rfl := sj h
 exact E_out (E_up (eF1))
 replace h := ifF c40 h
 refine sq (qb (p_geq_fZ c40)) ?_
 refine sq (qpf bf) ?_
 refine sq (qm bf) ?_
 refine sq (qm (iO n33)) ?_
 by_cases c41 : n33 > 0
 replace h := ifT c41 h
 refine sq (qb (p_gtr_tZ c41)) ?_
 refine sq (qm bt) ?_
 refine sq (q_fieldP rfl fa39_1 rfl) ?_
 refine sq (ql (.one (sF r70 s2)) 0 sz25) ?_
 refine sq (qm (iO n33)) ?_
 refine sq (q_ixS rfl rfl h36a h36 (el25.trans (congrArg some h36b.symm))) ?_
 refine sq (q_fieldI rfl fa71_0 rfl) ?_
 refine sq (q_loadI (v := iO n37) rfl sz3 (map_get h36) rfl rfl) ?_
 refine sq (q_fieldP rfl fa39_1 rfl) ?_
 refine sq (ql (.one (sF r70 s2)) 0 sz25) ?_
 refine sq (qm (iO n33)) ?_
 refine sq (qb p_subY) ?_
 obtain ⟨⟨n44, n45⟩, h43, h⟩ := bindS h
 obtain ⟨h43a, h43b, h43⟩ := atS_some h43
 refine sq (q_ixS rfl rfl h43a h43 (el25.trans (congrArg some h43b.symm))) ?_
 refine sq (q_fieldI rfl fa71_0 rfl) ?_
 refine sq (q_loadI (v := iO n44) rfl sz3 (map_get h43) rfl rfl) ?_
 by_cases c46 : n37 ≤ n44
 replace h := ifT c46 h
 refine sq (qb (p_leq_tZ c46)) ?_
 refine sq (qpt bt) ?_
 refine sq (qpf bt) ?_
 refine st_end (eS (cT rfl (lS (lO ?_))))
 refine pq (qa bf) ?_
 refine oE (eS (lR (bR (eR ?_))))
 obtain rfl := sj h
 exact E_out (E_up (eF1))
 replace h := ifF c46 h
 refine sq (qb (p_leq_fZ c46)) ?_
 refine sq (qpt bf) ?_
 refine sq (qpf bf) ?_
 refine st_end (eS (cF rfl (lK (bN (eS (lO ?_))))))
 refine pq (qm (iO n33)) ?_
 refine pq (qb p_addY) ?_
 refine pq (qa (iO (IntKind.i64.wrap (n33 + 1)))) ?_
 refine oE ?_
 obtain rfl := sj h
 exact E_next () (ups_self ⟨rfl, rfl, trivial⟩) [0] (by decide) rfl
 replace h := ifF c41 h
 refine sq (qb (p_gtr_fZ c41)) ?_
 refine sq (qm bf) ?_
 iterate 14 refine ss ?_
 refine sq (qpf bf) ?_
 refine sq (qpf bf) ?_
 refine st_end (eS (cF rfl (lK (bN (eS (lO ?_))))))
 refine pq (qm (iO n33)) ?_
 refine pq (qb p_addY) ?_
 refine pq (qa (iO (IntKind.i64.wrap (n33 + 1)))) ?_
 refine oE ?_
 obtain rfl := sj h
 exact E_next () (ups_self ⟨rfl, rfl, trivial⟩) [0] (by decide) rfl
 replace h := ifF c34 h
 refine pq (qb (p_lss_fZ c34)) ?_
 refine oE (eS (cF rfl (L_exit ?_)))
 refine E_seqX ?_
 obtain rfl := sj h
 refine E_out ?_
 exact (E_exit () (ups_self trivial) [] (by decide) rfl)
 rintro (_ | u) h
 refine J_x (fun kt g => ?_)
 replace h := elimL h
 refine bH (eS (lS (lO ?_)))
 refine pq (qa bt) ?_
 refine oE (eS (lR ?_))
 obtain rfl := sj h
 exact eF1
 obtain rfl := Option.some.inj (elimR h)
 exact J_up (fun s hs => hs)
noncomputable def ref09_Sure (a0 : Int × (Sl (Int × Int))) : Option ((Int × (Sl (Int × Int)))) :=
 match a0 with
 | (n1, s2) => ((ref09_Right (n1, s2)).bind fun b6 => (if b6 = true then some (n1, s2) else some (0, (⟨false, 0, []⟩ : Sl (Int × Int)))))
theorem ref09_Sure_r (m : Nat) {a0 : Int × (Sl (Int × Int))} {out : (Int × (Sl (Int × Int)))} (h : ref09_Sure a0 = some out) : RunsX E1 (m + 2) 29 [.agg (r38 a0)] [.agg (r38 out)] := by
 obtain ⟨n1, s2⟩ := a0
 refine fn_X rfl (by rw [E1_fn]; exact show fiOf Tryd.prog 29 = _ by unfold fiOf; rw [Tryd.func29]; unfold Tryd.f29; rfl) rfl ?_
 dsimp only
 unfold ref09_Sure at h
 refine lS (lO ?_)
 refine ol_new rfl rfl rfl (q_box ty39 rfl (cs := [iI n1, sF r70 s2]) rfl rfl) (fun k3 => ?_)
 refine ol_new rfl rfl rfl (q_alloc ty39 (row := [iI 0, nC]) rfl rfl) (fun k4 => ?_)
 refine oE (eS (lS (lS (lO ?_))))
 refine pq (ql (.agg [iI n1, sF r70 s2]) 1 sz39) ?_
 obtain ⟨b6, h5, h⟩ := bindS h
 refine pq (qc (bO b6) [.agg [iI n1, sF r70 s2]] (ref09_Right_r (m + 0) h5) (vw_cons (vd_agg (vc_cons vc_v (vc_cons vc_s vc_nil))) vw_nil)) ?_
 refine oE (eS ?_)
 rcases b6 with _ | _
 replace h := wF h
 refine cF rfl (lK (eS (lS (lO ?_))))
 refine pq (q_build (cs := [iI 0, nC]) ty39 rfl pl39 rfl) ?_
 refine ow [[iI 0, nC]] 0 sz39 ?_
 refine oE (eS (lR ?_))
 obtain rfl := sj h
 exact E_endX (.inr rfl) (res_cell (d := .agg [iI 0, nC]) 0 rfl sz39 rfl rfl rfl rfl res_nil) (vw_cons (vd_agg (vc_cons vc_v (vc_cons vc_s vc_nil))) vw_nil) oG rfl
 replace h := wT h
 refine cT rfl (lS (lO ?_))
 refine pq (ql (.agg [iI n1, sF r70 s2]) 1 sz39) ?_
 refine ow [[iI n1, sF r70 s2]] 0 sz39 ?_
 refine oE (eS (lR (eR ?_)))
 obtain rfl := sj h
 exact E_endX (.inr rfl) (res_cell (d := .agg [iI n1, sF r70 s2]) 0 rfl sz39 rfl rfl rfl rfl res_nil) (vw_cons (vd_agg (vc_cons vc_v (vc_cons vc_s vc_nil))) vw_nil) oG rfl
noncomputable def ref03_words (n1 : Int) : Option (Int) :=
 (if n1 > 4096 then (if (4096 : Int) < 1 then some 0 else ((divO .i64 (IntKind.i64.wrap (4096 + 63)) 64).bind fun n4 => some n4)) else (if n1 < 1 then some 0 else ((divO .i64 (IntKind.i64.wrap (n1 + 63)) 64).bind fun n7 => some n7)))
theorem ref03_words_r (m : Nat) {n1 : Int} {out : Int} (h : ref03_words n1 = some out) : RunsP E1 (m + 1) 84 [.one (iT .i64 n1)] (.fresh, [.one (iT .i64 out)]) := by
 refine fn_F rfl (by rw [E1_fn]; exact show fiOf Tryd.prog 84 = _ by unfold fiOf; rw [Tryd.func84]; unfold Tryd.f84; rfl) rfl ?_
 dsimp only
 unfold ref03_words at h
 refine lS (lO ?_)
 refine pq (qa (iO 0)) ?_
 refine oE (eS (lS (lS (lO ?_))))
 refine pq (qm (iO n1)) ?_
 by_cases c2 : n1 > 4096
 replace h := ifT c2 h
 refine pq (qb (p_gtr_tZ c2)) ?_
 refine oE (eS (cT rfl (lO ?_)))
 refine pq (qa (iO 4096)) ?_
 refine oE (eS (lS (lS (lO ?_))))
 refine pq (qm (iO 4096)) ?_
 by_cases c3 : (4096 : Int) < 1
 replace h := ifT c3 h
 refine pq (qb (p_lss_tZ c3)) ?_
 refine oE (eS (cT rfl (lS (lO ?_))))
 refine pq (qa (iO 0)) ?_
 refine oE (eS (lR (eR ?_)))
 obtain rfl := sj h
 exact eF1
 replace h := ifF c3 h
 refine pq (qb (p_lss_fZ c3)) ?_
 refine oE (eS (cF rfl (lK (eS (lS (lO ?_))))))
 refine pq (qm (iO 4096)) ?_
 refine pq (qb p_addY) ?_
 obtain ⟨n4, h5, h⟩ := bindS h
 refine pq (q_bin rfl rfl (divO_p h5) rfl) ?_
 refine pq (qa (iO n4)) ?_
 refine oE (eS (lR ?_))
 obtain rfl := sj h
 exact eF1
 replace h := ifF c2 h
 refine pq (qb (p_gtr_fZ c2)) ?_
 refine oE (eS (cF rfl (lK (eS (lS (lS (lO ?_)))))))
 refine pq (qm (iO n1)) ?_
 by_cases c6 : n1 < 1
 replace h := ifT c6 h
 refine pq (qb (p_lss_tZ c6)) ?_
 refine oE (eS (cT rfl (lS (lO ?_))))
 refine pq (qa (iO 0)) ?_
 refine oE (eS (lR (eR ?_)))
 obtain rfl := sj h
 exact eF1
 replace h := ifF c6 h
 refine pq (qb (p_lss_fZ c6)) ?_
 refine oE (eS (cF rfl (lK (eS (lS (lO ?_))))))
 refine pq (qm (iO n1)) ?_
 refine pq (qb p_addY) ?_
 obtain ⟨n7, h8, h⟩ := bindS h
 refine pq (q_bin rfl rfl (divO_p h8) rfl) ?_
 refine pq (qa (iO n7)) ?_
 refine oE (eS (lR ?_))
 obtain rfl := sj h
 exact eF1
noncomputable def ring_Is (n1 : Int) : Option (Bool) :=
 (if n1 ≥ 1 then (if n1 ≤ 5 then some true else some false) else some false)
theorem ring_Is_r (m : Nat) {n1 : Int} {out : Bool} (h : ring_Is n1 = some out) : RunsP E1 (m + 1) 34 [.one (iT .i64 n1)] (.fresh, [.one (bT out)]) := by
 refine fn_F rfl (by rw [E1_fn]; exact show fiOf Tryd.prog 34 = _ by unfold fiOf; rw [Tryd.func34]; unfold Tryd.f34; rfl) rfl ?_
 dsimp only
 unfold ring_Is at h
 refine lS (lO ?_)
 refine pq (qa bf) ?_
 refine oN ?_
 refine pq (qm (iO n1)) ?_
 by_cases c2 : n1 ≥ 1
 replace h := ifT c2 h
 refine pq (qb (p_geq_tZ c2)) ?_
 refine pq (qm bt) ?_
 refine pq (qm (iO n1)) ?_
 by_cases c3 : n1 ≤ 5
 replace h := ifT c3 h
 refine pq (qb (p_leq_tZ c3)) ?_
 refine pq (qpt bt) ?_
 refine pq (qa bt) ?_
 refine oE (eS (lR ?_))
 obtain rfl := sj h
 exact eF1
 replace h := ifF c3 h
 refine pq (qb (p_leq_fZ c3)) ?_
 refine pq (qpt bf) ?_
 refine pq (qa bf) ?_
 refine oE (eS (lR ?_))
 obtain rfl := sj h
 exact eF1
 replace h := ifF c2 h
 refine pq (qb (p_geq_fZ c2)) ?_
 refine pq (qm bf) ?_
 iterate 2 refine os ?_
 refine pq (qpf bf) ?_
 refine pq (qa bf) ?_
 refine oE (eS (lR ?_))
 obtain rfl := sj h
 exact eF1
noncomputable def csr_size (n1 : Int) : Option (Bool) :=
 (if n1 ≥ 0 then (if n1 ≤ 4096 then some true else some false) else some false)
theorem csr_size_r (m : Nat) {n1 : Int} {out : Bool} (h : csr_size n1 = some out) : RunsP E1 (m + 1) 86 [.one (iT .i64 n1)] (.fresh, [.one (bT out)]) := by
 refine fn_F rfl (by rw [E1_fn]; exact show fiOf Tryd.prog 86 = _ by unfold fiOf; rw [Tryd.func86]; unfold Tryd.f86; rfl) rfl ?_
 dsimp only
 unfold csr_size at h
 refine lS (lO ?_)
 refine pq (qa bf) ?_
 refine oN ?_
 refine pq (qm (iO n1)) ?_
 by_cases c2 : n1 ≥ 0
 replace h := ifT c2 h
 refine pq (qb (p_geq_tZ c2)) ?_
 refine pq (qm bt) ?_
 refine pq (qm (iO n1)) ?_
 by_cases c3 : n1 ≤ 4096
 replace h := ifT c3 h
 refine pq (qb (p_leq_tZ c3)) ?_
 refine pq (qpt bt) ?_
 refine pq (qa bt) ?_
 refine oE (eS (lR ?_))
 obtain rfl := sj h
 exact eF1
 replace h := ifF c3 h
 refine pq (qb (p_leq_fZ c3)) ?_
 refine pq (qpt bf) ?_
 refine pq (qa bf) ?_
 refine oE (eS (lR ?_))
 obtain rfl := sj h
 exact eF1
 replace h := ifF c2 h
 refine pq (qb (p_geq_fZ c2)) ?_
 refine pq (qm bf) ?_
 iterate 2 refine os ?_
 refine pq (qpf bf) ?_
 refine pq (qa bf) ?_
 refine oE (eS (lR ?_))
 obtain rfl := sj h
 exact eF1
noncomputable def csr_rises_b1 (s1 : Sl (Int)) (n2 : Int) (a : Int × Int) : Option ((Int × Int) ⊕ (Unit ⊕ Bool)) :=
 match a with
 | (n17, n18) => (if n18 < ((s1.l.length : Nat) : Int) then ((atS 1 s1 n18).bind fun n22 => (if n22 ≤ n17 then some (.inr (.inr false)) else (if n22 ≥ n2 then some (.inr (.inr false)) else some (.inl (n22, (IntKind.i64.wrap (n18 + 1))))))) else some (.inr (.inl ())))
noncomputable def csr_rises (s1 : Sl (Int)) (n2 : Int) : Option (Bool) :=
 ((loopO (csr_rises_b1 s1 n2) ((-1), 0)).bind (Sum.elim (fun _ => some true) (fun u => some u)))
theorem csr_rises_r (m : Nat) {s1 : Sl (Int)} {n2 : Int} {out : Bool} (h : csr_rises s1 n2 = some out) : RunsP E1 (m + 1) 87 [.one (Sl.t r3 s1), .one (iT .i64 n2)] (.fresh, [.one (bT out)]) := by
 refine fn_F rfl (by rw [E1_fn]; exact show fiOf Tryd.prog 87 = _ by unfold fiOf; rw [Tryd.func87]; unfold Tryd.f87; rfl) rfl ?_
 dsimp only
 unfold csr_rises at h
 refine lS (lO ?_)
 refine pq (qa bf) ?_
 refine oN ?_
 refine pq (qa (iO (-1))) ?_
 refine oE (eS (lS (lS (lO ?_))))
 refine pq (qm (.one (sF r3 s1))) ?_
 refine pq (q_lenS rfl ty30 rfl rfl rfl rfl) ?_
 refine pq (qm (iO 0)) ?_
 refine oE (eS (lB ?_))
 let S1 : (Int × Int) → Unit → (Nat → D) → Nat → D := fun a kt g => ups g [(1, iO n2), (5, .one (iI a.1)), (8, .one (sF r3 s1)), (9, .one (iI ((s1.l.length : Nat) : Int))), (10, .one (iI a.2))]
 let SL1 : (Int × Int) → Unit → BL := fun a kt => ([] : BL)
 let G1 : Bool → Ex → St → Prop := fun u => endQ E1 [.tmp 4] (.fresh, [.one (bT u)])
 let Sx1 : Unit → Unit → (Nat → D) → Nat → D := fun a kt g => ups g []
 let SLx1 : Unit → Unit → BL := fun a kt => ([] : BL)
 let J1 : (Unit ⊕ Bool) → Ex → St → Prop := JX 24 0 Sx1 SLx1 G1
 refine L_loopS (csr_rises_b1 s1 n2) S1 SL1 J1 JX_n ((-1), 0) h () (ups_self ⟨rfl, rfl, rfl, rfl, rfl, trivial⟩) [] (by decide) rfl ?_ ?_
 rintro ⟨n17, n18⟩ _ g out h
 change csr_rises_b1 s1 n2 (n17, n18) = some out at h
 unfold csr_rises_b1 at h
 refine lS (lO ?_)
 by_cases c19 : n18 < ((s1.l.length : Nat) : Int)
 replace h := ifT c19 h
 refine pq (qb (p_lss_tZ c19)) ?_
 refine oE (eS (lS (cT rfl (lK (eS (lS (lB (lS (lO ?_)))))))))
 obtain ⟨n22, h21, h⟩ := bindS h
 obtain ⟨h21a, h21b, h21⟩ := atS_some h21
 refine pq (q_ixS rfl rfl h21a h21 (el30.trans (congrArg some h21b.symm))) ?_
 refine pq (q_loadI (v := iO n22) rfl sz3 (map_get h21) rfl rfl) ?_
 refine pq (qa (iO n22)) ?_
 refine oE (eS (lS (lS (lO ?_))))
 refine pq (qm (iO n22)) ?_
 refine pq (qm (iO n17)) ?_
 by_cases c23 : n22 ≤ n17
 replace h := ifT c23 h
 refine pq (qb (p_leq_tZ c23)) ?_
 refine pq (qm bt) ?_
 iterate 3 refine os ?_
 refine pq (qpt bt) ?_
 refine oE (eS (cT rfl (lS (lO ?_))))
 refine pq (qa bf) ?_
 refine oE (eS (lR (eR (bR (eR ?_)))))
 obtain rfl := sj h
 exact E_out (E_up (eF1))
 replace h := ifF c23 h
 refine pq (qb (p_leq_fZ c23)) ?_
 refine pq (qm bf) ?_
 refine pq (qm (iO n22)) ?_
 refine pq (qm (iO n2)) ?_
 by_cases c24 : n22 ≥ n2
 replace h := ifT c24 h
 refine pq (qb (p_geq_tZ c24)) ?_
 refine pq (qpf bt) ?_
 refine oE (eS (cT rfl (lS (lO ?_))))
 refine pq (qa bf) ?_
 refine oE (eS (lR (eR (bR (eR ?_)))))
 obtain rfl := sj h
 exact E_out (E_up (eF1))
 replace h := ifF c24 h
 refine pq (qb (p_geq_fZ c24)) ?_
 refine pq (qpf bf) ?_
 refine oE (eS (cF rfl (lK (eS (lO ?_)))))
 refine pq (qm (iO n22)) ?_
 refine pq (qa (iO n22)) ?_
 refine oE (bN (eS (lO ?_)))
 refine pq (qb p_addY) ?_
 refine pq (qm (iO (IntKind.i64.wrap (n18 + 1)))) ?_
 refine oE ?_
 obtain rfl := sj h
 exact E_next () (ups_self ⟨rfl, rfl, rfl, rfl, rfl, trivial⟩) [] (by decide) rfl
 replace h := ifF c19 h
 refine pq (qb (p_lss_fZ c19)) ?_
 refine oE (eS (lS (cF rfl (L_exit ?_))))
 refine E_seqX ?_
 obtain rfl := sj h
 refine E_out ?_
 exact (E_exit () (ups_self trivial) [] (by decide) rfl)
 rintro (_ | u) h
 refine J_x (fun kt g => ?_)
 replace h := elimL h
 refine bH (eS (lS (lO ?_)))
 refine pq (qa bt) ?_
 refine oE (eS (lR ?_))
 obtain rfl := sj h
 exact eF1
 obtain rfl := Option.some.inj (elimR h)
 exact J_up (fun s hs => hs)
noncomputable def csr_Right_b1 (n1 : Int) (n2 : Int) (s3 : Sl (Int)) (s4 : Sl (Int)) (n49 : Int) : Option (Int ⊕ (Unit ⊕ Bool)) :=
 (if n49 < n1 then ((atS 1 s3 n49).bind fun n53 => ((atS 1 s3 (IntKind.i64.wrap (n49 + 1))).bind fun n56 => (if n56 < n53 then some (.inr (.inr false)) else (if n56 > ((s4.l.length : Nat) : Int) then some (.inr (.inr false)) else ((cutS 1 s4 n53 n56).bind fun s59 => ((csr_rises s59 n2).bind fun b62 => (if b62 = true then some (.inl (IntKind.i64.wrap (n49 + 1))) else some (.inr (.inr false))))))))) else some (.inr (.inl ())))
noncomputable def csr_Right (a0 : Int × Int × Sl (Int) × Sl (Int) × Sl (Int)) : Option (Bool) :=
 match a0 with
 | (n1, n2, s3, s4, s5) => ((csr_size n1).bind fun b8 => (if b8 = true then ((csr_size n2).bind fun b10 => (if b10 = true then (if ((s3.l.length : Nat) : Int) ≠ (IntKind.i64.wrap (n1 + 1)) then some false else ((atS 1 s3 0).bind fun n14 => (if n14 ≠ 0 then some false else (if ((s5.l.length : Nat) : Int) ≠ ((s4.l.length : Nat) : Int) then some false else (if ((s4.l.length : Nat) : Int) > 65536 then some false else ((atS 1 s3 n1).bind fun n20 => (if n20 ≠ ((s4.l.length : Nat) : Int) then some false else ((loopO (csr_Right_b1 n1 n2 s3 s4) 0).bind (Sum.elim (fun _ => some true) (fun u => some u)))))))))) else some false)) else some false))
theorem csr_Right_r (m : Nat) {a0 : Int × Int × Sl (Int) × Sl (Int) × Sl (Int)} {out : Bool} (h : csr_Right a0 = some out) : RunsP E1 (m + 2) 64 [.agg (r32 a0)] (.fresh, [.one (bT out)]) := by
 obtain ⟨n1, n2, s3, s4, s5⟩ := a0
 refine fn_F rfl (by rw [E1_fn]; exact show fiOf Tryd.prog 64 = _ by unfold fiOf; rw [Tryd.func64]; unfold Tryd.f64; rfl) rfl ?_
 dsimp only
 unfold csr_Right at h
 refine lS (lO ?_)
 refine ol_new rfl rfl rfl (q_box ty33 rfl (cs := [iI n1, iI n2, sF r3 s3, sF r3 s4, sF r2 s5]) rfl rfl) (fun k6 => ?_)
 refine pq (qa bf) ?_
 refine oE (eS (lS (lS (lO ?_))))
 refine pq (q_fieldP rfl fa33_0 rfl) ?_
 refine pq (ql (iO n1) 0 sz3) ?_
 obtain ⟨b8, h7, h⟩ := bindS h
 refine pq (qc (bO b8) [iO n1] (csr_size_r (m + 0) h7) (vw_cons (vd_one vc_v) vw_nil)) ?_
 rcases b8 with _ | _
 replace h := wF h
 refine pq (q_not rfl) ?_
 refine pq (qm bt) ?_
 iterate 4 refine os ?_
 refine pq (qpt bt) ?_
 refine pq (qm bt) ?_
 iterate 7 refine os ?_
 refine pq (qpt bt) ?_
 refine pq (qm bt) ?_
 iterate 5 refine os ?_
 refine pq (qpt bt) ?_
 refine oE (eS (cT rfl (lS (lO ?_))))
 refine pq (qa bf) ?_
 refine oE (eS (lR (eR ?_)))
 obtain rfl := sj h
 exact eF1
 replace h := wT h
 refine pq (q_not rfl) ?_
 refine pq (qm bf) ?_
 refine pq (q_fieldP rfl fa33_1 rfl) ?_
 refine pq (ql (iO n2) 0 sz3) ?_
 obtain ⟨b10, h9, h⟩ := bindS h
 refine pq (qc (bO b10) [iO n2] (csr_size_r (m + 0) h9) (vw_cons (vd_one vc_v) vw_nil)) ?_
 rcases b10 with _ | _
 replace h := wF h
 refine pq (q_not rfl) ?_
 refine pq (qpf bt) ?_
 refine pq (qm bt) ?_
 iterate 7 refine os ?_
 refine pq (qpt bt) ?_
 refine pq (qm bt) ?_
 iterate 5 refine os ?_
 refine pq (qpt bt) ?_
 refine oE (eS (cT rfl (lS (lO ?_))))
 refine pq (qa bf) ?_
 refine oE (eS (lR (eR ?_)))
 obtain rfl := sj h
 exact eF1
 replace h := wT h
 refine pq (q_not rfl) ?_
 refine pq (qpf bf) ?_
 refine pq (qm bf) ?_
 refine pq (q_fieldP rfl fa33_2 rfl) ?_
 refine pq (ql (.one (sF r3 s3)) 0 sz30) ?_
 refine pq (q_lenS rfl ty30 rfl rfl rfl rfl) ?_
 refine pq (q_fieldP rfl fa33_0 rfl) ?_
 refine pq (ql (iO n1) 0 sz3) ?_
 refine pq (qb p_addY) ?_
 by_cases c11 : ((s3.l.length : Nat) : Int) ≠ (IntKind.i64.wrap (n1 + 1))
 replace h := ifT c11 h
 refine pq (qb (p_neq_tZ c11)) ?_
 refine pq (qpf bt) ?_
 refine pq (qm bt) ?_
 iterate 5 refine os ?_
 refine pq (qpt bt) ?_
 refine oE (eS (cT rfl (lS (lO ?_))))
 refine pq (qa bf) ?_
 refine oE (eS (lR (eR ?_)))
 obtain rfl := sj h
 exact eF1
 replace h := ifF c11 h
 refine pq (qb (p_neq_fZ c11)) ?_
 refine pq (qpf bf) ?_
 refine pq (qm bf) ?_
 refine pq (q_fieldP rfl fa33_2 rfl) ?_
 refine pq (ql (.one (sF r3 s3)) 0 sz30) ?_
 obtain ⟨n14, h13, h⟩ := bindS h
 obtain ⟨h13a, h13b, h13⟩ := atS_some h13
 refine pq (q_ixS rfl rfl h13a h13 (el30.trans (congrArg some h13b.symm))) ?_
 refine pq (q_loadI (v := iO n14) rfl sz3 (map_get h13) rfl rfl) ?_
 by_cases c15 : n14 ≠ 0
 replace h := ifT c15 h
 refine pq (qb (p_neq_tZ c15)) ?_
 refine pq (qpf bt) ?_
 refine oE (eS (cT rfl (lS (lO ?_))))
 refine pq (qa bf) ?_
 refine oE (eS (lR (eR ?_)))
 obtain rfl := sj h
 exact eF1
 replace h := ifF c15 h
 refine pq (qb (p_neq_fZ c15)) ?_
 refine pq (qpf bf) ?_
 refine oE (eS (cF rfl (lK (eS (lS (lO ?_))))))
 refine pq (q_fieldP rfl fa33_3 rfl) ?_
 refine pq (ql (.one (sF r3 s4)) 0 sz30) ?_
 refine pq (q_lenS rfl ty30 rfl rfl rfl rfl) ?_
 refine pq (qa (iO ((s4.l.length : Nat) : Int))) ?_
 refine oE (eS (lS (lS (lO ?_))))
 refine pq (q_fieldP rfl fa33_4 rfl) ?_
 refine pq (ql (.one (sF r2 s5)) 0 sz31) ?_
 refine pq (q_lenS rfl ty31 rfl rfl rfl rfl) ?_
 refine pq (qm (iO ((s4.l.length : Nat) : Int))) ?_
 by_cases c16 : ((s5.l.length : Nat) : Int) ≠ ((s4.l.length : Nat) : Int)
 replace h := ifT c16 h
 refine pq (qb (p_neq_tZ c16)) ?_
 refine pq (qm bt) ?_
 iterate 2 refine os ?_
 refine pq (qpt bt) ?_
 refine pq (qm bt) ?_
 iterate 8 refine os ?_
 refine pq (qpt bt) ?_
 refine oE (eS (cT rfl (lS (lO ?_))))
 refine pq (qa bf) ?_
 refine oE (eS (lR (eR ?_)))
 obtain rfl := sj h
 exact eF1
 replace h := ifF c16 h
 refine pq (qb (p_neq_fZ c16)) ?_
 refine pq (qm bf) ?_
 refine pq (qm (iO ((s4.l.length : Nat) : Int))) ?_
 by_cases c17 : ((s4.l.length : Nat) : Int) > 65536
 replace h := ifT c17 h
 refine pq (qb (p_gtr_tZ c17)) ?_
 refine pq (qpf bt) ?_
 refine pq (qm bt) ?_
 iterate 8 refine os ?_
 refine pq (qpt bt) ?_
 refine oE (eS (cT rfl (lS (lO ?_))))
 refine pq (qa bf) ?_
 refine oE (eS (lR (eR ?_)))
 obtain rfl := sj h
 exact eF1
 replace h := ifF c17 h
 refine pq (qb (p_gtr_fZ c17)) ?_
 refine pq (qpf bf) ?_
 refine pq (qm bf) ?_
 refine pq (q_fieldP rfl fa33_2 rfl) ?_
 refine pq (ql (.one (sF r3 s3)) 0 sz30) ?_
 refine pq (q_fieldP rfl fa33_0 rfl) ?_
 refine pq (ql (iO n1) 0 sz3) ?_
 obtain ⟨n20, h19, h⟩ := bindS h
 obtain ⟨h19a, h19b, h19⟩ := atS_some h19
 refine pq (q_ixS rfl rfl h19a h19 (el30.trans (congrArg some h19b.symm))) ?_
 refine pq (q_loadI (v := iO n20) rfl sz3 (map_get h19) rfl rfl) ?_
 refine pq (qm (iO ((s4.l.length : Nat) : Int))) ?_
 by_cases c21 : n20 ≠ ((s4.l.length : Nat) : Int)
 replace h := ifT c21 h
 refine pq (qb (p_neq_tZ c21)) ?_
 refine pq (qpf bt) ?_
 refine oE (eS (cT rfl (lS (lO ?_))))
 refine pq (qa bf) ?_
 refine oE (eS (lR (eR ?_)))
 obtain rfl := sj h
 exact eF1
 replace h := ifF c21 h
 refine pq (qb (p_neq_fZ c21)) ?_
 refine pq (qpf bf) ?_
 refine oE (eS (cF rfl (lK (eS (lS (lS (lO ?_)))))))
 refine pq (q_fieldP rfl fa33_0 rfl) ?_
 refine pq (ql (iO n1) 0 sz3) ?_
 refine pq (qm (iO 0)) ?_
 refine oE (eS (lB ?_))
 let S1 : Int → Unit → (Nat → D) → Nat → D := fun a kt g => ups g [(1, .one (.ptr k6 0 0)), (3, .one (iI ((s4.l.length : Nat) : Int))), (56, iO n1), (57, iO a)]
 let SL1 : Int → Unit → BL := fun a kt => ([[(k6, 5, [[iI n1, iI n2, sF r3 s3, sF r3 s4, sF r2 s5]])]] : BL)
 let G1 : Bool → Ex → St → Prop := fun u => endQ E1 [.tmp 2] (.fresh, [.one (bT u)])
 let Sx1 : Unit → Unit → (Nat → D) → Nat → D := fun a kt g => ups g []
 let SLx1 : Unit → Unit → BL := fun a kt => ([] : BL)
 let J1 : (Unit ⊕ Bool) → Ex → St → Prop := JX 91 0 Sx1 SLx1 G1
 refine L_loopS (csr_Right_b1 n1 n2 s3 s4) S1 SL1 J1 JX_n 0 h () (ups_self ⟨rfl, rfl, rfl, rfl, trivial⟩) [0] (by decide) rfl ?_ ?_
 rintro n49 _ g out h
 change csr_Right_b1 n1 n2 s3 s4 n49 = some out at h
 unfold csr_Right_b1 at h
 refine lS (lO ?_)
 by_cases c50 : n49 < n1
 replace h := ifT c50 h
 refine pq (qb (p_lss_tZ c50)) ?_
 refine oE (eS (lS (cT rfl (lK (eS (lS (lB (lS (lO ?_)))))))))
 refine pq (qm (iO n49)) ?_
 refine pq (qa (iO n49)) ?_
 refine oE (eS (lS ?_))
 refine L_still (by kernel_rfl) ?_
 refine sq (q_fieldP rfl fa33_2 rfl) ?_
 refine sq (ql (.one (sF r3 s3)) 0 sz30) ?_
 refine sq (qm (iO n49)) ?_
 obtain ⟨n53, h52, h⟩ := bindS h
 obtain ⟨h52a, h52b, h52⟩ := atS_some h52
 refine sq (q_ixS rfl rfl h52a h52 (el30.trans (congrArg some h52b.symm))) ?_
 refine sq (q_loadI (v := iO n53) rfl sz3 (map_get h52) rfl rfl) ?_
 refine sq (q_fieldP rfl fa33_2 rfl) ?_
 refine sq (ql (.one (sF r3 s3)) 0 sz30) ?_
 refine sq (qm (iO n49)) ?_
 refine sq (qb p_addY) ?_
 obtain ⟨n56, h55, h⟩ := bindS h
 obtain ⟨h55a, h55b, h55⟩ := atS_some h55
 refine sq (q_ixS rfl rfl h55a h55 (el30.trans (congrArg some h55b.symm))) ?_
 refine sq (q_loadI (v := iO n56) rfl sz3 (map_get h55) rfl rfl) ?_
 refine sq (qa (iO n53)) ?_
 refine sq (qa (iO n56)) ?_
 refine st_end (eS (lS ?_))
 refine L_still (by kernel_rfl) ?_
 refine sq (qm (iO n56)) ?_
 refine sq (qm (iO n53)) ?_
 by_cases c57 : n56 < n53
 replace h := ifT c57 h
 refine sq (qb (p_lss_tZ c57)) ?_
 refine sq (qm bt) ?_
 iterate 3 refine ss ?_
 refine sq (qpt bt) ?_
 refine sq (qm bt) ?_
 iterate 9 refine ss ?_
 refine sq (qpt bt) ?_
 refine st_end (eS (cT rfl (lS (lO ?_))))
 refine pq (qa bf) ?_
 refine oE (eS (lR (bR (eR ?_))))
 obtain rfl := sj h
 exact E_out (E_up (eF1))
 replace h := ifF c57 h
 refine sq (qb (p_lss_fZ c57)) ?_
 refine sq (qm bf) ?_
 refine sq (qm (iO n56)) ?_
 refine sq (qm (iO ((s4.l.length : Nat) : Int))) ?_
 by_cases c58 : n56 > ((s4.l.length : Nat) : Int)
 replace h := ifT c58 h
 refine sq (qb (p_gtr_tZ c58)) ?_
 refine sq (qpf bt) ?_
 refine sq (qm bt) ?_
 iterate 9 refine ss ?_
 refine sq (qpt bt) ?_
 refine st_end (eS (cT rfl (lS (lO ?_))))
 refine pq (qa bf) ?_
 refine oE (eS (lR (bR (eR ?_))))
 obtain rfl := sj h
 exact E_out (E_up (eF1))
 replace h := ifF c58 h
 refine sq (qb (p_gtr_fZ c58)) ?_
 refine sq (qpf bf) ?_
 refine sq (qm bf) ?_
 refine sq (q_fieldP rfl fa33_3 rfl) ?_
 refine sq (ql (.one (sF r3 s4)) 0 sz30) ?_
 refine sq (qm (iO n53)) ?_
 refine sq (qm (iO n56)) ?_
 obtain ⟨s59, h60, h⟩ := bindS h
 refine sq (q_sliceS (r := r3) h60 rfl ty30 rfl ty3 (no_some rfl (cutS_some h60).1.1 _) (no_some rfl (Int.le_trans (cutS_some h60).1.1 (cutS_some h60).1.2.1) _)) ?_
 refine sq (q_fieldP rfl fa33_1 rfl) ?_
 refine sq (ql (iO n2) 0 sz3) ?_
 obtain ⟨b62, h61, h⟩ := bindS h
 refine sq (qc (bO b62) [.one (sF r3 s59), iO n2] (csr_rises_r (m + 0) h61) (vw_cons (vd_one vc_s) (vw_cons (vd_one vc_v) vw_nil))) ?_
 rcases b62 with _ | _
 replace h := wF h
 refine sq (q_not rfl) ?_
 refine sq (qpf bt) ?_
 refine st_end (eS (cT rfl (lS (lO ?_))))
 refine pq (qa bf) ?_
 refine oE (eS (lR (bR (eR ?_))))
 obtain rfl := sj h
 exact E_out (E_up (eF1))
 replace h := wT h
 refine sq (q_not rfl) ?_
 refine sq (qpf bf) ?_
 refine st_end (eS (cF rfl (lK (bN (eS (lO ?_))))))
 refine pq (qb p_addY) ?_
 refine pq (qm (iO (IntKind.i64.wrap (n49 + 1)))) ?_
 refine oE ?_
 obtain rfl := sj h
 exact E_next () (ups_self ⟨rfl, rfl, rfl, rfl, trivial⟩) [0] (by decide) rfl
 replace h := ifF c50 h
 refine pq (qb (p_lss_fZ c50)) ?_
 refine oE (eS (lS (cF rfl (L_exit ?_))))
 refine E_seqX ?_
 obtain rfl := sj h
 refine E_out ?_
 exact (E_exit () (ups_self trivial) [] (by decide) rfl)
 rintro (_ | u) h
 refine J_x (fun kt g => ?_)
 replace h := elimL h
 refine bH (eS (lS (lO ?_)))
 refine pq (qa bt) ?_
 refine oE (eS (lR ?_))
 obtain rfl := sj h
 exact eF1
 obtain rfl := Option.some.inj (elimR h)
 exact J_up (fun s hs => hs)
noncomputable def pull_sure (a0 : Int × Int × Sl (Int) × Sl (Int) × Sl (Int)) : Option ((Int × Int × Sl (Int) × Sl (Int) × Sl (Int))) :=
 match a0 with
 | (n1, n2, s3, s4, s5) => ((csr_Right (n1, n2, s3, s4, s5)).bind fun b9 => (if b9 = true then some (n1, n2, s3, s4, s5) else some (0, 0, (⟨true, 1, ([0] : List (Int))⟩ : Sl (Int)), (⟨false, 0, []⟩ : Sl (Int)), (⟨false, 0, []⟩ : Sl (Int)))))
theorem pull_sure_r (m : Nat) {a0 : Int × Int × Sl (Int) × Sl (Int) × Sl (Int)} {out : (Int × Int × Sl (Int) × Sl (Int) × Sl (Int))} (h : pull_sure a0 = some out) : RunsX E1 (m + 3) 35 [.agg (r32 a0)] [.agg (r32 out)] := by
 obtain ⟨n1, n2, s3, s4, s5⟩ := a0
 refine fn_X rfl (by rw [E1_fn]; exact show fiOf Tryd.prog 35 = _ by unfold fiOf; rw [Tryd.func35]; unfold Tryd.f35; rfl) rfl ?_
 dsimp only
 unfold pull_sure at h
 refine lS (lO ?_)
 refine ol_new rfl rfl rfl (q_box ty33 rfl (cs := [iI n1, iI n2, sF r3 s3, sF r3 s4, sF r2 s5]) rfl rfl) (fun k6 => ?_)
 refine ol_new rfl rfl rfl (q_alloc ty33 (row := [iI 0, iI 0, nC, nC, nC]) rfl rfl) (fun k7 => ?_)
 refine oE (eS (lS (lS (lO ?_))))
 refine pq (ql (.agg [iI n1, iI n2, sF r3 s3, sF r3 s4, sF r2 s5]) 1 sz33) ?_
 obtain ⟨b9, h8, h⟩ := bindS h
 refine pq (qc (bO b9) [.agg [iI n1, iI n2, sF r3 s3, sF r3 s4, sF r2 s5]] (csr_Right_r (m + 0) h8) (vw_cons (vd_agg (vc_cons vc_v (vc_cons vc_v (vc_cons vc_s (vc_cons vc_s (vc_cons vc_s vc_nil)))))) vw_nil)) ?_
 refine oE (eS ?_)
 rcases b9 with _ | _
 replace h := wF h
 refine cF rfl (lK (eS (lS (lO ?_))))
 refine ol_new rfl rfl rfl (q_bslice (cs := [iI 0]) (es := (([0] : List (Int))).map (rowC r3)) ty30 rfl ty3 rfl rfl rfl rfl rfl) (fun k10 => ?_)
 refine pq (q_build (cs := [iI 0, iI 0, .own k10 0 (([0] : List (Int))).length, nC, nC]) ty33 rfl pl33 rfl) ?_
 refine ow [[iI 0, iI 0, .own k10 0 (([0] : List (Int))).length, nC, nC]] 1 sz33 ?_
 refine oE (eS (lR ?_))
 obtain rfl := sj h
 exact E_endX (.inr rfl) (res_cell (d := .agg [iI 0, iI 0, .own k10 0 (([0] : List (Int))).length, nC, nC]) 1 rfl sz33 rfl rfl rfl rfl res_nil) (vw_cons (vd_agg (vc_cons vc_v (vc_cons vc_v (vc_cons (vc_own (r := r3) 0 rfl (fun x h m => rfl)) (vc_cons vc_s (vc_cons vc_s vc_nil)))))) vw_nil) oG rfl
 replace h := wT h
 refine cT rfl (lS (lO ?_))
 refine pq (ql (.agg [iI n1, iI n2, sF r3 s3, sF r3 s4, sF r2 s5]) 1 sz33) ?_
 refine ow [[iI n1, iI n2, sF r3 s3, sF r3 s4, sF r2 s5]] 0 sz33 ?_
 refine oE (eS (lR (eR ?_)))
 obtain rfl := sj h
 exact E_endX (.inr rfl) (res_cell (d := .agg [iI n1, iI n2, sF r3 s3, sF r3 s4, sF r2 s5]) 0 rfl sz33 rfl rfl rfl rfl res_nil) (vw_cons (vd_agg (vc_cons vc_v (vc_cons vc_v (vc_cons vc_s (vc_cons vc_s (vc_cons vc_s vc_nil)))))) vw_nil) oG rfl
noncomputable def flags_words (n1 : Int) : Option (Int) :=
 ((divO .i64 (IntKind.i64.wrap ((minI (maxI n1 0) 4096) + 63)) 64).bind fun n2 => some n2)
theorem flags_words_r (m : Nat) {n1 : Int} {out : Int} (h : flags_words n1 = some out) : RunsP E1 (m + 1) 88 [.one (iT .i64 n1)] (.fresh, [.one (iT .i64 out)]) := by
 refine fn_F rfl (by rw [E1_fn]; exact show fiOf Tryd.prog 88 = _ by unfold fiOf; rw [Tryd.func88]; unfold Tryd.f88; rfl) rfl ?_
 dsimp only
 unfold flags_words at h
 refine lS (lO ?_)
 refine pq (qa (iO 0)) ?_
 refine oN ?_
 refine pq (qm (iO n1)) ?_
 refine pq ((q_minmax rfl rfl ty3 rfl rfl).2 rfl) ?_
 refine pq ((q_minmax rfl rfl ty3 rfl rfl).1 rfl) ?_
 refine pq (qb p_addY) ?_
 obtain ⟨n2, h3, h⟩ := bindS h
 refine pq (q_bin rfl rfl (divO_p h3) rfl) ?_
 refine pq (qa (iO n2)) ?_
 refine oE (eS (lR ?_))
 obtain rfl := sj h
 exact eF1
noncomputable def flags_within (s1 : Sl (Int)) (n2 : Int) : Option (Bool) :=
 (if n2 ≥ 0 then ((divO .i64 n2 64).bind fun n4 => (if n4 < ((s1.l.length : Nat) : Int) then some true else some false)) else some false)
theorem flags_within_r (m : Nat) {s1 : Sl (Int)} {n2 : Int} {out : Bool} (h : flags_within s1 n2 = some out) : RunsP E1 (m + 1) 66 [.one (Sl.t r60 s1), .one (iT .i64 n2)] (.fresh, [.one (bT out)]) := by
 refine fn_F rfl (by rw [E1_fn]; exact show fiOf Tryd.prog 66 = _ by unfold fiOf; rw [Tryd.func66]; unfold Tryd.f66; rfl) rfl ?_
 dsimp only
 unfold flags_within at h
 refine lS (lO ?_)
 refine pq (qa bf) ?_
 refine oN ?_
 refine pq (qm (iO n2)) ?_
 by_cases c3 : n2 ≥ 0
 replace h := ifT c3 h
 refine pq (qb (p_geq_tZ c3)) ?_
 refine pq (qm bt) ?_
 refine pq (qm (iO n2)) ?_
 obtain ⟨n4, h5, h⟩ := bindS h
 refine pq (q_bin rfl rfl (divO_p h5) rfl) ?_
 refine pq (qm (.one (sF r60 s1))) ?_
 refine pq (q_lenS rfl ty26 rfl rfl rfl rfl) ?_
 by_cases c6 : n4 < ((s1.l.length : Nat) : Int)
 replace h := ifT c6 h
 refine pq (qb (p_lss_tZ c6)) ?_
 refine pq (qpt bt) ?_
 refine pq (qa bt) ?_
 refine oE (eS (lR ?_))
 obtain rfl := sj h
 exact eF1
 replace h := ifF c6 h
 refine pq (qb (p_lss_fZ c6)) ?_
 refine pq (qpt bf) ?_
 refine pq (qa bf) ?_
 refine oE (eS (lR ?_))
 obtain rfl := sj h
 exact eF1
 replace h := ifF c3 h
 refine pq (qb (p_geq_fZ c3)) ?_
 refine pq (qm bf) ?_
 iterate 5 refine os ?_
 refine pq (qpf bf) ?_
 refine pq (qa bf) ?_
 refine oE (eS (lR ?_))
 obtain rfl := sj h
 exact eF1
noncomputable def flags_Next_b2 (n6 : Int) (n46 : Int) (n50 : Int) (_a : Unit) : Option (Unit ⊕ (Int ⊕ (Unit ⊕ Empty))) :=
 (if n50 ≠ 0 then ((TZ n50).bind fun n56 => some (.inr (.inl (IntKind.i64.wrap ((IntKind.i64.wrap ((IntKind.i64.wrap (n6 + 1)) * 64)) + (IntKind.i64.wrap ((IntKind.i64.wrap (n46 * 64)) + n56))))))) else some (.inr (.inr (.inl ()))))
noncomputable def flags_Next_b1 (n6 : Int) (s19 : Sl (Int)) (n46 : Int) : Option (Int ⊕ (Int ⊕ (Unit ⊕ Empty))) :=
 (if n46 < ((s19.l.length : Nat) : Int) then ((atS 1 s19 n46).bind fun n50 => ((loopO (flags_Next_b2 n6 n46 n50) ()).bind ((Sum.elim (fun n57 => some (.inr (.inl n57))) (Sum.elim (fun _ => some (.inl (IntKind.i64.wrap (n46 + 1)))) (fun u => u.elim)))))) else some (.inr (.inr (.inl ()))))
noncomputable def flags_Next (s1 : Sl (Int)) (n2 : Int) : Option (Int) :=
 ((flags_within s1 (maxI n2 0)).bind fun b5 => (if b5 = true then ((divO .i64 (maxI n2 0) 64).bind fun n6 => ((atS 1 s1 n6).bind fun n10 => ((modO (maxI n2 0) 64).bind fun n11 => ((shr1 .u64 n10 (IntKind.u64.wrap n11)).bind fun n13 => (if n13 ≠ 0 then ((TZ n13).bind fun n17 => some (IntKind.i64.wrap ((maxI n2 0) + n17))) else ((cutS 1 s1 (IntKind.i64.wrap (n6 + 1)) ((s1.l.length : Nat) : Int)).bind fun s19 => ((loopO (flags_Next_b1 n6 s19) 0).bind ((Sum.elim (fun n58 => some n58) (Sum.elim (fun _ => some (-1)) (fun u => u.elim))))))))))) else some (-1)))
theorem flags_Next_r (m : Nat) {s1 : Sl (Int)} {n2 : Int} {out : Int} (h : flags_Next s1 n2 = some out) : RunsP E1 (m + 3) 89 [.one (Sl.t r60 s1), .one (iT .i64 n2)] (.fresh, [.one (iT .i64 out)]) := by
 refine fn_F rfl (by rw [E1_fn]; exact show fiOf Tryd.prog 89 = _ by unfold fiOf; rw [Tryd.func89]; unfold Tryd.f89; rfl) rfl ?_
 dsimp only
 unfold flags_Next at h
 refine lS (lO ?_)
 refine ol_new rfl rfl rfl (q_alloc ty3 (row := [iI 0]) rfl rfl) (fun k3 => ?_)
 refine oN ?_
 refine pq (qm (iO n2)) ?_
 refine pq ((q_minmax rfl rfl ty3 rfl rfl).2 rfl) ?_
 refine pq (qa (iO (maxI n2 0))) ?_
 refine oE (eS (lS (lS (lO ?_))))
 refine pq (qm (.one (sF r60 s1))) ?_
 refine pq (qm (iO (maxI n2 0))) ?_
 obtain ⟨b5, h4, h⟩ := bindS h
 refine pq (qc (bO b5) [.one (sF r60 s1), .one (iI (maxI n2 0))] (flags_within_r (m + 1) h4) (vw_cons (vd_one vc_s) (vw_cons (vd_one vc_v) vw_nil))) ?_
 rcases b5 with _ | _
 replace h := wF h
 refine pq (q_not rfl) ?_
 refine oE (eS (cT rfl (lS (lO ?_))))
 refine ow [[iI (-1)]] 0 sz3 ?_
 refine oE (eS (lR (eR ?_)))
 obtain rfl := sj h
 exact E_endF (.inr rfl) (res_cell (d := .one (iI (-1))) 0 rfl sz3 rfl rfl rfl rfl res_nil) (vw_cons (vd_one vc_v) vw_nil) oP rfl rfl
 replace h := wT h
 refine pq (q_not rfl) ?_
 refine oE (eS (cF rfl (lK (eS (lS (lS (lO ?_)))))))
 refine pq (qm (.one (sF r60 s1))) ?_
 refine pq (qm (iO (maxI n2 0))) ?_
 obtain ⟨n6, h7, h⟩ := bindS h
 refine pq (q_bin rfl rfl (divO_p h7) rfl) ?_
 obtain ⟨n10, h9, h⟩ := bindS h
 obtain ⟨h9a, h9b, h9⟩ := atS_some h9
 refine pq (q_ixS rfl rfl h9a h9 (el26.trans (congrArg some h9b.symm))) ?_
 refine pq (q_loadI (v := .one (uI n10)) rfl sz60 (map_get h9) rfl rfl) ?_
 refine pq (qm (iO (maxI n2 0))) ?_
 obtain ⟨n11, h12, h⟩ := bindS h
 refine pq (q_bin rfl rfl (modO_p h12) rfl) ?_
 refine pq (q_conv rfl (cv3_110_i64 _) rfl) ?_
 obtain ⟨n13, h14, h⟩ := bindS h
 refine pq (q_bin rfl rfl (p_shr h14) rfl) ?_
 refine pq (qa (.one (uI n13))) ?_
 refine oN ?_
 refine pq (qm (.one (uI n13))) ?_
 by_cases c15 : n13 ≠ 0
 replace h := ifT c15 h
 refine pq (qb (p_neq_tZ c15)) ?_
 refine oE (eS (cT rfl (lS (lO ?_))))
 refine pq (qm (iO (maxI n2 0))) ?_
 refine pq (qm (.one (uI n13))) ?_
 obtain ⟨n17, h16, h⟩ := bindS h
 refine pq (qc (iO n17) [.one (uI n13)] (TZ_r (m + 1) h16) (vw_cons (vd_one vc_v) vw_nil)) ?_
 refine pq (qb p_addY) ?_
 refine ow [[iI (IntKind.i64.wrap ((maxI n2 0) + n17))]] 0 sz3 ?_
 refine oE (eS (lR (eR ?_)))
 obtain rfl := sj h
 exact E_endF (.inr rfl) (res_cell (d := .one (iI (IntKind.i64.wrap ((maxI n2 0) + n17)))) 0 rfl sz3 rfl rfl rfl rfl res_nil) (vw_cons (vd_one vc_v) vw_nil) oP rfl rfl
 replace h := ifF c15 h
 refine pq (qb (p_neq_fZ c15)) ?_
 refine oE (eS (cF rfl (lK (eS (lS (lO ?_))))))
 refine pq (qm (iO (maxI n2 0))) ?_
 refine pq (q_bin rfl rfl (divO_p h7) rfl) ?_
 refine pq (qb p_addY) ?_
 refine ol_new rfl rfl rfl (q_alloc ty3 (row := [iI 0]) rfl rfl) (fun k18 => ?_)
 refine ow [[iI (IntKind.i64.wrap (n6 + 1))]] 0 sz3 ?_
 refine oE (eS (lS (lS (lO ?_))))
 refine pq (qm (.one (sF r60 s1))) ?_
 refine pq (ql (iO (IntKind.i64.wrap (n6 + 1))) 0 sz3) ?_
 obtain ⟨s19, h20, h⟩ := bindS h
 refine pq (q_sliceS (r := r60) h20 rfl ty26 rfl ty60 (no_some rfl (cutS_some h20).1.1 _) (no_none _)) ?_
 refine ol_scallN (args := [.one (sF r60 s19)]) rfl rfl rfl ax97 (by rw [E1_fn]; exact show fiOf Tryd.prog 97 = _ by unfold fiOf; rw [Tryd.func97]; unfold Tryd.f97; rfl) rfl rfl rfl ?_
 dsimp only
 refine lS (lO ?_)
 refine ol_new rfl rfl rfl (q_box ty26 rfl (cs := [sF r60 s19]) rfl rfl) (fun k21 => ?_)
 refine pq (qa (.one (.p true (.v .nilFunc)))) ?_
 refine oN ?_
 refine pq (q_mkfun rfl rfl) ?_
 refine pq (qa (.one (.clo (.func 98) [] [.ptr k21 0 0]))) ?_
 refine oE (eS (lR ?_))
 refine E_call (v := .one (.clo (.func 98) [] [.ptr k21 0 0])) (.inr rfl) (res_tmp (d := .one (.clo (.func 98) [] [.ptr k21 0 0])) rfl res_nil) rfl ?_
 refine oE (eS (lB ?_))
 refine L_range rfl (by rw [E1_fn]; exact show fiOf Tryd.prog 98 = _ by unfold fiOf; rw [Tryd.func98]; unfold Tryd.f98; rfl) rfl rfl (fun k22 => ?_)
 dsimp only
 refine lS (lO ?_)
 refine pq (ql (.one (sF r60 s19)) 1 sz26) ?_
 refine pq (q_lenS rfl ty26 rfl rfl rfl rfl) ?_
 refine pq (qm (iO 0)) ?_
 refine oE (eS (lB ?_))
 let S1 : Int → Unit → (Nat → D) → Nat → D := fun a kt g => ups g [(0, .one (.yld k22)), (5, .one (sF r60 s19)), (6, .one (iI ((s19.l.length : Nat) : Int))), (7, iO a)]
 let SL1 : Int → Unit → BL := fun a kt => ([[(k22, 0, [])], [(k3, 1, [[iI 0]])], [(k18, 1, [[iI (IntKind.i64.wrap (n6 + 1))]])]] : BL)
 let G1 : Empty → Ex → St → Prop := fun u => u.elim
 let Sx1_1 : Unit → Unit → (Nat → D) → Nat → D := fun a kt g => ups g []
 let SLx1_1 : Unit → Unit → BL := fun a kt => ([[(k3, 1, [[iI 0]])], [(k18, 1, [[iI (IntKind.i64.wrap (n6 + 1))]])], [(k22, 0, [])]] : BL)
 let Sx1_0 : Int → Unit → (Nat → D) → Nat → D := fun a kt g => ups g []
 let SLx1_0 : Int → Unit → BL := fun a kt => ([[(k3, 1, [[iI a]])], [(k18, 1, [[iI (IntKind.i64.wrap (n6 + 1))]])], [(k22, 0, [[]])]] : BL)
 let J1 : (Int ⊕ (Unit ⊕ Empty)) → Ex → St → Prop := JE 27 .ret Sx1_0 SLx1_0 (JE 27 (.exit 0) Sx1_1 SLx1_1 (JU G1))
 refine L_loopS (flags_Next_b1 n6 s19) S1 SL1 J1 (JE_n rfl (JE_n rfl (JU_n))) 0 h () (ups_self ⟨rfl, rfl, rfl, rfl, trivial⟩) [0, 3, 2] (by decide) rfl ?_ ?_
 rintro n46 _ g out h
 change flags_Next_b1 n6 s19 n46 = some out at h
 unfold flags_Next_b1 at h
 refine lS (lO ?_)
 by_cases c47 : n46 < ((s19.l.length : Nat) : Int)
 replace h := ifT c47 h
 refine pq (qb (p_lss_tZ c47)) ?_
 refine oE (eS (lS (cT rfl (lK (eS (lS (lB (lS (lO ?_)))))))))
 refine pq (qm (iO n46)) ?_
 obtain ⟨n50, h49, h⟩ := bindS h
 obtain ⟨h49a, h49b, h49⟩ := atS_some h49
 refine pq (q_ixS rfl rfl h49a h49 (el26.trans (congrArg some h49b.symm))) ?_
 refine pq (q_loadI (v := .one (uI n50)) rfl sz60 (map_get h49) rfl rfl) ?_
 refine pq (qa (iO n46)) ?_
 refine pq (qa (.one (uI n50))) ?_
 refine oE (eS (lB ?_))
 let S2 : Unit → Unit → (Nat → D) → Nat → D := fun a kt g => ups g [(0, .one (.yld k22)), (3, iO n46), (4, .one (uI n50)), (5, .one (sF r60 s19)), (6, .one (iI ((s19.l.length : Nat) : Int))), (7, iO n46)]
 let SL2 : Unit → Unit → BL := fun a kt => ([[(k22, 0, [])], [(k3, 1, [[iI 0]])], [(k18, 1, [[iI (IntKind.i64.wrap (n6 + 1))]])]] : BL)
 let G2 : Empty → Ex → St → Prop := fun u => u.elim
 let Sx2_1 : Unit → Unit → (Nat → D) → Nat → D := fun a kt g => ups g [(0, .one (.yld k22)), (5, .one (sF r60 s19)), (6, .one (iI ((s19.l.length : Nat) : Int))), (7, iO n46)]
 let SLx2_1 : Unit → Unit → BL := fun a kt => ([[(k22, 0, [])], [(k3, 1, [[iI 0]])], [(k18, 1, [[iI (IntKind.i64.wrap (n6 + 1))]])]] : BL)
 let Sx2_0 : Int → Unit → (Nat → D) → Nat → D := fun a kt g => ups g []
 let SLx2_0 : Int → Unit → BL := fun a kt => ([[(k3, 1, [[iI a]])], [(k18, 1, [[iI (IntKind.i64.wrap (n6 + 1))]])], [(k22, 0, [[]])]] : BL)
 let J2 : (Int ⊕ (Unit ⊕ Empty)) → Ex → St → Prop := JE 27 .ret Sx2_0 SLx2_0 (JE 27 (.exit 2) Sx2_1 SLx2_1 (JU G2))
 refine L_loopS (flags_Next_b2 n6 n46 n50) S2 SL2 J2 (JE_n rfl (JE_n rfl (JU_n))) () h () (ups_self ⟨rfl, rfl, rfl, rfl, rfl, rfl, trivial⟩) [0, 1, 2] (by decide) rfl ?_ ?_
 rintro _ _ g out h
 change flags_Next_b2 n6 n46 n50 () = some out at h
 unfold flags_Next_b2 at h
 refine lS (lS (lO ?_))
 refine pq (qm (.one (uI n50))) ?_
 by_cases c54 : n50 ≠ 0
 replace h := ifT c54 h
 refine pq (qb (p_neq_tZ c54)) ?_
 refine oE (eS (cT rfl (lK (eS (lS (lB (lS (lO ?_))))))))
 refine pq (qm (.one (.yld k22))) ?_
 refine pq (qm (iO n46)) ?_
 refine pq (qb p_mulY) ?_
 refine pq (qm (.one (uI n50))) ?_
 obtain ⟨n56, h55, h⟩ := bindS h
 refine pq (qc (iO n56) [.one (uI n50)] (TZ_r (m + 0) h55) (vw_cons (vd_one vc_v) vw_nil)) ?_
 refine pq (qb p_addY) ?_
 refine ol_yield (args := [.one (iI (IntKind.i64.wrap ((IntKind.i64.wrap (n46 * 64)) + n56)))]) (p := 0) rfl rfl rfl rfl rfl rfl rfl rfl rfl ?_
 refine lO ?_
 refine pq (qa (.one (iI (IntKind.i64.wrap ((IntKind.i64.wrap (n46 * 64)) + n56))))) ?_
 refine oE ?_
 refine E_asg ?_
 refine lB (lS (lO ?_))
 refine pq (ql (iO (IntKind.i64.wrap (n6 + 1))) 2 sz3) ?_
 refine pq (qb p_mulY) ?_
 refine pq (qm (.one (iI (IntKind.i64.wrap ((IntKind.i64.wrap (n46 * 64)) + n56))))) ?_
 refine pq (qb p_addY) ?_
 refine ow [[iI (IntKind.i64.wrap ((IntKind.i64.wrap ((IntKind.i64.wrap (n6 + 1)) * 64)) + (IntKind.i64.wrap ((IntKind.i64.wrap (n46 * 64)) + n56))))]] 1 sz3 ?_
 refine oE (eS (lR (bR ?_)))
 refine E_roundX (p := 0) (es := [[]]) rfl rfl rfl rfl ?_
 refine pq (q_not rfl) ?_
 refine oE (eS (cT rfl (lR (bR (eR ?_)))))
 obtain rfl := sj h
 refine E_out ?_
 exact (E_je () (ups_self trivial) [1, 2, 0] (by decide) rfl)
 replace h := ifF c54 h
 refine pq (qb (p_neq_fZ c54)) ?_
 refine oE (eS (cF rfl (L_exit ?_)))
 refine E_seqX ?_
 obtain rfl := sj h
 refine E_out ?_
 exact E_js ((E_je () (ups_self ⟨rfl, rfl, rfl, rfl, trivial⟩) [0, 1, 2] (by decide) rfl))
 rintro (n57 | _ | u) h
 refine J_e (fun kt g => ?_)
 replace h := elimL h
 refine bR (bR (eR ?_))
 obtain rfl := sj h
 refine E_out ?_
 exact (E_je () (ups_self trivial) [0, 1, 2] (by decide) rfl)
 refine J_s (J_e (fun kt g => ?_))
 replace h := elimL (elimR h)
 refine bH (bN (eS (lO ?_)))
 refine pq (qb p_addY) ?_
 refine pq (qm (iO (IntKind.i64.wrap (n46 + 1)))) ?_
 refine oE ?_
 obtain rfl := sj h
 exact E_next () (ups_self ⟨rfl, rfl, rfl, rfl, trivial⟩) [0, 1, 2] (by decide) rfl
 exact u.elim
 replace h := ifF c47 h
 refine pq (qb (p_lss_fZ c47)) ?_
 refine oE (eS (lS (cF rfl (L_exit ?_))))
 refine E_seqX ?_
 obtain rfl := sj h
 refine E_out ?_
 exact E_js ((E_je () (ups_self trivial) [1, 2, 0] (by decide) rfl))
 rintro (n58 | _ | u) h
 refine J_e (fun kt g => ?_)
 replace h := elimL h
 refine bR ?_
 refine E_range (p := 2) (.inr rfl) rfl ?_
 refine bR (eR ?_)
 obtain rfl := sj h
 exact E_endF (.inr rfl) (res_cell (d := iO n58) 0 rfl sz3 rfl rfl rfl rfl res_nil) (vw_cons (vd_one vc_v) vw_nil) oP rfl rfl
 refine J_s (J_e (fun kt g => ?_))
 replace h := elimL (elimR h)
 refine bH ?_
 refine E_range (p := 2) (.inl rfl) rfl ?_
 refine bN (eS (lS (lO ?_)))
 refine ow [[iI (-1)]] 0 sz3 ?_
 refine oE (eS (lR ?_))
 obtain rfl := sj h
 exact E_endF (.inr rfl) (res_cell (d := .one (iI (-1))) 0 rfl sz3 rfl rfl rfl rfl res_nil) (vw_cons (vd_one vc_v) vw_nil) oP rfl rfl
 exact u.elim
noncomputable def flags_Right (s1 : Sl (Int)) (n2 : Int) : Option (Bool) :=
 (if n2 ≥ 0 then (if n2 ≤ 4096 then ((flags_words n2).bind fun n6 => (if ((s1.l.length : Nat) : Int) = n6 then ((flags_Next s1 n2).bind fun n9 => (if n9 < 0 then some true else some false)) else some false)) else some false) else some false)
theorem flags_Right_r (m : Nat) {s1 : Sl (Int)} {n2 : Int} {out : Bool} (h : flags_Right s1 n2 = some out) : RunsP E1 (m + 4) 65 [.one (Sl.t r60 s1), .one (iT .i64 n2)] (.fresh, [.one (bT out)]) := by
 refine fn_F rfl (by rw [E1_fn]; exact show fiOf Tryd.prog 65 = _ by unfold fiOf; rw [Tryd.func65]; unfold Tryd.f65; rfl) rfl ?_
 dsimp only
 unfold flags_Right at h
 refine lS (lO ?_)
 refine pq (qa bf) ?_
 refine oN ?_
 refine pq (qm (iO n2)) ?_
 by_cases c3 : n2 ≥ 0
 replace h := ifT c3 h
 refine pq (qb (p_geq_tZ c3)) ?_
 refine pq (qm bt) ?_
 refine pq (qm (iO n2)) ?_
 by_cases c4 : n2 ≤ 4096
 replace h := ifT c4 h
 refine pq (qb (p_leq_tZ c4)) ?_
 refine pq (qpt bt) ?_
 refine pq (qm bt) ?_
 refine pq (qm (.one (sF r60 s1))) ?_
 refine pq (q_lenS rfl ty26 rfl rfl rfl rfl) ?_
 refine pq (qm (iO n2)) ?_
 obtain ⟨n6, h5, h⟩ := bindS h
 refine pq (qc (iO n6) [iO n2] (flags_words_r (m + 2) h5) (vw_cons (vd_one vc_v) vw_nil)) ?_
 by_cases c7 : ((s1.l.length : Nat) : Int) = n6
 replace h := ifT c7 h
 refine pq (qb (p_eql_tZ c7)) ?_
 refine pq (qpt bt) ?_
 refine pq (qm bt) ?_
 refine pq (qm (.one (sF r60 s1))) ?_
 refine pq (qm (iO n2)) ?_
 obtain ⟨n9, h8, h⟩ := bindS h
 refine pq (qc (iO n9) [.one (sF r60 s1), iO n2] (flags_Next_r (m + 0) h8) (vw_cons (vd_one vc_s) (vw_cons (vd_one vc_v) vw_nil))) ?_
 by_cases c10 : n9 < 0
 replace h := ifT c10 h
 refine pq (qb (p_lss_tZ c10)) ?_
 refine pq (qpt bt) ?_
 refine pq (qa bt) ?_
 refine oE (eS (lR ?_))
 obtain rfl := sj h
 exact eF1
 replace h := ifF c10 h
 refine pq (qb (p_lss_fZ c10)) ?_
 refine pq (qpt bf) ?_
 refine pq (qa bf) ?_
 refine oE (eS (lR ?_))
 obtain rfl := sj h
 exact eF1
 replace h := ifF c7 h
 refine pq (qb (p_eql_fZ c7)) ?_
 refine pq (qpt bf) ?_
 refine pq (qm bf) ?_
 iterate 4 refine os ?_
 refine pq (qpf bf) ?_
 refine pq (qa bf) ?_
 refine oE (eS (lR ?_))
 obtain rfl := sj h
 exact eF1
 replace h := ifF c4 h
 refine pq (qb (p_leq_fZ c4)) ?_
 refine pq (qpt bf) ?_
 refine pq (qm bf) ?_
 iterate 5 refine os ?_
 refine pq (qpf bf) ?_
 refine pq (qm bf) ?_
 iterate 4 refine os ?_
 refine pq (qpf bf) ?_
 refine pq (qa bf) ?_
 refine oE (eS (lR ?_))
 obtain rfl := sj h
 exact eF1
 replace h := ifF c3 h
 refine pq (qb (p_geq_fZ c3)) ?_
 refine pq (qm bf) ?_
 iterate 2 refine os ?_
 refine pq (qpf bf) ?_
 refine pq (qm bf) ?_
 iterate 5 refine os ?_
 refine pq (qpf bf) ?_
 refine pq (qm bf) ?_
 iterate 4 refine os ?_
 refine pq (qpf bf) ?_
 refine pq (qa bf) ?_
 refine oE (eS (lR ?_))
 obtain rfl := sj h
 exact eF1
noncomputable def flags_bit (n1 : Int) : Option (Int) :=
 ((modO n1 64).bind fun n2 => ((shl1 .u64 1 (IntKind.u64.wrap n2)).bind fun n4 => some n4))
theorem flags_bit_r (m : Nat) {n1 : Int} {out : Int} (h : flags_bit n1 = some out) : RunsP E1 (m + 1) 67 [.one (iT .i64 n1)] (.fresh, [.one (iT .u64 out)]) := by
 refine fn_F rfl (by rw [E1_fn]; exact show fiOf Tryd.prog 67 = _ by unfold fiOf; rw [Tryd.func67]; unfold Tryd.f67; rfl) rfl ?_
 dsimp only
 unfold flags_bit at h
 refine lS (lO ?_)
 refine pq (qa (.one (uI 0))) ?_
 refine oN ?_
 refine pq (qm (iO n1)) ?_
 obtain ⟨n2, h3, h⟩ := bindS h
 refine pq (q_bin rfl rfl (modO_p h3) rfl) ?_
 refine pq (q_conv rfl (cv3_110_i64 _) rfl) ?_
 obtain ⟨n4, h5, h⟩ := bindS h
 refine pq (q_bin rfl rfl (p_shl h5) rfl) ?_
 refine pq (qa (.one (uI n4))) ?_
 refine oE (eS (lR ?_))
 obtain rfl := sj h
 exact eF1
noncomputable def flags_Has (s1 : Sl (Int)) (n2 : Int) : Option (Bool) :=
 ((flags_within s1 n2).bind fun b4 => (if b4 = true then ((divO .i64 n2 64).bind fun n5 => ((atS 1 s1 n5).bind fun n9 => ((flags_bit n2).bind fun n11 => (if (andI .u64 n9 n11) ≠ 0 then some true else some false)))) else some false))
theorem flags_Has_r (m : Nat) {s1 : Sl (Int)} {n2 : Int} {out : Bool} (h : flags_Has s1 n2 = some out) : RunsP E1 (m + 2) 38 [.one (Sl.t r60 s1), .one (iT .i64 n2)] (.fresh, [.one (bT out)]) := by
 refine fn_F rfl (by rw [E1_fn]; exact show fiOf Tryd.prog 38 = _ by unfold fiOf; rw [Tryd.func38]; unfold Tryd.f38; rfl) rfl ?_
 dsimp only
 unfold flags_Has at h
 refine lS (lO ?_)
 refine pq (qa bf) ?_
 refine oE (eS (lS ?_))
 refine L_still (by kernel_rfl) ?_
 refine sq (qm (.one (sF r60 s1))) ?_
 refine sq (qm (iO n2)) ?_
 obtain ⟨b4, h3, h⟩ := bindS h
 refine sq (qc (bO b4) [.one (sF r60 s1), iO n2] (flags_within_r (m + 0) h3) (vw_cons (vd_one vc_s) (vw_cons (vd_one vc_v) vw_nil))) ?_
 refine sq (qm (bO b4)) ?_
 rcases b4 with _ | _
 replace h := wF h
 iterate 9 refine ss ?_
 refine sq (qpf bf) ?_
 refine sq (qa bf) ?_
 refine st_end (eS (lR ?_))
 obtain rfl := sj h
 exact eF1
 replace h := wT h
 refine sq (qm (.one (sF r60 s1))) ?_
 refine sq (qm (iO n2)) ?_
 obtain ⟨n5, h6, h⟩ := bindS h
 refine sq (q_bin rfl rfl (divO_p h6) rfl) ?_
 obtain ⟨n9, h8, h⟩ := bindS h
 obtain ⟨h8a, h8b, h8⟩ := atS_some h8
 refine sq (q_ixS rfl rfl h8a h8 (el26.trans (congrArg some h8b.symm))) ?_
 refine sq (q_loadI (v := .one (uI n9)) rfl sz60 (map_get h8) rfl rfl) ?_
 refine sq (qm (iO n2)) ?_
 obtain ⟨n11, h10, h⟩ := bindS h
 refine sq (qc (.one (uI n11)) [iO n2] (flags_bit_r (m + 0) h10) (vw_cons (vd_one vc_v) vw_nil)) ?_
 refine sq (q_bin rfl rfl (p_and _ _ _ _ _ _ _) rfl) ?_
 by_cases c12 : (andI .u64 n9 n11) ≠ 0
 replace h := ifT c12 h
 refine sq (qb (p_neq_tZ c12)) ?_
 refine sq (qpt bt) ?_
 refine sq (qa bt) ?_
 refine st_end (eS (lR ?_))
 obtain rfl := sj h
 exact eF1
 replace h := ifF c12 h
 refine sq (qb (p_neq_fZ c12)) ?_
 refine sq (qpt bf) ?_
 refine sq (qa bf) ?_
 refine st_end (eS (lR ?_))
 obtain rfl := sj h
 exact eF1
noncomputable def devec_Right_b1 (s2 : Sl (Int)) (s3 : Sl (Int)) (n23 : Int) : Option (Int ⊕ (Unit ⊕ Bool)) :=
 (if n23 < ((s3.l.length : Nat) : Int) then ((atS 1 s3 n23).bind fun n27 => (if n27 ≠ 0 then ((flags_Has s2 n23).bind fun b30 => (if b30 = true then some (.inl (IntKind.i64.wrap (n23 + 1))) else some (.inr (.inr false)))) else some (.inl (IntKind.i64.wrap (n23 + 1))))) else some (.inr (.inl ())))
noncomputable def devec_Right (a0 : Int × Sl (Int) × Sl (Int)) : Option (Bool) :=
 match a0 with
 | (n1, s2, s3) => ((flags_Right s2 n1).bind fun b6 => (if b6 = true then (if ((s3.l.length : Nat) : Int) ≠ n1 then some false else ((loopO (devec_Right_b1 s2 s3) 0).bind (Sum.elim (fun _ => some true) (fun u => some u)))) else some false))
theorem devec_Right_r (m : Nat) {a0 : Int × Sl (Int) × Sl (Int)} {out : Bool} (h : devec_Right a0 = some out) : RunsP E1 (m + 5) 36 [.agg (r35 a0)] (.fresh, [.one (bT out)]) := by
 obtain ⟨n1, s2, s3⟩ := a0
 refine fn_F rfl (by rw [E1_fn]; exact show fiOf Tryd.prog 36 = _ by unfold fiOf; rw [Tryd.func36]; unfold Tryd.f36; rfl) rfl ?_
 dsimp only
 unfold devec_Right at h
 refine lS (lO ?_)
 refine ol_new rfl rfl rfl (q_box ty36 rfl (cs := [iI n1, sF r60 s2, sF r2 s3]) rfl rfl) (fun k4 => ?_)
 refine pq (qa bf) ?_
 refine oE (eS (lS (lS (lO ?_))))
 refine pq (q_fieldP rfl fa36_1 rfl) ?_
 refine pq (ql (.one (sF r60 s2)) 0 sz26) ?_
 refine pq (q_fieldP rfl fa36_0 rfl) ?_
 refine pq (ql (iO n1) 0 sz3) ?_
 obtain ⟨b6, h5, h⟩ := bindS h
 refine pq (qc (bO b6) [.one (sF r60 s2), iO n1] (flags_Right_r (m + 0) h5) (vw_cons (vd_one vc_s) (vw_cons (vd_one vc_v) vw_nil))) ?_
 rcases b6 with _ | _
 replace h := wF h
 refine pq (q_not rfl) ?_
 refine pq (qm bt) ?_
 iterate 6 refine os ?_
 refine pq (qpt bt) ?_
 refine oE (eS (cT rfl (lS (lO ?_))))
 refine pq (qa bf) ?_
 refine oE (eS (lR (eR ?_)))
 obtain rfl := sj h
 exact eF1
 replace h := wT h
 refine pq (q_not rfl) ?_
 refine pq (qm bf) ?_
 refine pq (q_fieldP rfl fa36_2 rfl) ?_
 refine pq (ql (.one (sF r2 s3)) 0 sz31) ?_
 refine pq (q_lenS rfl ty31 rfl rfl rfl rfl) ?_
 refine pq (q_fieldP rfl fa36_0 rfl) ?_
 refine pq (ql (iO n1) 0 sz3) ?_
 by_cases c7 : ((s3.l.length : Nat) : Int) ≠ n1
 replace h := ifT c7 h
 refine pq (qb (p_neq_tZ c7)) ?_
 refine pq (qpf bt) ?_
 refine oE (eS (cT rfl (lS (lO ?_))))
 refine pq (qa bf) ?_
 refine oE (eS (lR (eR ?_)))
 obtain rfl := sj h
 exact eF1
 replace h := ifF c7 h
 refine pq (qb (p_neq_fZ c7)) ?_
 refine pq (qpf bf) ?_
 refine oE (eS (cF rfl (lK (eS (lS (lS (lO ?_)))))))
 refine pq (q_fieldP rfl fa36_2 rfl) ?_
 refine pq (ql (.one (sF r2 s3)) 0 sz31) ?_
 refine pq (q_lenS rfl ty31 rfl rfl rfl rfl) ?_
 refine pq (qm (iO 0)) ?_
 refine oE (eS (lB ?_))
 let S1 : Int → Unit → (Nat → D) → Nat → D := fun a kt g => ups g [(1, .one (.ptr k4 0 0)), (20, .one (sF r2 s3)), (21, .one (iI ((s3.l.length : Nat) : Int))), (22, iO a)]
 let SL1 : Int → Unit → BL := fun a kt => ([[(k4, 3, [[iI n1, sF r60 s2, sF r2 s3]])]] : BL)
 let G1 : Bool → Ex → St → Prop := fun u => endQ E1 [.tmp 2] (.fresh, [.one (bT u)])
 let Sx1 : Unit → Unit → (Nat → D) → Nat → D := fun a kt g => ups g []
 let SLx1 : Unit → Unit → BL := fun a kt => ([] : BL)
 let J1 : (Unit ⊕ Bool) → Ex → St → Prop := JX 37 0 Sx1 SLx1 G1
 refine L_loopS (devec_Right_b1 s2 s3) S1 SL1 J1 JX_n 0 h () (ups_self ⟨rfl, rfl, rfl, rfl, trivial⟩) [0] (by decide) rfl ?_ ?_
 rintro n23 _ g out h
 change devec_Right_b1 s2 s3 n23 = some out at h
 unfold devec_Right_b1 at h
 refine lS (lO ?_)
 by_cases c24 : n23 < ((s3.l.length : Nat) : Int)
 replace h := ifT c24 h
 refine pq (qb (p_lss_tZ c24)) ?_
 refine oE (eS (lS (cT rfl (lK (eS (lS (lB (lS (lO ?_)))))))))
 refine pq (qm (iO n23)) ?_
 obtain ⟨n27, h26, h⟩ := bindS h
 obtain ⟨h26a, h26b, h26⟩ := atS_some h26
 refine pq (q_ixS rfl rfl h26a h26 (el31.trans (congrArg some h26b.symm))) ?_
 refine pq (q_loadI (v := iO n27) rfl sz2 (map_get h26) rfl rfl) ?_
 refine pq (qa (iO n23)) ?_
 refine pq (qa (iO n27)) ?_
 refine oN ?_
 refine pq (qm (iO n27)) ?_
 by_cases c28 : n27 ≠ 0
 replace h := ifT c28 h
 refine pq (qb (p_neq_tZ c28)) ?_
 refine pq (qm bt) ?_
 refine pq (q_fieldP rfl fa36_1 rfl) ?_
 refine pq (ql (.one (sF r60 s2)) 0 sz26) ?_
 refine pq (qm (iO n23)) ?_
 obtain ⟨b30, h29, h⟩ := bindS h
 refine pq (qc (bO b30) [.one (sF r60 s2), iO n23] (flags_Has_r (m + 2) h29) (vw_cons (vd_one vc_s) (vw_cons (vd_one vc_v) vw_nil))) ?_
 rcases b30 with _ | _
 replace h := wF h
 refine pq (q_not rfl) ?_
 refine pq (qpt bt) ?_
 refine oE (eS (cT rfl (lS (lO ?_))))
 refine pq (qa bf) ?_
 refine oE (eS (lR (bR (eR ?_))))
 obtain rfl := sj h
 exact E_out (E_up (eF1))
 replace h := wT h
 refine pq (q_not rfl) ?_
 refine pq (qpt bf) ?_
 refine oE (eS (cF rfl (lK (bN (eS (lO ?_))))))
 refine pq (qb p_addY) ?_
 refine pq (qm (iO (IntKind.i64.wrap (n23 + 1)))) ?_
 refine oE ?_
 obtain rfl := sj h
 exact E_next () (ups_self ⟨rfl, rfl, rfl, rfl, trivial⟩) [0] (by decide) rfl
 replace h := ifF c28 h
 refine pq (qb (p_neq_fZ c28)) ?_
 refine pq (qm bf) ?_
 iterate 5 refine os ?_
 refine pq (qpf bf) ?_
 refine oE (eS (cF rfl (lK (bN (eS (lO ?_))))))
 refine pq (qb p_addY) ?_
 refine pq (qm (iO (IntKind.i64.wrap (n23 + 1)))) ?_
 refine oE ?_
 obtain rfl := sj h
 exact E_next () (ups_self ⟨rfl, rfl, rfl, rfl, trivial⟩) [0] (by decide) rfl
 replace h := ifF c24 h
 refine pq (qb (p_lss_fZ c24)) ?_
 refine oE (eS (lS (cF rfl (L_exit ?_))))
 refine E_seqX ?_
 obtain rfl := sj h
 refine E_out ?_
 exact (E_exit () (ups_self trivial) [] (by decide) rfl)
 rintro (_ | u) h
 refine J_x (fun kt g => ?_)
 replace h := elimL h
 refine bH (eS (lS (lO ?_)))
 refine pq (qa bt) ?_
 refine oE (eS (lR ?_))
 obtain rfl := sj h
 exact eF1
 obtain rfl := Option.some.inj (elimR h)
 exact J_up (fun s hs => hs)
noncomputable def wide_Of (n1 : Int) : Option ((Int × Int)) :=
 ((shr1 .i64 n1 63).bind fun n3 => some (n3, (IntKind.u64.wrap n1)))
theorem wide_Of_r (m : Nat) {n1 : Int} {out : (Int × Int)} (h : wide_Of n1 = some out) : RunsP E1 (m + 1) 68 [.one (iT .i64 n1)] (.fresh, [.agg (r61 out)]) := by
 refine fn_F rfl (by rw [E1_fn]; exact show fiOf Tryd.prog 68 = _ by unfold fiOf; rw [Tryd.func68]; unfold Tryd.f68; rfl) rfl ?_
 dsimp only
 unfold wide_Of at h
 refine lS (lO ?_)
 refine ol_new rfl rfl rfl (q_alloc ty62 (row := [iI 0, uI 0]) rfl rfl) (fun k2 => ?_)
 refine oN ?_
 refine pq (qm (iO n1)) ?_
 obtain ⟨n3, h4, h⟩ := bindS h
 refine pq (q_bin rfl rfl (p_shr h4) rfl) ?_
 refine pq (qm (iO n1)) ?_
 refine pq (q_conv rfl (cv2_60_i64 _) rfl) ?_
 refine pq (q_build (cs := [iI n3, uI (IntKind.u64.wrap n1)]) ty62 rfl pl62 rfl) ?_
 refine ow [[iI n3, uI (IntKind.u64.wrap n1)]] 0 sz62 ?_
 refine oE (eS (lR ?_))
 obtain rfl := sj h
 exact E_endF (.inr rfl) (res_cell (d := .agg [iI n3, uI (IntKind.u64.wrap n1)]) 0 rfl sz62 rfl rfl rfl rfl res_nil) (vw_cons (vd_agg (vc_cons vc_v (vc_cons vc_v vc_nil))) vw_nil) oG rfl rfl
noncomputable def wide_Add (a0 : Int × Int) (a1 : Int × Int) : Option ((Int × Int)) :=
 match a0, a1 with
 | (n1, n2), (n3, n4) => (if (IntKind.u64.wrap (n2 + n4)) < n2 then some ((IntKind.i64.wrap ((IntKind.i64.wrap (n1 + n3)) + 1)), (IntKind.u64.wrap (n2 + n4))) else some ((IntKind.i64.wrap (n1 + n3)), (IntKind.u64.wrap (n2 + n4))))
theorem wide_Add_r (m : Nat) {a0 : Int × Int} {a1 : Int × Int} {out : (Int × Int)} (h : wide_Add a0 a1 = some out) : RunsP E1 (m + 1) 70 [.agg (r61 a0), .agg (r61 a1)] (.fresh, [.agg (r61 out)]) := by
 obtain ⟨n1, n2⟩ := a0
 obtain ⟨n3, n4⟩ := a1
 refine fn_F rfl (by rw [E1_fn]; exact show fiOf Tryd.prog 70 = _ by unfold fiOf; rw [Tryd.func70]; unfold Tryd.f70; rfl) rfl ?_
 dsimp only
 unfold wide_Add at h
 refine lS (lO ?_)
 refine ol_new rfl rfl rfl (q_box ty62 rfl (cs := [iI n1, uI n2]) rfl rfl) (fun k5 => ?_)
 refine ol_new rfl rfl rfl (q_box ty62 rfl (cs := [iI n3, uI n4]) rfl rfl) (fun k6 => ?_)
 refine ol_new rfl rfl rfl (q_alloc ty62 (row := [iI 0, uI 0]) rfl rfl) (fun k7 => ?_)
 refine oN ?_
 refine pq (q_fieldP rfl fa62_0 rfl) ?_
 refine pq (ql (iO n1) 2 sz2) ?_
 refine pq (q_fieldP rfl fa62_0 rfl) ?_
 refine pq (ql (iO n3) 1 sz2) ?_
 refine pq (qb p_addY) ?_
 refine pq (q_fieldP rfl fa62_1 rfl) ?_
 refine pq (ql (.one (uI n2)) 2 sz60) ?_
 refine pq (q_fieldP rfl fa62_1 rfl) ?_
 refine pq (ql (.one (uI n4)) 1 sz60) ?_
 refine pq (qb p_addY) ?_
 refine pq (q_build (cs := [iI (IntKind.i64.wrap (n1 + n3)), uI (IntKind.u64.wrap (n2 + n4))]) ty62 rfl pl62 rfl) ?_
 refine ol_new rfl rfl rfl (q_alloc ty62 (row := [iI 0, uI 0]) rfl rfl) (fun k8 => ?_)
 refine ow [[iI (IntKind.i64.wrap (n1 + n3)), uI (IntKind.u64.wrap (n2 + n4))]] 0 sz62 ?_
 refine oE (eS (lS (lS (lO ?_))))
 refine pq (q_fieldP rfl fa62_1 rfl) ?_
 refine pq (ql (.one (uI (IntKind.u64.wrap (n2 + n4)))) 0 sz60) ?_
 refine pq (q_fieldP rfl fa62_1 rfl) ?_
 refine pq (ql (.one (uI n2)) 3 sz60) ?_
 by_cases c9 : (IntKind.u64.wrap (n2 + n4)) < n2
 replace h := ifT c9 h
 refine pq (qb (p_lss_tZ c9)) ?_
 refine oE (eS (cT rfl (lO ?_)))
 refine pq (q_fieldP rfl fa62_0 rfl) ?_
 refine pq (ql (iO (IntKind.i64.wrap (n1 + n3))) 0 sz2) ?_
 refine pq (qb p_addY) ?_
 refine pq (q_fieldP rfl fa62_0 rfl) ?_
 refine ow [[iI (IntKind.i64.wrap ((IntKind.i64.wrap (n1 + n3)) + 1)), uI (IntKind.u64.wrap (n2 + n4))]] 0 sz2 ?_
 refine oN ?_
 refine pq (ql (.agg [iI (IntKind.i64.wrap ((IntKind.i64.wrap (n1 + n3)) + 1)), uI (IntKind.u64.wrap (n2 + n4))]) 0 sz62) ?_
 refine ow [[iI (IntKind.i64.wrap ((IntKind.i64.wrap (n1 + n3)) + 1)), uI (IntKind.u64.wrap (n2 + n4))]] 1 sz62 ?_
 refine oE (eS (lR ?_))
 obtain rfl := sj h
 exact E_endF (.inr rfl) (res_cell (d := .agg [iI (IntKind.i64.wrap ((IntKind.i64.wrap (n1 + n3)) + 1)), uI (IntKind.u64.wrap (n2 + n4))]) 1 rfl sz62 rfl rfl rfl rfl res_nil) (vw_cons (vd_agg (vc_cons vc_v (vc_cons vc_v vc_nil))) vw_nil) oG rfl rfl
 replace h := ifF c9 h
 refine pq (qb (p_lss_fZ c9)) ?_
 refine oE (eS (cF rfl (lK (eS (lS (lO ?_))))))
 refine pq (ql (.agg [iI (IntKind.i64.wrap (n1 + n3)), uI (IntKind.u64.wrap (n2 + n4))]) 0 sz62) ?_
 refine ow [[iI (IntKind.i64.wrap (n1 + n3)), uI (IntKind.u64.wrap (n2 + n4))]] 1 sz62 ?_
 refine oE (eS (lR ?_))
 obtain rfl := sj h
 exact E_endF (.inr rfl) (res_cell (d := .agg [iI (IntKind.i64.wrap (n1 + n3)), uI (IntKind.u64.wrap (n2 + n4))]) 1 rfl sz62 rfl rfl rfl rfl res_nil) (vw_cons (vd_agg (vc_cons vc_v (vc_cons vc_v vc_nil))) vw_nil) oG rfl rfl
noncomputable def wide_Compare (a0 : Int × Int) (a1 : Int × Int) : Option (Int) :=
 match a0, a1 with
 | (n1, n2), (n3, n4) => (if n1 = n3 ∧ n2 = n4 then some 0 else (if n1 < n3 then some (-1) else (if n1 = n3 then (if n2 < n4 then some (-1) else some 1) else some 1)))
theorem wide_Compare_r (m : Nat) {a0 : Int × Int} {a1 : Int × Int} {out : Int} (h : wide_Compare a0 a1 = some out) : RunsP E1 (m + 1) 90 [.agg (r61 a0), .agg (r61 a1)] (.fresh, [.one (iT .i64 out)]) := by
 obtain ⟨n1, n2⟩ := a0
 obtain ⟨n3, n4⟩ := a1
 refine fn_F rfl (by rw [E1_fn]; exact show fiOf Tryd.prog 90 = _ by unfold fiOf; rw [Tryd.func90]; unfold Tryd.f90; rfl) rfl ?_
 dsimp only
 unfold wide_Compare at h
 refine lS (lO ?_)
 refine ol_new rfl rfl rfl (q_box ty62 rfl (cs := [iI n1, uI n2]) rfl rfl) (fun k5 => ?_)
 refine ol_new rfl rfl rfl (q_box ty62 rfl (cs := [iI n3, uI n4]) rfl rfl) (fun k6 => ?_)
 refine pq (qa (iO 0)) ?_
 refine oE (eS (lS (lB (lS (lO ?_)))))
 refine pq (ql (.agg [iI n1, uI n2]) 1 sz62) ?_
 refine pq (ql (.agg [iI n3, uI n4]) 0 sz62) ?_
 by_cases c7 : n1 = n3 ∧ n2 = n4
 replace h := ifT c7 h
 refine pq (q_binA rfl rfl (by rfl) (by rfl) (eqeqlA62_t _ _ c7) rfl) ?_
 refine pq (qa bt) ?_
 refine oE (eS (cT rfl (lS (lO ?_))))
 refine pq (qa (iO 0)) ?_
 refine oE (eS (lR (bR (eR ?_))))
 obtain rfl := sj h
 exact eF1
 replace h := ifF c7 h
 refine pq (q_binA rfl rfl (by rfl) (by rfl) (eqeqlA62_f _ _ c7) rfl) ?_
 refine pq (qa bf) ?_
 refine oE (eS (cF rfl (lS (lO ?_))))
 refine pq (q_fieldP rfl fa62_0 rfl) ?_
 refine pq (ql (iO n1) 1 sz2) ?_
 refine pq (q_fieldP rfl fa62_0 rfl) ?_
 refine pq (ql (iO n3) 0 sz2) ?_
 by_cases c8 : n1 < n3
 replace h := ifT c8 h
 refine pq (qb (p_lss_tZ c8)) ?_
 refine pq (qm bt) ?_
 iterate 12 refine os ?_
 refine pq (qpt bt) ?_
 refine pq (qa bt) ?_
 refine oE (eS (cT rfl (lS (lO ?_))))
 refine pq (qa (iO (-1))) ?_
 refine oE (eS (lR (bR (eR ?_))))
 obtain rfl := sj h
 exact eF1
 replace h := ifF c8 h
 refine pq (qb (p_lss_fZ c8)) ?_
 refine pq (qm bf) ?_
 refine pq (q_fieldP rfl fa62_0 rfl) ?_
 refine pq (ql (iO n1) 1 sz2) ?_
 refine pq (q_fieldP rfl fa62_0 rfl) ?_
 refine pq (ql (iO n3) 0 sz2) ?_
 by_cases c9 : n1 = n3
 replace h := ifT c9 h
 refine pq (qb (p_eql_tZ c9)) ?_
 refine pq (qm bt) ?_
 refine pq (q_fieldP rfl fa62_1 rfl) ?_
 refine pq (ql (.one (uI n2)) 1 sz60) ?_
 refine pq (q_fieldP rfl fa62_1 rfl) ?_
 refine pq (ql (.one (uI n4)) 0 sz60) ?_
 by_cases c10 : n2 < n4
 replace h := ifT c10 h
 refine pq (qb (p_lss_tZ c10)) ?_
 refine pq (qpt bt) ?_
 refine pq (qpf bt) ?_
 refine pq (qa bt) ?_
 refine oE (eS (cT rfl (lS (lO ?_))))
 refine pq (qa (iO (-1))) ?_
 refine oE (eS (lR (bR (eR ?_))))
 obtain rfl := sj h
 exact eF1
 replace h := ifF c10 h
 refine pq (qb (p_lss_fZ c10)) ?_
 refine pq (qpt bf) ?_
 refine pq (qpf bf) ?_
 refine pq (qa bf) ?_
 refine oE (eS (cF rfl (lK (bN (eS (lS (lO ?_)))))))
 refine pq (qa (iO 1)) ?_
 refine oE (eS (lR ?_))
 obtain rfl := sj h
 exact eF1
 replace h := ifF c9 h
 refine pq (qb (p_eql_fZ c9)) ?_
 refine pq (qm bf) ?_
 iterate 5 refine os ?_
 refine pq (qpf bf) ?_
 refine pq (qpf bf) ?_
 refine pq (qa bf) ?_
 refine oE (eS (cF rfl (lK (bN (eS (lS (lO ?_)))))))
 refine pq (qa (iO 1)) ?_
 refine oE (eS (lR ?_))
 obtain rfl := sj h
 exact eF1
noncomputable def ring_lesser (a0 : Int × Int) (a1 : Int × Int) : Option ((Int × Int)) :=
 match a0, a1 with
 | (n1, n2), (n3, n4) => ((wide_Compare (n3, n4) (n1, n2)).bind fun n9 => (if n9 < 0 then some (n3, n4) else some (n1, n2)))
theorem ring_lesser_r (m : Nat) {a0 : Int × Int} {a1 : Int × Int} {out : (Int × Int)} (h : ring_lesser a0 a1 = some out) : RunsP E1 (m + 2) 69 [.agg (r61 a0), .agg (r61 a1)] (.fresh, [.agg (r61 out)]) := by
 obtain ⟨n1, n2⟩ := a0
 obtain ⟨n3, n4⟩ := a1
 refine fn_F rfl (by rw [E1_fn]; exact show fiOf Tryd.prog 69 = _ by unfold fiOf; rw [Tryd.func69]; unfold Tryd.f69; rfl) rfl ?_
 dsimp only
 unfold ring_lesser at h
 refine lS (lO ?_)
 refine ol_new rfl rfl rfl (q_box ty62 rfl (cs := [iI n1, uI n2]) rfl rfl) (fun k5 => ?_)
 refine ol_new rfl rfl rfl (q_box ty62 rfl (cs := [iI n3, uI n4]) rfl rfl) (fun k6 => ?_)
 refine ol_new rfl rfl rfl (q_alloc ty62 (row := [iI 0, uI 0]) rfl rfl) (fun k7 => ?_)
 refine oE (eS (lS (lS (lO ?_))))
 refine pq (ql (.agg [iI n3, uI n4]) 1 sz62) ?_
 refine pq (ql (.agg [iI n1, uI n2]) 2 sz62) ?_
 obtain ⟨n9, h8, h⟩ := bindS h
 refine pq (qc (iO n9) [.agg [iI n3, uI n4], .agg [iI n1, uI n2]] (wide_Compare_r (m + 0) h8) (vw_cons (vd_agg (vc_cons vc_v (vc_cons vc_v vc_nil))) (vw_cons (vd_agg (vc_cons vc_v (vc_cons vc_v vc_nil))) vw_nil))) ?_
 by_cases c10 : n9 < 0
 replace h := ifT c10 h
 refine pq (qb (p_lss_tZ c10)) ?_
 refine oE (eS (cT rfl (lS (lO ?_))))
 refine pq (ql (.agg [iI n3, uI n4]) 1 sz62) ?_
 refine ow [[iI n3, uI n4]] 0 sz62 ?_
 refine oE (eS (lR (eR ?_)))
 obtain rfl := sj h
 exact E_endF (.inr rfl) (res_cell (d := .agg [iI n3, uI n4]) 0 rfl sz62 rfl rfl rfl rfl res_nil) (vw_cons (vd_agg (vc_cons vc_v (vc_cons vc_v vc_nil))) vw_nil) oG rfl rfl
 replace h := ifF c10 h
 refine pq (qb (p_lss_fZ c10)) ?_
 refine oE (eS (cF rfl (lK (eS (lS (lO ?_))))))
 refine pq (ql (.agg [iI n1, uI n2]) 2 sz62) ?_
 refine ow [[iI n1, uI n2]] 0 sz62 ?_
 refine oE (eS (lR ?_))
 obtain rfl := sj h
 exact E_endF (.inr rfl) (res_cell (d := .agg [iI n1, uI n2]) 0 rfl sz62 rfl rfl rfl rfl res_nil) (vw_cons (vd_agg (vc_cons vc_v (vc_cons vc_v vc_nil))) vw_nil) oG rfl rfl
noncomputable def ring_truth (b1 : Bool) : Option ((Int × Int)) :=
 (if b1 = true then ((wide_Of 1).bind fun (n4, n5) => some (n4, n5)) else some (0, 0))
theorem ring_truth_r (m : Nat) {b1 : Bool} {out : (Int × Int)} (h : ring_truth b1 = some out) : RunsP E1 (m + 2) 71 [.one (bT b1)] (.fresh, [.agg (r61 out)]) := by
 refine fn_F rfl (by rw [E1_fn]; exact show fiOf Tryd.prog 71 = _ by unfold fiOf; rw [Tryd.func71]; unfold Tryd.f71; rfl) rfl ?_
 dsimp only
 unfold ring_truth at h
 refine lS (lO ?_)
 refine ol_new rfl rfl rfl (q_alloc ty62 (row := [iI 0, uI 0]) rfl rfl) (fun k2 => ?_)
 refine oE (eS (lS (lS (lO ?_))))
 refine pq (qm (bO b1)) ?_
 refine oE (eS ?_)
 rcases b1 with _ | _
 replace h := wF h
 refine cF rfl (lK (eS (lS (lO ?_))))
 refine pq (q_build (cs := [iI 0, uI 0]) ty62 rfl pl62 rfl) ?_
 refine ow [[iI 0, uI 0]] 0 sz62 ?_
 refine oE (eS (lR ?_))
 obtain rfl := sj h
 exact E_endF (.inr rfl) (res_cell (d := .agg [iI 0, uI 0]) 0 rfl sz62 rfl rfl rfl rfl res_nil) (vw_cons (vd_agg (vc_cons vc_v (vc_cons vc_v vc_nil))) vw_nil) oG rfl rfl
 replace h := wT h
 refine cT rfl (lS (lO ?_))
 obtain ⟨⟨n4, n5⟩, h3, h⟩ := bindS h
 refine pq (qc (.agg [iI n4, uI n5]) [iO 1] (wide_Of_r (m + 0) h3) (vw_cons (vd_one vc_v) vw_nil)) ?_
 refine ow [[iI n4, uI n5]] 0 sz62 ?_
 refine oE (eS (lR (eR ?_)))
 obtain rfl := sj h
 exact E_endF (.inr rfl) (res_cell (d := .agg [iI n4, uI n5]) 0 rfl sz62 rfl rfl rfl rfl res_nil) (vw_cons (vd_agg (vc_cons vc_v (vc_cons vc_v vc_nil))) vw_nil) oG rfl rfl
noncomputable def wide_products (n1 : Int) (n2 : Int) : Option ((Int × Int × Int × Int)) :=
 ((shr1 .u64 n1 32).bind fun n4 => ((shr1 .u64 n2 32).bind fun n6 => some ((IntKind.u64.wrap ((andI .u64 n1 4294967295) * (andI .u64 n2 4294967295))), (IntKind.u64.wrap ((andI .u64 n1 4294967295) * n6)), (IntKind.u64.wrap (n4 * (andI .u64 n2 4294967295))), (IntKind.u64.wrap (n4 * n6)))))
theorem wide_products_r (m : Nat) {n1 : Int} {n2 : Int} {out : (Int × Int × Int × Int)} (h : wide_products n1 n2 = some out) : RunsP E1 (m + 1) 91 [.one (iT .u64 n1), .one (iT .u64 n2)] (.fresh, [.agg (r122 out)]) := by
 refine fn_F rfl (by rw [E1_fn]; exact show fiOf Tryd.prog 91 = _ by unfold fiOf; rw [Tryd.func91]; unfold Tryd.f91; rfl) rfl ?_
 dsimp only
 unfold wide_products at h
 refine lS (lO ?_)
 refine ol_new rfl rfl rfl (q_alloc ty122 (row := [uI 0, uI 0, uI 0, uI 0]) rfl rfl) (fun k3 => ?_)
 refine oN ?_
 refine pq (qm (.one (uI n1))) ?_
 refine pq (q_bin rfl rfl (p_and _ _ _ _ _ _ _) rfl) ?_
 refine pq (qm (.one (uI n1))) ?_
 obtain ⟨n4, h5, h⟩ := bindS h
 refine pq (q_bin rfl rfl (p_shr h5) rfl) ?_
 refine pq (qa (.one (uI (andI .u64 n1 4294967295)))) ?_
 refine pq (qa (.one (uI n4))) ?_
 refine oN ?_
 refine pq (qm (.one (uI n2))) ?_
 refine pq (q_bin rfl rfl (p_and _ _ _ _ _ _ _) rfl) ?_
 refine pq (qm (.one (uI n2))) ?_
 obtain ⟨n6, h7, h⟩ := bindS h
 refine pq (q_bin rfl rfl (p_shr h7) rfl) ?_
 refine pq (qa (.one (uI (andI .u64 n2 4294967295)))) ?_
 refine pq (qa (.one (uI n6))) ?_
 refine oN ?_
 refine pq (qm (.one (uI (andI .u64 n1 4294967295)))) ?_
 refine pq (qm (.one (uI (andI .u64 n2 4294967295)))) ?_
 refine pq (qb p_mulY) ?_
 refine pq (qm (.one (uI (andI .u64 n1 4294967295)))) ?_
 refine pq (qm (.one (uI n6))) ?_
 refine pq (qb p_mulY) ?_
 refine pq (qm (.one (uI n4))) ?_
 refine pq (qm (.one (uI (andI .u64 n2 4294967295)))) ?_
 refine pq (qb p_mulY) ?_
 refine pq (qm (.one (uI n4))) ?_
 refine pq (qm (.one (uI n6))) ?_
 refine pq (qb p_mulY) ?_
 refine pq (q_build (cs := [uI (IntKind.u64.wrap ((andI .u64 n1 4294967295) * (andI .u64 n2 4294967295))), uI (IntKind.u64.wrap ((andI .u64 n1 4294967295) * n6)), uI (IntKind.u64.wrap (n4 * (andI .u64 n2 4294967295))), uI (IntKind.u64.wrap (n4 * n6))]) ty122 rfl rfl rfl) ?_
 refine ow [[uI (IntKind.u64.wrap ((andI .u64 n1 4294967295) * (andI .u64 n2 4294967295))), uI (IntKind.u64.wrap ((andI .u64 n1 4294967295) * n6)), uI (IntKind.u64.wrap (n4 * (andI .u64 n2 4294967295))), uI (IntKind.u64.wrap (n4 * n6))]] 0 sz122 ?_
 refine oE (eS (lR ?_))
 obtain rfl := sj h
 exact E_endF (.inr rfl) (res_cell (d := .agg [uI (IntKind.u64.wrap ((andI .u64 n1 4294967295) * (andI .u64 n2 4294967295))), uI (IntKind.u64.wrap ((andI .u64 n1 4294967295) * n6)), uI (IntKind.u64.wrap (n4 * (andI .u64 n2 4294967295))), uI (IntKind.u64.wrap (n4 * n6))]) 0 rfl sz122 rfl rfl rfl rfl res_nil) (vw_cons (vd_agg (vc_cons vc_v (vc_cons vc_v (vc_cons vc_v (vc_cons vc_v vc_nil))))) vw_nil) oG rfl rfl
noncomputable def wide_Left (a0 : Int × Int) (n3 : Int) : Option ((Int × Int)) :=
 match a0 with
 | (n1, n2) => (if n3 < 0 then some (n1, n2) else (if n3 > 127 then some (0, 0) else (if n3 > 63 then ((shl1 .u64 n2 (IntKind.u64.wrap (IntKind.i64.wrap (n3 - 64)))).bind fun n9 => some ((IntKind.i64.wrap n9), 0)) else ((shl1 .u64 (IntKind.u64.wrap n1) (IntKind.u64.wrap n3)).bind fun n11 => ((shr1 .u64 n2 (IntKind.u64.wrap (IntKind.i64.wrap (64 - n3)))).bind fun n13 => ((shl1 .u64 n2 (IntKind.u64.wrap n3)).bind fun n15 => some ((IntKind.i64.wrap (orI .u64 n11 n13)), n15)))))))
theorem wide_Left_r (m : Nat) {a0 : Int × Int} {n3 : Int} {out : (Int × Int)} (h : wide_Left a0 n3 = some out) : RunsP E1 (m + 1) 92 [.agg (r61 a0), .one (iT .i64 n3)] (.fresh, [.agg (r61 out)]) := by
 obtain ⟨n1, n2⟩ := a0
 refine fn_F rfl (by rw [E1_fn]; exact show fiOf Tryd.prog 92 = _ by unfold fiOf; rw [Tryd.func92]; unfold Tryd.f92; rfl) rfl ?_
 dsimp only
 unfold wide_Left at h
 refine lS (lO ?_)
 refine ol_new rfl rfl rfl (q_box ty62 rfl (cs := [iI n1, uI n2]) rfl rfl) (fun k4 => ?_)
 refine ol_new rfl rfl rfl (q_alloc ty62 (row := [iI 0, uI 0]) rfl rfl) (fun k5 => ?_)
 refine oE (eS (lS (lB (lS (lO ?_)))))
 refine pq (qm (iO n3)) ?_
 by_cases c6 : n3 < 0
 replace h := ifT c6 h
 refine pq (qb (p_lss_tZ c6)) ?_
 refine pq (qa bt) ?_
 refine oE (eS (cT rfl (lS (lO ?_))))
 refine pq (ql (.agg [iI n1, uI n2]) 1 sz62) ?_
 refine ow [[iI n1, uI n2]] 0 sz62 ?_
 refine oE (eS (lR (bR (eR ?_))))
 obtain rfl := sj h
 exact E_endF (.inr rfl) (res_cell (d := .agg [iI n1, uI n2]) 0 rfl sz62 rfl rfl rfl rfl res_nil) (vw_cons (vd_agg (vc_cons vc_v (vc_cons vc_v vc_nil))) vw_nil) oG rfl rfl
 replace h := ifF c6 h
 refine pq (qb (p_lss_fZ c6)) ?_
 refine pq (qa bf) ?_
 refine oE (eS (cF rfl (lS (lO ?_))))
 refine pq (qm (iO n3)) ?_
 by_cases c7 : n3 > 127
 replace h := ifT c7 h
 refine pq (qb (p_gtr_tZ c7)) ?_
 refine pq (qa bt) ?_
 refine oE (eS (cT rfl (lS (lO ?_))))
 refine pq (q_build (cs := [iI 0, uI 0]) ty62 rfl pl62 rfl) ?_
 refine ow [[iI 0, uI 0]] 0 sz62 ?_
 refine oE (eS (lR (bR (eR ?_))))
 obtain rfl := sj h
 exact E_endF (.inr rfl) (res_cell (d := .agg [iI 0, uI 0]) 0 rfl sz62 rfl rfl rfl rfl res_nil) (vw_cons (vd_agg (vc_cons vc_v (vc_cons vc_v vc_nil))) vw_nil) oG rfl rfl
 replace h := ifF c7 h
 refine pq (qb (p_gtr_fZ c7)) ?_
 refine pq (qa bf) ?_
 refine oE (eS (cF rfl (lS (lO ?_))))
 refine pq (qm (iO n3)) ?_
 by_cases c8 : n3 > 63
 replace h := ifT c8 h
 refine pq (qb (p_gtr_tZ c8)) ?_
 refine pq (qa bt) ?_
 refine oE (eS (cT rfl (lS (lO ?_))))
 refine pq (q_fieldP rfl fa62_1 rfl) ?_
 refine pq (ql (.one (uI n2)) 1 sz60) ?_
 refine pq (qm (iO n3)) ?_
 refine pq (qb p_subY) ?_
 refine pq (q_conv rfl (cv3_110_i64 _) rfl) ?_
 obtain ⟨n9, h10, h⟩ := bindS h
 refine pq (q_bin rfl rfl (p_shl h10) rfl) ?_
 refine pq (q_conv rfl (cv60_2_u64 _) rfl) ?_
 refine pq (q_build (cs := [iI (IntKind.i64.wrap n9), uI 0]) ty62 rfl pl62 rfl) ?_
 refine ow [[iI (IntKind.i64.wrap n9), uI 0]] 0 sz62 ?_
 refine oE (eS (lR (bR (eR ?_))))
 obtain rfl := sj h
 exact E_endF (.inr rfl) (res_cell (d := .agg [iI (IntKind.i64.wrap n9), uI 0]) 0 rfl sz62 rfl rfl rfl rfl res_nil) (vw_cons (vd_agg (vc_cons vc_v (vc_cons vc_v vc_nil))) vw_nil) oG rfl rfl
 replace h := ifF c8 h
 refine pq (qb (p_gtr_fZ c8)) ?_
 refine pq (qa bf) ?_
 refine oE (eS (cF rfl (lK (bN (eS (lS (lO ?_)))))))
 refine pq (q_fieldP rfl fa62_0 rfl) ?_
 refine pq (ql (iO n1) 1 sz2) ?_
 refine pq (q_conv rfl (cv2_60_i64 _) rfl) ?_
 refine pq (qm (iO n3)) ?_
 refine pq (q_conv rfl (cv3_110_i64 _) rfl) ?_
 obtain ⟨n11, h12, h⟩ := bindS h
 refine pq (q_bin rfl rfl (p_shl h12) rfl) ?_
 refine pq (q_fieldP rfl fa62_1 rfl) ?_
 refine pq (ql (.one (uI n2)) 1 sz60) ?_
 refine pq (qm (iO n3)) ?_
 refine pq (qb p_subY) ?_
 refine pq (q_conv rfl (cv3_110_i64 _) rfl) ?_
 obtain ⟨n13, h14, h⟩ := bindS h
 refine pq (q_bin rfl rfl (p_shr h14) rfl) ?_
 refine pq (q_bin rfl rfl (p_or _ _ _ _ _ _ _) rfl) ?_
 refine pq (qa (.one (uI (orI .u64 n11 n13)))) ?_
 refine oN ?_
 refine pq (qm (.one (uI (orI .u64 n11 n13)))) ?_
 refine pq (q_conv rfl (cv60_2_u64 _) rfl) ?_
 refine pq (q_fieldP rfl fa62_1 rfl) ?_
 refine pq (ql (.one (uI n2)) 1 sz60) ?_
 refine pq (qm (iO n3)) ?_
 refine pq (q_conv rfl (cv3_110_i64 _) rfl) ?_
 obtain ⟨n15, h16, h⟩ := bindS h
 refine pq (q_bin rfl rfl (p_shl h16) rfl) ?_
 refine pq (q_build (cs := [iI (IntKind.i64.wrap (orI .u64 n11 n13)), uI n15]) ty62 rfl pl62 rfl) ?_
 refine ow [[iI (IntKind.i64.wrap (orI .u64 n11 n13)), uI n15]] 0 sz62 ?_
 refine oE (eS (lR ?_))
 obtain rfl := sj h
 exact E_endF (.inr rfl) (res_cell (d := .agg [iI (IntKind.i64.wrap (orI .u64 n11 n13)), uI n15]) 0 rfl sz62 rfl rfl rfl rfl res_nil) (vw_cons (vd_agg (vc_cons vc_v (vc_cons vc_v vc_nil))) vw_nil) oG rfl rfl
end Ev
end Go.Proofs.YtlcfdmjkbaegpaaDoor
