/- Functions of the program as functions on data, and that they are. -/
import Derived.Test.YtlcfdmjkbaegpaaEvZ
import Derived.Test.YtlcfdmjkbaegpaaLy1
import Derived.Test.YtlcfdmjkbaegpaaLy2
namespace Go.Proofs.Ytlcfdmjkbaegpaa
namespace Ev
open Go
set_option linter.unusedVariables false
set_option linter.unusedSimpArgs false
set_option maxRecDepth 100000
set_option maxHeartbeats 1000000
attribute [local irreducible] OpsL StL TnL WpL EndL
noncomputable def ref02_Is (n1 : Int) : Option (Bool) :=
  (if n1 ≥ 1 then (if n1 ≤ 5 then some true else some false) else some false)
theorem ref02_Is_r (m : Nat) {n1 : Int} {out : Bool} (h : ref02_Is n1 = some out) : RunsP E1 (m + 1) 24 [.one (iT .i64 n1)] (.fresh, [.one (bT out)]) := by
 refine fn_F rfl (by rw [E1_fn]; exact show fiOf Try.prog 24 = _ by unfold fiOf; rw [Try.func24]; unfold Try.f24; rfl) rfl ?_
 dsimp only
 unfold ref02_Is at h
 refine lS (lO ?_)
 refine pq (qa bf) ?_
 refine oN ?_
 refine pq (qm (iO n1)) ?_
 by_cases c2 : n1 ≥ 1
 replace h := ifT c2 h
 refine pq (qb (p_geq_tZ c2)) ?_
 refine pq (qm bt) ?_
 refine pq (qm (iO n1)) ?_
 by_cases c3 : n1 ≤ 5
 replace h := ifT c3 h
 refine pq (qb (p_leq_tZ c3)) ?_
 refine pq (qpt bt) ?_
 refine pq (qa bt) ?_
 refine oE (eS (lR ?_))
 obtain rfl := sj h
 exact eF1
 replace h := ifF c3 h
 refine pq (qb (p_leq_fZ c3)) ?_
 refine pq (qpt bf) ?_
 refine pq (qa bf) ?_
 refine oE (eS (lR ?_))
 obtain rfl := sj h
 exact eF1
 replace h := ifF c2 h
 refine pq (qb (p_geq_fZ c2)) ?_
 refine pq (qm bf) ?_
 iterate 2 refine os ?_
 refine pq (qpf bf) ?_
 refine pq (qa bf) ?_
 refine oE (eS (lR ?_))
 obtain rfl := sj h
 exact eF1

noncomputable def ref01_Of (n1 : Int) : Option ((Int × Int)) :=
  (if n1 < 0 then some ((-1), (IntKind.u64.wrap n1)) else some (0, (IntKind.u64.wrap n1)))
theorem ref01_Of_r (m : Nat) {n1 : Int} {out : (Int × Int)} (h : ref01_Of n1 = some out) : RunsP E1 (m + 1) 41 [.one (iT .i64 n1)] (.fresh, [.agg (r65 out)]) := by
 refine fn_F rfl (by rw [E1_fn]; exact show fiOf Try.prog 41 = _ by unfold fiOf; rw [Try.func41]; unfold Try.f41; rfl) rfl ?_
 dsimp only
 unfold ref01_Of at h
 refine lS (lO ?_)
 refine ol_new rfl rfl rfl (q_alloc ty66 (row := [iI 0, uI 0]) rfl rfl) (fun k2 => ?_)
 refine oE (eS (lS (lS (lO ?_))))
 refine pq (qm (iO n1)) ?_
 by_cases c3 : n1 < 0
 replace h := ifT c3 h
 refine pq (qb (p_lss_tZ c3)) ?_
 refine oE (eS (cT rfl (lS (lO ?_))))
 refine pq (qm (iO n1)) ?_
 refine pq (q_conv rfl (cv2_61_i64 _) rfl) ?_
 refine pq (q_build (cs := [iI (-1), uI (IntKind.u64.wrap n1)]) ty66 rfl pl66 rfl) ?_
 refine ow [[iI (-1), uI (IntKind.u64.wrap n1)]] 0 sz66 ?_
 refine oE (eS (lR (eR ?_)))
 obtain rfl := sj h
 exact E_endF (.inr rfl) (res_cell (d := .agg [iI (-1), uI (IntKind.u64.wrap n1)]) 0 rfl sz66 rfl rfl rfl rfl res_nil) (vw_cons (vd_agg (vc_cons vc_v (vc_cons vc_v vc_nil))) vw_nil) oG rfl rfl
 replace h := ifF c3 h
 refine pq (qb (p_lss_fZ c3)) ?_
 refine oE (eS (cF rfl (lK (eS (lS (lO ?_))))))
 refine pq (qm (iO n1)) ?_
 refine pq (q_conv rfl (cv2_61_i64 _) rfl) ?_
 refine pq (q_build (cs := [iI 0, uI (IntKind.u64.wrap n1)]) ty66 rfl pl66 rfl) ?_
 refine ow [[iI 0, uI (IntKind.u64.wrap n1)]] 0 sz66 ?_
 refine oE (eS (lR ?_))
 obtain rfl := sj h
 exact E_endF (.inr rfl) (res_cell (d := .agg [iI 0, uI (IntKind.u64.wrap n1)]) 0 rfl sz66 rfl rfl rfl rfl res_nil) (vw_cons (vd_agg (vc_cons vc_v (vc_cons vc_v vc_nil))) vw_nil) oG rfl rfl

noncomputable def ref01_Compare (a0 : Int × Int) (a1 : Int × Int) : Option (Int) :=
  match a0, a1 with
  | (n1, n2), (n3, n4) => (if n1 < n3 then some (-1) else (if n1 = n3 then (if n2 < n4 then some (-1) else (if n1 = n3 ∧ n2 = n4 then some 0 else some 1)) else (if n1 = n3 ∧ n2 = n4 then some 0 else some 1)))
theorem ref01_Compare_r (m : Nat) {a0 : Int × Int} {a1 : Int × Int} {out : Int} (h : ref01_Compare a0 a1 = some out) : RunsP E1 (m + 1) 66 [.agg (r65 a0), .agg (r65 a1)] (.fresh, [.one (iT .i64 out)]) := by
 obtain ⟨n1, n2⟩ := a0
 obtain ⟨n3, n4⟩ := a1
 refine fn_F rfl (by rw [E1_fn]; exact show fiOf Try.prog 66 = _ by unfold fiOf; rw [Try.func66]; unfold Try.f66; rfl) rfl ?_
 dsimp only
 unfold ref01_Compare at h
 refine lS (lO ?_)
 refine ol_new rfl rfl rfl (q_box ty66 rfl (cs := [iI n1, uI n2]) rfl rfl) (fun k5 => ?_)
 refine ol_new rfl rfl rfl (q_box ty66 rfl (cs := [iI n3, uI n4]) rfl rfl) (fun k6 => ?_)
 refine pq (qa (iO 0)) ?_
 refine oE (eS (lS (lS (lO ?_))))
 refine pq (q_fieldP rfl fa66_0 rfl) ?_
 refine pq (ql (iO n1) 1 sz2) ?_
 refine pq (q_fieldP rfl fa66_0 rfl) ?_
 refine pq (ql (iO n3) 0 sz2) ?_
 by_cases c7 : n1 < n3
 replace h := ifT c7 h
 refine pq (qb (p_lss_tZ c7)) ?_
 refine pq (qm bt) ?_
 iterate 12 refine os ?_
 refine pq (qpt bt) ?_
 refine oE (eS (cT rfl (lS (lO ?_))))
 refine pq (qa (iO (-1))) ?_
 refine oE (eS (lR (eR ?_)))
 obtain rfl := sj h
 exact eF1
 replace h := ifF c7 h
 refine pq (qb (p_lss_fZ c7)) ?_
 refine pq (qm bf) ?_
 refine pq (q_fieldP rfl fa66_0 rfl) ?_
 refine pq (ql (iO n1) 1 sz2) ?_
 refine pq (q_fieldP rfl fa66_0 rfl) ?_
 refine pq (ql (iO n3) 0 sz2) ?_
 by_cases c8 : n1 = n3
 replace h := ifT c8 h
 refine pq (qb (p_eql_tZ c8)) ?_
 refine pq (qm bt) ?_
 refine pq (q_fieldP rfl fa66_1 rfl) ?_
 refine pq (ql (.one (uI n2)) 1 sz61) ?_
 refine pq (q_fieldP rfl fa66_1 rfl) ?_
 refine pq (ql (.one (uI n4)) 0 sz61) ?_
 by_cases c9 : n2 < n4
 replace h := ifT c9 h
 refine pq (qb (p_lss_tZ c9)) ?_
 refine pq (qpt bt) ?_
 refine pq (qpf bt) ?_
 refine oE (eS (cT rfl (lS (lO ?_))))
 refine pq (qa (iO (-1))) ?_
 refine oE (eS (lR (eR ?_)))
 obtain rfl := sj h
 exact eF1
 replace h := ifF c9 h
 refine pq (qb (p_lss_fZ c9)) ?_
 refine pq (qpt bf) ?_
 refine pq (qpf bf) ?_
 refine oE (eS (cF rfl (lK (eS (lS (lS (lO ?_)))))))
 refine pq (ql (.agg [iI n1, uI n2]) 1 sz66) ?_
 refine pq (ql (.agg [iI n3, uI n4]) 0 sz66) ?_
 by_cases c10 : n1 = n3 ∧ n2 = n4
 replace h := ifT c10 h
 refine pq (q_binA rfl rfl (by rfl) (by rfl) (eqeqlA66_t _ _ c10) rfl) ?_
 refine oE (eS (cT rfl (lS (lO ?_))))
 refine pq (qa (iO 0)) ?_
 refine oE (eS (lR (eR ?_)))
 obtain rfl := sj h
 exact eF1
 replace h := ifF c10 h
 refine pq (q_binA rfl rfl (by rfl) (by rfl) (eqeqlA66_f _ _ c10) rfl) ?_
 refine oE (eS (cF rfl (lK (eS (lS (lO ?_))))))
 refine pq (qa (iO 1)) ?_
 refine oE (eS (lR ?_))
 obtain rfl := sj h
 exact eF1
 replace h := ifF c8 h
 refine pq (qb (p_eql_fZ c8)) ?_
 refine pq (qm bf) ?_
 iterate 5 refine os ?_
 refine pq (qpf bf) ?_
 refine pq (qpf bf) ?_
 refine oE (eS (cF rfl (lK (eS (lS (lS (lO ?_)))))))
 refine pq (ql (.agg [iI n1, uI n2]) 1 sz66) ?_
 refine pq (ql (.agg [iI n3, uI n4]) 0 sz66) ?_
 by_cases c11 : n1 = n3 ∧ n2 = n4
 replace h := ifT c11 h
 refine pq (q_binA rfl rfl (by rfl) (by rfl) (eqeqlA66_t _ _ c11) rfl) ?_
 refine oE (eS (cT rfl (lS (lO ?_))))
 refine pq (qa (iO 0)) ?_
 refine oE (eS (lR (eR ?_)))
 obtain rfl := sj h
 exact eF1
 replace h := ifF c11 h
 refine pq (q_binA rfl rfl (by rfl) (by rfl) (eqeqlA66_f _ _ c11) rfl) ?_
 refine oE (eS (cF rfl (lK (eS (lS (lO ?_))))))
 refine pq (qa (iO 1)) ?_
 refine oE (eS (lR ?_))
 obtain rfl := sj h
 exact eF1

noncomputable def ref02_truth (b1 : Bool) : Option ((Int × Int)) :=
  (if b1 = true then some (0, 1) else some (0, 0))
theorem ref02_truth_r (m : Nat) {b1 : Bool} {out : (Int × Int)} (h : ref02_truth b1 = some out) : RunsP E1 (m + 1) 67 [.one (bT b1)] (.fresh, [.agg (r65 out)]) := by
 refine fn_F rfl (by rw [E1_fn]; exact show fiOf Try.prog 67 = _ by unfold fiOf; rw [Try.func67]; unfold Try.f67; rfl) rfl ?_
 dsimp only
 unfold ref02_truth at h
 refine lS (lO ?_)
 refine ol_new rfl rfl rfl (q_alloc ty66 (row := [iI 0, uI 0]) rfl rfl) (fun k2 => ?_)
 refine oE (eS (lS (lS (lO ?_))))
 refine pq (qm (bO b1)) ?_
 refine oE (eS ?_)
 rcases b1 with _ | _
 replace h := wF h
 refine cF rfl (lK (eS (lS (lO ?_))))
 refine pq (q_build (cs := [iI 0, uI 0]) ty66 rfl pl66 rfl) ?_
 refine ow [[iI 0, uI 0]] 0 sz66 ?_
 refine oE (eS (lR ?_))
 obtain rfl := sj h
 exact E_endF (.inr rfl) (res_cell (d := .agg [iI 0, uI 0]) 0 rfl sz66 rfl rfl rfl rfl res_nil) (vw_cons (vd_agg (vc_cons vc_v (vc_cons vc_v vc_nil))) vw_nil) oG rfl rfl
 replace h := wT h
 refine cT rfl (lS (lO ?_))
 refine pq (q_build (cs := [iI 0, uI 1]) ty66 rfl pl66 rfl) ?_
 refine ow [[iI 0, uI 1]] 0 sz66 ?_
 refine oE (eS (lR (eR ?_)))
 obtain rfl := sj h
 exact E_endF (.inr rfl) (res_cell (d := .agg [iI 0, uI 1]) 0 rfl sz66 rfl rfl rfl rfl res_nil) (vw_cons (vd_agg (vc_cons vc_v (vc_cons vc_v vc_nil))) vw_nil) oG rfl rfl

noncomputable def ref01_Add (a0 : Int × Int) (a1 : Int × Int) : Option ((Int × Int)) :=
  match a0, a1 with
  | (n1, n2), (n3, n4) => (if (IntKind.u64.wrap (n2 + n4)) < n2 then some ((IntKind.i64.wrap ((IntKind.i64.wrap (n1 + n3)) + 1)), (IntKind.u64.wrap (n2 + n4))) else some ((IntKind.i64.wrap (n1 + n3)), (IntKind.u64.wrap (n2 + n4))))
theorem ref01_Add_r (m : Nat) {a0 : Int × Int} {a1 : Int × Int} {out : (Int × Int)} (h : ref01_Add a0 a1 = some out) : RunsP E1 (m + 1) 68 [.agg (r65 a0), .agg (r65 a1)] (.fresh, [.agg (r65 out)]) := by
 obtain ⟨n1, n2⟩ := a0
 obtain ⟨n3, n4⟩ := a1
 refine fn_F rfl (by rw [E1_fn]; exact show fiOf Try.prog 68 = _ by unfold fiOf; rw [Try.func68]; unfold Try.f68; rfl) rfl ?_
 dsimp only
 unfold ref01_Add at h
 refine lS (lO ?_)
 refine ol_new rfl rfl rfl (q_box ty66 rfl (cs := [iI n1, uI n2]) rfl rfl) (fun k5 => ?_)
 refine ol_new rfl rfl rfl (q_box ty66 rfl (cs := [iI n3, uI n4]) rfl rfl) (fun k6 => ?_)
 refine ol_new rfl rfl rfl (q_alloc ty66 (row := [iI 0, uI 0]) rfl rfl) (fun k7 => ?_)
 refine oN ?_
 refine pq (q_fieldP rfl fa66_1 rfl) ?_
 refine pq (ql (.one (uI n2)) 2 sz61) ?_
 refine pq (q_fieldP rfl fa66_1 rfl) ?_
 refine pq (ql (.one (uI n4)) 1 sz61) ?_
 refine pq (qb p_addY) ?_
 refine pq (qa (.one (uI (IntKind.u64.wrap (n2 + n4))))) ?_
 refine oN ?_
 refine pq (q_fieldP rfl fa66_0 rfl) ?_
 refine pq (ql (iO n1) 2 sz2) ?_
 refine pq (q_fieldP rfl fa66_0 rfl) ?_
 refine pq (ql (iO n3) 1 sz2) ?_
 refine pq (qb p_addY) ?_
 refine pq (qa (iO (IntKind.i64.wrap (n1 + n3)))) ?_
 refine oE (eS (lS (lS (lO ?_))))
 refine pq (qm (.one (uI (IntKind.u64.wrap (n2 + n4))))) ?_
 refine pq (q_fieldP rfl fa66_1 rfl) ?_
 refine pq (ql (.one (uI n2)) 2 sz61) ?_
 by_cases c8 : (IntKind.u64.wrap (n2 + n4)) < n2
 replace h := ifT c8 h
 refine pq (qb (p_lss_tZ c8)) ?_
 refine oE (eS (cT rfl (lO ?_)))
 refine pq (qm (iO (IntKind.i64.wrap (n1 + n3)))) ?_
 refine pq (qb p_addY) ?_
 refine pq (qa (.one (iI (IntKind.i64.wrap ((IntKind.i64.wrap (n1 + n3)) + 1))))) ?_
 refine oN ?_
 refine pq (qm (.one (iI (IntKind.i64.wrap ((IntKind.i64.wrap (n1 + n3)) + 1))))) ?_
 refine pq (qm (.one (uI (IntKind.u64.wrap (n2 + n4))))) ?_
 refine pq (q_build (cs := [iI (IntKind.i64.wrap ((IntKind.i64.wrap (n1 + n3)) + 1)), uI (IntKind.u64.wrap (n2 + n4))]) ty66 rfl pl66 rfl) ?_
 refine ow [[iI (IntKind.i64.wrap ((IntKind.i64.wrap (n1 + n3)) + 1)), uI (IntKind.u64.wrap (n2 + n4))]] 0 sz66 ?_
 refine oE (eS (lR ?_))
 obtain rfl := sj h
 exact E_endF (.inr rfl) (res_cell (d := .agg [iI (IntKind.i64.wrap ((IntKind.i64.wrap (n1 + n3)) + 1)), uI (IntKind.u64.wrap (n2 + n4))]) 0 rfl sz66 rfl rfl rfl rfl res_nil) (vw_cons (vd_agg (vc_cons vc_v (vc_cons vc_v vc_nil))) vw_nil) oG rfl rfl
 replace h := ifF c8 h
 refine pq (qb (p_lss_fZ c8)) ?_
 refine oE (eS (cF rfl (lK (eS (lS (lO ?_))))))
 refine pq (qm (iO (IntKind.i64.wrap (n1 + n3)))) ?_
 refine pq (qm (.one (uI (IntKind.u64.wrap (n2 + n4))))) ?_
 refine pq (q_build (cs := [iI (IntKind.i64.wrap (n1 + n3)), uI (IntKind.u64.wrap (n2 + n4))]) ty66 rfl pl66 rfl) ?_
 refine ow [[iI (IntKind.i64.wrap (n1 + n3)), uI (IntKind.u64.wrap (n2 + n4))]] 0 sz66 ?_
 refine oE (eS (lR ?_))
 obtain rfl := sj h
 exact E_endF (.inr rfl) (res_cell (d := .agg [iI (IntKind.i64.wrap (n1 + n3)), uI (IntKind.u64.wrap (n2 + n4))]) 0 rfl sz66 rfl rfl rfl rfl res_nil) (vw_cons (vd_agg (vc_cons vc_v (vc_cons vc_v vc_nil))) vw_nil) oG rfl rfl

noncomputable def ref02_Add (n1 : Int) (a1 : Int × Int) (a2 : Int × Int) : Option ((Int × Int)) :=
  match a1, a2 with
  | (n2, n3), (n4, n5) => (if n1 = 1 then ((ref01_Compare (n4, n5) (n2, n3)).bind fun n11 => (if n11 < 0 then some (n4, n5) else some (n2, n3))) else (if n1 = 3 then ((ref01_Compare (n4, n5) (n2, n3)).bind fun n15 => (if n15 < 0 then some (n4, n5) else some (n2, n3))) else (if n1 = 4 then ((ref01_Compare (n4, n5) (n2, n3)).bind fun n19 => (if n19 < 0 then some (n4, n5) else some (n2, n3))) else (if n1 = 2 then (if n2 = 0 ∧ n3 = 0 then (if n4 = 0 ∧ n5 = 0 then ((ref02_truth false).bind fun (n25, n26) => some (n25, n26)) else ((ref02_truth true).bind fun (n28, n29) => some (n28, n29))) else ((ref02_truth true).bind fun (n31, n32) => some (n31, n32))) else (if n1 = 5 then ((ref01_Add (n2, n3) (n4, n5)).bind fun (n35, n36) => some (n35, n36)) else some (0, 0))))))
theorem ref02_Add_r (m : Nat) {n1 : Int} {a1 : Int × Int} {a2 : Int × Int} {out : (Int × Int)} (h : ref02_Add n1 a1 a2 = some out) : RunsP E1 (m + 2) 40 [.one (iT .i64 n1), .agg (r65 a1), .agg (r65 a2)] (.fresh, [.agg (r65 out)]) := by
 obtain ⟨n2, n3⟩ := a1
 obtain ⟨n4, n5⟩ := a2
 refine fn_F rfl (by rw [E1_fn]; exact show fiOf Try.prog 40 = _ by unfold fiOf; rw [Try.func40]; unfold Try.f40; rfl) rfl ?_
 dsimp only
 unfold ref02_Add at h
 refine lS (lO ?_)
 refine ol_new rfl rfl rfl (q_box ty66 rfl (cs := [iI n2, uI n3]) rfl rfl) (fun k6 => ?_)
 refine ol_new rfl rfl rfl (q_box ty66 rfl (cs := [iI n4, uI n5]) rfl rfl) (fun k7 => ?_)
 refine ol_new rfl rfl rfl (q_alloc ty66 (row := [iI 0, uI 0]) rfl rfl) (fun k8 => ?_)
 refine oN ?_
 refine pq (qm (iO n1)) ?_
 refine oE (eS (lB (lS (lS (lO ?_)))))
 by_cases c9 : n1 = 1
 replace h := ifT c9 h
 refine pq (qb (p_eql_tZ c9)) ?_
 refine pq (qa bt) ?_
 refine oE (eS (cT rfl (lK (eS (cT rfl (lS (lS (lO ?_))))))))
 refine pq (ql (.agg [iI n4, uI n5]) 1 sz66) ?_
 refine pq (ql (.agg [iI n2, uI n3]) 2 sz66) ?_
 obtain ⟨n11, h10, h⟩ := bindS h
 refine pq (qc (iO n11) [.agg [iI n4, uI n5], .agg [iI n2, uI n3]] (ref01_Compare_r (m + 0) h10) (vw_cons (vd_agg (vc_cons vc_v (vc_cons vc_v vc_nil))) (vw_cons (vd_agg (vc_cons vc_v (vc_cons vc_v vc_nil))) vw_nil))) ?_
 by_cases c12 : n11 < 0
 replace h := ifT c12 h
 refine pq (qb (p_lss_tZ c12)) ?_
 refine oE (eS (cT rfl (lS (lO ?_))))
 refine pq (ql (.agg [iI n4, uI n5]) 1 sz66) ?_
 refine ow [[iI n4, uI n5]] 0 sz66 ?_
 refine oE (eS (lR (eR (bR ?_))))
 obtain rfl := sj h
 exact E_endF (.inr rfl) (res_cell (d := .agg [iI n4, uI n5]) 0 rfl sz66 rfl rfl rfl rfl res_nil) (vw_cons (vd_agg (vc_cons vc_v (vc_cons vc_v vc_nil))) vw_nil) oG rfl rfl
 replace h := ifF c12 h
 refine pq (qb (p_lss_fZ c12)) ?_
 refine oE (eS (cF rfl (lK (eS (lS (lO ?_))))))
 refine pq (ql (.agg [iI n2, uI n3]) 2 sz66) ?_
 refine ow [[iI n2, uI n3]] 0 sz66 ?_
 refine oE (eS (lR (bR ?_)))
 obtain rfl := sj h
 exact E_endF (.inr rfl) (res_cell (d := .agg [iI n2, uI n3]) 0 rfl sz66 rfl rfl rfl rfl res_nil) (vw_cons (vd_agg (vc_cons vc_v (vc_cons vc_v vc_nil))) vw_nil) oG rfl rfl
 replace h := ifF c9 h
 refine pq (qb (p_eql_fZ c9)) ?_
 refine pq (qa bf) ?_
 refine oE (eS (cF rfl (lS (lO ?_))))
 by_cases c13 : n1 = 3
 replace h := ifT c13 h
 refine pq (qb (p_eql_tZ c13)) ?_
 refine pq (qa bt) ?_
 refine oE (eS (cT rfl (lK (eS (cT rfl (lS (lS (lO ?_))))))))
 refine pq (ql (.agg [iI n4, uI n5]) 1 sz66) ?_
 refine pq (ql (.agg [iI n2, uI n3]) 2 sz66) ?_
 obtain ⟨n15, h14, h⟩ := bindS h
 refine pq (qc (iO n15) [.agg [iI n4, uI n5], .agg [iI n2, uI n3]] (ref01_Compare_r (m + 0) h14) (vw_cons (vd_agg (vc_cons vc_v (vc_cons vc_v vc_nil))) (vw_cons (vd_agg (vc_cons vc_v (vc_cons vc_v vc_nil))) vw_nil))) ?_
 by_cases c16 : n15 < 0
 replace h := ifT c16 h
 refine pq (qb (p_lss_tZ c16)) ?_
 refine oE (eS (cT rfl (lS (lO ?_))))
 refine pq (ql (.agg [iI n4, uI n5]) 1 sz66) ?_
 refine ow [[iI n4, uI n5]] 0 sz66 ?_
 refine oE (eS (lR (eR (bR ?_))))
 obtain rfl := sj h
 exact E_endF (.inr rfl) (res_cell (d := .agg [iI n4, uI n5]) 0 rfl sz66 rfl rfl rfl rfl res_nil) (vw_cons (vd_agg (vc_cons vc_v (vc_cons vc_v vc_nil))) vw_nil) oG rfl rfl
 replace h := ifF c16 h
 refine pq (qb (p_lss_fZ c16)) ?_
 refine oE (eS (cF rfl (lK (eS (lS (lO ?_))))))
 refine pq (ql (.agg [iI n2, uI n3]) 2 sz66) ?_
 refine ow [[iI n2, uI n3]] 0 sz66 ?_
 refine oE (eS (lR (bR ?_)))
 obtain rfl := sj h
 exact E_endF (.inr rfl) (res_cell (d := .agg [iI n2, uI n3]) 0 rfl sz66 rfl rfl rfl rfl res_nil) (vw_cons (vd_agg (vc_cons vc_v (vc_cons vc_v vc_nil))) vw_nil) oG rfl rfl
 replace h := ifF c13 h
 refine pq (qb (p_eql_fZ c13)) ?_
 refine pq (qa bf) ?_
 refine oE (eS (cF rfl (lO ?_)))
 by_cases c17 : n1 = 4
 replace h := ifT c17 h
 refine pq (qb (p_eql_tZ c17)) ?_
 refine pq (qa bt) ?_
 refine oE (eS (cT rfl (lS (lS (lO ?_)))))
 refine pq (ql (.agg [iI n4, uI n5]) 1 sz66) ?_
 refine pq (ql (.agg [iI n2, uI n3]) 2 sz66) ?_
 obtain ⟨n19, h18, h⟩ := bindS h
 refine pq (qc (iO n19) [.agg [iI n4, uI n5], .agg [iI n2, uI n3]] (ref01_Compare_r (m + 0) h18) (vw_cons (vd_agg (vc_cons vc_v (vc_cons vc_v vc_nil))) (vw_cons (vd_agg (vc_cons vc_v (vc_cons vc_v vc_nil))) vw_nil))) ?_
 by_cases c20 : n19 < 0
 replace h := ifT c20 h
 refine pq (qb (p_lss_tZ c20)) ?_
 refine oE (eS (cT rfl (lS (lO ?_))))
 refine pq (ql (.agg [iI n4, uI n5]) 1 sz66) ?_
 refine ow [[iI n4, uI n5]] 0 sz66 ?_
 refine oE (eS (lR (eR (bR ?_))))
 obtain rfl := sj h
 exact E_endF (.inr rfl) (res_cell (d := .agg [iI n4, uI n5]) 0 rfl sz66 rfl rfl rfl rfl res_nil) (vw_cons (vd_agg (vc_cons vc_v (vc_cons vc_v vc_nil))) vw_nil) oG rfl rfl
 replace h := ifF c20 h
 refine pq (qb (p_lss_fZ c20)) ?_
 refine oE (eS (cF rfl (lK (eS (lS (lO ?_))))))
 refine pq (ql (.agg [iI n2, uI n3]) 2 sz66) ?_
 refine ow [[iI n2, uI n3]] 0 sz66 ?_
 refine oE (eS (lR (bR ?_)))
 obtain rfl := sj h
 exact E_endF (.inr rfl) (res_cell (d := .agg [iI n2, uI n3]) 0 rfl sz66 rfl rfl rfl rfl res_nil) (vw_cons (vd_agg (vc_cons vc_v (vc_cons vc_v vc_nil))) vw_nil) oG rfl rfl
 replace h := ifF c17 h
 refine pq (qb (p_eql_fZ c17)) ?_
 refine pq (qa bf) ?_
 refine oE (eS (cF rfl (lS (lO ?_))))
 by_cases c21 : n1 = 2
 replace h := ifT c21 h
 refine pq (qb (p_eql_tZ c21)) ?_
 refine pq (qa bt) ?_
 refine oE (eS (cT rfl (lS (lO ?_))))
 refine pq (ql (.agg [iI n2, uI n3]) 2 sz66) ?_
 refine pq (q_build (cs := [iI 0, uI 0]) ty66 rfl pl66 rfl) ?_
 by_cases c22 : n2 = 0 ∧ n3 = 0
 replace h := ifT c22 h
 refine pq (q_binA rfl rfl (by rfl) (by rfl) (eqneqA66_t _ _ c22) rfl) ?_
 refine pq (qm bf) ?_
 refine pq (ql (.agg [iI n4, uI n5]) 1 sz66) ?_
 refine pq (q_build (cs := [iI 0, uI 0]) ty66 rfl pl66 rfl) ?_
 by_cases c23 : n4 = 0 ∧ n5 = 0
 replace h := ifT c23 h
 refine pq (q_binA rfl rfl (by rfl) (by rfl) (eqneqA66_t _ _ c23) rfl) ?_
 refine pq (qpf bf) ?_
 obtain ⟨⟨n25, n26⟩, h24, h⟩ := bindS h
 refine pq (qc (.agg [iI n25, uI n26]) [bf] (ref02_truth_r (m + 0) h24) (vw_cons (vd_one vc_v) vw_nil)) ?_
 refine ow [[iI n25, uI n26]] 0 sz66 ?_
 refine oE (eS (lR (bR ?_)))
 obtain rfl := sj h
 exact E_endF (.inr rfl) (res_cell (d := .agg [iI n25, uI n26]) 0 rfl sz66 rfl rfl rfl rfl res_nil) (vw_cons (vd_agg (vc_cons vc_v (vc_cons vc_v vc_nil))) vw_nil) oG rfl rfl
 replace h := ifF c23 h
 refine pq (q_binA rfl rfl (by rfl) (by rfl) (eqneqA66_f _ _ c23) rfl) ?_
 refine pq (qpf bt) ?_
 obtain ⟨⟨n28, n29⟩, h27, h⟩ := bindS h
 refine pq (qc (.agg [iI n28, uI n29]) [bt] (ref02_truth_r (m + 0) h27) (vw_cons (vd_one vc_v) vw_nil)) ?_
 refine ow [[iI n28, uI n29]] 0 sz66 ?_
 refine oE (eS (lR (bR ?_)))
 obtain rfl := sj h
 exact E_endF (.inr rfl) (res_cell (d := .agg [iI n28, uI n29]) 0 rfl sz66 rfl rfl rfl rfl res_nil) (vw_cons (vd_agg (vc_cons vc_v (vc_cons vc_v vc_nil))) vw_nil) oG rfl rfl
 replace h := ifF c22 h
 refine pq (q_binA rfl rfl (by rfl) (by rfl) (eqneqA66_f _ _ c22) rfl) ?_
 refine pq (qm bt) ?_
 iterate 3 refine os ?_
 refine pq (qpt bt) ?_
 obtain ⟨⟨n31, n32⟩, h30, h⟩ := bindS h
 refine pq (qc (.agg [iI n31, uI n32]) [bt] (ref02_truth_r (m + 0) h30) (vw_cons (vd_one vc_v) vw_nil)) ?_
 refine ow [[iI n31, uI n32]] 0 sz66 ?_
 refine oE (eS (lR (bR ?_)))
 obtain rfl := sj h
 exact E_endF (.inr rfl) (res_cell (d := .agg [iI n31, uI n32]) 0 rfl sz66 rfl rfl rfl rfl res_nil) (vw_cons (vd_agg (vc_cons vc_v (vc_cons vc_v vc_nil))) vw_nil) oG rfl rfl
 replace h := ifF c21 h
 refine pq (qb (p_eql_fZ c21)) ?_
 refine pq (qa bf) ?_
 refine oE (eS (cF rfl (lS (lO ?_))))
 by_cases c33 : n1 = 5
 replace h := ifT c33 h
 refine pq (qb (p_eql_tZ c33)) ?_
 refine pq (qa bt) ?_
 refine oE (eS (cT rfl (lS (lO ?_))))
 refine pq (ql (.agg [iI n2, uI n3]) 2 sz66) ?_
 refine pq (ql (.agg [iI n4, uI n5]) 1 sz66) ?_
 obtain ⟨⟨n35, n36⟩, h34, h⟩ := bindS h
 refine pq (qc (.agg [iI n35, uI n36]) [.agg [iI n2, uI n3], .agg [iI n4, uI n5]] (ref01_Add_r (m + 0) h34) (vw_cons (vd_agg (vc_cons vc_v (vc_cons vc_v vc_nil))) (vw_cons (vd_agg (vc_cons vc_v (vc_cons vc_v vc_nil))) vw_nil))) ?_
 refine ow [[iI n35, uI n36]] 0 sz66 ?_
 refine oE (eS (lR (bR ?_)))
 obtain rfl := sj h
 exact E_endF (.inr rfl) (res_cell (d := .agg [iI n35, uI n36]) 0 rfl sz66 rfl rfl rfl rfl res_nil) (vw_cons (vd_agg (vc_cons vc_v (vc_cons vc_v vc_nil))) vw_nil) oG rfl rfl
 replace h := ifF c33 h
 refine pq (qb (p_eql_fZ c33)) ?_
 refine pq (qa bf) ?_
 refine oE (eS (cF rfl (lS (lO ?_))))
 refine pq (q_build (cs := [iI 0, uI 0]) ty66 rfl pl66 rfl) ?_
 refine ow [[iI 0, uI 0]] 0 sz66 ?_
 refine oE (eS (lR (bR ?_)))
 obtain rfl := sj h
 exact E_endF (.inr rfl) (res_cell (d := .agg [iI 0, uI 0]) 0 rfl sz66 rfl rfl rfl rfl res_nil) (vw_cons (vd_agg (vc_cons vc_v (vc_cons vc_v vc_nil))) vw_nil) oG rfl rfl

noncomputable def ref01_Narrow (a0 : Int × Int) : Option (Int × Bool) :=
  match a0 with
  | (n1, n2) => (if n1 = 0 then (if (IntKind.i64.wrap n2) ≥ 0 then some ((IntKind.i64.wrap n2), true) else (if n1 = (-1) then (if (IntKind.i64.wrap n2) < 0 then some ((IntKind.i64.wrap n2), true) else some (0, false)) else some (0, false))) else (if n1 = (-1) then (if (IntKind.i64.wrap n2) < 0 then some ((IntKind.i64.wrap n2), true) else some (0, false)) else some (0, false)))
theorem ref01_Narrow_r (m : Nat) {a0 : Int × Int} {out : Int × Bool} (h : ref01_Narrow a0 = some out) : RunsP E1 (m + 1) 39 [.agg (r65 a0)] (.fresh, [.one (iT .i64 out.1), .one (bT out.2)]) := by
 obtain ⟨n1, n2⟩ := a0
 refine fn_F rfl (by rw [E1_fn]; exact show fiOf Try.prog 39 = _ by unfold fiOf; rw [Try.func39]; unfold Try.f39; rfl) rfl ?_
 dsimp only
 unfold ref01_Narrow at h
 refine lS (lO ?_)
 refine ol_new rfl rfl rfl (q_box ty66 rfl (cs := [iI n1, uI n2]) rfl rfl) (fun k3 => ?_)
 refine pq (qa (iO 0)) ?_
 refine pq (qa bf) ?_
 refine oN ?_
 refine pq (q_fieldP rfl fa66_1 rfl) ?_
 refine pq (ql (.one (uI n2)) 0 sz61) ?_
 refine pq (q_conv rfl (cv61_2_u64 _) rfl) ?_
 refine pq (qa (iO (IntKind.i64.wrap n2))) ?_
 refine oE (eS (lS (lS (lO ?_))))
 refine pq (q_fieldP rfl fa66_0 rfl) ?_
 refine pq (ql (iO n1) 0 sz2) ?_
 by_cases c4 : n1 = 0
 replace h := ifT c4 h
 refine pq (qb (p_eql_tZ c4)) ?_
 refine pq (qm bt) ?_
 refine pq (qm (iO (IntKind.i64.wrap n2))) ?_
 by_cases c5 : (IntKind.i64.wrap n2) ≥ 0
 replace h := ifT c5 h
 refine pq (qb (p_geq_tZ c5)) ?_
 refine pq (qpt bt) ?_
 refine pq (qm bt) ?_
 iterate 7 refine os ?_
 refine pq (qpt bt) ?_
 refine oE (eS (cT rfl (lS (lO ?_))))
 refine pq (qm (iO (IntKind.i64.wrap n2))) ?_
 refine pq (qa (iO (IntKind.i64.wrap n2))) ?_
 refine pq (qa bt) ?_
 refine oE (eS (lR (eR ?_)))
 obtain rfl := sj h
 exact E_endF (.inr rfl) (res_tmp rfl (res_tmp rfl res_nil)) (vw_cons (vd_one vc_v) (vw_cons (vd_one vc_v) vw_nil)) oW rfl rfl
 replace h := ifF c5 h
 refine pq (qb (p_geq_fZ c5)) ?_
 refine pq (qpt bf) ?_
 refine pq (qm bf) ?_
 refine pq (q_fieldP rfl fa66_0 rfl) ?_
 refine pq (ql (iO n1) 0 sz2) ?_
 by_cases c6 : n1 = (-1)
 replace h := ifT c6 h
 refine pq (qb (p_eql_tZ c6)) ?_
 refine pq (qm bt) ?_
 refine pq (qm (iO (IntKind.i64.wrap n2))) ?_
 by_cases c7 : (IntKind.i64.wrap n2) < 0
 replace h := ifT c7 h
 refine pq (qb (p_lss_tZ c7)) ?_
 refine pq (qpt bt) ?_
 refine pq (qpf bt) ?_
 refine oE (eS (cT rfl (lS (lO ?_))))
 refine pq (qm (iO (IntKind.i64.wrap n2))) ?_
 refine pq (qa (iO (IntKind.i64.wrap n2))) ?_
 refine pq (qa bt) ?_
 refine oE (eS (lR (eR ?_)))
 obtain rfl := sj h
 exact E_endF (.inr rfl) (res_tmp rfl (res_tmp rfl res_nil)) (vw_cons (vd_one vc_v) (vw_cons (vd_one vc_v) vw_nil)) oW rfl rfl
 replace h := ifF c7 h
 refine pq (qb (p_lss_fZ c7)) ?_
 refine pq (qpt bf) ?_
 refine pq (qpf bf) ?_
 refine oE (eS (cF rfl (lK (eS (lS (lO ?_))))))
 refine pq (qa (iO 0)) ?_
 refine pq (qa bf) ?_
 refine oE (eS (lR ?_))
 obtain rfl := sj h
 exact E_endF (.inr rfl) (res_tmp rfl (res_tmp rfl res_nil)) (vw_cons (vd_one vc_v) (vw_cons (vd_one vc_v) vw_nil)) oW rfl rfl
 replace h := ifF c6 h
 refine pq (qb (p_eql_fZ c6)) ?_
 refine pq (qm bf) ?_
 iterate 2 refine os ?_
 refine pq (qpf bf) ?_
 refine pq (qpf bf) ?_
 refine oE (eS (cF rfl (lK (eS (lS (lO ?_))))))
 refine pq (qa (iO 0)) ?_
 refine pq (qa bf) ?_
 refine oE (eS (lR ?_))
 obtain rfl := sj h
 exact E_endF (.inr rfl) (res_tmp rfl (res_tmp rfl res_nil)) (vw_cons (vd_one vc_v) (vw_cons (vd_one vc_v) vw_nil)) oW rfl rfl
 replace h := ifF c4 h
 refine pq (qb (p_eql_fZ c4)) ?_
 refine pq (qm bf) ?_
 iterate 2 refine os ?_
 refine pq (qpf bf) ?_
 refine pq (qm bf) ?_
 refine pq (q_fieldP rfl fa66_0 rfl) ?_
 refine pq (ql (iO n1) 0 sz2) ?_
 by_cases c8 : n1 = (-1)
 replace h := ifT c8 h
 refine pq (qb (p_eql_tZ c8)) ?_
 refine pq (qm bt) ?_
 refine pq (qm (iO (IntKind.i64.wrap n2))) ?_
 by_cases c9 : (IntKind.i64.wrap n2) < 0
 replace h := ifT c9 h
 refine pq (qb (p_lss_tZ c9)) ?_
 refine pq (qpt bt) ?_
 refine pq (qpf bt) ?_
 refine oE (eS (cT rfl (lS (lO ?_))))
 refine pq (qm (iO (IntKind.i64.wrap n2))) ?_
 refine pq (qa (iO (IntKind.i64.wrap n2))) ?_
 refine pq (qa bt) ?_
 refine oE (eS (lR (eR ?_)))
 obtain rfl := sj h
 exact E_endF (.inr rfl) (res_tmp rfl (res_tmp rfl res_nil)) (vw_cons (vd_one vc_v) (vw_cons (vd_one vc_v) vw_nil)) oW rfl rfl
 replace h := ifF c9 h
 refine pq (qb (p_lss_fZ c9)) ?_
 refine pq (qpt bf) ?_
 refine pq (qpf bf) ?_
 refine oE (eS (cF rfl (lK (eS (lS (lO ?_))))))
 refine pq (qa (iO 0)) ?_
 refine pq (qa bf) ?_
 refine oE (eS (lR ?_))
 obtain rfl := sj h
 exact E_endF (.inr rfl) (res_tmp rfl (res_tmp rfl res_nil)) (vw_cons (vd_one vc_v) (vw_cons (vd_one vc_v) vw_nil)) oW rfl rfl
 replace h := ifF c8 h
 refine pq (qb (p_eql_fZ c8)) ?_
 refine pq (qm bf) ?_
 iterate 2 refine os ?_
 refine pq (qpf bf) ?_
 refine pq (qpf bf) ?_
 refine oE (eS (cF rfl (lK (eS (lS (lO ?_))))))
 refine pq (qa (iO 0)) ?_
 refine pq (qa bf) ?_
 refine oE (eS (lR ?_))
 obtain rfl := sj h
 exact E_endF (.inr rfl) (res_tmp rfl (res_tmp rfl res_nil)) (vw_cons (vd_one vc_v) (vw_cons (vd_one vc_v) vw_nil)) oW rfl rfl
end Ev
end Go.Proofs.Ytlcfdmjkbaegpaa
