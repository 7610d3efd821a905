/- Functions of the program as functions on data, and that they are. -/
import Derived.Test.YtlcfdmjkbaegpaaEvZ
import Derived.Test.YtlcfdmjkbaegpaaLf1
import Derived.Test.YtlcfdmjkbaegpaaLy1
import Derived.Test.YtlcfdmjkbaegpaaLy2
namespace Go.Proofs.Ytlcfdmjkbaegpaa
namespace Ev
open Go
set_option linter.unusedVariables false
set_option linter.unusedSimpArgs false
set_option maxRecDepth 100000
set_option maxHeartbeats 1000000
attribute [local irreducible] OpsL StL TnL WpL EndL
noncomputable def ring_Is (n1 : Int) : Option (Bool) :=
  (if n1 ≥ 1 then (if n1 ≤ 5 then some true else some false) else some false)
theorem ring_Is_r (m : Nat) {n1 : Int} {out : Bool} (h : ring_Is n1 = some out) : RunsP E1 (m + 1) 32 [.one (iT .i64 n1)] (.fresh, [.one (bT out)]) := by
 refine fn_F rfl (by rw [E1_fn]; exact show fiOf Try.prog 32 = _ by unfold fiOf; rw [Try.func32]; unfold Try.f32; rfl) rfl ?_
 dsimp only
 unfold ring_Is at h
 refine lS (lO ?_)
 refine pq (qa bf) ?_
 refine oN ?_
 refine pq (qm (iO n1)) ?_
 by_cases c2 : n1 ≥ 1
 replace h := ifT c2 h
 refine pq (qb (p_geq_tZ c2)) ?_
 refine pq (qm bt) ?_
 refine pq (qm (iO n1)) ?_
 by_cases c3 : n1 ≤ 5
 replace h := ifT c3 h
 refine pq (qb (p_leq_tZ c3)) ?_
 refine pq (qpt bt) ?_
 refine pq (qa bt) ?_
 refine oE (eS (lR ?_))
 obtain rfl := sj h
 exact eF1
 replace h := ifF c3 h
 refine pq (qb (p_leq_fZ c3)) ?_
 refine pq (qpt bf) ?_
 refine pq (qa bf) ?_
 refine oE (eS (lR ?_))
 obtain rfl := sj h
 exact eF1
 replace h := ifF c2 h
 refine pq (qb (p_geq_fZ c2)) ?_
 refine pq (qm bf) ?_
 iterate 2 refine os ?_
 refine pq (qpf bf) ?_
 refine pq (qa bf) ?_
 refine oE (eS (lR ?_))
 obtain rfl := sj h
 exact eF1

noncomputable def wide_Compare (a0 : Int × Int) (a1 : Int × Int) : Option (Int) :=
  match a0, a1 with
  | (n1, n2), (n3, n4) => (if n1 = n3 ∧ n2 = n4 then some 0 else (if n1 < n3 then some (-1) else (if n1 = n3 then (if n2 < n4 then some (-1) else some 1) else some 1)))
theorem wide_Compare_r (m : Nat) {a0 : Int × Int} {a1 : Int × Int} {out : Int} (h : wide_Compare a0 a1 = some out) : RunsP E1 (m + 1) 78 [.agg (r65 a0), .agg (r65 a1)] (.fresh, [.one (iT .i64 out)]) := by
 obtain ⟨n1, n2⟩ := a0
 obtain ⟨n3, n4⟩ := a1
 refine fn_F rfl (by rw [E1_fn]; exact show fiOf Try.prog 78 = _ by unfold fiOf; rw [Try.func78]; unfold Try.f78; rfl) rfl ?_
 dsimp only
 unfold wide_Compare at h
 refine lS (lO ?_)
 refine ol_new rfl rfl rfl (q_box ty66 rfl (cs := [iI n1, uI n2]) rfl rfl) (fun k5 => ?_)
 refine ol_new rfl rfl rfl (q_box ty66 rfl (cs := [iI n3, uI n4]) rfl rfl) (fun k6 => ?_)
 refine pq (qa (iO 0)) ?_
 refine oE (eS (lS (lB (lS (lO ?_)))))
 refine pq (ql (.agg [iI n1, uI n2]) 1 sz66) ?_
 refine pq (ql (.agg [iI n3, uI n4]) 0 sz66) ?_
 by_cases c7 : n1 = n3 ∧ n2 = n4
 replace h := ifT c7 h
 refine pq (q_binA rfl rfl (by rfl) (by rfl) (eqeqlA66_t _ _ c7) rfl) ?_
 refine pq (qa bt) ?_
 refine oE (eS (cT rfl (lS (lO ?_))))
 refine pq (qa (iO 0)) ?_
 refine oE (eS (lR (bR (eR ?_))))
 obtain rfl := sj h
 exact eF1
 replace h := ifF c7 h
 refine pq (q_binA rfl rfl (by rfl) (by rfl) (eqeqlA66_f _ _ c7) rfl) ?_
 refine pq (qa bf) ?_
 refine oE (eS (cF rfl (lS (lO ?_))))
 refine pq (q_fieldP rfl fa66_0 rfl) ?_
 refine pq (ql (iO n1) 1 sz2) ?_
 refine pq (q_fieldP rfl fa66_0 rfl) ?_
 refine pq (ql (iO n3) 0 sz2) ?_
 by_cases c8 : n1 < n3
 replace h := ifT c8 h
 refine pq (qb (p_lss_tZ c8)) ?_
 refine pq (qm bt) ?_
 iterate 12 refine os ?_
 refine pq (qpt bt) ?_
 refine pq (qa bt) ?_
 refine oE (eS (cT rfl (lS (lO ?_))))
 refine pq (qa (iO (-1))) ?_
 refine oE (eS (lR (bR (eR ?_))))
 obtain rfl := sj h
 exact eF1
 replace h := ifF c8 h
 refine pq (qb (p_lss_fZ c8)) ?_
 refine pq (qm bf) ?_
 refine pq (q_fieldP rfl fa66_0 rfl) ?_
 refine pq (ql (iO n1) 1 sz2) ?_
 refine pq (q_fieldP rfl fa66_0 rfl) ?_
 refine pq (ql (iO n3) 0 sz2) ?_
 by_cases c9 : n1 = n3
 replace h := ifT c9 h
 refine pq (qb (p_eql_tZ c9)) ?_
 refine pq (qm bt) ?_
 refine pq (q_fieldP rfl fa66_1 rfl) ?_
 refine pq (ql (.one (uI n2)) 1 sz61) ?_
 refine pq (q_fieldP rfl fa66_1 rfl) ?_
 refine pq (ql (.one (uI n4)) 0 sz61) ?_
 by_cases c10 : n2 < n4
 replace h := ifT c10 h
 refine pq (qb (p_lss_tZ c10)) ?_
 refine pq (qpt bt) ?_
 refine pq (qpf bt) ?_
 refine pq (qa bt) ?_
 refine oE (eS (cT rfl (lS (lO ?_))))
 refine pq (qa (iO (-1))) ?_
 refine oE (eS (lR (bR (eR ?_))))
 obtain rfl := sj h
 exact eF1
 replace h := ifF c10 h
 refine pq (qb (p_lss_fZ c10)) ?_
 refine pq (qpt bf) ?_
 refine pq (qpf bf) ?_
 refine pq (qa bf) ?_
 refine oE (eS (cF rfl (lK (bN (eS (lS (lO ?_)))))))
 refine pq (qa (iO 1)) ?_
 refine oE (eS (lR ?_))
 obtain rfl := sj h
 exact eF1
 replace h := ifF c9 h
 refine pq (qb (p_eql_fZ c9)) ?_
 refine pq (qm bf) ?_
 iterate 5 refine os ?_
 refine pq (qpf bf) ?_
 refine pq (qpf bf) ?_
 refine pq (qa bf) ?_
 refine oE (eS (cF rfl (lK (bN (eS (lS (lO ?_)))))))
 refine pq (qa (iO 1)) ?_
 refine oE (eS (lR ?_))
 obtain rfl := sj h
 exact eF1

noncomputable def ring_lesser (a0 : Int × Int) (a1 : Int × Int) : Option ((Int × Int)) :=
  match a0, a1 with
  | (n1, n2), (n3, n4) => ((wide_Compare (n3, n4) (n1, n2)).bind fun n9 => (if n9 < 0 then some (n3, n4) else some (n1, n2)))
theorem ring_lesser_r (m : Nat) {a0 : Int × Int} {a1 : Int × Int} {out : (Int × Int)} (h : ring_lesser a0 a1 = some out) : RunsP E1 (m + 2) 62 [.agg (r65 a0), .agg (r65 a1)] (.fresh, [.agg (r65 out)]) := by
 obtain ⟨n1, n2⟩ := a0
 obtain ⟨n3, n4⟩ := a1
 refine fn_F rfl (by rw [E1_fn]; exact show fiOf Try.prog 62 = _ by unfold fiOf; rw [Try.func62]; unfold Try.f62; rfl) rfl ?_
 dsimp only
 unfold ring_lesser at h
 refine lS (lO ?_)
 refine ol_new rfl rfl rfl (q_box ty66 rfl (cs := [iI n1, uI n2]) rfl rfl) (fun k5 => ?_)
 refine ol_new rfl rfl rfl (q_box ty66 rfl (cs := [iI n3, uI n4]) rfl rfl) (fun k6 => ?_)
 refine ol_new rfl rfl rfl (q_alloc ty66 (row := [iI 0, uI 0]) rfl rfl) (fun k7 => ?_)
 refine oE (eS (lS (lS (lO ?_))))
 refine pq (ql (.agg [iI n3, uI n4]) 1 sz66) ?_
 refine pq (ql (.agg [iI n1, uI n2]) 2 sz66) ?_
 obtain ⟨n9, h8, h⟩ := bindS h
 refine pq (qc (iO n9) [.agg [iI n3, uI n4], .agg [iI n1, uI n2]] (wide_Compare_r (m + 0) h8) (vw_cons (vd_agg (vc_cons vc_v (vc_cons vc_v vc_nil))) (vw_cons (vd_agg (vc_cons vc_v (vc_cons vc_v vc_nil))) vw_nil))) ?_
 by_cases c10 : n9 < 0
 replace h := ifT c10 h
 refine pq (qb (p_lss_tZ c10)) ?_
 refine oE (eS (cT rfl (lS (lO ?_))))
 refine pq (ql (.agg [iI n3, uI n4]) 1 sz66) ?_
 refine ow [[iI n3, uI n4]] 0 sz66 ?_
 refine oE (eS (lR (eR ?_)))
 obtain rfl := sj h
 exact E_endF (.inr rfl) (res_cell (d := .agg [iI n3, uI n4]) 0 rfl sz66 rfl rfl rfl rfl res_nil) (vw_cons (vd_agg (vc_cons vc_v (vc_cons vc_v vc_nil))) vw_nil) oG rfl rfl
 replace h := ifF c10 h
 refine pq (qb (p_lss_fZ c10)) ?_
 refine oE (eS (cF rfl (lK (eS (lS (lO ?_))))))
 refine pq (ql (.agg [iI n1, uI n2]) 2 sz66) ?_
 refine ow [[iI n1, uI n2]] 0 sz66 ?_
 refine oE (eS (lR ?_))
 obtain rfl := sj h
 exact E_endF (.inr rfl) (res_cell (d := .agg [iI n1, uI n2]) 0 rfl sz66 rfl rfl rfl rfl res_nil) (vw_cons (vd_agg (vc_cons vc_v (vc_cons vc_v vc_nil))) vw_nil) oG rfl rfl

noncomputable def ring_truth (b1 : Bool) : Option ((Int × Int)) :=
  (if b1 = true then ((wide_Of 1).bind fun (n4, n5) => some (n4, n5)) else some (0, 0))
theorem ring_truth_r (m : Nat) {b1 : Bool} {out : (Int × Int)} (h : ring_truth b1 = some out) : RunsP E1 (m + 2) 63 [.one (bT b1)] (.fresh, [.agg (r65 out)]) := by
 refine fn_F rfl (by rw [E1_fn]; exact show fiOf Try.prog 63 = _ by unfold fiOf; rw [Try.func63]; unfold Try.f63; rfl) rfl ?_
 dsimp only
 unfold ring_truth at h
 refine lS (lO ?_)
 refine ol_new rfl rfl rfl (q_alloc ty66 (row := [iI 0, uI 0]) rfl rfl) (fun k2 => ?_)
 refine oE (eS (lS (lS (lO ?_))))
 refine pq (qm (bO b1)) ?_
 refine oE (eS ?_)
 rcases b1 with _ | _
 replace h := wF h
 refine cF rfl (lK (eS (lS (lO ?_))))
 refine pq (q_build (cs := [iI 0, uI 0]) ty66 rfl pl66 rfl) ?_
 refine ow [[iI 0, uI 0]] 0 sz66 ?_
 refine oE (eS (lR ?_))
 obtain rfl := sj h
 exact E_endF (.inr rfl) (res_cell (d := .agg [iI 0, uI 0]) 0 rfl sz66 rfl rfl rfl rfl res_nil) (vw_cons (vd_agg (vc_cons vc_v (vc_cons vc_v vc_nil))) vw_nil) oG rfl rfl
 replace h := wT h
 refine cT rfl (lS (lO ?_))
 obtain ⟨⟨n4, n5⟩, h3, h⟩ := bindS h
 refine pq (qc (.agg [iI n4, uI n5]) [iO 1] (wide_Of_r (m + 0) h3) (vw_cons (vd_one vc_v) vw_nil)) ?_
 refine ow [[iI n4, uI n5]] 0 sz66 ?_
 refine oE (eS (lR (eR ?_)))
 obtain rfl := sj h
 exact E_endF (.inr rfl) (res_cell (d := .agg [iI n4, uI n5]) 0 rfl sz66 rfl rfl rfl rfl res_nil) (vw_cons (vd_agg (vc_cons vc_v (vc_cons vc_v vc_nil))) vw_nil) oG rfl rfl

noncomputable def wide_Add (a0 : Int × Int) (a1 : Int × Int) : Option ((Int × Int)) :=
  match a0, a1 with
  | (n1, n2), (n3, n4) => (if (IntKind.u64.wrap (n2 + n4)) < n2 then some ((IntKind.i64.wrap ((IntKind.i64.wrap (n1 + n3)) + 1)), (IntKind.u64.wrap (n2 + n4))) else some ((IntKind.i64.wrap (n1 + n3)), (IntKind.u64.wrap (n2 + n4))))
theorem wide_Add_r (m : Nat) {a0 : Int × Int} {a1 : Int × Int} {out : (Int × Int)} (h : wide_Add a0 a1 = some out) : RunsP E1 (m + 1) 64 [.agg (r65 a0), .agg (r65 a1)] (.fresh, [.agg (r65 out)]) := by
 obtain ⟨n1, n2⟩ := a0
 obtain ⟨n3, n4⟩ := a1
 refine fn_F rfl (by rw [E1_fn]; exact show fiOf Try.prog 64 = _ by unfold fiOf; rw [Try.func64]; unfold Try.f64; rfl) rfl ?_
 dsimp only
 unfold wide_Add at h
 refine lS (lO ?_)
 refine ol_new rfl rfl rfl (q_box ty66 rfl (cs := [iI n1, uI n2]) rfl rfl) (fun k5 => ?_)
 refine ol_new rfl rfl rfl (q_box ty66 rfl (cs := [iI n3, uI n4]) rfl rfl) (fun k6 => ?_)
 refine ol_new rfl rfl rfl (q_alloc ty66 (row := [iI 0, uI 0]) rfl rfl) (fun k7 => ?_)
 refine oN ?_
 refine pq (q_fieldP rfl fa66_0 rfl) ?_
 refine pq (ql (iO n1) 2 sz2) ?_
 refine pq (q_fieldP rfl fa66_0 rfl) ?_
 refine pq (ql (iO n3) 1 sz2) ?_
 refine pq (qb p_addY) ?_
 refine pq (q_fieldP rfl fa66_1 rfl) ?_
 refine pq (ql (.one (uI n2)) 2 sz61) ?_
 refine pq (q_fieldP rfl fa66_1 rfl) ?_
 refine pq (ql (.one (uI n4)) 1 sz61) ?_
 refine pq (qb p_addY) ?_
 refine pq (q_build (cs := [iI (IntKind.i64.wrap (n1 + n3)), uI (IntKind.u64.wrap (n2 + n4))]) ty66 rfl pl66 rfl) ?_
 refine ol_new rfl rfl rfl (q_alloc ty66 (row := [iI 0, uI 0]) rfl rfl) (fun k8 => ?_)
 refine ow [[iI (IntKind.i64.wrap (n1 + n3)), uI (IntKind.u64.wrap (n2 + n4))]] 0 sz66 ?_
 refine oE (eS (lS (lS (lO ?_))))
 refine pq (q_fieldP rfl fa66_1 rfl) ?_
 refine pq (ql (.one (uI (IntKind.u64.wrap (n2 + n4)))) 0 sz61) ?_
 refine pq (q_fieldP rfl fa66_1 rfl) ?_
 refine pq (ql (.one (uI n2)) 3 sz61) ?_
 by_cases c9 : (IntKind.u64.wrap (n2 + n4)) < n2
 replace h := ifT c9 h
 refine pq (qb (p_lss_tZ c9)) ?_
 refine oE (eS (cT rfl (lO ?_)))
 refine pq (q_fieldP rfl fa66_0 rfl) ?_
 refine pq (ql (iO (IntKind.i64.wrap (n1 + n3))) 0 sz2) ?_
 refine pq (qb p_addY) ?_
 refine pq (q_fieldP rfl fa66_0 rfl) ?_
 refine ow [[iI (IntKind.i64.wrap ((IntKind.i64.wrap (n1 + n3)) + 1)), uI (IntKind.u64.wrap (n2 + n4))]] 0 sz2 ?_
 refine oN ?_
 refine pq (ql (.agg [iI (IntKind.i64.wrap ((IntKind.i64.wrap (n1 + n3)) + 1)), uI (IntKind.u64.wrap (n2 + n4))]) 0 sz66) ?_
 refine ow [[iI (IntKind.i64.wrap ((IntKind.i64.wrap (n1 + n3)) + 1)), uI (IntKind.u64.wrap (n2 + n4))]] 1 sz66 ?_
 refine oE (eS (lR ?_))
 obtain rfl := sj h
 exact E_endF (.inr rfl) (res_cell (d := .agg [iI (IntKind.i64.wrap ((IntKind.i64.wrap (n1 + n3)) + 1)), uI (IntKind.u64.wrap (n2 + n4))]) 1 rfl sz66 rfl rfl rfl rfl res_nil) (vw_cons (vd_agg (vc_cons vc_v (vc_cons vc_v vc_nil))) vw_nil) oG rfl rfl
 replace h := ifF c9 h
 refine pq (qb (p_lss_fZ c9)) ?_
 refine oE (eS (cF rfl (lK (eS (lS (lO ?_))))))
 refine pq (ql (.agg [iI (IntKind.i64.wrap (n1 + n3)), uI (IntKind.u64.wrap (n2 + n4))]) 0 sz66) ?_
 refine ow [[iI (IntKind.i64.wrap (n1 + n3)), uI (IntKind.u64.wrap (n2 + n4))]] 1 sz66 ?_
 refine oE (eS (lR ?_))
 obtain rfl := sj h
 exact E_endF (.inr rfl) (res_cell (d := .agg [iI (IntKind.i64.wrap (n1 + n3)), uI (IntKind.u64.wrap (n2 + n4))]) 1 rfl sz66 rfl rfl rfl rfl res_nil) (vw_cons (vd_agg (vc_cons vc_v (vc_cons vc_v vc_nil))) vw_nil) oG rfl rfl

noncomputable def ring_Add (n1 : Int) (a1 : Int × Int) (a2 : Int × Int) : Option ((Int × Int)) :=
  match a1, a2 with
  | (n2, n3), (n4, n5) => (if n1 = 1 then ((ring_lesser (n2, n3) (n4, n5)).bind fun (n11, n12) => some (n11, n12)) else (if n1 = 3 then ((ring_lesser (n2, n3) (n4, n5)).bind fun (n15, n16) => some (n15, n16)) else (if n1 = 4 then ((ring_lesser (n2, n3) (n4, n5)).bind fun (n19, n20) => some (n19, n20)) else (if n1 = 2 then (if n2 = 0 ∧ n3 = 0 then (if n4 = 0 ∧ n5 = 0 then ((ring_truth false).bind fun (n25, n26) => some (n25, n26)) else ((ring_truth true).bind fun (n28, n29) => some (n28, n29))) else ((ring_truth true).bind fun (n31, n32) => some (n31, n32))) else (if n1 = 5 then ((wide_Add (n2, n3) (n4, n5)).bind fun (n35, n36) => some (n35, n36)) else some (0, 0))))))
theorem ring_Add_r (m : Nat) {n1 : Int} {a1 : Int × Int} {a2 : Int × Int} {out : (Int × Int)} (h : ring_Add n1 a1 a2 = some out) : RunsP E1 (m + 3) 35 [.one (iT .i64 n1), .agg (r65 a1), .agg (r65 a2)] (.fresh, [.agg (r65 out)]) := by
 obtain ⟨n2, n3⟩ := a1
 obtain ⟨n4, n5⟩ := a2
 refine fn_F rfl (by rw [E1_fn]; exact show fiOf Try.prog 35 = _ by unfold fiOf; rw [Try.func35]; unfold Try.f35; rfl) rfl ?_
 dsimp only
 unfold ring_Add at h
 refine lS (lO ?_)
 refine ol_new rfl rfl rfl (q_box ty66 rfl (cs := [iI n2, uI n3]) rfl rfl) (fun k6 => ?_)
 refine ol_new rfl rfl rfl (q_box ty66 rfl (cs := [iI n4, uI n5]) rfl rfl) (fun k7 => ?_)
 refine ol_new rfl rfl rfl (q_alloc ty66 (row := [iI 0, uI 0]) rfl rfl) (fun k8 => ?_)
 refine oE (eS (lS (lS (lO ?_))))
 refine pq (qm (iO n1)) ?_
 refine oE (eS (lB (lS (lS (lO ?_)))))
 by_cases c9 : n1 = 1
 replace h := ifT c9 h
 refine pq (qb (p_eql_tZ c9)) ?_
 refine pq (qa bt) ?_
 refine oE (eS (cT rfl (lK (eS (cT rfl (lS (lO ?_)))))))
 refine pq (ql (.agg [iI n2, uI n3]) 2 sz66) ?_
 refine pq (ql (.agg [iI n4, uI n5]) 1 sz66) ?_
 obtain ⟨⟨n11, n12⟩, h10, h⟩ := bindS h
 refine pq (qc (.agg [iI n11, uI n12]) [.agg [iI n2, uI n3], .agg [iI n4, uI n5]] (ring_lesser_r (m + 0) h10) (vw_cons (vd_agg (vc_cons vc_v (vc_cons vc_v vc_nil))) (vw_cons (vd_agg (vc_cons vc_v (vc_cons vc_v vc_nil))) vw_nil))) ?_
 refine ow [[iI n11, uI n12]] 0 sz66 ?_
 refine oE (eS (lR (bR (eR ?_))))
 obtain rfl := sj h
 exact E_endF (.inr rfl) (res_cell (d := .agg [iI n11, uI n12]) 0 rfl sz66 rfl rfl rfl rfl res_nil) (vw_cons (vd_agg (vc_cons vc_v (vc_cons vc_v vc_nil))) vw_nil) oG rfl rfl
 replace h := ifF c9 h
 refine pq (qb (p_eql_fZ c9)) ?_
 refine pq (qa bf) ?_
 refine oE (eS (cF rfl (lS (lO ?_))))
 by_cases c13 : n1 = 3
 replace h := ifT c13 h
 refine pq (qb (p_eql_tZ c13)) ?_
 refine pq (qa bt) ?_
 refine oE (eS (cT rfl (lK (eS (cT rfl (lS (lO ?_)))))))
 refine pq (ql (.agg [iI n2, uI n3]) 2 sz66) ?_
 refine pq (ql (.agg [iI n4, uI n5]) 1 sz66) ?_
 obtain ⟨⟨n15, n16⟩, h14, h⟩ := bindS h
 refine pq (qc (.agg [iI n15, uI n16]) [.agg [iI n2, uI n3], .agg [iI n4, uI n5]] (ring_lesser_r (m + 0) h14) (vw_cons (vd_agg (vc_cons vc_v (vc_cons vc_v vc_nil))) (vw_cons (vd_agg (vc_cons vc_v (vc_cons vc_v vc_nil))) vw_nil))) ?_
 refine ow [[iI n15, uI n16]] 0 sz66 ?_
 refine oE (eS (lR (bR (eR ?_))))
 obtain rfl := sj h
 exact E_endF (.inr rfl) (res_cell (d := .agg [iI n15, uI n16]) 0 rfl sz66 rfl rfl rfl rfl res_nil) (vw_cons (vd_agg (vc_cons vc_v (vc_cons vc_v vc_nil))) vw_nil) oG rfl rfl
 replace h := ifF c13 h
 refine pq (qb (p_eql_fZ c13)) ?_
 refine pq (qa bf) ?_
 refine oE (eS (cF rfl (lO ?_)))
 by_cases c17 : n1 = 4
 replace h := ifT c17 h
 refine pq (qb (p_eql_tZ c17)) ?_
 refine pq (qa bt) ?_
 refine oE (eS (cT rfl (lS (lO ?_))))
 refine pq (ql (.agg [iI n2, uI n3]) 2 sz66) ?_
 refine pq (ql (.agg [iI n4, uI n5]) 1 sz66) ?_
 obtain ⟨⟨n19, n20⟩, h18, h⟩ := bindS h
 refine pq (qc (.agg [iI n19, uI n20]) [.agg [iI n2, uI n3], .agg [iI n4, uI n5]] (ring_lesser_r (m + 0) h18) (vw_cons (vd_agg (vc_cons vc_v (vc_cons vc_v vc_nil))) (vw_cons (vd_agg (vc_cons vc_v (vc_cons vc_v vc_nil))) vw_nil))) ?_
 refine ow [[iI n19, uI n20]] 0 sz66 ?_
 refine oE (eS (lR (bR (eR ?_))))
 obtain rfl := sj h
 exact E_endF (.inr rfl) (res_cell (d := .agg [iI n19, uI n20]) 0 rfl sz66 rfl rfl rfl rfl res_nil) (vw_cons (vd_agg (vc_cons vc_v (vc_cons vc_v vc_nil))) vw_nil) oG rfl rfl
 replace h := ifF c17 h
 refine pq (qb (p_eql_fZ c17)) ?_
 refine pq (qa bf) ?_
 refine oE (eS (cF rfl (lS (lO ?_))))
 by_cases c21 : n1 = 2
 replace h := ifT c21 h
 refine pq (qb (p_eql_tZ c21)) ?_
 refine pq (qa bt) ?_
 refine oE (eS (cT rfl (lS (lO ?_))))
 refine pq (ql (.agg [iI n2, uI n3]) 2 sz66) ?_
 refine pq (q_build (cs := [iI 0, uI 0]) ty66 rfl pl66 rfl) ?_
 by_cases c22 : n2 = 0 ∧ n3 = 0
 replace h := ifT c22 h
 refine pq (q_binA rfl rfl (by rfl) (by rfl) (eqneqA66_t _ _ c22) rfl) ?_
 refine pq (qm bf) ?_
 refine pq (ql (.agg [iI n4, uI n5]) 1 sz66) ?_
 refine pq (q_build (cs := [iI 0, uI 0]) ty66 rfl pl66 rfl) ?_
 by_cases c23 : n4 = 0 ∧ n5 = 0
 replace h := ifT c23 h
 refine pq (q_binA rfl rfl (by rfl) (by rfl) (eqneqA66_t _ _ c23) rfl) ?_
 refine pq (qpf bf) ?_
 obtain ⟨⟨n25, n26⟩, h24, h⟩ := bindS h
 refine pq (qc (.agg [iI n25, uI n26]) [bf] (ring_truth_r (m + 0) h24) (vw_cons (vd_one vc_v) vw_nil)) ?_
 refine ow [[iI n25, uI n26]] 0 sz66 ?_
 refine oE (eS (lR (bR (eR ?_))))
 obtain rfl := sj h
 exact E_endF (.inr rfl) (res_cell (d := .agg [iI n25, uI n26]) 0 rfl sz66 rfl rfl rfl rfl res_nil) (vw_cons (vd_agg (vc_cons vc_v (vc_cons vc_v vc_nil))) vw_nil) oG rfl rfl
 replace h := ifF c23 h
 refine pq (q_binA rfl rfl (by rfl) (by rfl) (eqneqA66_f _ _ c23) rfl) ?_
 refine pq (qpf bt) ?_
 obtain ⟨⟨n28, n29⟩, h27, h⟩ := bindS h
 refine pq (qc (.agg [iI n28, uI n29]) [bt] (ring_truth_r (m + 0) h27) (vw_cons (vd_one vc_v) vw_nil)) ?_
 refine ow [[iI n28, uI n29]] 0 sz66 ?_
 refine oE (eS (lR (bR (eR ?_))))
 obtain rfl := sj h
 exact E_endF (.inr rfl) (res_cell (d := .agg [iI n28, uI n29]) 0 rfl sz66 rfl rfl rfl rfl res_nil) (vw_cons (vd_agg (vc_cons vc_v (vc_cons vc_v vc_nil))) vw_nil) oG rfl rfl
 replace h := ifF c22 h
 refine pq (q_binA rfl rfl (by rfl) (by rfl) (eqneqA66_f _ _ c22) rfl) ?_
 refine pq (qm bt) ?_
 iterate 3 refine os ?_
 refine pq (qpt bt) ?_
 obtain ⟨⟨n31, n32⟩, h30, h⟩ := bindS h
 refine pq (qc (.agg [iI n31, uI n32]) [bt] (ring_truth_r (m + 0) h30) (vw_cons (vd_one vc_v) vw_nil)) ?_
 refine ow [[iI n31, uI n32]] 0 sz66 ?_
 refine oE (eS (lR (bR (eR ?_))))
 obtain rfl := sj h
 exact E_endF (.inr rfl) (res_cell (d := .agg [iI n31, uI n32]) 0 rfl sz66 rfl rfl rfl rfl res_nil) (vw_cons (vd_agg (vc_cons vc_v (vc_cons vc_v vc_nil))) vw_nil) oG rfl rfl
 replace h := ifF c21 h
 refine pq (qb (p_eql_fZ c21)) ?_
 refine pq (qa bf) ?_
 refine oE (eS (cF rfl (lS (lO ?_))))
 by_cases c33 : n1 = 5
 replace h := ifT c33 h
 refine pq (qb (p_eql_tZ c33)) ?_
 refine pq (qa bt) ?_
 refine oE (eS (cT rfl (lS (lO ?_))))
 refine pq (ql (.agg [iI n2, uI n3]) 2 sz66) ?_
 refine pq (ql (.agg [iI n4, uI n5]) 1 sz66) ?_
 obtain ⟨⟨n35, n36⟩, h34, h⟩ := bindS h
 refine pq (qc (.agg [iI n35, uI n36]) [.agg [iI n2, uI n3], .agg [iI n4, uI n5]] (wide_Add_r (m + 1) h34) (vw_cons (vd_agg (vc_cons vc_v (vc_cons vc_v vc_nil))) (vw_cons (vd_agg (vc_cons vc_v (vc_cons vc_v vc_nil))) vw_nil))) ?_
 refine ow [[iI n35, uI n36]] 0 sz66 ?_
 refine oE (eS (lR (bR (eR ?_))))
 obtain rfl := sj h
 exact E_endF (.inr rfl) (res_cell (d := .agg [iI n35, uI n36]) 0 rfl sz66 rfl rfl rfl rfl res_nil) (vw_cons (vd_agg (vc_cons vc_v (vc_cons vc_v vc_nil))) vw_nil) oG rfl rfl
 replace h := ifF c33 h
 refine pq (qb (p_eql_fZ c33)) ?_
 refine pq (qa bf) ?_
 refine oE (eS (cF rfl (lK (bN (eS (lS (lO ?_)))))))
 refine pq (q_build (cs := [iI 0, uI 0]) ty66 rfl pl66 rfl) ?_
 refine ow [[iI 0, uI 0]] 0 sz66 ?_
 refine oE (eS (lR ?_))
 obtain rfl := sj h
 exact E_endF (.inr rfl) (res_cell (d := .agg [iI 0, uI 0]) 0 rfl sz66 rfl rfl rfl rfl res_nil) (vw_cons (vd_agg (vc_cons vc_v (vc_cons vc_v vc_nil))) vw_nil) oG rfl rfl

noncomputable def blend_Union_b1 (n1 : Int) (a : (Sl (Int × Int)) × (Sl (Int × Int)) × (List (Int × Int))) : Option (((Sl (Int × Int)) × (Sl (Int × Int)) × (List (Int × Int))) ⊕ ((List (Int × Int)) ⊕ ((List (Int × Int)) ⊕ Empty))) :=
  match a with
  | (s496, s497, l498) => (if ((s496.l.length : Nat) : Int) > 0 then (if ((s497.l.length : Nat) : Int) = 0 then ((atS 2 s496 0).bind fun (n524, n525) => ((cutS 2 s496 1 ((s496.l.length : Nat) : Int)).bind fun s526 => ((wide_Of (IntKind.i64.wrap (n525 + 0))).bind fun (n532, n533) => ((wide_Narrow (n532, n533)).bind fun (n536, b537) => (if b537 = true then ((app l498 ([(n524, n536)] : List (Int × Int))).bind fun _ => some (.inl (s526, s497, (l498 ++ ([(n524, n536)] : List (Int × Int)))))) else some (.inr (.inl l498))))))) else ((atS 2 s496 0).bind fun (n543, n544) => ((atS 2 s497 0).bind fun (n547, n548) => (if n543 ≤ n547 then (if n547 ≤ n543 then ((cutS 2 s496 1 ((s496.l.length : Nat) : Int)).bind fun s554 => ((cutS 2 s497 1 ((s497.l.length : Nat) : Int)).bind fun s557 => ((wide_Of n544).bind fun (n573, n574) => ((wide_Of n548).bind fun (n576, n577) => ((ring_Add n1 (n573, n574) (n576, n577)).bind fun (n579, n580) => ((wide_Narrow (n579, n580)).bind fun (n583, b584) => (if b584 = true then ((app l498 ([(n547, n583)] : List (Int × Int))).bind fun _ => some (.inl (s554, s557, (l498 ++ ([(n547, n583)] : List (Int × Int)))))) else some (.inr (.inl l498))))))))) else ((cutS 2 s496 1 ((s496.l.length : Nat) : Int)).bind fun s589 => ((wide_Of (IntKind.i64.wrap (n544 + 0))).bind fun (n595, n596) => ((wide_Narrow (n595, n596)).bind fun (n599, b600) => (if b600 = true then ((app l498 ([(n543, n599)] : List (Int × Int))).bind fun _ => some (.inl (s589, s497, (l498 ++ ([(n543, n599)] : List (Int × Int)))))) else some (.inr (.inl l498))))))) else ((cutS 2 s497 1 ((s497.l.length : Nat) : Int)).bind fun s606 => ((wide_Of (IntKind.i64.wrap (0 + n548))).bind fun (n612, n613) => ((wide_Narrow (n612, n613)).bind fun (n616, b617) => (if b617 = true then ((app l498 ([(n547, n616)] : List (Int × Int))).bind fun _ => some (.inl (s496, s606, (l498 ++ ([(n547, n616)] : List (Int × Int)))))) else some (.inr (.inl l498)))))))))) else (if ((s497.l.length : Nat) : Int) > 0 then ((atS 2 s497 0).bind fun (n632, n633) => ((cutS 2 s497 1 ((s497.l.length : Nat) : Int)).bind fun s634 => ((wide_Of (IntKind.i64.wrap (0 + n633))).bind fun (n640, n641) => ((wide_Narrow (n640, n641)).bind fun (n644, b645) => (if b645 = true then ((app l498 ([(n632, n644)] : List (Int × Int))).bind fun _ => some (.inl (s496, s634, (l498 ++ ([(n632, n644)] : List (Int × Int)))))) else some (.inr (.inl l498))))))) else some (.inr (.inr (.inl l498)))))
noncomputable def blend_Union (n1 : Int) (a1 : Int × (Sl (Int × Int))) (a2 : Int × (Sl (Int × Int))) : Option ((Int × (Sl (Int × Int))) × Int) :=
  match a1, a2 with
  | (n2, s3), (n4, s5) => ((ring_Is n1).bind fun b11 => (if b11 = true then ((blend_sure (n2, s3)).bind fun (n27, s28) => ((blend_sure (n4, s5)).bind fun (n31, s32) => (if n27 ≠ n31 then some ((0, (⟨false, 0, []⟩ : Sl (Int × Int))), 4) else ((loopO (blend_Union_b1 n1) (s28, s32, ([] : List (Int × Int)))).bind ((Sum.elim (fun l649 => some ((0, (⟨false, 0, []⟩ : Sl (Int × Int))), 12)) (Sum.elim (fun l651 => some ((n27, (mo 2 l651)), 0)) (fun u => u.elim)))))))) else some ((0, (⟨false, 0, []⟩ : Sl (Int × Int))), 8)))
theorem blend_Union_r (m : Nat) {n1 : Int} {a1 : Int × (Sl (Int × Int))} {a2 : Int × (Sl (Int × Int))} {out : (Int × (Sl (Int × Int))) × Int} (h : blend_Union n1 a1 a2 = some out) : RunsP E1 (m + 6) 12 [.one (iT .i64 n1), .agg (r24 a1), .agg (r24 a2)] (.fresh, [.agg (r24 out.1), .one (iT .i64 out.2)]) := by
 obtain ⟨n2, s3⟩ := a1
 obtain ⟨n4, s5⟩ := a2
 refine fn_F rfl (by rw [E1_fn]; exact show fiOf Try.prog 12 = _ by unfold fiOf; rw [Try.func12]; unfold Try.f12; rfl) rfl ?_
 dsimp only
 unfold blend_Union at h
 refine lS (lO ?_)
 refine ol_new rfl rfl rfl (q_box ty22 rfl (cs := [iI n1]) rfl rfl) (fun k6 => ?_)
 refine ol_new rfl rfl rfl (q_box ty25 rfl (cs := [iI n2, sF r56 s3]) rfl rfl) (fun k7 => ?_)
 refine ol_new rfl rfl rfl (q_box ty25 rfl (cs := [iI n4, sF r56 s5]) rfl rfl) (fun k8 => ?_)
 refine ol_new rfl rfl rfl (q_alloc ty25 (row := [iI 0, nC]) rfl rfl) (fun k9 => ?_)
 refine pq (qa (iO 0)) ?_
 refine oE (eS (lS (lS (lO ?_))))
 refine pq (ql (iO n1) 3 sz22) ?_
 obtain ⟨b11, h10, h⟩ := bindS h
 refine pq (qc (bO b11) [iO n1] (ring_Is_r (m + 4) h10) (vw_cons (vd_one vc_v) vw_nil)) ?_
 rcases b11 with _ | _
 replace h := wF h
 refine pq (q_not rfl) ?_
 refine oE (eS (cT rfl (lS (lO ?_))))
 refine pq (q_build (cs := [iI 0, nC]) ty25 rfl pl25 rfl) ?_
 refine ow [[iI 0, nC]] 0 sz25 ?_
 refine pq (qa (iO 8)) ?_
 refine oE (eS (lR (eR ?_)))
 obtain rfl := sj h
 exact E_endF (.inr rfl) (res_cell (d := .agg [iI 0, nC]) 0 rfl sz25 rfl rfl rfl rfl (res_tmp rfl res_nil)) (vw_cons (vd_agg (vc_cons vc_v (vc_cons vc_s vc_nil))) (vw_cons (vd_one vc_v) vw_nil)) oW rfl rfl
 replace h := wT h
 refine pq (q_not rfl) ?_
 refine oE (eS (cF rfl (lK (eS (lS (lO ?_))))))
 refine pq (ql (.agg [iI n2, sF r56 s3]) 2 sz25) ?_
 refine pq (ql (.agg [iI n4, sF r56 s5]) 1 sz25) ?_
 refine pq (q_mkfun rfl rfl) ?_
 refine ol_scallN (args := [.agg [iI n2, sF r56 s3], .agg [iI n4, sF r56 s5], .one (.clo (.func 34) [] [.ptr k6 0 0])]) rfl rfl rfl ax33 (by rw [E1_fn]; exact show fiOf Try.prog 33 = _ by unfold fiOf; rw [Try.func33]; unfold Try.f33; rfl) rfl rfl rfl ?_
 dsimp only
 refine lS (lO ?_)
 refine ol_new rfl rfl rfl (q_box ty25 rfl (cs := [iI n2, sF r56 s3]) rfl rfl) (fun k12 => ?_)
 refine ol_new rfl rfl rfl (q_box ty25 rfl (cs := [iI n4, sF r56 s5]) rfl rfl) (fun k13 => ?_)
 refine ol_new rfl rfl rfl (q_box ty69 rfl (cs := [.clo (.func 34) [] [.ptr k6 0 0]]) rfl rfl) (fun k14 => ?_)
 refine ol_new rfl rfl rfl (q_alloc ty25 (row := [iI 0, nC]) rfl rfl) (fun k15 => ?_)
 refine ol_new rfl rfl rfl (q_alloc ty28 (row := [iI 0]) rfl rfl) (fun k16 => ?_)
 refine oE (eS (lS ?_))
 refine L_norm (L2 := ([[(k16, 1, [[iI 0]])], [(k15, 2, [[iI 0, nC]])], [(k14, 1, [[.clo (.func 34) [] [.ptr k6 0 0]]])], [(k13, 2, [[iI n4, sF r56 s5]])], [(k12, 2, [[iI n2, sF r56 s3]])], [(k9, 2, [[iI 0, nC]])], [(k6, 1, [[iI n1]])]] : BL)) [0, 1, 2, 3, 4, 5, 8] (by decide) rfl ?_
 refine L_turn 6 rfl [[], [], [], [], [k12], [k13]] [(false, []), (false, []), (false, []), (false, []), (false, []), (false, [])] [[2], [2], [0, 1], [], [], []] (by kernel_rfl) (by kernel_rfl) (by kernel_rfl) ?_ (fun bb17 hlt hnd => ?_)
 intro bb17 hlt hnd
 exact ⟨⟨djE, ⟨djE, ⟨djE, ⟨djE, ⟨djN, ⟨djN, trivial⟩⟩⟩⟩⟩⟩, (ltO_cons ltK_nil (ltO_cons ltK_nil (ltO_cons ltK_nil (ltO_cons ltK_nil (ltO_cons (ltK_cons (key_lt hlt 4 rfl) ltK_nil) (ltO_cons (ltK_cons (key_lt hlt 3 rfl) ltK_nil) ltO_nil))))))⟩
 refine tq [4] rfl (hm0 rfl) (ql (.agg [iI n2, sF r56 s3]) 0 sz25) ?_
 obtain ⟨⟨n27, s28⟩, h26, h⟩ := bindS h
 refine tn_putX rfl rfl rfl [] (by decide) rfl (hm0 rfl) rfl (q_callX (v := fun fr29 => .agg [iI n27, .p fr29 (Sl.t r56 s28)]) (args := [.agg [iI n2, sF r56 s3]]) (blend_sure_r (m + 1) h26) rfl rfl (vw_cons (vd_agg (vc_cons vc_v (vc_cons vc_s vc_nil))) vw_nil) rfl rfl (fun fr => rfl)) (fun fr29 => ?_)
 refine tq [3] rfl (hm0 rfl) (ql (.agg [iI n4, sF r56 s5]) 0 sz25) ?_
 obtain ⟨⟨n31, s32⟩, h30, h⟩ := bindS h
 refine tn_putX rfl rfl rfl [] (by decide) rfl (hm0 rfl) rfl (q_callX (v := fun fr33 => .agg [iI n31, .p fr33 (Sl.t r56 s32)]) (args := [.agg [iI n4, sF r56 s5]]) (blend_sure_r (m + 1) h30) rfl rfl (vw_cons (vd_agg (vc_cons vc_v (vc_cons vc_s vc_nil))) vw_nil) rfl rfl (fun fr => rfl)) (fun fr33 => ?_)
 refine tn_wr rfl rfl [4] (by decide) rfl (hm0 rfl) rfl (q_store (es' := [[iI n27, .p fr29 (Sl.t r56 s28)]]) 0 rfl rfl rfl sz25 rfl rfl rfl rfl rfl) (q := 4) rfl rfl ?_
 refine tn_wr rfl rfl [3] (by decide) rfl (hm0 rfl) rfl (q_store (es' := [[iI n31, .p fr33 (Sl.t r56 s32)]]) 0 rfl rfl rfl sz25 rfl rfl rfl rfl rfl) (q := 3) rfl rfl ?_
 refine tn_end (eS (lS (lS (lO ?_))))
 refine pq (q_fieldP rfl fa25_0 rfl) ?_
 refine pq (ql (iO n27) 4 sz3) ?_
 refine pq (q_fieldP rfl fa25_0 rfl) ?_
 refine pq (ql (iO n31) 3 sz3) ?_
 by_cases c34 : n27 ≠ n31
 replace h := ifT c34 h
 refine pq (qb (p_neq_tZ c34)) ?_
 refine oE (eS (cT rfl (lS (lO ?_))))
 refine pq (q_build (cs := [iI 0, nC]) ty25 rfl pl25 rfl) ?_
 refine ow [[iI 0, nC]] 1 sz25 ?_
 refine ow [[iI 4]] 0 sz28 ?_
 refine oE (eS (lR (eR ?_)))
 refine E_call (v := .tup [.agg [iI 0, nC], iO 4]) (.inr rfl) (res_cell (d := .agg [iI 0, nC]) 1 rfl sz25 rfl rfl rfl rfl (res_cell (d := iO 4) 0 rfl sz28 rfl rfl rfl rfl res_nil)) rfl ?_
 refine pq (q_ext (v := .agg [iI 0, nC]) rfl rfl) ?_
 refine pq (q_ext (v := iO 4) rfl rfl) ?_
 refine ow [[iI 0, nC]] 5 sz25 ?_
 refine pq (qa (iO 4)) ?_
 refine oE (eS (lR ?_))
 obtain rfl := sj h
 exact E_endF (.inr rfl) (res_cell (d := .agg [iI 0, nC]) 5 rfl sz25 rfl rfl rfl rfl (res_tmp rfl res_nil)) (vw_cons (vd_agg (vc_cons vc_v (vc_cons vc_s vc_nil))) (vw_cons (vd_one vc_v) vw_nil)) oW rfl rfl
 replace h := ifF c34 h
 refine pq (qb (p_neq_fZ c34)) ?_
 refine oE (eS (cF rfl (lK (eS (lS (lO ?_))))))
 refine pq (q_fieldP rfl fa25_0 rfl) ?_
 refine pq (ql (iO n27) 4 sz3) ?_
 refine pq (q_build (cs := [iI n27, nC]) ty25 rfl pl25 rfl) ?_
 refine ol_new rfl rfl rfl (q_alloc ty25 (row := [iI 0, nC]) rfl rfl) (fun k35 => ?_)
 refine ow [[iI n27, nC]] 0 sz25 ?_
 refine oE (eS (lS (lS (lO ?_))))
 refine pq (q_fieldP rfl fa25_1 rfl) ?_
 refine pq (ql (.one (.p fr29 (Sl.t r56 s28))) 5 sz23) ?_
 refine pq (q_fieldP rfl fa25_1 rfl) ?_
 refine pq (ql (.one (.p fr33 (Sl.t r56 s32))) 4 sz23) ?_
 refine ol_scallN (args := [.one (.p fr29 (Sl.t r56 s28)), .one (.p fr33 (Sl.t r56 s32))]) rfl rfl rfl ax60 (by rw [E1_fn]; exact show fiOf Try.prog 60 = _ by unfold fiOf; rw [Try.func60]; unfold Try.f60; rfl) rfl rfl rfl ?_
 dsimp only
 refine lS (lO ?_)
 refine ol_new rfl rfl rfl (q_box ty23 rfl (cs := [.p fr29 (Sl.t r56 s28)]) rfl rfl) (fun k36 => ?_)
 refine ol_new rfl rfl rfl (q_box ty23 rfl (cs := [.p fr33 (Sl.t r56 s32)]) rfl rfl) (fun k37 => ?_)
 refine pq (qa (.one (.p true (.v .nilFunc)))) ?_
 refine oN ?_
 refine pq (q_mkfun rfl rfl) ?_
 refine pq (qa (.one (.clo (.func 77) [] [.ptr k36 0 0, .ptr k37 0 0]))) ?_
 refine oE (eS (lR ?_))
 refine E_call (v := .one (.clo (.func 77) [] [.ptr k36 0 0, .ptr k37 0 0])) (.inr rfl) (res_tmp (d := .one (.clo (.func 77) [] [.ptr k36 0 0, .ptr k37 0 0])) rfl res_nil) rfl ?_
 refine oE (eS (lB ?_))
 refine L_range rfl (by rw [E1_fn]; exact show fiOf Try.prog 77 = _ by unfold fiOf; rw [Try.func77]; unfold Try.f77; rfl) rfl rfl (fun k38 => ?_)
 dsimp only
 refine lB ?_
 refine L_addM (α := Int × Int) r56 2 ?_
 let S1 : ((Sl (Int × Int)) × (Sl (Int × Int)) × (List (Int × Int))) → (Bool × Bool × Nat) → (Nat → D) → Nat → D := fun a kt g => ups g [(0, .one (.yld k38)), (1, .one (.ptr k36 0 0)), (2, .one (.ptr k37 0 0))]
 let SL1 : ((Sl (Int × Int)) × (Sl (Int × Int)) × (List (Int × Int))) → (Bool × Bool × Nat) → BL := fun a kt => ([[(k38, 0, [])], [(k36, 1, [[.p kt.1 (Sl.t r56 a.1)]])], [(k37, 1, [[.p kt.2.1 (Sl.t r56 a.2.1)]])], [(k9, 2, [[iI 0, nC]])], [(k14, 1, [[.clo (.func 34) [] [.ptr k6 0 0]]])], [(k15, 2, [[iI 0, nC]])], [(k16, 1, [[iI 0]])], [(k35, 2, [[iI n27, moC a.2.2 kt.2.2]])], [(k6, 1, [[iI n1]])], moL r56 2 a.2.2 kt.2.2] : BL)
 let G1 : Empty → Ex → St → Prop := fun u => u.elim
 let Sx1_1 : (List (Int × Int)) → Nat → (Nat → D) → Nat → D := fun a kt g => ups g []
 let SLx1_1 : (List (Int × Int)) → Nat → BL := fun a kt => ([[(k9, 2, [[iI 0, nC]])], [(k14, 1, [[.clo (.func 34) [] [.ptr k6 0 0]]])], [(k15, 2, [[iI 0, nC]])], [(k16, 1, [[iI 0]])], [(k35, 2, [[iI n27, moC a kt]])], [(k38, 0, [])], [(k6, 1, [[iI n1]])], moL r56 2 a kt] : BL)
 let Sx1_0 : (List (Int × Int)) → Nat → (Nat → D) → Nat → D := fun a kt g => ups g []
 let SLx1_0 : (List (Int × Int)) → Nat → BL := fun a kt => ([[(k9, 2, [[iI 0, nC]])], [(k14, 1, [[.clo (.func 34) [] [.ptr k6 0 0]]])], [(k15, 2, [[iI 0, nC]])], [(k16, 1, [[iI 12]])], [(k35, 2, [[iI n27, moC a kt]])], [(k38, 0, [[]])], [(k6, 1, [[iI n1]])], moL r56 2 a kt] : BL)
 let J1 : ((List (Int × Int)) ⊕ ((List (Int × Int)) ⊕ Empty)) → Ex → St → Prop := JE 85 .ret Sx1_0 SLx1_0 (JE 85 (.exit 0) Sx1_1 SLx1_1 (JU G1))
 refine L_loopS (blend_Union_b1 n1) S1 SL1 J1 (JE_n rfl (JE_n rfl (JU_n))) (s28, s32, ([] : List (Int × Int))) h (fr29, fr33, 1494) (ups_self ⟨rfl, rfl, rfl, trivial⟩) [1, 3, 2, 10, 7, 6, 5, 4, 11, 0] (by decide) rfl ?_ ?_
 rintro ⟨s496, s497, l498⟩ ⟨fr499, fr500, k501⟩ g out h
 change blend_Union_b1 n1 (s496, s497, l498) = some out at h
 unfold blend_Union_b1 at h
 refine lS (lS (lO ?_))
 refine pq (ql (.one (.p fr499 (Sl.t r56 s496))) 1 sz23) ?_
 refine pq (q_lenS rfl ty23 rfl rfl rfl rfl) ?_
 by_cases c502 : ((s496.l.length : Nat) : Int) > 0
 replace h := ifT c502 h
 refine pq (qb (p_gtr_tZ c502)) ?_
 refine pq (qm bt) ?_
 iterate 3 refine os ?_
 refine pq (qpt bt) ?_
 refine oE (eS (cT rfl (lK (eS (lB (lS (lO ?_)))))))
 refine ol_new rfl rfl rfl (q_alloc ty64 (row := [iI 0, iI 0, iI 0, bC false, bC false]) rfl rfl) (fun k503 => ?_)
 refine oE (eS (lS ?_))
 refine L_norm (L2 := ([[(k503, 5, [[iI 0, iI 0, iI 0, bC false, bC false]])], [(k38, 0, [])], [(k36, 1, [[.p fr499 (Sl.t r56 s496)]])], [(k37, 1, [[.p fr500 (Sl.t r56 s497)]])], [(k9, 2, [[iI 0, nC]])], [(k14, 1, [[.clo (.func 34) [] [.ptr k6 0 0]]])], [(k15, 2, [[iI 0, nC]])], [(k16, 1, [[iI 0]])], [(k35, 2, [[iI n27, moC l498 k501]])], [(k6, 1, [[iI n1]])], moL r56 2 l498 k501] : BL)) [0, 1, 2, 3, 4, 5, 6, 7, 8, 9, 10] (by decide) rfl ?_
 refine L_turn 21 rfl [[], [], [], [], [], [], [], [], [], [], [], [], [], [], [], [], [], [], [], [], [k503]] [(false, []), (false, []), (false, []), (false, []), (false, []), (false, []), (false, []), (false, []), (false, []), (false, []), (false, []), (false, []), (false, []), (false, []), (false, []), (false, []), (false, []), (false, []), (false, []), (false, []), (false, [])] [[], [], [], [], [], [], [], [], [12, 13, 14, 15], [12, 13, 14, 15], [12, 13, 14, 15], [12, 13, 14, 15], [8, 9, 10, 11], [8, 9, 10, 11], [8, 9, 10, 11], [8, 9, 10, 11], [], [], [], [], []] (by kernel_rfl) (by kernel_rfl) (by kernel_rfl) ?_ (fun bb504 hlt hnd => ?_)
 intro bb504 hlt hnd
 exact ⟨⟨djE, ⟨djE, ⟨djE, ⟨djE, ⟨djE, ⟨djE, ⟨djE, ⟨djE, ⟨djE, ⟨djE, ⟨djE, ⟨djE, ⟨djE, ⟨djE, ⟨djE, ⟨djE, ⟨djE, ⟨djE, ⟨djE, ⟨djE, ⟨djN, trivial⟩⟩⟩⟩⟩⟩⟩⟩⟩⟩⟩⟩⟩⟩⟩⟩⟩⟩⟩⟩⟩, (ltO_cons ltK_nil (ltO_cons ltK_nil (ltO_cons ltK_nil (ltO_cons ltK_nil (ltO_cons ltK_nil (ltO_cons ltK_nil (ltO_cons ltK_nil (ltO_cons ltK_nil (ltO_cons ltK_nil (ltO_cons ltK_nil (ltO_cons ltK_nil (ltO_cons ltK_nil (ltO_cons ltK_nil (ltO_cons ltK_nil (ltO_cons ltK_nil (ltO_cons ltK_nil (ltO_cons ltK_nil (ltO_cons ltK_nil (ltO_cons ltK_nil (ltO_cons ltK_nil (ltO_cons (ltK_cons (key_lt hlt 0 rfl) ltK_nil) ltO_nil)))))))))))))))))))))⟩
 have e_k501 : l498 = [] ∨ k501 < bb504 := key_ltM (r := r56) (w := 2) hlt 10 rfl
 refine tq [3] rfl (hm0 rfl) (ql (.one (.p fr500 (Sl.t r56 s497))) 0 sz23) ?_
 refine tq [] rfl (hm0 rfl) (q_lenS rfl ty23 rfl rfl rfl rfl) ?_
 by_cases c515 : ((s497.l.length : Nat) : Int) = 0
 replace h := ifT c515 h
 refine tn_put rfl rfl rfl [] (by decide) rfl (hm0 rfl) rfl (qb (p_eql_tZ c515)) ?_
 refine tq [] rfl (hm0 rfl) (qm bt) ?_
 refine tn_skip rfl rfl rfl rfl ?_
 refine tn_skip rfl rfl rfl rfl ?_
 refine tn_skip rfl rfl rfl rfl ?_
 refine tn_skip rfl rfl rfl rfl ?_
 refine tn_skip rfl rfl rfl rfl ?_
 refine tn_skip rfl rfl rfl rfl ?_
 refine tn_skip rfl rfl rfl rfl ?_
 refine tn_skip rfl rfl rfl rfl ?_
 refine tn_skip rfl rfl rfl rfl ?_
 refine tn_skip rfl rfl rfl rfl ?_
 refine tn_skip rfl rfl rfl rfl ?_
 refine tn_skip rfl rfl rfl rfl ?_
 refine tn_skip rfl rfl rfl rfl ?_
 refine tn_skip rfl rfl rfl rfl ?_
 refine tq [] rfl (hm0 rfl) (qpt bt) ?_
 refine tq [] rfl (hm0 rfl) (q_fieldP rfl fa64_3 rfl) ?_
 refine tn_wr rfl rfl [0] (by decide) rfl (hm0 rfl) rfl (q_store (es' := [[iI 0, iI 0, iI 0, bC true, bC false]]) 0 rfl rfl rfl sz4 rfl rfl rfl rfl rfl) (q := 0) rfl rfl ?_
 refine tn_end (eS (lS ?_))
 refine L_norm (L2 := ([[(k503, 5, [[iI 0, iI 0, iI 0, bC true, bC false]])], [(k38, 0, [])], [(k36, 1, [[.p fr499 (Sl.t r56 s496)]])], [(k37, 1, [[.p fr500 (Sl.t r56 s497)]])], [(k9, 2, [[iI 0, nC]])], [(k14, 1, [[.clo (.func 34) [] [.ptr k6 0 0]]])], [(k15, 2, [[iI 0, nC]])], [(k16, 1, [[iI 0]])], [(k35, 2, [[iI n27, moC l498 k501]])], [(k6, 1, [[iI n1]])], moL r56 2 l498 k501] : BL)) [0, 1, 2, 3, 4, 5, 6, 7, 8, 9, 10] (by decide) rfl ?_
 refine L_turn 21 rfl [[], [], [], [], [], [], [], [], [], [], [], [], [], [], [], [], [], [], [], [], [k503]] [(false, []), (false, []), (false, []), (false, []), (false, []), (false, []), (false, []), (false, []), (false, []), (false, []), (false, []), (false, []), (false, []), (false, []), (false, []), (false, []), (false, []), (false, []), (false, []), (false, []), (false, [])] [[], [], [], [], [], [], [], [], [12, 13, 14, 15], [12, 13, 14, 15], [12, 13, 14, 15], [12, 13, 14, 15], [8, 9, 10, 11], [8, 9, 10, 11], [8, 9, 10, 11], [8, 9, 10, 11], [], [], [], [], []] (by kernel_rfl) (by kernel_rfl) (by kernel_rfl) ?_ (fun bb516 hlt hnd => ?_)
 intro bb516 hlt hnd
 exact ⟨⟨djE, ⟨djE, ⟨djE, ⟨djE, ⟨djE, ⟨djE, ⟨djE, ⟨djE, ⟨djE, ⟨djE, ⟨djE, ⟨djE, ⟨djE, ⟨djE, ⟨djE, ⟨djE, ⟨djE, ⟨djE, ⟨djE, ⟨djE, ⟨djN, trivial⟩⟩⟩⟩⟩⟩⟩⟩⟩⟩⟩⟩⟩⟩⟩⟩⟩⟩⟩⟩⟩, (ltO_cons ltK_nil (ltO_cons ltK_nil (ltO_cons ltK_nil (ltO_cons ltK_nil (ltO_cons ltK_nil (ltO_cons ltK_nil (ltO_cons ltK_nil (ltO_cons ltK_nil (ltO_cons ltK_nil (ltO_cons ltK_nil (ltO_cons ltK_nil (ltO_cons ltK_nil (ltO_cons ltK_nil (ltO_cons ltK_nil (ltO_cons ltK_nil (ltO_cons ltK_nil (ltO_cons ltK_nil (ltO_cons ltK_nil (ltO_cons ltK_nil (ltO_cons ltK_nil (ltO_cons (ltK_cons (key_lt hlt 0 rfl) ltK_nil) ltO_nil)))))))))))))))))))))⟩
 have e_k501 : l498 = [] ∨ k501 < bb516 := key_ltM (r := r56) (w := 2) hlt 10 rfl
 refine tq [2] rfl (hm0 rfl) (ql (.one (.p fr499 (Sl.t r56 s496))) 0 sz23) ?_
 refine tq [] rfl (hm0 rfl) (q_lenS rfl ty23 rfl rfl rfl rfl) ?_
 refine tn_put rfl rfl rfl [] (by decide) rfl (hm0 rfl) rfl (qb (p_eql_fZ (gt0_ne c502))) ?_
 refine tq [] rfl (hm0 rfl) (qm bf) ?_
 refine tq [3] rfl (hm0 rfl) (ql (.one (.p fr500 (Sl.t r56 s497))) 0 sz23) ?_
 refine tq [] rfl (hm0 rfl) (q_lenS rfl ty23 rfl rfl rfl rfl) ?_
 refine tn_put rfl rfl rfl [] (by decide) rfl (hm0 rfl) rfl (qb (p_gtr_fZ (eq0_ng c515))) ?_
 refine tq [] rfl (hm0 rfl) (qm bf) ?_
 refine tn_skip rfl rfl rfl rfl ?_
 refine tn_skip rfl rfl rfl rfl ?_
 refine tn_skip rfl rfl rfl rfl ?_
 refine tn_skip rfl rfl rfl rfl ?_
 refine tn_skip rfl rfl rfl rfl ?_
 refine tn_skip rfl rfl rfl rfl ?_
 refine tn_skip rfl rfl rfl rfl ?_
 refine tn_skip rfl rfl rfl rfl ?_
 refine tn_skip rfl rfl rfl rfl ?_
 refine tq [] rfl (hm0 rfl) (qpf bf) ?_
 refine tq [] rfl (hm0 rfl) (qpf bf) ?_
 refine tq [] rfl (hm0 rfl) (q_fieldP rfl fa64_4 rfl) ?_
 refine tn_wr rfl rfl [0] (by decide) rfl (hm0 rfl) rfl (q_store (es' := [[iI 0, iI 0, iI 0, bC true, bC false]]) 0 rfl rfl rfl sz4 rfl rfl rfl rfl rfl) (q := 0) rfl rfl ?_
 refine tn_end (eS (lS (lS (lO ?_))))
 refine pq (q_fieldP rfl fa64_3 rfl) ?_
 refine pq (ql bt 0 sz4) ?_
 refine oE (eS (cT rfl (lS ?_)))
 refine L_norm (L2 := ([[(k503, 5, [[iI 0, iI 0, iI 0, bC true, bC false]])], [(k38, 0, [])], [(k36, 1, [[.p fr499 (Sl.t r56 s496)]])], [(k37, 1, [[.p fr500 (Sl.t r56 s497)]])], [(k9, 2, [[iI 0, nC]])], [(k14, 1, [[.clo (.func 34) [] [.ptr k6 0 0]]])], [(k15, 2, [[iI 0, nC]])], [(k16, 1, [[iI 0]])], [(k35, 2, [[iI n27, moC l498 k501]])], [(k6, 1, [[iI n1]])], moL r56 2 l498 k501] : BL)) [0, 1, 2, 3, 4, 5, 6, 7, 8, 9, 10] (by decide) rfl ?_
 refine L_turn 12 rfl [[], [], [], [], [], [], [], [], [], [k503], [], [k503]] [(false, []), (false, []), (false, []), (false, []), (false, []), (false, []), (false, []), (false, []), (false, []), (false, []), (false, []), (false, [])] [[4, 5, 6, 7], [4, 5, 6, 7], [4, 5, 6, 7], [4, 5, 6, 7], [0, 1, 2, 3, 8, 9], [0, 1, 2, 3, 8, 9], [0, 1, 2, 3, 8, 9], [0, 1, 2, 3, 8, 9], [4, 5, 6, 7], [4, 5, 6, 7], [], []] (by kernel_rfl) (by kernel_rfl) (by kernel_rfl) ?_ (fun bb517 hlt hnd => ?_)
 intro bb517 hlt hnd
 exact ⟨⟨djE, ⟨djE, ⟨djE, ⟨djE, ⟨djE, ⟨djE, ⟨djE, ⟨djE, ⟨djE, ⟨(djC nin_nil (djC nin_nil (djC nin_nil (djC nin_nil djN)))), ⟨djE, ⟨djN, trivial⟩⟩⟩⟩⟩⟩⟩⟩⟩⟩⟩⟩, (ltO_cons ltK_nil (ltO_cons ltK_nil (ltO_cons ltK_nil (ltO_cons ltK_nil (ltO_cons ltK_nil (ltO_cons ltK_nil (ltO_cons ltK_nil (ltO_cons ltK_nil (ltO_cons ltK_nil (ltO_cons (ltK_cons (key_lt hlt 0 rfl) ltK_nil) (ltO_cons ltK_nil (ltO_cons (ltK_cons (key_lt hlt 0 rfl) ltK_nil) ltO_nil))))))))))))⟩
 have e_k501 : l498 = [] ∨ k501 < bb517 := key_ltM (r := r56) (w := 2) hlt 10 rfl
 refine tq [2] rfl (hm0 rfl) (ql (.one (.p fr499 (Sl.t r56 s496))) 0 sz23) ?_
 obtain ⟨⟨n524, n525⟩, h523, h⟩ := bindS h
 obtain ⟨h523a, h523b, h523⟩ := atS_some h523
 refine tq [] rfl (hm0 rfl) (q_ixS rfl rfl h523a h523 (el23.trans (congrArg some h523b.symm))) ?_
 refine tq [] rfl (hm0 rfl) (q_fieldI rfl fa57_0 rfl) ?_
 refine tq [] rfl (hm0 rfl) (q_loadI (v := iO n524) rfl sz3 (map_get h523) rfl rfl) ?_
 refine tq [2] rfl (hmc (nin_cons (key_ne hnd 2 0 rfl rfl rfl) nin_nil) hmn) (ql (.one (.p fr499 (Sl.t r56 s496))) 0 sz23) ?_
 refine tq [] rfl hmn (q_ixS rfl rfl h523a h523 (el23.trans (congrArg some h523b.symm))) ?_
 refine tq [] rfl hmn (q_fieldI rfl fa57_1 rfl) ?_
 refine tq [] rfl hmn (q_loadI (v := iO n525) rfl sz2 (map_get h523) rfl rfl) ?_
 refine tq [] rfl (hm0 rfl) (q_fieldP rfl fa64_0 rfl) ?_
 refine tn_wr rfl rfl [0] (by decide) rfl (hm0 rfl) rfl (q_store (es' := [[iI n524, iI 0, iI 0, bC true, bC false]]) 0 rfl rfl rfl sz3 rfl rfl rfl rfl rfl) (q := 0) rfl rfl ?_
 refine tq [] rfl (hm0 rfl) (q_fieldP rfl fa64_1 rfl) ?_
 refine tn_wr rfl rfl [0] (by decide) rfl (hm0 rfl) rfl (q_store (es' := [[iI n524, iI n525, iI 0, bC true, bC false]]) 0 rfl rfl rfl sz2 rfl rfl rfl rfl rfl) (q := 0) rfl rfl ?_
 refine tn_end (eS (lO ?_))
 refine pq (ql (.one (.p fr499 (Sl.t r56 s496))) 2 sz23) ?_
 obtain ⟨s526, h527, h⟩ := bindS h
 refine pq (q_sliceS (r := r56) h527 rfl ty23 rfl ty57 (no_some rfl (cutS_some h527).1.1 _) (no_none _)) ?_
 refine ow [[.p fr499 (Sl.t r56 s526)]] 2 sz23 ?_
 refine oE (eS (lS (lS (lO ?_))))
 refine pq (q_fieldP rfl fa64_4 rfl) ?_
 refine pq (ql bf 0 sz4) ?_
 refine oE (eS (cF rfl (lK (eS (lS (lO ?_))))))
 refine pq (qm (.one (.yld k38))) ?_
 refine pq (ql (.agg [iI n524, iI n525, iI 0, bC true, bC false]) 0 sz64) ?_
 refine ol_yield (args := [.agg [iI n524, iI n525, iI 0, bC true, bC false]]) (p := 1) rfl rfl rfl rfl rfl rfl rfl rfl rfl ?_
 refine lO ?_
 refine ol_new rfl rfl rfl (q_alloc ty64 (row := [iI 0, iI 0, iI 0, bC false, bC false]) rfl rfl) (fun k528 => ?_)
 refine ow [[iI n524, iI n525, iI 0, bC true, bC false]] 0 sz64 ?_
 refine oE ?_
 refine E_asg ?_
 refine lB (lS (lO ?_))
 refine pq (ql (.one (.clo (.func 34) [] [.ptr k6 0 0])) 6 sz69) ?_
 refine pq (ql (.agg [iI n524, iI n525, iI 0, bC true, bC false]) 0 sz64) ?_
 refine ol_scall (args := [.agg [iI n524, iI n525, iI 0, bC true, bC false], .one (.ptr k6 0 0)]) rfl rfl rfl rfl (by rw [E1_fn]; exact show fiOf Try.prog 34 = _ by unfold fiOf; rw [Try.func34]; unfold Try.f34; rfl) rfl rfl rfl ?_
 dsimp only
 refine lS (lO ?_)
 refine ol_new rfl rfl rfl (q_box ty64 rfl (cs := [iI n524, iI n525, iI 0, bC true, bC false]) rfl rfl) (fun k529 => ?_)
 refine ol_new rfl rfl rfl (q_alloc ty66 (row := [iI 0, uI 0]) rfl rfl) (fun k530 => ?_)
 refine pq (qa bf) ?_
 refine oE (eS (lS (lS (lO ?_))))
 refine pq (q_fieldP rfl fa64_3 rfl) ?_
 refine pq (ql bt 1 sz4) ?_
 refine pq (qm bt) ?_
 refine pq (q_fieldP rfl fa64_4 rfl) ?_
 refine pq (ql bf 1 sz4) ?_
 refine pq (qpt bf) ?_
 refine oE (eS (cF rfl (lK (eS (lS (lO ?_))))))
 refine pq (q_fieldP rfl fa64_1 rfl) ?_
 refine pq (ql (iO n525) 1 sz2) ?_
 refine pq (q_fieldP rfl fa64_2 rfl) ?_
 refine pq (ql (iO 0) 1 sz2) ?_
 refine pq (qb p_addY) ?_
 obtain ⟨⟨n532, n533⟩, h531, h⟩ := bindS h
 refine pq (qc (.agg [iI n532, uI n533]) [.one (iI (IntKind.i64.wrap (n525 + 0)))] (wide_Of_r (m + 2) h531) (vw_cons (vd_one vc_v) vw_nil)) ?_
 refine ow [[iI n532, uI n533]] 0 sz66 ?_
 refine pq (qa bt) ?_
 refine oE (eS (lR ?_))
 refine E_call (v := .tup [.agg [iI n532, uI n533], bt]) (.inr rfl) (res_cell (d := .agg [iI n532, uI n533]) 0 rfl sz66 rfl rfl rfl rfl (res_tmp (d := bt) rfl res_nil)) rfl ?_
 refine pq (qm (.tup [.agg [iI n532, uI n533], bt])) ?_
 refine pq (q_ext (v := .agg [iI n532, uI n533]) rfl rfl) ?_
 refine pq (q_ext (v := bt) rfl rfl) ?_
 refine ol_new rfl rfl rfl (q_alloc ty66 (row := [iI 0, uI 0]) rfl rfl) (fun k534 => ?_)
 refine ow [[iI n532, uI n533]] 0 sz66 ?_
 refine pq (qa bt) ?_
 refine oE (eS (lS (lS (lO ?_))))
 refine pq (qm bt) ?_
 refine pq (q_not rfl) ?_
 refine oE (eS (cF rfl (lK (eS (lS (lO ?_))))))
 refine pq (ql (.agg [iI n532, uI n533]) 0 sz66) ?_
 obtain ⟨⟨n536, b537⟩, h535, h⟩ := bindS h
 refine pq (qc (.tup [iO n536, bO b537]) [.agg [iI n532, uI n533]] (wide_Narrow_r (m + 2) h535) (vw_cons (vd_agg (vc_cons vc_v (vc_cons vc_v vc_nil))) vw_nil)) ?_
 refine pq (qm (.tup [iO n536, bO b537])) ?_
 refine pq (q_ext (v := iO n536) rfl rfl) ?_
 refine pq (q_ext (v := bO b537) rfl rfl) ?_
 refine pq (qa (iO n536)) ?_
 refine pq (qa (bO b537)) ?_
 refine oE (eS (lS (lS (lO ?_))))
 refine pq (qm (bO b537)) ?_
 rcases b537 with _ | _
 replace h := wF h
 refine pq (q_not rfl) ?_
 refine oE (eS (cT rfl (lS (lO ?_))))
 refine pq (q_build (cs := [iI 0, nC]) ty25 rfl pl25 rfl) ?_
 refine ow [[iI 0, nC]] 10 sz25 ?_
 refine ow [[iI 12]] 11 sz28 ?_
 refine oE (eS (lR (eR (bR ?_))))
 refine E_roundX (p := 5) (es := [[]]) rfl rfl rfl rfl ?_
 refine pq (q_not rfl) ?_
 refine oE (eS (cT rfl (lR (bR ?_))))
 obtain rfl := sj h
 refine E_out ?_
 exact (E_je k501 (ups_self trivial) [8, 9, 10, 11, 12, 5, 13, 14] (by decide) rfl)
 replace h := wT h
 refine pq (q_not rfl) ?_
 refine oE (eS (cF rfl (lK (eS (lO ?_)))))
 refine pq (q_fieldP rfl fa25_1 rfl) ?_
 refine pq (ql (.one (moC l498 k501)) 12 sz23) ?_
 refine pq (q_fieldP rfl fa64_0 rfl) ?_
 refine pq (ql (iO n524) 3 sz3) ?_
 refine pq (qm (iO n536)) ?_
 refine pq (q_build (cs := [iI n524, iI n536]) ty57 rfl pl57 rfl) ?_
 refine ol_new rfl rfl rfl (q_bslice (cs := [iI n524, iI n536]) (es := (([(n524, n536)] : List (Int × Int))).map (rowC r56)) ty23 rfl ty57 rfl rfl rfl rfl rfl) (fun k538 => ?_)
 obtain ⟨_, h539, h⟩ := bindS h
 obtain ⟨h539b, rfl⟩ := app_some h539
 refine ol_appM (r := r56) (l := l498) (ys := ([(n524, n536)] : List (Int × Int))) 15 rfl rfl rfl rfl rfl rfl (el_ownM (l := ([(n524, n536)] : List (Int × Int))) 0 rfl) rfl h539 (fun y => rfl) el23 ty23 rfl rfl rfl rfl rfl (fun k540 => ?_)
 refine pq (q_fieldP rfl fa25_1 rfl) ?_
 refine ow [[iI n27, moC (l498 ++ ([(n524, n536)] : List (Int × Int))) k540]] 14 sz23 ?_
 refine oE (bN ?_)
 refine E_roundN (p := 7) rfl ?_
 refine pq (q_not rfl) ?_
 refine oE (eS (cF rfl (lK (bN ?_))))
 obtain rfl := sj h
 exact E_next (fr499, fr500, k540) (ups_self ⟨rfl, rfl, rfl, trivial⟩) [7, 8, 9, 10, 11, 12, 13, 14, 15, 0] (by decide) rfl
 replace h := ifF c515 h
 refine tn_put rfl rfl rfl [0] (by decide) rfl (hm0 rfl) rfl (qb (p_eql_fZ c515)) ?_
 refine tq [] rfl (hm0 rfl) (qm bf) ?_
 refine tq [2] rfl (hm0 rfl) (ql (.one (.p fr499 (Sl.t r56 s496))) 0 sz23) ?_
 refine tq [] rfl (hm0 rfl) (q_lenS rfl ty23 rfl rfl rfl rfl) ?_
 refine tn_put rfl rfl rfl [] (by decide) rfl (hm0 rfl) rfl (qb (p_gtr_tZ c502)) ?_
 refine tq [] rfl (hm0 rfl) (qm bt) ?_
 refine tq [2] rfl (hm0 rfl) (ql (.one (.p fr499 (Sl.t r56 s496))) 0 sz23) ?_
 obtain ⟨⟨n543, n544⟩, h542, h⟩ := bindS h
 obtain ⟨h542a, h542b, h542⟩ := atS_some h542
 refine tq [] rfl (hm0 rfl) (q_ixS rfl rfl h542a h542 (el23.trans (congrArg some h542b.symm))) ?_
 refine tq [] rfl (hm0 rfl) (q_fieldI rfl fa57_0 rfl) ?_
 refine tq [] rfl (hm0 rfl) (q_loadI (v := iO n543) rfl sz3 (map_get h542) rfl rfl) ?_
 refine tq [3] rfl (hm0 rfl) (ql (.one (.p fr500 (Sl.t r56 s497))) 0 sz23) ?_
 obtain ⟨⟨n547, n548⟩, h546, h⟩ := bindS h
 obtain ⟨h546a, h546b, h546⟩ := atS_some h546
 refine tq [] rfl (hm0 rfl) (q_ixS rfl rfl h546a h546 (el23.trans (congrArg some h546b.symm))) ?_
 refine tq [] rfl (hm0 rfl) (q_fieldI rfl fa57_0 rfl) ?_
 refine tq [] rfl (hm0 rfl) (q_loadI (v := iO n547) rfl sz3 (map_get h546) rfl rfl) ?_
 by_cases c549 : n543 ≤ n547
 replace h := ifT c549 h
 refine tn_put rfl rfl rfl [] (by decide) rfl (hm0 rfl) rfl (qb (p_leq_tZ c549)) ?_
 refine tq [] rfl (hm0 rfl) (qpt bt) ?_
 refine tq [] rfl (hm0 rfl) (qpf bt) ?_
 refine tq [] rfl (hm0 rfl) (q_fieldP rfl fa64_3 rfl) ?_
 refine tn_wr rfl rfl [0] (by decide) rfl (hm0 rfl) rfl (q_store (es' := [[iI 0, iI 0, iI 0, bC true, bC false]]) 0 rfl rfl rfl sz4 rfl rfl rfl rfl rfl) (q := 0) rfl rfl ?_
 refine tn_end (eS (lS ?_))
 refine L_norm (L2 := ([[(k503, 5, [[iI 0, iI 0, iI 0, bC true, bC false]])], [(k38, 0, [])], [(k36, 1, [[.p fr499 (Sl.t r56 s496)]])], [(k37, 1, [[.p fr500 (Sl.t r56 s497)]])], [(k9, 2, [[iI 0, nC]])], [(k14, 1, [[.clo (.func 34) [] [.ptr k6 0 0]]])], [(k15, 2, [[iI 0, nC]])], [(k16, 1, [[iI 0]])], [(k35, 2, [[iI n27, moC l498 k501]])], [(k6, 1, [[iI n1]])], moL r56 2 l498 k501] : BL)) [0, 1, 2, 3, 4, 5, 6, 7, 8, 9, 10] (by decide) rfl ?_
 refine L_turn 21 rfl [[], [], [], [], [], [], [], [], [], [], [], [], [], [], [], [], [], [], [], [], [k503]] [(false, []), (false, []), (false, []), (false, []), (false, []), (false, []), (false, []), (false, []), (false, []), (false, []), (false, []), (false, []), (false, []), (false, []), (false, []), (false, []), (false, []), (false, []), (false, []), (false, []), (false, [])] [[], [], [], [], [], [], [], [], [12, 13, 14, 15], [12, 13, 14, 15], [12, 13, 14, 15], [12, 13, 14, 15], [8, 9, 10, 11], [8, 9, 10, 11], [8, 9, 10, 11], [8, 9, 10, 11], [], [], [], [], []] (by kernel_rfl) (by kernel_rfl) (by kernel_rfl) ?_ (fun bb550 hlt hnd => ?_)
 intro bb550 hlt hnd
 exact ⟨⟨djE, ⟨djE, ⟨djE, ⟨djE, ⟨djE, ⟨djE, ⟨djE, ⟨djE, ⟨djE, ⟨djE, ⟨djE, ⟨djE, ⟨djE, ⟨djE, ⟨djE, ⟨djE, ⟨djE, ⟨djE, ⟨djE, ⟨djE, ⟨djN, trivial⟩⟩⟩⟩⟩⟩⟩⟩⟩⟩⟩⟩⟩⟩⟩⟩⟩⟩⟩⟩⟩, (ltO_cons ltK_nil (ltO_cons ltK_nil (ltO_cons ltK_nil (ltO_cons ltK_nil (ltO_cons ltK_nil (ltO_cons ltK_nil (ltO_cons ltK_nil (ltO_cons ltK_nil (ltO_cons ltK_nil (ltO_cons ltK_nil (ltO_cons ltK_nil (ltO_cons ltK_nil (ltO_cons ltK_nil (ltO_cons ltK_nil (ltO_cons ltK_nil (ltO_cons ltK_nil (ltO_cons ltK_nil (ltO_cons ltK_nil (ltO_cons ltK_nil (ltO_cons ltK_nil (ltO_cons (ltK_cons (key_lt hlt 0 rfl) ltK_nil) ltO_nil)))))))))))))))))))))⟩
 have e_k501 : l498 = [] ∨ k501 < bb550 := key_ltM (r := r56) (w := 2) hlt 10 rfl
 refine tq [2] rfl (hm0 rfl) (ql (.one (.p fr499 (Sl.t r56 s496))) 0 sz23) ?_
 refine tq [] rfl (hm0 rfl) (q_lenS rfl ty23 rfl rfl rfl rfl) ?_
 refine tn_put rfl rfl rfl [] (by decide) rfl (hm0 rfl) rfl (qb (p_eql_fZ (gt0_ne c502))) ?_
 refine tq [] rfl (hm0 rfl) (qm bf) ?_
 refine tq [3] rfl (hm0 rfl) (ql (.one (.p fr500 (Sl.t r56 s497))) 0 sz23) ?_
 refine tq [] rfl (hm0 rfl) (q_lenS rfl ty23 rfl rfl rfl rfl) ?_
 refine tn_put rfl rfl rfl [] (by decide) rfl (hm0 rfl) rfl (qb (p_gtr_tZ (len1 c515))) ?_
 refine tq [] rfl (hm0 rfl) (qm bt) ?_
 refine tq [3] rfl (hm0 rfl) (ql (.one (.p fr500 (Sl.t r56 s497))) 0 sz23) ?_
 refine tq [] rfl (hm0 rfl) (q_ixS rfl rfl h546a h546 (el23.trans (congrArg some h546b.symm))) ?_
 refine tq [] rfl (hm0 rfl) (q_fieldI rfl fa57_0 rfl) ?_
 refine tq [] rfl (hm0 rfl) (q_loadI (v := iO n547) rfl sz3 (map_get h546) rfl rfl) ?_
 refine tq [2] rfl (hm0 rfl) (ql (.one (.p fr499 (Sl.t r56 s496))) 0 sz23) ?_
 refine tq [] rfl (hm0 rfl) (q_ixS rfl rfl h542a h542 (el23.trans (congrArg some h542b.symm))) ?_
 refine tq [] rfl (hm0 rfl) (q_fieldI rfl fa57_0 rfl) ?_
 refine tq [] rfl (hm0 rfl) (q_loadI (v := iO n543) rfl sz3 (map_get h542) rfl rfl) ?_
 by_cases c552 : n547 ≤ n543
 replace h := ifT c552 h
 refine tn_put rfl rfl rfl [] (by decide) rfl (hm0 rfl) rfl (qb (p_leq_tZ c552)) ?_
 refine tq [] rfl (hm0 rfl) (qpt bt) ?_
 refine tq [] rfl (hm0 rfl) (qpf bt) ?_
 refine tq [] rfl (hm0 rfl) (q_fieldP rfl fa64_4 rfl) ?_
 refine tn_wr rfl rfl [0] (by decide) rfl (hm0 rfl) rfl (q_store (es' := [[iI 0, iI 0, iI 0, bC true, bC true]]) 0 rfl rfl rfl sz4 rfl rfl rfl rfl rfl) (q := 0) rfl rfl ?_
 refine tn_end (eS (lS (lS (lO ?_))))
 refine pq (q_fieldP rfl fa64_3 rfl) ?_
 refine pq (ql bt 0 sz4) ?_
 refine oE (eS (cT rfl (lS ?_)))
 refine L_norm (L2 := ([[(k503, 5, [[iI 0, iI 0, iI 0, bC true, bC true]])], [(k38, 0, [])], [(k36, 1, [[.p fr499 (Sl.t r56 s496)]])], [(k37, 1, [[.p fr500 (Sl.t r56 s497)]])], [(k9, 2, [[iI 0, nC]])], [(k14, 1, [[.clo (.func 34) [] [.ptr k6 0 0]]])], [(k15, 2, [[iI 0, nC]])], [(k16, 1, [[iI 0]])], [(k35, 2, [[iI n27, moC l498 k501]])], [(k6, 1, [[iI n1]])], moL r56 2 l498 k501] : BL)) [0, 1, 2, 3, 4, 5, 6, 7, 8, 9, 10] (by decide) rfl ?_
 refine L_turn 12 rfl [[], [], [], [], [], [], [], [], [], [k503], [], [k503]] [(false, []), (false, []), (false, []), (false, []), (false, []), (false, []), (false, []), (false, []), (false, []), (false, []), (false, []), (false, [])] [[4, 5, 6, 7], [4, 5, 6, 7], [4, 5, 6, 7], [4, 5, 6, 7], [0, 1, 2, 3, 8, 9], [0, 1, 2, 3, 8, 9], [0, 1, 2, 3, 8, 9], [0, 1, 2, 3, 8, 9], [4, 5, 6, 7], [4, 5, 6, 7], [], []] (by kernel_rfl) (by kernel_rfl) (by kernel_rfl) ?_ (fun bb553 hlt hnd => ?_)
 intro bb553 hlt hnd
 exact ⟨⟨djE, ⟨djE, ⟨djE, ⟨djE, ⟨djE, ⟨djE, ⟨djE, ⟨djE, ⟨djE, ⟨(djC nin_nil (djC nin_nil (djC nin_nil (djC nin_nil djN)))), ⟨djE, ⟨djN, trivial⟩⟩⟩⟩⟩⟩⟩⟩⟩⟩⟩⟩, (ltO_cons ltK_nil (ltO_cons ltK_nil (ltO_cons ltK_nil (ltO_cons ltK_nil (ltO_cons ltK_nil (ltO_cons ltK_nil (ltO_cons ltK_nil (ltO_cons ltK_nil (ltO_cons ltK_nil (ltO_cons (ltK_cons (key_lt hlt 0 rfl) ltK_nil) (ltO_cons ltK_nil (ltO_cons (ltK_cons (key_lt hlt 0 rfl) ltK_nil) ltO_nil))))))))))))⟩
 have e_k501 : l498 = [] ∨ k501 < bb553 := key_ltM (r := r56) (w := 2) hlt 10 rfl
 refine tq [2] rfl (hm0 rfl) (ql (.one (.p fr499 (Sl.t r56 s496))) 0 sz23) ?_
 refine tq [] rfl (hm0 rfl) (q_ixS rfl rfl h542a h542 (el23.trans (congrArg some h542b.symm))) ?_
 refine tq [] rfl (hm0 rfl) (q_fieldI rfl fa57_0 rfl) ?_
 refine tq [] rfl (hm0 rfl) (q_loadI (v := iO n543) rfl sz3 (map_get h542) rfl rfl) ?_
 refine tq [2] rfl (hmc (nin_cons (key_ne hnd 2 0 rfl rfl rfl) nin_nil) hmn) (ql (.one (.p fr499 (Sl.t r56 s496))) 0 sz23) ?_
 refine tq [] rfl hmn (q_ixS rfl rfl h542a h542 (el23.trans (congrArg some h542b.symm))) ?_
 refine tq [] rfl hmn (q_fieldI rfl fa57_1 rfl) ?_
 refine tq [] rfl hmn (q_loadI (v := iO n544) rfl sz2 (map_get h542) rfl rfl) ?_
 refine tq [] rfl (hm0 rfl) (q_fieldP rfl fa64_0 rfl) ?_
 refine tn_wr rfl rfl [0] (by decide) rfl (hm0 rfl) rfl (q_store (es' := [[iI n543, iI 0, iI 0, bC true, bC true]]) 0 rfl rfl rfl sz3 rfl rfl rfl rfl rfl) (q := 0) rfl rfl ?_
 refine tq [] rfl (hm0 rfl) (q_fieldP rfl fa64_1 rfl) ?_
 refine tn_wr rfl rfl [0] (by decide) rfl (hm0 rfl) rfl (q_store (es' := [[iI n543, iI n544, iI 0, bC true, bC true]]) 0 rfl rfl rfl sz2 rfl rfl rfl rfl rfl) (q := 0) rfl rfl ?_
 refine tn_end (eS (lO ?_))
 refine pq (ql (.one (.p fr499 (Sl.t r56 s496))) 2 sz23) ?_
 obtain ⟨s554, h555, h⟩ := bindS h
 refine pq (q_sliceS (r := r56) h555 rfl ty23 rfl ty57 (no_some rfl (cutS_some h555).1.1 _) (no_none _)) ?_
 refine ow [[.p fr499 (Sl.t r56 s554)]] 2 sz23 ?_
 refine oE (eS (lS (lS (lO ?_))))
 refine pq (q_fieldP rfl fa64_4 rfl) ?_
 refine pq (ql bt 0 sz4) ?_
 refine oE (eS (cT rfl (lS ?_)))
 refine L_norm (L2 := ([[(k503, 5, [[iI n543, iI n544, iI 0, bC true, bC true]])], [(k38, 0, [])], [(k36, 1, [[.p fr499 (Sl.t r56 s554)]])], [(k37, 1, [[.p fr500 (Sl.t r56 s497)]])], [(k9, 2, [[iI 0, nC]])], [(k14, 1, [[.clo (.func 34) [] [.ptr k6 0 0]]])], [(k15, 2, [[iI 0, nC]])], [(k16, 1, [[iI 0]])], [(k35, 2, [[iI n27, moC l498 k501]])], [(k6, 1, [[iI n1]])], moL r56 2 l498 k501] : BL)) [0, 1, 2, 3, 4, 5, 6, 7, 8, 9, 10] (by decide) rfl ?_
 refine L_turn 12 rfl [[], [], [], [], [], [], [], [], [], [k503], [], [k503]] [(false, []), (false, []), (false, []), (false, []), (false, []), (false, []), (false, []), (false, []), (false, []), (false, []), (false, []), (false, [])] [[4, 5, 6, 7], [4, 5, 6, 7], [4, 5, 6, 7], [4, 5, 6, 7], [0, 1, 2, 3, 8, 9], [0, 1, 2, 3, 8, 9], [0, 1, 2, 3, 8, 9], [0, 1, 2, 3, 8, 9], [4, 5, 6, 7], [4, 5, 6, 7], [], []] (by kernel_rfl) (by kernel_rfl) (by kernel_rfl) ?_ (fun bb556 hlt hnd => ?_)
 intro bb556 hlt hnd
 exact ⟨⟨djE, ⟨djE, ⟨djE, ⟨djE, ⟨djE, ⟨djE, ⟨djE, ⟨djE, ⟨djE, ⟨(djC nin_nil (djC nin_nil (djC nin_nil (djC nin_nil djN)))), ⟨djE, ⟨djN, trivial⟩⟩⟩⟩⟩⟩⟩⟩⟩⟩⟩⟩, (ltO_cons ltK_nil (ltO_cons ltK_nil (ltO_cons ltK_nil (ltO_cons ltK_nil (ltO_cons ltK_nil (ltO_cons ltK_nil (ltO_cons ltK_nil (ltO_cons ltK_nil (ltO_cons ltK_nil (ltO_cons (ltK_cons (key_lt hlt 0 rfl) ltK_nil) (ltO_cons ltK_nil (ltO_cons (ltK_cons (key_lt hlt 0 rfl) ltK_nil) ltO_nil))))))))))))⟩
 have e_k501 : l498 = [] ∨ k501 < bb556 := key_ltM (r := r56) (w := 2) hlt 10 rfl
 refine tq [3] rfl (hm0 rfl) (ql (.one (.p fr500 (Sl.t r56 s497))) 0 sz23) ?_
 refine tq [] rfl (hm0 rfl) (q_ixS rfl rfl h546a h546 (el23.trans (congrArg some h546b.symm))) ?_
 refine tq [] rfl (hm0 rfl) (q_fieldI rfl fa57_0 rfl) ?_
 refine tq [] rfl (hm0 rfl) (q_loadI (v := iO n547) rfl sz3 (map_get h546) rfl rfl) ?_
 refine tq [3] rfl (hmc (nin_cons (key_ne hnd 3 0 rfl rfl rfl) nin_nil) hmn) (ql (.one (.p fr500 (Sl.t r56 s497))) 0 sz23) ?_
 refine tq [] rfl hmn (q_ixS rfl rfl h546a h546 (el23.trans (congrArg some h546b.symm))) ?_
 refine tq [] rfl hmn (q_fieldI rfl fa57_1 rfl) ?_
 refine tq [] rfl hmn (q_loadI (v := iO n548) rfl sz2 (map_get h546) rfl rfl) ?_
 refine tq [] rfl (hm0 rfl) (q_fieldP rfl fa64_0 rfl) ?_
 refine tn_wr rfl rfl [0] (by decide) rfl (hm0 rfl) rfl (q_store (es' := [[iI n547, iI n544, iI 0, bC true, bC true]]) 0 rfl rfl rfl sz3 rfl rfl rfl rfl rfl) (q := 0) rfl rfl ?_
 refine tq [] rfl (hm0 rfl) (q_fieldP rfl fa64_2 rfl) ?_
 refine tn_wr rfl rfl [0] (by decide) rfl (hm0 rfl) rfl (q_store (es' := [[iI n547, iI n544, iI n548, bC true, bC true]]) 0 rfl rfl rfl sz2 rfl rfl rfl rfl rfl) (q := 0) rfl rfl ?_
 refine tn_end (eS (lO ?_))
 refine pq (ql (.one (.p fr500 (Sl.t r56 s497))) 3 sz23) ?_
 obtain ⟨s557, h558, h⟩ := bindS h
 refine pq (q_sliceS (r := r56) h558 rfl ty23 rfl ty57 (no_some rfl (cutS_some h558).1.1 _) (no_none _)) ?_
 refine ow [[.p fr500 (Sl.t r56 s557)]] 3 sz23 ?_
 refine oN ?_
 refine pq (qm (.one (.yld k38))) ?_
 refine pq (ql (.agg [iI n547, iI n544, iI n548, bC true, bC true]) 0 sz64) ?_
 refine ol_yield (args := [.agg [iI n547, iI n544, iI n548, bC true, bC true]]) (p := 1) rfl rfl rfl rfl rfl rfl rfl rfl rfl ?_
 refine lO ?_
 refine ol_new rfl rfl rfl (q_alloc ty64 (row := [iI 0, iI 0, iI 0, bC false, bC false]) rfl rfl) (fun k559 => ?_)
 refine ow [[iI n547, iI n544, iI n548, bC true, bC true]] 0 sz64 ?_
 refine oE ?_
 refine E_asg ?_
 refine lB (lS (lO ?_))
 refine pq (ql (.one (.clo (.func 34) [] [.ptr k6 0 0])) 6 sz69) ?_
 refine pq (ql (.agg [iI n547, iI n544, iI n548, bC true, bC true]) 0 sz64) ?_
 refine ol_scall (args := [.agg [iI n547, iI n544, iI n548, bC true, bC true], .one (.ptr k6 0 0)]) rfl rfl rfl rfl (by rw [E1_fn]; exact show fiOf Try.prog 34 = _ by unfold fiOf; rw [Try.func34]; unfold Try.f34; rfl) rfl rfl rfl ?_
 dsimp only
 refine lS (lO ?_)
 refine ol_new rfl rfl rfl (q_box ty64 rfl (cs := [iI n547, iI n544, iI n548, bC true, bC true]) rfl rfl) (fun k560 => ?_)
 refine ol_new rfl rfl rfl (q_alloc ty66 (row := [iI 0, uI 0]) rfl rfl) (fun k561 => ?_)
 refine pq (qa bf) ?_
 refine oE (eS (lS (lS (lO ?_))))
 refine pq (q_fieldP rfl fa64_3 rfl) ?_
 refine pq (ql bt 1 sz4) ?_
 refine pq (qm bt) ?_
 refine pq (q_fieldP rfl fa64_4 rfl) ?_
 refine pq (ql bt 1 sz4) ?_
 refine pq (qpt bt) ?_
 refine oE (eS (cT rfl (lS ?_)))
 refine L_norm (L2 := ([[(k561, 2, [[iI 0, uI 0]])], [(k560, 5, [[iI n547, iI n544, iI n548, bC true, bC true]])], [(k559, 5, [[iI n547, iI n544, iI n548, bC true, bC true]])], [(k38, 0, [])], [(k36, 1, [[.p fr499 (Sl.t r56 s554)]])], [(k37, 1, [[.p fr500 (Sl.t r56 s557)]])], [(k9, 2, [[iI 0, nC]])], [(k14, 1, [[.clo (.func 34) [] [.ptr k6 0 0]]])], [(k15, 2, [[iI 0, nC]])], [(k16, 1, [[iI 0]])], [(k35, 2, [[iI n27, moC l498 k501]])], [(k6, 1, [[iI n1]])], moL r56 2 l498 k501] : BL)) [0, 1, 2, 4, 5, 6, 7, 8, 9, 10, 11, 12, 13] (by decide) rfl ?_
 refine L_turn 10 rfl [[], [], [], [], [], [], [], [], [k561], []] [(false, []), (false, []), (false, []), (false, []), (false, []), (false, []), (false, []), (false, []), (false, []), (false, [])] [[1, 2, 3, 4, 5, 6], [0, 4, 5], [0, 4, 5], [0, 4, 5], [0, 1, 2, 3], [0, 1, 2, 3], [0], [], [], []] (by kernel_rfl) (by kernel_rfl) (by kernel_rfl) ?_ (fun bb562 hlt hnd => ?_)
 intro bb562 hlt hnd
 exact ⟨⟨djE, ⟨djE, ⟨djE, ⟨djE, ⟨djE, ⟨djE, ⟨djE, ⟨djE, ⟨djN, ⟨djE, trivial⟩⟩⟩⟩⟩⟩⟩⟩⟩⟩, (ltO_cons ltK_nil (ltO_cons ltK_nil (ltO_cons ltK_nil (ltO_cons ltK_nil (ltO_cons ltK_nil (ltO_cons ltK_nil (ltO_cons ltK_nil (ltO_cons ltK_nil (ltO_cons (ltK_cons (key_lt hlt 0 rfl) ltK_nil) (ltO_cons ltK_nil ltO_nil))))))))))⟩
 have e_k501 : l498 = [] ∨ k501 < bb562 := key_ltM (r := r56) (w := 2) hlt 12 rfl
 refine tq [11] rfl (hm0 rfl) (ql (iO n1) 0 sz22) ?_
 refine tq [] rfl (hm0 rfl) (q_fieldP rfl fa64_1 rfl) ?_
 refine tq [1] rfl (hm0 rfl) (ql (iO n544) 0 sz2) ?_
 obtain ⟨⟨n573, n574⟩, h572, h⟩ := bindS h
 refine tq [] rfl (hm0 rfl) (qc (.agg [iI n573, uI n574]) [iO n544] (wide_Of_r (m + 2) h572) (vw_cons (vd_one vc_v) vw_nil)) ?_
 refine tq [] rfl (hm0 rfl) (q_fieldP rfl fa64_2 rfl) ?_
 refine tq [1] rfl (hm0 rfl) (ql (iO n548) 0 sz2) ?_
 obtain ⟨⟨n576, n577⟩, h575, h⟩ := bindS h
 refine tq [] rfl (hm0 rfl) (qc (.agg [iI n576, uI n577]) [iO n548] (wide_Of_r (m + 2) h575) (vw_cons (vd_one vc_v) vw_nil)) ?_
 obtain ⟨⟨n579, n580⟩, h578, h⟩ := bindS h
 refine tq [] rfl (hm0 rfl) (qc (.agg [iI n579, uI n580]) [iO n1, .agg [iI n573, uI n574], .agg [iI n576, uI n577]] (ring_Add_r (m + 0) h578) (vw_cons (vd_one vc_v) (vw_cons (vd_agg (vc_cons vc_v (vc_cons vc_v vc_nil))) (vw_cons (vd_agg (vc_cons vc_v (vc_cons vc_v vc_nil))) vw_nil)))) ?_
 refine tn_wr rfl rfl [0] (by decide) rfl (hm0 rfl) rfl (q_store (es' := [[iI n579, uI n580]]) 0 rfl rfl rfl sz66 rfl rfl rfl rfl rfl) (q := 0) rfl rfl ?_
 refine tq [] rfl (hm0 rfl) (qa bt) ?_
 refine tn_end (eS (lR (eR ?_)))
 refine E_call (v := .tup [.agg [iI n579, uI n580], bt]) (.inr rfl) (res_cell (d := .agg [iI n579, uI n580]) 0 rfl sz66 rfl rfl rfl rfl (res_tmp (d := bt) rfl res_nil)) rfl ?_
 refine pq (qm (.tup [.agg [iI n579, uI n580], bt])) ?_
 refine pq (q_ext (v := .agg [iI n579, uI n580]) rfl rfl) ?_
 refine pq (q_ext (v := bt) rfl rfl) ?_
 refine ol_new rfl rfl rfl (q_alloc ty66 (row := [iI 0, uI 0]) rfl rfl) (fun k581 => ?_)
 refine ow [[iI n579, uI n580]] 0 sz66 ?_
 refine pq (qa bt) ?_
 refine oE (eS (lS (lS (lO ?_))))
 refine pq (qm bt) ?_
 refine pq (q_not rfl) ?_
 refine oE (eS (cF rfl (lK (eS (lS (lO ?_))))))
 refine pq (ql (.agg [iI n579, uI n580]) 0 sz66) ?_
 obtain ⟨⟨n583, b584⟩, h582, h⟩ := bindS h
 refine pq (qc (.tup [iO n583, bO b584]) [.agg [iI n579, uI n580]] (wide_Narrow_r (m + 2) h582) (vw_cons (vd_agg (vc_cons vc_v (vc_cons vc_v vc_nil))) vw_nil)) ?_
 refine pq (qm (.tup [iO n583, bO b584])) ?_
 refine pq (q_ext (v := iO n583) rfl rfl) ?_
 refine pq (q_ext (v := bO b584) rfl rfl) ?_
 refine pq (qa (iO n583)) ?_
 refine pq (qa (bO b584)) ?_
 refine oE (eS (lS (lS (lO ?_))))
 refine pq (qm (bO b584)) ?_
 rcases b584 with _ | _
 replace h := wF h
 refine pq (q_not rfl) ?_
 refine oE (eS (cT rfl (lS (lO ?_))))
 refine pq (q_build (cs := [iI 0, nC]) ty25 rfl pl25 rfl) ?_
 refine ow [[iI 0, nC]] 9 sz25 ?_
 refine ow [[iI 12]] 10 sz28 ?_
 refine oE (eS (lR (eR (bR ?_))))
 refine E_roundX (p := 4) (es := [[]]) rfl rfl rfl rfl ?_
 refine pq (q_not rfl) ?_
 refine oE (eS (cT rfl (lR (bR ?_))))
 obtain rfl := sj h
 refine E_out ?_
 exact (E_je k501 (ups_self trivial) [7, 8, 9, 10, 11, 4, 12, 13] (by decide) rfl)
 replace h := wT h
 refine pq (q_not rfl) ?_
 refine oE (eS (cF rfl (lK (eS (lO ?_)))))
 refine pq (q_fieldP rfl fa25_1 rfl) ?_
 refine pq (ql (.one (moC l498 k501)) 11 sz23) ?_
 refine pq (q_fieldP rfl fa64_0 rfl) ?_
 refine pq (ql (iO n547) 3 sz3) ?_
 refine pq (qm (iO n583)) ?_
 refine pq (q_build (cs := [iI n547, iI n583]) ty57 rfl pl57 rfl) ?_
 refine ol_new rfl rfl rfl (q_bslice (cs := [iI n547, iI n583]) (es := (([(n547, n583)] : List (Int × Int))).map (rowC r56)) ty23 rfl ty57 rfl rfl rfl rfl rfl) (fun k585 => ?_)
 obtain ⟨_, h586, h⟩ := bindS h
 obtain ⟨h586b, rfl⟩ := app_some h586
 refine ol_appM (r := r56) (l := l498) (ys := ([(n547, n583)] : List (Int × Int))) 14 rfl rfl rfl rfl rfl rfl (el_ownM (l := ([(n547, n583)] : List (Int × Int))) 0 rfl) rfl h586 (fun y => rfl) el23 ty23 rfl rfl rfl rfl rfl (fun k587 => ?_)
 refine pq (q_fieldP rfl fa25_1 rfl) ?_
 refine ow [[iI n27, moC (l498 ++ ([(n547, n583)] : List (Int × Int))) k587]] 13 sz23 ?_
 refine oE (bN ?_)
 refine E_roundN (p := 6) rfl ?_
 refine pq (q_not rfl) ?_
 refine oE (eS (cF rfl (lK (bN ?_))))
 obtain rfl := sj h
 exact E_next (fr499, fr500, k587) (ups_self ⟨rfl, rfl, rfl, trivial⟩) [6, 7, 8, 9, 10, 11, 12, 13, 14, 0] (by decide) rfl
 replace h := ifF c552 h
 refine tn_put rfl rfl rfl [0] (by decide) rfl (hm0 rfl) rfl (qb (p_leq_fZ c552)) ?_
 refine tq [] rfl (hm0 rfl) (qpt bf) ?_
 refine tq [] rfl (hm0 rfl) (qpf bf) ?_
 refine tq [] rfl (hm0 rfl) (q_fieldP rfl fa64_4 rfl) ?_
 refine tn_wr rfl rfl [0] (by decide) rfl (hm0 rfl) rfl (q_store (es' := [[iI 0, iI 0, iI 0, bC true, bC false]]) 0 rfl rfl rfl sz4 rfl rfl rfl rfl rfl) (q := 0) rfl rfl ?_
 refine tn_end (eS (lS (lS (lO ?_))))
 refine pq (q_fieldP rfl fa64_3 rfl) ?_
 refine pq (ql bt 0 sz4) ?_
 refine oE (eS (cT rfl (lS ?_)))
 refine L_norm (L2 := ([[(k503, 5, [[iI 0, iI 0, iI 0, bC true, bC false]])], [(k38, 0, [])], [(k36, 1, [[.p fr499 (Sl.t r56 s496)]])], [(k37, 1, [[.p fr500 (Sl.t r56 s497)]])], [(k9, 2, [[iI 0, nC]])], [(k14, 1, [[.clo (.func 34) [] [.ptr k6 0 0]]])], [(k15, 2, [[iI 0, nC]])], [(k16, 1, [[iI 0]])], [(k35, 2, [[iI n27, moC l498 k501]])], [(k6, 1, [[iI n1]])], moL r56 2 l498 k501] : BL)) [0, 1, 2, 3, 4, 5, 6, 7, 8, 9, 10] (by decide) rfl ?_
 refine L_turn 12 rfl [[], [], [], [], [], [], [], [], [], [k503], [], [k503]] [(false, []), (false, []), (false, []), (false, []), (false, []), (false, []), (false, []), (false, []), (false, []), (false, []), (false, []), (false, [])] [[4, 5, 6, 7], [4, 5, 6, 7], [4, 5, 6, 7], [4, 5, 6, 7], [0, 1, 2, 3, 8, 9], [0, 1, 2, 3, 8, 9], [0, 1, 2, 3, 8, 9], [0, 1, 2, 3, 8, 9], [4, 5, 6, 7], [4, 5, 6, 7], [], []] (by kernel_rfl) (by kernel_rfl) (by kernel_rfl) ?_ (fun bb588 hlt hnd => ?_)
 intro bb588 hlt hnd
 exact ⟨⟨djE, ⟨djE, ⟨djE, ⟨djE, ⟨djE, ⟨djE, ⟨djE, ⟨djE, ⟨djE, ⟨(djC nin_nil (djC nin_nil (djC nin_nil (djC nin_nil djN)))), ⟨djE, ⟨djN, trivial⟩⟩⟩⟩⟩⟩⟩⟩⟩⟩⟩⟩, (ltO_cons ltK_nil (ltO_cons ltK_nil (ltO_cons ltK_nil (ltO_cons ltK_nil (ltO_cons ltK_nil (ltO_cons ltK_nil (ltO_cons ltK_nil (ltO_cons ltK_nil (ltO_cons ltK_nil (ltO_cons (ltK_cons (key_lt hlt 0 rfl) ltK_nil) (ltO_cons ltK_nil (ltO_cons (ltK_cons (key_lt hlt 0 rfl) ltK_nil) ltO_nil))))))))))))⟩
 have e_k501 : l498 = [] ∨ k501 < bb588 := key_ltM (r := r56) (w := 2) hlt 10 rfl
 refine tq [2] rfl (hm0 rfl) (ql (.one (.p fr499 (Sl.t r56 s496))) 0 sz23) ?_
 refine tq [] rfl (hm0 rfl) (q_ixS rfl rfl h542a h542 (el23.trans (congrArg some h542b.symm))) ?_
 refine tq [] rfl (hm0 rfl) (q_fieldI rfl fa57_0 rfl) ?_
 refine tq [] rfl (hm0 rfl) (q_loadI (v := iO n543) rfl sz3 (map_get h542) rfl rfl) ?_
 refine tq [2] rfl (hmc (nin_cons (key_ne hnd 2 0 rfl rfl rfl) nin_nil) hmn) (ql (.one (.p fr499 (Sl.t r56 s496))) 0 sz23) ?_
 refine tq [] rfl hmn (q_ixS rfl rfl h542a h542 (el23.trans (congrArg some h542b.symm))) ?_
 refine tq [] rfl hmn (q_fieldI rfl fa57_1 rfl) ?_
 refine tq [] rfl hmn (q_loadI (v := iO n544) rfl sz2 (map_get h542) rfl rfl) ?_
 refine tq [] rfl (hm0 rfl) (q_fieldP rfl fa64_0 rfl) ?_
 refine tn_wr rfl rfl [0] (by decide) rfl (hm0 rfl) rfl (q_store (es' := [[iI n543, iI 0, iI 0, bC true, bC false]]) 0 rfl rfl rfl sz3 rfl rfl rfl rfl rfl) (q := 0) rfl rfl ?_
 refine tq [] rfl (hm0 rfl) (q_fieldP rfl fa64_1 rfl) ?_
 refine tn_wr rfl rfl [0] (by decide) rfl (hm0 rfl) rfl (q_store (es' := [[iI n543, iI n544, iI 0, bC true, bC false]]) 0 rfl rfl rfl sz2 rfl rfl rfl rfl rfl) (q := 0) rfl rfl ?_
 refine tn_end (eS (lO ?_))
 refine pq (ql (.one (.p fr499 (Sl.t r56 s496))) 2 sz23) ?_
 obtain ⟨s589, h590, h⟩ := bindS h
 refine pq (q_sliceS (r := r56) h590 rfl ty23 rfl ty57 (no_some rfl (cutS_some h590).1.1 _) (no_none _)) ?_
 refine ow [[.p fr499 (Sl.t r56 s589)]] 2 sz23 ?_
 refine oE (eS (lS (lS (lO ?_))))
 refine pq (q_fieldP rfl fa64_4 rfl) ?_
 refine pq (ql bf 0 sz4) ?_
 refine oE (eS (cF rfl (lK (eS (lS (lO ?_))))))
 refine pq (qm (.one (.yld k38))) ?_
 refine pq (ql (.agg [iI n543, iI n544, iI 0, bC true, bC false]) 0 sz64) ?_
 refine ol_yield (args := [.agg [iI n543, iI n544, iI 0, bC true, bC false]]) (p := 1) rfl rfl rfl rfl rfl rfl rfl rfl rfl ?_
 refine lO ?_
 refine ol_new rfl rfl rfl (q_alloc ty64 (row := [iI 0, iI 0, iI 0, bC false, bC false]) rfl rfl) (fun k591 => ?_)
 refine ow [[iI n543, iI n544, iI 0, bC true, bC false]] 0 sz64 ?_
 refine oE ?_
 refine E_asg ?_
 refine lB (lS (lO ?_))
 refine pq (ql (.one (.clo (.func 34) [] [.ptr k6 0 0])) 6 sz69) ?_
 refine pq (ql (.agg [iI n543, iI n544, iI 0, bC true, bC false]) 0 sz64) ?_
 refine ol_scall (args := [.agg [iI n543, iI n544, iI 0, bC true, bC false], .one (.ptr k6 0 0)]) rfl rfl rfl rfl (by rw [E1_fn]; exact show fiOf Try.prog 34 = _ by unfold fiOf; rw [Try.func34]; unfold Try.f34; rfl) rfl rfl rfl ?_
 dsimp only
 refine lS (lO ?_)
 refine ol_new rfl rfl rfl (q_box ty64 rfl (cs := [iI n543, iI n544, iI 0, bC true, bC false]) rfl rfl) (fun k592 => ?_)
 refine ol_new rfl rfl rfl (q_alloc ty66 (row := [iI 0, uI 0]) rfl rfl) (fun k593 => ?_)
 refine pq (qa bf) ?_
 refine oE (eS (lS (lS (lO ?_))))
 refine pq (q_fieldP rfl fa64_3 rfl) ?_
 refine pq (ql bt 1 sz4) ?_
 refine pq (qm bt) ?_
 refine pq (q_fieldP rfl fa64_4 rfl) ?_
 refine pq (ql bf 1 sz4) ?_
 refine pq (qpt bf) ?_
 refine oE (eS (cF rfl (lK (eS (lS (lO ?_))))))
 refine pq (q_fieldP rfl fa64_1 rfl) ?_
 refine pq (ql (iO n544) 1 sz2) ?_
 refine pq (q_fieldP rfl fa64_2 rfl) ?_
 refine pq (ql (iO 0) 1 sz2) ?_
 refine pq (qb p_addY) ?_
 obtain ⟨⟨n595, n596⟩, h594, h⟩ := bindS h
 refine pq (qc (.agg [iI n595, uI n596]) [.one (iI (IntKind.i64.wrap (n544 + 0)))] (wide_Of_r (m + 2) h594) (vw_cons (vd_one vc_v) vw_nil)) ?_
 refine ow [[iI n595, uI n596]] 0 sz66 ?_
 refine pq (qa bt) ?_
 refine oE (eS (lR ?_))
 refine E_call (v := .tup [.agg [iI n595, uI n596], bt]) (.inr rfl) (res_cell (d := .agg [iI n595, uI n596]) 0 rfl sz66 rfl rfl rfl rfl (res_tmp (d := bt) rfl res_nil)) rfl ?_
 refine pq (qm (.tup [.agg [iI n595, uI n596], bt])) ?_
 refine pq (q_ext (v := .agg [iI n595, uI n596]) rfl rfl) ?_
 refine pq (q_ext (v := bt) rfl rfl) ?_
 refine ol_new rfl rfl rfl (q_alloc ty66 (row := [iI 0, uI 0]) rfl rfl) (fun k597 => ?_)
 refine ow [[iI n595, uI n596]] 0 sz66 ?_
 refine pq (qa bt) ?_
 refine oE (eS (lS (lS (lO ?_))))
 refine pq (qm bt) ?_
 refine pq (q_not rfl) ?_
 refine oE (eS (cF rfl (lK (eS (lS (lO ?_))))))
 refine pq (ql (.agg [iI n595, uI n596]) 0 sz66) ?_
 obtain ⟨⟨n599, b600⟩, h598, h⟩ := bindS h
 refine pq (qc (.tup [iO n599, bO b600]) [.agg [iI n595, uI n596]] (wide_Narrow_r (m + 2) h598) (vw_cons (vd_agg (vc_cons vc_v (vc_cons vc_v vc_nil))) vw_nil)) ?_
 refine pq (qm (.tup [iO n599, bO b600])) ?_
 refine pq (q_ext (v := iO n599) rfl rfl) ?_
 refine pq (q_ext (v := bO b600) rfl rfl) ?_
 refine pq (qa (iO n599)) ?_
 refine pq (qa (bO b600)) ?_
 refine oE (eS (lS (lS (lO ?_))))
 refine pq (qm (bO b600)) ?_
 rcases b600 with _ | _
 replace h := wF h
 refine pq (q_not rfl) ?_
 refine oE (eS (cT rfl (lS (lO ?_))))
 refine pq (q_build (cs := [iI 0, nC]) ty25 rfl pl25 rfl) ?_
 refine ow [[iI 0, nC]] 10 sz25 ?_
 refine ow [[iI 12]] 11 sz28 ?_
 refine oE (eS (lR (eR (bR ?_))))
 refine E_roundX (p := 5) (es := [[]]) rfl rfl rfl rfl ?_
 refine pq (q_not rfl) ?_
 refine oE (eS (cT rfl (lR (bR ?_))))
 obtain rfl := sj h
 refine E_out ?_
 exact (E_je k501 (ups_self trivial) [8, 9, 10, 11, 12, 5, 13, 14] (by decide) rfl)
 replace h := wT h
 refine pq (q_not rfl) ?_
 refine oE (eS (cF rfl (lK (eS (lO ?_)))))
 refine pq (q_fieldP rfl fa25_1 rfl) ?_
 refine pq (ql (.one (moC l498 k501)) 12 sz23) ?_
 refine pq (q_fieldP rfl fa64_0 rfl) ?_
 refine pq (ql (iO n543) 3 sz3) ?_
 refine pq (qm (iO n599)) ?_
 refine pq (q_build (cs := [iI n543, iI n599]) ty57 rfl pl57 rfl) ?_
 refine ol_new rfl rfl rfl (q_bslice (cs := [iI n543, iI n599]) (es := (([(n543, n599)] : List (Int × Int))).map (rowC r56)) ty23 rfl ty57 rfl rfl rfl rfl rfl) (fun k601 => ?_)
 obtain ⟨_, h602, h⟩ := bindS h
 obtain ⟨h602b, rfl⟩ := app_some h602
 refine ol_appM (r := r56) (l := l498) (ys := ([(n543, n599)] : List (Int × Int))) 15 rfl rfl rfl rfl rfl rfl (el_ownM (l := ([(n543, n599)] : List (Int × Int))) 0 rfl) rfl h602 (fun y => rfl) el23 ty23 rfl rfl rfl rfl rfl (fun k603 => ?_)
 refine pq (q_fieldP rfl fa25_1 rfl) ?_
 refine ow [[iI n27, moC (l498 ++ ([(n543, n599)] : List (Int × Int))) k603]] 14 sz23 ?_
 refine oE (bN ?_)
 refine E_roundN (p := 7) rfl ?_
 refine pq (q_not rfl) ?_
 refine oE (eS (cF rfl (lK (bN ?_))))
 obtain rfl := sj h
 exact E_next (fr499, fr500, k603) (ups_self ⟨rfl, rfl, rfl, trivial⟩) [7, 8, 9, 10, 11, 12, 13, 14, 15, 0] (by decide) rfl
 replace h := ifF c549 h
 refine tn_put rfl rfl rfl [0] (by decide) rfl (hm0 rfl) rfl (qb (p_leq_fZ c549)) ?_
 refine tq [] rfl (hm0 rfl) (qpt bf) ?_
 refine tq [] rfl (hm0 rfl) (qpf bf) ?_
 refine tq [] rfl (hm0 rfl) (q_fieldP rfl fa64_3 rfl) ?_
 refine tn_wr rfl rfl [0] (by decide) rfl (hm0 rfl) rfl (q_store (es' := [[iI 0, iI 0, iI 0, bC false, bC false]]) 0 rfl rfl rfl sz4 rfl rfl rfl rfl rfl) (q := 0) rfl rfl ?_
 refine tn_end (eS (lS ?_))
 refine L_norm (L2 := ([[(k503, 5, [[iI 0, iI 0, iI 0, bC false, bC false]])], [(k38, 0, [])], [(k36, 1, [[.p fr499 (Sl.t r56 s496)]])], [(k37, 1, [[.p fr500 (Sl.t r56 s497)]])], [(k9, 2, [[iI 0, nC]])], [(k14, 1, [[.clo (.func 34) [] [.ptr k6 0 0]]])], [(k15, 2, [[iI 0, nC]])], [(k16, 1, [[iI 0]])], [(k35, 2, [[iI n27, moC l498 k501]])], [(k6, 1, [[iI n1]])], moL r56 2 l498 k501] : BL)) [0, 1, 2, 3, 4, 5, 6, 7, 8, 9, 10] (by decide) rfl ?_
 refine L_turn 21 rfl [[], [], [], [], [], [], [], [], [], [], [], [], [], [], [], [], [], [], [], [], [k503]] [(false, []), (false, []), (false, []), (false, []), (false, []), (false, []), (false, []), (false, []), (false, []), (false, []), (false, []), (false, []), (false, []), (false, []), (false, []), (false, []), (false, []), (false, []), (false, []), (false, []), (false, [])] [[], [], [], [], [], [], [], [], [12, 13, 14, 15], [12, 13, 14, 15], [12, 13, 14, 15], [12, 13, 14, 15], [8, 9, 10, 11], [8, 9, 10, 11], [8, 9, 10, 11], [8, 9, 10, 11], [], [], [], [], []] (by kernel_rfl) (by kernel_rfl) (by kernel_rfl) ?_ (fun bb604 hlt hnd => ?_)
 intro bb604 hlt hnd
 exact ⟨⟨djE, ⟨djE, ⟨djE, ⟨djE, ⟨djE, ⟨djE, ⟨djE, ⟨djE, ⟨djE, ⟨djE, ⟨djE, ⟨djE, ⟨djE, ⟨djE, ⟨djE, ⟨djE, ⟨djE, ⟨djE, ⟨djE, ⟨djE, ⟨djN, trivial⟩⟩⟩⟩⟩⟩⟩⟩⟩⟩⟩⟩⟩⟩⟩⟩⟩⟩⟩⟩⟩, (ltO_cons ltK_nil (ltO_cons ltK_nil (ltO_cons ltK_nil (ltO_cons ltK_nil (ltO_cons ltK_nil (ltO_cons ltK_nil (ltO_cons ltK_nil (ltO_cons ltK_nil (ltO_cons ltK_nil (ltO_cons ltK_nil (ltO_cons ltK_nil (ltO_cons ltK_nil (ltO_cons ltK_nil (ltO_cons ltK_nil (ltO_cons ltK_nil (ltO_cons ltK_nil (ltO_cons ltK_nil (ltO_cons ltK_nil (ltO_cons ltK_nil (ltO_cons ltK_nil (ltO_cons (ltK_cons (key_lt hlt 0 rfl) ltK_nil) ltO_nil)))))))))))))))))))))⟩
 have e_k501 : l498 = [] ∨ k501 < bb604 := key_ltM (r := r56) (w := 2) hlt 10 rfl
 refine tq [2] rfl (hm0 rfl) (ql (.one (.p fr499 (Sl.t r56 s496))) 0 sz23) ?_
 refine tq [] rfl (hm0 rfl) (q_lenS rfl ty23 rfl rfl rfl rfl) ?_
 refine tn_put rfl rfl rfl [] (by decide) rfl (hm0 rfl) rfl (qb (p_eql_fZ (gt0_ne c502))) ?_
 refine tq [] rfl (hm0 rfl) (qm bf) ?_
 refine tq [3] rfl (hm0 rfl) (ql (.one (.p fr500 (Sl.t r56 s497))) 0 sz23) ?_
 refine tq [] rfl (hm0 rfl) (q_lenS rfl ty23 rfl rfl rfl rfl) ?_
 refine tn_put rfl rfl rfl [] (by decide) rfl (hm0 rfl) rfl (qb (p_gtr_tZ (len1 c515))) ?_
 refine tq [] rfl (hm0 rfl) (qm bt) ?_
 refine tq [3] rfl (hm0 rfl) (ql (.one (.p fr500 (Sl.t r56 s497))) 0 sz23) ?_
 refine tq [] rfl (hm0 rfl) (q_ixS rfl rfl h546a h546 (el23.trans (congrArg some h546b.symm))) ?_
 refine tq [] rfl (hm0 rfl) (q_fieldI rfl fa57_0 rfl) ?_
 refine tq [] rfl (hm0 rfl) (q_loadI (v := iO n547) rfl sz3 (map_get h546) rfl rfl) ?_
 refine tq [2] rfl (hm0 rfl) (ql (.one (.p fr499 (Sl.t r56 s496))) 0 sz23) ?_
 refine tq [] rfl (hm0 rfl) (q_ixS rfl rfl h542a h542 (el23.trans (congrArg some h542b.symm))) ?_
 refine tq [] rfl (hm0 rfl) (q_fieldI rfl fa57_0 rfl) ?_
 refine tq [] rfl (hm0 rfl) (q_loadI (v := iO n543) rfl sz3 (map_get h542) rfl rfl) ?_
 refine tn_put rfl rfl rfl [] (by decide) rfl (hm0 rfl) rfl (qb (p_leq_tZ (notle c549))) ?_
 refine tq [] rfl (hm0 rfl) (qpt bt) ?_
 refine tq [] rfl (hm0 rfl) (qpf bt) ?_
 refine tq [] rfl (hm0 rfl) (q_fieldP rfl fa64_4 rfl) ?_
 refine tn_wr rfl rfl [0] (by decide) rfl (hm0 rfl) rfl (q_store (es' := [[iI 0, iI 0, iI 0, bC false, bC true]]) 0 rfl rfl rfl sz4 rfl rfl rfl rfl rfl) (q := 0) rfl rfl ?_
 refine tn_end (eS (lS (lS (lO ?_))))
 refine pq (q_fieldP rfl fa64_3 rfl) ?_
 refine pq (ql bf 0 sz4) ?_
 refine oE (eS (cF rfl (lK (eS (lS (lS (lO ?_)))))))
 refine pq (q_fieldP rfl fa64_4 rfl) ?_
 refine pq (ql bt 0 sz4) ?_
 refine oE (eS (cT rfl (lS ?_)))
 refine L_norm (L2 := ([[(k503, 5, [[iI 0, iI 0, iI 0, bC false, bC true]])], [(k38, 0, [])], [(k36, 1, [[.p fr499 (Sl.t r56 s496)]])], [(k37, 1, [[.p fr500 (Sl.t r56 s497)]])], [(k9, 2, [[iI 0, nC]])], [(k14, 1, [[.clo (.func 34) [] [.ptr k6 0 0]]])], [(k15, 2, [[iI 0, nC]])], [(k16, 1, [[iI 0]])], [(k35, 2, [[iI n27, moC l498 k501]])], [(k6, 1, [[iI n1]])], moL r56 2 l498 k501] : BL)) [0, 1, 2, 3, 4, 5, 6, 7, 8, 9, 10] (by decide) rfl ?_
 refine L_turn 12 rfl [[], [], [], [], [], [], [], [], [], [k503], [], [k503]] [(false, []), (false, []), (false, []), (false, []), (false, []), (false, []), (false, []), (false, []), (false, []), (false, []), (false, []), (false, [])] [[4, 5, 6, 7], [4, 5, 6, 7], [4, 5, 6, 7], [4, 5, 6, 7], [0, 1, 2, 3, 8, 9], [0, 1, 2, 3, 8, 9], [0, 1, 2, 3, 8, 9], [0, 1, 2, 3, 8, 9], [4, 5, 6, 7], [4, 5, 6, 7], [], []] (by kernel_rfl) (by kernel_rfl) (by kernel_rfl) ?_ (fun bb605 hlt hnd => ?_)
 intro bb605 hlt hnd
 exact ⟨⟨djE, ⟨djE, ⟨djE, ⟨djE, ⟨djE, ⟨djE, ⟨djE, ⟨djE, ⟨djE, ⟨(djC nin_nil (djC nin_nil (djC nin_nil (djC nin_nil djN)))), ⟨djE, ⟨djN, trivial⟩⟩⟩⟩⟩⟩⟩⟩⟩⟩⟩⟩, (ltO_cons ltK_nil (ltO_cons ltK_nil (ltO_cons ltK_nil (ltO_cons ltK_nil (ltO_cons ltK_nil (ltO_cons ltK_nil (ltO_cons ltK_nil (ltO_cons ltK_nil (ltO_cons ltK_nil (ltO_cons (ltK_cons (key_lt hlt 0 rfl) ltK_nil) (ltO_cons ltK_nil (ltO_cons (ltK_cons (key_lt hlt 0 rfl) ltK_nil) ltO_nil))))))))))))⟩
 have e_k501 : l498 = [] ∨ k501 < bb605 := key_ltM (r := r56) (w := 2) hlt 10 rfl
 refine tq [3] rfl (hm0 rfl) (ql (.one (.p fr500 (Sl.t r56 s497))) 0 sz23) ?_
 refine tq [] rfl (hm0 rfl) (q_ixS rfl rfl h546a h546 (el23.trans (congrArg some h546b.symm))) ?_
 refine tq [] rfl (hm0 rfl) (q_fieldI rfl fa57_0 rfl) ?_
 refine tq [] rfl (hm0 rfl) (q_loadI (v := iO n547) rfl sz3 (map_get h546) rfl rfl) ?_
 refine tq [3] rfl (hmc (nin_cons (key_ne hnd 3 0 rfl rfl rfl) nin_nil) hmn) (ql (.one (.p fr500 (Sl.t r56 s497))) 0 sz23) ?_
 refine tq [] rfl hmn (q_ixS rfl rfl h546a h546 (el23.trans (congrArg some h546b.symm))) ?_
 refine tq [] rfl hmn (q_fieldI rfl fa57_1 rfl) ?_
 refine tq [] rfl hmn (q_loadI (v := iO n548) rfl sz2 (map_get h546) rfl rfl) ?_
 refine tq [] rfl (hm0 rfl) (q_fieldP rfl fa64_0 rfl) ?_
 refine tn_wr rfl rfl [0] (by decide) rfl (hm0 rfl) rfl (q_store (es' := [[iI n547, iI 0, iI 0, bC false, bC true]]) 0 rfl rfl rfl sz3 rfl rfl rfl rfl rfl) (q := 0) rfl rfl ?_
 refine tq [] rfl (hm0 rfl) (q_fieldP rfl fa64_2 rfl) ?_
 refine tn_wr rfl rfl [0] (by decide) rfl (hm0 rfl) rfl (q_store (es' := [[iI n547, iI 0, iI n548, bC false, bC true]]) 0 rfl rfl rfl sz2 rfl rfl rfl rfl rfl) (q := 0) rfl rfl ?_
 refine tn_end (eS (lO ?_))
 refine pq (ql (.one (.p fr500 (Sl.t r56 s497))) 3 sz23) ?_
 obtain ⟨s606, h607, h⟩ := bindS h
 refine pq (q_sliceS (r := r56) h607 rfl ty23 rfl ty57 (no_some rfl (cutS_some h607).1.1 _) (no_none _)) ?_
 refine ow [[.p fr500 (Sl.t r56 s606)]] 3 sz23 ?_
 refine oN ?_
 refine pq (qm (.one (.yld k38))) ?_
 refine pq (ql (.agg [iI n547, iI 0, iI n548, bC false, bC true]) 0 sz64) ?_
 refine ol_yield (args := [.agg [iI n547, iI 0, iI n548, bC false, bC true]]) (p := 1) rfl rfl rfl rfl rfl rfl rfl rfl rfl ?_
 refine lO ?_
 refine ol_new rfl rfl rfl (q_alloc ty64 (row := [iI 0, iI 0, iI 0, bC false, bC false]) rfl rfl) (fun k608 => ?_)
 refine ow [[iI n547, iI 0, iI n548, bC false, bC true]] 0 sz64 ?_
 refine oE ?_
 refine E_asg ?_
 refine lB (lS (lO ?_))
 refine pq (ql (.one (.clo (.func 34) [] [.ptr k6 0 0])) 6 sz69) ?_
 refine pq (ql (.agg [iI n547, iI 0, iI n548, bC false, bC true]) 0 sz64) ?_
 refine ol_scall (args := [.agg [iI n547, iI 0, iI n548, bC false, bC true], .one (.ptr k6 0 0)]) rfl rfl rfl rfl (by rw [E1_fn]; exact show fiOf Try.prog 34 = _ by unfold fiOf; rw [Try.func34]; unfold Try.f34; rfl) rfl rfl rfl ?_
 dsimp only
 refine lS (lO ?_)
 refine ol_new rfl rfl rfl (q_box ty64 rfl (cs := [iI n547, iI 0, iI n548, bC false, bC true]) rfl rfl) (fun k609 => ?_)
 refine ol_new rfl rfl rfl (q_alloc ty66 (row := [iI 0, uI 0]) rfl rfl) (fun k610 => ?_)
 refine pq (qa bf) ?_
 refine oE (eS (lS (lS (lO ?_))))
 refine pq (q_fieldP rfl fa64_3 rfl) ?_
 refine pq (ql bf 1 sz4) ?_
 refine pq (qm bf) ?_
 iterate 2 refine os ?_
 refine pq (qpf bf) ?_
 refine oE (eS (cF rfl (lK (eS (lS (lO ?_))))))
 refine pq (q_fieldP rfl fa64_1 rfl) ?_
 refine pq (ql (iO 0) 1 sz2) ?_
 refine pq (q_fieldP rfl fa64_2 rfl) ?_
 refine pq (ql (iO n548) 1 sz2) ?_
 refine pq (qb p_addY) ?_
 obtain ⟨⟨n612, n613⟩, h611, h⟩ := bindS h
 refine pq (qc (.agg [iI n612, uI n613]) [.one (iI (IntKind.i64.wrap (0 + n548)))] (wide_Of_r (m + 2) h611) (vw_cons (vd_one vc_v) vw_nil)) ?_
 refine ow [[iI n612, uI n613]] 0 sz66 ?_
 refine pq (qa bt) ?_
 refine oE (eS (lR ?_))
 refine E_call (v := .tup [.agg [iI n612, uI n613], bt]) (.inr rfl) (res_cell (d := .agg [iI n612, uI n613]) 0 rfl sz66 rfl rfl rfl rfl (res_tmp (d := bt) rfl res_nil)) rfl ?_
 refine pq (qm (.tup [.agg [iI n612, uI n613], bt])) ?_
 refine pq (q_ext (v := .agg [iI n612, uI n613]) rfl rfl) ?_
 refine pq (q_ext (v := bt) rfl rfl) ?_
 refine ol_new rfl rfl rfl (q_alloc ty66 (row := [iI 0, uI 0]) rfl rfl) (fun k614 => ?_)
 refine ow [[iI n612, uI n613]] 0 sz66 ?_
 refine pq (qa bt) ?_
 refine oE (eS (lS (lS (lO ?_))))
 refine pq (qm bt) ?_
 refine pq (q_not rfl) ?_
 refine oE (eS (cF rfl (lK (eS (lS (lO ?_))))))
 refine pq (ql (.agg [iI n612, uI n613]) 0 sz66) ?_
 obtain ⟨⟨n616, b617⟩, h615, h⟩ := bindS h
 refine pq (qc (.tup [iO n616, bO b617]) [.agg [iI n612, uI n613]] (wide_Narrow_r (m + 2) h615) (vw_cons (vd_agg (vc_cons vc_v (vc_cons vc_v vc_nil))) vw_nil)) ?_
 refine pq (qm (.tup [iO n616, bO b617])) ?_
 refine pq (q_ext (v := iO n616) rfl rfl) ?_
 refine pq (q_ext (v := bO b617) rfl rfl) ?_
 refine pq (qa (iO n616)) ?_
 refine pq (qa (bO b617)) ?_
 refine oE (eS (lS (lS (lO ?_))))
 refine pq (qm (bO b617)) ?_
 rcases b617 with _ | _
 replace h := wF h
 refine pq (q_not rfl) ?_
 refine oE (eS (cT rfl (lS (lO ?_))))
 refine pq (q_build (cs := [iI 0, nC]) ty25 rfl pl25 rfl) ?_
 refine ow [[iI 0, nC]] 10 sz25 ?_
 refine ow [[iI 12]] 11 sz28 ?_
 refine oE (eS (lR (eR (bR ?_))))
 refine E_roundX (p := 5) (es := [[]]) rfl rfl rfl rfl ?_
 refine pq (q_not rfl) ?_
 refine oE (eS (cT rfl (lR (bR ?_))))
 obtain rfl := sj h
 refine E_out ?_
 exact (E_je k501 (ups_self trivial) [8, 9, 10, 11, 12, 5, 13, 14] (by decide) rfl)
 replace h := wT h
 refine pq (q_not rfl) ?_
 refine oE (eS (cF rfl (lK (eS (lO ?_)))))
 refine pq (q_fieldP rfl fa25_1 rfl) ?_
 refine pq (ql (.one (moC l498 k501)) 12 sz23) ?_
 refine pq (q_fieldP rfl fa64_0 rfl) ?_
 refine pq (ql (iO n547) 3 sz3) ?_
 refine pq (qm (iO n616)) ?_
 refine pq (q_build (cs := [iI n547, iI n616]) ty57 rfl pl57 rfl) ?_
 refine ol_new rfl rfl rfl (q_bslice (cs := [iI n547, iI n616]) (es := (([(n547, n616)] : List (Int × Int))).map (rowC r56)) ty23 rfl ty57 rfl rfl rfl rfl rfl) (fun k618 => ?_)
 obtain ⟨_, h619, h⟩ := bindS h
 obtain ⟨h619b, rfl⟩ := app_some h619
 refine ol_appM (r := r56) (l := l498) (ys := ([(n547, n616)] : List (Int × Int))) 15 rfl rfl rfl rfl rfl rfl (el_ownM (l := ([(n547, n616)] : List (Int × Int))) 0 rfl) rfl h619 (fun y => rfl) el23 ty23 rfl rfl rfl rfl rfl (fun k620 => ?_)
 refine pq (q_fieldP rfl fa25_1 rfl) ?_
 refine ow [[iI n27, moC (l498 ++ ([(n547, n616)] : List (Int × Int))) k620]] 14 sz23 ?_
 refine oE (bN ?_)
 refine E_roundN (p := 7) rfl ?_
 refine pq (q_not rfl) ?_
 refine oE (eS (cF rfl (lK (bN ?_))))
 obtain rfl := sj h
 exact E_next (fr499, fr500, k620) (ups_self ⟨rfl, rfl, rfl, trivial⟩) [7, 8, 9, 10, 11, 12, 13, 14, 15, 0] (by decide) rfl
 replace h := ifF c502 h
 refine pq (qb (p_gtr_fZ c502)) ?_
 refine pq (qm bf) ?_
 refine pq (ql (.one (.p fr500 (Sl.t r56 s497))) 2 sz23) ?_
 refine pq (q_lenS rfl ty23 rfl rfl rfl rfl) ?_
 by_cases c621 : ((s497.l.length : Nat) : Int) > 0
 replace h := ifT c621 h
 refine pq (qb (p_gtr_tZ c621)) ?_
 refine pq (qpf bt) ?_
 refine oE (eS (cT rfl (lK (eS (lB (lS (lO ?_)))))))
 refine ol_new rfl rfl rfl (q_alloc ty64 (row := [iI 0, iI 0, iI 0, bC false, bC false]) rfl rfl) (fun k622 => ?_)
 refine oE (eS (lS ?_))
 refine L_norm (L2 := ([[(k622, 5, [[iI 0, iI 0, iI 0, bC false, bC false]])], [(k38, 0, [])], [(k36, 1, [[.p fr499 (Sl.t r56 s496)]])], [(k37, 1, [[.p fr500 (Sl.t r56 s497)]])], [(k9, 2, [[iI 0, nC]])], [(k14, 1, [[.clo (.func 34) [] [.ptr k6 0 0]]])], [(k15, 2, [[iI 0, nC]])], [(k16, 1, [[iI 0]])], [(k35, 2, [[iI n27, moC l498 k501]])], [(k6, 1, [[iI n1]])], moL r56 2 l498 k501] : BL)) [0, 1, 2, 3, 4, 5, 6, 7, 8, 9, 10] (by decide) rfl ?_
 refine L_turn 21 rfl [[], [], [], [], [], [], [], [], [], [], [], [], [], [], [], [], [], [], [], [], [k622]] [(false, []), (false, []), (false, []), (false, []), (false, []), (false, []), (false, []), (false, []), (false, []), (false, []), (false, []), (false, []), (false, []), (false, []), (false, []), (false, []), (false, []), (false, []), (false, []), (false, []), (false, [])] [[], [], [], [], [], [], [], [], [12, 13, 14, 15], [12, 13, 14, 15], [12, 13, 14, 15], [12, 13, 14, 15], [8, 9, 10, 11], [8, 9, 10, 11], [8, 9, 10, 11], [8, 9, 10, 11], [], [], [], [], []] (by kernel_rfl) (by kernel_rfl) (by kernel_rfl) ?_ (fun bb623 hlt hnd => ?_)
 intro bb623 hlt hnd
 exact ⟨⟨djE, ⟨djE, ⟨djE, ⟨djE, ⟨djE, ⟨djE, ⟨djE, ⟨djE, ⟨djE, ⟨djE, ⟨djE, ⟨djE, ⟨djE, ⟨djE, ⟨djE, ⟨djE, ⟨djE, ⟨djE, ⟨djE, ⟨djE, ⟨djN, trivial⟩⟩⟩⟩⟩⟩⟩⟩⟩⟩⟩⟩⟩⟩⟩⟩⟩⟩⟩⟩⟩, (ltO_cons ltK_nil (ltO_cons ltK_nil (ltO_cons ltK_nil (ltO_cons ltK_nil (ltO_cons ltK_nil (ltO_cons ltK_nil (ltO_cons ltK_nil (ltO_cons ltK_nil (ltO_cons ltK_nil (ltO_cons ltK_nil (ltO_cons ltK_nil (ltO_cons ltK_nil (ltO_cons ltK_nil (ltO_cons ltK_nil (ltO_cons ltK_nil (ltO_cons ltK_nil (ltO_cons ltK_nil (ltO_cons ltK_nil (ltO_cons ltK_nil (ltO_cons ltK_nil (ltO_cons (ltK_cons (key_lt hlt 0 rfl) ltK_nil) ltO_nil)))))))))))))))))))))⟩
 have e_k501 : l498 = [] ∨ k501 < bb623 := key_ltM (r := r56) (w := 2) hlt 10 rfl
 refine tq [3] rfl (hm0 rfl) (ql (.one (.p fr500 (Sl.t r56 s497))) 0 sz23) ?_
 refine tq [] rfl (hm0 rfl) (q_lenS rfl ty23 rfl rfl rfl rfl) ?_
 refine tn_put rfl rfl rfl [] (by decide) rfl (hm0 rfl) rfl (qb (p_eql_fZ (gt0_ne c621))) ?_
 refine tq [] rfl (hm0 rfl) (qm bf) ?_
 refine tq [2] rfl (hm0 rfl) (ql (.one (.p fr499 (Sl.t r56 s496))) 0 sz23) ?_
 refine tq [] rfl (hm0 rfl) (q_lenS rfl ty23 rfl rfl rfl rfl) ?_
 refine tn_put rfl rfl rfl [] (by decide) rfl (hm0 rfl) rfl (qb (p_gtr_fZ c502)) ?_
 refine tq [] rfl (hm0 rfl) (qm bf) ?_
 refine tn_skip rfl rfl rfl rfl ?_
 refine tn_skip rfl rfl rfl rfl ?_
 refine tn_skip rfl rfl rfl rfl ?_
 refine tn_skip rfl rfl rfl rfl ?_
 refine tn_skip rfl rfl rfl rfl ?_
 refine tn_skip rfl rfl rfl rfl ?_
 refine tn_skip rfl rfl rfl rfl ?_
 refine tn_skip rfl rfl rfl rfl ?_
 refine tn_skip rfl rfl rfl rfl ?_
 refine tq [] rfl (hm0 rfl) (qpf bf) ?_
 refine tq [] rfl (hm0 rfl) (qpf bf) ?_
 refine tq [] rfl (hm0 rfl) (q_fieldP rfl fa64_3 rfl) ?_
 refine tn_wr rfl rfl [0] (by decide) rfl (hm0 rfl) rfl (q_store (es' := [[iI 0, iI 0, iI 0, bC false, bC false]]) 0 rfl rfl rfl sz4 rfl rfl rfl rfl rfl) (q := 0) rfl rfl ?_
 refine tn_end (eS (lS ?_))
 refine L_norm (L2 := ([[(k622, 5, [[iI 0, iI 0, iI 0, bC false, bC false]])], [(k38, 0, [])], [(k36, 1, [[.p fr499 (Sl.t r56 s496)]])], [(k37, 1, [[.p fr500 (Sl.t r56 s497)]])], [(k9, 2, [[iI 0, nC]])], [(k14, 1, [[.clo (.func 34) [] [.ptr k6 0 0]]])], [(k15, 2, [[iI 0, nC]])], [(k16, 1, [[iI 0]])], [(k35, 2, [[iI n27, moC l498 k501]])], [(k6, 1, [[iI n1]])], moL r56 2 l498 k501] : BL)) [0, 1, 2, 3, 4, 5, 6, 7, 8, 9, 10] (by decide) rfl ?_
 refine L_turn 21 rfl [[], [], [], [], [], [], [], [], [], [], [], [], [], [], [], [], [], [], [], [], [k622]] [(false, []), (false, []), (false, []), (false, []), (false, []), (false, []), (false, []), (false, []), (false, []), (false, []), (false, []), (false, []), (false, []), (false, []), (false, []), (false, []), (false, []), (false, []), (false, []), (false, []), (false, [])] [[], [], [], [], [], [], [], [], [12, 13, 14, 15], [12, 13, 14, 15], [12, 13, 14, 15], [12, 13, 14, 15], [8, 9, 10, 11], [8, 9, 10, 11], [8, 9, 10, 11], [8, 9, 10, 11], [], [], [], [], []] (by kernel_rfl) (by kernel_rfl) (by kernel_rfl) ?_ (fun bb624 hlt hnd => ?_)
 intro bb624 hlt hnd
 exact ⟨⟨djE, ⟨djE, ⟨djE, ⟨djE, ⟨djE, ⟨djE, ⟨djE, ⟨djE, ⟨djE, ⟨djE, ⟨djE, ⟨djE, ⟨djE, ⟨djE, ⟨djE, ⟨djE, ⟨djE, ⟨djE, ⟨djE, ⟨djE, ⟨djN, trivial⟩⟩⟩⟩⟩⟩⟩⟩⟩⟩⟩⟩⟩⟩⟩⟩⟩⟩⟩⟩⟩, (ltO_cons ltK_nil (ltO_cons ltK_nil (ltO_cons ltK_nil (ltO_cons ltK_nil (ltO_cons ltK_nil (ltO_cons ltK_nil (ltO_cons ltK_nil (ltO_cons ltK_nil (ltO_cons ltK_nil (ltO_cons ltK_nil (ltO_cons ltK_nil (ltO_cons ltK_nil (ltO_cons ltK_nil (ltO_cons ltK_nil (ltO_cons ltK_nil (ltO_cons ltK_nil (ltO_cons ltK_nil (ltO_cons ltK_nil (ltO_cons ltK_nil (ltO_cons ltK_nil (ltO_cons (ltK_cons (key_lt hlt 0 rfl) ltK_nil) ltO_nil)))))))))))))))))))))⟩
 have e_k501 : l498 = [] ∨ k501 < bb624 := key_ltM (r := r56) (w := 2) hlt 10 rfl
 refine tq [2] rfl (hm0 rfl) (ql (.one (.p fr499 (Sl.t r56 s496))) 0 sz23) ?_
 refine tq [] rfl (hm0 rfl) (q_lenS rfl ty23 rfl rfl rfl rfl) ?_
 refine tn_put rfl rfl rfl [] (by decide) rfl (hm0 rfl) rfl (qb (p_eql_tZ (len0 c502))) ?_
 refine tq [] rfl (hm0 rfl) (qm bt) ?_
 refine tn_skip rfl rfl rfl rfl ?_
 refine tn_skip rfl rfl rfl rfl ?_
 refine tn_skip rfl rfl rfl rfl ?_
 refine tn_skip rfl rfl rfl rfl ?_
 refine tn_skip rfl rfl rfl rfl ?_
 refine tn_skip rfl rfl rfl rfl ?_
 refine tn_skip rfl rfl rfl rfl ?_
 refine tn_skip rfl rfl rfl rfl ?_
 refine tn_skip rfl rfl rfl rfl ?_
 refine tn_skip rfl rfl rfl rfl ?_
 refine tn_skip rfl rfl rfl rfl ?_
 refine tn_skip rfl rfl rfl rfl ?_
 refine tn_skip rfl rfl rfl rfl ?_
 refine tn_skip rfl rfl rfl rfl ?_
 refine tq [] rfl (hm0 rfl) (qpt bt) ?_
 refine tq [] rfl (hm0 rfl) (q_fieldP rfl fa64_4 rfl) ?_
 refine tn_wr rfl rfl [0] (by decide) rfl (hm0 rfl) rfl (q_store (es' := [[iI 0, iI 0, iI 0, bC false, bC true]]) 0 rfl rfl rfl sz4 rfl rfl rfl rfl rfl) (q := 0) rfl rfl ?_
 refine tn_end (eS (lS (lS (lO ?_))))
 refine pq (q_fieldP rfl fa64_3 rfl) ?_
 refine pq (ql bf 0 sz4) ?_
 refine oE (eS (cF rfl (lK (eS (lS (lS (lO ?_)))))))
 refine pq (q_fieldP rfl fa64_4 rfl) ?_
 refine pq (ql bt 0 sz4) ?_
 refine oE (eS (cT rfl (lS ?_)))
 refine L_norm (L2 := ([[(k622, 5, [[iI 0, iI 0, iI 0, bC false, bC true]])], [(k38, 0, [])], [(k36, 1, [[.p fr499 (Sl.t r56 s496)]])], [(k37, 1, [[.p fr500 (Sl.t r56 s497)]])], [(k9, 2, [[iI 0, nC]])], [(k14, 1, [[.clo (.func 34) [] [.ptr k6 0 0]]])], [(k15, 2, [[iI 0, nC]])], [(k16, 1, [[iI 0]])], [(k35, 2, [[iI n27, moC l498 k501]])], [(k6, 1, [[iI n1]])], moL r56 2 l498 k501] : BL)) [0, 1, 2, 3, 4, 5, 6, 7, 8, 9, 10] (by decide) rfl ?_
 refine L_turn 12 rfl [[], [], [], [], [], [], [], [], [], [k622], [], [k622]] [(false, []), (false, []), (false, []), (false, []), (false, []), (false, []), (false, []), (false, []), (false, []), (false, []), (false, []), (false, [])] [[4, 5, 6, 7], [4, 5, 6, 7], [4, 5, 6, 7], [4, 5, 6, 7], [0, 1, 2, 3, 8, 9], [0, 1, 2, 3, 8, 9], [0, 1, 2, 3, 8, 9], [0, 1, 2, 3, 8, 9], [4, 5, 6, 7], [4, 5, 6, 7], [], []] (by kernel_rfl) (by kernel_rfl) (by kernel_rfl) ?_ (fun bb625 hlt hnd => ?_)
 intro bb625 hlt hnd
 exact ⟨⟨djE, ⟨djE, ⟨djE, ⟨djE, ⟨djE, ⟨djE, ⟨djE, ⟨djE, ⟨djE, ⟨(djC nin_nil (djC nin_nil (djC nin_nil (djC nin_nil djN)))), ⟨djE, ⟨djN, trivial⟩⟩⟩⟩⟩⟩⟩⟩⟩⟩⟩⟩, (ltO_cons ltK_nil (ltO_cons ltK_nil (ltO_cons ltK_nil (ltO_cons ltK_nil (ltO_cons ltK_nil (ltO_cons ltK_nil (ltO_cons ltK_nil (ltO_cons ltK_nil (ltO_cons ltK_nil (ltO_cons (ltK_cons (key_lt hlt 0 rfl) ltK_nil) (ltO_cons ltK_nil (ltO_cons (ltK_cons (key_lt hlt 0 rfl) ltK_nil) ltO_nil))))))))))))⟩
 have e_k501 : l498 = [] ∨ k501 < bb625 := key_ltM (r := r56) (w := 2) hlt 10 rfl
 refine tq [3] rfl (hm0 rfl) (ql (.one (.p fr500 (Sl.t r56 s497))) 0 sz23) ?_
 obtain ⟨⟨n632, n633⟩, h631, h⟩ := bindS h
 obtain ⟨h631a, h631b, h631⟩ := atS_some h631
 refine tq [] rfl (hm0 rfl) (q_ixS rfl rfl h631a h631 (el23.trans (congrArg some h631b.symm))) ?_
 refine tq [] rfl (hm0 rfl) (q_fieldI rfl fa57_0 rfl) ?_
 refine tq [] rfl (hm0 rfl) (q_loadI (v := iO n632) rfl sz3 (map_get h631) rfl rfl) ?_
 refine tq [3] rfl (hmc (nin_cons (key_ne hnd 3 0 rfl rfl rfl) nin_nil) hmn) (ql (.one (.p fr500 (Sl.t r56 s497))) 0 sz23) ?_
 refine tq [] rfl hmn (q_ixS rfl rfl h631a h631 (el23.trans (congrArg some h631b.symm))) ?_
 refine tq [] rfl hmn (q_fieldI rfl fa57_1 rfl) ?_
 refine tq [] rfl hmn (q_loadI (v := iO n633) rfl sz2 (map_get h631) rfl rfl) ?_
 refine tq [] rfl (hm0 rfl) (q_fieldP rfl fa64_0 rfl) ?_
 refine tn_wr rfl rfl [0] (by decide) rfl (hm0 rfl) rfl (q_store (es' := [[iI n632, iI 0, iI 0, bC false, bC true]]) 0 rfl rfl rfl sz3 rfl rfl rfl rfl rfl) (q := 0) rfl rfl ?_
 refine tq [] rfl (hm0 rfl) (q_fieldP rfl fa64_2 rfl) ?_
 refine tn_wr rfl rfl [0] (by decide) rfl (hm0 rfl) rfl (q_store (es' := [[iI n632, iI 0, iI n633, bC false, bC true]]) 0 rfl rfl rfl sz2 rfl rfl rfl rfl rfl) (q := 0) rfl rfl ?_
 refine tn_end (eS (lO ?_))
 refine pq (ql (.one (.p fr500 (Sl.t r56 s497))) 3 sz23) ?_
 obtain ⟨s634, h635, h⟩ := bindS h
 refine pq (q_sliceS (r := r56) h635 rfl ty23 rfl ty57 (no_some rfl (cutS_some h635).1.1 _) (no_none _)) ?_
 refine ow [[.p fr500 (Sl.t r56 s634)]] 3 sz23 ?_
 refine oN ?_
 refine pq (qm (.one (.yld k38))) ?_
 refine pq (ql (.agg [iI n632, iI 0, iI n633, bC false, bC true]) 0 sz64) ?_
 refine ol_yield (args := [.agg [iI n632, iI 0, iI n633, bC false, bC true]]) (p := 1) rfl rfl rfl rfl rfl rfl rfl rfl rfl ?_
 refine lO ?_
 refine ol_new rfl rfl rfl (q_alloc ty64 (row := [iI 0, iI 0, iI 0, bC false, bC false]) rfl rfl) (fun k636 => ?_)
 refine ow [[iI n632, iI 0, iI n633, bC false, bC true]] 0 sz64 ?_
 refine oE ?_
 refine E_asg ?_
 refine lB (lS (lO ?_))
 refine pq (ql (.one (.clo (.func 34) [] [.ptr k6 0 0])) 6 sz69) ?_
 refine pq (ql (.agg [iI n632, iI 0, iI n633, bC false, bC true]) 0 sz64) ?_
 refine ol_scall (args := [.agg [iI n632, iI 0, iI n633, bC false, bC true], .one (.ptr k6 0 0)]) rfl rfl rfl rfl (by rw [E1_fn]; exact show fiOf Try.prog 34 = _ by unfold fiOf; rw [Try.func34]; unfold Try.f34; rfl) rfl rfl rfl ?_
 dsimp only
 refine lS (lO ?_)
 refine ol_new rfl rfl rfl (q_box ty64 rfl (cs := [iI n632, iI 0, iI n633, bC false, bC true]) rfl rfl) (fun k637 => ?_)
 refine ol_new rfl rfl rfl (q_alloc ty66 (row := [iI 0, uI 0]) rfl rfl) (fun k638 => ?_)
 refine pq (qa bf) ?_
 refine oE (eS (lS (lS (lO ?_))))
 refine pq (q_fieldP rfl fa64_3 rfl) ?_
 refine pq (ql bf 1 sz4) ?_
 refine pq (qm bf) ?_
 iterate 2 refine os ?_
 refine pq (qpf bf) ?_
 refine oE (eS (cF rfl (lK (eS (lS (lO ?_))))))
 refine pq (q_fieldP rfl fa64_1 rfl) ?_
 refine pq (ql (iO 0) 1 sz2) ?_
 refine pq (q_fieldP rfl fa64_2 rfl) ?_
 refine pq (ql (iO n633) 1 sz2) ?_
 refine pq (qb p_addY) ?_
 obtain ⟨⟨n640, n641⟩, h639, h⟩ := bindS h
 refine pq (qc (.agg [iI n640, uI n641]) [.one (iI (IntKind.i64.wrap (0 + n633)))] (wide_Of_r (m + 2) h639) (vw_cons (vd_one vc_v) vw_nil)) ?_
 refine ow [[iI n640, uI n641]] 0 sz66 ?_
 refine pq (qa bt) ?_
 refine oE (eS (lR ?_))
 refine E_call (v := .tup [.agg [iI n640, uI n641], bt]) (.inr rfl) (res_cell (d := .agg [iI n640, uI n641]) 0 rfl sz66 rfl rfl rfl rfl (res_tmp (d := bt) rfl res_nil)) rfl ?_
 refine pq (qm (.tup [.agg [iI n640, uI n641], bt])) ?_
 refine pq (q_ext (v := .agg [iI n640, uI n641]) rfl rfl) ?_
 refine pq (q_ext (v := bt) rfl rfl) ?_
 refine ol_new rfl rfl rfl (q_alloc ty66 (row := [iI 0, uI 0]) rfl rfl) (fun k642 => ?_)
 refine ow [[iI n640, uI n641]] 0 sz66 ?_
 refine pq (qa bt) ?_
 refine oE (eS (lS (lS (lO ?_))))
 refine pq (qm bt) ?_
 refine pq (q_not rfl) ?_
 refine oE (eS (cF rfl (lK (eS (lS (lO ?_))))))
 refine pq (ql (.agg [iI n640, uI n641]) 0 sz66) ?_
 obtain ⟨⟨n644, b645⟩, h643, h⟩ := bindS h
 refine pq (qc (.tup [iO n644, bO b645]) [.agg [iI n640, uI n641]] (wide_Narrow_r (m + 2) h643) (vw_cons (vd_agg (vc_cons vc_v (vc_cons vc_v vc_nil))) vw_nil)) ?_
 refine pq (qm (.tup [iO n644, bO b645])) ?_
 refine pq (q_ext (v := iO n644) rfl rfl) ?_
 refine pq (q_ext (v := bO b645) rfl rfl) ?_
 refine pq (qa (iO n644)) ?_
 refine pq (qa (bO b645)) ?_
 refine oE (eS (lS (lS (lO ?_))))
 refine pq (qm (bO b645)) ?_
 rcases b645 with _ | _
 replace h := wF h
 refine pq (q_not rfl) ?_
 refine oE (eS (cT rfl (lS (lO ?_))))
 refine pq (q_build (cs := [iI 0, nC]) ty25 rfl pl25 rfl) ?_
 refine ow [[iI 0, nC]] 10 sz25 ?_
 refine ow [[iI 12]] 11 sz28 ?_
 refine oE (eS (lR (eR (bR ?_))))
 refine E_roundX (p := 5) (es := [[]]) rfl rfl rfl rfl ?_
 refine pq (q_not rfl) ?_
 refine oE (eS (cT rfl (lR (bR ?_))))
 obtain rfl := sj h
 refine E_out ?_
 exact (E_je k501 (ups_self trivial) [8, 9, 10, 11, 12, 5, 13, 14] (by decide) rfl)
 replace h := wT h
 refine pq (q_not rfl) ?_
 refine oE (eS (cF rfl (lK (eS (lO ?_)))))
 refine pq (q_fieldP rfl fa25_1 rfl) ?_
 refine pq (ql (.one (moC l498 k501)) 12 sz23) ?_
 refine pq (q_fieldP rfl fa64_0 rfl) ?_
 refine pq (ql (iO n632) 3 sz3) ?_
 refine pq (qm (iO n644)) ?_
 refine pq (q_build (cs := [iI n632, iI n644]) ty57 rfl pl57 rfl) ?_
 refine ol_new rfl rfl rfl (q_bslice (cs := [iI n632, iI n644]) (es := (([(n632, n644)] : List (Int × Int))).map (rowC r56)) ty23 rfl ty57 rfl rfl rfl rfl rfl) (fun k646 => ?_)
 obtain ⟨_, h647, h⟩ := bindS h
 obtain ⟨h647b, rfl⟩ := app_some h647
 refine ol_appM (r := r56) (l := l498) (ys := ([(n632, n644)] : List (Int × Int))) 15 rfl rfl rfl rfl rfl rfl (el_ownM (l := ([(n632, n644)] : List (Int × Int))) 0 rfl) rfl h647 (fun y => rfl) el23 ty23 rfl rfl rfl rfl rfl (fun k648 => ?_)
 refine pq (q_fieldP rfl fa25_1 rfl) ?_
 refine ow [[iI n27, moC (l498 ++ ([(n632, n644)] : List (Int × Int))) k648]] 14 sz23 ?_
 refine oE (bN ?_)
 refine E_roundN (p := 7) rfl ?_
 refine pq (q_not rfl) ?_
 refine oE (eS (cF rfl (lK (bN ?_))))
 obtain rfl := sj h
 exact E_next (fr499, fr500, k648) (ups_self ⟨rfl, rfl, rfl, trivial⟩) [7, 8, 9, 10, 11, 12, 13, 14, 15, 0] (by decide) rfl
 replace h := ifF c621 h
 refine pq (qb (p_gtr_fZ c621)) ?_
 refine pq (qpf bf) ?_
 refine oE (eS (cF rfl (L_exit ?_)))
 refine E_seqX ?_
 obtain rfl := sj h
 refine E_out ?_
 exact E_js ((E_je k501 (ups_self trivial) [3, 4, 5, 6, 7, 0, 8, 9] (by decide) rfl))
 rintro (l649 | l651 | u) h
 refine J_e (fun k650 g => ?_)
 replace h := elimL h
 refine bR ?_
 refine E_range (p := 5) (.inr rfl) rfl ?_
 refine bR (eR ?_)
 refine E_call (v := .tup [.agg [iI 0, nC], iO 12]) (.inr rfl) (res_cell (d := .agg [iI 0, nC]) 2 rfl sz25 rfl rfl rfl rfl (res_cell (d := iO 12) 3 rfl sz28 rfl rfl rfl rfl res_nil)) rfl ?_
 refine pq (q_ext (v := .agg [iI 0, nC]) rfl rfl) ?_
 refine pq (q_ext (v := iO 12) rfl rfl) ?_
 refine ow [[iI 0, nC]] 0 sz25 ?_
 refine pq (qa (iO 12)) ?_
 refine oE (eS (lR ?_))
 obtain rfl := sj h
 exact E_endF (.inr rfl) (res_cell (d := .agg [iI 0, nC]) 0 rfl sz25 rfl rfl rfl rfl (res_tmp rfl res_nil)) (vw_cons (vd_agg (vc_cons vc_v (vc_cons vc_s vc_nil))) (vw_cons (vd_one vc_v) vw_nil)) oW rfl rfl
 refine J_s (J_e (fun k652 g => ?_))
 replace h := elimL (elimR h)
 refine bH ?_
 refine E_range (p := 5) (.inl rfl) rfl ?_
 refine bN (eS (lS (lO ?_)))
 refine pq (ql (.agg [iI n27, moC l651 k652]) 4 sz25) ?_
 refine ow [[iI n27, moC l651 k652]] 2 sz25 ?_
 refine ow [[iI 0]] 3 sz28 ?_
 refine oE (eS (lR ?_))
 refine E_call (v := .tup [.agg [iI n27, moC l651 k652], iO 0]) (.inr rfl) (res_cell (d := .agg [iI n27, moC l651 k652]) 2 rfl sz25 rfl rfl rfl rfl (res_cell (d := iO 0) 3 rfl sz28 rfl rfl rfl rfl res_nil)) rfl ?_
 refine pq (q_ext (v := .agg [iI n27, moC l651 k652]) rfl rfl) ?_
 refine pq (q_ext (v := iO 0) rfl rfl) ?_
 refine ow [[iI n27, moC l651 k652]] 0 sz25 ?_
 refine pq (qa (iO 0)) ?_
 refine oE (eS (lR ?_))
 obtain rfl := sj h
 exact E_endF (.inr rfl) (res_cell (d := .agg [iI n27, moC l651 k652]) 0 rfl sz25 rfl rfl rfl rfl (res_tmp rfl res_nil)) (vw_cons (vd_agg (vc_cons vc_v (vc_cons (vc_M (r := r56) 7 rfl (fun x h m => rfl)) vc_nil))) (vw_cons (vd_one vc_v) vw_nil)) oW rfl rfl
 exact u.elim
end Ev
end Go.Proofs.Ytlcfdmjkbaegpaa
