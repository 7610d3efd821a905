/- Texts of a claim, joined. -/
import Derived.Test.YtmiaonncbefmmaaDoorZT6
set_option linter.unusedVariables false
set_option linter.unusedSimpArgs false
section
namespace Go.Proofs.YtmiaonncbefmmaaDoor
namespace Ev
open Go
set_option linter.unusedVariables false
set_option linter.unusedSimpArgs false
set_option maxRecDepth 100000
set_option maxHeartbeats 1000000
attribute [local irreducible] OpsL StL TnL WpL EndL
noncomputable def ref02_Is (n1 : Int) : Option (Bool) :=
 (if n1 ≥ 1 then (if n1 ≤ 5 then some true else some false) else some false)
theorem ref02_Is_r (m : Nat) {n1 : Int} {out : Bool} (h : ref02_Is n1 = some out) : RunsP E1 (m + 1) 29 [.one (iT .i64 n1)] (.fresh, [.one (bT out)]) := by
 refine fn_F rfl (by rw [E1_fn]; exact show fiOf Tryd.prog 29 = _ by unfold fiOf; rw [Tryd.func29]; unfold Tryd.f29; rfl) rfl ?_
 dsimp only
 unfold ref02_Is at h
 refine lS (lO ?_)
 refine pq (qa bf) ?_
 refine oN ?_
 refine pq (qm (iO n1)) ?_
 by_cases c2 : n1 ≥ 1
 replace h := ifT c2 h
 refine pq (qb (p_geq_tZ c2)) ?_
 refine pq (qm bt) ?_
 refine pq (qm (iO n1)) ?_
 by_cases c3 : n1 ≤ 5
 replace h := ifT c3 h
 refine pq (qb (p_leq_tZ c3)) ?_
 refine pq (qpt bt) ?_
 refine pq (qa bt) ?_
 refine oE (eS (lR ?_))
 obtain rfl := sj h
 exact eF1
 replace h := ifF c3 h
 refine pq (qb (p_leq_fZ c3)) ?_
 refine pq (qpt bf) ?_
 refine pq (qa bf) ?_
 refine oE (eS (lR ?_))
 obtain rfl := sj h
 exact eF1
 replace h := ifF c2 h
 refine pq (qb (p_geq_fZ c2)) ?_
 refine pq (qm bf) ?_
 iterate 2 refine os ?_
 refine pq (qpf bf) ?_
 refine pq (qa bf) ?_
 refine oE (eS (lR ?_))
 obtain rfl := sj h
 exact eF1
noncomputable def ref05_below (a0 : Int × Int × Int) (a1 : Int × Int × Int) : Option (Bool) :=
 match a0, a1 with
 | (n1, n2, n3), (n4, n5, n6) => (if n1 < n4 then some true else (if n1 = n4 then (if n2 < n5 then some true else some false) else some false))
theorem ref05_below_r (m : Nat) {a0 : Int × Int × Int} {a1 : Int × Int × Int} {out : Bool} (h : ref05_below a0 a1 = some out) : RunsP E1 (m + 1) 40 [.agg (r70 a0), .agg (r70 a1)] (.fresh, [.one (bT out)]) := by
 obtain ⟨n1, n2, n3⟩ := a0
 obtain ⟨n4, n5, n6⟩ := a1
 refine fn_F rfl (by rw [E1_fn]; exact show fiOf Tryd.prog 40 = _ by unfold fiOf; rw [Tryd.func40]; unfold Tryd.f40; rfl) rfl ?_
 dsimp only
 unfold ref05_below at h
 refine lS (lO ?_)
 refine ol_new rfl rfl rfl (q_box ty71 rfl (cs := [iI n1, iI n2, iI n3]) rfl rfl) (fun k7 => ?_)
 refine ol_new rfl rfl rfl (q_box ty71 rfl (cs := [iI n4, iI n5, iI n6]) rfl rfl) (fun k8 => ?_)
 refine pq (qa bf) ?_
 refine oN ?_
 refine pq (q_fieldP rfl fa71_0 rfl) ?_
 refine pq (ql (iO n1) 1 sz3) ?_
 refine pq (q_fieldP rfl fa71_0 rfl) ?_
 refine pq (ql (iO n4) 0 sz3) ?_
 by_cases c9 : n1 < n4
 replace h := ifT c9 h
 refine pq (qb (p_lss_tZ c9)) ?_
 refine pq (qm bt) ?_
 iterate 12 refine os ?_
 refine pq (qpt bt) ?_
 refine pq (qa bt) ?_
 refine oE (eS (lR ?_))
 obtain rfl := sj h
 exact eF1
 replace h := ifF c9 h
 refine pq (qb (p_lss_fZ c9)) ?_
 refine pq (qm bf) ?_
 refine pq (q_fieldP rfl fa71_0 rfl) ?_
 refine pq (ql (iO n1) 1 sz3) ?_
 refine pq (q_fieldP rfl fa71_0 rfl) ?_
 refine pq (ql (iO n4) 0 sz3) ?_
 by_cases c10 : n1 = n4
 replace h := ifT c10 h
 refine pq (qb (p_eql_tZ c10)) ?_
 refine pq (qm bt) ?_
 refine pq (q_fieldP rfl fa71_1 rfl) ?_
 refine pq (ql (iO n2) 1 sz3) ?_
 refine pq (q_fieldP rfl fa71_1 rfl) ?_
 refine pq (ql (iO n5) 0 sz3) ?_
 by_cases c11 : n2 < n5
 replace h := ifT c11 h
 refine pq (qb (p_lss_tZ c11)) ?_
 refine pq (qpt bt) ?_
 refine pq (qpf bt) ?_
 refine pq (qa bt) ?_
 refine oE (eS (lR ?_))
 obtain rfl := sj h
 exact eF1
 replace h := ifF c11 h
 refine pq (qb (p_lss_fZ c11)) ?_
 refine pq (qpt bf) ?_
 refine pq (qpf bf) ?_
 refine pq (qa bf) ?_
 refine oE (eS (lR ?_))
 obtain rfl := sj h
 exact eF1
 replace h := ifF c10 h
 refine pq (qb (p_eql_fZ c10)) ?_
 refine pq (qm bf) ?_
 iterate 5 refine os ?_
 refine pq (qpf bf) ?_
 refine pq (qpf bf) ?_
 refine pq (qa bf) ?_
 refine oE (eS (lR ?_))
 obtain rfl := sj h
 exact eF1
noncomputable def ref01_Of (n1 : Int) : Option ((Int × Int)) :=
 (if n1 < 0 then some ((-1), (IntKind.u64.wrap n1)) else some (0, (IntKind.u64.wrap n1)))
theorem ref01_Of_r (m : Nat) {n1 : Int} {out : (Int × Int)} (h : ref01_Of n1 = some out) : RunsP E1 (m + 1) 41 [.one (iT .i64 n1)] (.fresh, [.agg (r85 out)]) := by
 refine fn_F rfl (by rw [E1_fn]; exact show fiOf Tryd.prog 41 = _ by unfold fiOf; rw [Tryd.func41]; unfold Tryd.f41; rfl) rfl ?_
 dsimp only
 unfold ref01_Of at h
 refine lS (lO ?_)
 refine ol_new rfl rfl rfl (q_alloc ty86 (row := [iI 0, uI 0]) rfl rfl) (fun k2 => ?_)
 refine oE (eS (lS (lS (lO ?_))))
 refine pq (qm (iO n1)) ?_
 by_cases c3 : n1 < 0
 replace h := ifT c3 h
 refine pq (qb (p_lss_tZ c3)) ?_
 refine oE (eS (cT rfl (lS (lO ?_))))
 refine pq (qm (iO n1)) ?_
 refine pq (q_conv rfl (cv2_66_i64 _) rfl) ?_
 refine pq (q_build (cs := [iI (-1), uI (IntKind.u64.wrap n1)]) ty86 rfl pl86 rfl) ?_
 refine ow [[iI (-1), uI (IntKind.u64.wrap n1)]] 0 sz86 ?_
 refine oE (eS (lR (eR ?_)))
 obtain rfl := sj h
 exact E_endF (.inr rfl) (res_cell (d := .agg [iI (-1), uI (IntKind.u64.wrap n1)]) 0 rfl sz86 rfl rfl rfl rfl res_nil) (vw_cons (vd_agg (vc_cons vc_v (vc_cons vc_v vc_nil))) vw_nil) oG rfl rfl
 replace h := ifF c3 h
 refine pq (qb (p_lss_fZ c3)) ?_
 refine oE (eS (cF rfl (lK (eS (lS (lO ?_))))))
 refine pq (qm (iO n1)) ?_
 refine pq (q_conv rfl (cv2_66_i64 _) rfl) ?_
 refine pq (q_build (cs := [iI 0, uI (IntKind.u64.wrap n1)]) ty86 rfl pl86 rfl) ?_
 refine ow [[iI 0, uI (IntKind.u64.wrap n1)]] 0 sz86 ?_
 refine oE (eS (lR ?_))
 obtain rfl := sj h
 exact E_endF (.inr rfl) (res_cell (d := .agg [iI 0, uI (IntKind.u64.wrap n1)]) 0 rfl sz86 rfl rfl rfl rfl res_nil) (vw_cons (vd_agg (vc_cons vc_v (vc_cons vc_v vc_nil))) vw_nil) oG rfl rfl
noncomputable def ref01_Compare (a0 : Int × Int) (a1 : Int × Int) : Option (Int) :=
 match a0, a1 with
 | (n1, n2), (n3, n4) => (if n1 < n3 then some (-1) else (if n1 = n3 then (if n2 < n4 then some (-1) else (if n1 = n3 ∧ n2 = n4 then some 0 else some 1)) else (if n1 = n3 ∧ n2 = n4 then some 0 else some 1)))
theorem ref01_Compare_r (m : Nat) {a0 : Int × Int} {a1 : Int × Int} {out : Int} (h : ref01_Compare a0 a1 = some out) : RunsP E1 (m + 1) 48 [.agg (r85 a0), .agg (r85 a1)] (.fresh, [.one (iT .i64 out)]) := by
 obtain ⟨n1, n2⟩ := a0
 obtain ⟨n3, n4⟩ := a1
 refine fn_F rfl (by rw [E1_fn]; exact show fiOf Tryd.prog 48 = _ by unfold fiOf; rw [Tryd.func48]; unfold Tryd.f48; rfl) rfl ?_
 dsimp only
 unfold ref01_Compare at h
 refine lS (lO ?_)
 refine ol_new rfl rfl rfl (q_box ty86 rfl (cs := [iI n1, uI n2]) rfl rfl) (fun k5 => ?_)
 refine ol_new rfl rfl rfl (q_box ty86 rfl (cs := [iI n3, uI n4]) rfl rfl) (fun k6 => ?_)
 refine pq (qa (iO 0)) ?_
 refine oE (eS (lS (lS (lO ?_))))
 refine pq (q_fieldP rfl fa86_0 rfl) ?_
 refine pq (ql (iO n1) 1 sz2) ?_
 refine pq (q_fieldP rfl fa86_0 rfl) ?_
 refine pq (ql (iO n3) 0 sz2) ?_
 by_cases c7 : n1 < n3
 replace h := ifT c7 h
 refine pq (qb (p_lss_tZ c7)) ?_
 refine pq (qm bt) ?_
 iterate 12 refine os ?_
 refine pq (qpt bt) ?_
 refine oE (eS (cT rfl (lS (lO ?_))))
 refine pq (qa (iO (-1))) ?_
 refine oE (eS (lR (eR ?_)))
 obtain rfl := sj h
 exact eF1
 replace h := ifF c7 h
 refine pq (qb (p_lss_fZ c7)) ?_
 refine pq (qm bf) ?_
 refine pq (q_fieldP rfl fa86_0 rfl) ?_
 refine pq (ql (iO n1) 1 sz2) ?_
 refine pq (q_fieldP rfl fa86_0 rfl) ?_
 refine pq (ql (iO n3) 0 sz2) ?_
 by_cases c8 : n1 = n3
 replace h := ifT c8 h
 refine pq (qb (p_eql_tZ c8)) ?_
 refine pq (qm bt) ?_
 refine pq (q_fieldP rfl fa86_1 rfl) ?_
 refine pq (ql (.one (uI n2)) 1 sz66) ?_
 refine pq (q_fieldP rfl fa86_1 rfl) ?_
 refine pq (ql (.one (uI n4)) 0 sz66) ?_
 by_cases c9 : n2 < n4
 replace h := ifT c9 h
 refine pq (qb (p_lss_tZ c9)) ?_
 refine pq (qpt bt) ?_
 refine pq (qpf bt) ?_
 refine oE (eS (cT rfl (lS (lO ?_))))
 refine pq (qa (iO (-1))) ?_
 refine oE (eS (lR (eR ?_)))
 obtain rfl := sj h
 exact eF1
 replace h := ifF c9 h
 refine pq (qb (p_lss_fZ c9)) ?_
 refine pq (qpt bf) ?_
 refine pq (qpf bf) ?_
 refine oE (eS (cF rfl (lK (eS (lS (lS (lO ?_)))))))
 refine pq (ql (.agg [iI n1, uI n2]) 1 sz86) ?_
 refine pq (ql (.agg [iI n3, uI n4]) 0 sz86) ?_
 by_cases c10 : n1 = n3 ∧ n2 = n4
 replace h := ifT c10 h
 refine pq (q_binA rfl rfl (by rfl) (by rfl) (eqeqlA86_t _ _ c10) rfl) ?_
 refine oE (eS (cT rfl (lS (lO ?_))))
 refine pq (qa (iO 0)) ?_
 refine oE (eS (lR (eR ?_)))
 obtain rfl := sj h
 exact eF1
 replace h := ifF c10 h
 refine pq (q_binA rfl rfl (by rfl) (by rfl) (eqeqlA86_f _ _ c10) rfl) ?_
 refine oE (eS (cF rfl (lK (eS (lS (lO ?_))))))
 refine pq (qa (iO 1)) ?_
 refine oE (eS (lR ?_))
 obtain rfl := sj h
 exact eF1
 replace h := ifF c8 h
 refine pq (qb (p_eql_fZ c8)) ?_
 refine pq (qm bf) ?_
 iterate 5 refine os ?_
 refine pq (qpf bf) ?_
 refine pq (qpf bf) ?_
 refine oE (eS (cF rfl (lK (eS (lS (lS (lO ?_)))))))
 refine pq (ql (.agg [iI n1, uI n2]) 1 sz86) ?_
 refine pq (ql (.agg [iI n3, uI n4]) 0 sz86) ?_
 by_cases c11 : n1 = n3 ∧ n2 = n4
 replace h := ifT c11 h
 refine pq (q_binA rfl rfl (by rfl) (by rfl) (eqeqlA86_t _ _ c11) rfl) ?_
 refine oE (eS (cT rfl (lS (lO ?_))))
 refine pq (qa (iO 0)) ?_
 refine oE (eS (lR (eR ?_)))
 obtain rfl := sj h
 exact eF1
 replace h := ifF c11 h
 refine pq (q_binA rfl rfl (by rfl) (by rfl) (eqeqlA86_f _ _ c11) rfl) ?_
 refine oE (eS (cF rfl (lK (eS (lS (lO ?_))))))
 refine pq (qa (iO 1)) ?_
 refine oE (eS (lR ?_))
 obtain rfl := sj h
 exact eF1
noncomputable def ref02_truth (b1 : Bool) : Option ((Int × Int)) :=
 (if b1 = true then some (0, 1) else some (0, 0))
theorem ref02_truth_r (m : Nat) {b1 : Bool} {out : (Int × Int)} (h : ref02_truth b1 = some out) : RunsP E1 (m + 1) 49 [.one (bT b1)] (.fresh, [.agg (r85 out)]) := by
 refine fn_F rfl (by rw [E1_fn]; exact show fiOf Tryd.prog 49 = _ by unfold fiOf; rw [Tryd.func49]; unfold Tryd.f49; rfl) rfl ?_
 dsimp only
 unfold ref02_truth at h
 refine lS (lO ?_)
 refine ol_new rfl rfl rfl (q_alloc ty86 (row := [iI 0, uI 0]) rfl rfl) (fun k2 => ?_)
 refine oE (eS (lS (lS (lO ?_))))
 refine pq (qm (bO b1)) ?_
 refine oE (eS ?_)
 rcases b1 with _ | _
 replace h := wF h
 refine cF rfl (lK (eS (lS (lO ?_))))
 refine pq (q_build (cs := [iI 0, uI 0]) ty86 rfl pl86 rfl) ?_
 refine ow [[iI 0, uI 0]] 0 sz86 ?_
 refine oE (eS (lR ?_))
 obtain rfl := sj h
 exact E_endF (.inr rfl) (res_cell (d := .agg [iI 0, uI 0]) 0 rfl sz86 rfl rfl rfl rfl res_nil) (vw_cons (vd_agg (vc_cons vc_v (vc_cons vc_v vc_nil))) vw_nil) oG rfl rfl
 replace h := wT h
 refine cT rfl (lS (lO ?_))
 refine pq (q_build (cs := [iI 0, uI 1]) ty86 rfl pl86 rfl) ?_
 refine ow [[iI 0, uI 1]] 0 sz86 ?_
 refine oE (eS (lR (eR ?_)))
 obtain rfl := sj h
 exact E_endF (.inr rfl) (res_cell (d := .agg [iI 0, uI 1]) 0 rfl sz86 rfl rfl rfl rfl res_nil) (vw_cons (vd_agg (vc_cons vc_v (vc_cons vc_v vc_nil))) vw_nil) oG rfl rfl
noncomputable def ref01_Add (a0 : Int × Int) (a1 : Int × Int) : Option ((Int × Int)) :=
 match a0, a1 with
 | (n1, n2), (n3, n4) => (if (IntKind.u64.wrap (n2 + n4)) < n2 then some ((IntKind.i64.wrap ((IntKind.i64.wrap (n1 + n3)) + 1)), (IntKind.u64.wrap (n2 + n4))) else some ((IntKind.i64.wrap (n1 + n3)), (IntKind.u64.wrap (n2 + n4))))
theorem ref01_Add_r (m : Nat) {a0 : Int × Int} {a1 : Int × Int} {out : (Int × Int)} (h : ref01_Add a0 a1 = some out) : RunsP E1 (m + 1) 50 [.agg (r85 a0), .agg (r85 a1)] (.fresh, [.agg (r85 out)]) := by
 obtain ⟨n1, n2⟩ := a0
 obtain ⟨n3, n4⟩ := a1
 refine fn_F rfl (by rw [E1_fn]; exact show fiOf Tryd.prog 50 = _ by unfold fiOf; rw [Tryd.func50]; unfold Tryd.f50; rfl) rfl ?_
 dsimp only
 unfold ref01_Add at h
 refine lS (lO ?_)
 refine ol_new rfl rfl rfl (q_box ty86 rfl (cs := [iI n1, uI n2]) rfl rfl) (fun k5 => ?_)
 refine ol_new rfl rfl rfl (q_box ty86 rfl (cs := [iI n3, uI n4]) rfl rfl) (fun k6 => ?_)
 refine ol_new rfl rfl rfl (q_alloc ty86 (row := [iI 0, uI 0]) rfl rfl) (fun k7 => ?_)
 refine oN ?_
 refine pq (q_fieldP rfl fa86_1 rfl) ?_
 refine pq (ql (.one (uI n2)) 2 sz66) ?_
 refine pq (q_fieldP rfl fa86_1 rfl) ?_
 refine pq (ql (.one (uI n4)) 1 sz66) ?_
 refine pq (qb p_addY) ?_
 refine pq (qa (.one (uI (IntKind.u64.wrap (n2 + n4))))) ?_
 refine oN ?_
 refine pq (q_fieldP rfl fa86_0 rfl) ?_
 refine pq (ql (iO n1) 2 sz2) ?_
 refine pq (q_fieldP rfl fa86_0 rfl) ?_
 refine pq (ql (iO n3) 1 sz2) ?_
 refine pq (qb p_addY) ?_
 refine pq (qa (iO (IntKind.i64.wrap (n1 + n3)))) ?_
 refine oE (eS (lS (lS (lO ?_))))
 refine pq (qm (.one (uI (IntKind.u64.wrap (n2 + n4))))) ?_
 refine pq (q_fieldP rfl fa86_1 rfl) ?_
 refine pq (ql (.one (uI n2)) 2 sz66) ?_
 by_cases c8 : (IntKind.u64.wrap (n2 + n4)) < n2
 replace h := ifT c8 h
 refine pq (qb (p_lss_tZ c8)) ?_
 refine oE (eS (cT rfl (lO ?_)))
 refine pq (qm (iO (IntKind.i64.wrap (n1 + n3)))) ?_
 refine pq (qb p_addY) ?_
 refine pq (qa (.one (iI (IntKind.i64.wrap ((IntKind.i64.wrap (n1 + n3)) + 1))))) ?_
 refine oN ?_
 refine pq (qm (.one (iI (IntKind.i64.wrap ((IntKind.i64.wrap (n1 + n3)) + 1))))) ?_
 refine pq (qm (.one (uI (IntKind.u64.wrap (n2 + n4))))) ?_
 refine pq (q_build (cs := [iI (IntKind.i64.wrap ((IntKind.i64.wrap (n1 + n3)) + 1)), uI (IntKind.u64.wrap (n2 + n4))]) ty86 rfl pl86 rfl) ?_
 refine ow [[iI (IntKind.i64.wrap ((IntKind.i64.wrap (n1 + n3)) + 1)), uI (IntKind.u64.wrap (n2 + n4))]] 0 sz86 ?_
 refine oE (eS (lR ?_))
 obtain rfl := sj h
 exact E_endF (.inr rfl) (res_cell (d := .agg [iI (IntKind.i64.wrap ((IntKind.i64.wrap (n1 + n3)) + 1)), uI (IntKind.u64.wrap (n2 + n4))]) 0 rfl sz86 rfl rfl rfl rfl res_nil) (vw_cons (vd_agg (vc_cons vc_v (vc_cons vc_v vc_nil))) vw_nil) oG rfl rfl
 replace h := ifF c8 h
 refine pq (qb (p_lss_fZ c8)) ?_
 refine oE (eS (cF rfl (lK (eS (lS (lO ?_))))))
 refine pq (qm (iO (IntKind.i64.wrap (n1 + n3)))) ?_
 refine pq (qm (.one (uI (IntKind.u64.wrap (n2 + n4))))) ?_
 refine pq (q_build (cs := [iI (IntKind.i64.wrap (n1 + n3)), uI (IntKind.u64.wrap (n2 + n4))]) ty86 rfl pl86 rfl) ?_
 refine ow [[iI (IntKind.i64.wrap (n1 + n3)), uI (IntKind.u64.wrap (n2 + n4))]] 0 sz86 ?_
 refine oE (eS (lR ?_))
 obtain rfl := sj h
 exact E_endF (.inr rfl) (res_cell (d := .agg [iI (IntKind.i64.wrap (n1 + n3)), uI (IntKind.u64.wrap (n2 + n4))]) 0 rfl sz86 rfl rfl rfl rfl res_nil) (vw_cons (vd_agg (vc_cons vc_v (vc_cons vc_v vc_nil))) vw_nil) oG rfl rfl
noncomputable def ref02_Add (n1 : Int) (a1 : Int × Int) (a2 : Int × Int) : Option ((Int × Int)) :=
 match a1, a2 with
 | (n2, n3), (n4, n5) => (if n1 = 1 then ((ref01_Compare (n4, n5) (n2, n3)).bind fun n11 => (if n11 < 0 then some (n4, n5) else some (n2, n3))) else (if n1 = 3 then ((ref01_Compare (n4, n5) (n2, n3)).bind fun n15 => (if n15 < 0 then some (n4, n5) else some (n2, n3))) else (if n1 = 4 then ((ref01_Compare (n4, n5) (n2, n3)).bind fun n19 => (if n19 < 0 then some (n4, n5) else some (n2, n3))) else (if n1 = 2 then (if n2 = 0 ∧ n3 = 0 then (if n4 = 0 ∧ n5 = 0 then ((ref02_truth false).bind fun (n25, n26) => some (n25, n26)) else ((ref02_truth true).bind fun (n28, n29) => some (n28, n29))) else ((ref02_truth true).bind fun (n31, n32) => some (n31, n32))) else (if n1 = 5 then ((ref01_Add (n2, n3) (n4, n5)).bind fun (n35, n36) => some (n35, n36)) else some (0, 0))))))
theorem ref02_Add_r (m : Nat) {n1 : Int} {a1 : Int × Int} {a2 : Int × Int} {out : (Int × Int)} (h : ref02_Add n1 a1 a2 = some out) : RunsP E1 (m + 2) 42 [.one (iT .i64 n1), .agg (r85 a1), .agg (r85 a2)] (.fresh, [.agg (r85 out)]) := by
 obtain ⟨n2, n3⟩ := a1
 obtain ⟨n4, n5⟩ := a2
 refine fn_F rfl (by rw [E1_fn]; exact show fiOf Tryd.prog 42 = _ by unfold fiOf; rw [Tryd.func42]; unfold Tryd.f42; rfl) rfl ?_
 dsimp only
 unfold ref02_Add at h
 refine lS (lO ?_)
 refine ol_new rfl rfl rfl (q_box ty86 rfl (cs := [iI n2, uI n3]) rfl rfl) (fun k6 => ?_)
 refine ol_new rfl rfl rfl (q_box ty86 rfl (cs := [iI n4, uI n5]) rfl rfl) (fun k7 => ?_)
 refine ol_new rfl rfl rfl (q_alloc ty86 (row := [iI 0, uI 0]) rfl rfl) (fun k8 => ?_)
 refine oN ?_
 refine pq (qm (iO n1)) ?_
 refine oE (eS (lB (lS (lS (lO ?_)))))
 by_cases c9 : n1 = 1
 replace h := ifT c9 h
 refine pq (qb (p_eql_tZ c9)) ?_
 refine pq (qa bt) ?_
 refine oE (eS (cT rfl (lK (eS (cT rfl (lS (lS (lO ?_))))))))
 refine pq (ql (.agg [iI n4, uI n5]) 1 sz86) ?_
 refine pq (ql (.agg [iI n2, uI n3]) 2 sz86) ?_
 obtain ⟨n11, h10, h⟩ := bindS h
 refine pq (qc (iO n11) [.agg [iI n4, uI n5], .agg [iI n2, uI n3]] (ref01_Compare_r (m + 0) h10) (vw_cons (vd_agg (vc_cons vc_v (vc_cons vc_v vc_nil))) (vw_cons (vd_agg (vc_cons vc_v (vc_cons vc_v vc_nil))) vw_nil))) ?_
 by_cases c12 : n11 < 0
 replace h := ifT c12 h
 refine pq (qb (p_lss_tZ c12)) ?_
 refine oE (eS (cT rfl (lS (lO ?_))))
 refine pq (ql (.agg [iI n4, uI n5]) 1 sz86) ?_
 refine ow [[iI n4, uI n5]] 0 sz86 ?_
 refine oE (eS (lR (eR (bR ?_))))
 obtain rfl := sj h
 exact E_endF (.inr rfl) (res_cell (d := .agg [iI n4, uI n5]) 0 rfl sz86 rfl rfl rfl rfl res_nil) (vw_cons (vd_agg (vc_cons vc_v (vc_cons vc_v vc_nil))) vw_nil) oG rfl rfl
 replace h := ifF c12 h
 refine pq (qb (p_lss_fZ c12)) ?_
 refine oE (eS (cF rfl (lK (eS (lS (lO ?_))))))
 refine pq (ql (.agg [iI n2, uI n3]) 2 sz86) ?_
 refine ow [[iI n2, uI n3]] 0 sz86 ?_
 refine oE (eS (lR (bR ?_)))
 obtain rfl := sj h
 exact E_endF (.inr rfl) (res_cell (d := .agg [iI n2, uI n3]) 0 rfl sz86 rfl rfl rfl rfl res_nil) (vw_cons (vd_agg (vc_cons vc_v (vc_cons vc_v vc_nil))) vw_nil) oG rfl rfl
 replace h := ifF c9 h
 refine pq (qb (p_eql_fZ c9)) ?_
 refine pq (qa bf) ?_
 refine oE (eS (cF rfl (lS (lO ?_))))
 by_cases c13 : n1 = 3
 replace h := ifT c13 h
 refine pq (qb (p_eql_tZ c13)) ?_
 refine pq (qa bt) ?_
 refine oE (eS (cT rfl (lK (eS (cT rfl (lS (lS (lO ?_))))))))
 refine pq (ql (.agg [iI n4, uI n5]) 1 sz86) ?_
 refine pq (ql (.agg [iI n2, uI n3]) 2 sz86) ?_
 obtain ⟨n15, h14, h⟩ := bindS h
 refine pq (qc (iO n15) [.agg [iI n4, uI n5], .agg [iI n2, uI n3]] (ref01_Compare_r (m + 0) h14) (vw_cons (vd_agg (vc_cons vc_v (vc_cons vc_v vc_nil))) (vw_cons (vd_agg (vc_cons vc_v (vc_cons vc_v vc_nil))) vw_nil))) ?_
 by_cases c16 : n15 < 0
 replace h := ifT c16 h
 refine pq (qb (p_lss_tZ c16)) ?_
 refine oE (eS (cT rfl (lS (lO ?_))))
 refine pq (ql (.agg [iI n4, uI n5]) 1 sz86) ?_
 refine ow [[iI n4, uI n5]] 0 sz86 ?_
 refine oE (eS (lR (eR (bR ?_))))
 obtain rfl := sj h
 exact E_endF (.inr rfl) (res_cell (d := .agg [iI n4, uI n5]) 0 rfl sz86 rfl rfl rfl rfl res_nil) (vw_cons (vd_agg (vc_cons vc_v (vc_cons vc_v vc_nil))) vw_nil) oG rfl rfl
 replace h := ifF c16 h
 refine pq (qb (p_lss_fZ c16)) ?_
 refine oE (eS (cF rfl (lK (eS (lS (lO ?_))))))
 refine pq (ql (.agg [iI n2, uI n3]) 2 sz86) ?_
 refine ow [[iI n2, uI n3]] 0 sz86 ?_
 refine oE (eS (lR (bR ?_)))
 obtain rfl := sj h
 exact E_endF (.inr rfl) (res_cell (d := .agg [iI n2, uI n3]) 0 rfl sz86 rfl rfl rfl rfl res_nil) (vw_cons (vd_agg (vc_cons vc_v (vc_cons vc_v vc_nil))) vw_nil) oG rfl rfl
 replace h := ifF c13 h
 refine pq (qb (p_eql_fZ c13)) ?_
 refine pq (qa bf) ?_
 refine oE (eS (cF rfl (lO ?_)))
 by_cases c17 : n1 = 4
 replace h := ifT c17 h
 refine pq (qb (p_eql_tZ c17)) ?_
 refine pq (qa bt) ?_
 refine oE (eS (cT rfl (lS (lS (lO ?_)))))
 refine pq (ql (.agg [iI n4, uI n5]) 1 sz86) ?_
 refine pq (ql (.agg [iI n2, uI n3]) 2 sz86) ?_
 obtain ⟨n19, h18, h⟩ := bindS h
 refine pq (qc (iO n19) [.agg [iI n4, uI n5], .agg [iI n2, uI n3]] (ref01_Compare_r (m + 0) h18) (vw_cons (vd_agg (vc_cons vc_v (vc_cons vc_v vc_nil))) (vw_cons (vd_agg (vc_cons vc_v (vc_cons vc_v vc_nil))) vw_nil))) ?_
 by_cases c20 : n19 < 0
 replace h := ifT c20 h
 refine pq (qb (p_lss_tZ c20)) ?_
 refine oE (eS (cT rfl (lS (lO ?_))))
 refine pq (ql (.agg [iI n4, uI n5]) 1 sz86) ?_
 refine ow [[iI n4, uI n5]] 0 sz86 ?_
 refine oE (eS (lR (eR (bR ?_))))
 obtain rfl := sj h
 exact E_endF (.inr rfl) (res_cell (d := .agg [iI n4, uI n5]) 0 rfl sz86 rfl rfl rfl rfl res_nil) (vw_cons (vd_agg (vc_cons vc_v (vc_cons vc_v vc_nil))) vw_nil) oG rfl rfl
 replace h := ifF c20 h
 refine pq (qb (p_lss_fZ c20)) ?_
 refine oE (eS (cF rfl (lK (eS (lS (lO ?_))))))
 refine pq (ql (.agg [iI n2, uI n3]) 2 sz86) ?_
 refine ow [[iI n2, uI n3]] 0 sz86 ?_
 refine oE (eS (lR (bR ?_)))
 obtain rfl := sj h
 exact E_endF (.inr rfl) (res_cell (d := .agg [iI n2, uI n3]) 0 rfl sz86 rfl rfl rfl rfl res_nil) (vw_cons (vd_agg (vc_cons vc_v (vc_cons vc_v vc_nil))) vw_nil) oG rfl rfl
 replace h := ifF c17 h
 refine pq (qb (p_eql_fZ c17)) ?_
 refine pq (qa bf) ?_
 refine oE (eS (cF rfl (lS (lO ?_))))
 by_cases c21 : n1 = 2
 replace h := ifT c21 h
 refine pq (qb (p_eql_tZ c21)) ?_
 refine pq (qa bt) ?_
 refine oE (eS (cT rfl (lS (lO ?_))))
 refine pq (ql (.agg [iI n2, uI n3]) 2 sz86) ?_
 refine pq (q_build (cs := [iI 0, uI 0]) ty86 rfl pl86 rfl) ?_
 by_cases c22 : n2 = 0 ∧ n3 = 0
 replace h := ifT c22 h
 refine pq (q_binA rfl rfl (by rfl) (by rfl) (eqneqA86_t _ _ c22) rfl) ?_
 refine pq (qm bf) ?_
 refine pq (ql (.agg [iI n4, uI n5]) 1 sz86) ?_
 refine pq (q_build (cs := [iI 0, uI 0]) ty86 rfl pl86 rfl) ?_
 by_cases c23 : n4 = 0 ∧ n5 = 0
 replace h := ifT c23 h
 refine pq (q_binA rfl rfl (by rfl) (by rfl) (eqneqA86_t _ _ c23) rfl) ?_
 refine pq (qpf bf) ?_
 obtain ⟨⟨n25, n26⟩, h24, h⟩ := bindS h
 refine pq (qc (.agg [iI n25, uI n26]) [bf] (ref02_truth_r (m + 0) h24) (vw_cons (vd_one vc_v) vw_nil)) ?_
 refine ow [[iI n25, uI n26]] 0 sz86 ?_
 refine oE (eS (lR (bR ?_)))
 obtain rfl := sj h
 exact E_endF (.inr rfl) (res_cell (d := .agg [iI n25, uI n26]) 0 rfl sz86 rfl rfl rfl rfl res_nil) (vw_cons (vd_agg (vc_cons vc_v (vc_cons vc_v vc_nil))) vw_nil) oG rfl rfl
 replace h := ifF c23 h
 refine pq (q_binA rfl rfl (by rfl) (by rfl) (eqneqA86_f _ _ c23) rfl) ?_
 refine pq (qpf bt) ?_
 obtain ⟨⟨n28, n29⟩, h27, h⟩ := bindS h
 refine pq (qc (.agg [iI n28, uI n29]) [bt] (ref02_truth_r (m + 0) h27) (vw_cons (vd_one vc_v) vw_nil)) ?_
 refine ow [[iI n28, uI n29]] 0 sz86 ?_
 refine oE (eS (lR (bR ?_)))
 obtain rfl := sj h
 exact E_endF (.inr rfl) (res_cell (d := .agg [iI n28, uI n29]) 0 rfl sz86 rfl rfl rfl rfl res_nil) (vw_cons (vd_agg (vc_cons vc_v (vc_cons vc_v vc_nil))) vw_nil) oG rfl rfl
 replace h := ifF c22 h
 refine pq (q_binA rfl rfl (by rfl) (by rfl) (eqneqA86_f _ _ c22) rfl) ?_
 refine pq (qm bt) ?_
 iterate 3 refine os ?_
 refine pq (qpt bt) ?_
 obtain ⟨⟨n31, n32⟩, h30, h⟩ := bindS h
 refine pq (qc (.agg [iI n31, uI n32]) [bt] (ref02_truth_r (m + 0) h30) (vw_cons (vd_one vc_v) vw_nil)) ?_
 refine ow [[iI n31, uI n32]] 0 sz86 ?_
 refine oE (eS (lR (bR ?_)))
 obtain rfl := sj h
 exact E_endF (.inr rfl) (res_cell (d := .agg [iI n31, uI n32]) 0 rfl sz86 rfl rfl rfl rfl res_nil) (vw_cons (vd_agg (vc_cons vc_v (vc_cons vc_v vc_nil))) vw_nil) oG rfl rfl
 replace h := ifF c21 h
 refine pq (qb (p_eql_fZ c21)) ?_
 refine pq (qa bf) ?_
 refine oE (eS (cF rfl (lS (lO ?_))))
 by_cases c33 : n1 = 5
 replace h := ifT c33 h
 refine pq (qb (p_eql_tZ c33)) ?_
 refine pq (qa bt) ?_
 refine oE (eS (cT rfl (lS (lO ?_))))
 refine pq (ql (.agg [iI n2, uI n3]) 2 sz86) ?_
 refine pq (ql (.agg [iI n4, uI n5]) 1 sz86) ?_
 obtain ⟨⟨n35, n36⟩, h34, h⟩ := bindS h
 refine pq (qc (.agg [iI n35, uI n36]) [.agg [iI n2, uI n3], .agg [iI n4, uI n5]] (ref01_Add_r (m + 0) h34) (vw_cons (vd_agg (vc_cons vc_v (vc_cons vc_v vc_nil))) (vw_cons (vd_agg (vc_cons vc_v (vc_cons vc_v vc_nil))) vw_nil))) ?_
 refine ow [[iI n35, uI n36]] 0 sz86 ?_
 refine oE (eS (lR (bR ?_)))
 obtain rfl := sj h
 exact E_endF (.inr rfl) (res_cell (d := .agg [iI n35, uI n36]) 0 rfl sz86 rfl rfl rfl rfl res_nil) (vw_cons (vd_agg (vc_cons vc_v (vc_cons vc_v vc_nil))) vw_nil) oG rfl rfl
 replace h := ifF c33 h
 refine pq (qb (p_eql_fZ c33)) ?_
 refine pq (qa bf) ?_
 refine oE (eS (cF rfl (lS (lO ?_))))
 refine pq (q_build (cs := [iI 0, uI 0]) ty86 rfl pl86 rfl) ?_
 refine ow [[iI 0, uI 0]] 0 sz86 ?_
 refine oE (eS (lR (bR ?_)))
 obtain rfl := sj h
 exact E_endF (.inr rfl) (res_cell (d := .agg [iI 0, uI 0]) 0 rfl sz86 rfl rfl rfl rfl res_nil) (vw_cons (vd_agg (vc_cons vc_v (vc_cons vc_v vc_nil))) vw_nil) oG rfl rfl
noncomputable def ref01_Narrow (a0 : Int × Int) : Option (Int × Bool) :=
 match a0 with
 | (n1, n2) => (if n1 = 0 then (if (IntKind.i64.wrap n2) ≥ 0 then some ((IntKind.i64.wrap n2), true) else (if n1 = (-1) then (if (IntKind.i64.wrap n2) < 0 then some ((IntKind.i64.wrap n2), true) else some (0, false)) else some (0, false))) else (if n1 = (-1) then (if (IntKind.i64.wrap n2) < 0 then some ((IntKind.i64.wrap n2), true) else some (0, false)) else some (0, false)))
theorem ref01_Narrow_r (m : Nat) {a0 : Int × Int} {out : Int × Bool} (h : ref01_Narrow a0 = some out) : RunsP E1 (m + 1) 43 [.agg (r85 a0)] (.fresh, [.one (iT .i64 out.1), .one (bT out.2)]) := by
 obtain ⟨n1, n2⟩ := a0
 refine fn_F rfl (by rw [E1_fn]; exact show fiOf Tryd.prog 43 = _ by unfold fiOf; rw [Tryd.func43]; unfold Tryd.f43; rfl) rfl ?_
 dsimp only
 unfold ref01_Narrow at h
 refine lS (lO ?_)
 refine ol_new rfl rfl rfl (q_box ty86 rfl (cs := [iI n1, uI n2]) rfl rfl) (fun k3 => ?_)
 refine pq (qa (iO 0)) ?_
 refine pq (qa bf) ?_
 refine oN ?_
 refine pq (q_fieldP rfl fa86_1 rfl) ?_
 refine pq (ql (.one (uI n2)) 0 sz66) ?_
 refine pq (q_conv rfl (cv66_2_u64 _) rfl) ?_
 refine pq (qa (iO (IntKind.i64.wrap n2))) ?_
 refine oE (eS (lS (lS (lO ?_))))
 refine pq (q_fieldP rfl fa86_0 rfl) ?_
 refine pq (ql (iO n1) 0 sz2) ?_
 by_cases c4 : n1 = 0
 replace h := ifT c4 h
 refine pq (qb (p_eql_tZ c4)) ?_
 refine pq (qm bt) ?_
 refine pq (qm (iO (IntKind.i64.wrap n2))) ?_
 by_cases c5 : (IntKind.i64.wrap n2) ≥ 0
 replace h := ifT c5 h
 refine pq (qb (p_geq_tZ c5)) ?_
 refine pq (qpt bt) ?_
 refine pq (qm bt) ?_
 iterate 7 refine os ?_
 refine pq (qpt bt) ?_
 refine oE (eS (cT rfl (lS (lO ?_))))
 refine pq (qm (iO (IntKind.i64.wrap n2))) ?_
 refine pq (qa (iO (IntKind.i64.wrap n2))) ?_
 refine pq (qa bt) ?_
 refine oE (eS (lR (eR ?_)))
 obtain rfl := sj h
 exact E_endF (.inr rfl) (res_tmp rfl (res_tmp rfl res_nil)) (vw_cons (vd_one vc_v) (vw_cons (vd_one vc_v) vw_nil)) oW rfl rfl
 replace h := ifF c5 h
 refine pq (qb (p_geq_fZ c5)) ?_
 refine pq (qpt bf) ?_
 refine pq (qm bf) ?_
 refine pq (q_fieldP rfl fa86_0 rfl) ?_
 refine pq (ql (iO n1) 0 sz2) ?_
 by_cases c6 : n1 = (-1)
 replace h := ifT c6 h
 refine pq (qb (p_eql_tZ c6)) ?_
 refine pq (qm bt) ?_
 refine pq (qm (iO (IntKind.i64.wrap n2))) ?_
 by_cases c7 : (IntKind.i64.wrap n2) < 0
 replace h := ifT c7 h
 refine pq (qb (p_lss_tZ c7)) ?_
 refine pq (qpt bt) ?_
 refine pq (qpf bt) ?_
 refine oE (eS (cT rfl (lS (lO ?_))))
 refine pq (qm (iO (IntKind.i64.wrap n2))) ?_
 refine pq (qa (iO (IntKind.i64.wrap n2))) ?_
 refine pq (qa bt) ?_
 refine oE (eS (lR (eR ?_)))
 obtain rfl := sj h
 exact E_endF (.inr rfl) (res_tmp rfl (res_tmp rfl res_nil)) (vw_cons (vd_one vc_v) (vw_cons (vd_one vc_v) vw_nil)) oW rfl rfl
 replace h := ifF c7 h
 refine pq (qb (p_lss_fZ c7)) ?_
 refine pq (qpt bf) ?_
 refine pq (qpf bf) ?_
 refine oE (eS (cF rfl (lK (eS (lS (lO ?_))))))
 refine pq (qa (iO 0)) ?_
 refine pq (qa bf) ?_
 refine oE (eS (lR ?_))
 obtain rfl := sj h
 exact E_endF (.inr rfl) (res_tmp rfl (res_tmp rfl res_nil)) (vw_cons (vd_one vc_v) (vw_cons (vd_one vc_v) vw_nil)) oW rfl rfl
 replace h := ifF c6 h
 refine pq (qb (p_eql_fZ c6)) ?_
 refine pq (qm bf) ?_
 iterate 2 refine os ?_
 refine pq (qpf bf) ?_
 refine pq (qpf bf) ?_
 refine oE (eS (cF rfl (lK (eS (lS (lO ?_))))))
 refine pq (qa (iO 0)) ?_
 refine pq (qa bf) ?_
 refine oE (eS (lR ?_))
 obtain rfl := sj h
 exact E_endF (.inr rfl) (res_tmp rfl (res_tmp rfl res_nil)) (vw_cons (vd_one vc_v) (vw_cons (vd_one vc_v) vw_nil)) oW rfl rfl
 replace h := ifF c4 h
 refine pq (qb (p_eql_fZ c4)) ?_
 refine pq (qm bf) ?_
 iterate 2 refine os ?_
 refine pq (qpf bf) ?_
 refine pq (qm bf) ?_
 refine pq (q_fieldP rfl fa86_0 rfl) ?_
 refine pq (ql (iO n1) 0 sz2) ?_
 by_cases c8 : n1 = (-1)
 replace h := ifT c8 h
 refine pq (qb (p_eql_tZ c8)) ?_
 refine pq (qm bt) ?_
 refine pq (qm (iO (IntKind.i64.wrap n2))) ?_
 by_cases c9 : (IntKind.i64.wrap n2) < 0
 replace h := ifT c9 h
 refine pq (qb (p_lss_tZ c9)) ?_
 refine pq (qpt bt) ?_
 refine pq (qpf bt) ?_
 refine oE (eS (cT rfl (lS (lO ?_))))
 refine pq (qm (iO (IntKind.i64.wrap n2))) ?_
 refine pq (qa (iO (IntKind.i64.wrap n2))) ?_
 refine pq (qa bt) ?_
 refine oE (eS (lR (eR ?_)))
 obtain rfl := sj h
 exact E_endF (.inr rfl) (res_tmp rfl (res_tmp rfl res_nil)) (vw_cons (vd_one vc_v) (vw_cons (vd_one vc_v) vw_nil)) oW rfl rfl
 replace h := ifF c9 h
 refine pq (qb (p_lss_fZ c9)) ?_
 refine pq (qpt bf) ?_
 refine pq (qpf bf) ?_
 refine oE (eS (cF rfl (lK (eS (lS (lO ?_))))))
 refine pq (qa (iO 0)) ?_
 refine pq (qa bf) ?_
 refine oE (eS (lR ?_))
 obtain rfl := sj h
 exact E_endF (.inr rfl) (res_tmp rfl (res_tmp rfl res_nil)) (vw_cons (vd_one vc_v) (vw_cons (vd_one vc_v) vw_nil)) oW rfl rfl
 replace h := ifF c8 h
 refine pq (qb (p_eql_fZ c8)) ?_
 refine pq (qm bf) ?_
 iterate 2 refine os ?_
 refine pq (qpf bf) ?_
 refine pq (qpf bf) ?_
 refine oE (eS (cF rfl (lK (eS (lS (lO ?_))))))
 refine pq (qa (iO 0)) ?_
 refine pq (qa bf) ?_
 refine oE (eS (lR ?_))
 obtain rfl := sj h
 exact E_endF (.inr rfl) (res_tmp rfl (res_tmp rfl res_nil)) (vw_cons (vd_one vc_v) (vw_cons (vd_one vc_v) vw_nil)) oW rfl rfl
noncomputable def ref05_Combine_b3 (n440 : Int) (a : (List (Int × Int × Int)) × (List (Int × Int)) × Int) : Option (((List (Int × Int × Int)) × (List (Int × Int)) × Int) ⊕ (((List (Int × Int × Int)) × (List (Int × Int))) ⊕ (((List (Int × Int × Int)) × (List (Int × Int)) × Int) ⊕ (((List (Int × Int × Int)) × (List (Int × Int))) ⊕ ((Sl (Int × Int × Int)) × Int))))) :=
 match a with
 | (l522, l523, n524) => (if n524 > n440 then ((atS 3 (mo 3 l522) (IntKind.i64.wrap (n524 - 1))).bind fun (n530, n531, n532) => ((atS 3 (mo 3 l522) n524).bind fun (n535, n536, n537) => ((atS 2 (mo 2 l523) (IntKind.i64.wrap (n524 - 1))).bind fun (n540, n541) => ((atS 2 (mo 2 l523) n524).bind fun (n544, n545) => some (.inl ((l522.set n524.toNat (n530, n531, n532)), (l523.set n524.toNat (n540, n541)), (IntKind.i64.wrap (n524 - 1)))))))) else some (.inr (.inl (l522, l523))))
noncomputable def ref05_Combine_b4 (n440 : Int) (a : (List (Int × Int × Int)) × (List (Int × Int)) × Int) : Option (((List (Int × Int × Int)) × (List (Int × Int)) × Int) ⊕ (((List (Int × Int × Int)) × (List (Int × Int))) ⊕ (((List (Int × Int × Int)) × (List (Int × Int)) × Int) ⊕ (((List (Int × Int × Int)) × (List (Int × Int))) ⊕ ((Sl (Int × Int × Int)) × Int))))) :=
 match a with
 | (l614, l615, n616) => (if n616 > n440 then ((atS 3 (mo 3 l614) (IntKind.i64.wrap (n616 - 1))).bind fun (n622, n623, n624) => ((atS 3 (mo 3 l614) n616).bind fun (n627, n628, n629) => ((atS 2 (mo 2 l615) (IntKind.i64.wrap (n616 - 1))).bind fun (n632, n633) => ((atS 2 (mo 2 l615) n616).bind fun (n636, n637) => some (.inl ((l614.set n616.toNat (n622, n623, n624)), (l615.set n616.toNat (n632, n633)), (IntKind.i64.wrap (n616 - 1)))))))) else some (.inr (.inl (l614, l615))))
noncomputable def ref05_Combine_b2 (s2 : Sl (Int × Int × Int)) (l393 : List (Int × Int × Int)) (n395 : Int) (n426 : Int) : Option (Int ⊕ (Int ⊕ (((List (Int × Int × Int)) × (List (Int × Int)) × Int) ⊕ (((List (Int × Int × Int)) × (List (Int × Int))) ⊕ ((Sl (Int × Int × Int)) × Int))))) :=
 (if n426 < ((l393.length : Nat) : Int) then ((atS 3 (mo 3 l393) n426).bind fun (n430, n431, n432) => ((atS 3 s2 n395).bind fun (n435, n436, n437) => ((ref05_below (n430, n431, n432) (n435, n436, n437)).bind fun b439 => (if b439 = true then some (.inl (IntKind.i64.wrap (n426 + 1))) else some (.inr (.inl n426)))))) else some (.inr (.inl n426)))
noncomputable def ref05_Combine_b5 (l658 : List (Int × Int)) (a : (List (Int × Int × Int)) × Int) : Option (((List (Int × Int × Int)) × Int) ⊕ ((List (Int × Int × Int)) ⊕ ((Sl (Int × Int × Int)) × Int))) :=
 match a with
 | (l690, n691) => (if n691 < ((l690.length : Nat) : Int) then ((atS 2 (mo 2 l658) n691).bind fun (n696, n697) => ((ref01_Narrow (n696, n697)).bind fun (n699, b700) => (if b700 = true then ((atS 3 (mo 3 l690) n691).bind fun (n703, n704, n705) => some (.inl ((l690.set n691.toNat (n703, n704, n699)), (IntKind.i64.wrap (n691 + 1))))) else some (.inr (.inr ((⟨false, 0, []⟩ : Sl (Int × Int × Int)), 12)))))) else some (.inr (.inl l690)))
noncomputable def ref05_Combine_b1 (n1 : Int) (s2 : Sl (Int × Int × Int)) (a : (List (Int × Int × Int)) × (List (Int × Int)) × Int) : Option (((List (Int × Int × Int)) × (List (Int × Int)) × Int) ⊕ (((List (Int × Int × Int)) × (List (Int × Int))) ⊕ ((Sl (Int × Int × Int)) × Int))) :=
 match a with
 | (l393, l394, n395) => (if n395 < ((s2.l.length : Nat) : Int) then ((loopO (ref05_Combine_b2 s2 l393 n395) 0).bind (Sum.elim (fun n440 => ((atS 3 s2 n395).bind fun (n443, n444, n445) => ((ref01_Of n445).bind fun (n447, n448) => (if n440 < ((l393.length : Nat) : Int) then ((atS 3 (mo 3 l393) n440).bind fun (n453, n454, n455) => ((ref05_below (n443, n444, n445) (n453, n454, n455)).bind fun b457 => (if b457 = true then ((app l393 ([(0, 0, 0)] : List (Int × Int × Int))).bind fun _ => ((app l394 ([(0, 0)] : List (Int × Int))).bind fun _ => ((loopO (ref05_Combine_b3 n440) ((l393 ++ ([(0, 0, 0)] : List (Int × Int × Int))), (l394 ++ ([(0, 0)] : List (Int × Int))), (IntKind.i64.wrap ((((l393 ++ ([(0, 0, 0)] : List (Int × Int × Int))).length : Nat) : Int) - 1)))).bind (Sum.elim (fun ⟨l546, l547⟩ => ((atS 3 (mo 3 l546) n440).bind fun (n558, n559, n560) => ((atS 2 (mo 2 l547) n440).bind fun (n563, n564) => some (.inl ((l546.set n440.toNat (n443, n444, 0)), (l547.set n440.toNat (n447, n448)), (IntKind.i64.wrap (n395 + 1))))))) (fun u => some u))))) else ((atS 2 (mo 2 l394) n440).bind fun (n468, n469) => ((ref02_Add n1 (n468, n469) (n447, n448)).bind fun (n471, n472) => some (.inl (l393, (l394.set n440.toNat (n471, n472)), (IntKind.i64.wrap (n395 + 1))))))))) else ((app l393 ([(0, 0, 0)] : List (Int × Int × Int))).bind fun _ => ((app l394 ([(0, 0)] : List (Int × Int))).bind fun _ => ((loopO (ref05_Combine_b4 n440) ((l393 ++ ([(0, 0, 0)] : List (Int × Int × Int))), (l394 ++ ([(0, 0)] : List (Int × Int))), (IntKind.i64.wrap ((((l393 ++ ([(0, 0, 0)] : List (Int × Int × Int))).length : Nat) : Int) - 1)))).bind (Sum.elim (fun ⟨l638, l639⟩ => ((atS 3 (mo 3 l638) n440).bind fun (n650, n651, n652) => ((atS 2 (mo 2 l639) n440).bind fun (n655, n656) => some (.inl ((l638.set n440.toNat (n443, n444, 0)), (l639.set n440.toNat (n447, n448)), (IntKind.i64.wrap (n395 + 1))))))) (fun u => some u))))))))) (fun u => some u))) else some (.inr (.inl (l393, l394))))
noncomputable def ref05_Combine (n1 : Int) (s2 : Sl (Int × Int × Int)) : Option ((Sl (Int × Int × Int)) × Int) :=
 ((ref02_Is n1).bind fun b4 => (if b4 = true then ((loopO (ref05_Combine_b1 n1 s2) (([] : List (Int × Int × Int)), ([] : List (Int × Int)), 0)).bind (Sum.elim (fun ⟨l657, l658⟩ => ((loopO (ref05_Combine_b5 l658) (l657, 0)).bind (Sum.elim (fun l706 => some ((mo 3 l706), 0)) (fun u => some u)))) (fun u => some u))) else some ((⟨false, 0, []⟩ : Sl (Int × Int × Int)), 8)))
theorem ref05_Combine_r (m : Nat) {n1 : Int} {s2 : Sl (Int × Int × Int)} {out : (Sl (Int × Int × Int)) × Int} (h : ref05_Combine n1 s2 = some out) : RunsP E1 (m + 3) 30 [.one (iT .i64 n1), .one (Sl.t r70 s2)] (.fresh, [.one (Sl.t r70 out.1), .one (iT .i64 out.2)]) := by
 refine fn_F rfl (by rw [E1_fn]; exact show fiOf Tryd.prog 30 = _ by unfold fiOf; rw [Tryd.func30]; unfold Tryd.f30; rfl) rfl ?_
 dsimp only
 unfold ref05_Combine at h
 refine lS (lO ?_)
 refine pq (qa (.one nC)) ?_
 refine pq (qa (iO 0)) ?_
 refine oE (eS (lS (lS (lO ?_))))
 refine pq (qm (iO n1)) ?_
 obtain ⟨b4, h3, h⟩ := bindS h
 refine pq (qc (bO b4) [iO n1] (ref02_Is_r (m + 1) h3) (vw_cons (vd_one vc_v) vw_nil)) ?_
 rcases b4 with _ | _
 replace h := wF h
 refine pq (q_not rfl) ?_
 refine oE (eS (cT rfl (lS (lO ?_))))
 refine pq (qa (.one nC)) ?_
 refine pq (qa (iO 8)) ?_
 refine oE (eS (lR (eR ?_)))
 obtain rfl := sj h
 exact E_endF (.inr rfl) (res_tmp rfl (res_tmp rfl res_nil)) (vw_cons (vd_one vc_s) (vw_cons (vd_one vc_v) vw_nil)) oW rfl rfl
 replace h := wT h
 refine pq (q_not rfl) ?_
 refine oE (eS (cF rfl (lK (eS (lS (lO ?_))))))
 refine pq (qa (.one nC)) ?_
 refine oN ?_
 refine pq (qa (.one nC)) ?_
 refine oE (eS (lS (lS (lO ?_))))
 refine pq (qa (iO 0)) ?_
 refine oE (eS (lB ?_))
 refine L_addM (α := Int × Int × Int) r70 3 ?_
 refine L_addM (α := Int × Int) r85 2 ?_
 let S1 : ((List (Int × Int × Int)) × (List (Int × Int)) × Int) → (Nat × Nat) → (Nat → D) → Nat → D := fun a kt g => ups g [(0, iO n1), (1, .one (sF r70 s2)), (6, .one (moC a.1 kt.1)), (7, .one (moC a.2.1 kt.2)), (8, .one (iI a.2.2))]
 let SL1 : ((List (Int × Int × Int)) × (List (Int × Int)) × Int) → (Nat × Nat) → BL := fun a kt => ([moL r70 3 a.1 kt.1, moL r85 2 a.2.1 kt.2] : BL)
 let G1 : ((Sl (Int × Int × Int)) × Int) → Ex → St → Prop := fun u => endQ E1 [.tmp 4, .tmp 5] (.fresh, [.one (Sl.t r70 u.1), .one (iT .i64 u.2)])
 let Sx1 : ((List (Int × Int × Int)) × (List (Int × Int))) → (Nat × Nat) → (Nat → D) → Nat → D := fun a kt g => ups g [(6, .one (moC a.1 kt.1)), (7, .one (moC a.2 kt.2))]
 let SLx1 : ((List (Int × Int × Int)) × (List (Int × Int))) → (Nat × Nat) → BL := fun a kt => ([moL r70 3 a.1 kt.1, moL r85 2 a.2 kt.2] : BL)
 let J1 : (((List (Int × Int × Int)) × (List (Int × Int))) ⊕ ((Sl (Int × Int × Int)) × Int)) → Ex → St → Prop := JX 145 0 Sx1 SLx1 G1
 refine L_loopS (ref05_Combine_b1 n1 s2) S1 SL1 J1 JX_n (([] : List (Int × Int × Int)), ([] : List (Int × Int)), 0) h (1390, 1391) (ups_self ⟨rfl, rfl, rfl, rfl, rfl, trivial⟩) [1, 0] (by decide) rfl ?_ ?_
 rintro ⟨l393, l394, n395⟩ ⟨k396, k397⟩ g out h
 change ref05_Combine_b1 n1 s2 (l393, l394, n395) = some out at h
 unfold ref05_Combine_b1 at h
 refine lS (lS (lO ?_))
 refine pq (qm (iO n395)) ?_
 refine pq (qm (.one (sF r70 s2))) ?_
 refine pq (q_lenS rfl ty69 rfl rfl rfl rfl) ?_
 by_cases c398 : n395 < ((s2.l.length : Nat) : Int)
 replace h := ifT c398 h
 refine pq (qb (p_lss_tZ c398)) ?_
 refine oE (eS (cT rfl (lK (eS (lS (lB (lS (lO ?_))))))))
 refine pq (qa (iO 0)) ?_
 refine oE (eS (lS (lB ?_)))
 let S2 : Int → Unit → (Nat → D) → Nat → D := fun a kt g => ups g [(0, iO n1), (1, .one (sF r70 s2)), (6, .one (moC l393 k396)), (7, .one (moC l394 k397)), (8, iO n395), (9, iO a)]
 let SL2 : Int → Unit → BL := fun a kt => ([moL r70 3 l393 k396, moL r85 2 l394 k397] : BL)
 let G2 : (((List (Int × Int × Int)) × (List (Int × Int)) × Int) ⊕ (((List (Int × Int × Int)) × (List (Int × Int))) ⊕ ((Sl (Int × Int × Int)) × Int))) → Ex → St → Prop := LQ 145 S1 SL1 J1
 let Sx2 : Int → Unit → (Nat → D) → Nat → D := fun a kt g => ups g [(0, iO n1), (1, .one (sF r70 s2)), (6, .one (moC l393 k396)), (7, .one (moC l394 k397)), (8, iO n395), (9, iO a)]
 let SLx2 : Int → Unit → BL := fun a kt => ([moL r70 3 l393 k396, moL r85 2 l394 k397] : BL)
 let J2 : (Int ⊕ (((List (Int × Int × Int)) × (List (Int × Int)) × Int) ⊕ (((List (Int × Int × Int)) × (List (Int × Int))) ⊕ ((Sl (Int × Int × Int)) × Int)))) → Ex → St → Prop := JX 145 2 Sx2 SLx2 G2
 refine L_loopS (ref05_Combine_b2 s2 l393 n395) S2 SL2 J2 JX_n 0 h () (ups_self ⟨rfl, rfl, rfl, rfl, rfl, rfl, trivial⟩) [0, 1] (by decide) rfl ?_ ?_
 rintro n426 _ g out h
 change ref05_Combine_b2 s2 l393 n395 n426 = some out at h
 unfold ref05_Combine_b2 at h
 refine lS (lS ?_)
 refine L_still (by kernel_rfl) ?_
 refine sq (qm (iO n426)) ?_
 refine sq (qm (.one (moC l393 k396))) ?_
 refine sq (q_lenM (l := l393) rfl ty69 rfl rfl rfl rfl) ?_
 by_cases c427 : n426 < ((l393.length : Nat) : Int)
 replace h := ifT c427 h
 refine sq (qb (p_lss_tZ c427)) ?_
 refine sq (qm bt) ?_
 refine sq (qm (.one (moC l393 k396))) ?_
 refine sq (qm (iO n426)) ?_
 obtain ⟨⟨n430, n431, n432⟩, h429, h⟩ := bindS h
 obtain ⟨h429a, h429⟩ := atM_some h429
 refine sq (q_ixM (r := r70) 0 rfl rfl h429a h429 rfl el69) ?_
 refine sq (q_loadP (v := .agg [iI n430, iI n431, iI n432]) 0 rfl sz71 (segM (r := r70) rfl h429) (map_get h429) rfl rfl) ?_
 refine sq (qm (.one (sF r70 s2))) ?_
 refine sq (qm (iO n395)) ?_
 obtain ⟨⟨n435, n436, n437⟩, h434, h⟩ := bindS h
 obtain ⟨h434a, h434b, h434⟩ := atS_some h434
 refine sq (q_ixS rfl rfl h434a h434 (el69.trans (congrArg some h434b.symm))) ?_
 refine sq (q_loadI (v := .agg [iI n435, iI n436, iI n437]) rfl sz71 (map_get h434) rfl rfl) ?_
 obtain ⟨b439, h438, h⟩ := bindS h
 refine sq (qc (bO b439) [.agg [iI n430, iI n431, iI n432], .agg [iI n435, iI n436, iI n437]] (ref05_below_r (m + 1) h438) (vw_cons (vd_agg (vc_cons vc_v (vc_cons vc_v (vc_cons vc_v vc_nil)))) (vw_cons (vd_agg (vc_cons vc_v (vc_cons vc_v (vc_cons vc_v vc_nil)))) vw_nil))) ?_
 refine sq (qpt (bO b439)) ?_
 refine st_end (eS ?_)
 rcases b439 with _ | _
 replace h := wF h
 refine cF rfl (L_exit ?_)
 refine E_seqX ?_
 obtain rfl := sj h
 refine E_out ?_
 exact (E_exit () (ups_self ⟨rfl, rfl, rfl, rfl, rfl, rfl, trivial⟩) [0, 1] (by decide) rfl)
 replace h := wT h
 refine cT rfl (lK (eS (lB (lO ?_))))
 refine pq (qm (iO n426)) ?_
 refine pq (qb p_addY) ?_
 refine pq (qa (iO (IntKind.i64.wrap (n426 + 1)))) ?_
 refine oE (bN ?_)
 obtain rfl := sj h
 exact E_next () (ups_self ⟨rfl, rfl, rfl, rfl, rfl, rfl, trivial⟩) [0, 1] (by decide) rfl
 replace h := ifF c427 h
 refine sq (qb (p_lss_fZ c427)) ?_
 refine sq (qm bf) ?_
 iterate 9 refine ss ?_
 refine sq (qpf bf) ?_
 refine st_end (eS (cF rfl (L_exit ?_)))
 refine E_seqX ?_
 obtain rfl := sj h
 refine E_out ?_
 exact (E_exit () (ups_self ⟨rfl, rfl, rfl, rfl, rfl, rfl, trivial⟩) [0, 1] (by decide) rfl)
 rintro (n440 | u) h
 refine J_x (fun kt g => ?_)
 replace h := elimL h
 refine bH (eS (lS (lO ?_)))
 refine pq (qm (.one (sF r70 s2))) ?_
 refine pq (qm (iO n395)) ?_
 obtain ⟨⟨n443, n444, n445⟩, h442, h⟩ := bindS h
 obtain ⟨h442a, h442b, h442⟩ := atS_some h442
 refine pq (q_ixS rfl rfl h442a h442 (el69.trans (congrArg some h442b.symm))) ?_
 refine pq (q_fieldI rfl fa71_2 rfl) ?_
 refine pq (q_loadI (v := iO n445) rfl sz2 (map_get h442) rfl rfl) ?_
 obtain ⟨⟨n447, n448⟩, h446, h⟩ := bindS h
 refine pq (qc (.agg [iI n447, uI n448]) [iO n445] (ref01_Of_r (m + 1) h446) (vw_cons (vd_one vc_v) vw_nil)) ?_
 refine ol_new rfl rfl rfl (q_alloc ty86 (row := [iI 0, uI 0]) rfl rfl) (fun k449 => ?_)
 refine ow [[iI n447, uI n448]] 0 sz86 ?_
 refine oE (eS (lS (lS ?_)))
 refine L_still (by kernel_rfl) ?_
 refine sq (qm (iO n440)) ?_
 refine sq (qm (.one (moC l393 k396))) ?_
 refine sq (q_lenM (l := l393) rfl ty69 rfl rfl rfl rfl) ?_
 by_cases c450 : n440 < ((l393.length : Nat) : Int)
 replace h := ifT c450 h
 refine sq (qb (p_lss_tZ c450)) ?_
 refine sq (qm bt) ?_
 refine sq (qm (.one (sF r70 s2))) ?_
 refine sq (qm (iO n395)) ?_
 refine sq (q_ixS rfl rfl h442a h442 (el69.trans (congrArg some h442b.symm))) ?_
 refine sq (q_loadI (v := .agg [iI n443, iI n444, iI n445]) rfl sz71 (map_get h442) rfl rfl) ?_
 refine sq (qm (.one (moC l393 k396))) ?_
 refine sq (qm (iO n440)) ?_
 obtain ⟨⟨n453, n454, n455⟩, h452, h⟩ := bindS h
 obtain ⟨h452a, h452⟩ := atM_some h452
 refine sq (q_ixM (r := r70) 1 rfl rfl h452a h452 rfl el69) ?_
 refine sq (q_loadP (v := .agg [iI n453, iI n454, iI n455]) 1 rfl sz71 (segM (r := r70) rfl h452) (map_get h452) rfl rfl) ?_
 obtain ⟨b457, h456, h⟩ := bindS h
 refine sq (qc (bO b457) [.agg [iI n443, iI n444, iI n445], .agg [iI n453, iI n454, iI n455]] (ref05_below_r (m + 1) h456) (vw_cons (vd_agg (vc_cons vc_v (vc_cons vc_v (vc_cons vc_v vc_nil)))) (vw_cons (vd_agg (vc_cons vc_v (vc_cons vc_v (vc_cons vc_v vc_nil)))) vw_nil))) ?_
 rcases b457 with _ | _
 replace h := wF h
 refine sq (q_not rfl) ?_
 refine sq (qpt bt) ?_
 refine st_end (eS (cT rfl (lS ?_)))
 refine L_norm (L2 := ([[(k449, 2, [[iI n447, uI n448]])], moL r70 3 l393 k396, moL r85 2 l394 k397] : BL)) [0, 1, 2] (by decide) rfl ?_
 refine L_turn 11 rfl [[], [], [], [], [], [], [], [], [], [], moK l394 k397] [(false, []), (false, []), (false, []), (false, []), (false, []), (false, []), (false, []), (false, []), (false, []), (false, []), (false, [])] [[1, 2, 3, 4, 5, 6, 7, 8], [0, 2, 3, 4, 5, 6, 7, 8], [0, 1, 3, 4, 5, 6, 7], [0, 1, 2, 4, 7], [0, 1, 2, 3, 7], [0, 1, 2, 7], [0, 1, 2, 7], [0, 1, 2, 3, 4, 5, 6], [0, 1], [], []] (by kernel_rfl) (by kernel_rfl) (by kernel_rfl) ?_ (fun bb458 hlt hnd => ?_)
 intro bb458 hlt hnd
 have e_k449 : k449 < bb458 := key_lt hlt 0 rfl
 have e_k396 : l393 = [] ∨ k396 < bb458 := key_ltM (r := r70) (w := 3) hlt 1 rfl
 have e_k397 : l394 = [] ∨ k397 < bb458 := key_ltM (r := r85) (w := 2) hlt 2 rfl
 have f_k397 := moK_lt e_k397
 have d_k397_k449 : k449 ∉ moK l394 k397 := key_neM (r := r85) (w := 2) hnd 2 0 rfl rfl rfl
 have g_k397_k449 := moK_ne d_k397_k449
 exact ⟨(by first | (simp [DJ]; done) | (simp [DJ]; omega) | (simp [DJ]; assumption) | (simp_all [DJ]; done) | (simp_all [DJ]; omega)), (by first | (simp [DJ]; done) | (simp [DJ]; omega) | (simp [DJ]; assumption) | (simp_all [DJ]; done) | (simp_all [DJ]; omega))⟩
 have e_k449 : k449 < bb458 := key_lt hlt 0 rfl
 have e_k396 : l393 = [] ∨ k396 < bb458 := key_ltM (r := r70) (w := 3) hlt 1 rfl
 have e_k397 : l394 = [] ∨ k397 < bb458 := key_ltM (r := r85) (w := 2) hlt 2 rfl
 have f_k397 := moK_lt e_k397
 have d_k397_k449 : k449 ∉ moK l394 k397 := key_neM (r := r85) (w := 2) hnd 2 0 rfl rfl rfl
 have g_k397_k449 := moK_ne d_k397_k449
 refine tq [] rfl (hm0 rfl) (qm (.one (moC l394 k397))) ?_
 refine tq [] rfl (hm0 rfl) (qm (iO n440)) ?_
 refine tq [] rfl (hm0 rfl) (qm (iO n1)) ?_
 refine tq [] rfl (hm0 rfl) (qm (.one (moC l394 k397))) ?_
 refine tq [] rfl (hm0 rfl) (qm (iO n440)) ?_
 obtain ⟨⟨n468, n469⟩, h467, h⟩ := bindS h
 obtain ⟨h467a, h467⟩ := atM_some h467
 refine tq [2] rfl (hm0 rfl) (q_ixM (r := r85) 0 rfl rfl h467a h467 rfl el83) ?_
 refine tq [2] rfl (hm0 rfl) (q_loadP (v := .agg [iI n468, uI n469]) 0 rfl sz86 (segM (r := r85) rfl h467) (map_get h467) rfl rfl) ?_
 refine tq [0] rfl (hm0 rfl) (ql (.agg [iI n447, uI n448]) 0 sz86) ?_
 obtain ⟨⟨n471, n472⟩, h470, h⟩ := bindS h
 refine tq [] rfl (hm0 rfl) (qc (.agg [iI n471, uI n472]) [iO n1, .agg [iI n468, uI n469], .agg [iI n447, uI n448]] (ref02_Add_r (m + 0) h470) (vw_cons (vd_one vc_v) (vw_cons (vd_agg (vc_cons vc_v (vc_cons vc_v vc_nil))) (vw_cons (vd_agg (vc_cons vc_v (vc_cons vc_v vc_nil))) vw_nil)))) ?_
 refine tq [2] rfl (hm0 rfl) (q_ixM (r := r85) 0 rfl rfl h467a h467 rfl el83) ?_
 refine tn_wr rfl rfl [2] (by decide) rfl (hm0 rfl) (huM h467 rfl) (q_store (e' := rowC r85 (n471, n472)) (es' := ((l394.set n440.toNat (n471, n472))).map (rowC r85)) 0 rfl rfl rfl sz86 rfl (segM (r := r85) rfl h467) (map_get h467) rfl map_set) (q := 2) (segM (r := r85) rfl h467) (congrArg (fun z => List.set _ 2 z) (setM (r := r85) h467)) ?_
 refine tn_re 7 (v := .one (moC (l394.set n440.toNat (n471, n472)) k397)) (Eq.trans (b := .one (moC l394 k397)) rfl (congrArg D.one moC_set)) ?_
 refine tn_re 63 (v := .one (moC (l394.set n440.toNat (n471, n472)) k397)) (Eq.trans (b := .one (moC l394 k397)) rfl (congrArg D.one moC_set)) ?_
 refine tn_re 66 (v := .one (moC (l394.set n440.toNat (n471, n472)) k397)) (Eq.trans (b := .one (moC l394 k397)) rfl (congrArg D.one moC_set)) ?_
 refine tn_end (eS (L_exit ?_))
 refine E_seqX ?_
 refine bH (eS (lO ?_))
 refine pq (qm (iO n395)) ?_
 refine pq (qb p_addY) ?_
 refine pq (qa (iO (IntKind.i64.wrap (n395 + 1)))) ?_
 refine oE ?_
 obtain rfl := sj h
 exact E_next (k396, k397) (ups_self ⟨rfl, rfl, rfl, rfl, rfl, trivial⟩) [1, 2] (by decide) rfl
 replace h := wT h
 refine sq (q_not rfl) ?_
 refine sq (qpt bf) ?_
 refine st_end (eS (cF rfl (lK (eS (lS (lO ?_))))))
 refine pq (qm (.one (moC l393 k396))) ?_
 refine pq (q_build (cs := [iI 0, iI 0, iI 0]) ty71 rfl pl71 rfl) ?_
 refine ol_new rfl rfl rfl (q_bslice (cs := [iI 0, iI 0, iI 0]) (es := (([(0, 0, 0)] : List (Int × Int × Int))).map (rowC r70)) ty69 rfl ty71 rfl rfl rfl rfl rfl) (fun k473 => ?_)
 obtain ⟨_, h474, h⟩ := bindS h
 obtain ⟨h474b, rfl⟩ := app_some h474
 refine ol_appM (r := r70) (l := l393) (ys := ([(0, 0, 0)] : List (Int × Int × Int))) 2 rfl rfl rfl rfl rfl rfl (el_ownM (l := ([(0, 0, 0)] : List (Int × Int × Int))) 0 rfl) rfl h474 (fun y => rfl) el69 ty69 rfl rfl rfl rfl rfl (fun k475 => ?_)
 refine pq (qa (.one (moC (l393 ++ ([(0, 0, 0)] : List (Int × Int × Int))) k475))) ?_
 refine oN ?_
 refine pq (qm (.one (moC l394 k397))) ?_
 refine pq (q_build (cs := [iI 0, uI 0]) ty86 rfl pl86 rfl) ?_
 refine ol_new rfl rfl rfl (q_bslice (cs := [iI 0, uI 0]) (es := (([(0, 0)] : List (Int × Int))).map (rowC r85)) ty83 rfl ty86 rfl rfl rfl rfl rfl) (fun k476 => ?_)
 obtain ⟨_, h477, h⟩ := bindS h
 obtain ⟨h477b, rfl⟩ := app_some h477
 refine ol_appM (r := r85) (l := l394) (ys := ([(0, 0)] : List (Int × Int))) 4 rfl rfl rfl rfl rfl rfl (el_ownM (l := ([(0, 0)] : List (Int × Int))) 0 rfl) rfl h477 (fun y => rfl) el83 ty83 rfl rfl rfl rfl rfl (fun k478 => ?_)
 refine pq (qa (.one (moC (l394 ++ ([(0, 0)] : List (Int × Int))) k478))) ?_
 refine oE (eS (lS (lS (lO ?_))))
 refine pq (qm (.one (moC (l393 ++ ([(0, 0, 0)] : List (Int × Int × Int))) k475))) ?_
 refine pq (q_lenM (l := (l393 ++ ([(0, 0, 0)] : List (Int × Int × Int)))) rfl ty69 rfl rfl rfl rfl) ?_
 refine pq (qb p_subY) ?_
 refine pq (qa (.one (iI (IntKind.i64.wrap ((((l393 ++ ([(0, 0, 0)] : List (Int × Int × Int))).length : Nat) : Int) - 1))))) ?_
 refine oE (eS (lB ?_))
 let S3 : ((List (Int × Int × Int)) × (List (Int × Int)) × Int) → (Nat × Nat) → (Nat → D) → Nat → D := fun a kt g => ups g [(0, iO n1), (1, .one (sF r70 s2)), (6, .one (moC a.1 kt.1)), (7, .one (moC a.2.1 kt.2)), (8, iO n395), (9, iO n440), (10, .one (.ptr k449 0 0)), (11, .one (iI a.2.2)), (52, .one (sF r70 s2)), (53, iO n395), (55, .agg [iI n443, iI n444, iI n445]), (57, iO n440), (59, .agg [iI n453, iI n454, iI n455]), (60, bt), (61, bf)]
 let SL3 : ((List (Int × Int × Int)) × (List (Int × Int)) × Int) → (Nat × Nat) → BL := fun a kt => ([[(k449, 2, [[iI n447, uI n448]])], moL r70 3 a.1 kt.1, moL r85 2 a.2.1 kt.2] : BL)
 let G3 : (((List (Int × Int × Int)) × (List (Int × Int)) × Int) ⊕ (((List (Int × Int × Int)) × (List (Int × Int))) ⊕ ((Sl (Int × Int × Int)) × Int))) → Ex → St → Prop := LQ 145 S1 SL1 J1
 let Sx3 : ((List (Int × Int × Int)) × (List (Int × Int))) → (Nat × Nat) → (Nat → D) → Nat → D := fun a kt g => ups g [(0, iO n1), (1, .one (sF r70 s2)), (6, .one (moC a.1 kt.1)), (7, .one (moC a.2 kt.2)), (8, iO n395), (9, iO n440), (10, .one (.ptr k449 0 0)), (52, .one (sF r70 s2)), (53, iO n395), (55, .agg [iI n443, iI n444, iI n445]), (57, iO n440), (59, .agg [iI n453, iI n454, iI n455]), (60, bt), (61, bf)]
 let SLx3 : ((List (Int × Int × Int)) × (List (Int × Int))) → (Nat × Nat) → BL := fun a kt => ([[(k449, 2, [[iI n447, uI n448]])], moL r70 3 a.1 kt.1, moL r85 2 a.2 kt.2] : BL)
 let J3 : (((List (Int × Int × Int)) × (List (Int × Int))) ⊕ (((List (Int × Int × Int)) × (List (Int × Int)) × Int) ⊕ (((List (Int × Int × Int)) × (List (Int × Int))) ⊕ ((Sl (Int × Int × Int)) × Int)))) → Ex → St → Prop := JX 145 4 Sx3 SLx3 G3
 refine L_loopS (ref05_Combine_b3 n440) S3 SL3 J3 JX_n ((l393 ++ ([(0, 0, 0)] : List (Int × Int × Int))), (l394 ++ ([(0, 0)] : List (Int × Int))), (IntKind.i64.wrap ((((l393 ++ ([(0, 0, 0)] : List (Int × Int × Int))).length : Nat) : Int) - 1))) h (k475, k478) (ups_self ⟨rfl, rfl, rfl, rfl, rfl, rfl, rfl, rfl, rfl, rfl, rfl, rfl, rfl, rfl, rfl, trivial⟩) [4, 2, 0] (by decide) rfl ?_ ?_
 rintro ⟨l522, l523, n524⟩ ⟨k525, k526⟩ g out h
 change ref05_Combine_b3 n440 (l522, l523, n524) = some out at h
 unfold ref05_Combine_b3 at h
 refine lS (lS (lO ?_))
 refine pq (qm (iO n524)) ?_
 refine pq (qm (iO n440)) ?_
 by_cases c527 : n524 > n440
 replace h := ifT c527 h
 refine pq (qb (p_gtr_tZ c527)) ?_
 refine oE (eS (cT rfl (lK (eS (lS (lB (lS (lO ?_))))))))
 refine pq (qm (.one (moC l522 k525))) ?_
 refine pq (qm (iO n524)) ?_
 refine pq (qm (.one (moC l522 k525))) ?_
 refine pq (qm (iO n524)) ?_
 refine pq (qb p_subY) ?_
 obtain ⟨⟨n530, n531, n532⟩, h529, h⟩ := bindS h
 obtain ⟨h529a, h529⟩ := atM_some h529
 refine pq (q_ixM (r := r70) 1 rfl rfl h529a h529 rfl el69) ?_
 refine pq (q_loadP (v := .agg [iI n530, iI n531, iI n532]) 1 rfl sz71 (segM (r := r70) rfl h529) (map_get h529) rfl rfl) ?_
 obtain ⟨⟨n535, n536, n537⟩, h534, h⟩ := bindS h
 obtain ⟨h534a, h534⟩ := atM_some h534
 refine pq (q_ixM (r := r70) 1 rfl rfl h534a h534 rfl el69) ?_
 refine ol_wr rfl rfl (q_store (e' := rowC r70 (n530, n531, n532)) (es' := ((l522.set n524.toNat (n530, n531, n532))).map (rowC r70)) 1 rfl rfl rfl sz71 rfl (segM (r := r70) rfl h534) (map_get h534) rfl map_set) (congrArg (fun z => List.set _ 1 z) (setM (r := r70) h534)) ?_
 refine ol_re 6 (v := .one (moC (l522.set n524.toNat (n530, n531, n532)) k525)) (Eq.trans (b := .one (moC l522 k525)) rfl (congrArg D.one moC_set)) ?_
 refine ol_re 89 (v := .one (moC (l522.set n524.toNat (n530, n531, n532)) k525)) (Eq.trans (b := .one (moC l522 k525)) rfl (congrArg D.one moC_set)) ?_
 refine ol_re 91 (v := .one (moC (l522.set n524.toNat (n530, n531, n532)) k525)) (Eq.trans (b := .one (moC l522 k525)) rfl (congrArg D.one moC_set)) ?_
 refine oR ?_
 refine pq (qm (.one (moC l523 k526))) ?_
 refine pq (qm (iO n524)) ?_
 refine pq (qm (.one (moC l523 k526))) ?_
 refine pq (qm (iO n524)) ?_
 refine pq (qb p_subY) ?_
 obtain ⟨⟨n540, n541⟩, h539, h⟩ := bindS h
 obtain ⟨h539a, h539⟩ := atM_some h539
 refine pq (q_ixM (r := r85) 2 rfl rfl h539a h539 rfl el83) ?_
 refine pq (q_loadP (v := .agg [iI n540, uI n541]) 2 rfl sz86 (segM (r := r85) rfl h539) (map_get h539) rfl rfl) ?_
 obtain ⟨⟨n544, n545⟩, h543, h⟩ := bindS h
 obtain ⟨h543a, h543⟩ := atM_some h543
 refine pq (q_ixM (r := r85) 2 rfl rfl h543a h543 rfl el83) ?_
 refine ol_wr rfl rfl (q_store (e' := rowC r85 (n540, n541)) (es' := ((l523.set n524.toNat (n540, n541))).map (rowC r85)) 2 rfl rfl rfl sz86 rfl (segM (r := r85) rfl h543) (map_get h543) rfl map_set) (congrArg (fun z => List.set _ 2 z) (setM (r := r85) h543)) ?_
 refine ol_re 7 (v := .one (moC (l523.set n524.toNat (n540, n541)) k526)) (Eq.trans (b := .one (moC l523 k526)) rfl (congrArg D.one moC_set)) ?_
 refine ol_re 97 (v := .one (moC (l523.set n524.toNat (n540, n541)) k526)) (Eq.trans (b := .one (moC l523 k526)) rfl (congrArg D.one moC_set)) ?_
 refine ol_re 99 (v := .one (moC (l523.set n524.toNat (n540, n541)) k526)) (Eq.trans (b := .one (moC l523 k526)) rfl (congrArg D.one moC_set)) ?_
 refine oE (bN (eS (lO ?_)))
 refine pq (qm (iO n524)) ?_
 refine pq (qb p_subY) ?_
 refine pq (qa (iO (IntKind.i64.wrap (n524 - 1)))) ?_
 refine oE ?_
 obtain rfl := sj h
 exact E_next (k525, k526) (ups_self ⟨rfl, rfl, rfl, rfl, rfl, rfl, rfl, rfl, rfl, rfl, rfl, rfl, rfl, rfl, rfl, trivial⟩) [0, 1, 2] (by decide) rfl
 replace h := ifF c527 h
 refine pq (qb (p_gtr_fZ c527)) ?_
 refine oE (eS (cF rfl (L_exit ?_)))
 refine E_seqX ?_
 obtain rfl := sj h
 refine E_out ?_
 exact (E_exit (k525, k526) (ups_self ⟨rfl, rfl, rfl, rfl, rfl, rfl, rfl, rfl, rfl, rfl, rfl, rfl, rfl, rfl, trivial⟩) [0, 1, 2] (by decide) rfl)
 rintro (⟨l546, l547⟩ | u) h
 refine J_x (fun kt g => ?_)
 rcases kt with ⟨k548, k549⟩
 replace h := elimL h
 refine bH (eS (lS ?_))
 refine L_norm (L2 := ([[(k449, 2, [[iI n447, uI n448]])], moL r70 3 l546 k548, moL r85 2 l547 k549] : BL)) [0, 1, 2] (by decide) rfl ?_
 refine L_turn 15 rfl [[], [], [], [], [], [], [], [], [], [], [], [], [], [], moK l546 k548] [(false, []), (false, []), (false, []), (false, []), (false, []), (false, []), (false, []), (false, []), (false, []), (false, []), (false, []), (false, []), (false, []), (false, []), (false, [])] [[1, 2, 3, 4, 5, 6, 7, 8, 9, 10, 11, 12], [0, 2, 3, 4, 5, 6, 7, 8, 9, 10, 11, 12], [0, 1, 3, 7, 8, 9, 10, 11], [0, 1, 2, 7, 8, 9, 10, 11], [0, 1, 7, 8, 9, 10, 11], [0, 1, 7, 8, 9, 10, 11], [0, 1, 7, 8, 9, 10, 11], [0, 1, 2, 3, 4, 5, 6, 8], [0, 1, 2, 3, 4, 5, 6, 7], [0, 1, 2, 3, 4, 5, 6], [0, 1, 2, 3, 4, 5, 6], [0, 1, 2, 3, 4, 5, 6], [0, 1], [], []] (by kernel_rfl) (by kernel_rfl) (by kernel_rfl) ?_ (fun bb550 hlt hnd => ?_)
 intro bb550 hlt hnd
 have e_k449 : k449 < bb550 := key_lt hlt 0 rfl
 have e_k548 : l546 = [] ∨ k548 < bb550 := key_ltM (r := r70) (w := 3) hlt 1 rfl
 have f_k548 := moK_lt e_k548
 have e_k549 : l547 = [] ∨ k549 < bb550 := key_ltM (r := r85) (w := 2) hlt 2 rfl
 have d_k548_k449 : k449 ∉ moK l546 k548 := key_neM (r := r70) (w := 3) hnd 1 0 rfl rfl rfl
 have g_k548_k449 := moK_ne d_k548_k449
 exact ⟨(by first | (simp [DJ]; done) | (simp [DJ]; omega) | (simp [DJ]; assumption) | (simp_all [DJ]; done) | (simp_all [DJ]; omega)), (by first | (simp [DJ]; done) | (simp [DJ]; omega) | (simp [DJ]; assumption) | (simp_all [DJ]; done) | (simp_all [DJ]; omega))⟩
 have e_k449 : k449 < bb550 := key_lt hlt 0 rfl
 have e_k548 : l546 = [] ∨ k548 < bb550 := key_ltM (r := r70) (w := 3) hlt 1 rfl
 have f_k548 := moK_lt e_k548
 have e_k549 : l547 = [] ∨ k549 < bb550 := key_ltM (r := r85) (w := 2) hlt 2 rfl
 have d_k548_k449 : k449 ∉ moK l546 k548 := key_neM (r := r70) (w := 3) hnd 1 0 rfl rfl rfl
 have g_k548_k449 := moK_ne d_k548_k449
 refine tq [] rfl (hm0 rfl) (qm (.one (moC l546 k548))) ?_
 refine tq [] rfl (hm0 rfl) (qm (iO n440)) ?_
 refine tq [] rfl (hm0 rfl) (qm (.one (sF r70 s2))) ?_
 refine tq [] rfl (hm0 rfl) (qm (iO n395)) ?_
 refine tq [] rfl (hm0 rfl) (q_ixS rfl rfl h442a h442 (el69.trans (congrArg some h442b.symm))) ?_
 refine tq [] rfl (hm0 rfl) (q_fieldI rfl fa71_0 rfl) ?_
 refine tq [] rfl (hm0 rfl) (q_loadI (v := iO n443) rfl sz3 (map_get h442) rfl rfl) ?_
 refine tq [] rfl (hm0 rfl) (qm (.one (sF r70 s2))) ?_
 refine tq [] rfl (hm0 rfl) (qm (iO n395)) ?_
 refine tq [] rfl (hm0 rfl) (q_ixS rfl rfl h442a h442 (el69.trans (congrArg some h442b.symm))) ?_
 refine tq [] rfl (hm0 rfl) (q_fieldI rfl fa71_1 rfl) ?_
 refine tq [] rfl (hm0 rfl) (q_loadI (v := iO n444) rfl sz3 (map_get h442) rfl rfl) ?_
 refine tq [] rfl (hm0 rfl) (q_build (cs := [iI n443, iI n444, iI 0]) ty71 rfl pl71 rfl) ?_
 obtain ⟨⟨n558, n559, n560⟩, h557, h⟩ := bindS h
 obtain ⟨h557a, h557⟩ := atM_some h557
 refine tq [1] rfl (hm0 rfl) (q_ixM (r := r70) 0 rfl rfl h557a h557 rfl el69) ?_
 refine tn_wr rfl rfl [1] (by decide) rfl (hm0 rfl) (huM h557 rfl) (q_store (e' := rowC r70 (n443, n444, 0)) (es' := ((l546.set n440.toNat (n443, n444, 0))).map (rowC r70)) 0 rfl rfl rfl sz71 rfl (segM (r := r70) rfl h557) (map_get h557) rfl map_set) (q := 1) (segM (r := r70) rfl h557) (congrArg (fun z => List.set _ 1 z) (setM (r := r70) h557)) ?_
 refine tn_re 6 (v := .one (moC (l546.set n440.toNat (n443, n444, 0)) k548)) (Eq.trans (b := .one (moC l546 k548)) rfl (congrArg D.one moC_set)) ?_
 refine tn_re 105 (v := .one (moC (l546.set n440.toNat (n443, n444, 0)) k548)) (Eq.trans (b := .one (moC l546 k548)) rfl (congrArg D.one moC_set)) ?_
 refine tn_end (eS (lO ?_))
 refine pq (qm (.one (moC l547 k549))) ?_
 refine pq (qm (iO n440)) ?_
 refine pq (ql (.agg [iI n447, uI n448]) 0 sz86) ?_
 obtain ⟨⟨n563, n564⟩, h562, h⟩ := bindS h
 obtain ⟨h562a, h562⟩ := atM_some h562
 refine pq (q_ixM (r := r85) 2 rfl rfl h562a h562 rfl el83) ?_
 refine ol_wr rfl rfl (q_store (e' := rowC r85 (n447, n448)) (es' := ((l547.set n440.toNat (n447, n448))).map (rowC r85)) 2 rfl rfl rfl sz86 rfl (segM (r := r85) rfl h562) (map_get h562) rfl map_set) (congrArg (fun z => List.set _ 2 z) (setM (r := r85) h562)) ?_
 refine ol_re 7 (v := .one (moC (l547.set n440.toNat (n447, n448)) k549)) (Eq.trans (b := .one (moC l547 k549)) rfl (congrArg D.one moC_set)) ?_
 refine ol_re 119 (v := .one (moC (l547.set n440.toNat (n447, n448)) k549)) (Eq.trans (b := .one (moC l547 k549)) rfl (congrArg D.one moC_set)) ?_
 refine oE (bN (eS (lO ?_)))
 refine pq (qm (iO n395)) ?_
 refine pq (qb p_addY) ?_
 refine pq (qa (iO (IntKind.i64.wrap (n395 + 1)))) ?_
 refine oE ?_
 obtain rfl := sj h
 exact E_next (k548, k549) (ups_self ⟨rfl, rfl, rfl, rfl, rfl, trivial⟩) [1, 2] (by decide) rfl
 obtain rfl := Option.some.inj (elimR h)
 exact J_up (fun s hs => hs)
 replace h := ifF c450 h
 refine sq (qb (p_lss_fZ c450)) ?_
 refine sq (qm bf) ?_
 iterate 10 refine ss ?_
 refine sq (qpf bf) ?_
 refine st_end (eS (cF rfl (lK (eS (lS (lO ?_))))))
 refine pq (qm (.one (moC l393 k396))) ?_
 refine pq (q_build (cs := [iI 0, iI 0, iI 0]) ty71 rfl pl71 rfl) ?_
 refine ol_new rfl rfl rfl (q_bslice (cs := [iI 0, iI 0, iI 0]) (es := (([(0, 0, 0)] : List (Int × Int × Int))).map (rowC r70)) ty69 rfl ty71 rfl rfl rfl rfl rfl) (fun k565 => ?_)
 obtain ⟨_, h566, h⟩ := bindS h
 obtain ⟨h566b, rfl⟩ := app_some h566
 refine ol_appM (r := r70) (l := l393) (ys := ([(0, 0, 0)] : List (Int × Int × Int))) 2 rfl rfl rfl rfl rfl rfl (el_ownM (l := ([(0, 0, 0)] : List (Int × Int × Int))) 0 rfl) rfl h566 (fun y => rfl) el69 ty69 rfl rfl rfl rfl rfl (fun k567 => ?_)
 refine pq (qa (.one (moC (l393 ++ ([(0, 0, 0)] : List (Int × Int × Int))) k567))) ?_
 refine oN ?_
 refine pq (qm (.one (moC l394 k397))) ?_
 refine pq (q_build (cs := [iI 0, uI 0]) ty86 rfl pl86 rfl) ?_
 refine ol_new rfl rfl rfl (q_bslice (cs := [iI 0, uI 0]) (es := (([(0, 0)] : List (Int × Int))).map (rowC r85)) ty83 rfl ty86 rfl rfl rfl rfl rfl) (fun k568 => ?_)
 obtain ⟨_, h569, h⟩ := bindS h
 obtain ⟨h569b, rfl⟩ := app_some h569
 refine ol_appM (r := r85) (l := l394) (ys := ([(0, 0)] : List (Int × Int))) 4 rfl rfl rfl rfl rfl rfl (el_ownM (l := ([(0, 0)] : List (Int × Int))) 0 rfl) rfl h569 (fun y => rfl) el83 ty83 rfl rfl rfl rfl rfl (fun k570 => ?_)
 refine pq (qa (.one (moC (l394 ++ ([(0, 0)] : List (Int × Int))) k570))) ?_
 refine oE (eS (lS (lS (lO ?_))))
 refine pq (qm (.one (moC (l393 ++ ([(0, 0, 0)] : List (Int × Int × Int))) k567))) ?_
 refine pq (q_lenM (l := (l393 ++ ([(0, 0, 0)] : List (Int × Int × Int)))) rfl ty69 rfl rfl rfl rfl) ?_
 refine pq (qb p_subY) ?_
 refine pq (qa (.one (iI (IntKind.i64.wrap ((((l393 ++ ([(0, 0, 0)] : List (Int × Int × Int))).length : Nat) : Int) - 1))))) ?_
 refine oE (eS (lB ?_))
 let S4 : ((List (Int × Int × Int)) × (List (Int × Int)) × Int) → (Nat × Nat) → (Nat → D) → Nat → D := fun a kt g => ups g [(0, iO n1), (1, .one (sF r70 s2)), (6, .one (moC a.1 kt.1)), (7, .one (moC a.2.1 kt.2)), (8, iO n395), (9, iO n440), (10, .one (.ptr k449 0 0)), (11, .one (iI a.2.2))]
 let SL4 : ((List (Int × Int × Int)) × (List (Int × Int)) × Int) → (Nat × Nat) → BL := fun a kt => ([[(k449, 2, [[iI n447, uI n448]])], moL r70 3 a.1 kt.1, moL r85 2 a.2.1 kt.2] : BL)
 let G4 : (((List (Int × Int × Int)) × (List (Int × Int)) × Int) ⊕ (((List (Int × Int × Int)) × (List (Int × Int))) ⊕ ((Sl (Int × Int × Int)) × Int))) → Ex → St → Prop := LQ 145 S1 SL1 J1
 let Sx4 : ((List (Int × Int × Int)) × (List (Int × Int))) → (Nat × Nat) → (Nat → D) → Nat → D := fun a kt g => ups g [(0, iO n1), (1, .one (sF r70 s2)), (6, .one (moC a.1 kt.1)), (7, .one (moC a.2 kt.2)), (8, iO n395), (9, iO n440), (10, .one (.ptr k449 0 0))]
 let SLx4 : ((List (Int × Int × Int)) × (List (Int × Int))) → (Nat × Nat) → BL := fun a kt => ([[(k449, 2, [[iI n447, uI n448]])], moL r70 3 a.1 kt.1, moL r85 2 a.2 kt.2] : BL)
 let J4 : (((List (Int × Int × Int)) × (List (Int × Int))) ⊕ (((List (Int × Int × Int)) × (List (Int × Int)) × Int) ⊕ (((List (Int × Int × Int)) × (List (Int × Int))) ⊕ ((Sl (Int × Int × Int)) × Int)))) → Ex → St → Prop := JX 145 4 Sx4 SLx4 G4
 refine L_loopS (ref05_Combine_b4 n440) S4 SL4 J4 JX_n ((l393 ++ ([(0, 0, 0)] : List (Int × Int × Int))), (l394 ++ ([(0, 0)] : List (Int × Int))), (IntKind.i64.wrap ((((l393 ++ ([(0, 0, 0)] : List (Int × Int × Int))).length : Nat) : Int) - 1))) h (k567, k570) (ups_self ⟨rfl, rfl, rfl, rfl, rfl, rfl, rfl, rfl, trivial⟩) [4, 2, 0] (by decide) rfl ?_ ?_
 rintro ⟨l614, l615, n616⟩ ⟨k617, k618⟩ g out h
 change ref05_Combine_b4 n440 (l614, l615, n616) = some out at h
 unfold ref05_Combine_b4 at h
 refine lS (lS (lO ?_))
 refine pq (qm (iO n616)) ?_
 refine pq (qm (iO n440)) ?_
 by_cases c619 : n616 > n440
 replace h := ifT c619 h
 refine pq (qb (p_gtr_tZ c619)) ?_
 refine oE (eS (cT rfl (lK (eS (lS (lB (lS (lO ?_))))))))
 refine pq (qm (.one (moC l614 k617))) ?_
 refine pq (qm (iO n616)) ?_
 refine pq (qm (.one (moC l614 k617))) ?_
 refine pq (qm (iO n616)) ?_
 refine pq (qb p_subY) ?_
 obtain ⟨⟨n622, n623, n624⟩, h621, h⟩ := bindS h
 obtain ⟨h621a, h621⟩ := atM_some h621
 refine pq (q_ixM (r := r70) 1 rfl rfl h621a h621 rfl el69) ?_
 refine pq (q_loadP (v := .agg [iI n622, iI n623, iI n624]) 1 rfl sz71 (segM (r := r70) rfl h621) (map_get h621) rfl rfl) ?_
 obtain ⟨⟨n627, n628, n629⟩, h626, h⟩ := bindS h
 obtain ⟨h626a, h626⟩ := atM_some h626
 refine pq (q_ixM (r := r70) 1 rfl rfl h626a h626 rfl el69) ?_
 refine ol_wr rfl rfl (q_store (e' := rowC r70 (n622, n623, n624)) (es' := ((l614.set n616.toNat (n622, n623, n624))).map (rowC r70)) 1 rfl rfl rfl sz71 rfl (segM (r := r70) rfl h626) (map_get h626) rfl map_set) (congrArg (fun z => List.set _ 1 z) (setM (r := r70) h626)) ?_
 refine ol_re 6 (v := .one (moC (l614.set n616.toNat (n622, n623, n624)) k617)) (Eq.trans (b := .one (moC l614 k617)) rfl (congrArg D.one moC_set)) ?_
 refine ol_re 89 (v := .one (moC (l614.set n616.toNat (n622, n623, n624)) k617)) (Eq.trans (b := .one (moC l614 k617)) rfl (congrArg D.one moC_set)) ?_
 refine ol_re 91 (v := .one (moC (l614.set n616.toNat (n622, n623, n624)) k617)) (Eq.trans (b := .one (moC l614 k617)) rfl (congrArg D.one moC_set)) ?_
 refine oR ?_
 refine pq (qm (.one (moC l615 k618))) ?_
 refine pq (qm (iO n616)) ?_
 refine pq (qm (.one (moC l615 k618))) ?_
 refine pq (qm (iO n616)) ?_
 refine pq (qb p_subY) ?_
 obtain ⟨⟨n632, n633⟩, h631, h⟩ := bindS h
 obtain ⟨h631a, h631⟩ := atM_some h631
 refine pq (q_ixM (r := r85) 2 rfl rfl h631a h631 rfl el83) ?_
 refine pq (q_loadP (v := .agg [iI n632, uI n633]) 2 rfl sz86 (segM (r := r85) rfl h631) (map_get h631) rfl rfl) ?_
 obtain ⟨⟨n636, n637⟩, h635, h⟩ := bindS h
 obtain ⟨h635a, h635⟩ := atM_some h635
 refine pq (q_ixM (r := r85) 2 rfl rfl h635a h635 rfl el83) ?_
 refine ol_wr rfl rfl (q_store (e' := rowC r85 (n632, n633)) (es' := ((l615.set n616.toNat (n632, n633))).map (rowC r85)) 2 rfl rfl rfl sz86 rfl (segM (r := r85) rfl h635) (map_get h635) rfl map_set) (congrArg (fun z => List.set _ 2 z) (setM (r := r85) h635)) ?_
 refine ol_re 7 (v := .one (moC (l615.set n616.toNat (n632, n633)) k618)) (Eq.trans (b := .one (moC l615 k618)) rfl (congrArg D.one moC_set)) ?_
 refine ol_re 97 (v := .one (moC (l615.set n616.toNat (n632, n633)) k618)) (Eq.trans (b := .one (moC l615 k618)) rfl (congrArg D.one moC_set)) ?_
 refine ol_re 99 (v := .one (moC (l615.set n616.toNat (n632, n633)) k618)) (Eq.trans (b := .one (moC l615 k618)) rfl (congrArg D.one moC_set)) ?_
 refine oE (bN (eS (lO ?_)))
 refine pq (qm (iO n616)) ?_
 refine pq (qb p_subY) ?_
 refine pq (qa (iO (IntKind.i64.wrap (n616 - 1)))) ?_
 refine oE ?_
 obtain rfl := sj h
 exact E_next (k617, k618) (ups_self ⟨rfl, rfl, rfl, rfl, rfl, rfl, rfl, rfl, trivial⟩) [0, 1, 2] (by decide) rfl
 replace h := ifF c619 h
 refine pq (qb (p_gtr_fZ c619)) ?_
 refine oE (eS (cF rfl (L_exit ?_)))
 refine E_seqX ?_
 obtain rfl := sj h
 refine E_out ?_
 exact (E_exit (k617, k618) (ups_self ⟨rfl, rfl, rfl, rfl, rfl, rfl, rfl, trivial⟩) [0, 1, 2] (by decide) rfl)
 rintro (⟨l638, l639⟩ | u) h
 refine J_x (fun kt g => ?_)
 rcases kt with ⟨k640, k641⟩
 replace h := elimL h
 refine bH (eS (lS ?_))
 refine L_norm (L2 := ([[(k449, 2, [[iI n447, uI n448]])], moL r70 3 l638 k640, moL r85 2 l639 k641] : BL)) [0, 1, 2] (by decide) rfl ?_
 refine L_turn 15 rfl [[], [], [], [], [], [], [], [], [], [], [], [], [], [], moK l638 k640] [(false, []), (false, []), (false, []), (false, []), (false, []), (false, []), (false, []), (false, []), (false, []), (false, []), (false, []), (false, []), (false, []), (false, []), (false, [])] [[1, 2, 3, 4, 5, 6, 7, 8, 9, 10, 11, 12], [0, 2, 3, 4, 5, 6, 7, 8, 9, 10, 11, 12], [0, 1, 3, 7, 8, 9, 10, 11], [0, 1, 2, 7, 8, 9, 10, 11], [0, 1, 7, 8, 9, 10, 11], [0, 1, 7, 8, 9, 10, 11], [0, 1, 7, 8, 9, 10, 11], [0, 1, 2, 3, 4, 5, 6, 8], [0, 1, 2, 3, 4, 5, 6, 7], [0, 1, 2, 3, 4, 5, 6], [0, 1, 2, 3, 4, 5, 6], [0, 1, 2, 3, 4, 5, 6], [0, 1], [], []] (by kernel_rfl) (by kernel_rfl) (by kernel_rfl) ?_ (fun bb642 hlt hnd => ?_)
 intro bb642 hlt hnd
 have e_k449 : k449 < bb642 := key_lt hlt 0 rfl
 have e_k640 : l638 = [] ∨ k640 < bb642 := key_ltM (r := r70) (w := 3) hlt 1 rfl
 have f_k640 := moK_lt e_k640
 have e_k641 : l639 = [] ∨ k641 < bb642 := key_ltM (r := r85) (w := 2) hlt 2 rfl
 have d_k640_k449 : k449 ∉ moK l638 k640 := key_neM (r := r70) (w := 3) hnd 1 0 rfl rfl rfl
 have g_k640_k449 := moK_ne d_k640_k449
 exact ⟨(by first | (simp [DJ]; done) | (simp [DJ]; omega) | (simp [DJ]; assumption) | (simp_all [DJ]; done) | (simp_all [DJ]; omega)), (by first | (simp [DJ]; done) | (simp [DJ]; omega) | (simp [DJ]; assumption) | (simp_all [DJ]; done) | (simp_all [DJ]; omega))⟩
 have e_k449 : k449 < bb642 := key_lt hlt 0 rfl
 have e_k640 : l638 = [] ∨ k640 < bb642 := key_ltM (r := r70) (w := 3) hlt 1 rfl
 have f_k640 := moK_lt e_k640
 have e_k641 : l639 = [] ∨ k641 < bb642 := key_ltM (r := r85) (w := 2) hlt 2 rfl
 have d_k640_k449 : k449 ∉ moK l638 k640 := key_neM (r := r70) (w := 3) hnd 1 0 rfl rfl rfl
 have g_k640_k449 := moK_ne d_k640_k449
 refine tq [] rfl (hm0 rfl) (qm (.one (moC l638 k640))) ?_
 refine tq [] rfl (hm0 rfl) (qm (iO n440)) ?_
 refine tq [] rfl (hm0 rfl) (qm (.one (sF r70 s2))) ?_
 refine tq [] rfl (hm0 rfl) (qm (iO n395)) ?_
 refine tq [] rfl (hm0 rfl) (q_ixS rfl rfl h442a h442 (el69.trans (congrArg some h442b.symm))) ?_
 refine tq [] rfl (hm0 rfl) (q_fieldI rfl fa71_0 rfl) ?_
 refine tq [] rfl (hm0 rfl) (q_loadI (v := iO n443) rfl sz3 (map_get h442) rfl rfl) ?_
 refine tq [] rfl (hm0 rfl) (qm (.one (sF r70 s2))) ?_
 refine tq [] rfl (hm0 rfl) (qm (iO n395)) ?_
 refine tq [] rfl (hm0 rfl) (q_ixS rfl rfl h442a h442 (el69.trans (congrArg some h442b.symm))) ?_
 refine tq [] rfl (hm0 rfl) (q_fieldI rfl fa71_1 rfl) ?_
 refine tq [] rfl (hm0 rfl) (q_loadI (v := iO n444) rfl sz3 (map_get h442) rfl rfl) ?_
 refine tq [] rfl (hm0 rfl) (q_build (cs := [iI n443, iI n444, iI 0]) ty71 rfl pl71 rfl) ?_
 obtain ⟨⟨n650, n651, n652⟩, h649, h⟩ := bindS h
 obtain ⟨h649a, h649⟩ := atM_some h649
 refine tq [1] rfl (hm0 rfl) (q_ixM (r := r70) 0 rfl rfl h649a h649 rfl el69) ?_
 refine tn_wr rfl rfl [1] (by decide) rfl (hm0 rfl) (huM h649 rfl) (q_store (e' := rowC r70 (n443, n444, 0)) (es' := ((l638.set n440.toNat (n443, n444, 0))).map (rowC r70)) 0 rfl rfl rfl sz71 rfl (segM (r := r70) rfl h649) (map_get h649) rfl map_set) (q := 1) (segM (r := r70) rfl h649) (congrArg (fun z => List.set _ 1 z) (setM (r := r70) h649)) ?_
 refine tn_re 6 (v := .one (moC (l638.set n440.toNat (n443, n444, 0)) k640)) (Eq.trans (b := .one (moC l638 k640)) rfl (congrArg D.one moC_set)) ?_
 refine tn_re 105 (v := .one (moC (l638.set n440.toNat (n443, n444, 0)) k640)) (Eq.trans (b := .one (moC l638 k640)) rfl (congrArg D.one moC_set)) ?_
 refine tn_end (eS (lO ?_))
 refine pq (qm (.one (moC l639 k641))) ?_
 refine pq (qm (iO n440)) ?_
 refine pq (ql (.agg [iI n447, uI n448]) 0 sz86) ?_
 obtain ⟨⟨n655, n656⟩, h654, h⟩ := bindS h
 obtain ⟨h654a, h654⟩ := atM_some h654
 refine pq (q_ixM (r := r85) 2 rfl rfl h654a h654 rfl el83) ?_
 refine ol_wr rfl rfl (q_store (e' := rowC r85 (n447, n448)) (es' := ((l639.set n440.toNat (n447, n448))).map (rowC r85)) 2 rfl rfl rfl sz86 rfl (segM (r := r85) rfl h654) (map_get h654) rfl map_set) (congrArg (fun z => List.set _ 2 z) (setM (r := r85) h654)) ?_
 refine ol_re 7 (v := .one (moC (l639.set n440.toNat (n447, n448)) k641)) (Eq.trans (b := .one (moC l639 k641)) rfl (congrArg D.one moC_set)) ?_
 refine ol_re 119 (v := .one (moC (l639.set n440.toNat (n447, n448)) k641)) (Eq.trans (b := .one (moC l639 k641)) rfl (congrArg D.one moC_set)) ?_
 refine oE (bN (eS (lO ?_)))
 refine pq (qm (iO n395)) ?_
 refine pq (qb p_addY) ?_
 refine pq (qa (iO (IntKind.i64.wrap (n395 + 1)))) ?_
 refine oE ?_
 obtain rfl := sj h
 exact E_next (k640, k641) (ups_self ⟨rfl, rfl, rfl, rfl, rfl, trivial⟩) [1, 2] (by decide) rfl
 obtain rfl := Option.some.inj (elimR h)
 exact J_up (fun s hs => hs)
 obtain rfl := Option.some.inj (elimR h)
 exact J_up (fun s hs => hs)
 replace h := ifF c398 h
 refine pq (qb (p_lss_fZ c398)) ?_
 refine oE (eS (cF rfl (L_exit ?_)))
 refine E_seqX ?_
 obtain rfl := sj h
 refine E_out ?_
 exact (E_exit (k396, k397) (ups_self ⟨rfl, rfl, trivial⟩) [0, 1] (by decide) rfl)
 rintro (⟨l657, l658⟩ | u) h
 refine J_x (fun kt g => ?_)
 rcases kt with ⟨k659, k660⟩
 replace h := elimL h
 refine bH (eS (lS (lS (lO ?_))))
 refine pq (qa (iO 0)) ?_
 refine oE (eS (lB ?_))
 let S5 : ((List (Int × Int × Int)) × Int) → Nat → (Nat → D) → Nat → D := fun a kt g => ups g [(6, .one (moC a.1 kt)), (7, .one (moC l658 k660)), (12, .one (iI a.2))]
 let SL5 : ((List (Int × Int × Int)) × Int) → Nat → BL := fun a kt => ([moL r85 2 l658 k660, moL r70 3 a.1 kt] : BL)
 let G5 : ((Sl (Int × Int × Int)) × Int) → Ex → St → Prop := fun u => endQ E1 [.tmp 4, .tmp 5] (.fresh, [.one (Sl.t r70 u.1), .one (iT .i64 u.2)])
 let Sx5 : (List (Int × Int × Int)) → Nat → (Nat → D) → Nat → D := fun a kt g => ups g [(6, .one (moC a kt))]
 let SLx5 : (List (Int × Int × Int)) → Nat → BL := fun a kt => ([moL r70 3 a kt] : BL)
 let J5 : ((List (Int × Int × Int)) ⊕ ((Sl (Int × Int × Int)) × Int)) → Ex → St → Prop := JX 145 6 Sx5 SLx5 G5
 refine L_loopS (ref05_Combine_b5 l658) S5 SL5 J5 JX_n (l657, 0) h k659 (ups_self ⟨rfl, rfl, rfl, trivial⟩) [1, 0] (by decide) rfl ?_ ?_
 rintro ⟨l690, n691⟩ k692 g out h
 change ref05_Combine_b5 l658 (l690, n691) = some out at h
 unfold ref05_Combine_b5 at h
 refine lS (lS (lO ?_))
 refine pq (qm (iO n691)) ?_
 refine pq (qm (.one (moC l690 k692))) ?_
 refine pq (q_lenM (l := l690) rfl ty69 rfl rfl rfl rfl) ?_
 by_cases c693 : n691 < ((l690.length : Nat) : Int)
 replace h := ifT c693 h
 refine pq (qb (p_lss_tZ c693)) ?_
 refine oE (eS (cT rfl (lK (eS (lS (lB (lS (lO ?_))))))))
 refine pq (qm (.one (moC l658 k660))) ?_
 refine pq (qm (iO n691)) ?_
 obtain ⟨⟨n696, n697⟩, h695, h⟩ := bindS h
 obtain ⟨h695a, h695⟩ := atM_some h695
 refine pq (q_ixM (r := r85) 0 rfl rfl h695a h695 rfl el83) ?_
 refine pq (q_loadP (v := .agg [iI n696, uI n697]) 0 rfl sz86 (segM (r := r85) rfl h695) (map_get h695) rfl rfl) ?_
 obtain ⟨⟨n699, b700⟩, h698, h⟩ := bindS h
 refine pq (qc (.tup [iO n699, bO b700]) [.agg [iI n696, uI n697]] (ref01_Narrow_r (m + 1) h698) (vw_cons (vd_agg (vc_cons vc_v (vc_cons vc_v vc_nil))) vw_nil)) ?_
 refine pq (qm (.tup [iO n699, bO b700])) ?_
 refine pq (q_ext (v := iO n699) rfl rfl) ?_
 refine pq (q_ext (v := bO b700) rfl rfl) ?_
 refine pq (qa (iO n699)) ?_
 refine pq (qa (bO b700)) ?_
 refine oE (eS (lS (lS (lO ?_))))
 refine pq (qm (bO b700)) ?_
 rcases b700 with _ | _
 replace h := wF h
 refine pq (q_not rfl) ?_
 refine oE (eS (cT rfl (lS (lO ?_))))
 refine pq (qa (.one nC)) ?_
 refine pq (qa (iO 12)) ?_
 refine oE (eS (lR (eR (bR (eR ?_)))))
 obtain rfl := sj h
 exact E_out (E_up (E_endF (.inr rfl) (res_tmp rfl (res_tmp rfl res_nil)) (vw_cons (vd_one vc_s) (vw_cons (vd_one vc_v) vw_nil)) oW rfl rfl))
 replace h := wT h
 refine pq (q_not rfl) ?_
 refine oE (eS (cF rfl (lK (eS (lO ?_)))))
 refine pq (qm (.one (moC l690 k692))) ?_
 refine pq (qm (iO n691)) ?_
 refine pq (qm (iO n699)) ?_
 obtain ⟨⟨n703, n704, n705⟩, h702, h⟩ := bindS h
 obtain ⟨h702a, h702⟩ := atM_some h702
 refine pq (q_ixM (r := r70) 1 rfl rfl h702a h702 rfl el69) ?_
 refine pq (q_fieldP rfl fa71_2 rfl) ?_
 refine ol_wr rfl rfl (q_store (e' := rowC r70 (n703, n704, n699)) (es' := ((l690.set n691.toNat (n703, n704, n699))).map (rowC r70)) 1 rfl rfl rfl sz2 rfl (segM (r := r70) rfl h702) (map_get h702) rfl map_set) (congrArg (fun z => List.set _ 1 z) (setM (r := r70) h702)) ?_
 refine ol_re 6 (v := .one (moC (l690.set n691.toNat (n703, n704, n699)) k692)) (Eq.trans (b := .one (moC l690 k692)) rfl (congrArg D.one moC_set)) ?_
 refine ol_re 124 (v := .one (moC (l690.set n691.toNat (n703, n704, n699)) k692)) (Eq.trans (b := .one (moC l690 k692)) rfl (congrArg D.one moC_set)) ?_
 refine ol_re 139 (v := .one (moC (l690.set n691.toNat (n703, n704, n699)) k692)) (Eq.trans (b := .one (moC l690 k692)) rfl (congrArg D.one moC_set)) ?_
 refine oE (bN (eS (lO ?_)))
 refine pq (qm (iO n691)) ?_
 refine pq (qb p_addY) ?_
 refine pq (qa (iO (IntKind.i64.wrap (n691 + 1)))) ?_
 refine oE ?_
 obtain rfl := sj h
 exact E_next k692 (ups_self ⟨rfl, rfl, rfl, trivial⟩) [0, 1] (by decide) rfl
 replace h := ifF c693 h
 refine pq (qb (p_lss_fZ c693)) ?_
 refine oE (eS (cF rfl (L_exit ?_)))
 refine E_seqX ?_
 obtain rfl := sj h
 refine E_out ?_
 exact (E_exit k692 (ups_self ⟨rfl, trivial⟩) [1] (by decide) rfl)
 rintro (l706 | u) h
 refine J_x (fun k707 g => ?_)
 replace h := elimL h
 refine bH (eS (lS (lO ?_)))
 refine pq (qm (.one (moC l706 k707))) ?_
 refine pq (qa (.one (moC l706 k707))) ?_
 refine pq (qa (iO 0)) ?_
 refine oE (eS (lR ?_))
 obtain rfl := sj h
 exact E_endF (.inr rfl) (res_tmp rfl (res_tmp rfl res_nil)) (vw_cons (vd_one (vc_M (r := r70) 0 rfl (fun x h m => rfl))) (vw_cons (vd_one vc_v) vw_nil)) oW rfl rfl
 obtain rfl := Option.some.inj (elimR h)
 exact J_up (fun s hs => hs)
 obtain rfl := Option.some.inj (elimR h)
 exact J_up (fun s hs => hs)
noncomputable def ref09_Of_b2 (s51 : Sl (Int × Int × Int)) (a : Int × (List (Int × Int))) : Option ((Int × (List (Int × Int))) ⊕ ((List (Int × Int)) ⊕ ((Int × (Sl (Int × Int))) × Int))) :=
 match a with
 | (n89, l90) => (if n89 < ((s51.l.length : Nat) : Int) then ((atS 3 s51 n89).bind fun (n102, n103, n104) => ((app l90 ([(n103, n104)] : List (Int × Int))).bind fun _ => some (.inl ((IntKind.i64.wrap (n89 + 1)), (l90 ++ ([(n103, n104)] : List (Int × Int))))))) else some (.inr (.inl l90)))
noncomputable def ref09_Of_b1 (n2 : Int) (s3 : Sl (Int × Int)) (a : (List (Int × Int × Int)) × Int) : Option (((List (Int × Int × Int)) × Int) ⊕ ((List (Int × Int × Int)) ⊕ ((Int × (Sl (Int × Int))) × Int))) :=
 match a with
 | (l35, n36) => (if n36 < ((s3.l.length : Nat) : Int) then ((atS 2 s3 n36).bind fun (n41, n42) => (if n41 < 0 then some (.inr (.inr ((0, (⟨false, 0, []⟩ : Sl (Int × Int))), 3))) else (if n41 ≥ n2 then some (.inr (.inr ((0, (⟨false, 0, []⟩ : Sl (Int × Int))), 3))) else ((app l35 ([(0, n41, n42)] : List (Int × Int × Int))).bind fun _ => some (.inl ((l35 ++ ([(0, n41, n42)] : List (Int × Int × Int))), (IntKind.i64.wrap (n36 + 1)))))))) else some (.inr (.inl l35)))
noncomputable def ref09_Of (n1 : Int) (n2 : Int) (s3 : Sl (Int × Int)) : Option ((Int × (Sl (Int × Int))) × Int) :=
 ((ref02_Is n1).bind fun b6 => (if b6 = true then (if n2 < 0 then some ((0, (⟨false, 0, []⟩ : Sl (Int × Int))), 3) else (if n2 > 4096 then some ((0, (⟨false, 0, []⟩ : Sl (Int × Int))), 3) else ((loopO (ref09_Of_b1 n2 s3) (([] : List (Int × Int × Int)), 0)).bind (Sum.elim (fun l48 => ((ref05_Combine n1 (mo 3 l48)).bind fun (s51, n52) => (if n52 ≠ 0 then some ((0, (⟨false, 0, []⟩ : Sl (Int × Int))), n52) else ((loopO (ref09_Of_b2 s51) (0, ([] : List (Int × Int)))).bind (Sum.elim (fun l106 => some ((n2, (mo 2 l106)), 0)) (fun u => some u)))))) (fun u => some u))))) else some ((0, (⟨false, 0, []⟩ : Sl (Int × Int))), 8)))
theorem ref09_Of_r (m : Nat) {n1 : Int} {n2 : Int} {s3 : Sl (Int × Int)} {out : (Int × (Sl (Int × Int))) × Int} (h : ref09_Of n1 n2 s3 = some out) : RunsP E1 (m + 4) 14 [.one (iT .i64 n1), .one (iT .i64 n2), .one (Sl.t r44 s3)] (.fresh, [.agg (r24 out.1), .one (iT .i64 out.2)]) := by
 refine fn_F rfl (by rw [E1_fn]; exact show fiOf Tryd.prog 14 = _ by unfold fiOf; rw [Tryd.func14]; unfold Tryd.f14; rfl) rfl ?_
 dsimp only
 unfold ref09_Of at h
 refine lS (lO ?_)
 refine ol_new rfl rfl rfl (q_alloc ty25 (row := [iI 0, nC]) rfl rfl) (fun k4 => ?_)
 refine pq (qa (iO 0)) ?_
 refine oE (eS (lS (lS (lO ?_))))
 refine pq (qm (iO n1)) ?_
 obtain ⟨b6, h5, h⟩ := bindS h
 refine pq (qc (bO b6) [iO n1] (ref02_Is_r (m + 2) h5) (vw_cons (vd_one vc_v) vw_nil)) ?_
 rcases b6 with _ | _
 replace h := wF h
 refine pq (q_not rfl) ?_
 refine oE (eS (cT rfl (lS (lO ?_))))
 refine pq (q_build (cs := [iI 0, nC]) ty25 rfl pl25 rfl) ?_
 refine ow [[iI 0, nC]] 0 sz25 ?_
 refine pq (qa (iO 8)) ?_
 refine oE (eS (lR (eR ?_)))
 obtain rfl := sj h
 exact E_endF (.inr rfl) (res_cell (d := .agg [iI 0, nC]) 0 rfl sz25 rfl rfl rfl rfl (res_tmp rfl res_nil)) (vw_cons (vd_agg (vc_cons vc_v (vc_cons vc_s vc_nil))) (vw_cons (vd_one vc_v) vw_nil)) oW rfl rfl
 replace h := wT h
 refine pq (q_not rfl) ?_
 refine oE (eS (cF rfl (lK (eS (lS (lS (lO ?_)))))))
 refine pq (qm (iO n2)) ?_
 by_cases c7 : n2 < 0
 replace h := ifT c7 h
 refine pq (qb (p_lss_tZ c7)) ?_
 refine pq (qm bt) ?_
 iterate 2 refine os ?_
 refine pq (qpt bt) ?_
 refine oE (eS (cT rfl (lS (lO ?_))))
 refine pq (q_build (cs := [iI 0, nC]) ty25 rfl pl25 rfl) ?_
 refine ow [[iI 0, nC]] 0 sz25 ?_
 refine pq (qa (iO 3)) ?_
 refine oE (eS (lR (eR ?_)))
 obtain rfl := sj h
 exact E_endF (.inr rfl) (res_cell (d := .agg [iI 0, nC]) 0 rfl sz25 rfl rfl rfl rfl (res_tmp rfl res_nil)) (vw_cons (vd_agg (vc_cons vc_v (vc_cons vc_s vc_nil))) (vw_cons (vd_one vc_v) vw_nil)) oW rfl rfl
 replace h := ifF c7 h
 refine pq (qb (p_lss_fZ c7)) ?_
 refine pq (qm bf) ?_
 refine pq (qm (iO n2)) ?_
 by_cases c8 : n2 > 4096
 replace h := ifT c8 h
 refine pq (qb (p_gtr_tZ c8)) ?_
 refine pq (qpf bt) ?_
 refine oE (eS (cT rfl (lS (lO ?_))))
 refine pq (q_build (cs := [iI 0, nC]) ty25 rfl pl25 rfl) ?_
 refine ow [[iI 0, nC]] 0 sz25 ?_
 refine pq (qa (iO 3)) ?_
 refine oE (eS (lR (eR ?_)))
 obtain rfl := sj h
 exact E_endF (.inr rfl) (res_cell (d := .agg [iI 0, nC]) 0 rfl sz25 rfl rfl rfl rfl (res_tmp rfl res_nil)) (vw_cons (vd_agg (vc_cons vc_v (vc_cons vc_s vc_nil))) (vw_cons (vd_one vc_v) vw_nil)) oW rfl rfl
 replace h := ifF c8 h
 refine pq (qb (p_gtr_fZ c8)) ?_
 refine pq (qpf bf) ?_
 refine oE (eS (cF rfl (lK (eS (lS (lO ?_))))))
 refine pq (qa (.one nC)) ?_
 refine oE (eS (lS (lS (lO ?_))))
 refine pq (qa (iO 0)) ?_
 refine oE (eS (lB ?_))
 refine L_addM (α := Int × Int × Int) r70 3 ?_
 let S1 : ((List (Int × Int × Int)) × Int) → Nat → (Nat → D) → Nat → D := fun a kt g => ups g [(0, iO n1), (1, iO n2), (2, .one (sF r44 s3)), (6, .one (.ptr k4 0 0)), (8, .one (moC a.1 kt)), (9, .one (iI a.2))]
 let SL1 : ((List (Int × Int × Int)) × Int) → Nat → BL := fun a kt => ([[(k4, 2, [[iI 0, nC]])], moL r70 3 a.1 kt] : BL)
 let G1 : ((Int × (Sl (Int × Int))) × Int) → Ex → St → Prop := fun u => endQ E1 [.cell 6 25, .tmp 7] (.fresh, [.agg (r24 u.1), .one (iT .i64 u.2)])
 let Sx1 : (List (Int × Int × Int)) → Nat → (Nat → D) → Nat → D := fun a kt g => ups g [(0, iO n1), (1, iO n2), (6, .one (.ptr k4 0 0)), (8, .one (moC a kt))]
 let SLx1 : (List (Int × Int × Int)) → Nat → BL := fun a kt => ([[(k4, 2, [[iI 0, nC]])], moL r70 3 a kt] : BL)
 let J1 : ((List (Int × Int × Int)) ⊕ ((Int × (Sl (Int × Int))) × Int)) → Ex → St → Prop := JX 95 0 Sx1 SLx1 G1
 refine L_loopS (ref09_Of_b1 n2 s3) S1 SL1 J1 JX_n (([] : List (Int × Int × Int)), 0) h 1033 (ups_self ⟨rfl, rfl, rfl, rfl, rfl, rfl, trivial⟩) [1, 0] (by decide) rfl ?_ ?_
 rintro ⟨l35, n36⟩ k37 g out h
 change ref09_Of_b1 n2 s3 (l35, n36) = some out at h
 unfold ref09_Of_b1 at h
 refine lS (lS (lO ?_))
 refine pq (qm (iO n36)) ?_
 refine pq (qm (.one (sF r44 s3))) ?_
 refine pq (q_lenS rfl ty22 rfl rfl rfl rfl) ?_
 by_cases c38 : n36 < ((s3.l.length : Nat) : Int)
 replace h := ifT c38 h
 refine pq (qb (p_lss_tZ c38)) ?_
 refine oE (eS (cT rfl (lK (eS (lS (lB (lS (lS (lO ?_)))))))))
 refine pq (qm (.one (sF r44 s3))) ?_
 refine pq (qm (iO n36)) ?_
 obtain ⟨⟨n41, n42⟩, h40, h⟩ := bindS h
 obtain ⟨h40a, h40b, h40⟩ := atS_some h40
 refine pq (q_ixS rfl rfl h40a h40 (el22.trans (congrArg some h40b.symm))) ?_
 refine pq (q_fieldI rfl fa45_0 rfl) ?_
 refine pq (q_loadI (v := iO n41) rfl sz3 (map_get h40) rfl rfl) ?_
 by_cases c43 : n41 < 0
 replace h := ifT c43 h
 refine pq (qb (p_lss_tZ c43)) ?_
 refine pq (qm bt) ?_
 iterate 7 refine os ?_
 refine pq (qpt bt) ?_
 refine oE (eS (cT rfl (lS (lO ?_))))
 refine pq (q_build (cs := [iI 0, nC]) ty25 rfl pl25 rfl) ?_
 refine ow [[iI 0, nC]] 0 sz25 ?_
 refine pq (qa (iO 3)) ?_
 refine oE (eS (lR (eR (bR (eR ?_)))))
 obtain rfl := sj h
 exact E_out (E_up (E_endF (.inr rfl) (res_cell (d := .agg [iI 0, nC]) 0 rfl sz25 rfl rfl rfl rfl (res_tmp rfl res_nil)) (vw_cons (vd_agg (vc_cons vc_v (vc_cons vc_s vc_nil))) (vw_cons (vd_one vc_v) vw_nil)) oW rfl rfl))
 replace h := ifF c43 h
 refine pq (qb (p_lss_fZ c43)) ?_
 refine pq (qm bf) ?_
 refine pq (qm (.one (sF r44 s3))) ?_
 refine pq (qm (iO n36)) ?_
 refine pq (q_ixS rfl rfl h40a h40 (el22.trans (congrArg some h40b.symm))) ?_
 refine pq (q_fieldI rfl fa45_0 rfl) ?_
 refine pq (q_loadI (v := iO n41) rfl sz3 (map_get h40) rfl rfl) ?_
 refine pq (qm (iO n2)) ?_
 by_cases c44 : n41 ≥ n2
 replace h := ifT c44 h
 refine pq (qb (p_geq_tZ c44)) ?_
 refine pq (qpf bt) ?_
 refine oE (eS (cT rfl (lS (lO ?_))))
 refine pq (q_build (cs := [iI 0, nC]) ty25 rfl pl25 rfl) ?_
 refine ow [[iI 0, nC]] 0 sz25 ?_
 refine pq (qa (iO 3)) ?_
 refine oE (eS (lR (eR (bR (eR ?_)))))
 obtain rfl := sj h
 exact E_out (E_up (E_endF (.inr rfl) (res_cell (d := .agg [iI 0, nC]) 0 rfl sz25 rfl rfl rfl rfl (res_tmp rfl res_nil)) (vw_cons (vd_agg (vc_cons vc_v (vc_cons vc_s vc_nil))) (vw_cons (vd_one vc_v) vw_nil)) oW rfl rfl))
 replace h := ifF c44 h
 refine pq (qb (p_geq_fZ c44)) ?_
 refine pq (qpf bf) ?_
 refine oE (eS (cF rfl (lK (eS ?_))))
 refine L_norm (L2 := ([[(k4, 2, [[iI 0, nC]])], moL r70 3 l35 k37] : BL)) [0, 1] (by decide) rfl ?_
 refine L_turn 15 rfl [[], [], [], [], [], [], [], [], [], [], [], [], [], moK l35 k37, []] [(false, []), (false, []), (false, []), (false, []), (false, []), (false, []), (false, []), (false, []), (false, []), (false, []), (false, []), (false, []), (true, []), (true, []), (false, [])] [[1, 2, 3, 4, 5, 6, 7, 8, 9, 10, 11, 12], [0, 2, 6, 7, 8, 9, 10], [0, 1, 6, 7, 8, 9, 10], [0, 6, 7, 8, 9, 10], [0, 6, 7, 8, 9, 10], [0, 6, 7, 8, 9, 10], [0, 1, 2, 3, 4, 5, 7], [0, 1, 2, 3, 4, 5, 6], [0, 1, 2, 3, 4, 5], [0, 1, 2, 3, 4, 5], [0, 1, 2, 3, 4, 5], [0], [0], [], []] (by kernel_rfl) (by kernel_rfl) (by kernel_rfl) ?_ (fun bb45 hlt hnd => ?_)
 intro bb45 hlt hnd
 have e_k4 : k4 < bb45 := key_lt hlt 0 rfl
 have e_k37 : l35 = [] ∨ k37 < bb45 := key_ltM (r := r70) (w := 3) hlt 1 rfl
 have f_k37 := moK_lt e_k37
 have d_k37_k4 : k4 ∉ moK l35 k37 := key_neM (r := r70) (w := 3) hnd 1 0 rfl rfl rfl
 have g_k37_k4 := moK_ne d_k37_k4
 exact ⟨(by first | (simp [DJ]; done) | (simp [DJ]; omega) | (simp [DJ]; assumption) | (simp_all [DJ]; done) | (simp_all [DJ]; omega)), (by first | (simp [DJ]; done) | (simp [DJ]; omega) | (simp [DJ]; assumption) | (simp_all [DJ]; done) | (simp_all [DJ]; omega))⟩
 have e_k4 : k4 < bb45 := key_lt hlt 0 rfl
 have e_k37 : l35 = [] ∨ k37 < bb45 := key_ltM (r := r70) (w := 3) hlt 1 rfl
 have f_k37 := moK_lt e_k37
 have d_k37_k4 : k4 ∉ moK l35 k37 := key_neM (r := r70) (w := 3) hnd 1 0 rfl rfl rfl
 have g_k37_k4 := moK_ne d_k37_k4
 refine tq [] rfl hmn (qm (.one (moC l35 k37))) ?_
 refine tq [] rfl (hm0 rfl) (qm (.one (sF r44 s3))) ?_
 refine tq [] rfl (hm0 rfl) (qm (iO n36)) ?_
 refine tq [] rfl (hm0 rfl) (q_ixS rfl rfl h40a h40 (el22.trans (congrArg some h40b.symm))) ?_
 refine tq [] rfl (hm0 rfl) (q_fieldI rfl fa45_0 rfl) ?_
 refine tq [] rfl (hm0 rfl) (q_loadI (v := iO n41) rfl sz3 (map_get h40) rfl rfl) ?_
 refine tq [] rfl (hm0 rfl) (qm (.one (sF r44 s3))) ?_
 refine tq [] rfl (hm0 rfl) (qm (iO n36)) ?_
 refine tq [] rfl (hm0 rfl) (q_ixS rfl rfl h40a h40 (el22.trans (congrArg some h40b.symm))) ?_
 refine tq [] rfl (hm0 rfl) (q_fieldI rfl fa45_1 rfl) ?_
 refine tq [] rfl (hm0 rfl) (q_loadI (v := iO n42) rfl sz2 (map_get h40) rfl rfl) ?_
 refine tq [] rfl (hm0 rfl) (q_build (cs := [iI 0, iI n41, iI n42]) ty71 rfl pl71 rfl) ?_
 refine tn_new rfl rfl rfl [] (by decide) rfl (hm0 rfl) rfl rfl (hkc (ne_new (key_lt hlt 0 rfl)) (hkM (e_k37.imp id fun h => by omega) hkn)) (q_bslice (cs := [iI 0, iI n41, iI n42]) (es := (([(0, n41, n42)] : List (Int × Int × Int))).map (rowC r70)) ty69 rfl ty71 rfl rfl rfl rfl rfl) ?_
 obtain ⟨_, h47, h⟩ := bindS h
 obtain ⟨h47b, rfl⟩ := app_some h47
 refine tn_appM (r := r70) (l := l35) 0 2 rfl rfl rfl rfl [2, 0] (by decide) rfl (hm0 rfl) rfl rfl (hkc (ne_add rfl) (hkc (ne_new (key_lt hlt 0 rfl)) (hkM (e_k37.imp id fun h => by omega) hkn))) rfl rfl (el_ownM (l := ([(0, n41, n42)] : List (Int × Int × Int))) 1 rfl) rfl rfl h47 (fun y => rfl) el69 ty69 rfl rfl rfl rfl rfl ?_
 refine tq [] rfl (hm0 rfl) (qa (.one (moC (l35 ++ ([(0, n41, n42)] : List (Int × Int × Int))) (bb45 + 13)))) ?_
 refine tn_end (bN (eS (lO ?_)))
 refine pq (qm (iO n36)) ?_
 refine pq (qb p_addY) ?_
 refine pq (qa (iO (IntKind.i64.wrap (n36 + 1)))) ?_
 refine oE ?_
 obtain rfl := sj h
 exact E_next (bb45 + 13) (ups_self ⟨rfl, rfl, rfl, rfl, rfl, rfl, trivial⟩) [2, 0] (by decide) rfl
 replace h := ifF c38 h
 refine pq (qb (p_lss_fZ c38)) ?_
 refine oE (eS (cF rfl (L_exit ?_)))
 refine E_seqX ?_
 obtain rfl := sj h
 refine E_out ?_
 exact (E_exit k37 (ups_self ⟨rfl, rfl, rfl, rfl, trivial⟩) [0, 1] (by decide) rfl)
 rintro (l48 | u) h
 refine J_x (fun k49 g => ?_)
 replace h := elimL h
 refine bH (eS (lS (lO ?_)))
 refine pq (qm (iO n1)) ?_
 refine pq (qm (.one (moC l48 k49))) ?_
 obtain ⟨⟨s51, n52⟩, h50, h⟩ := bindS h
 refine pq (qc (.tup [.one (sC r70 s51), iO n52]) [iO n1, .one (moC l48 k49)] (ref05_Combine_r (m + 0) h50) (vw_cons (vd_one vc_v) (vw_cons (vd_one (vc_M (r := r70) 1 rfl (fun x h m => rfl))) vw_nil))) ?_
 refine pq (qm (.tup [.one (sC r70 s51), iO n52])) ?_
 refine pq (q_ext (v := .one (sC r70 s51)) rfl rfl) ?_
 refine pq (q_ext (v := iO n52) rfl rfl) ?_
 refine pq (qa (.one (sC r70 s51))) ?_
 refine pq (qa (iO n52)) ?_
 refine oE (eS (lS (lS (lO ?_))))
 refine pq (qm (iO n52)) ?_
 by_cases c53 : n52 ≠ 0
 replace h := ifT c53 h
 refine pq (qb (p_neq_tZ c53)) ?_
 refine oE (eS (cT rfl (lS (lO ?_))))
 refine pq (q_build (cs := [iI 0, nC]) ty25 rfl pl25 rfl) ?_
 refine pq (qm (iO n52)) ?_
 refine ow [[iI 0, nC]] 0 sz25 ?_
 refine pq (qa (iO n52)) ?_
 refine oE (eS (lR (eR ?_)))
 obtain rfl := sj h
 exact E_endF (.inr rfl) (res_cell (d := .agg [iI 0, nC]) 0 rfl sz25 rfl rfl rfl rfl (res_tmp rfl res_nil)) (vw_cons (vd_agg (vc_cons vc_v (vc_cons vc_s vc_nil))) (vw_cons (vd_one vc_v) vw_nil)) oW rfl rfl
 replace h := ifF c53 h
 refine pq (qb (p_neq_fZ c53)) ?_
 refine oE (eS (cF rfl (lK (eS (lS (lO ?_))))))
 refine pq (qm (iO n2)) ?_
 refine pq (q_build (cs := [iI n2, nC]) ty25 rfl pl25 rfl) ?_
 refine ol_new rfl rfl rfl (q_alloc ty25 (row := [iI 0, nC]) rfl rfl) (fun k54 => ?_)
 refine ow [[iI n2, nC]] 0 sz25 ?_
 refine oE (eS (lS (lS (lO ?_))))
 refine pq (qa (iO 0)) ?_
 refine oE (eS (lB ?_))
 refine L_addM (α := Int × Int) r44 2 ?_
 let S2 : (Int × (List (Int × Int))) → Nat → (Nat → D) → Nat → D := fun a kt g => ups g [(6, .one (.ptr k4 0 0)), (8, .one (sC r70 s51)), (11, .one (.ptr k54 0 0)), (12, .one (iI a.1))]
 let SL2 : (Int × (List (Int × Int))) → Nat → BL := fun a kt => ([[(k4, 2, [[iI 0, nC]])], [(k54, 2, [[iI n2, moC a.2 kt]])], moL r44 2 a.2 kt] : BL)
 let G2 : ((Int × (Sl (Int × Int))) × Int) → Ex → St → Prop := fun u => endQ E1 [.cell 6 25, .tmp 7] (.fresh, [.agg (r24 u.1), .one (iT .i64 u.2)])
 let Sx2 : (List (Int × Int)) → Nat → (Nat → D) → Nat → D := fun a kt g => ups g [(6, .one (.ptr k4 0 0)), (11, .one (.ptr k54 0 0))]
 let SLx2 : (List (Int × Int)) → Nat → BL := fun a kt => ([[(k4, 2, [[iI 0, nC]])], [(k54, 2, [[iI n2, moC a kt]])], moL r44 2 a kt] : BL)
 let J2 : ((List (Int × Int)) ⊕ ((Int × (Sl (Int × Int))) × Int)) → Ex → St → Prop := JX 95 2 Sx2 SLx2 G2
 refine L_loopS (ref09_Of_b2 s51) S2 SL2 J2 JX_n (0, ([] : List (Int × Int))) h 1087 (ups_self ⟨rfl, rfl, rfl, rfl, trivial⟩) [2, 1, 0] (by decide) rfl ?_ ?_
 rintro ⟨n89, l90⟩ k91 g out h
 change ref09_Of_b2 s51 (n89, l90) = some out at h
 unfold ref09_Of_b2 at h
 refine lS (lS (lO ?_))
 refine pq (qm (iO n89)) ?_
 refine pq (qm (.one (sC r70 s51))) ?_
 refine pq (q_lenS rfl ty69 rfl rfl rfl rfl) ?_
 by_cases c92 : n89 < ((s51.l.length : Nat) : Int)
 replace h := ifT c92 h
 refine pq (qb (p_lss_tZ c92)) ?_
 refine oE (eS (cT rfl (lK (eS (lS (lB ?_))))))
 refine L_norm (L2 := ([[(k4, 2, [[iI 0, nC]])], [(k54, 2, [[iI n2, moC l90 k91]])], moL r44 2 l90 k91] : BL)) [0, 1, 2] (by decide) rfl ?_
 refine L_turn 17 rfl [[], [], [], [], [], [], [], [], [], [], [], [], [], [], moK l90 k91, [], [k54]] [(false, []), (false, []), (false, []), (false, []), (false, []), (false, []), (false, []), (false, []), (false, []), (false, []), (false, []), (false, []), (false, []), (true, []), (true, []), (false, []), (false, [])] [[2, 3, 4, 5, 6, 7, 8, 9, 10, 11, 12, 13], [2, 3, 4, 5, 6, 7, 8, 9, 10, 11, 12, 13], [0, 1, 3, 7, 8, 9, 10, 11], [0, 1, 2, 7, 8, 9, 10, 11], [0, 1, 7, 8, 9, 10, 11], [0, 1, 7, 8, 9, 10, 11], [0, 1, 7, 8, 9, 10, 11], [0, 1, 2, 3, 4, 5, 6, 8], [0, 1, 2, 3, 4, 5, 6, 7], [0, 1, 2, 3, 4, 5, 6], [0, 1, 2, 3, 4, 5, 6], [0, 1, 2, 3, 4, 5, 6], [0, 1], [0, 1], [], [], []] (by kernel_rfl) (by kernel_rfl) (by kernel_rfl) ?_ (fun bb93 hlt hnd => ?_)
 intro bb93 hlt hnd
 have e_k4 : k4 < bb93 := key_lt hlt 0 rfl
 have e_k54 : k54 < bb93 := key_lt hlt 1 rfl
 have e_k91 : l90 = [] ∨ k91 < bb93 := key_ltM (r := r44) (w := 2) hlt 2 rfl
 have f_k91 := moK_lt e_k91
 have d_k54_k4 : k54 ≠ k4 := key_ne hnd 1 0 rfl rfl rfl
 have d_k91_k4 : k4 ∉ moK l90 k91 := key_neM (r := r44) (w := 2) hnd 2 0 rfl rfl rfl
 have g_k91_k4 := moK_ne d_k91_k4
 have d_k91_k54 : k54 ∉ moK l90 k91 := key_neM (r := r44) (w := 2) hnd 2 1 rfl rfl rfl
 have g_k91_k54 := moK_ne d_k91_k54
 exact ⟨(by first | (simp [DJ]; done) | (simp [DJ]; omega) | (simp [DJ]; assumption) | (simp_all [DJ]; done) | (simp_all [DJ]; omega)), (by first | (simp [DJ]; done) | (simp [DJ]; omega) | (simp [DJ]; assumption) | (simp_all [DJ]; done) | (simp_all [DJ]; omega))⟩
 have e_k4 : k4 < bb93 := key_lt hlt 0 rfl
 have e_k54 : k54 < bb93 := key_lt hlt 1 rfl
 have e_k91 : l90 = [] ∨ k91 < bb93 := key_ltM (r := r44) (w := 2) hlt 2 rfl
 have f_k91 := moK_lt e_k91
 have d_k54_k4 : k54 ≠ k4 := key_ne hnd 1 0 rfl rfl rfl
 have d_k91_k4 : k4 ∉ moK l90 k91 := key_neM (r := r44) (w := 2) hnd 2 0 rfl rfl rfl
 have g_k91_k4 := moK_ne d_k91_k4
 have d_k91_k54 : k54 ∉ moK l90 k91 := key_neM (r := r44) (w := 2) hnd 2 1 rfl rfl rfl
 have g_k91_k54 := moK_ne d_k91_k54
 refine tq [] rfl hmn (q_fieldP rfl fa25_1 rfl) ?_
 refine tq [1] rfl (hmc (nin_cons (ne_new (key_lt hlt 1 rfl)) nin_nil) hmn) (ql (.one (moC l90 k91)) 0 sz22) ?_
 refine tq [] rfl (hm0 rfl) (qm (.one (sC r70 s51))) ?_
 refine tq [] rfl (hm0 rfl) (qm (iO n89)) ?_
 obtain ⟨⟨n102, n103, n104⟩, h101, h⟩ := bindS h
 obtain ⟨h101a, h101b, h101⟩ := atS_some h101
 refine tq [] rfl (hm0 rfl) (q_ixS rfl rfl h101a h101 (el69.trans (congrArg some h101b.symm))) ?_
 refine tq [] rfl (hm0 rfl) (q_fieldI rfl fa71_1 rfl) ?_
 refine tq [] rfl (hm0 rfl) (q_loadI (v := iO n103) rfl sz3 (map_get h101) rfl rfl) ?_
 refine tq [] rfl (hm0 rfl) (qm (.one (sC r70 s51))) ?_
 refine tq [] rfl (hm0 rfl) (qm (iO n89)) ?_
 refine tq [] rfl (hm0 rfl) (q_ixS rfl rfl h101a h101 (el69.trans (congrArg some h101b.symm))) ?_
 refine tq [] rfl (hm0 rfl) (q_fieldI rfl fa71_2 rfl) ?_
 refine tq [] rfl (hm0 rfl) (q_loadI (v := iO n104) rfl sz2 (map_get h101) rfl rfl) ?_
 refine tq [] rfl (hm0 rfl) (q_build (cs := [iI n103, iI n104]) ty45 rfl pl45 rfl) ?_
 refine tn_new rfl rfl rfl [] (by decide) rfl (hm0 rfl) rfl rfl (hkc (ne_new (key_lt hlt 0 rfl)) (hkc (ne_new (key_lt hlt 1 rfl)) (hkM (e_k91.imp id fun h => by omega) hkn))) (q_bslice (cs := [iI n103, iI n104]) (es := (([(n103, n104)] : List (Int × Int))).map (rowC r44)) ty22 rfl ty45 rfl rfl rfl rfl rfl) ?_
 obtain ⟨_, h105, h⟩ := bindS h
 obtain ⟨h105b, rfl⟩ := app_some h105
 refine tn_appM (r := r44) (l := l90) 0 3 rfl rfl rfl rfl [3, 0] (by decide) rfl (hm0 rfl) rfl rfl (hkc (ne_add rfl) (hkc (ne_new (key_lt hlt 0 rfl)) (hkc (ne_new (key_lt hlt 1 rfl)) (hkM (e_k91.imp id fun h => by omega) hkn)))) rfl rfl (el_ownM (l := ([(n103, n104)] : List (Int × Int))) 1 rfl) rfl rfl h105 (fun y => rfl) el22 ty22 rfl rfl rfl rfl rfl ?_
 refine tq [] rfl (hm0 rfl) (q_fieldP rfl fa25_1 rfl) ?_
 refine tn_wr rfl rfl [3] (by decide) rfl (hm0 rfl) rfl (q_store (es' := [[iI n2, moC (l90 ++ ([(n103, n104)] : List (Int × Int))) (bb93 + 14)]]) 0 rfl rfl rfl sz22 rfl rfl rfl rfl rfl) (q := 3) rfl rfl ?_
 refine tn_end (bN (eS (lO ?_)))
 refine pq (qm (iO n89)) ?_
 refine pq (qb p_addY) ?_
 refine pq (qa (iO (IntKind.i64.wrap (n89 + 1)))) ?_
 refine oE ?_
 obtain rfl := sj h
 exact E_next (bb93 + 14) (ups_self ⟨rfl, rfl, rfl, rfl, trivial⟩) [2, 3, 0] (by decide) rfl
 replace h := ifF c92 h
 refine pq (qb (p_lss_fZ c92)) ?_
 refine oE (eS (cF rfl (L_exit ?_)))
 refine E_seqX ?_
 obtain rfl := sj h
 refine E_out ?_
 exact (E_exit k91 (ups_self ⟨rfl, rfl, trivial⟩) [0, 1, 2] (by decide) rfl)
 rintro (l106 | u) h
 refine J_x (fun k107 g => ?_)
 replace h := elimL h
 refine bH (eS (lS (lO ?_)))
 refine pq (ql (.agg [iI n2, moC l106 k107]) 1 sz25) ?_
 refine ow [[iI n2, moC l106 k107]] 0 sz25 ?_
 refine pq (qa (iO 0)) ?_
 refine oE (eS (lR ?_))
 obtain rfl := sj h
 exact E_endF (.inr rfl) (res_cell (d := .agg [iI n2, moC l106 k107]) 0 rfl sz25 rfl rfl rfl rfl (res_tmp rfl res_nil)) (vw_cons (vd_agg (vc_cons vc_v (vc_cons (vc_M (r := r44) 2 rfl (fun x h m => rfl)) vc_nil))) (vw_cons (vd_one vc_v) vw_nil)) oW rfl rfl
 obtain rfl := Option.some.inj (elimR h)
 exact J_up (fun s hs => hs)
 obtain rfl := Option.some.inj (elimR h)
 exact J_up (fun s hs => hs)
noncomputable def law09_Some_b1 (s2 : Sl (Int × Int)) (n4 : Int) (a : (List (Int × Int)) × Int) : Option (((List (Int × Int)) × Int) ⊕ ((List (Int × Int)) ⊕ (Int × (Sl (Int × Int))))) :=
 match a with
 | (l42, n43) => (if n43 < ((s2.l.length : Nat) : Int) then (if n43 < 60 then (if n4 > 0 then ((atS 2 s2 n43).bind fun (n50, n51) => (if n50 ≥ 0 then ((modO n50 n4).bind fun n57 => ((app l42 ([(n57, n51)] : List (Int × Int))).bind fun _ => some (.inl ((l42 ++ ([(n57, n51)] : List (Int × Int))), (IntKind.i64.wrap (n43 + 1)))))) else some (.inl (l42, (IntKind.i64.wrap (n43 + 1)))))) else some (.inr (.inl l42))) else some (.inr (.inl l42))) else some (.inr (.inl l42)))
noncomputable def law09_Some (n1 : Int) (s2 : Sl (Int × Int)) : Option ((Int × (Sl (Int × Int)))) :=
 ((modO (IntKind.i64.wrap n1) 60).bind fun n4 => ((loopO (law09_Some_b1 s2 n4) (([] : List (Int × Int)), 0)).bind (Sum.elim (fun l60 => ((ref09_Of 1 n4 (mo 2 l60)).bind fun ((n63, s64), n65) => some (n63, s64))) (fun u => some u))))
theorem law09_Some_r (m : Nat) {n1 : Int} {s2 : Sl (Int × Int)} {out : (Int × (Sl (Int × Int)))} (h : law09_Some n1 s2 = some out) : RunsP E1 (m + 5) 4 [.one (iT .u8 n1), .one (Sl.t r44 s2)] (.fresh, [.agg (r24 out)]) := by
 refine fn_F rfl (by rw [E1_fn]; exact show fiOf Tryd.prog 4 = _ by unfold fiOf; rw [Tryd.func4]; unfold Tryd.f4; rfl) rfl ?_
 dsimp only
 unfold law09_Some at h
 refine lS (lO ?_)
 refine ol_new rfl rfl rfl (q_alloc ty25 (row := [iI 0, nC]) rfl rfl) (fun k3 => ?_)
 refine oN ?_
 refine pq (qm (.one (iC .u8 n1))) ?_
 refine pq (q_conv rfl (cv5_3_u8 _) rfl) ?_
 obtain ⟨n4, h5, h⟩ := bindS h
 refine pq (q_bin rfl rfl (modO_p h5) rfl) ?_
 refine pq (qa (iO n4)) ?_
 refine oN ?_
 refine pq (qa (.one nC)) ?_
 refine oE (eS (lS (lS (lO ?_))))
 refine pq (qa (iO 0)) ?_
 refine oE (eS (lB ?_))
 refine L_addM (α := Int × Int) r44 2 ?_
 let S1 : ((List (Int × Int)) × Int) → Nat → (Nat → D) → Nat → D := fun a kt g => ups g [(1, .one (sF r44 s2)), (4, .one (.ptr k3 0 0)), (5, iO n4), (6, .one (moC a.1 kt)), (7, .one (iI a.2))]
 let SL1 : ((List (Int × Int)) × Int) → Nat → BL := fun a kt => ([[(k3, 2, [[iI 0, nC]])], moL r44 2 a.1 kt] : BL)
 let G1 : (Int × (Sl (Int × Int))) → Ex → St → Prop := fun u => endQ E1 [.cell 4 25] (.fresh, [.agg (r24 u)])
 let Sx1 : (List (Int × Int)) → Nat → (Nat → D) → Nat → D := fun a kt g => ups g [(4, .one (.ptr k3 0 0)), (5, iO n4), (6, .one (moC a kt))]
 let SLx1 : (List (Int × Int)) → Nat → BL := fun a kt => ([[(k3, 2, [[iI 0, nC]])], moL r44 2 a kt] : BL)
 let J1 : ((List (Int × Int)) ⊕ (Int × (Sl (Int × Int)))) → Ex → St → Prop := JX 56 0 Sx1 SLx1 G1
 refine L_loopS (law09_Some_b1 s2 n4) S1 SL1 J1 JX_n (([] : List (Int × Int)), 0) h 1040 (ups_self ⟨rfl, rfl, rfl, rfl, rfl, trivial⟩) [1, 0] (by decide) rfl ?_ ?_
 rintro ⟨l42, n43⟩ k44 g out h
 change law09_Some_b1 s2 n4 (l42, n43) = some out at h
 unfold law09_Some_b1 at h
 refine lS (lS (lO ?_))
 refine pq (qm (iO n43)) ?_
 refine pq (qm (.one (sF r44 s2))) ?_
 refine pq (q_lenS rfl ty22 rfl rfl rfl rfl) ?_
 by_cases c45 : n43 < ((s2.l.length : Nat) : Int)
 replace h := ifT c45 h
 refine pq (qb (p_lss_tZ c45)) ?_
 refine pq (qm bt) ?_
 refine pq (qm (iO n43)) ?_
 by_cases c46 : n43 < 60
 replace h := ifT c46 h
 refine pq (qb (p_lss_tZ c46)) ?_
 refine pq (qpt bt) ?_
 refine pq (qm bt) ?_
 refine pq (qm (iO n4)) ?_
 by_cases c47 : n4 > 0
 replace h := ifT c47 h
 refine pq (qb (p_gtr_tZ c47)) ?_
 refine pq (qpt bt) ?_
 refine oE (eS (cT rfl (lK (eS (lS (lB (lS (lO ?_))))))))
 refine pq (qm (.one (sF r44 s2))) ?_
 refine pq (qm (iO n43)) ?_
 obtain ⟨⟨n50, n51⟩, h49, h⟩ := bindS h
 obtain ⟨h49a, h49b, h49⟩ := atS_some h49
 refine pq (q_ixS rfl rfl h49a h49 (el22.trans (congrArg some h49b.symm))) ?_
 refine pq (q_fieldI rfl fa45_0 rfl) ?_
 refine pq (q_loadI (v := iO n50) rfl sz3 (map_get h49) rfl rfl) ?_
 by_cases c52 : n50 ≥ 0
 replace h := ifT c52 h
 refine pq (qb (p_geq_tZ c52)) ?_
 refine oE (eS (cT rfl ?_))
 refine L_norm (L2 := ([[(k3, 2, [[iI 0, nC]])], moL r44 2 l42 k44] : BL)) [0, 1] (by decide) rfl ?_
 refine L_turn 17 rfl [[], [], [], [], [], [], [], [], [], [], [], [], [], [], [], moK l42 k44, []] [(false, []), (false, []), (false, []), (false, []), (false, []), (false, []), (false, []), (false, []), (false, []), (false, []), (false, []), (false, []), (false, []), (false, []), (true, []), (true, []), (false, [])] [[1, 2, 3, 4, 5, 6, 7, 8, 9, 10, 11, 12, 13, 14], [0, 2, 6, 8, 9, 10, 11, 12], [0, 1, 6, 8, 9, 10, 11, 12], [0, 6, 8, 9, 10, 11, 12], [0, 6, 8, 9, 10, 11, 12], [0, 6, 8, 9, 10, 11, 12], [0, 1, 2, 3, 4, 5, 8, 9, 10, 11, 12], [0, 8, 9, 10, 11, 12], [0, 1, 2, 3, 4, 5, 6, 7, 9], [0, 1, 2, 3, 4, 5, 6, 7, 8], [0, 1, 2, 3, 4, 5, 6, 7], [0, 1, 2, 3, 4, 5, 6, 7], [0, 1, 2, 3, 4, 5, 6, 7], [0], [0], [], []] (by kernel_rfl) (by kernel_rfl) (by kernel_rfl) ?_ (fun bb53 hlt hnd => ?_)
 intro bb53 hlt hnd
 have e_k3 : k3 < bb53 := key_lt hlt 0 rfl
 have e_k44 : l42 = [] ∨ k44 < bb53 := key_ltM (r := r44) (w := 2) hlt 1 rfl
 have f_k44 := moK_lt e_k44
 have d_k44_k3 : k3 ∉ moK l42 k44 := key_neM (r := r44) (w := 2) hnd 1 0 rfl rfl rfl
 have g_k44_k3 := moK_ne d_k44_k3
 exact ⟨(by first | (simp [DJ]; done) | (simp [DJ]; omega) | (simp [DJ]; assumption) | (simp_all [DJ]; done) | (simp_all [DJ]; omega)), (by first | (simp [DJ]; done) | (simp [DJ]; omega) | (simp [DJ]; assumption) | (simp_all [DJ]; done) | (simp_all [DJ]; omega))⟩
 have e_k3 : k3 < bb53 := key_lt hlt 0 rfl
 have e_k44 : l42 = [] ∨ k44 < bb53 := key_ltM (r := r44) (w := 2) hlt 1 rfl
 have f_k44 := moK_lt e_k44
 have d_k44_k3 : k3 ∉ moK l42 k44 := key_neM (r := r44) (w := 2) hnd 1 0 rfl rfl rfl
 have g_k44_k3 := moK_ne d_k44_k3
 refine tq [] rfl hmn (qm (.one (moC l42 k44))) ?_
 refine tq [] rfl (hm0 rfl) (qm (.one (sF r44 s2))) ?_
 refine tq [] rfl (hm0 rfl) (qm (iO n43)) ?_
 refine tq [] rfl (hm0 rfl) (q_ixS rfl rfl h49a h49 (el22.trans (congrArg some h49b.symm))) ?_
 refine tq [] rfl (hm0 rfl) (q_fieldI rfl fa45_0 rfl) ?_
 refine tq [] rfl (hm0 rfl) (q_loadI (v := iO n50) rfl sz3 (map_get h49) rfl rfl) ?_
 refine tq [] rfl (hm0 rfl) (qm (iO n4)) ?_
 obtain ⟨n57, h58, h⟩ := bindS h
 refine tq [] rfl (hm0 rfl) (q_bin rfl rfl (modO_p h58) rfl) ?_
 refine tq [] rfl (hm0 rfl) (qm (.one (sF r44 s2))) ?_
 refine tq [] rfl (hm0 rfl) (qm (iO n43)) ?_
 refine tq [] rfl (hm0 rfl) (q_ixS rfl rfl h49a h49 (el22.trans (congrArg some h49b.symm))) ?_
 refine tq [] rfl (hm0 rfl) (q_fieldI rfl fa45_1 rfl) ?_
 refine tq [] rfl (hm0 rfl) (q_loadI (v := iO n51) rfl sz2 (map_get h49) rfl rfl) ?_
 refine tq [] rfl (hm0 rfl) (q_build (cs := [iI n57, iI n51]) ty45 rfl pl45 rfl) ?_
 refine tn_new rfl rfl rfl [] (by decide) rfl (hm0 rfl) rfl rfl (hkc (ne_new (key_lt hlt 0 rfl)) (hkM (e_k44.imp id fun h => by omega) hkn)) (q_bslice (cs := [iI n57, iI n51]) (es := (([(n57, n51)] : List (Int × Int))).map (rowC r44)) ty22 rfl ty45 rfl rfl rfl rfl rfl) ?_
 obtain ⟨_, h59, h⟩ := bindS h
 obtain ⟨h59b, rfl⟩ := app_some h59
 refine tn_appM (r := r44) (l := l42) 0 2 rfl rfl rfl rfl [2, 0] (by decide) rfl (hm0 rfl) rfl rfl (hkc (ne_add rfl) (hkc (ne_new (key_lt hlt 0 rfl)) (hkM (e_k44.imp id fun h => by omega) hkn))) rfl rfl (el_ownM (l := ([(n57, n51)] : List (Int × Int))) 1 rfl) rfl rfl h59 (fun y => rfl) el22 ty22 rfl rfl rfl rfl rfl ?_
 refine tq [] rfl (hm0 rfl) (qa (.one (moC (l42 ++ ([(n57, n51)] : List (Int × Int))) (bb53 + 15)))) ?_
 refine tn_end (bN (eS (lO ?_)))
 refine pq (qm (iO n43)) ?_
 refine pq (qb p_addY) ?_
 refine pq (qa (iO (IntKind.i64.wrap (n43 + 1)))) ?_
 refine oE ?_
 obtain rfl := sj h
 exact E_next (bb53 + 15) (ups_self ⟨rfl, rfl, rfl, rfl, rfl, trivial⟩) [2, 0] (by decide) rfl
 replace h := ifF c52 h
 refine pq (qb (p_geq_fZ c52)) ?_
 refine oE (eS (cF rfl (lK (bN (eS (lO ?_))))))
 refine pq (qm (iO n43)) ?_
 refine pq (qb p_addY) ?_
 refine pq (qa (iO (IntKind.i64.wrap (n43 + 1)))) ?_
 refine oE ?_
 obtain rfl := sj h
 exact E_next k44 (ups_self ⟨rfl, rfl, rfl, rfl, rfl, trivial⟩) [0, 1] (by decide) rfl
 replace h := ifF c47 h
 refine pq (qb (p_gtr_fZ c47)) ?_
 refine pq (qpt bf) ?_
 refine oE (eS (cF rfl (L_exit ?_)))
 refine E_seqX ?_
 obtain rfl := sj h
 refine E_out ?_
 exact (E_exit k44 (ups_self ⟨rfl, rfl, rfl, trivial⟩) [0, 1] (by decide) rfl)
 replace h := ifF c46 h
 refine pq (qb (p_lss_fZ c46)) ?_
 refine pq (qpt bf) ?_
 refine pq (qm bf) ?_
 iterate 2 refine os ?_
 refine pq (qpf bf) ?_
 refine oE (eS (cF rfl (L_exit ?_)))
 refine E_seqX ?_
 obtain rfl := sj h
 refine E_out ?_
 exact (E_exit k44 (ups_self ⟨rfl, rfl, rfl, trivial⟩) [0, 1] (by decide) rfl)
 replace h := ifF c45 h
 refine pq (qb (p_lss_fZ c45)) ?_
 refine pq (qm bf) ?_
 iterate 2 refine os ?_
 refine pq (qpf bf) ?_
 refine pq (qm bf) ?_
 iterate 2 refine os ?_
 refine pq (qpf bf) ?_
 refine oE (eS (cF rfl (L_exit ?_)))
 refine E_seqX ?_
 obtain rfl := sj h
 refine E_out ?_
 exact (E_exit k44 (ups_self ⟨rfl, rfl, rfl, trivial⟩) [0, 1] (by decide) rfl)
 rintro (l60 | u) h
 refine J_x (fun k61 g => ?_)
 replace h := elimL h
 refine bH (eS (lS (lO ?_)))
 refine pq (qm (iO n4)) ?_
 refine pq (qm (.one (moC l60 k61))) ?_
 obtain ⟨⟨⟨n63, s64⟩, n65⟩, h62, h⟩ := bindS h
 refine pq (qc (.tup [.agg [iI n63, sC r44 s64], iO n65]) [iO 1, iO n4, .one (moC l60 k61)] (ref09_Of_r (m + 0) h62) (vw_cons (vd_one vc_v) (vw_cons (vd_one vc_v) (vw_cons (vd_one (vc_M (r := r44) 1 rfl (fun x h m => rfl))) vw_nil)))) ?_
 refine pq (qm (.tup [.agg [iI n63, sC r44 s64], iO n65])) ?_
 refine pq (q_ext (v := .agg [iI n63, sC r44 s64]) rfl rfl) ?_
 refine pq (q_ext (v := iO n65) rfl rfl) ?_
 refine ol_new rfl rfl rfl (q_alloc ty25 (row := [iI 0, nC]) rfl rfl) (fun k66 => ?_)
 refine ow [[iI n63, sC r44 s64]] 0 sz25 ?_
 refine pq (qa (iO n65)) ?_
 refine oN ?_
 refine pq (ql (.agg [iI n63, sC r44 s64]) 0 sz25) ?_
 refine ow [[iI n63, sC r44 s64]] 1 sz25 ?_
 refine oE (eS (lR ?_))
 obtain rfl := sj h
 exact E_endF (.inr rfl) (res_cell (d := .agg [iI n63, sC r44 s64]) 1 rfl sz25 rfl rfl rfl rfl res_nil) (vw_cons (vd_agg (vc_cons vc_v (vc_cons vc_s vc_nil))) vw_nil) oG rfl rfl
 obtain rfl := Option.some.inj (elimR h)
 exact J_up (fun s hs => hs)
noncomputable def spvec_size (n1 : Int) : Option (Bool) :=
 (if n1 ≥ 0 then (if n1 ≤ 4096 then some true else some false) else some false)
theorem spvec_size_r (m : Nat) {n1 : Int} {out : Bool} (h : spvec_size n1 = some out) : RunsP E1 (m + 1) 25 [.one (iT .i64 n1)] (.fresh, [.one (bT out)]) := by
 refine fn_F rfl (by rw [E1_fn]; exact show fiOf Tryd.prog 25 = _ by unfold fiOf; rw [Tryd.func25]; unfold Tryd.f25; rfl) rfl ?_
 dsimp only
 unfold spvec_size at h
 refine lS (lO ?_)
 refine pq (qa bf) ?_
 refine oN ?_
 refine pq (qm (iO n1)) ?_
 by_cases c2 : n1 ≥ 0
 replace h := ifT c2 h
 refine pq (qb (p_geq_tZ c2)) ?_
 refine pq (qm bt) ?_
 refine pq (qm (iO n1)) ?_
 by_cases c3 : n1 ≤ 4096
 replace h := ifT c3 h
 refine pq (qb (p_leq_tZ c3)) ?_
 refine pq (qpt bt) ?_
 refine pq (qa bt) ?_
 refine oE (eS (lR ?_))
 obtain rfl := sj h
 exact eF1
 replace h := ifF c3 h
 refine pq (qb (p_leq_fZ c3)) ?_
 refine pq (qpt bf) ?_
 refine pq (qa bf) ?_
 refine oE (eS (lR ?_))
 obtain rfl := sj h
 exact eF1
 replace h := ifF c2 h
 refine pq (qb (p_geq_fZ c2)) ?_
 refine pq (qm bf) ?_
 iterate 2 refine os ?_
 refine pq (qpf bf) ?_
 refine pq (qa bf) ?_
 refine oE (eS (lR ?_))
 obtain rfl := sj h
 exact eF1
noncomputable def spvec_Right_b1 (n1 : Int) (s2 : Sl (Int × Int)) (a : Int × Int) : Option ((Int × Int) ⊕ (Unit ⊕ Bool)) :=
 match a with
 | (n24, n25) => (if n25 < ((s2.l.length : Nat) : Int) then ((atS 2 s2 n25).bind fun (n29, n30) => (if n29 ≤ n24 then some (.inr (.inr false)) else (if n29 ≥ n1 then some (.inr (.inr false)) else some (.inl (n29, (IntKind.i64.wrap (n25 + 1))))))) else some (.inr (.inl ())))
noncomputable def spvec_Right (a0 : Int × (Sl (Int × Int))) : Option (Bool) :=
 match a0 with
 | (n1, s2) => ((spvec_size n1).bind fun b5 => (if b5 = true then ((loopO (spvec_Right_b1 n1 s2) ((-1), 0)).bind (Sum.elim (fun _ => some true) (fun u => some u))) else some false))
theorem spvec_Right_r (m : Nat) {a0 : Int × (Sl (Int × Int))} {out : Bool} (h : spvec_Right a0 = some out) : RunsP E1 (m + 2) 15 [.agg (r24 a0)] (.fresh, [.one (bT out)]) := by
 obtain ⟨n1, s2⟩ := a0
 refine fn_F rfl (by rw [E1_fn]; exact show fiOf Tryd.prog 15 = _ by unfold fiOf; rw [Tryd.func15]; unfold Tryd.f15; rfl) rfl ?_
 dsimp only
 unfold spvec_Right at h
 refine lS (lO ?_)
 refine ol_new rfl rfl rfl (q_box ty25 rfl (cs := [iI n1, sF r44 s2]) rfl rfl) (fun k3 => ?_)
 refine pq (qa bf) ?_
 refine oE (eS (lS (lS (lO ?_))))
 refine pq (q_fieldP rfl fa25_0 rfl) ?_
 refine pq (ql (iO n1) 0 sz3) ?_
 obtain ⟨b5, h4, h⟩ := bindS h
 refine pq (qc (bO b5) [iO n1] (spvec_size_r (m + 0) h4) (vw_cons (vd_one vc_v) vw_nil)) ?_
 rcases b5 with _ | _
 replace h := wF h
 refine pq (q_not rfl) ?_
 refine oE (eS (cT rfl (lS (lO ?_))))
 refine pq (qa bf) ?_
 refine oE (eS (lR (eR ?_)))
 obtain rfl := sj h
 exact eF1
 replace h := wT h
 refine pq (q_not rfl) ?_
 refine oE (eS (cF rfl (lK (eS (lS (lO ?_))))))
 refine pq (qa (iO (-1))) ?_
 refine oE (eS (lS (lS (lO ?_))))
 refine pq (q_fieldP rfl fa25_1 rfl) ?_
 refine pq (ql (.one (sF r44 s2)) 0 sz22) ?_
 refine pq (q_lenS rfl ty22 rfl rfl rfl rfl) ?_
 refine pq (qm (iO 0)) ?_
 refine oE (eS (lB ?_))
 let S1 : (Int × Int) → Unit → (Nat → D) → Nat → D := fun a kt g => ups g [(1, .one (.ptr k3 0 0)), (3, .one (iI a.1)), (11, .one (sF r44 s2)), (12, .one (iI ((s2.l.length : Nat) : Int))), (13, .one (iI a.2))]
 let SL1 : (Int × Int) → Unit → BL := fun a kt => ([[(k3, 2, [[iI n1, sF r44 s2]])]] : BL)
 let G1 : Bool → Ex → St → Prop := fun u => endQ E1 [.tmp 2] (.fresh, [.one (bT u)])
 let Sx1 : Unit → Unit → (Nat → D) → Nat → D := fun a kt g => ups g []
 let SLx1 : Unit → Unit → BL := fun a kt => ([] : BL)
 let J1 : (Unit ⊕ Bool) → Ex → St → Prop := JX 31 0 Sx1 SLx1 G1
 refine L_loopS (spvec_Right_b1 n1 s2) S1 SL1 J1 JX_n ((-1), 0) h () (ups_self ⟨rfl, rfl, rfl, rfl, rfl, trivial⟩) [0] (by decide) rfl ?_ ?_
 rintro ⟨n24, n25⟩ _ g out h
 change spvec_Right_b1 n1 s2 (n24, n25) = some out at h
 unfold spvec_Right_b1 at h
 refine lS (lO ?_)
 by_cases c26 : n25 < ((s2.l.length : Nat) : Int)
 replace h := ifT c26 h
 refine pq (qb (p_lss_tZ c26)) ?_
 refine oE (eS (lS (cT rfl (lK (eS (lS (lB (lS (lO ?_)))))))))
 obtain ⟨⟨n29, n30⟩, h28, h⟩ := bindS h
 obtain ⟨h28a, h28b, h28⟩ := atS_some h28
 refine pq (q_ixS rfl rfl h28a h28 (el22.trans (congrArg some h28b.symm))) ?_
 refine pq (q_loadI (v := .agg [iI n29, iI n30]) rfl sz45 (map_get h28) rfl rfl) ?_
 refine ol_new rfl rfl rfl (q_alloc ty45 (row := [iI 0, iI 0]) rfl rfl) (fun k31 => ?_)
 refine ow [[iI n29, iI n30]] 0 sz45 ?_
 refine oE (eS (lS (lS (lO ?_))))
 refine pq (q_fieldP rfl fa45_0 rfl) ?_
 refine pq (ql (iO n29) 0 sz3) ?_
 refine pq (qm (iO n24)) ?_
 by_cases c32 : n29 ≤ n24
 replace h := ifT c32 h
 refine pq (qb (p_leq_tZ c32)) ?_
 refine pq (qm bt) ?_
 iterate 5 refine os ?_
 refine pq (qpt bt) ?_
 refine oE (eS (cT rfl (lS (lO ?_))))
 refine pq (qa bf) ?_
 refine oE (eS (lR (eR (bR (eR ?_)))))
 obtain rfl := sj h
 exact E_out (E_up (eF1))
 replace h := ifF c32 h
 refine pq (qb (p_leq_fZ c32)) ?_
 refine pq (qm bf) ?_
 refine pq (q_fieldP rfl fa45_0 rfl) ?_
 refine pq (ql (iO n29) 0 sz3) ?_
 refine pq (q_fieldP rfl fa25_0 rfl) ?_
 refine pq (ql (iO n1) 1 sz3) ?_
 by_cases c33 : n29 ≥ n1
 replace h := ifT c33 h
 refine pq (qb (p_geq_tZ c33)) ?_
 refine pq (qpf bt) ?_
 refine oE (eS (cT rfl (lS (lO ?_))))
 refine pq (qa bf) ?_
 refine oE (eS (lR (eR (bR (eR ?_)))))
 obtain rfl := sj h
 exact E_out (E_up (eF1))
 replace h := ifF c33 h
 refine pq (qb (p_geq_fZ c33)) ?_
 refine pq (qpf bf) ?_
 refine oE (eS (cF rfl (lK (eS (lO ?_)))))
 refine pq (q_fieldP rfl fa45_0 rfl) ?_
 refine pq (ql (iO n29) 0 sz3) ?_
 refine pq (qa (iO n29)) ?_
 refine oE (bN (eS (lO ?_)))
 refine pq (qb p_addY) ?_
 refine pq (qm (iO (IntKind.i64.wrap (n25 + 1)))) ?_
 refine oE ?_
 obtain rfl := sj h
 exact E_next () (ups_self ⟨rfl, rfl, rfl, rfl, rfl, trivial⟩) [1] (by decide) rfl
 replace h := ifF c26 h
 refine pq (qb (p_lss_fZ c26)) ?_
 refine oE (eS (lS (cF rfl (L_exit ?_))))
 refine E_seqX ?_
 obtain rfl := sj h
 refine E_out ?_
 exact (E_exit () (ups_self trivial) [] (by decide) rfl)
 rintro (_ | u) h
 refine J_x (fun kt g => ?_)
 replace h := elimL h
 refine bH (eS (lS (lO ?_)))
 refine pq (qa bt) ?_
 refine oE (eS (lR ?_))
 obtain rfl := sj h
 exact eF1
 obtain rfl := Option.some.inj (elimR h)
 exact J_up (fun s hs => hs)
noncomputable def flags_words (n1 : Int) : Option (Int) :=
 ((divO .i64 (IntKind.i64.wrap ((minI (maxI n1 0) 4096) + 63)) 64).bind fun n2 => some n2)
theorem flags_words_r (m : Nat) {n1 : Int} {out : Int} (h : flags_words n1 = some out) : RunsP E1 (m + 1) 44 [.one (iT .i64 n1)] (.fresh, [.one (iT .i64 out)]) := by
 refine fn_F rfl (by rw [E1_fn]; exact show fiOf Tryd.prog 44 = _ by unfold fiOf; rw [Tryd.func44]; unfold Tryd.f44; rfl) rfl ?_
 dsimp only
 unfold flags_words at h
 refine lS (lO ?_)
 refine pq (qa (iO 0)) ?_
 refine oN ?_
 refine pq (qm (iO n1)) ?_
 refine pq ((q_minmax rfl rfl ty3 rfl rfl).2 rfl) ?_
 refine pq ((q_minmax rfl rfl ty3 rfl rfl).1 rfl) ?_
 refine pq (qb p_addY) ?_
 obtain ⟨n2, h3, h⟩ := bindS h
 refine pq (q_bin rfl rfl (divO_p h3) rfl) ?_
 refine pq (qa (iO n2)) ?_
 refine oE (eS (lR ?_))
 obtain rfl := sj h
 exact eF1
noncomputable def flags_New (n1 : Int) : Option (List (Int)) :=
 ((flags_words n1).bind fun n3 => ((lenOk n3).bind fun _ => some (List.replicate n3.toNat (0 : Int))))
theorem flags_New_r (m : Nat) {n1 : Int} {out : List (Int)} (h : flags_New n1 = some out) : RunsP E1 (m + 2) 31 [.one (iT .i64 n1)] (.own, [.one (.s true 1 ((out).map r66))]) := by
 refine fn_O rfl (by rw [E1_fn]; exact show fiOf Tryd.prog 31 = _ by unfold fiOf; rw [Tryd.func31]; unfold Tryd.f31; rfl) rfl ?_
 dsimp only
 unfold flags_New at h
 refine lS (lO ?_)
 refine pq (qa (.one nC)) ?_
 refine oN ?_
 refine pq (qm (iO n1)) ?_
 obtain ⟨n3, h2, h⟩ := bindS h
 refine pq (qc (iO n3) [iO n1] (flags_words_r (m + 0) h2) (vw_cons (vd_one vc_v) vw_nil)) ?_
 obtain ⟨u4, h5, h⟩ := bindS h
 refine ol_new rfl rfl rfl (q_mkslice (r := rowC r66) (a := (0 : Int)) ty27 rfl ty66 rfl rfl (lenOk_some h5).1 (lenOk_some h5).2 rfl rfl) (fun k6 => ?_)
 refine pq (qa (.one (.own k6 0 ((List.replicate n3.toNat (0 : Int))).length))) ?_
 refine oE (eS (lR ?_))
 obtain rfl := sj h
 exact E_endO (r := r66) 0 (.inr rfl) (res_tmp rfl res_nil) rfl (fun x h m => rfl) (fun x => rfl)
noncomputable def spvec_sure (a0 : Int × (Sl (Int × Int))) : Option ((Int × (Sl (Int × Int)))) :=
 match a0 with
 | (n1, s2) => ((spvec_Right (n1, s2)).bind fun b6 => (if b6 = true then some (n1, s2) else some (0, (⟨false, 0, []⟩ : Sl (Int × Int)))))
theorem spvec_sure_r (m : Nat) {a0 : Int × (Sl (Int × Int))} {out : (Int × (Sl (Int × Int)))} (h : spvec_sure a0 = some out) : RunsX E1 (m + 3) 19 [.agg (r24 a0)] [.agg (r24 out)] := by
 obtain ⟨n1, s2⟩ := a0
 refine fn_X rfl (by rw [E1_fn]; exact show fiOf Tryd.prog 19 = _ by unfold fiOf; rw [Tryd.func19]; unfold Tryd.f19; rfl) rfl ?_
 dsimp only
 unfold spvec_sure at h
 refine lS (lO ?_)
 refine ol_new rfl rfl rfl (q_box ty25 rfl (cs := [iI n1, sF r44 s2]) rfl rfl) (fun k3 => ?_)
 refine ol_new rfl rfl rfl (q_alloc ty25 (row := [iI 0, nC]) rfl rfl) (fun k4 => ?_)
 refine oE (eS (lS (lS (lO ?_))))
 refine pq (ql (.agg [iI n1, sF r44 s2]) 1 sz25) ?_
 obtain ⟨b6, h5, h⟩ := bindS h
 refine pq (qc (bO b6) [.agg [iI n1, sF r44 s2]] (spvec_Right_r (m + 0) h5) (vw_cons (vd_agg (vc_cons vc_v (vc_cons vc_s vc_nil))) vw_nil)) ?_
 refine oE (eS ?_)
 rcases b6 with _ | _
 replace h := wF h
 refine cF rfl (lK (eS (lS (lO ?_))))
 refine pq (q_build (cs := [iI 0, nC]) ty25 rfl pl25 rfl) ?_
 refine ow [[iI 0, nC]] 0 sz25 ?_
 refine oE (eS (lR ?_))
 obtain rfl := sj h
 exact E_endX (.inr rfl) (res_cell (d := .agg [iI 0, nC]) 0 rfl sz25 rfl rfl rfl rfl res_nil) (vw_cons (vd_agg (vc_cons vc_v (vc_cons vc_s vc_nil))) vw_nil) oG rfl
 replace h := wT h
 refine cT rfl (lS (lO ?_))
 refine pq (ql (.agg [iI n1, sF r44 s2]) 1 sz25) ?_
 refine ow [[iI n1, sF r44 s2]] 0 sz25 ?_
 refine oE (eS (lR (eR ?_)))
 obtain rfl := sj h
 exact E_endX (.inr rfl) (res_cell (d := .agg [iI n1, sF r44 s2]) 0 rfl sz25 rfl rfl rfl rfl res_nil) (vw_cons (vd_agg (vc_cons vc_v (vc_cons vc_s vc_nil))) vw_nil) oG rfl
end Ev
end Go.Proofs.YtmiaonncbefmmaaDoor
end
