/- Texts of a claim, joined. -/
import Derived.Test.YtnikcjnkcjondaaDoorZT6
set_option linter.unusedVariables false
set_option linter.unusedSimpArgs false
section
namespace Go.Proofs.YtnikcjnkcjondaaDoor
namespace Ev
open Go
set_option linter.unusedVariables false
set_option linter.unusedSimpArgs false
set_option maxRecDepth 100000
set_option maxHeartbeats 1000000
attribute [local irreducible] OpsL StL TnL WpL EndL
noncomputable def law13_Right (n1 : Int) : Option (Int) :=
 (if n1 < 1 then some 1 else (if n1 > 5 then some 1 else some n1))
theorem law13_Right_r (m : Nat) {n1 : Int} {out : Int} (h : law13_Right n1 = some out) : RunsP E1 (m + 1) 5 [.one (iT .i64 n1)] (.fresh, [.one (iT .i64 out)]) := by
 refine fn_F rfl (by rw [E1_fn]; exact show fiOf Tryd.prog 5 = _ by unfold fiOf; rw [Tryd.func5]; unfold Tryd.f5; rfl) rfl ?_
 dsimp only
 unfold law13_Right at h
 refine lS (lO ?_)
 refine pq (qa (iO 0)) ?_
 refine oE (eS (lS (lS (lO ?_))))
 refine pq (qm (iO n1)) ?_
 by_cases c2 : n1 < 1
 replace h := ifT c2 h
 refine pq (qb (p_lss_tZ c2)) ?_
 refine pq (qm bt) ?_
 iterate 2 refine os ?_
 refine pq (qpt bt) ?_
 refine oE (eS (cT rfl (lS (lO ?_))))
 refine pq (qa (iO 1)) ?_
 refine oE (eS (lR (eR ?_)))
 obtain rfl := sj h
 exact eF1
 replace h := ifF c2 h
 refine pq (qb (p_lss_fZ c2)) ?_
 refine pq (qm bf) ?_
 refine pq (qm (iO n1)) ?_
 by_cases c3 : n1 > 5
 replace h := ifT c3 h
 refine pq (qb (p_gtr_tZ c3)) ?_
 refine pq (qpf bt) ?_
 refine oE (eS (cT rfl (lS (lO ?_))))
 refine pq (qa (iO 1)) ?_
 refine oE (eS (lR (eR ?_)))
 obtain rfl := sj h
 exact eF1
 replace h := ifF c3 h
 refine pq (qb (p_gtr_fZ c3)) ?_
 refine pq (qpf bf) ?_
 refine oE (eS (cF rfl (lK (eS (lS (lO ?_))))))
 refine pq (qm (iO n1)) ?_
 refine pq (qa (iO n1)) ?_
 refine oE (eS (lR ?_))
 obtain rfl := sj h
 exact eF1
noncomputable def law07_Size (n1 : Int) : Option (Int) :=
 ((modO (IntKind.i64.wrap n1) 40).bind fun n2 => some n2)
theorem law07_Size_r (m : Nat) {n1 : Int} {out : Int} (h : law07_Size n1 = some out) : RunsP E1 (m + 1) 19 [.one (iT .u8 n1)] (.fresh, [.one (iT .i64 out)]) := by
 refine fn_F rfl (by rw [E1_fn]; exact show fiOf Tryd.prog 19 = _ by unfold fiOf; rw [Tryd.func19]; unfold Tryd.f19; rfl) rfl ?_
 dsimp only
 unfold law07_Size at h
 refine lS (lO ?_)
 refine pq (qa (iO 0)) ?_
 refine oN ?_
 refine pq (qm (.one (iC .u8 n1))) ?_
 refine pq (q_conv rfl (cv5_3_u8 _) rfl) ?_
 obtain ⟨n2, h3, h⟩ := bindS h
 refine pq (q_bin rfl rfl (modO_p h3) rfl) ?_
 refine pq (qa (iO n2)) ?_
 refine oE (eS (lR ?_))
 obtain rfl := sj h
 exact eF1
noncomputable def law07_Few (s1 : Sl (Int × Int × Int)) : Option ((Sl (Int × Int × Int))) :=
 (if ((s1.l.length : Nat) : Int) > 60 then ((cutS 3 s1 0 60).bind fun s3 => some s3) else some s1)
theorem law07_Few_r (m : Nat) {s1 : Sl (Int × Int × Int)} {out : (Sl (Int × Int × Int))} (h : law07_Few s1 = some out) : RunsX E1 (m + 1) 36 [.one (Sl.t r76 s1)] [.one (Sl.t r76 out)] := by
 refine fn_X rfl (by rw [E1_fn]; exact show fiOf Tryd.prog 36 = _ by unfold fiOf; rw [Tryd.func36]; unfold Tryd.f36; rfl) rfl ?_
 dsimp only
 unfold law07_Few at h
 refine lS (lO ?_)
 refine pq (qa (.one nC)) ?_
 refine oE (eS (lS (lS (lO ?_))))
 refine pq (qm (.one (sF r76 s1))) ?_
 refine pq (q_lenS rfl ty24 rfl rfl rfl rfl) ?_
 by_cases c2 : ((s1.l.length : Nat) : Int) > 60
 replace h := ifT c2 h
 refine pq (qb (p_gtr_tZ c2)) ?_
 refine oE (eS (cT rfl (lO ?_)))
 refine pq (qm (.one (sF r76 s1))) ?_
 obtain ⟨s3, h4, h⟩ := bindS h
 refine pq (q_sliceS (r := r76) h4 rfl ty24 rfl ty77 no_zero (no_some rfl (Int.le_trans (cutS_some h4).1.1 (cutS_some h4).1.2.1) _)) ?_
 refine pq (qa (.one (sF r76 s3))) ?_
 refine oN ?_
 refine pq (qm (.one (sF r76 s3))) ?_
 refine pq (qa (.one (sF r76 s3))) ?_
 refine oE (eS (lR ?_))
 obtain rfl := sj h
 exact E_endX (.inr rfl) (res_tmp rfl res_nil) (vw_cons (vd_one vc_s) vw_nil) oP rfl
 replace h := ifF c2 h
 refine pq (qb (p_gtr_fZ c2)) ?_
 refine oE (eS (cF rfl (lK (eS (lS (lO ?_))))))
 refine pq (qm (.one (sF r76 s1))) ?_
 refine pq (qa (.one (sF r76 s1))) ?_
 refine oE (eS (lR ?_))
 obtain rfl := sj h
 exact E_endX (.inr rfl) (res_tmp rfl res_nil) (vw_cons (vd_one vc_s) vw_nil) oP rfl
noncomputable def ref02_Is (n1 : Int) : Option (Bool) :=
 (if n1 ≥ 1 then (if n1 ≤ 5 then some true else some false) else some false)
theorem ref02_Is_r (m : Nat) {n1 : Int} {out : Bool} (h : ref02_Is n1 = some out) : RunsP E1 (m + 1) 22 [.one (iT .i64 n1)] (.fresh, [.one (bT out)]) := by
 refine fn_F rfl (by rw [E1_fn]; exact show fiOf Tryd.prog 22 = _ by unfold fiOf; rw [Tryd.func22]; unfold Tryd.f22; rfl) rfl ?_
 dsimp only
 unfold ref02_Is at h
 refine lS (lO ?_)
 refine pq (qa bf) ?_
 refine oN ?_
 refine pq (qm (iO n1)) ?_
 by_cases c2 : n1 ≥ 1
 replace h := ifT c2 h
 refine pq (qb (p_geq_tZ c2)) ?_
 refine pq (qm bt) ?_
 refine pq (qm (iO n1)) ?_
 by_cases c3 : n1 ≤ 5
 replace h := ifT c3 h
 refine pq (qb (p_leq_tZ c3)) ?_
 refine pq (qpt bt) ?_
 refine pq (qa bt) ?_
 refine oE (eS (lR ?_))
 obtain rfl := sj h
 exact eF1
 replace h := ifF c3 h
 refine pq (qb (p_leq_fZ c3)) ?_
 refine pq (qpt bf) ?_
 refine pq (qa bf) ?_
 refine oE (eS (lR ?_))
 obtain rfl := sj h
 exact eF1
 replace h := ifF c2 h
 refine pq (qb (p_geq_fZ c2)) ?_
 refine pq (qm bf) ?_
 iterate 2 refine os ?_
 refine pq (qpf bf) ?_
 refine pq (qa bf) ?_
 refine oE (eS (lR ?_))
 obtain rfl := sj h
 exact eF1
noncomputable def ref05_below (a0 : Int × Int × Int) (a1 : Int × Int × Int) : Option (Bool) :=
 match a0, a1 with
 | (n1, n2, n3), (n4, n5, n6) => (if n1 < n4 then some true else (if n1 = n4 then (if n2 < n5 then some true else some false) else some false))
theorem ref05_below_r (m : Nat) {a0 : Int × Int × Int} {a1 : Int × Int × Int} {out : Bool} (h : ref05_below a0 a1 = some out) : RunsP E1 (m + 1) 72 [.agg (r103 a0), .agg (r103 a1)] (.fresh, [.one (bT out)]) := by
 obtain ⟨n1, n2, n3⟩ := a0
 obtain ⟨n4, n5, n6⟩ := a1
 refine fn_F rfl (by rw [E1_fn]; exact show fiOf Tryd.prog 72 = _ by unfold fiOf; rw [Tryd.func72]; unfold Tryd.f72; rfl) rfl ?_
 dsimp only
 unfold ref05_below at h
 refine lS (lO ?_)
 refine ol_new rfl rfl rfl (q_box ty104 rfl (cs := [iI n1, iI n2, iI n3]) rfl rfl) (fun k7 => ?_)
 refine ol_new rfl rfl rfl (q_box ty104 rfl (cs := [iI n4, iI n5, iI n6]) rfl rfl) (fun k8 => ?_)
 refine pq (qa bf) ?_
 refine oN ?_
 refine pq (q_fieldP rfl fa104_0 rfl) ?_
 refine pq (ql (iO n1) 1 sz3) ?_
 refine pq (q_fieldP rfl fa104_0 rfl) ?_
 refine pq (ql (iO n4) 0 sz3) ?_
 by_cases c9 : n1 < n4
 replace h := ifT c9 h
 refine pq (qb (p_lss_tZ c9)) ?_
 refine pq (qm bt) ?_
 iterate 12 refine os ?_
 refine pq (qpt bt) ?_
 refine pq (qa bt) ?_
 refine oE (eS (lR ?_))
 obtain rfl := sj h
 exact eF1
 replace h := ifF c9 h
 refine pq (qb (p_lss_fZ c9)) ?_
 refine pq (qm bf) ?_
 refine pq (q_fieldP rfl fa104_0 rfl) ?_
 refine pq (ql (iO n1) 1 sz3) ?_
 refine pq (q_fieldP rfl fa104_0 rfl) ?_
 refine pq (ql (iO n4) 0 sz3) ?_
 by_cases c10 : n1 = n4
 replace h := ifT c10 h
 refine pq (qb (p_eql_tZ c10)) ?_
 refine pq (qm bt) ?_
 refine pq (q_fieldP rfl fa104_1 rfl) ?_
 refine pq (ql (iO n2) 1 sz3) ?_
 refine pq (q_fieldP rfl fa104_1 rfl) ?_
 refine pq (ql (iO n5) 0 sz3) ?_
 by_cases c11 : n2 < n5
 replace h := ifT c11 h
 refine pq (qb (p_lss_tZ c11)) ?_
 refine pq (qpt bt) ?_
 refine pq (qpf bt) ?_
 refine pq (qa bt) ?_
 refine oE (eS (lR ?_))
 obtain rfl := sj h
 exact eF1
 replace h := ifF c11 h
 refine pq (qb (p_lss_fZ c11)) ?_
 refine pq (qpt bf) ?_
 refine pq (qpf bf) ?_
 refine pq (qa bf) ?_
 refine oE (eS (lR ?_))
 obtain rfl := sj h
 exact eF1
 replace h := ifF c10 h
 refine pq (qb (p_eql_fZ c10)) ?_
 refine pq (qm bf) ?_
 iterate 5 refine os ?_
 refine pq (qpf bf) ?_
 refine pq (qpf bf) ?_
 refine pq (qa bf) ?_
 refine oE (eS (lR ?_))
 obtain rfl := sj h
 exact eF1
noncomputable def ref01_Of (n1 : Int) : Option ((Int × Int)) :=
 (if n1 < 0 then some ((-1), (IntKind.u64.wrap n1)) else some (0, (IntKind.u64.wrap n1)))
theorem ref01_Of_r (m : Nat) {n1 : Int} {out : (Int × Int)} (h : ref01_Of n1 = some out) : RunsP E1 (m + 1) 26 [.one (iT .i64 n1)] (.fresh, [.agg (r63 out)]) := by
 refine fn_F rfl (by rw [E1_fn]; exact show fiOf Tryd.prog 26 = _ by unfold fiOf; rw [Tryd.func26]; unfold Tryd.f26; rfl) rfl ?_
 dsimp only
 unfold ref01_Of at h
 refine lS (lO ?_)
 refine ol_new rfl rfl rfl (q_alloc ty64 (row := [iI 0, uI 0]) rfl rfl) (fun k2 => ?_)
 refine oE (eS (lS (lS (lO ?_))))
 refine pq (qm (iO n1)) ?_
 by_cases c3 : n1 < 0
 replace h := ifT c3 h
 refine pq (qb (p_lss_tZ c3)) ?_
 refine oE (eS (cT rfl (lS (lO ?_))))
 refine pq (qm (iO n1)) ?_
 refine pq (q_conv rfl (cv2_62_i64 _) rfl) ?_
 refine pq (q_build (cs := [iI (-1), uI (IntKind.u64.wrap n1)]) ty64 rfl pl64 rfl) ?_
 refine ow [[iI (-1), uI (IntKind.u64.wrap n1)]] 0 sz64 ?_
 refine oE (eS (lR (eR ?_)))
 obtain rfl := sj h
 exact E_endF (.inr rfl) (res_cell (d := .agg [iI (-1), uI (IntKind.u64.wrap n1)]) 0 rfl sz64 rfl rfl rfl rfl res_nil) (vw_cons (vd_agg (vc_cons vc_v (vc_cons vc_v vc_nil))) vw_nil) oG rfl rfl
 replace h := ifF c3 h
 refine pq (qb (p_lss_fZ c3)) ?_
 refine oE (eS (cF rfl (lK (eS (lS (lO ?_))))))
 refine pq (qm (iO n1)) ?_
 refine pq (q_conv rfl (cv2_62_i64 _) rfl) ?_
 refine pq (q_build (cs := [iI 0, uI (IntKind.u64.wrap n1)]) ty64 rfl pl64 rfl) ?_
 refine ow [[iI 0, uI (IntKind.u64.wrap n1)]] 0 sz64 ?_
 refine oE (eS (lR ?_))
 obtain rfl := sj h
 exact E_endF (.inr rfl) (res_cell (d := .agg [iI 0, uI (IntKind.u64.wrap n1)]) 0 rfl sz64 rfl rfl rfl rfl res_nil) (vw_cons (vd_agg (vc_cons vc_v (vc_cons vc_v vc_nil))) vw_nil) oG rfl rfl
noncomputable def ref01_Compare (a0 : Int × Int) (a1 : Int × Int) : Option (Int) :=
 match a0, a1 with
 | (n1, n2), (n3, n4) => (if n1 < n3 then some (-1) else (if n1 = n3 then (if n2 < n4 then some (-1) else (if n1 = n3 ∧ n2 = n4 then some 0 else some 1)) else (if n1 = n3 ∧ n2 = n4 then some 0 else some 1)))
theorem ref01_Compare_r (m : Nat) {a0 : Int × Int} {a1 : Int × Int} {out : Int} (h : ref01_Compare a0 a1 = some out) : RunsP E1 (m + 1) 40 [.agg (r63 a0), .agg (r63 a1)] (.fresh, [.one (iT .i64 out)]) := by
 obtain ⟨n1, n2⟩ := a0
 obtain ⟨n3, n4⟩ := a1
 refine fn_F rfl (by rw [E1_fn]; exact show fiOf Tryd.prog 40 = _ by unfold fiOf; rw [Tryd.func40]; unfold Tryd.f40; rfl) rfl ?_
 dsimp only
 unfold ref01_Compare at h
 refine lS (lO ?_)
 refine ol_new rfl rfl rfl (q_box ty64 rfl (cs := [iI n1, uI n2]) rfl rfl) (fun k5 => ?_)
 refine ol_new rfl rfl rfl (q_box ty64 rfl (cs := [iI n3, uI n4]) rfl rfl) (fun k6 => ?_)
 refine pq (qa (iO 0)) ?_
 refine oE (eS (lS (lS (lO ?_))))
 refine pq (q_fieldP rfl fa64_0 rfl) ?_
 refine pq (ql (iO n1) 1 sz2) ?_
 refine pq (q_fieldP rfl fa64_0 rfl) ?_
 refine pq (ql (iO n3) 0 sz2) ?_
 by_cases c7 : n1 < n3
 replace h := ifT c7 h
 refine pq (qb (p_lss_tZ c7)) ?_
 refine pq (qm bt) ?_
 iterate 12 refine os ?_
 refine pq (qpt bt) ?_
 refine oE (eS (cT rfl (lS (lO ?_))))
 refine pq (qa (iO (-1))) ?_
 refine oE (eS (lR (eR ?_)))
 obtain rfl := sj h
 exact eF1
 replace h := ifF c7 h
 refine pq (qb (p_lss_fZ c7)) ?_
 refine pq (qm bf) ?_
 refine pq (q_fieldP rfl fa64_0 rfl) ?_
 refine pq (ql (iO n1) 1 sz2) ?_
 refine pq (q_fieldP rfl fa64_0 rfl) ?_
 refine pq (ql (iO n3) 0 sz2) ?_
 by_cases c8 : n1 = n3
 replace h := ifT c8 h
 refine pq (qb (p_eql_tZ c8)) ?_
 refine pq (qm bt) ?_
 refine pq (q_fieldP rfl fa64_1 rfl) ?_
 refine pq (ql (.one (uI n2)) 1 sz62) ?_
 refine pq (q_fieldP rfl fa64_1 rfl) ?_
 refine pq (ql (.one (uI n4)) 0 sz62) ?_
 by_cases c9 : n2 < n4
 replace h := ifT c9 h
 refine pq (qb (p_lss_tZ c9)) ?_
 refine pq (qpt bt) ?_
 refine pq (qpf bt) ?_
 refine oE (eS (cT rfl (lS (lO ?_))))
 refine pq (qa (iO (-1))) ?_
 refine oE (eS (lR (eR ?_)))
 obtain rfl := sj h
 exact eF1
 replace h := ifF c9 h
 refine pq (qb (p_lss_fZ c9)) ?_
 refine pq (qpt bf) ?_
 refine pq (qpf bf) ?_
 refine oE (eS (cF rfl (lK (eS (lS (lS (lO ?_)))))))
 refine pq (ql (.agg [iI n1, uI n2]) 1 sz64) ?_
 refine pq (ql (.agg [iI n3, uI n4]) 0 sz64) ?_
 by_cases c10 : n1 = n3 ∧ n2 = n4
 replace h := ifT c10 h
 refine pq (q_binA rfl rfl (by rfl) (by rfl) (eqeqlA64_t _ _ c10) rfl) ?_
 refine oE (eS (cT rfl (lS (lO ?_))))
 refine pq (qa (iO 0)) ?_
 refine oE (eS (lR (eR ?_)))
 obtain rfl := sj h
 exact eF1
 replace h := ifF c10 h
 refine pq (q_binA rfl rfl (by rfl) (by rfl) (eqeqlA64_f _ _ c10) rfl) ?_
 refine oE (eS (cF rfl (lK (eS (lS (lO ?_))))))
 refine pq (qa (iO 1)) ?_
 refine oE (eS (lR ?_))
 obtain rfl := sj h
 exact eF1
 replace h := ifF c8 h
 refine pq (qb (p_eql_fZ c8)) ?_
 refine pq (qm bf) ?_
 iterate 5 refine os ?_
 refine pq (qpf bf) ?_
 refine pq (qpf bf) ?_
 refine oE (eS (cF rfl (lK (eS (lS (lS (lO ?_)))))))
 refine pq (ql (.agg [iI n1, uI n2]) 1 sz64) ?_
 refine pq (ql (.agg [iI n3, uI n4]) 0 sz64) ?_
 by_cases c11 : n1 = n3 ∧ n2 = n4
 replace h := ifT c11 h
 refine pq (q_binA rfl rfl (by rfl) (by rfl) (eqeqlA64_t _ _ c11) rfl) ?_
 refine oE (eS (cT rfl (lS (lO ?_))))
 refine pq (qa (iO 0)) ?_
 refine oE (eS (lR (eR ?_)))
 obtain rfl := sj h
 exact eF1
 replace h := ifF c11 h
 refine pq (q_binA rfl rfl (by rfl) (by rfl) (eqeqlA64_f _ _ c11) rfl) ?_
 refine oE (eS (cF rfl (lK (eS (lS (lO ?_))))))
 refine pq (qa (iO 1)) ?_
 refine oE (eS (lR ?_))
 obtain rfl := sj h
 exact eF1
noncomputable def ref02_truth (b1 : Bool) : Option ((Int × Int)) :=
 (if b1 = true then some (0, 1) else some (0, 0))
theorem ref02_truth_r (m : Nat) {b1 : Bool} {out : (Int × Int)} (h : ref02_truth b1 = some out) : RunsP E1 (m + 1) 41 [.one (bT b1)] (.fresh, [.agg (r63 out)]) := by
 refine fn_F rfl (by rw [E1_fn]; exact show fiOf Tryd.prog 41 = _ by unfold fiOf; rw [Tryd.func41]; unfold Tryd.f41; rfl) rfl ?_
 dsimp only
 unfold ref02_truth at h
 refine lS (lO ?_)
 refine ol_new rfl rfl rfl (q_alloc ty64 (row := [iI 0, uI 0]) rfl rfl) (fun k2 => ?_)
 refine oE (eS (lS (lS (lO ?_))))
 refine pq (qm (bO b1)) ?_
 refine oE (eS ?_)
 rcases b1 with _ | _
 replace h := wF h
 refine cF rfl (lK (eS (lS (lO ?_))))
 refine pq (q_build (cs := [iI 0, uI 0]) ty64 rfl pl64 rfl) ?_
 refine ow [[iI 0, uI 0]] 0 sz64 ?_
 refine oE (eS (lR ?_))
 obtain rfl := sj h
 exact E_endF (.inr rfl) (res_cell (d := .agg [iI 0, uI 0]) 0 rfl sz64 rfl rfl rfl rfl res_nil) (vw_cons (vd_agg (vc_cons vc_v (vc_cons vc_v vc_nil))) vw_nil) oG rfl rfl
 replace h := wT h
 refine cT rfl (lS (lO ?_))
 refine pq (q_build (cs := [iI 0, uI 1]) ty64 rfl pl64 rfl) ?_
 refine ow [[iI 0, uI 1]] 0 sz64 ?_
 refine oE (eS (lR (eR ?_)))
 obtain rfl := sj h
 exact E_endF (.inr rfl) (res_cell (d := .agg [iI 0, uI 1]) 0 rfl sz64 rfl rfl rfl rfl res_nil) (vw_cons (vd_agg (vc_cons vc_v (vc_cons vc_v vc_nil))) vw_nil) oG rfl rfl
noncomputable def ref01_Add (a0 : Int × Int) (a1 : Int × Int) : Option ((Int × Int)) :=
 match a0, a1 with
 | (n1, n2), (n3, n4) => (if (IntKind.u64.wrap (n2 + n4)) < n2 then some ((IntKind.i64.wrap ((IntKind.i64.wrap (n1 + n3)) + 1)), (IntKind.u64.wrap (n2 + n4))) else some ((IntKind.i64.wrap (n1 + n3)), (IntKind.u64.wrap (n2 + n4))))
theorem ref01_Add_r (m : Nat) {a0 : Int × Int} {a1 : Int × Int} {out : (Int × Int)} (h : ref01_Add a0 a1 = some out) : RunsP E1 (m + 1) 42 [.agg (r63 a0), .agg (r63 a1)] (.fresh, [.agg (r63 out)]) := by
 obtain ⟨n1, n2⟩ := a0
 obtain ⟨n3, n4⟩ := a1
 refine fn_F rfl (by rw [E1_fn]; exact show fiOf Tryd.prog 42 = _ by unfold fiOf; rw [Tryd.func42]; unfold Tryd.f42; rfl) rfl ?_
 dsimp only
 unfold ref01_Add at h
 refine lS (lO ?_)
 refine ol_new rfl rfl rfl (q_box ty64 rfl (cs := [iI n1, uI n2]) rfl rfl) (fun k5 => ?_)
 refine ol_new rfl rfl rfl (q_box ty64 rfl (cs := [iI n3, uI n4]) rfl rfl) (fun k6 => ?_)
 refine ol_new rfl rfl rfl (q_alloc ty64 (row := [iI 0, uI 0]) rfl rfl) (fun k7 => ?_)
 refine oN ?_
 refine pq (q_fieldP rfl fa64_1 rfl) ?_
 refine pq (ql (.one (uI n2)) 2 sz62) ?_
 refine pq (q_fieldP rfl fa64_1 rfl) ?_
 refine pq (ql (.one (uI n4)) 1 sz62) ?_
 refine pq (qb p_addY) ?_
 refine pq (qa (.one (uI (IntKind.u64.wrap (n2 + n4))))) ?_
 refine oN ?_
 refine pq (q_fieldP rfl fa64_0 rfl) ?_
 refine pq (ql (iO n1) 2 sz2) ?_
 refine pq (q_fieldP rfl fa64_0 rfl) ?_
 refine pq (ql (iO n3) 1 sz2) ?_
 refine pq (qb p_addY) ?_
 refine pq (qa (iO (IntKind.i64.wrap (n1 + n3)))) ?_
 refine oE (eS (lS (lS (lO ?_))))
 refine pq (qm (.one (uI (IntKind.u64.wrap (n2 + n4))))) ?_
 refine pq (q_fieldP rfl fa64_1 rfl) ?_
 refine pq (ql (.one (uI n2)) 2 sz62) ?_
 by_cases c8 : (IntKind.u64.wrap (n2 + n4)) < n2
 replace h := ifT c8 h
 refine pq (qb (p_lss_tZ c8)) ?_
 refine oE (eS (cT rfl (lO ?_)))
 refine pq (qm (iO (IntKind.i64.wrap (n1 + n3)))) ?_
 refine pq (qb p_addY) ?_
 refine pq (qa (.one (iI (IntKind.i64.wrap ((IntKind.i64.wrap (n1 + n3)) + 1))))) ?_
 refine oN ?_
 refine pq (qm (.one (iI (IntKind.i64.wrap ((IntKind.i64.wrap (n1 + n3)) + 1))))) ?_
 refine pq (qm (.one (uI (IntKind.u64.wrap (n2 + n4))))) ?_
 refine pq (q_build (cs := [iI (IntKind.i64.wrap ((IntKind.i64.wrap (n1 + n3)) + 1)), uI (IntKind.u64.wrap (n2 + n4))]) ty64 rfl pl64 rfl) ?_
 refine ow [[iI (IntKind.i64.wrap ((IntKind.i64.wrap (n1 + n3)) + 1)), uI (IntKind.u64.wrap (n2 + n4))]] 0 sz64 ?_
 refine oE (eS (lR ?_))
 obtain rfl := sj h
 exact E_endF (.inr rfl) (res_cell (d := .agg [iI (IntKind.i64.wrap ((IntKind.i64.wrap (n1 + n3)) + 1)), uI (IntKind.u64.wrap (n2 + n4))]) 0 rfl sz64 rfl rfl rfl rfl res_nil) (vw_cons (vd_agg (vc_cons vc_v (vc_cons vc_v vc_nil))) vw_nil) oG rfl rfl
 replace h := ifF c8 h
 refine pq (qb (p_lss_fZ c8)) ?_
 refine oE (eS (cF rfl (lK (eS (lS (lO ?_))))))
 refine pq (qm (iO (IntKind.i64.wrap (n1 + n3)))) ?_
 refine pq (qm (.one (uI (IntKind.u64.wrap (n2 + n4))))) ?_
 refine pq (q_build (cs := [iI (IntKind.i64.wrap (n1 + n3)), uI (IntKind.u64.wrap (n2 + n4))]) ty64 rfl pl64 rfl) ?_
 refine ow [[iI (IntKind.i64.wrap (n1 + n3)), uI (IntKind.u64.wrap (n2 + n4))]] 0 sz64 ?_
 refine oE (eS (lR ?_))
 obtain rfl := sj h
 exact E_endF (.inr rfl) (res_cell (d := .agg [iI (IntKind.i64.wrap (n1 + n3)), uI (IntKind.u64.wrap (n2 + n4))]) 0 rfl sz64 rfl rfl rfl rfl res_nil) (vw_cons (vd_agg (vc_cons vc_v (vc_cons vc_v vc_nil))) vw_nil) oG rfl rfl
noncomputable def ref02_Add (n1 : Int) (a1 : Int × Int) (a2 : Int × Int) : Option ((Int × Int)) :=
 match a1, a2 with
 | (n2, n3), (n4, n5) => (if n1 = 1 then ((ref01_Compare (n4, n5) (n2, n3)).bind fun n11 => (if n11 < 0 then some (n4, n5) else some (n2, n3))) else (if n1 = 3 then ((ref01_Compare (n4, n5) (n2, n3)).bind fun n15 => (if n15 < 0 then some (n4, n5) else some (n2, n3))) else (if n1 = 4 then ((ref01_Compare (n4, n5) (n2, n3)).bind fun n19 => (if n19 < 0 then some (n4, n5) else some (n2, n3))) else (if n1 = 2 then (if n2 = 0 ∧ n3 = 0 then (if n4 = 0 ∧ n5 = 0 then ((ref02_truth false).bind fun (n25, n26) => some (n25, n26)) else ((ref02_truth true).bind fun (n28, n29) => some (n28, n29))) else ((ref02_truth true).bind fun (n31, n32) => some (n31, n32))) else (if n1 = 5 then ((ref01_Add (n2, n3) (n4, n5)).bind fun (n35, n36) => some (n35, n36)) else some (0, 0))))))
theorem ref02_Add_r (m : Nat) {n1 : Int} {a1 : Int × Int} {a2 : Int × Int} {out : (Int × Int)} (h : ref02_Add n1 a1 a2 = some out) : RunsP E1 (m + 2) 25 [.one (iT .i64 n1), .agg (r63 a1), .agg (r63 a2)] (.fresh, [.agg (r63 out)]) := by
 obtain ⟨n2, n3⟩ := a1
 obtain ⟨n4, n5⟩ := a2
 refine fn_F rfl (by rw [E1_fn]; exact show fiOf Tryd.prog 25 = _ by unfold fiOf; rw [Tryd.func25]; unfold Tryd.f25; rfl) rfl ?_
 dsimp only
 unfold ref02_Add at h
 refine lS (lO ?_)
 refine ol_new rfl rfl rfl (q_box ty64 rfl (cs := [iI n2, uI n3]) rfl rfl) (fun k6 => ?_)
 refine ol_new rfl rfl rfl (q_box ty64 rfl (cs := [iI n4, uI n5]) rfl rfl) (fun k7 => ?_)
 refine ol_new rfl rfl rfl (q_alloc ty64 (row := [iI 0, uI 0]) rfl rfl) (fun k8 => ?_)
 refine oN ?_
 refine pq (qm (iO n1)) ?_
 refine oE (eS (lB (lS (lS (lO ?_)))))
 by_cases c9 : n1 = 1
 replace h := ifT c9 h
 refine pq (qb (p_eql_tZ c9)) ?_
 refine pq (qa bt) ?_
 refine oE (eS (cT rfl (lK (eS (cT rfl (lS (lS (lO ?_))))))))
 refine pq (ql (.agg [iI n4, uI n5]) 1 sz64) ?_
 refine pq (ql (.agg [iI n2, uI n3]) 2 sz64) ?_
 obtain ⟨n11, h10, h⟩ := bindS h
 refine pq (qc (iO n11) [.agg [iI n4, uI n5], .agg [iI n2, uI n3]] (ref01_Compare_r (m + 0) h10) (vw_cons (vd_agg (vc_cons vc_v (vc_cons vc_v vc_nil))) (vw_cons (vd_agg (vc_cons vc_v (vc_cons vc_v vc_nil))) vw_nil))) ?_
 by_cases c12 : n11 < 0
 replace h := ifT c12 h
 refine pq (qb (p_lss_tZ c12)) ?_
 refine oE (eS (cT rfl (lS (lO ?_))))
 refine pq (ql (.agg [iI n4, uI n5]) 1 sz64) ?_
 refine ow [[iI n4, uI n5]] 0 sz64 ?_
 refine oE (eS (lR (eR (bR ?_))))
 obtain rfl := sj h
 exact E_endF (.inr rfl) (res_cell (d := .agg [iI n4, uI n5]) 0 rfl sz64 rfl rfl rfl rfl res_nil) (vw_cons (vd_agg (vc_cons vc_v (vc_cons vc_v vc_nil))) vw_nil) oG rfl rfl
 replace h := ifF c12 h
 refine pq (qb (p_lss_fZ c12)) ?_
 refine oE (eS (cF rfl (lK (eS (lS (lO ?_))))))
 refine pq (ql (.agg [iI n2, uI n3]) 2 sz64) ?_
 refine ow [[iI n2, uI n3]] 0 sz64 ?_
 refine oE (eS (lR (bR ?_)))
 obtain rfl := sj h
 exact E_endF (.inr rfl) (res_cell (d := .agg [iI n2, uI n3]) 0 rfl sz64 rfl rfl rfl rfl res_nil) (vw_cons (vd_agg (vc_cons vc_v (vc_cons vc_v vc_nil))) vw_nil) oG rfl rfl
 replace h := ifF c9 h
 refine pq (qb (p_eql_fZ c9)) ?_
 refine pq (qa bf) ?_
 refine oE (eS (cF rfl (lS (lO ?_))))
 by_cases c13 : n1 = 3
 replace h := ifT c13 h
 refine pq (qb (p_eql_tZ c13)) ?_
 refine pq (qa bt) ?_
 refine oE (eS (cT rfl (lK (eS (cT rfl (lS (lS (lO ?_))))))))
 refine pq (ql (.agg [iI n4, uI n5]) 1 sz64) ?_
 refine pq (ql (.agg [iI n2, uI n3]) 2 sz64) ?_
 obtain ⟨n15, h14, h⟩ := bindS h
 refine pq (qc (iO n15) [.agg [iI n4, uI n5], .agg [iI n2, uI n3]] (ref01_Compare_r (m + 0) h14) (vw_cons (vd_agg (vc_cons vc_v (vc_cons vc_v vc_nil))) (vw_cons (vd_agg (vc_cons vc_v (vc_cons vc_v vc_nil))) vw_nil))) ?_
 by_cases c16 : n15 < 0
 replace h := ifT c16 h
 refine pq (qb (p_lss_tZ c16)) ?_
 refine oE (eS (cT rfl (lS (lO ?_))))
 refine pq (ql (.agg [iI n4, uI n5]) 1 sz64) ?_
 refine ow [[iI n4, uI n5]] 0 sz64 ?_
 refine oE (eS (lR (eR (bR ?_))))
 obtain rfl := sj h
 exact E_endF (.inr rfl) (res_cell (d := .agg [iI n4, uI n5]) 0 rfl sz64 rfl rfl rfl rfl res_nil) (vw_cons (vd_agg (vc_cons vc_v (vc_cons vc_v vc_nil))) vw_nil) oG rfl rfl
 replace h := ifF c16 h
 refine pq (qb (p_lss_fZ c16)) ?_
 refine oE (eS (cF rfl (lK (eS (lS (lO ?_))))))
 refine pq (ql (.agg [iI n2, uI n3]) 2 sz64) ?_
 refine ow [[iI n2, uI n3]] 0 sz64 ?_
 refine oE (eS (lR (bR ?_)))
 obtain rfl := sj h
 exact E_endF (.inr rfl) (res_cell (d := .agg [iI n2, uI n3]) 0 rfl sz64 rfl rfl rfl rfl res_nil) (vw_cons (vd_agg (vc_cons vc_v (vc_cons vc_v vc_nil))) vw_nil) oG rfl rfl
 replace h := ifF c13 h
 refine pq (qb (p_eql_fZ c13)) ?_
 refine pq (qa bf) ?_
 refine oE (eS (cF rfl (lO ?_)))
 by_cases c17 : n1 = 4
 replace h := ifT c17 h
 refine pq (qb (p_eql_tZ c17)) ?_
 refine pq (qa bt) ?_
 refine oE (eS (cT rfl (lS (lS (lO ?_)))))
 refine pq (ql (.agg [iI n4, uI n5]) 1 sz64) ?_
 refine pq (ql (.agg [iI n2, uI n3]) 2 sz64) ?_
 obtain ⟨n19, h18, h⟩ := bindS h
 refine pq (qc (iO n19) [.agg [iI n4, uI n5], .agg [iI n2, uI n3]] (ref01_Compare_r (m + 0) h18) (vw_cons (vd_agg (vc_cons vc_v (vc_cons vc_v vc_nil))) (vw_cons (vd_agg (vc_cons vc_v (vc_cons vc_v vc_nil))) vw_nil))) ?_
 by_cases c20 : n19 < 0
 replace h := ifT c20 h
 refine pq (qb (p_lss_tZ c20)) ?_
 refine oE (eS (cT rfl (lS (lO ?_))))
 refine pq (ql (.agg [iI n4, uI n5]) 1 sz64) ?_
 refine ow [[iI n4, uI n5]] 0 sz64 ?_
 refine oE (eS (lR (eR (bR ?_))))
 obtain rfl := sj h
 exact E_endF (.inr rfl) (res_cell (d := .agg [iI n4, uI n5]) 0 rfl sz64 rfl rfl rfl rfl res_nil) (vw_cons (vd_agg (vc_cons vc_v (vc_cons vc_v vc_nil))) vw_nil) oG rfl rfl
 replace h := ifF c20 h
 refine pq (qb (p_lss_fZ c20)) ?_
 refine oE (eS (cF rfl (lK (eS (lS (lO ?_))))))
 refine pq (ql (.agg [iI n2, uI n3]) 2 sz64) ?_
 refine ow [[iI n2, uI n3]] 0 sz64 ?_
 refine oE (eS (lR (bR ?_)))
 obtain rfl := sj h
 exact E_endF (.inr rfl) (res_cell (d := .agg [iI n2, uI n3]) 0 rfl sz64 rfl rfl rfl rfl res_nil) (vw_cons (vd_agg (vc_cons vc_v (vc_cons vc_v vc_nil))) vw_nil) oG rfl rfl
 replace h := ifF c17 h
 refine pq (qb (p_eql_fZ c17)) ?_
 refine pq (qa bf) ?_
 refine oE (eS (cF rfl (lS (lO ?_))))
 by_cases c21 : n1 = 2
 replace h := ifT c21 h
 refine pq (qb (p_eql_tZ c21)) ?_
 refine pq (qa bt) ?_
 refine oE (eS (cT rfl (lS (lO ?_))))
 refine pq (ql (.agg [iI n2, uI n3]) 2 sz64) ?_
 refine pq (q_build (cs := [iI 0, uI 0]) ty64 rfl pl64 rfl) ?_
 by_cases c22 : n2 = 0 ∧ n3 = 0
 replace h := ifT c22 h
 refine pq (q_binA rfl rfl (by rfl) (by rfl) (eqneqA64_t _ _ c22) rfl) ?_
 refine pq (qm bf) ?_
 refine pq (ql (.agg [iI n4, uI n5]) 1 sz64) ?_
 refine pq (q_build (cs := [iI 0, uI 0]) ty64 rfl pl64 rfl) ?_
 by_cases c23 : n4 = 0 ∧ n5 = 0
 replace h := ifT c23 h
 refine pq (q_binA rfl rfl (by rfl) (by rfl) (eqneqA64_t _ _ c23) rfl) ?_
 refine pq (qpf bf) ?_
 obtain ⟨⟨n25, n26⟩, h24, h⟩ := bindS h
 refine pq (qc (.agg [iI n25, uI n26]) [bf] (ref02_truth_r (m + 0) h24) (vw_cons (vd_one vc_v) vw_nil)) ?_
 refine ow [[iI n25, uI n26]] 0 sz64 ?_
 refine oE (eS (lR (bR ?_)))
 obtain rfl := sj h
 exact E_endF (.inr rfl) (res_cell (d := .agg [iI n25, uI n26]) 0 rfl sz64 rfl rfl rfl rfl res_nil) (vw_cons (vd_agg (vc_cons vc_v (vc_cons vc_v vc_nil))) vw_nil) oG rfl rfl
 replace h := ifF c23 h
 refine pq (q_binA rfl rfl (by rfl) (by rfl) (eqneqA64_f _ _ c23) rfl) ?_
 refine pq (qpf bt) ?_
 obtain ⟨⟨n28, n29⟩, h27, h⟩ := bindS h
 refine pq (qc (.agg [iI n28, uI n29]) [bt] (ref02_truth_r (m + 0) h27) (vw_cons (vd_one vc_v) vw_nil)) ?_
 refine ow [[iI n28, uI n29]] 0 sz64 ?_
 refine oE (eS (lR (bR ?_)))
 obtain rfl := sj h
 exact E_endF (.inr rfl) (res_cell (d := .agg [iI n28, uI n29]) 0 rfl sz64 rfl rfl rfl rfl res_nil) (vw_cons (vd_agg (vc_cons vc_v (vc_cons vc_v vc_nil))) vw_nil) oG rfl rfl
 replace h := ifF c22 h
 refine pq (q_binA rfl rfl (by rfl) (by rfl) (eqneqA64_f _ _ c22) rfl) ?_
 refine pq (qm bt) ?_
 iterate 3 refine os ?_
 refine pq (qpt bt) ?_
 obtain ⟨⟨n31, n32⟩, h30, h⟩ := bindS h
 refine pq (qc (.agg [iI n31, uI n32]) [bt] (ref02_truth_r (m + 0) h30) (vw_cons (vd_one vc_v) vw_nil)) ?_
 refine ow [[iI n31, uI n32]] 0 sz64 ?_
 refine oE (eS (lR (bR ?_)))
 obtain rfl := sj h
 exact E_endF (.inr rfl) (res_cell (d := .agg [iI n31, uI n32]) 0 rfl sz64 rfl rfl rfl rfl res_nil) (vw_cons (vd_agg (vc_cons vc_v (vc_cons vc_v vc_nil))) vw_nil) oG rfl rfl
 replace h := ifF c21 h
 refine pq (qb (p_eql_fZ c21)) ?_
 refine pq (qa bf) ?_
 refine oE (eS (cF rfl (lS (lO ?_))))
 by_cases c33 : n1 = 5
 replace h := ifT c33 h
 refine pq (qb (p_eql_tZ c33)) ?_
 refine pq (qa bt) ?_
 refine oE (eS (cT rfl (lS (lO ?_))))
 refine pq (ql (.agg [iI n2, uI n3]) 2 sz64) ?_
 refine pq (ql (.agg [iI n4, uI n5]) 1 sz64) ?_
 obtain ⟨⟨n35, n36⟩, h34, h⟩ := bindS h
 refine pq (qc (.agg [iI n35, uI n36]) [.agg [iI n2, uI n3], .agg [iI n4, uI n5]] (ref01_Add_r (m + 0) h34) (vw_cons (vd_agg (vc_cons vc_v (vc_cons vc_v vc_nil))) (vw_cons (vd_agg (vc_cons vc_v (vc_cons vc_v vc_nil))) vw_nil))) ?_
 refine ow [[iI n35, uI n36]] 0 sz64 ?_
 refine oE (eS (lR (bR ?_)))
 obtain rfl := sj h
 exact E_endF (.inr rfl) (res_cell (d := .agg [iI n35, uI n36]) 0 rfl sz64 rfl rfl rfl rfl res_nil) (vw_cons (vd_agg (vc_cons vc_v (vc_cons vc_v vc_nil))) vw_nil) oG rfl rfl
 replace h := ifF c33 h
 refine pq (qb (p_eql_fZ c33)) ?_
 refine pq (qa bf) ?_
 refine oE (eS (cF rfl (lS (lO ?_))))
 refine pq (q_build (cs := [iI 0, uI 0]) ty64 rfl pl64 rfl) ?_
 refine ow [[iI 0, uI 0]] 0 sz64 ?_
 refine oE (eS (lR (bR ?_)))
 obtain rfl := sj h
 exact E_endF (.inr rfl) (res_cell (d := .agg [iI 0, uI 0]) 0 rfl sz64 rfl rfl rfl rfl res_nil) (vw_cons (vd_agg (vc_cons vc_v (vc_cons vc_v vc_nil))) vw_nil) oG rfl rfl
noncomputable def ref01_Narrow (a0 : Int × Int) : Option (Int × Bool) :=
 match a0 with
 | (n1, n2) => (if n1 = 0 then (if (IntKind.i64.wrap n2) ≥ 0 then some ((IntKind.i64.wrap n2), true) else (if n1 = (-1) then (if (IntKind.i64.wrap n2) < 0 then some ((IntKind.i64.wrap n2), true) else some (0, false)) else some (0, false))) else (if n1 = (-1) then (if (IntKind.i64.wrap n2) < 0 then some ((IntKind.i64.wrap n2), true) else some (0, false)) else some (0, false)))
theorem ref01_Narrow_r (m : Nat) {a0 : Int × Int} {out : Int × Bool} (h : ref01_Narrow a0 = some out) : RunsP E1 (m + 1) 24 [.agg (r63 a0)] (.fresh, [.one (iT .i64 out.1), .one (bT out.2)]) := by
 obtain ⟨n1, n2⟩ := a0
 refine fn_F rfl (by rw [E1_fn]; exact show fiOf Tryd.prog 24 = _ by unfold fiOf; rw [Tryd.func24]; unfold Tryd.f24; rfl) rfl ?_
 dsimp only
 unfold ref01_Narrow at h
 refine lS (lO ?_)
 refine ol_new rfl rfl rfl (q_box ty64 rfl (cs := [iI n1, uI n2]) rfl rfl) (fun k3 => ?_)
 refine pq (qa (iO 0)) ?_
 refine pq (qa bf) ?_
 refine oN ?_
 refine pq (q_fieldP rfl fa64_1 rfl) ?_
 refine pq (ql (.one (uI n2)) 0 sz62) ?_
 refine pq (q_conv rfl (cv62_2_u64 _) rfl) ?_
 refine pq (qa (iO (IntKind.i64.wrap n2))) ?_
 refine oE (eS (lS (lS (lO ?_))))
 refine pq (q_fieldP rfl fa64_0 rfl) ?_
 refine pq (ql (iO n1) 0 sz2) ?_
 by_cases c4 : n1 = 0
 replace h := ifT c4 h
 refine pq (qb (p_eql_tZ c4)) ?_
 refine pq (qm bt) ?_
 refine pq (qm (iO (IntKind.i64.wrap n2))) ?_
 by_cases c5 : (IntKind.i64.wrap n2) ≥ 0
 replace h := ifT c5 h
 refine pq (qb (p_geq_tZ c5)) ?_
 refine pq (qpt bt) ?_
 refine pq (qm bt) ?_
 iterate 7 refine os ?_
 refine pq (qpt bt) ?_
 refine oE (eS (cT rfl (lS (lO ?_))))
 refine pq (qm (iO (IntKind.i64.wrap n2))) ?_
 refine pq (qa (iO (IntKind.i64.wrap n2))) ?_
 refine pq (qa bt) ?_
 refine oE (eS (lR (eR ?_)))
 obtain rfl := sj h
 exact E_endF (.inr rfl) (res_tmp rfl (res_tmp rfl res_nil)) (vw_cons (vd_one vc_v) (vw_cons (vd_one vc_v) vw_nil)) oW rfl rfl
 replace h := ifF c5 h
 refine pq (qb (p_geq_fZ c5)) ?_
 refine pq (qpt bf) ?_
 refine pq (qm bf) ?_
 refine pq (q_fieldP rfl fa64_0 rfl) ?_
 refine pq (ql (iO n1) 0 sz2) ?_
 by_cases c6 : n1 = (-1)
 replace h := ifT c6 h
 refine pq (qb (p_eql_tZ c6)) ?_
 refine pq (qm bt) ?_
 refine pq (qm (iO (IntKind.i64.wrap n2))) ?_
 by_cases c7 : (IntKind.i64.wrap n2) < 0
 replace h := ifT c7 h
 refine pq (qb (p_lss_tZ c7)) ?_
 refine pq (qpt bt) ?_
 refine pq (qpf bt) ?_
 refine oE (eS (cT rfl (lS (lO ?_))))
 refine pq (qm (iO (IntKind.i64.wrap n2))) ?_
 refine pq (qa (iO (IntKind.i64.wrap n2))) ?_
 refine pq (qa bt) ?_
 refine oE (eS (lR (eR ?_)))
 obtain rfl := sj h
 exact E_endF (.inr rfl) (res_tmp rfl (res_tmp rfl res_nil)) (vw_cons (vd_one vc_v) (vw_cons (vd_one vc_v) vw_nil)) oW rfl rfl
 replace h := ifF c7 h
 refine pq (qb (p_lss_fZ c7)) ?_
 refine pq (qpt bf) ?_
 refine pq (qpf bf) ?_
 refine oE (eS (cF rfl (lK (eS (lS (lO ?_))))))
 refine pq (qa (iO 0)) ?_
 refine pq (qa bf) ?_
 refine oE (eS (lR ?_))
 obtain rfl := sj h
 exact E_endF (.inr rfl) (res_tmp rfl (res_tmp rfl res_nil)) (vw_cons (vd_one vc_v) (vw_cons (vd_one vc_v) vw_nil)) oW rfl rfl
 replace h := ifF c6 h
 refine pq (qb (p_eql_fZ c6)) ?_
 refine pq (qm bf) ?_
 iterate 2 refine os ?_
 refine pq (qpf bf) ?_
 refine pq (qpf bf) ?_
 refine oE (eS (cF rfl (lK (eS (lS (lO ?_))))))
 refine pq (qa (iO 0)) ?_
 refine pq (qa bf) ?_
 refine oE (eS (lR ?_))
 obtain rfl := sj h
 exact E_endF (.inr rfl) (res_tmp rfl (res_tmp rfl res_nil)) (vw_cons (vd_one vc_v) (vw_cons (vd_one vc_v) vw_nil)) oW rfl rfl
 replace h := ifF c4 h
 refine pq (qb (p_eql_fZ c4)) ?_
 refine pq (qm bf) ?_
 iterate 2 refine os ?_
 refine pq (qpf bf) ?_
 refine pq (qm bf) ?_
 refine pq (q_fieldP rfl fa64_0 rfl) ?_
 refine pq (ql (iO n1) 0 sz2) ?_
 by_cases c8 : n1 = (-1)
 replace h := ifT c8 h
 refine pq (qb (p_eql_tZ c8)) ?_
 refine pq (qm bt) ?_
 refine pq (qm (iO (IntKind.i64.wrap n2))) ?_
 by_cases c9 : (IntKind.i64.wrap n2) < 0
 replace h := ifT c9 h
 refine pq (qb (p_lss_tZ c9)) ?_
 refine pq (qpt bt) ?_
 refine pq (qpf bt) ?_
 refine oE (eS (cT rfl (lS (lO ?_))))
 refine pq (qm (iO (IntKind.i64.wrap n2))) ?_
 refine pq (qa (iO (IntKind.i64.wrap n2))) ?_
 refine pq (qa bt) ?_
 refine oE (eS (lR (eR ?_)))
 obtain rfl := sj h
 exact E_endF (.inr rfl) (res_tmp rfl (res_tmp rfl res_nil)) (vw_cons (vd_one vc_v) (vw_cons (vd_one vc_v) vw_nil)) oW rfl rfl
 replace h := ifF c9 h
 refine pq (qb (p_lss_fZ c9)) ?_
 refine pq (qpt bf) ?_
 refine pq (qpf bf) ?_
 refine oE (eS (cF rfl (lK (eS (lS (lO ?_))))))
 refine pq (qa (iO 0)) ?_
 refine pq (qa bf) ?_
 refine oE (eS (lR ?_))
 obtain rfl := sj h
 exact E_endF (.inr rfl) (res_tmp rfl (res_tmp rfl res_nil)) (vw_cons (vd_one vc_v) (vw_cons (vd_one vc_v) vw_nil)) oW rfl rfl
 replace h := ifF c8 h
 refine pq (qb (p_eql_fZ c8)) ?_
 refine pq (qm bf) ?_
 iterate 2 refine os ?_
 refine pq (qpf bf) ?_
 refine pq (qpf bf) ?_
 refine oE (eS (cF rfl (lK (eS (lS (lO ?_))))))
 refine pq (qa (iO 0)) ?_
 refine pq (qa bf) ?_
 refine oE (eS (lR ?_))
 obtain rfl := sj h
 exact E_endF (.inr rfl) (res_tmp rfl (res_tmp rfl res_nil)) (vw_cons (vd_one vc_v) (vw_cons (vd_one vc_v) vw_nil)) oW rfl rfl
noncomputable def ref05_Combine_b3 (n440 : Int) (a : (List (Int × Int × Int)) × (List (Int × Int)) × Int) : Option (((List (Int × Int × Int)) × (List (Int × Int)) × Int) ⊕ (((List (Int × Int × Int)) × (List (Int × Int))) ⊕ (((List (Int × Int × Int)) × (List (Int × Int)) × Int) ⊕ (((List (Int × Int × Int)) × (List (Int × Int))) ⊕ ((Sl (Int × Int × Int)) × Int))))) :=
 match a with
 | (l522, l523, n524) => (if n524 > n440 then ((atS 3 (mo 3 l522) (IntKind.i64.wrap (n524 - 1))).bind fun (n530, n531, n532) => ((atS 3 (mo 3 l522) n524).bind fun (n535, n536, n537) => ((atS 2 (mo 2 l523) (IntKind.i64.wrap (n524 - 1))).bind fun (n540, n541) => ((atS 2 (mo 2 l523) n524).bind fun (n544, n545) => some (.inl ((l522.set n524.toNat (n530, n531, n532)), (l523.set n524.toNat (n540, n541)), (IntKind.i64.wrap (n524 - 1)))))))) else some (.inr (.inl (l522, l523))))
noncomputable def ref05_Combine_b4 (n440 : Int) (a : (List (Int × Int × Int)) × (List (Int × Int)) × Int) : Option (((List (Int × Int × Int)) × (List (Int × Int)) × Int) ⊕ (((List (Int × Int × Int)) × (List (Int × Int))) ⊕ (((List (Int × Int × Int)) × (List (Int × Int)) × Int) ⊕ (((List (Int × Int × Int)) × (List (Int × Int))) ⊕ ((Sl (Int × Int × Int)) × Int))))) :=
 match a with
 | (l614, l615, n616) => (if n616 > n440 then ((atS 3 (mo 3 l614) (IntKind.i64.wrap (n616 - 1))).bind fun (n622, n623, n624) => ((atS 3 (mo 3 l614) n616).bind fun (n627, n628, n629) => ((atS 2 (mo 2 l615) (IntKind.i64.wrap (n616 - 1))).bind fun (n632, n633) => ((atS 2 (mo 2 l615) n616).bind fun (n636, n637) => some (.inl ((l614.set n616.toNat (n622, n623, n624)), (l615.set n616.toNat (n632, n633)), (IntKind.i64.wrap (n616 - 1)))))))) else some (.inr (.inl (l614, l615))))
noncomputable def ref05_Combine_b2 (s2 : Sl (Int × Int × Int)) (l393 : List (Int × Int × Int)) (n395 : Int) (n426 : Int) : Option (Int ⊕ (Int ⊕ (((List (Int × Int × Int)) × (List (Int × Int)) × Int) ⊕ (((List (Int × Int × Int)) × (List (Int × Int))) ⊕ ((Sl (Int × Int × Int)) × Int))))) :=
 (if n426 < ((l393.length : Nat) : Int) then ((atS 3 (mo 3 l393) n426).bind fun (n430, n431, n432) => ((atS 3 s2 n395).bind fun (n435, n436, n437) => ((ref05_below (n430, n431, n432) (n435, n436, n437)).bind fun b439 => (if b439 = true then some (.inl (IntKind.i64.wrap (n426 + 1))) else some (.inr (.inl n426)))))) else some (.inr (.inl n426)))
noncomputable def ref05_Combine_b5 (l658 : List (Int × Int)) (a : (List (Int × Int × Int)) × Int) : Option (((List (Int × Int × Int)) × Int) ⊕ ((List (Int × Int × Int)) ⊕ ((Sl (Int × Int × Int)) × Int))) :=
 match a with
 | (l690, n691) => (if n691 < ((l690.length : Nat) : Int) then ((atS 2 (mo 2 l658) n691).bind fun (n696, n697) => ((ref01_Narrow (n696, n697)).bind fun (n699, b700) => (if b700 = true then ((atS 3 (mo 3 l690) n691).bind fun (n703, n704, n705) => some (.inl ((l690.set n691.toNat (n703, n704, n699)), (IntKind.i64.wrap (n691 + 1))))) else some (.inr (.inr ((⟨false, 0, []⟩ : Sl (Int × Int × Int)), 12)))))) else some (.inr (.inl l690)))
noncomputable def ref05_Combine_b1 (n1 : Int) (s2 : Sl (Int × Int × Int)) (a : (List (Int × Int × Int)) × (List (Int × Int)) × Int) : Option (((List (Int × Int × Int)) × (List (Int × Int)) × Int) ⊕ (((List (Int × Int × Int)) × (List (Int × Int))) ⊕ ((Sl (Int × Int × Int)) × Int))) :=
 match a with
 | (l393, l394, n395) => (if n395 < ((s2.l.length : Nat) : Int) then ((loopO (ref05_Combine_b2 s2 l393 n395) 0).bind (Sum.elim (fun n440 => ((atS 3 s2 n395).bind fun (n443, n444, n445) => ((ref01_Of n445).bind fun (n447, n448) => (if n440 < ((l393.length : Nat) : Int) then ((atS 3 (mo 3 l393) n440).bind fun (n453, n454, n455) => ((ref05_below (n443, n444, n445) (n453, n454, n455)).bind fun b457 => (if b457 = true then ((app l393 ([(0, 0, 0)] : List (Int × Int × Int))).bind fun _ => ((app l394 ([(0, 0)] : List (Int × Int))).bind fun _ => ((loopO (ref05_Combine_b3 n440) ((l393 ++ ([(0, 0, 0)] : List (Int × Int × Int))), (l394 ++ ([(0, 0)] : List (Int × Int))), (IntKind.i64.wrap ((((l393 ++ ([(0, 0, 0)] : List (Int × Int × Int))).length : Nat) : Int) - 1)))).bind (Sum.elim (fun ⟨l546, l547⟩ => ((atS 3 (mo 3 l546) n440).bind fun (n558, n559, n560) => ((atS 2 (mo 2 l547) n440).bind fun (n563, n564) => some (.inl ((l546.set n440.toNat (n443, n444, 0)), (l547.set n440.toNat (n447, n448)), (IntKind.i64.wrap (n395 + 1))))))) (fun u => some u))))) else ((atS 2 (mo 2 l394) n440).bind fun (n468, n469) => ((ref02_Add n1 (n468, n469) (n447, n448)).bind fun (n471, n472) => some (.inl (l393, (l394.set n440.toNat (n471, n472)), (IntKind.i64.wrap (n395 + 1))))))))) else ((app l393 ([(0, 0, 0)] : List (Int × Int × Int))).bind fun _ => ((app l394 ([(0, 0)] : List (Int × Int))).bind fun _ => ((loopO (ref05_Combine_b4 n440) ((l393 ++ ([(0, 0, 0)] : List (Int × Int × Int))), (l394 ++ ([(0, 0)] : List (Int × Int))), (IntKind.i64.wrap ((((l393 ++ ([(0, 0, 0)] : List (Int × Int × Int))).length : Nat) : Int) - 1)))).bind (Sum.elim (fun ⟨l638, l639⟩ => ((atS 3 (mo 3 l638) n440).bind fun (n650, n651, n652) => ((atS 2 (mo 2 l639) n440).bind fun (n655, n656) => some (.inl ((l638.set n440.toNat (n443, n444, 0)), (l639.set n440.toNat (n447, n448)), (IntKind.i64.wrap (n395 + 1))))))) (fun u => some u))))))))) (fun u => some u))) else some (.inr (.inl (l393, l394))))
noncomputable def ref05_Combine (n1 : Int) (s2 : Sl (Int × Int × Int)) : Option ((Sl (Int × Int × Int)) × Int) :=
 ((ref02_Is n1).bind fun b4 => (if b4 = true then ((loopO (ref05_Combine_b1 n1 s2) (([] : List (Int × Int × Int)), ([] : List (Int × Int)), 0)).bind (Sum.elim (fun ⟨l657, l658⟩ => ((loopO (ref05_Combine_b5 l658) (l657, 0)).bind (Sum.elim (fun l706 => some ((mo 3 l706), 0)) (fun u => some u)))) (fun u => some u))) else some ((⟨false, 0, []⟩ : Sl (Int × Int × Int)), 8)))
theorem ref05_Combine_r (m : Nat) {n1 : Int} {s2 : Sl (Int × Int × Int)} {out : (Sl (Int × Int × Int)) × Int} (h : ref05_Combine n1 s2 = some out) : RunsP E1 (m + 3) 56 [.one (iT .i64 n1), .one (Sl.t r103 s2)] (.fresh, [.one (Sl.t r103 out.1), .one (iT .i64 out.2)]) := by
 refine fn_F rfl (by rw [E1_fn]; exact show fiOf Tryd.prog 56 = _ by unfold fiOf; rw [Tryd.func56]; unfold Tryd.f56; rfl) rfl ?_
 dsimp only
 unfold ref05_Combine at h
 refine lS (lO ?_)
 refine pq (qa (.one nC)) ?_
 refine pq (qa (iO 0)) ?_
 refine oE (eS (lS (lS (lO ?_))))
 refine pq (qm (iO n1)) ?_
 obtain ⟨b4, h3, h⟩ := bindS h
 refine pq (qc (bO b4) [iO n1] (ref02_Is_r (m + 1) h3) (vw_cons (vd_one vc_v) vw_nil)) ?_
 rcases b4 with _ | _
 replace h := wF h
 refine pq (q_not rfl) ?_
 refine oE (eS (cT rfl (lS (lO ?_))))
 refine pq (qa (.one nC)) ?_
 refine pq (qa (iO 8)) ?_
 refine oE (eS (lR (eR ?_)))
 obtain rfl := sj h
 exact E_endF (.inr rfl) (res_tmp rfl (res_tmp rfl res_nil)) (vw_cons (vd_one vc_s) (vw_cons (vd_one vc_v) vw_nil)) oW rfl rfl
 replace h := wT h
 refine pq (q_not rfl) ?_
 refine oE (eS (cF rfl (lK (eS (lS (lO ?_))))))
 refine pq (qa (.one nC)) ?_
 refine oN ?_
 refine pq (qa (.one nC)) ?_
 refine oE (eS (lS (lS (lO ?_))))
 refine pq (qa (iO 0)) ?_
 refine oE (eS (lB ?_))
 refine L_addM (α := Int × Int × Int) r103 3 ?_
 refine L_addM (α := Int × Int) r63 2 ?_
 let S1 : ((List (Int × Int × Int)) × (List (Int × Int)) × Int) → (Nat × Nat) → (Nat → D) → Nat → D := fun a kt g => ups g [(0, iO n1), (1, .one (sF r103 s2)), (6, .one (moC a.1 kt.1)), (7, .one (moC a.2.1 kt.2)), (8, .one (iI a.2.2))]
 let SL1 : ((List (Int × Int × Int)) × (List (Int × Int)) × Int) → (Nat × Nat) → BL := fun a kt => ([moL r103 3 a.1 kt.1, moL r63 2 a.2.1 kt.2] : BL)
 let G1 : ((Sl (Int × Int × Int)) × Int) → Ex → St → Prop := fun u => endQ E1 [.tmp 4, .tmp 5] (.fresh, [.one (Sl.t r103 u.1), .one (iT .i64 u.2)])
 let Sx1 : ((List (Int × Int × Int)) × (List (Int × Int))) → (Nat × Nat) → (Nat → D) → Nat → D := fun a kt g => ups g [(6, .one (moC a.1 kt.1)), (7, .one (moC a.2 kt.2))]
 let SLx1 : ((List (Int × Int × Int)) × (List (Int × Int))) → (Nat × Nat) → BL := fun a kt => ([moL r103 3 a.1 kt.1, moL r63 2 a.2 kt.2] : BL)
 let J1 : (((List (Int × Int × Int)) × (List (Int × Int))) ⊕ ((Sl (Int × Int × Int)) × Int)) → Ex → St → Prop := JX 145 0 Sx1 SLx1 G1
 refine L_loopS (ref05_Combine_b1 n1 s2) S1 SL1 J1 JX_n (([] : List (Int × Int × Int)), ([] : List (Int × Int)), 0) h (1390, 1391) (ups_self ⟨rfl, rfl, rfl, rfl, rfl, trivial⟩) [1, 0] (by decide) rfl ?_ ?_
 rintro ⟨l393, l394, n395⟩ ⟨k396, k397⟩ g out h
 change ref05_Combine_b1 n1 s2 (l393, l394, n395) = some out at h
 unfold ref05_Combine_b1 at h
 refine lS (lS (lO ?_))
 refine pq (qm (iO n395)) ?_
 refine pq (qm (.one (sF r103 s2))) ?_
 refine pq (q_lenS rfl ty102 rfl rfl rfl rfl) ?_
 by_cases c398 : n395 < ((s2.l.length : Nat) : Int)
 replace h := ifT c398 h
 refine pq (qb (p_lss_tZ c398)) ?_
 refine oE (eS (cT rfl (lK (eS (lS (lB (lS (lO ?_))))))))
 refine pq (qa (iO 0)) ?_
 refine oE (eS (lS (lB ?_)))
 let S2 : Int → Unit → (Nat → D) → Nat → D := fun a kt g => ups g [(0, iO n1), (1, .one (sF r103 s2)), (6, .one (moC l393 k396)), (7, .one (moC l394 k397)), (8, iO n395), (9, iO a)]
 let SL2 : Int → Unit → BL := fun a kt => ([moL r103 3 l393 k396, moL r63 2 l394 k397] : BL)
 let G2 : (((List (Int × Int × Int)) × (List (Int × Int)) × Int) ⊕ (((List (Int × Int × Int)) × (List (Int × Int))) ⊕ ((Sl (Int × Int × Int)) × Int))) → Ex → St → Prop := LQ 145 S1 SL1 J1
 let Sx2 : Int → Unit → (Nat → D) → Nat → D := fun a kt g => ups g [(0, iO n1), (1, .one (sF r103 s2)), (6, .one (moC l393 k396)), (7, .one (moC l394 k397)), (8, iO n395), (9, iO a)]
 let SLx2 : Int → Unit → BL := fun a kt => ([moL r103 3 l393 k396, moL r63 2 l394 k397] : BL)
 let J2 : (Int ⊕ (((List (Int × Int × Int)) × (List (Int × Int)) × Int) ⊕ (((List (Int × Int × Int)) × (List (Int × Int))) ⊕ ((Sl (Int × Int × Int)) × Int)))) → Ex → St → Prop := JX 145 2 Sx2 SLx2 G2
 refine L_loopS (ref05_Combine_b2 s2 l393 n395) S2 SL2 J2 JX_n 0 h () (ups_self ⟨rfl, rfl, rfl, rfl, rfl, rfl, trivial⟩) [0, 1] (by decide) rfl ?_ ?_
 rintro n426 _ g out h
 change ref05_Combine_b2 s2 l393 n395 n426 = some out at h
 unfold ref05_Combine_b2 at h
 refine lS (lS ?_)
 refine L_still (by kernel_rfl) ?_
 refine sq (qm (iO n426)) ?_
 refine sq (qm (.one (moC l393 k396))) ?_
 refine sq (q_lenM (l := l393) rfl ty102 rfl rfl rfl rfl) ?_
 by_cases c427 : n426 < ((l393.length : Nat) : Int)
 replace h := ifT c427 h
 refine sq (qb (p_lss_tZ c427)) ?_
 refine sq (qm bt) ?_
 refine sq (qm (.one (moC l393 k396))) ?_
 refine sq (qm (iO n426)) ?_
 obtain ⟨⟨n430, n431, n432⟩, h429, h⟩ := bindS h
 obtain ⟨h429a, h429⟩ := atM_some h429
 refine sq (q_ixM (r := r103) 0 rfl rfl h429a h429 rfl el102) ?_
 refine sq (q_loadP (v := .agg [iI n430, iI n431, iI n432]) 0 rfl sz104 (segM (r := r103) rfl h429) (map_get h429) rfl rfl) ?_
 refine sq (qm (.one (sF r103 s2))) ?_
 refine sq (qm (iO n395)) ?_
 obtain ⟨⟨n435, n436, n437⟩, h434, h⟩ := bindS h
 obtain ⟨h434a, h434b, h434⟩ := atS_some h434
 refine sq (q_ixS rfl rfl h434a h434 (el102.trans (congrArg some h434b.symm))) ?_
 refine sq (q_loadI (v := .agg [iI n435, iI n436, iI n437]) rfl sz104 (map_get h434) rfl rfl) ?_
 obtain ⟨b439, h438, h⟩ := bindS h
 refine sq (qc (bO b439) [.agg [iI n430, iI n431, iI n432], .agg [iI n435, iI n436, iI n437]] (ref05_below_r (m + 1) h438) (vw_cons (vd_agg (vc_cons vc_v (vc_cons vc_v (vc_cons vc_v vc_nil)))) (vw_cons (vd_agg (vc_cons vc_v (vc_cons vc_v (vc_cons vc_v vc_nil)))) vw_nil))) ?_
 refine sq (qpt (bO b439)) ?_
 refine st_end (eS ?_)
 rcases b439 with _ | _
 replace h := wF h
 refine cF rfl (L_exit ?_)
 refine E_seqX ?_
 obtain rfl := sj h
 refine E_out ?_
 exact (E_exit () (ups_self ⟨rfl, rfl, rfl, rfl, rfl, rfl, trivial⟩) [0, 1] (by decide) rfl)
 replace h := wT h
 refine cT rfl (lK (eS (lB (lO ?_))))
 refine pq (qm (iO n426)) ?_
 refine pq (qb p_addY) ?_
 refine pq (qa (iO (IntKind.i64.wrap (n426 + 1)))) ?_
 refine oE (bN ?_)
 obtain rfl := sj h
 exact E_next () (ups_self ⟨rfl, rfl, rfl, rfl, rfl, rfl, trivial⟩) [0, 1] (by decide) rfl
 replace h := ifF c427 h
 refine sq (qb (p_lss_fZ c427)) ?_
 refine sq (qm bf) ?_
 iterate 9 refine ss ?_
 refine sq (qpf bf) ?_
 refine st_end (eS (cF rfl (L_exit ?_)))
 refine E_seqX ?_
 obtain rfl := sj h
 refine E_out ?_
 exact (E_exit () (ups_self ⟨rfl, rfl, rfl, rfl, rfl, rfl, trivial⟩) [0, 1] (by decide) rfl)
 rintro (n440 | u) h
 refine J_x (fun kt g => ?_)
 replace h := elimL h
 refine bH (eS (lS (lO ?_)))
 refine pq (qm (.one (sF r103 s2))) ?_
 refine pq (qm (iO n395)) ?_
 obtain ⟨⟨n443, n444, n445⟩, h442, h⟩ := bindS h
 obtain ⟨h442a, h442b, h442⟩ := atS_some h442
 refine pq (q_ixS rfl rfl h442a h442 (el102.trans (congrArg some h442b.symm))) ?_
 refine pq (q_fieldI rfl fa104_2 rfl) ?_
 refine pq (q_loadI (v := iO n445) rfl sz2 (map_get h442) rfl rfl) ?_
 obtain ⟨⟨n447, n448⟩, h446, h⟩ := bindS h
 refine pq (qc (.agg [iI n447, uI n448]) [iO n445] (ref01_Of_r (m + 1) h446) (vw_cons (vd_one vc_v) vw_nil)) ?_
 refine ol_new rfl rfl rfl (q_alloc ty64 (row := [iI 0, uI 0]) rfl rfl) (fun k449 => ?_)
 refine ow [[iI n447, uI n448]] 0 sz64 ?_
 refine oE (eS (lS (lS ?_)))
 refine L_still (by kernel_rfl) ?_
 refine sq (qm (iO n440)) ?_
 refine sq (qm (.one (moC l393 k396))) ?_
 refine sq (q_lenM (l := l393) rfl ty102 rfl rfl rfl rfl) ?_
 by_cases c450 : n440 < ((l393.length : Nat) : Int)
 replace h := ifT c450 h
 refine sq (qb (p_lss_tZ c450)) ?_
 refine sq (qm bt) ?_
 refine sq (qm (.one (sF r103 s2))) ?_
 refine sq (qm (iO n395)) ?_
 refine sq (q_ixS rfl rfl h442a h442 (el102.trans (congrArg some h442b.symm))) ?_
 refine sq (q_loadI (v := .agg [iI n443, iI n444, iI n445]) rfl sz104 (map_get h442) rfl rfl) ?_
 refine sq (qm (.one (moC l393 k396))) ?_
 refine sq (qm (iO n440)) ?_
 obtain ⟨⟨n453, n454, n455⟩, h452, h⟩ := bindS h
 obtain ⟨h452a, h452⟩ := atM_some h452
 refine sq (q_ixM (r := r103) 1 rfl rfl h452a h452 rfl el102) ?_
 refine sq (q_loadP (v := .agg [iI n453, iI n454, iI n455]) 1 rfl sz104 (segM (r := r103) rfl h452) (map_get h452) rfl rfl) ?_
 obtain ⟨b457, h456, h⟩ := bindS h
 refine sq (qc (bO b457) [.agg [iI n443, iI n444, iI n445], .agg [iI n453, iI n454, iI n455]] (ref05_below_r (m + 1) h456) (vw_cons (vd_agg (vc_cons vc_v (vc_cons vc_v (vc_cons vc_v vc_nil)))) (vw_cons (vd_agg (vc_cons vc_v (vc_cons vc_v (vc_cons vc_v vc_nil)))) vw_nil))) ?_
 rcases b457 with _ | _
 replace h := wF h
 refine sq (q_not rfl) ?_
 refine sq (qpt bt) ?_
 refine st_end (eS (cT rfl (lS ?_)))
 refine L_norm (L2 := ([[(k449, 2, [[iI n447, uI n448]])], moL r103 3 l393 k396, moL r63 2 l394 k397] : BL)) [0, 1, 2] (by decide) rfl ?_
 refine L_turn 11 rfl [[], [], [], [], [], [], [], [], [], [], moK l394 k397] [(false, []), (false, []), (false, []), (false, []), (false, []), (false, []), (false, []), (false, []), (false, []), (false, []), (false, [])] [[1, 2, 3, 4, 5, 6, 7, 8], [0, 2, 3, 4, 5, 6, 7, 8], [0, 1, 3, 4, 5, 6, 7], [0, 1, 2, 4, 7], [0, 1, 2, 3, 7], [0, 1, 2, 7], [0, 1, 2, 7], [0, 1, 2, 3, 4, 5, 6], [0, 1], [], []] (by kernel_rfl) (by kernel_rfl) (by kernel_rfl) ?_ (fun bb458 hlt hnd => ?_)
 intro bb458 hlt hnd
 have e_k449 : k449 < bb458 := key_lt hlt 0 rfl
 have e_k396 : l393 = [] ∨ k396 < bb458 := key_ltM (r := r103) (w := 3) hlt 1 rfl
 have e_k397 : l394 = [] ∨ k397 < bb458 := key_ltM (r := r63) (w := 2) hlt 2 rfl
 have f_k397 := moK_lt e_k397
 have d_k397_k449 : k449 ∉ moK l394 k397 := key_neM (r := r63) (w := 2) hnd 2 0 rfl rfl rfl
 have g_k397_k449 := moK_ne d_k397_k449
 exact ⟨(by first | (simp [DJ]; done) | (simp [DJ]; omega) | (simp [DJ]; assumption) | (simp_all [DJ]; done) | (simp_all [DJ]; omega)), (by first | (simp [DJ]; done) | (simp [DJ]; omega) | (simp [DJ]; assumption) | (simp_all [DJ]; done) | (simp_all [DJ]; omega))⟩
 have e_k449 : k449 < bb458 := key_lt hlt 0 rfl
 have e_k396 : l393 = [] ∨ k396 < bb458 := key_ltM (r := r103) (w := 3) hlt 1 rfl
 have e_k397 : l394 = [] ∨ k397 < bb458 := key_ltM (r := r63) (w := 2) hlt 2 rfl
 have f_k397 := moK_lt e_k397
 have d_k397_k449 : k449 ∉ moK l394 k397 := key_neM (r := r63) (w := 2) hnd 2 0 rfl rfl rfl
 have g_k397_k449 := moK_ne d_k397_k449
 refine tq [] rfl (hm0 rfl) (qm (.one (moC l394 k397))) ?_
 refine tq [] rfl (hm0 rfl) (qm (iO n440)) ?_
 refine tq [] rfl (hm0 rfl) (qm (iO n1)) ?_
 refine tq [] rfl (hm0 rfl) (qm (.one (moC l394 k397))) ?_
 refine tq [] rfl (hm0 rfl) (qm (iO n440)) ?_
 obtain ⟨⟨n468, n469⟩, h467, h⟩ := bindS h
 obtain ⟨h467a, h467⟩ := atM_some h467
 refine tq [2] rfl (hm0 rfl) (q_ixM (r := r63) 0 rfl rfl h467a h467 rfl el114) ?_
 refine tq [2] rfl (hm0 rfl) (q_loadP (v := .agg [iI n468, uI n469]) 0 rfl sz64 (segM (r := r63) rfl h467) (map_get h467) rfl rfl) ?_
 refine tq [0] rfl (hm0 rfl) (ql (.agg [iI n447, uI n448]) 0 sz64) ?_
 obtain ⟨⟨n471, n472⟩, h470, h⟩ := bindS h
 refine tq [] rfl (hm0 rfl) (qc (.agg [iI n471, uI n472]) [iO n1, .agg [iI n468, uI n469], .agg [iI n447, uI n448]] (ref02_Add_r (m + 0) h470) (vw_cons (vd_one vc_v) (vw_cons (vd_agg (vc_cons vc_v (vc_cons vc_v vc_nil))) (vw_cons (vd_agg (vc_cons vc_v (vc_cons vc_v vc_nil))) vw_nil)))) ?_
 refine tq [2] rfl (hm0 rfl) (q_ixM (r := r63) 0 rfl rfl h467a h467 rfl el114) ?_
 refine tn_wr rfl rfl [2] (by decide) rfl (hm0 rfl) (huM h467 rfl) (q_store (e' := rowC r63 (n471, n472)) (es' := ((l394.set n440.toNat (n471, n472))).map (rowC r63)) 0 rfl rfl rfl sz64 rfl (segM (r := r63) rfl h467) (map_get h467) rfl map_set) (q := 2) (segM (r := r63) rfl h467) (congrArg (fun z => List.set _ 2 z) (setM (r := r63) h467)) ?_
 refine tn_re 7 (v := .one (moC (l394.set n440.toNat (n471, n472)) k397)) (Eq.trans (b := .one (moC l394 k397)) rfl (congrArg D.one moC_set)) ?_
 refine tn_re 63 (v := .one (moC (l394.set n440.toNat (n471, n472)) k397)) (Eq.trans (b := .one (moC l394 k397)) rfl (congrArg D.one moC_set)) ?_
 refine tn_re 66 (v := .one (moC (l394.set n440.toNat (n471, n472)) k397)) (Eq.trans (b := .one (moC l394 k397)) rfl (congrArg D.one moC_set)) ?_
 refine tn_end (eS (L_exit ?_))
 refine E_seqX ?_
 refine bH (eS (lO ?_))
 refine pq (qm (iO n395)) ?_
 refine pq (qb p_addY) ?_
 refine pq (qa (iO (IntKind.i64.wrap (n395 + 1)))) ?_
 refine oE ?_
 obtain rfl := sj h
 exact E_next (k396, k397) (ups_self ⟨rfl, rfl, rfl, rfl, rfl, trivial⟩) [1, 2] (by decide) rfl
 replace h := wT h
 refine sq (q_not rfl) ?_
 refine sq (qpt bf) ?_
 refine st_end (eS (cF rfl (lK (eS (lS (lO ?_))))))
 refine pq (qm (.one (moC l393 k396))) ?_
 refine pq (q_build (cs := [iI 0, iI 0, iI 0]) ty104 rfl pl104 rfl) ?_
 refine ol_new rfl rfl rfl (q_bslice (cs := [iI 0, iI 0, iI 0]) (es := (([(0, 0, 0)] : List (Int × Int × Int))).map (rowC r103)) ty102 rfl ty104 rfl rfl rfl rfl rfl) (fun k473 => ?_)
 obtain ⟨_, h474, h⟩ := bindS h
 obtain ⟨h474b, rfl⟩ := app_some h474
 refine ol_appM (r := r103) (l := l393) (ys := ([(0, 0, 0)] : List (Int × Int × Int))) 2 rfl rfl rfl rfl rfl rfl (el_ownM (l := ([(0, 0, 0)] : List (Int × Int × Int))) 0 rfl) rfl h474 (fun y => rfl) el102 ty102 rfl rfl rfl rfl rfl (fun k475 => ?_)
 refine pq (qa (.one (moC (l393 ++ ([(0, 0, 0)] : List (Int × Int × Int))) k475))) ?_
 refine oN ?_
 refine pq (qm (.one (moC l394 k397))) ?_
 refine pq (q_build (cs := [iI 0, uI 0]) ty64 rfl pl64 rfl) ?_
 refine ol_new rfl rfl rfl (q_bslice (cs := [iI 0, uI 0]) (es := (([(0, 0)] : List (Int × Int))).map (rowC r63)) ty114 rfl ty64 rfl rfl rfl rfl rfl) (fun k476 => ?_)
 obtain ⟨_, h477, h⟩ := bindS h
 obtain ⟨h477b, rfl⟩ := app_some h477
 refine ol_appM (r := r63) (l := l394) (ys := ([(0, 0)] : List (Int × Int))) 4 rfl rfl rfl rfl rfl rfl (el_ownM (l := ([(0, 0)] : List (Int × Int))) 0 rfl) rfl h477 (fun y => rfl) el114 ty114 rfl rfl rfl rfl rfl (fun k478 => ?_)
 refine pq (qa (.one (moC (l394 ++ ([(0, 0)] : List (Int × Int))) k478))) ?_
 refine oE (eS (lS (lS (lO ?_))))
 refine pq (qm (.one (moC (l393 ++ ([(0, 0, 0)] : List (Int × Int × Int))) k475))) ?_
 refine pq (q_lenM (l := (l393 ++ ([(0, 0, 0)] : List (Int × Int × Int)))) rfl ty102 rfl rfl rfl rfl) ?_
 refine pq (qb p_subY) ?_
 refine pq (qa (.one (iI (IntKind.i64.wrap ((((l393 ++ ([(0, 0, 0)] : List (Int × Int × Int))).length : Nat) : Int) - 1))))) ?_
 refine oE (eS (lB ?_))
 let S3 : ((List (Int × Int × Int)) × (List (Int × Int)) × Int) → (Nat × Nat) → (Nat → D) → Nat → D := fun a kt g => ups g [(0, iO n1), (1, .one (sF r103 s2)), (6, .one (moC a.1 kt.1)), (7, .one (moC a.2.1 kt.2)), (8, iO n395), (9, iO n440), (10, .one (.ptr k449 0 0)), (11, .one (iI a.2.2)), (52, .one (sF r103 s2)), (53, iO n395), (55, .agg [iI n443, iI n444, iI n445]), (57, iO n440), (59, .agg [iI n453, iI n454, iI n455]), (60, bt), (61, bf)]
 let SL3 : ((List (Int × Int × Int)) × (List (Int × Int)) × Int) → (Nat × Nat) → BL := fun a kt => ([[(k449, 2, [[iI n447, uI n448]])], moL r103 3 a.1 kt.1, moL r63 2 a.2.1 kt.2] : BL)
 let G3 : (((List (Int × Int × Int)) × (List (Int × Int)) × Int) ⊕ (((List (Int × Int × Int)) × (List (Int × Int))) ⊕ ((Sl (Int × Int × Int)) × Int))) → Ex → St → Prop := LQ 145 S1 SL1 J1
 let Sx3 : ((List (Int × Int × Int)) × (List (Int × Int))) → (Nat × Nat) → (Nat → D) → Nat → D := fun a kt g => ups g [(0, iO n1), (1, .one (sF r103 s2)), (6, .one (moC a.1 kt.1)), (7, .one (moC a.2 kt.2)), (8, iO n395), (9, iO n440), (10, .one (.ptr k449 0 0)), (52, .one (sF r103 s2)), (53, iO n395), (55, .agg [iI n443, iI n444, iI n445]), (57, iO n440), (59, .agg [iI n453, iI n454, iI n455]), (60, bt), (61, bf)]
 let SLx3 : ((List (Int × Int × Int)) × (List (Int × Int))) → (Nat × Nat) → BL := fun a kt => ([[(k449, 2, [[iI n447, uI n448]])], moL r103 3 a.1 kt.1, moL r63 2 a.2 kt.2] : BL)
 let J3 : (((List (Int × Int × Int)) × (List (Int × Int))) ⊕ (((List (Int × Int × Int)) × (List (Int × Int)) × Int) ⊕ (((List (Int × Int × Int)) × (List (Int × Int))) ⊕ ((Sl (Int × Int × Int)) × Int)))) → Ex → St → Prop := JX 145 4 Sx3 SLx3 G3
 refine L_loopS (ref05_Combine_b3 n440) S3 SL3 J3 JX_n ((l393 ++ ([(0, 0, 0)] : List (Int × Int × Int))), (l394 ++ ([(0, 0)] : List (Int × Int))), (IntKind.i64.wrap ((((l393 ++ ([(0, 0, 0)] : List (Int × Int × Int))).length : Nat) : Int) - 1))) h (k475, k478) (ups_self ⟨rfl, rfl, rfl, rfl, rfl, rfl, rfl, rfl, rfl, rfl, rfl, rfl, rfl, rfl, rfl, trivial⟩) [4, 2, 0] (by decide) rfl ?_ ?_
 rintro ⟨l522, l523, n524⟩ ⟨k525, k526⟩ g out h
 change ref05_Combine_b3 n440 (l522, l523, n524) = some out at h
 unfold ref05_Combine_b3 at h
 refine lS (lS (lO ?_))
 refine pq (qm (iO n524)) ?_
 refine pq (qm (iO n440)) ?_
 by_cases c527 : n524 > n440
 replace h := ifT c527 h
 refine pq (qb (p_gtr_tZ c527)) ?_
 refine oE (eS (cT rfl (lK (eS (lS (lB (lS (lO ?_))))))))
 refine pq (qm (.one (moC l522 k525))) ?_
 refine pq (qm (iO n524)) ?_
 refine pq (qm (.one (moC l522 k525))) ?_
 refine pq (qm (iO n524)) ?_
 refine pq (qb p_subY) ?_
 obtain ⟨⟨n530, n531, n532⟩, h529, h⟩ := bindS h
 obtain ⟨h529a, h529⟩ := atM_some h529
 refine pq (q_ixM (r := r103) 1 rfl rfl h529a h529 rfl el102) ?_
 refine pq (q_loadP (v := .agg [iI n530, iI n531, iI n532]) 1 rfl sz104 (segM (r := r103) rfl h529) (map_get h529) rfl rfl) ?_
 obtain ⟨⟨n535, n536, n537⟩, h534, h⟩ := bindS h
 obtain ⟨h534a, h534⟩ := atM_some h534
 refine pq (q_ixM (r := r103) 1 rfl rfl h534a h534 rfl el102) ?_
 refine ol_wr rfl rfl (q_store (e' := rowC r103 (n530, n531, n532)) (es' := ((l522.set n524.toNat (n530, n531, n532))).map (rowC r103)) 1 rfl rfl rfl sz104 rfl (segM (r := r103) rfl h534) (map_get h534) rfl map_set) (congrArg (fun z => List.set _ 1 z) (setM (r := r103) h534)) ?_
 refine ol_re 6 (v := .one (moC (l522.set n524.toNat (n530, n531, n532)) k525)) (Eq.trans (b := .one (moC l522 k525)) rfl (congrArg D.one moC_set)) ?_
 refine ol_re 89 (v := .one (moC (l522.set n524.toNat (n530, n531, n532)) k525)) (Eq.trans (b := .one (moC l522 k525)) rfl (congrArg D.one moC_set)) ?_
 refine ol_re 91 (v := .one (moC (l522.set n524.toNat (n530, n531, n532)) k525)) (Eq.trans (b := .one (moC l522 k525)) rfl (congrArg D.one moC_set)) ?_
 refine oR ?_
 refine pq (qm (.one (moC l523 k526))) ?_
 refine pq (qm (iO n524)) ?_
 refine pq (qm (.one (moC l523 k526))) ?_
 refine pq (qm (iO n524)) ?_
 refine pq (qb p_subY) ?_
 obtain ⟨⟨n540, n541⟩, h539, h⟩ := bindS h
 obtain ⟨h539a, h539⟩ := atM_some h539
 refine pq (q_ixM (r := r63) 2 rfl rfl h539a h539 rfl el114) ?_
 refine pq (q_loadP (v := .agg [iI n540, uI n541]) 2 rfl sz64 (segM (r := r63) rfl h539) (map_get h539) rfl rfl) ?_
 obtain ⟨⟨n544, n545⟩, h543, h⟩ := bindS h
 obtain ⟨h543a, h543⟩ := atM_some h543
 refine pq (q_ixM (r := r63) 2 rfl rfl h543a h543 rfl el114) ?_
 refine ol_wr rfl rfl (q_store (e' := rowC r63 (n540, n541)) (es' := ((l523.set n524.toNat (n540, n541))).map (rowC r63)) 2 rfl rfl rfl sz64 rfl (segM (r := r63) rfl h543) (map_get h543) rfl map_set) (congrArg (fun z => List.set _ 2 z) (setM (r := r63) h543)) ?_
 refine ol_re 7 (v := .one (moC (l523.set n524.toNat (n540, n541)) k526)) (Eq.trans (b := .one (moC l523 k526)) rfl (congrArg D.one moC_set)) ?_
 refine ol_re 97 (v := .one (moC (l523.set n524.toNat (n540, n541)) k526)) (Eq.trans (b := .one (moC l523 k526)) rfl (congrArg D.one moC_set)) ?_
 refine ol_re 99 (v := .one (moC (l523.set n524.toNat (n540, n541)) k526)) (Eq.trans (b := .one (moC l523 k526)) rfl (congrArg D.one moC_set)) ?_
 refine oE (bN (eS (lO ?_)))
 refine pq (qm (iO n524)) ?_
 refine pq (qb p_subY) ?_
 refine pq (qa (iO (IntKind.i64.wrap (n524 - 1)))) ?_
 refine oE ?_
 obtain rfl := sj h
 exact E_next (k525, k526) (ups_self ⟨rfl, rfl, rfl, rfl, rfl, rfl, rfl, rfl, rfl, rfl, rfl, rfl, rfl, rfl, rfl, trivial⟩) [0, 1, 2] (by decide) rfl
 replace h := ifF c527 h
 refine pq (qb (p_gtr_fZ c527)) ?_
 refine oE (eS (cF rfl (L_exit ?_)))
 refine E_seqX ?_
 obtain rfl := sj h
 refine E_out ?_
 exact (E_exit (k525, k526) (ups_self ⟨rfl, rfl, rfl, rfl, rfl, rfl, rfl, rfl, rfl, rfl, rfl, rfl, rfl, rfl, trivial⟩) [0, 1, 2] (by decide) rfl)
 rintro (⟨l546, l547⟩ | u) h
 refine J_x (fun kt g => ?_)
 rcases kt with ⟨k548, k549⟩
 replace h := elimL h
 refine bH (eS (lS ?_))
 refine L_norm (L2 := ([[(k449, 2, [[iI n447, uI n448]])], moL r103 3 l546 k548, moL r63 2 l547 k549] : BL)) [0, 1, 2] (by decide) rfl ?_
 refine L_turn 15 rfl [[], [], [], [], [], [], [], [], [], [], [], [], [], [], moK l546 k548] [(false, []), (false, []), (false, []), (false, []), (false, []), (false, []), (false, []), (false, []), (false, []), (false, []), (false, []), (false, []), (false, []), (false, []), (false, [])] [[1, 2, 3, 4, 5, 6, 7, 8, 9, 10, 11, 12], [0, 2, 3, 4, 5, 6, 7, 8, 9, 10, 11, 12], [0, 1, 3, 7, 8, 9, 10, 11], [0, 1, 2, 7, 8, 9, 10, 11], [0, 1, 7, 8, 9, 10, 11], [0, 1, 7, 8, 9, 10, 11], [0, 1, 7, 8, 9, 10, 11], [0, 1, 2, 3, 4, 5, 6, 8], [0, 1, 2, 3, 4, 5, 6, 7], [0, 1, 2, 3, 4, 5, 6], [0, 1, 2, 3, 4, 5, 6], [0, 1, 2, 3, 4, 5, 6], [0, 1], [], []] (by kernel_rfl) (by kernel_rfl) (by kernel_rfl) ?_ (fun bb550 hlt hnd => ?_)
 intro bb550 hlt hnd
 have e_k449 : k449 < bb550 := key_lt hlt 0 rfl
 have e_k548 : l546 = [] ∨ k548 < bb550 := key_ltM (r := r103) (w := 3) hlt 1 rfl
 have f_k548 := moK_lt e_k548
 have e_k549 : l547 = [] ∨ k549 < bb550 := key_ltM (r := r63) (w := 2) hlt 2 rfl
 have d_k548_k449 : k449 ∉ moK l546 k548 := key_neM (r := r103) (w := 3) hnd 1 0 rfl rfl rfl
 have g_k548_k449 := moK_ne d_k548_k449
 exact ⟨(by first | (simp [DJ]; done) | (simp [DJ]; omega) | (simp [DJ]; assumption) | (simp_all [DJ]; done) | (simp_all [DJ]; omega)), (by first | (simp [DJ]; done) | (simp [DJ]; omega) | (simp [DJ]; assumption) | (simp_all [DJ]; done) | (simp_all [DJ]; omega))⟩
 have e_k449 : k449 < bb550 := key_lt hlt 0 rfl
 have e_k548 : l546 = [] ∨ k548 < bb550 := key_ltM (r := r103) (w := 3) hlt 1 rfl
 have f_k548 := moK_lt e_k548
 have e_k549 : l547 = [] ∨ k549 < bb550 := key_ltM (r := r63) (w := 2) hlt 2 rfl
 have d_k548_k449 : k449 ∉ moK l546 k548 := key_neM (r := r103) (w := 3) hnd 1 0 rfl rfl rfl
 have g_k548_k449 := moK_ne d_k548_k449
 refine tq [] rfl (hm0 rfl) (qm (.one (moC l546 k548))) ?_
 refine tq [] rfl (hm0 rfl) (qm (iO n440)) ?_
 refine tq [] rfl (hm0 rfl) (qm (.one (sF r103 s2))) ?_
 refine tq [] rfl (hm0 rfl) (qm (iO n395)) ?_
 refine tq [] rfl (hm0 rfl) (q_ixS rfl rfl h442a h442 (el102.trans (congrArg some h442b.symm))) ?_
 refine tq [] rfl (hm0 rfl) (q_fieldI rfl fa104_0 rfl) ?_
 refine tq [] rfl (hm0 rfl) (q_loadI (v := iO n443) rfl sz3 (map_get h442) rfl rfl) ?_
 refine tq [] rfl (hm0 rfl) (qm (.one (sF r103 s2))) ?_
 refine tq [] rfl (hm0 rfl) (qm (iO n395)) ?_
 refine tq [] rfl (hm0 rfl) (q_ixS rfl rfl h442a h442 (el102.trans (congrArg some h442b.symm))) ?_
 refine tq [] rfl (hm0 rfl) (q_fieldI rfl fa104_1 rfl) ?_
 refine tq [] rfl (hm0 rfl) (q_loadI (v := iO n444) rfl sz3 (map_get h442) rfl rfl) ?_
 refine tq [] rfl (hm0 rfl) (q_build (cs := [iI n443, iI n444, iI 0]) ty104 rfl pl104 rfl) ?_
 obtain ⟨⟨n558, n559, n560⟩, h557, h⟩ := bindS h
 obtain ⟨h557a, h557⟩ := atM_some h557
 refine tq [1] rfl (hm0 rfl) (q_ixM (r := r103) 0 rfl rfl h557a h557 rfl el102) ?_
 refine tn_wr rfl rfl [1] (by decide) rfl (hm0 rfl) (huM h557 rfl) (q_store (e' := rowC r103 (n443, n444, 0)) (es' := ((l546.set n440.toNat (n443, n444, 0))).map (rowC r103)) 0 rfl rfl rfl sz104 rfl (segM (r := r103) rfl h557) (map_get h557) rfl map_set) (q := 1) (segM (r := r103) rfl h557) (congrArg (fun z => List.set _ 1 z) (setM (r := r103) h557)) ?_
 refine tn_re 6 (v := .one (moC (l546.set n440.toNat (n443, n444, 0)) k548)) (Eq.trans (b := .one (moC l546 k548)) rfl (congrArg D.one moC_set)) ?_
 refine tn_re 105 (v := .one (moC (l546.set n440.toNat (n443, n444, 0)) k548)) (Eq.trans (b := .one (moC l546 k548)) rfl (congrArg D.one moC_set)) ?_
 refine tn_end (eS (lO ?_))
 refine pq (qm (.one (moC l547 k549))) ?_
 refine pq (qm (iO n440)) ?_
 refine pq (ql (.agg [iI n447, uI n448]) 0 sz64) ?_
 obtain ⟨⟨n563, n564⟩, h562, h⟩ := bindS h
 obtain ⟨h562a, h562⟩ := atM_some h562
 refine pq (q_ixM (r := r63) 2 rfl rfl h562a h562 rfl el114) ?_
 refine ol_wr rfl rfl (q_store (e' := rowC r63 (n447, n448)) (es' := ((l547.set n440.toNat (n447, n448))).map (rowC r63)) 2 rfl rfl rfl sz64 rfl (segM (r := r63) rfl h562) (map_get h562) rfl map_set) (congrArg (fun z => List.set _ 2 z) (setM (r := r63) h562)) ?_
 refine ol_re 7 (v := .one (moC (l547.set n440.toNat (n447, n448)) k549)) (Eq.trans (b := .one (moC l547 k549)) rfl (congrArg D.one moC_set)) ?_
 refine ol_re 119 (v := .one (moC (l547.set n440.toNat (n447, n448)) k549)) (Eq.trans (b := .one (moC l547 k549)) rfl (congrArg D.one moC_set)) ?_
 refine oE (bN (eS (lO ?_)))
 refine pq (qm (iO n395)) ?_
 refine pq (qb p_addY) ?_
 refine pq (qa (iO (IntKind.i64.wrap (n395 + 1)))) ?_
 refine oE ?_
 obtain rfl := sj h
 exact E_next (k548, k549) (ups_self ⟨rfl, rfl, rfl, rfl, rfl, trivial⟩) [1, 2] (by decide) rfl
 obtain rfl := Option.some.inj (elimR h)
 exact J_up (fun s hs => hs)
 replace h := ifF c450 h
 refine sq (qb (p_lss_fZ c450)) ?_
 refine sq (qm bf) ?_
 iterate 10 refine ss ?_
 refine sq (qpf bf) ?_
 refine st_end (eS (cF rfl (lK (eS (lS (lO ?_))))))
 refine pq (qm (.one (moC l393 k396))) ?_
 refine pq (q_build (cs := [iI 0, iI 0, iI 0]) ty104 rfl pl104 rfl) ?_
 refine ol_new rfl rfl rfl (q_bslice (cs := [iI 0, iI 0, iI 0]) (es := (([(0, 0, 0)] : List (Int × Int × Int))).map (rowC r103)) ty102 rfl ty104 rfl rfl rfl rfl rfl) (fun k565 => ?_)
 obtain ⟨_, h566, h⟩ := bindS h
 obtain ⟨h566b, rfl⟩ := app_some h566
 refine ol_appM (r := r103) (l := l393) (ys := ([(0, 0, 0)] : List (Int × Int × Int))) 2 rfl rfl rfl rfl rfl rfl (el_ownM (l := ([(0, 0, 0)] : List (Int × Int × Int))) 0 rfl) rfl h566 (fun y => rfl) el102 ty102 rfl rfl rfl rfl rfl (fun k567 => ?_)
 refine pq (qa (.one (moC (l393 ++ ([(0, 0, 0)] : List (Int × Int × Int))) k567))) ?_
 refine oN ?_
 refine pq (qm (.one (moC l394 k397))) ?_
 refine pq (q_build (cs := [iI 0, uI 0]) ty64 rfl pl64 rfl) ?_
 refine ol_new rfl rfl rfl (q_bslice (cs := [iI 0, uI 0]) (es := (([(0, 0)] : List (Int × Int))).map (rowC r63)) ty114 rfl ty64 rfl rfl rfl rfl rfl) (fun k568 => ?_)
 obtain ⟨_, h569, h⟩ := bindS h
 obtain ⟨h569b, rfl⟩ := app_some h569
 refine ol_appM (r := r63) (l := l394) (ys := ([(0, 0)] : List (Int × Int))) 4 rfl rfl rfl rfl rfl rfl (el_ownM (l := ([(0, 0)] : List (Int × Int))) 0 rfl) rfl h569 (fun y => rfl) el114 ty114 rfl rfl rfl rfl rfl (fun k570 => ?_)
 refine pq (qa (.one (moC (l394 ++ ([(0, 0)] : List (Int × Int))) k570))) ?_
 refine oE (eS (lS (lS (lO ?_))))
 refine pq (qm (.one (moC (l393 ++ ([(0, 0, 0)] : List (Int × Int × Int))) k567))) ?_
 refine pq (q_lenM (l := (l393 ++ ([(0, 0, 0)] : List (Int × Int × Int)))) rfl ty102 rfl rfl rfl rfl) ?_
 refine pq (qb p_subY) ?_
 refine pq (qa (.one (iI (IntKind.i64.wrap ((((l393 ++ ([(0, 0, 0)] : List (Int × Int × Int))).length : Nat) : Int) - 1))))) ?_
 refine oE (eS (lB ?_))
 let S4 : ((List (Int × Int × Int)) × (List (Int × Int)) × Int) → (Nat × Nat) → (Nat → D) → Nat → D := fun a kt g => ups g [(0, iO n1), (1, .one (sF r103 s2)), (6, .one (moC a.1 kt.1)), (7, .one (moC a.2.1 kt.2)), (8, iO n395), (9, iO n440), (10, .one (.ptr k449 0 0)), (11, .one (iI a.2.2))]
 let SL4 : ((List (Int × Int × Int)) × (List (Int × Int)) × Int) → (Nat × Nat) → BL := fun a kt => ([[(k449, 2, [[iI n447, uI n448]])], moL r103 3 a.1 kt.1, moL r63 2 a.2.1 kt.2] : BL)
 let G4 : (((List (Int × Int × Int)) × (List (Int × Int)) × Int) ⊕ (((List (Int × Int × Int)) × (List (Int × Int))) ⊕ ((Sl (Int × Int × Int)) × Int))) → Ex → St → Prop := LQ 145 S1 SL1 J1
 let Sx4 : ((List (Int × Int × Int)) × (List (Int × Int))) → (Nat × Nat) → (Nat → D) → Nat → D := fun a kt g => ups g [(0, iO n1), (1, .one (sF r103 s2)), (6, .one (moC a.1 kt.1)), (7, .one (moC a.2 kt.2)), (8, iO n395), (9, iO n440), (10, .one (.ptr k449 0 0))]
 let SLx4 : ((List (Int × Int × Int)) × (List (Int × Int))) → (Nat × Nat) → BL := fun a kt => ([[(k449, 2, [[iI n447, uI n448]])], moL r103 3 a.1 kt.1, moL r63 2 a.2 kt.2] : BL)
 let J4 : (((List (Int × Int × Int)) × (List (Int × Int))) ⊕ (((List (Int × Int × Int)) × (List (Int × Int)) × Int) ⊕ (((List (Int × Int × Int)) × (List (Int × Int))) ⊕ ((Sl (Int × Int × Int)) × Int)))) → Ex → St → Prop := JX 145 4 Sx4 SLx4 G4
 refine L_loopS (ref05_Combine_b4 n440) S4 SL4 J4 JX_n ((l393 ++ ([(0, 0, 0)] : List (Int × Int × Int))), (l394 ++ ([(0, 0)] : List (Int × Int))), (IntKind.i64.wrap ((((l393 ++ ([(0, 0, 0)] : List (Int × Int × Int))).length : Nat) : Int) - 1))) h (k567, k570) (ups_self ⟨rfl, rfl, rfl, rfl, rfl, rfl, rfl, rfl, trivial⟩) [4, 2, 0] (by decide) rfl ?_ ?_
 rintro ⟨l614, l615, n616⟩ ⟨k617, k618⟩ g out h
 change ref05_Combine_b4 n440 (l614, l615, n616) = some out at h
 unfold ref05_Combine_b4 at h
 refine lS (lS (lO ?_))
 refine pq (qm (iO n616)) ?_
 refine pq (qm (iO n440)) ?_
 by_cases c619 : n616 > n440
 replace h := ifT c619 h
 refine pq (qb (p_gtr_tZ c619)) ?_
 refine oE (eS (cT rfl (lK (eS (lS (lB (lS (lO ?_))))))))
 refine pq (qm (.one (moC l614 k617))) ?_
 refine pq (qm (iO n616)) ?_
 refine pq (qm (.one (moC l614 k617))) ?_
 refine pq (qm (iO n616)) ?_
 refine pq (qb p_subY) ?_
 obtain ⟨⟨n622, n623, n624⟩, h621, h⟩ := bindS h
 obtain ⟨h621a, h621⟩ := atM_some h621
 refine pq (q_ixM (r := r103) 1 rfl rfl h621a h621 rfl el102) ?_
 refine pq (q_loadP (v := .agg [iI n622, iI n623, iI n624]) 1 rfl sz104 (segM (r := r103) rfl h621) (map_get h621) rfl rfl) ?_
 obtain ⟨⟨n627, n628, n629⟩, h626, h⟩ := bindS h
 obtain ⟨h626a, h626⟩ := atM_some h626
 refine pq (q_ixM (r := r103) 1 rfl rfl h626a h626 rfl el102) ?_
 refine ol_wr rfl rfl (q_store (e' := rowC r103 (n622, n623, n624)) (es' := ((l614.set n616.toNat (n622, n623, n624))).map (rowC r103)) 1 rfl rfl rfl sz104 rfl (segM (r := r103) rfl h626) (map_get h626) rfl map_set) (congrArg (fun z => List.set _ 1 z) (setM (r := r103) h626)) ?_
 refine ol_re 6 (v := .one (moC (l614.set n616.toNat (n622, n623, n624)) k617)) (Eq.trans (b := .one (moC l614 k617)) rfl (congrArg D.one moC_set)) ?_
 refine ol_re 89 (v := .one (moC (l614.set n616.toNat (n622, n623, n624)) k617)) (Eq.trans (b := .one (moC l614 k617)) rfl (congrArg D.one moC_set)) ?_
 refine ol_re 91 (v := .one (moC (l614.set n616.toNat (n622, n623, n624)) k617)) (Eq.trans (b := .one (moC l614 k617)) rfl (congrArg D.one moC_set)) ?_
 refine oR ?_
 refine pq (qm (.one (moC l615 k618))) ?_
 refine pq (qm (iO n616)) ?_
 refine pq (qm (.one (moC l615 k618))) ?_
 refine pq (qm (iO n616)) ?_
 refine pq (qb p_subY) ?_
 obtain ⟨⟨n632, n633⟩, h631, h⟩ := bindS h
 obtain ⟨h631a, h631⟩ := atM_some h631
 refine pq (q_ixM (r := r63) 2 rfl rfl h631a h631 rfl el114) ?_
 refine pq (q_loadP (v := .agg [iI n632, uI n633]) 2 rfl sz64 (segM (r := r63) rfl h631) (map_get h631) rfl rfl) ?_
 obtain ⟨⟨n636, n637⟩, h635, h⟩ := bindS h
 obtain ⟨h635a, h635⟩ := atM_some h635
 refine pq (q_ixM (r := r63) 2 rfl rfl h635a h635 rfl el114) ?_
 refine ol_wr rfl rfl (q_store (e' := rowC r63 (n632, n633)) (es' := ((l615.set n616.toNat (n632, n633))).map (rowC r63)) 2 rfl rfl rfl sz64 rfl (segM (r := r63) rfl h635) (map_get h635) rfl map_set) (congrArg (fun z => List.set _ 2 z) (setM (r := r63) h635)) ?_
 refine ol_re 7 (v := .one (moC (l615.set n616.toNat (n632, n633)) k618)) (Eq.trans (b := .one (moC l615 k618)) rfl (congrArg D.one moC_set)) ?_
 refine ol_re 97 (v := .one (moC (l615.set n616.toNat (n632, n633)) k618)) (Eq.trans (b := .one (moC l615 k618)) rfl (congrArg D.one moC_set)) ?_
 refine ol_re 99 (v := .one (moC (l615.set n616.toNat (n632, n633)) k618)) (Eq.trans (b := .one (moC l615 k618)) rfl (congrArg D.one moC_set)) ?_
 refine oE (bN (eS (lO ?_)))
 refine pq (qm (iO n616)) ?_
 refine pq (qb p_subY) ?_
 refine pq (qa (iO (IntKind.i64.wrap (n616 - 1)))) ?_
 refine oE ?_
 obtain rfl := sj h
 exact E_next (k617, k618) (ups_self ⟨rfl, rfl, rfl, rfl, rfl, rfl, rfl, rfl, trivial⟩) [0, 1, 2] (by decide) rfl
 replace h := ifF c619 h
 refine pq (qb (p_gtr_fZ c619)) ?_
 refine oE (eS (cF rfl (L_exit ?_)))
 refine E_seqX ?_
 obtain rfl := sj h
 refine E_out ?_
 exact (E_exit (k617, k618) (ups_self ⟨rfl, rfl, rfl, rfl, rfl, rfl, rfl, trivial⟩) [0, 1, 2] (by decide) rfl)
 rintro (⟨l638, l639⟩ | u) h
 refine J_x (fun kt g => ?_)
 rcases kt with ⟨k640, k641⟩
 replace h := elimL h
 refine bH (eS (lS ?_))
 refine L_norm (L2 := ([[(k449, 2, [[iI n447, uI n448]])], moL r103 3 l638 k640, moL r63 2 l639 k641] : BL)) [0, 1, 2] (by decide) rfl ?_
 refine L_turn 15 rfl [[], [], [], [], [], [], [], [], [], [], [], [], [], [], moK l638 k640] [(false, []), (false, []), (false, []), (false, []), (false, []), (false, []), (false, []), (false, []), (false, []), (false, []), (false, []), (false, []), (false, []), (false, []), (false, [])] [[1, 2, 3, 4, 5, 6, 7, 8, 9, 10, 11, 12], [0, 2, 3, 4, 5, 6, 7, 8, 9, 10, 11, 12], [0, 1, 3, 7, 8, 9, 10, 11], [0, 1, 2, 7, 8, 9, 10, 11], [0, 1, 7, 8, 9, 10, 11], [0, 1, 7, 8, 9, 10, 11], [0, 1, 7, 8, 9, 10, 11], [0, 1, 2, 3, 4, 5, 6, 8], [0, 1, 2, 3, 4, 5, 6, 7], [0, 1, 2, 3, 4, 5, 6], [0, 1, 2, 3, 4, 5, 6], [0, 1, 2, 3, 4, 5, 6], [0, 1], [], []] (by kernel_rfl) (by kernel_rfl) (by kernel_rfl) ?_ (fun bb642 hlt hnd => ?_)
 intro bb642 hlt hnd
 have e_k449 : k449 < bb642 := key_lt hlt 0 rfl
 have e_k640 : l638 = [] ∨ k640 < bb642 := key_ltM (r := r103) (w := 3) hlt 1 rfl
 have f_k640 := moK_lt e_k640
 have e_k641 : l639 = [] ∨ k641 < bb642 := key_ltM (r := r63) (w := 2) hlt 2 rfl
 have d_k640_k449 : k449 ∉ moK l638 k640 := key_neM (r := r103) (w := 3) hnd 1 0 rfl rfl rfl
 have g_k640_k449 := moK_ne d_k640_k449
 exact ⟨(by first | (simp [DJ]; done) | (simp [DJ]; omega) | (simp [DJ]; assumption) | (simp_all [DJ]; done) | (simp_all [DJ]; omega)), (by first | (simp [DJ]; done) | (simp [DJ]; omega) | (simp [DJ]; assumption) | (simp_all [DJ]; done) | (simp_all [DJ]; omega))⟩
 have e_k449 : k449 < bb642 := key_lt hlt 0 rfl
 have e_k640 : l638 = [] ∨ k640 < bb642 := key_ltM (r := r103) (w := 3) hlt 1 rfl
 have f_k640 := moK_lt e_k640
 have e_k641 : l639 = [] ∨ k641 < bb642 := key_ltM (r := r63) (w := 2) hlt 2 rfl
 have d_k640_k449 : k449 ∉ moK l638 k640 := key_neM (r := r103) (w := 3) hnd 1 0 rfl rfl rfl
 have g_k640_k449 := moK_ne d_k640_k449
 refine tq [] rfl (hm0 rfl) (qm (.one (moC l638 k640))) ?_
 refine tq [] rfl (hm0 rfl) (qm (iO n440)) ?_
 refine tq [] rfl (hm0 rfl) (qm (.one (sF r103 s2))) ?_
 refine tq [] rfl (hm0 rfl) (qm (iO n395)) ?_
 refine tq [] rfl (hm0 rfl) (q_ixS rfl rfl h442a h442 (el102.trans (congrArg some h442b.symm))) ?_
 refine tq [] rfl (hm0 rfl) (q_fieldI rfl fa104_0 rfl) ?_
 refine tq [] rfl (hm0 rfl) (q_loadI (v := iO n443) rfl sz3 (map_get h442) rfl rfl) ?_
 refine tq [] rfl (hm0 rfl) (qm (.one (sF r103 s2))) ?_
 refine tq [] rfl (hm0 rfl) (qm (iO n395)) ?_
 refine tq [] rfl (hm0 rfl) (q_ixS rfl rfl h442a h442 (el102.trans (congrArg some h442b.symm))) ?_
 refine tq [] rfl (hm0 rfl) (q_fieldI rfl fa104_1 rfl) ?_
 refine tq [] rfl (hm0 rfl) (q_loadI (v := iO n444) rfl sz3 (map_get h442) rfl rfl) ?_
 refine tq [] rfl (hm0 rfl) (q_build (cs := [iI n443, iI n444, iI 0]) ty104 rfl pl104 rfl) ?_
 obtain ⟨⟨n650, n651, n652⟩, h649, h⟩ := bindS h
 obtain ⟨h649a, h649⟩ := atM_some h649
 refine tq [1] rfl (hm0 rfl) (q_ixM (r := r103) 0 rfl rfl h649a h649 rfl el102) ?_
 refine tn_wr rfl rfl [1] (by decide) rfl (hm0 rfl) (huM h649 rfl) (q_store (e' := rowC r103 (n443, n444, 0)) (es' := ((l638.set n440.toNat (n443, n444, 0))).map (rowC r103)) 0 rfl rfl rfl sz104 rfl (segM (r := r103) rfl h649) (map_get h649) rfl map_set) (q := 1) (segM (r := r103) rfl h649) (congrArg (fun z => List.set _ 1 z) (setM (r := r103) h649)) ?_
 refine tn_re 6 (v := .one (moC (l638.set n440.toNat (n443, n444, 0)) k640)) (Eq.trans (b := .one (moC l638 k640)) rfl (congrArg D.one moC_set)) ?_
 refine tn_re 105 (v := .one (moC (l638.set n440.toNat (n443, n444, 0)) k640)) (Eq.trans (b := .one (moC l638 k640)) rfl (congrArg D.one moC_set)) ?_
 refine tn_end (eS (lO ?_))
 refine pq (qm (.one (moC l639 k641))) ?_
 refine pq (qm (iO n440)) ?_
 refine pq (ql (.agg [iI n447, uI n448]) 0 sz64) ?_
 obtain ⟨⟨n655, n656⟩, h654, h⟩ := bindS h
 obtain ⟨h654a, h654⟩ := atM_some h654
 refine pq (q_ixM (r := r63) 2 rfl rfl h654a h654 rfl el114) ?_
 refine ol_wr rfl rfl (q_store (e' := rowC r63 (n447, n448)) (es' := ((l639.set n440.toNat (n447, n448))).map (rowC r63)) 2 rfl rfl rfl sz64 rfl (segM (r := r63) rfl h654) (map_get h654) rfl map_set) (congrArg (fun z => List.set _ 2 z) (setM (r := r63) h654)) ?_
 refine ol_re 7 (v := .one (moC (l639.set n440.toNat (n447, n448)) k641)) (Eq.trans (b := .one (moC l639 k641)) rfl (congrArg D.one moC_set)) ?_
 refine ol_re 119 (v := .one (moC (l639.set n440.toNat (n447, n448)) k641)) (Eq.trans (b := .one (moC l639 k641)) rfl (congrArg D.one moC_set)) ?_
 refine oE (bN (eS (lO ?_)))
 refine pq (qm (iO n395)) ?_
 refine pq (qb p_addY) ?_
 refine pq (qa (iO (IntKind.i64.wrap (n395 + 1)))) ?_
 refine oE ?_
 obtain rfl := sj h
 exact E_next (k640, k641) (ups_self ⟨rfl, rfl, rfl, rfl, rfl, trivial⟩) [1, 2] (by decide) rfl
 obtain rfl := Option.some.inj (elimR h)
 exact J_up (fun s hs => hs)
 obtain rfl := Option.some.inj (elimR h)
 exact J_up (fun s hs => hs)
 replace h := ifF c398 h
 refine pq (qb (p_lss_fZ c398)) ?_
 refine oE (eS (cF rfl (L_exit ?_)))
 refine E_seqX ?_
 obtain rfl := sj h
 refine E_out ?_
 exact (E_exit (k396, k397) (ups_self ⟨rfl, rfl, trivial⟩) [0, 1] (by decide) rfl)
 rintro (⟨l657, l658⟩ | u) h
 refine J_x (fun kt g => ?_)
 rcases kt with ⟨k659, k660⟩
 replace h := elimL h
 refine bH (eS (lS (lS (lO ?_))))
 refine pq (qa (iO 0)) ?_
 refine oE (eS (lB ?_))
 let S5 : ((List (Int × Int × Int)) × Int) → Nat → (Nat → D) → Nat → D := fun a kt g => ups g [(6, .one (moC a.1 kt)), (7, .one (moC l658 k660)), (12, .one (iI a.2))]
 let SL5 : ((List (Int × Int × Int)) × Int) → Nat → BL := fun a kt => ([moL r63 2 l658 k660, moL r103 3 a.1 kt] : BL)
 let G5 : ((Sl (Int × Int × Int)) × Int) → Ex → St → Prop := fun u => endQ E1 [.tmp 4, .tmp 5] (.fresh, [.one (Sl.t r103 u.1), .one (iT .i64 u.2)])
 let Sx5 : (List (Int × Int × Int)) → Nat → (Nat → D) → Nat → D := fun a kt g => ups g [(6, .one (moC a kt))]
 let SLx5 : (List (Int × Int × Int)) → Nat → BL := fun a kt => ([moL r103 3 a kt] : BL)
 let J5 : ((List (Int × Int × Int)) ⊕ ((Sl (Int × Int × Int)) × Int)) → Ex → St → Prop := JX 145 6 Sx5 SLx5 G5
 refine L_loopS (ref05_Combine_b5 l658) S5 SL5 J5 JX_n (l657, 0) h k659 (ups_self ⟨rfl, rfl, rfl, trivial⟩) [1, 0] (by decide) rfl ?_ ?_
 rintro ⟨l690, n691⟩ k692 g out h
 change ref05_Combine_b5 l658 (l690, n691) = some out at h
 unfold ref05_Combine_b5 at h
 refine lS (lS (lO ?_))
 refine pq (qm (iO n691)) ?_
 refine pq (qm (.one (moC l690 k692))) ?_
 refine pq (q_lenM (l := l690) rfl ty102 rfl rfl rfl rfl) ?_
 by_cases c693 : n691 < ((l690.length : Nat) : Int)
 replace h := ifT c693 h
 refine pq (qb (p_lss_tZ c693)) ?_
 refine oE (eS (cT rfl (lK (eS (lS (lB (lS (lO ?_))))))))
 refine pq (qm (.one (moC l658 k660))) ?_
 refine pq (qm (iO n691)) ?_
 obtain ⟨⟨n696, n697⟩, h695, h⟩ := bindS h
 obtain ⟨h695a, h695⟩ := atM_some h695
 refine pq (q_ixM (r := r63) 0 rfl rfl h695a h695 rfl el114) ?_
 refine pq (q_loadP (v := .agg [iI n696, uI n697]) 0 rfl sz64 (segM (r := r63) rfl h695) (map_get h695) rfl rfl) ?_
 obtain ⟨⟨n699, b700⟩, h698, h⟩ := bindS h
 refine pq (qc (.tup [iO n699, bO b700]) [.agg [iI n696, uI n697]] (ref01_Narrow_r (m + 1) h698) (vw_cons (vd_agg (vc_cons vc_v (vc_cons vc_v vc_nil))) vw_nil)) ?_
 refine pq (qm (.tup [iO n699, bO b700])) ?_
 refine pq (q_ext (v := iO n699) rfl rfl) ?_
 refine pq (q_ext (v := bO b700) rfl rfl) ?_
 refine pq (qa (iO n699)) ?_
 refine pq (qa (bO b700)) ?_
 refine oE (eS (lS (lS (lO ?_))))
 refine pq (qm (bO b700)) ?_
 rcases b700 with _ | _
 replace h := wF h
 refine pq (q_not rfl) ?_
 refine oE (eS (cT rfl (lS (lO ?_))))
 refine pq (qa (.one nC)) ?_
 refine pq (qa (iO 12)) ?_
 refine oE (eS (lR (eR (bR (eR ?_)))))
 obtain rfl := sj h
 exact E_out (E_up (E_endF (.inr rfl) (res_tmp rfl (res_tmp rfl res_nil)) (vw_cons (vd_one vc_s) (vw_cons (vd_one vc_v) vw_nil)) oW rfl rfl))
 replace h := wT h
 refine pq (q_not rfl) ?_
 refine oE (eS (cF rfl (lK (eS (lO ?_)))))
 refine pq (qm (.one (moC l690 k692))) ?_
 refine pq (qm (iO n691)) ?_
 refine pq (qm (iO n699)) ?_
 obtain ⟨⟨n703, n704, n705⟩, h702, h⟩ := bindS h
 obtain ⟨h702a, h702⟩ := atM_some h702
 refine pq (q_ixM (r := r103) 1 rfl rfl h702a h702 rfl el102) ?_
 refine pq (q_fieldP rfl fa104_2 rfl) ?_
 refine ol_wr rfl rfl (q_store (e' := rowC r103 (n703, n704, n699)) (es' := ((l690.set n691.toNat (n703, n704, n699))).map (rowC r103)) 1 rfl rfl rfl sz2 rfl (segM (r := r103) rfl h702) (map_get h702) rfl map_set) (congrArg (fun z => List.set _ 1 z) (setM (r := r103) h702)) ?_
 refine ol_re 6 (v := .one (moC (l690.set n691.toNat (n703, n704, n699)) k692)) (Eq.trans (b := .one (moC l690 k692)) rfl (congrArg D.one moC_set)) ?_
 refine ol_re 124 (v := .one (moC (l690.set n691.toNat (n703, n704, n699)) k692)) (Eq.trans (b := .one (moC l690 k692)) rfl (congrArg D.one moC_set)) ?_
 refine ol_re 139 (v := .one (moC (l690.set n691.toNat (n703, n704, n699)) k692)) (Eq.trans (b := .one (moC l690 k692)) rfl (congrArg D.one moC_set)) ?_
 refine oE (bN (eS (lO ?_)))
 refine pq (qm (iO n691)) ?_
 refine pq (qb p_addY) ?_
 refine pq (qa (iO (IntKind.i64.wrap (n691 + 1)))) ?_
 refine oE ?_
 obtain rfl := sj h
 exact E_next k692 (ups_self ⟨rfl, rfl, rfl, trivial⟩) [0, 1] (by decide) rfl
 replace h := ifF c693 h
 refine pq (qb (p_lss_fZ c693)) ?_
 refine oE (eS (cF rfl (L_exit ?_)))
 refine E_seqX ?_
 obtain rfl := sj h
 refine E_out ?_
 exact (E_exit k692 (ups_self ⟨rfl, trivial⟩) [1] (by decide) rfl)
 rintro (l706 | u) h
 refine J_x (fun k707 g => ?_)
 replace h := elimL h
 refine bH (eS (lS (lO ?_)))
 refine pq (qm (.one (moC l706 k707))) ?_
 refine pq (qa (.one (moC l706 k707))) ?_
 refine pq (qa (iO 0)) ?_
 refine oE (eS (lR ?_))
 obtain rfl := sj h
 exact E_endF (.inr rfl) (res_tmp rfl (res_tmp rfl res_nil)) (vw_cons (vd_one (vc_M (r := r103) 0 rfl (fun x h m => rfl))) (vw_cons (vd_one vc_v) vw_nil)) oW rfl rfl
 obtain rfl := Option.some.inj (elimR h)
 exact J_up (fun s hs => hs)
 obtain rfl := Option.some.inj (elimR h)
 exact J_up (fun s hs => hs)
noncomputable def ref07_built_b2 (n1 : Int) (a : Int × List (Int)) : Option ((Int × List (Int)) ⊕ ((List (Int)) ⊕ ((Int × List (Int) × List (Int) × List (Int)) ⊕ ((List (Int) × List (Int) × List (Int)) ⊕ (Int × Int × Sl (Int) × Sl (Int) × Sl (Int)))))) :=
 match a with
 | (n132, l133) => (if n132 ≤ n1 then ((atL l133 n132).bind fun n138 => some (.inl ((IntKind.i64.wrap (n132 + 1)), (l133.set n132.toNat (IntKind.i64.wrap (n138 + 1)))))) else some (.inr (.inl l133)))
noncomputable def ref07_built_b1 (n1 : Int) (s3 : Sl (Int × Int × Int)) (a : Int × List (Int) × List (Int) × List (Int)) : Option ((Int × List (Int) × List (Int) × List (Int)) ⊕ ((List (Int) × List (Int) × List (Int)) ⊕ (Int × Int × Sl (Int) × Sl (Int) × Sl (Int)))) :=
 match a with
 | (n97, l98, l99, l100) => (if n97 < ((s3.l.length : Nat) : Int) then ((atS 3 s3 n97).bind fun (n114, n115, n116) => ((app l99 ([n115] : List (Int))).bind fun _ => ((app l100 ([n116] : List (Int))).bind fun _ => ((loopO (ref07_built_b2 n1) ((IntKind.i64.wrap (n114 + 1)), l98)).bind (Sum.elim (fun l139 => some (.inl ((IntKind.i64.wrap (n97 + 1)), l139, (l99 ++ ([n115] : List (Int))), (l100 ++ ([n116] : List (Int)))))) (fun u => some u)))))) else some (.inr (.inl (l98, l99, l100))))
noncomputable def ref07_built (n1 : Int) (n2 : Int) (s3 : Sl (Int × Int × Int)) : Option ((Int × Int × Sl (Int) × Sl (Int) × Sl (Int))) :=
 ((lenOk (IntKind.i64.wrap (n1 + 1))).bind fun _ => ((loopO (ref07_built_b1 n1 s3) (0, (List.replicate (IntKind.i64.wrap (n1 + 1)).toNat (0 : Int)), ([] : List (Int)), ([] : List (Int)))).bind (Sum.elim (fun ⟨l141, l142, l143⟩ => some (n1, n2, (⟨true, 1, l141⟩ : Sl (Int)), (mo 1 l142), (mo 1 l143))) (fun u => some u))))
theorem ref07_built_r (m : Nat) {n1 : Int} {n2 : Int} {s3 : Sl (Int × Int × Int)} {out : (Int × Int × Sl (Int) × Sl (Int) × Sl (Int))} (h : ref07_built n1 n2 s3 = some out) : RunsP E1 (m + 2) 57 [.one (iT .i64 n1), .one (iT .i64 n2), .one (Sl.t r76 s3)] (.fresh, [.agg (r32 out)]) := by
 refine fn_F rfl (by rw [E1_fn]; exact show fiOf Tryd.prog 57 = _ by unfold fiOf; rw [Tryd.func57]; unfold Tryd.f57; rfl) rfl ?_
 dsimp only
 unfold ref07_built at h
 refine lS (lO ?_)
 refine ol_new rfl rfl rfl (q_alloc ty33 (row := [iI 0, iI 0, nC, nC, nC]) rfl rfl) (fun k4 => ?_)
 refine oN ?_
 refine pq (qm (iO n1)) ?_
 refine pq (qm (iO n2)) ?_
 refine ol_scallN (args := [iO n1, iO n2]) rfl rfl rfl ax37 (by rw [E1_fn]; exact show fiOf Tryd.prog 37 = _ by unfold fiOf; rw [Tryd.func37]; unfold Tryd.f37; rfl) rfl rfl rfl ?_
 dsimp only
 refine lS (lO ?_)
 refine ol_new rfl rfl rfl (q_alloc ty33 (row := [iI 0, iI 0, nC, nC, nC]) rfl rfl) (fun k5 => ?_)
 refine oN ?_
 refine pq (qm (iO n1)) ?_
 refine pq (qm (iO n2)) ?_
 refine pq (qm (iO n1)) ?_
 refine pq (qb p_addY) ?_
 obtain ⟨u6, h7, h⟩ := bindS h
 refine ol_new rfl rfl rfl (q_mkslice (r := rowC r3) (a := (0 : Int)) ty30 rfl ty3 rfl rfl (lenOk_some h7).1 (lenOk_some h7).2 rfl rfl) (fun k8 => ?_)
 refine pq (q_build (cs := [iI n1, iI n2, .own k8 0 ((List.replicate (IntKind.i64.wrap (n1 + 1)).toNat (0 : Int))).length, nC, nC]) ty33 rfl pl33 rfl) ?_
 refine ow [[iI n1, iI n2, .own k8 0 ((List.replicate (IntKind.i64.wrap (n1 + 1)).toNat (0 : Int))).length, nC, nC]] 1 sz33 ?_
 refine oE (eS (lR ?_))
 refine E_call (v := .agg [iI n1, iI n2, .own k8 0 ((List.replicate (IntKind.i64.wrap (n1 + 1)).toNat (0 : Int))).length, nC, nC]) (.inr rfl) (res_cell (d := .agg [iI n1, iI n2, .own k8 0 ((List.replicate (IntKind.i64.wrap (n1 + 1)).toNat (0 : Int))).length, nC, nC]) 1 rfl sz33 rfl rfl rfl rfl res_nil) rfl ?_
 refine ol_new rfl rfl rfl (q_alloc ty33 (row := [iI 0, iI 0, nC, nC, nC]) rfl rfl) (fun k9 => ?_)
 refine ow [[iI n1, iI n2, .own k8 0 ((List.replicate (IntKind.i64.wrap (n1 + 1)).toNat (0 : Int))).length, nC, nC]] 0 sz33 ?_
 refine oE (eS (lS (lS (lO ?_))))
 refine pq (qa (iO 0)) ?_
 refine oE (eS (lB ?_))
 refine L_addM (α := Int) r3 1 ?_
 refine L_addM (α := Int) r2 1 ?_
 let S1 : (Int × List (Int) × List (Int) × List (Int)) → (Nat × Nat × Nat) → (Nat → D) → Nat → D := fun a kt g => ups g [(0, iO n1), (2, .one (sF r76 s3)), (6, .one (.ptr k4 0 0)), (7, .one (.ptr k9 0 0)), (8, .one (iI a.1))]
 let SL1 : (Int × List (Int) × List (Int) × List (Int)) → (Nat × Nat × Nat) → BL := fun a kt => ([[(k4, 5, [[iI 0, iI 0, nC, nC, nC]])], [(k9, 5, [[iI n1, iI n2, .own kt.1 0 (a.2.1).length, moC a.2.2.1 kt.2.1, moC a.2.2.2 kt.2.2]])], [(kt.1, 1, (a.2.1).map (rowC r3))], moL r3 1 a.2.2.1 kt.2.1, moL r2 1 a.2.2.2 kt.2.2] : BL)
 let G1 : (Int × Int × Sl (Int) × Sl (Int) × Sl (Int)) → Ex → St → Prop := fun u => endQ E1 [.cell 6 33] (.fresh, [.agg (r32 u)])
 let Sx1 : (List (Int) × List (Int) × List (Int)) → (Nat × Nat × Nat) → (Nat → D) → Nat → D := fun a kt g => ups g [(6, .one (.ptr k4 0 0)), (7, .one (.ptr k9 0 0))]
 let SLx1 : (List (Int) × List (Int) × List (Int)) → (Nat × Nat × Nat) → BL := fun a kt => ([[(k4, 5, [[iI 0, iI 0, nC, nC, nC]])], [(k9, 5, [[iI n1, iI n2, .own kt.1 0 (a.1).length, moC a.2.1 kt.2.1, moC a.2.2 kt.2.2]])], [(kt.1, 1, (a.1).map (rowC r3))], moL r3 1 a.2.1 kt.2.1, moL r2 1 a.2.2 kt.2.2] : BL)
 let J1 : ((List (Int) × List (Int) × List (Int)) ⊕ (Int × Int × Sl (Int) × Sl (Int) × Sl (Int))) → Ex → St → Prop := JX 58 0 Sx1 SLx1 G1
 refine L_loopS (ref07_built_b1 n1 s3) S1 SL1 J1 JX_n (0, (List.replicate (IntKind.i64.wrap (n1 + 1)).toNat (0 : Int)), ([] : List (Int)), ([] : List (Int))) h (k8, 1094, 1095) (ups_self ⟨rfl, rfl, rfl, rfl, rfl, trivial⟩) [5, 2, 3, 1, 0] (by decide) rfl ?_ ?_
 rintro ⟨n97, l98, l99, l100⟩ ⟨k101, k102, k103⟩ g out h
 change ref07_built_b1 n1 s3 (n97, l98, l99, l100) = some out at h
 unfold ref07_built_b1 at h
 refine lS (lS (lO ?_))
 refine pq (qm (iO n97)) ?_
 refine pq (qm (.one (sF r76 s3))) ?_
 refine pq (q_lenS rfl ty24 rfl rfl rfl rfl) ?_
 by_cases c104 : n97 < ((s3.l.length : Nat) : Int)
 replace h := ifT c104 h
 refine pq (qb (p_lss_tZ c104)) ?_
 refine oE (eS (cT rfl (lK (eS (lS (lB (lS ?_)))))))
 refine L_norm (L2 := ([[(k4, 5, [[iI 0, iI 0, nC, nC, nC]])], [(k9, 5, [[iI n1, iI n2, .own k101 0 (l98).length, moC l99 k102, moC l100 k103]])], [(k101, 1, (l98).map (rowC r3))], moL r3 1 l99 k102, moL r2 1 l100 k103] : BL)) [0, 1, 2, 3, 4] (by decide) rfl ?_
 refine L_turn 11 rfl [[], [], [], [], [], [], [], [], moK l99 k102, [], [k9]] [(false, []), (false, []), (false, []), (false, []), (false, []), (false, []), (false, []), (true, []), (true, []), (false, []), (false, [])] [[2, 3, 4, 5, 6, 7], [2, 3, 4, 5, 6, 7], [0, 1, 3], [0, 1, 2], [0, 1], [0, 1], [0, 1], [0, 1], [], [], []] (by kernel_rfl) (by kernel_rfl) (by kernel_rfl) ?_ (fun bb105 hlt hnd => ?_)
 intro bb105 hlt hnd
 have e_k4 : k4 < bb105 := key_lt hlt 0 rfl
 have e_k9 : k9 < bb105 := key_lt hlt 1 rfl
 have e_k101 : k101 < bb105 := key_lt hlt 2 rfl
 have e_k102 : l99 = [] ∨ k102 < bb105 := key_ltM (r := r3) (w := 1) hlt 3 rfl
 have f_k102 := moK_lt e_k102
 have e_k103 : l100 = [] ∨ k103 < bb105 := key_ltM (r := r2) (w := 1) hlt 4 rfl
 have d_k9_k4 : k9 ≠ k4 := key_ne hnd 1 0 rfl rfl rfl
 have d_k9_k101 : k9 ≠ k101 := key_ne hnd 1 2 rfl rfl rfl
 have d_k102_k4 : k4 ∉ moK l99 k102 := key_neM (r := r3) (w := 1) hnd 3 0 rfl rfl rfl
 have g_k102_k4 := moK_ne d_k102_k4
 have d_k102_k9 : k9 ∉ moK l99 k102 := key_neM (r := r3) (w := 1) hnd 3 1 rfl rfl rfl
 have g_k102_k9 := moK_ne d_k102_k9
 have d_k102_k101 : k101 ∉ moK l99 k102 := key_neM (r := r3) (w := 1) hnd 3 2 rfl rfl rfl
 have g_k102_k101 := moK_ne d_k102_k101
 exact ⟨(by first | (simp [DJ]; done) | (simp [DJ]; omega) | (simp [DJ]; assumption) | (simp_all [DJ]; done) | (simp_all [DJ]; omega)), (by first | (simp [DJ]; done) | (simp [DJ]; omega) | (simp [DJ]; assumption) | (simp_all [DJ]; done) | (simp_all [DJ]; omega))⟩
 have e_k4 : k4 < bb105 := key_lt hlt 0 rfl
 have e_k9 : k9 < bb105 := key_lt hlt 1 rfl
 have e_k101 : k101 < bb105 := key_lt hlt 2 rfl
 have e_k102 : l99 = [] ∨ k102 < bb105 := key_ltM (r := r3) (w := 1) hlt 3 rfl
 have f_k102 := moK_lt e_k102
 have e_k103 : l100 = [] ∨ k103 < bb105 := key_ltM (r := r2) (w := 1) hlt 4 rfl
 have d_k9_k4 : k9 ≠ k4 := key_ne hnd 1 0 rfl rfl rfl
 have d_k9_k101 : k9 ≠ k101 := key_ne hnd 1 2 rfl rfl rfl
 have d_k102_k4 : k4 ∉ moK l99 k102 := key_neM (r := r3) (w := 1) hnd 3 0 rfl rfl rfl
 have g_k102_k4 := moK_ne d_k102_k4
 have d_k102_k9 : k9 ∉ moK l99 k102 := key_neM (r := r3) (w := 1) hnd 3 1 rfl rfl rfl
 have g_k102_k9 := moK_ne d_k102_k9
 have d_k102_k101 : k101 ∉ moK l99 k102 := key_neM (r := r3) (w := 1) hnd 3 2 rfl rfl rfl
 have g_k102_k101 := moK_ne d_k102_k101
 refine tq [] rfl hmn (q_fieldP rfl fa33_3 rfl) ?_
 refine tq [1] rfl (hmc (nin_cons (ne_new (key_lt hlt 1 rfl)) nin_nil) hmn) (ql (.one (moC l99 k102)) 0 sz30) ?_
 refine tq [] rfl (hm0 rfl) (qm (.one (sF r76 s3))) ?_
 refine tq [] rfl (hm0 rfl) (qm (iO n97)) ?_
 obtain ⟨⟨n114, n115, n116⟩, h113, h⟩ := bindS h
 obtain ⟨h113a, h113b, h113⟩ := atS_some h113
 refine tq [] rfl (hm0 rfl) (q_ixS rfl rfl h113a h113 (el24.trans (congrArg some h113b.symm))) ?_
 refine tq [] rfl (hm0 rfl) (q_fieldI rfl fa77_1 rfl) ?_
 refine tq [] rfl (hm0 rfl) (q_loadI (v := iO n115) rfl sz3 (map_get h113) rfl rfl) ?_
 refine tn_new rfl rfl rfl [] (by decide) rfl (hm0 rfl) rfl rfl (hkc (ne_new (key_lt hlt 0 rfl)) (hkc (ne_new (key_lt hlt 1 rfl)) (hkc (ne_new (key_lt hlt 2 rfl)) (hkM (e_k102.imp id fun h => by omega) (hkM (e_k103.imp id fun h => by omega) hkn))))) (q_bslice (cs := [iI n115]) (es := (([n115] : List (Int))).map (rowC r3)) ty30 rfl ty3 rfl rfl rfl rfl rfl) ?_
 obtain ⟨_, h117, h⟩ := bindS h
 obtain ⟨h117b, rfl⟩ := app_some h117
 refine tn_appM (r := r3) (l := l99) 0 4 rfl rfl rfl rfl [4, 0] (by decide) rfl (hm0 rfl) rfl rfl (hkc (ne_add rfl) (hkc (ne_new (key_lt hlt 0 rfl)) (hkc (ne_new (key_lt hlt 1 rfl)) (hkc (ne_new (key_lt hlt 2 rfl)) (hkM (e_k102.imp id fun h => by omega) (hkM (e_k103.imp id fun h => by omega) hkn)))))) rfl rfl (el_ownM (l := ([n115] : List (Int))) 1 rfl) rfl rfl h117 (fun y => rfl) el30 ty30 rfl rfl rfl rfl rfl ?_
 refine tq [] rfl (hm0 rfl) (q_fieldP rfl fa33_3 rfl) ?_
 refine tn_wr rfl rfl [3] (by decide) rfl (hm0 rfl) rfl (q_store (es' := [[iI n1, iI n2, .own k101 0 (l98).length, moC (l99 ++ ([n115] : List (Int))) (bb105 + 8), moC l100 k103]]) 0 rfl rfl rfl sz30 rfl rfl rfl rfl rfl) (q := 3) rfl rfl ?_
 refine tn_end (eS (lS ?_))
 refine L_norm (L2 := ([moL r3 1 (l99 ++ ([n115] : List (Int))) (bb105 + 8), [(k4, 5, [[iI 0, iI 0, nC, nC, nC]])], [(k9, 5, [[iI n1, iI n2, .own k101 0 (l98).length, moC (l99 ++ ([n115] : List (Int))) (bb105 + 8), moC l100 k103]])], [(k101, 1, (l98).map (rowC r3))], moL r2 1 l100 k103] : BL)) [0, 2, 3, 4, 5] (by decide) rfl ?_
 refine L_turn 11 rfl [[], [], [], [], [], [], [], [], moK l100 k103, [], [k9]] [(false, []), (false, []), (false, []), (false, []), (false, []), (false, []), (false, []), (true, []), (true, []), (false, []), (false, [])] [[2, 3, 4, 5, 6, 7], [2, 3, 4, 5, 6, 7], [0, 1, 3], [0, 1, 2], [0, 1], [0, 1], [0, 1], [0, 1], [], [], []] (by kernel_rfl) (by kernel_rfl) (by kernel_rfl) ?_ (fun bb118 hlt hnd => ?_)
 intro bb118 hlt hnd
 have e_bb105_8 : (l99 ++ ([n115] : List (Int))) = [] ∨ (bb105 + 8) < bb118 := key_ltM (r := r3) (w := 1) hlt 0 rfl
 have e_k4 : k4 < bb118 := key_lt hlt 1 rfl
 have e_k9 : k9 < bb118 := key_lt hlt 2 rfl
 have e_k101 : k101 < bb118 := key_lt hlt 3 rfl
 have e_k103 : l100 = [] ∨ k103 < bb118 := key_ltM (r := r2) (w := 1) hlt 4 rfl
 have f_k103 := moK_lt e_k103
 have d_k9_k4 : k9 ≠ k4 := key_ne hnd 2 1 rfl rfl rfl
 have d_k9_k101 : k9 ≠ k101 := key_ne hnd 2 3 rfl rfl rfl
 have d_k103_k4 : k4 ∉ moK l100 k103 := key_neM (r := r2) (w := 1) hnd 4 1 rfl rfl rfl
 have g_k103_k4 := moK_ne d_k103_k4
 have d_k103_k9 : k9 ∉ moK l100 k103 := key_neM (r := r2) (w := 1) hnd 4 2 rfl rfl rfl
 have g_k103_k9 := moK_ne d_k103_k9
 have d_k103_k101 : k101 ∉ moK l100 k103 := key_neM (r := r2) (w := 1) hnd 4 3 rfl rfl rfl
 have g_k103_k101 := moK_ne d_k103_k101
 exact ⟨(by first | (simp [DJ]; done) | (simp [DJ]; omega) | (simp [DJ]; assumption) | (simp_all [DJ]; done) | (simp_all [DJ]; omega)), (by first | (simp [DJ]; done) | (simp [DJ]; omega) | (simp [DJ]; assumption) | (simp_all [DJ]; done) | (simp_all [DJ]; omega))⟩
 have e_bb105_8 : (l99 ++ ([n115] : List (Int))) = [] ∨ (bb105 + 8) < bb118 := key_ltM (r := r3) (w := 1) hlt 0 rfl
 have e_k4 : k4 < bb118 := key_lt hlt 1 rfl
 have e_k9 : k9 < bb118 := key_lt hlt 2 rfl
 have e_k101 : k101 < bb118 := key_lt hlt 3 rfl
 have e_k103 : l100 = [] ∨ k103 < bb118 := key_ltM (r := r2) (w := 1) hlt 4 rfl
 have f_k103 := moK_lt e_k103
 have d_k9_k4 : k9 ≠ k4 := key_ne hnd 2 1 rfl rfl rfl
 have d_k9_k101 : k9 ≠ k101 := key_ne hnd 2 3 rfl rfl rfl
 have d_k103_k4 : k4 ∉ moK l100 k103 := key_neM (r := r2) (w := 1) hnd 4 1 rfl rfl rfl
 have g_k103_k4 := moK_ne d_k103_k4
 have d_k103_k9 : k9 ∉ moK l100 k103 := key_neM (r := r2) (w := 1) hnd 4 2 rfl rfl rfl
 have g_k103_k9 := moK_ne d_k103_k9
 have d_k103_k101 : k101 ∉ moK l100 k103 := key_neM (r := r2) (w := 1) hnd 4 3 rfl rfl rfl
 have g_k103_k101 := moK_ne d_k103_k101
 refine tq [] rfl hmn (q_fieldP rfl fa33_4 rfl) ?_
 refine tq [2] rfl (hmc (nin_cons (ne_new (key_lt hlt 2 rfl)) nin_nil) hmn) (ql (.one (moC l100 k103)) 0 sz31) ?_
 refine tq [] rfl (hm0 rfl) (qm (.one (sF r76 s3))) ?_
 refine tq [] rfl (hm0 rfl) (qm (iO n97)) ?_
 refine tq [] rfl (hm0 rfl) (q_ixS rfl rfl h113a h113 (el24.trans (congrArg some h113b.symm))) ?_
 refine tq [] rfl (hm0 rfl) (q_fieldI rfl fa77_2 rfl) ?_
 refine tq [] rfl (hm0 rfl) (q_loadI (v := iO n116) rfl sz2 (map_get h113) rfl rfl) ?_
 refine tn_new rfl rfl rfl [] (by decide) rfl (hm0 rfl) rfl rfl (hkM (e_bb105_8.imp id fun h => by omega) (hkc (ne_new (key_lt hlt 1 rfl)) (hkc (ne_new (key_lt hlt 2 rfl)) (hkc (ne_new (key_lt hlt 3 rfl)) (hkM (e_k103.imp id fun h => by omega) hkn))))) (q_bslice (cs := [iI n116]) (es := (([n116] : List (Int))).map (rowC r2)) ty31 rfl ty2 rfl rfl rfl rfl rfl) ?_
 obtain ⟨_, h120, h⟩ := bindS h
 obtain ⟨h120b, rfl⟩ := app_some h120
 refine tn_appM (r := r2) (l := l100) 0 5 rfl rfl rfl rfl [5, 0] (by decide) rfl (hm0 rfl) rfl rfl (hkc (ne_add rfl) (hkM (e_bb105_8.imp id fun h => by omega) (hkc (ne_new (key_lt hlt 1 rfl)) (hkc (ne_new (key_lt hlt 2 rfl)) (hkc (ne_new (key_lt hlt 3 rfl)) (hkM (e_k103.imp id fun h => by omega) hkn)))))) rfl rfl (el_ownM (l := ([n116] : List (Int))) 1 rfl) rfl rfl h120 (fun y => rfl) el31 ty31 rfl rfl rfl rfl rfl ?_
 refine tq [] rfl (hm0 rfl) (q_fieldP rfl fa33_4 rfl) ?_
 refine tn_wr rfl rfl [4] (by decide) rfl (hm0 rfl) rfl (q_store (es' := [[iI n1, iI n2, .own k101 0 (l98).length, moC (l99 ++ ([n115] : List (Int))) (bb105 + 8), moC (l100 ++ ([n116] : List (Int))) (bb118 + 8)]]) 0 rfl rfl rfl sz31 rfl rfl rfl rfl rfl) (q := 4) rfl rfl ?_
 refine tn_end (eS (lS (lO ?_)))
 refine pq (qm (.one (sF r76 s3))) ?_
 refine pq (qm (iO n97)) ?_
 refine pq (q_ixS rfl rfl h113a h113 (el24.trans (congrArg some h113b.symm))) ?_
 refine pq (q_fieldI rfl fa77_0 rfl) ?_
 refine pq (q_loadI (v := iO n114) rfl sz3 (map_get h113) rfl rfl) ?_
 refine pq (qb p_addY) ?_
 refine pq (qa (iO (IntKind.i64.wrap (n114 + 1)))) ?_
 refine oE (eS (lB ?_))
 let S2 : (Int × List (Int)) → Nat → (Nat → D) → Nat → D := fun a kt g => ups g [(0, iO n1), (2, .one (sF r76 s3)), (6, .one (.ptr k4 0 0)), (7, .one (.ptr k9 0 0)), (8, iO n97), (9, .one (iI a.1))]
 let SL2 : (Int × List (Int)) → Nat → BL := fun a kt => ([[(k4, 5, [[iI 0, iI 0, nC, nC, nC]])], [(k9, 5, [[iI n1, iI n2, .own kt 0 (a.2).length, moC (l99 ++ ([n115] : List (Int))) (bb105 + 8), moC (l100 ++ ([n116] : List (Int))) (bb118 + 8)]])], moL r3 1 (l99 ++ ([n115] : List (Int))) (bb105 + 8), moL r2 1 (l100 ++ ([n116] : List (Int))) (bb118 + 8), [(kt, 1, (a.2).map (rowC r3))]] : BL)
 let G2 : ((Int × List (Int) × List (Int) × List (Int)) ⊕ ((List (Int) × List (Int) × List (Int)) ⊕ (Int × Int × Sl (Int) × Sl (Int) × Sl (Int)))) → Ex → St → Prop := LQ 58 S1 SL1 J1
 let Sx2 : (List (Int)) → Nat → (Nat → D) → Nat → D := fun a kt g => ups g [(0, iO n1), (2, .one (sF r76 s3)), (6, .one (.ptr k4 0 0)), (7, .one (.ptr k9 0 0)), (8, iO n97)]
 let SLx2 : (List (Int)) → Nat → BL := fun a kt => ([[(k4, 5, [[iI 0, iI 0, nC, nC, nC]])], [(k9, 5, [[iI n1, iI n2, .own kt 0 (a).length, moC (l99 ++ ([n115] : List (Int))) (bb105 + 8), moC (l100 ++ ([n116] : List (Int))) (bb118 + 8)]])], moL r3 1 (l99 ++ ([n115] : List (Int))) (bb105 + 8), moL r2 1 (l100 ++ ([n116] : List (Int))) (bb118 + 8), [(kt, 1, (a).map (rowC r3))]] : BL)
 let J2 : ((List (Int)) ⊕ ((Int × List (Int) × List (Int) × List (Int)) ⊕ ((List (Int) × List (Int) × List (Int)) ⊕ (Int × Int × Sl (Int) × Sl (Int) × Sl (Int))))) → Ex → St → Prop := JX 58 2 Sx2 SLx2 G2
 refine L_loopS (ref07_built_b2 n1) S2 SL2 J2 JX_n ((IntKind.i64.wrap (n114 + 1)), l98) h k101 (ups_self ⟨rfl, rfl, rfl, rfl, rfl, rfl, trivial⟩) [3, 4, 2, 0, 5] (by decide) rfl ?_ ?_
 rintro ⟨n132, l133⟩ k134 g out h
 change ref07_built_b2 n1 (n132, l133) = some out at h
 unfold ref07_built_b2 at h
 refine lS (lS (lO ?_))
 refine pq (qm (iO n132)) ?_
 refine pq (qm (iO n1)) ?_
 by_cases c135 : n132 ≤ n1
 replace h := ifT c135 h
 refine pq (qb (p_leq_tZ c135)) ?_
 refine oE (eS (cT rfl (lK (eS (lS (lB (lO ?_)))))))
 refine pq (q_fieldP rfl fa33_2 rfl) ?_
 refine pq (ql (.one (.own k134 0 (l133).length)) 1 sz30) ?_
 refine pq (qm (iO n132)) ?_
 obtain ⟨n138, h137, h⟩ := bindS h
 obtain ⟨h137a, h137⟩ := atL_some h137
 refine pq (q_ixO 4 rfl rfl h137a h137 rfl el30) ?_
 refine pq (q_loadP (v := iO n138) 4 rfl sz3 rfl (map_get h137) rfl rfl) ?_
 refine pq (qb p_addY) ?_
 refine pq (q_ixO 4 rfl rfl h137a h137 rfl el30) ?_
 refine ol_wr rfl rfl (q_store (e' := rowC r3 (IntKind.i64.wrap (n138 + 1))) (es' := ((l133.set n132.toNat (IntKind.i64.wrap (n138 + 1)))).map (rowC r3)) 4 rfl rfl rfl sz3 rfl rfl (map_get h137) rfl map_set) rfl ?_
 refine ol_re 51 (v := .one (.own k134 0 ((l133.set n132.toNat (IntKind.i64.wrap (n138 + 1)))).length)) (Eq.trans (b := .one (.own k134 0 (l133).length)) rfl (congrArg D.one own_setC)) ?_
 refine ol_reS 1 (s' := [(k9, 5, [[iI n1, iI n2, .own k134 0 ((l133.set n132.toNat (IntKind.i64.wrap (n138 + 1)))).length, moC (l99 ++ ([n115] : List (Int))) (bb105 + 8), moC (l100 ++ ([n116] : List (Int))) (bb118 + 8)]])]) rfl (congrArg (fun z => ([(k9, 5, [[iI n1, iI n2, z, moC (l99 ++ ([n115] : List (Int))) (bb105 + 8), moC (l100 ++ ([n116] : List (Int))) (bb118 + 8)]])] : List B1)) own_setC) ?_
 refine oE (bN (eS (lO ?_)))
 refine pq (qm (iO n132)) ?_
 refine pq (qb p_addY) ?_
 refine pq (qa (iO (IntKind.i64.wrap (n132 + 1)))) ?_
 refine oE ?_
 obtain rfl := sj h
 exact E_next k134 (ups_self ⟨rfl, rfl, rfl, rfl, rfl, rfl, trivial⟩) [0, 1, 2, 3, 4] (by decide) rfl
 replace h := ifF c135 h
 refine pq (qb (p_leq_fZ c135)) ?_
 refine oE (eS (cF rfl (L_exit ?_)))
 refine E_seqX ?_
 obtain rfl := sj h
 refine E_out ?_
 exact (E_exit k134 (ups_self ⟨rfl, rfl, rfl, rfl, rfl, trivial⟩) [0, 1, 2, 3, 4] (by decide) rfl)
 rintro (l139 | u) h
 refine J_x (fun k140 g => ?_)
 replace h := elimL h
 refine bH (bN (eS (lO ?_)))
 refine pq (qm (iO n97)) ?_
 refine pq (qb p_addY) ?_
 refine pq (qa (iO (IntKind.i64.wrap (n97 + 1)))) ?_
 refine oE ?_
 obtain rfl := sj h
 exact E_next (k140, (bb105 + 8), (bb118 + 8)) (ups_self ⟨rfl, rfl, rfl, rfl, rfl, trivial⟩) [0, 1, 4, 2, 3] (by decide) rfl
 obtain rfl := Option.some.inj (elimR h)
 exact J_up (fun s hs => hs)
 replace h := ifF c104 h
 refine pq (qb (p_lss_fZ c104)) ?_
 refine oE (eS (cF rfl (L_exit ?_)))
 refine E_seqX ?_
 obtain rfl := sj h
 refine E_out ?_
 exact (E_exit (k101, k102, k103) (ups_self ⟨rfl, rfl, trivial⟩) [0, 1, 2, 3, 4] (by decide) rfl)
 rintro (⟨l141, l142, l143⟩ | u) h
 refine J_x (fun kt g => ?_)
 rcases kt with ⟨k144, k145, k146⟩
 replace h := elimL h
 refine bH (eS (lS (lO ?_)))
 refine pq (ql (.agg [iI n1, iI n2, .own k144 0 (l141).length, moC l142 k145, moC l143 k146]) 1 sz33) ?_
 refine ow [[iI n1, iI n2, .own k144 0 (l141).length, moC l142 k145, moC l143 k146]] 0 sz33 ?_
 refine oE (eS (lR ?_))
 obtain rfl := sj h
 exact E_endF (.inr rfl) (res_cell (d := .agg [iI n1, iI n2, .own k144 0 (l141).length, moC l142 k145, moC l143 k146]) 0 rfl sz33 rfl rfl rfl rfl res_nil) (vw_cons (vd_agg (vc_cons vc_v (vc_cons vc_v (vc_cons (vc_own (r := r3) 2 rfl (fun x h m => rfl)) (vc_cons (vc_M (r := r3) 3 rfl (fun x h m => rfl)) (vc_cons (vc_M (r := r2) 4 rfl (fun x h m => rfl)) vc_nil)))))) vw_nil) oG rfl rfl
 obtain rfl := Option.some.inj (elimR h)
 exact J_up (fun s hs => hs)
end Ev
end Go.Proofs.YtnikcjnkcjondaaDoor
end
