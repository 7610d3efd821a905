/- Texts of a claim, joined. -/
import Derived.Test.YtnikcjnkcjondaaDoorZT9
import Derived.Test.YtnikcjnkcjondaaDoorZT6
set_option linter.unusedVariables false
set_option linter.unusedSimpArgs false
section
namespace Go.Proofs.YtnikcjnkcjondaaDoor
namespace Ev
open Go
set_option linter.unusedVariables false
set_option linter.unusedSimpArgs false
set_option maxRecDepth 100000
set_option maxHeartbeats 1000000
attribute [local irreducible] OpsL StL TnL WpL EndL
noncomputable def devec_Right_b1 (s2 : Sl (Int)) (s3 : Sl (Int)) (n23 : Int) : Option (Int ⊕ (Unit ⊕ Bool)) :=
 (if n23 < ((s3.l.length : Nat) : Int) then ((atS 1 s3 n23).bind fun n27 => (if n27 ≠ 0 then ((flags_Has s2 n23).bind fun b30 => (if b30 = true then some (.inl (IntKind.i64.wrap (n23 + 1))) else some (.inr (.inr false)))) else some (.inl (IntKind.i64.wrap (n23 + 1))))) else some (.inr (.inl ())))
noncomputable def devec_Right (a0 : Int × Sl (Int) × Sl (Int)) : Option (Bool) :=
 match a0 with
 | (n1, s2, s3) => ((flags_Right s2 n1).bind fun b6 => (if b6 = true then (if ((s3.l.length : Nat) : Int) ≠ n1 then some false else ((loopO (devec_Right_b1 s2 s3) 0).bind (Sum.elim (fun _ => some true) (fun u => some u)))) else some false))
theorem devec_Right_r (m : Nat) {a0 : Int × Sl (Int) × Sl (Int)} {out : Bool} (h : devec_Right a0 = some out) : RunsP E1 (m + 5) 44 [.agg (r42 a0)] (.fresh, [.one (bT out)]) := by
 obtain ⟨n1, s2, s3⟩ := a0
 refine fn_F rfl (by rw [E1_fn]; exact show fiOf Tryd.prog 44 = _ by unfold fiOf; rw [Tryd.func44]; unfold Tryd.f44; rfl) rfl ?_
 dsimp only
 unfold devec_Right at h
 refine lS (lO ?_)
 refine ol_new rfl rfl rfl (q_box ty43 rfl (cs := [iI n1, sF r62 s2, sF r2 s3]) rfl rfl) (fun k4 => ?_)
 refine pq (qa bf) ?_
 refine oE (eS (lS (lS (lO ?_))))
 refine pq (q_fieldP rfl fa43_1 rfl) ?_
 refine pq (ql (.one (sF r62 s2)) 0 sz26) ?_
 refine pq (q_fieldP rfl fa43_0 rfl) ?_
 refine pq (ql (iO n1) 0 sz3) ?_
 obtain ⟨b6, h5, h⟩ := bindS h
 refine pq (qc (bO b6) [.one (sF r62 s2), iO n1] (flags_Right_r (m + 0) h5) (vw_cons (vd_one vc_s) (vw_cons (vd_one vc_v) vw_nil))) ?_
 rcases b6 with _ | _
 replace h := wF h
 refine pq (q_not rfl) ?_
 refine pq (qm bt) ?_
 iterate 6 refine os ?_
 refine pq (qpt bt) ?_
 refine oE (eS (cT rfl (lS (lO ?_))))
 refine pq (qa bf) ?_
 refine oE (eS (lR (eR ?_)))
 obtain rfl := sj h
 exact eF1
 replace h := wT h
 refine pq (q_not rfl) ?_
 refine pq (qm bf) ?_
 refine pq (q_fieldP rfl fa43_2 rfl) ?_
 refine pq (ql (.one (sF r2 s3)) 0 sz31) ?_
 refine pq (q_lenS rfl ty31 rfl rfl rfl rfl) ?_
 refine pq (q_fieldP rfl fa43_0 rfl) ?_
 refine pq (ql (iO n1) 0 sz3) ?_
 by_cases c7 : ((s3.l.length : Nat) : Int) ≠ n1
 replace h := ifT c7 h
 refine pq (qb (p_neq_tZ c7)) ?_
 refine pq (qpf bt) ?_
 refine oE (eS (cT rfl (lS (lO ?_))))
 refine pq (qa bf) ?_
 refine oE (eS (lR (eR ?_)))
 obtain rfl := sj h
 exact eF1
 replace h := ifF c7 h
 refine pq (qb (p_neq_fZ c7)) ?_
 refine pq (qpf bf) ?_
 refine oE (eS (cF rfl (lK (eS (lS (lS (lO ?_)))))))
 refine pq (q_fieldP rfl fa43_2 rfl) ?_
 refine pq (ql (.one (sF r2 s3)) 0 sz31) ?_
 refine pq (q_lenS rfl ty31 rfl rfl rfl rfl) ?_
 refine pq (qm (iO 0)) ?_
 refine oE (eS (lB ?_))
 let S1 : Int → Unit → (Nat → D) → Nat → D := fun a kt g => ups g [(1, .one (.ptr k4 0 0)), (20, .one (sF r2 s3)), (21, .one (iI ((s3.l.length : Nat) : Int))), (22, iO a)]
 let SL1 : Int → Unit → BL := fun a kt => ([[(k4, 3, [[iI n1, sF r62 s2, sF r2 s3]])]] : BL)
 let G1 : Bool → Ex → St → Prop := fun u => endQ E1 [.tmp 2] (.fresh, [.one (bT u)])
 let Sx1 : Unit → Unit → (Nat → D) → Nat → D := fun a kt g => ups g []
 let SLx1 : Unit → Unit → BL := fun a kt => ([] : BL)
 let J1 : (Unit ⊕ Bool) → Ex → St → Prop := JX 37 0 Sx1 SLx1 G1
 refine L_loopS (devec_Right_b1 s2 s3) S1 SL1 J1 JX_n 0 h () (ups_self ⟨rfl, rfl, rfl, rfl, trivial⟩) [0] (by decide) rfl ?_ ?_
 rintro n23 _ g out h
 change devec_Right_b1 s2 s3 n23 = some out at h
 unfold devec_Right_b1 at h
 refine lS (lO ?_)
 by_cases c24 : n23 < ((s3.l.length : Nat) : Int)
 replace h := ifT c24 h
 refine pq (qb (p_lss_tZ c24)) ?_
 refine oE (eS (lS (cT rfl (lK (eS (lS (lB (lS (lO ?_)))))))))
 refine pq (qm (iO n23)) ?_
 obtain ⟨n27, h26, h⟩ := bindS h
 obtain ⟨h26a, h26b, h26⟩ := atS_some h26
 refine pq (q_ixS rfl rfl h26a h26 (el31.trans (congrArg some h26b.symm))) ?_
 refine pq (q_loadI (v := iO n27) rfl sz2 (map_get h26) rfl rfl) ?_
 refine pq (qa (iO n23)) ?_
 refine pq (qa (iO n27)) ?_
 refine oN ?_
 refine pq (qm (iO n27)) ?_
 by_cases c28 : n27 ≠ 0
 replace h := ifT c28 h
 refine pq (qb (p_neq_tZ c28)) ?_
 refine pq (qm bt) ?_
 refine pq (q_fieldP rfl fa43_1 rfl) ?_
 refine pq (ql (.one (sF r62 s2)) 0 sz26) ?_
 refine pq (qm (iO n23)) ?_
 obtain ⟨b30, h29, h⟩ := bindS h
 refine pq (qc (bO b30) [.one (sF r62 s2), iO n23] (flags_Has_r (m + 2) h29) (vw_cons (vd_one vc_s) (vw_cons (vd_one vc_v) vw_nil))) ?_
 rcases b30 with _ | _
 replace h := wF h
 refine pq (q_not rfl) ?_
 refine pq (qpt bt) ?_
 refine oE (eS (cT rfl (lS (lO ?_))))
 refine pq (qa bf) ?_
 refine oE (eS (lR (bR (eR ?_))))
 obtain rfl := sj h
 exact E_out (E_up (eF1))
 replace h := wT h
 refine pq (q_not rfl) ?_
 refine pq (qpt bf) ?_
 refine oE (eS (cF rfl (lK (bN (eS (lO ?_))))))
 refine pq (qb p_addY) ?_
 refine pq (qm (iO (IntKind.i64.wrap (n23 + 1)))) ?_
 refine oE ?_
 obtain rfl := sj h
 exact E_next () (ups_self ⟨rfl, rfl, rfl, rfl, trivial⟩) [0] (by decide) rfl
 replace h := ifF c28 h
 refine pq (qb (p_neq_fZ c28)) ?_
 refine pq (qm bf) ?_
 iterate 5 refine os ?_
 refine pq (qpf bf) ?_
 refine oE (eS (cF rfl (lK (bN (eS (lO ?_))))))
 refine pq (qb p_addY) ?_
 refine pq (qm (iO (IntKind.i64.wrap (n23 + 1)))) ?_
 refine oE ?_
 obtain rfl := sj h
 exact E_next () (ups_self ⟨rfl, rfl, rfl, rfl, trivial⟩) [0] (by decide) rfl
 replace h := ifF c24 h
 refine pq (qb (p_lss_fZ c24)) ?_
 refine oE (eS (lS (cF rfl (L_exit ?_))))
 refine E_seqX ?_
 obtain rfl := sj h
 refine E_out ?_
 exact (E_exit () (ups_self trivial) [] (by decide) rfl)
 rintro (_ | u) h
 refine J_x (fun kt g => ?_)
 replace h := elimL h
 refine bH (eS (lS (lO ?_)))
 refine pq (qa bt) ?_
 refine oE (eS (lR ?_))
 obtain rfl := sj h
 exact eF1
 obtain rfl := Option.some.inj (elimR h)
 exact J_up (fun s hs => hs)
noncomputable def wide_Of (n1 : Int) : Option ((Int × Int)) :=
 ((shr1 .i64 n1 63).bind fun n3 => some (n3, (IntKind.u64.wrap n1)))
theorem wide_Of_r (m : Nat) {n1 : Int} {out : (Int × Int)} (h : wide_Of n1 = some out) : RunsP E1 (m + 1) 61 [.one (iT .i64 n1)] (.fresh, [.agg (r63 out)]) := by
 refine fn_F rfl (by rw [E1_fn]; exact show fiOf Tryd.prog 61 = _ by unfold fiOf; rw [Tryd.func61]; unfold Tryd.f61; rfl) rfl ?_
 dsimp only
 unfold wide_Of at h
 refine lS (lO ?_)
 refine ol_new rfl rfl rfl (q_alloc ty64 (row := [iI 0, uI 0]) rfl rfl) (fun k2 => ?_)
 refine oN ?_
 refine pq (qm (iO n1)) ?_
 obtain ⟨n3, h4, h⟩ := bindS h
 refine pq (q_bin rfl rfl (p_shr h4) rfl) ?_
 refine pq (qm (iO n1)) ?_
 refine pq (q_conv rfl (cv2_62_i64 _) rfl) ?_
 refine pq (q_build (cs := [iI n3, uI (IntKind.u64.wrap n1)]) ty64 rfl pl64 rfl) ?_
 refine ow [[iI n3, uI (IntKind.u64.wrap n1)]] 0 sz64 ?_
 refine oE (eS (lR ?_))
 obtain rfl := sj h
 exact E_endF (.inr rfl) (res_cell (d := .agg [iI n3, uI (IntKind.u64.wrap n1)]) 0 rfl sz64 rfl rfl rfl rfl res_nil) (vw_cons (vd_agg (vc_cons vc_v (vc_cons vc_v vc_nil))) vw_nil) oG rfl rfl
noncomputable def wide_Add (a0 : Int × Int) (a1 : Int × Int) : Option ((Int × Int)) :=
 match a0, a1 with
 | (n1, n2), (n3, n4) => (if (IntKind.u64.wrap (n2 + n4)) < n2 then some ((IntKind.i64.wrap ((IntKind.i64.wrap (n1 + n3)) + 1)), (IntKind.u64.wrap (n2 + n4))) else some ((IntKind.i64.wrap (n1 + n3)), (IntKind.u64.wrap (n2 + n4))))
theorem wide_Add_r (m : Nat) {a0 : Int × Int} {a1 : Int × Int} {out : (Int × Int)} (h : wide_Add a0 a1 = some out) : RunsP E1 (m + 1) 63 [.agg (r63 a0), .agg (r63 a1)] (.fresh, [.agg (r63 out)]) := by
 obtain ⟨n1, n2⟩ := a0
 obtain ⟨n3, n4⟩ := a1
 refine fn_F rfl (by rw [E1_fn]; exact show fiOf Tryd.prog 63 = _ by unfold fiOf; rw [Tryd.func63]; unfold Tryd.f63; rfl) rfl ?_
 dsimp only
 unfold wide_Add at h
 refine lS (lO ?_)
 refine ol_new rfl rfl rfl (q_box ty64 rfl (cs := [iI n1, uI n2]) rfl rfl) (fun k5 => ?_)
 refine ol_new rfl rfl rfl (q_box ty64 rfl (cs := [iI n3, uI n4]) rfl rfl) (fun k6 => ?_)
 refine ol_new rfl rfl rfl (q_alloc ty64 (row := [iI 0, uI 0]) rfl rfl) (fun k7 => ?_)
 refine oN ?_
 refine pq (q_fieldP rfl fa64_0 rfl) ?_
 refine pq (ql (iO n1) 2 sz2) ?_
 refine pq (q_fieldP rfl fa64_0 rfl) ?_
 refine pq (ql (iO n3) 1 sz2) ?_
 refine pq (qb p_addY) ?_
 refine pq (q_fieldP rfl fa64_1 rfl) ?_
 refine pq (ql (.one (uI n2)) 2 sz62) ?_
 refine pq (q_fieldP rfl fa64_1 rfl) ?_
 refine pq (ql (.one (uI n4)) 1 sz62) ?_
 refine pq (qb p_addY) ?_
 refine pq (q_build (cs := [iI (IntKind.i64.wrap (n1 + n3)), uI (IntKind.u64.wrap (n2 + n4))]) ty64 rfl pl64 rfl) ?_
 refine ol_new rfl rfl rfl (q_alloc ty64 (row := [iI 0, uI 0]) rfl rfl) (fun k8 => ?_)
 refine ow [[iI (IntKind.i64.wrap (n1 + n3)), uI (IntKind.u64.wrap (n2 + n4))]] 0 sz64 ?_
 refine oE (eS (lS (lS (lO ?_))))
 refine pq (q_fieldP rfl fa64_1 rfl) ?_
 refine pq (ql (.one (uI (IntKind.u64.wrap (n2 + n4)))) 0 sz62) ?_
 refine pq (q_fieldP rfl fa64_1 rfl) ?_
 refine pq (ql (.one (uI n2)) 3 sz62) ?_
 by_cases c9 : (IntKind.u64.wrap (n2 + n4)) < n2
 replace h := ifT c9 h
 refine pq (qb (p_lss_tZ c9)) ?_
 refine oE (eS (cT rfl (lO ?_)))
 refine pq (q_fieldP rfl fa64_0 rfl) ?_
 refine pq (ql (iO (IntKind.i64.wrap (n1 + n3))) 0 sz2) ?_
 refine pq (qb p_addY) ?_
 refine pq (q_fieldP rfl fa64_0 rfl) ?_
 refine ow [[iI (IntKind.i64.wrap ((IntKind.i64.wrap (n1 + n3)) + 1)), uI (IntKind.u64.wrap (n2 + n4))]] 0 sz2 ?_
 refine oN ?_
 refine pq (ql (.agg [iI (IntKind.i64.wrap ((IntKind.i64.wrap (n1 + n3)) + 1)), uI (IntKind.u64.wrap (n2 + n4))]) 0 sz64) ?_
 refine ow [[iI (IntKind.i64.wrap ((IntKind.i64.wrap (n1 + n3)) + 1)), uI (IntKind.u64.wrap (n2 + n4))]] 1 sz64 ?_
 refine oE (eS (lR ?_))
 obtain rfl := sj h
 exact E_endF (.inr rfl) (res_cell (d := .agg [iI (IntKind.i64.wrap ((IntKind.i64.wrap (n1 + n3)) + 1)), uI (IntKind.u64.wrap (n2 + n4))]) 1 rfl sz64 rfl rfl rfl rfl res_nil) (vw_cons (vd_agg (vc_cons vc_v (vc_cons vc_v vc_nil))) vw_nil) oG rfl rfl
 replace h := ifF c9 h
 refine pq (qb (p_lss_fZ c9)) ?_
 refine oE (eS (cF rfl (lK (eS (lS (lO ?_))))))
 refine pq (ql (.agg [iI (IntKind.i64.wrap (n1 + n3)), uI (IntKind.u64.wrap (n2 + n4))]) 0 sz64) ?_
 refine ow [[iI (IntKind.i64.wrap (n1 + n3)), uI (IntKind.u64.wrap (n2 + n4))]] 1 sz64 ?_
 refine oE (eS (lR ?_))
 obtain rfl := sj h
 exact E_endF (.inr rfl) (res_cell (d := .agg [iI (IntKind.i64.wrap (n1 + n3)), uI (IntKind.u64.wrap (n2 + n4))]) 1 rfl sz64 rfl rfl rfl rfl res_nil) (vw_cons (vd_agg (vc_cons vc_v (vc_cons vc_v vc_nil))) vw_nil) oG rfl rfl
noncomputable def wide_Compare (a0 : Int × Int) (a1 : Int × Int) : Option (Int) :=
 match a0, a1 with
 | (n1, n2), (n3, n4) => (if n1 = n3 ∧ n2 = n4 then some 0 else (if n1 < n3 then some (-1) else (if n1 = n3 then (if n2 < n4 then some (-1) else some 1) else some 1)))
theorem wide_Compare_r (m : Nat) {a0 : Int × Int} {a1 : Int × Int} {out : Int} (h : wide_Compare a0 a1 = some out) : RunsP E1 (m + 1) 75 [.agg (r63 a0), .agg (r63 a1)] (.fresh, [.one (iT .i64 out)]) := by
 obtain ⟨n1, n2⟩ := a0
 obtain ⟨n3, n4⟩ := a1
 refine fn_F rfl (by rw [E1_fn]; exact show fiOf Tryd.prog 75 = _ by unfold fiOf; rw [Tryd.func75]; unfold Tryd.f75; rfl) rfl ?_
 dsimp only
 unfold wide_Compare at h
 refine lS (lO ?_)
 refine ol_new rfl rfl rfl (q_box ty64 rfl (cs := [iI n1, uI n2]) rfl rfl) (fun k5 => ?_)
 refine ol_new rfl rfl rfl (q_box ty64 rfl (cs := [iI n3, uI n4]) rfl rfl) (fun k6 => ?_)
 refine pq (qa (iO 0)) ?_
 refine oE (eS (lS (lB (lS (lO ?_)))))
 refine pq (ql (.agg [iI n1, uI n2]) 1 sz64) ?_
 refine pq (ql (.agg [iI n3, uI n4]) 0 sz64) ?_
 by_cases c7 : n1 = n3 ∧ n2 = n4
 replace h := ifT c7 h
 refine pq (q_binA rfl rfl (by rfl) (by rfl) (eqeqlA64_t _ _ c7) rfl) ?_
 refine pq (qa bt) ?_
 refine oE (eS (cT rfl (lS (lO ?_))))
 refine pq (qa (iO 0)) ?_
 refine oE (eS (lR (bR (eR ?_))))
 obtain rfl := sj h
 exact eF1
 replace h := ifF c7 h
 refine pq (q_binA rfl rfl (by rfl) (by rfl) (eqeqlA64_f _ _ c7) rfl) ?_
 refine pq (qa bf) ?_
 refine oE (eS (cF rfl (lS (lO ?_))))
 refine pq (q_fieldP rfl fa64_0 rfl) ?_
 refine pq (ql (iO n1) 1 sz2) ?_
 refine pq (q_fieldP rfl fa64_0 rfl) ?_
 refine pq (ql (iO n3) 0 sz2) ?_
 by_cases c8 : n1 < n3
 replace h := ifT c8 h
 refine pq (qb (p_lss_tZ c8)) ?_
 refine pq (qm bt) ?_
 iterate 12 refine os ?_
 refine pq (qpt bt) ?_
 refine pq (qa bt) ?_
 refine oE (eS (cT rfl (lS (lO ?_))))
 refine pq (qa (iO (-1))) ?_
 refine oE (eS (lR (bR (eR ?_))))
 obtain rfl := sj h
 exact eF1
 replace h := ifF c8 h
 refine pq (qb (p_lss_fZ c8)) ?_
 refine pq (qm bf) ?_
 refine pq (q_fieldP rfl fa64_0 rfl) ?_
 refine pq (ql (iO n1) 1 sz2) ?_
 refine pq (q_fieldP rfl fa64_0 rfl) ?_
 refine pq (ql (iO n3) 0 sz2) ?_
 by_cases c9 : n1 = n3
 replace h := ifT c9 h
 refine pq (qb (p_eql_tZ c9)) ?_
 refine pq (qm bt) ?_
 refine pq (q_fieldP rfl fa64_1 rfl) ?_
 refine pq (ql (.one (uI n2)) 1 sz62) ?_
 refine pq (q_fieldP rfl fa64_1 rfl) ?_
 refine pq (ql (.one (uI n4)) 0 sz62) ?_
 by_cases c10 : n2 < n4
 replace h := ifT c10 h
 refine pq (qb (p_lss_tZ c10)) ?_
 refine pq (qpt bt) ?_
 refine pq (qpf bt) ?_
 refine pq (qa bt) ?_
 refine oE (eS (cT rfl (lS (lO ?_))))
 refine pq (qa (iO (-1))) ?_
 refine oE (eS (lR (bR (eR ?_))))
 obtain rfl := sj h
 exact eF1
 replace h := ifF c10 h
 refine pq (qb (p_lss_fZ c10)) ?_
 refine pq (qpt bf) ?_
 refine pq (qpf bf) ?_
 refine pq (qa bf) ?_
 refine oE (eS (cF rfl (lK (bN (eS (lS (lO ?_)))))))
 refine pq (qa (iO 1)) ?_
 refine oE (eS (lR ?_))
 obtain rfl := sj h
 exact eF1
 replace h := ifF c9 h
 refine pq (qb (p_eql_fZ c9)) ?_
 refine pq (qm bf) ?_
 iterate 5 refine os ?_
 refine pq (qpf bf) ?_
 refine pq (qpf bf) ?_
 refine pq (qa bf) ?_
 refine oE (eS (cF rfl (lK (bN (eS (lS (lO ?_)))))))
 refine pq (qa (iO 1)) ?_
 refine oE (eS (lR ?_))
 obtain rfl := sj h
 exact eF1
noncomputable def ring_lesser (a0 : Int × Int) (a1 : Int × Int) : Option ((Int × Int)) :=
 match a0, a1 with
 | (n1, n2), (n3, n4) => ((wide_Compare (n3, n4) (n1, n2)).bind fun n9 => (if n9 < 0 then some (n3, n4) else some (n1, n2)))
theorem ring_lesser_r (m : Nat) {a0 : Int × Int} {a1 : Int × Int} {out : (Int × Int)} (h : ring_lesser a0 a1 = some out) : RunsP E1 (m + 2) 62 [.agg (r63 a0), .agg (r63 a1)] (.fresh, [.agg (r63 out)]) := by
 obtain ⟨n1, n2⟩ := a0
 obtain ⟨n3, n4⟩ := a1
 refine fn_F rfl (by rw [E1_fn]; exact show fiOf Tryd.prog 62 = _ by unfold fiOf; rw [Tryd.func62]; unfold Tryd.f62; rfl) rfl ?_
 dsimp only
 unfold ring_lesser at h
 refine lS (lO ?_)
 refine ol_new rfl rfl rfl (q_box ty64 rfl (cs := [iI n1, uI n2]) rfl rfl) (fun k5 => ?_)
 refine ol_new rfl rfl rfl (q_box ty64 rfl (cs := [iI n3, uI n4]) rfl rfl) (fun k6 => ?_)
 refine ol_new rfl rfl rfl (q_alloc ty64 (row := [iI 0, uI 0]) rfl rfl) (fun k7 => ?_)
 refine oE (eS (lS (lS (lO ?_))))
 refine pq (ql (.agg [iI n3, uI n4]) 1 sz64) ?_
 refine pq (ql (.agg [iI n1, uI n2]) 2 sz64) ?_
 obtain ⟨n9, h8, h⟩ := bindS h
 refine pq (qc (iO n9) [.agg [iI n3, uI n4], .agg [iI n1, uI n2]] (wide_Compare_r (m + 0) h8) (vw_cons (vd_agg (vc_cons vc_v (vc_cons vc_v vc_nil))) (vw_cons (vd_agg (vc_cons vc_v (vc_cons vc_v vc_nil))) vw_nil))) ?_
 by_cases c10 : n9 < 0
 replace h := ifT c10 h
 refine pq (qb (p_lss_tZ c10)) ?_
 refine oE (eS (cT rfl (lS (lO ?_))))
 refine pq (ql (.agg [iI n3, uI n4]) 1 sz64) ?_
 refine ow [[iI n3, uI n4]] 0 sz64 ?_
 refine oE (eS (lR (eR ?_)))
 obtain rfl := sj h
 exact E_endF (.inr rfl) (res_cell (d := .agg [iI n3, uI n4]) 0 rfl sz64 rfl rfl rfl rfl res_nil) (vw_cons (vd_agg (vc_cons vc_v (vc_cons vc_v vc_nil))) vw_nil) oG rfl rfl
 replace h := ifF c10 h
 refine pq (qb (p_lss_fZ c10)) ?_
 refine oE (eS (cF rfl (lK (eS (lS (lO ?_))))))
 refine pq (ql (.agg [iI n1, uI n2]) 2 sz64) ?_
 refine ow [[iI n1, uI n2]] 0 sz64 ?_
 refine oE (eS (lR ?_))
 obtain rfl := sj h
 exact E_endF (.inr rfl) (res_cell (d := .agg [iI n1, uI n2]) 0 rfl sz64 rfl rfl rfl rfl res_nil) (vw_cons (vd_agg (vc_cons vc_v (vc_cons vc_v vc_nil))) vw_nil) oG rfl rfl
noncomputable def ring_truth (b1 : Bool) : Option ((Int × Int)) :=
 (if b1 = true then ((wide_Of 1).bind fun (n4, n5) => some (n4, n5)) else some (0, 0))
theorem ring_truth_r (m : Nat) {b1 : Bool} {out : (Int × Int)} (h : ring_truth b1 = some out) : RunsP E1 (m + 2) 64 [.one (bT b1)] (.fresh, [.agg (r63 out)]) := by
 refine fn_F rfl (by rw [E1_fn]; exact show fiOf Tryd.prog 64 = _ by unfold fiOf; rw [Tryd.func64]; unfold Tryd.f64; rfl) rfl ?_
 dsimp only
 unfold ring_truth at h
 refine lS (lO ?_)
 refine ol_new rfl rfl rfl (q_alloc ty64 (row := [iI 0, uI 0]) rfl rfl) (fun k2 => ?_)
 refine oE (eS (lS (lS (lO ?_))))
 refine pq (qm (bO b1)) ?_
 refine oE (eS ?_)
 rcases b1 with _ | _
 replace h := wF h
 refine cF rfl (lK (eS (lS (lO ?_))))
 refine pq (q_build (cs := [iI 0, uI 0]) ty64 rfl pl64 rfl) ?_
 refine ow [[iI 0, uI 0]] 0 sz64 ?_
 refine oE (eS (lR ?_))
 obtain rfl := sj h
 exact E_endF (.inr rfl) (res_cell (d := .agg [iI 0, uI 0]) 0 rfl sz64 rfl rfl rfl rfl res_nil) (vw_cons (vd_agg (vc_cons vc_v (vc_cons vc_v vc_nil))) vw_nil) oG rfl rfl
 replace h := wT h
 refine cT rfl (lS (lO ?_))
 obtain ⟨⟨n4, n5⟩, h3, h⟩ := bindS h
 refine pq (qc (.agg [iI n4, uI n5]) [iO 1] (wide_Of_r (m + 0) h3) (vw_cons (vd_one vc_v) vw_nil)) ?_
 refine ow [[iI n4, uI n5]] 0 sz64 ?_
 refine oE (eS (lR (eR ?_)))
 obtain rfl := sj h
 exact E_endF (.inr rfl) (res_cell (d := .agg [iI n4, uI n5]) 0 rfl sz64 rfl rfl rfl rfl res_nil) (vw_cons (vd_agg (vc_cons vc_v (vc_cons vc_v vc_nil))) vw_nil) oG rfl rfl
noncomputable def wide_products (n1 : Int) (n2 : Int) : Option ((Int × Int × Int × Int)) :=
 ((shr1 .u64 n1 32).bind fun n4 => ((shr1 .u64 n2 32).bind fun n6 => some ((IntKind.u64.wrap ((andI .u64 n1 4294967295) * (andI .u64 n2 4294967295))), (IntKind.u64.wrap ((andI .u64 n1 4294967295) * n6)), (IntKind.u64.wrap (n4 * (andI .u64 n2 4294967295))), (IntKind.u64.wrap (n4 * n6)))))
theorem wide_products_r (m : Nat) {n1 : Int} {n2 : Int} {out : (Int × Int × Int × Int)} (h : wide_products n1 n2 = some out) : RunsP E1 (m + 1) 76 [.one (iT .u64 n1), .one (iT .u64 n2)] (.fresh, [.agg (r118 out)]) := by
 refine fn_F rfl (by rw [E1_fn]; exact show fiOf Tryd.prog 76 = _ by unfold fiOf; rw [Tryd.func76]; unfold Tryd.f76; rfl) rfl ?_
 dsimp only
 unfold wide_products at h
 refine lS (lO ?_)
 refine ol_new rfl rfl rfl (q_alloc ty118 (row := [uI 0, uI 0, uI 0, uI 0]) rfl rfl) (fun k3 => ?_)
 refine oN ?_
 refine pq (qm (.one (uI n1))) ?_
 refine pq (q_bin rfl rfl (p_and _ _ _ _ _ _ _) rfl) ?_
 refine pq (qm (.one (uI n1))) ?_
 obtain ⟨n4, h5, h⟩ := bindS h
 refine pq (q_bin rfl rfl (p_shr h5) rfl) ?_
 refine pq (qa (.one (uI (andI .u64 n1 4294967295)))) ?_
 refine pq (qa (.one (uI n4))) ?_
 refine oN ?_
 refine pq (qm (.one (uI n2))) ?_
 refine pq (q_bin rfl rfl (p_and _ _ _ _ _ _ _) rfl) ?_
 refine pq (qm (.one (uI n2))) ?_
 obtain ⟨n6, h7, h⟩ := bindS h
 refine pq (q_bin rfl rfl (p_shr h7) rfl) ?_
 refine pq (qa (.one (uI (andI .u64 n2 4294967295)))) ?_
 refine pq (qa (.one (uI n6))) ?_
 refine oN ?_
 refine pq (qm (.one (uI (andI .u64 n1 4294967295)))) ?_
 refine pq (qm (.one (uI (andI .u64 n2 4294967295)))) ?_
 refine pq (qb p_mulY) ?_
 refine pq (qm (.one (uI (andI .u64 n1 4294967295)))) ?_
 refine pq (qm (.one (uI n6))) ?_
 refine pq (qb p_mulY) ?_
 refine pq (qm (.one (uI n4))) ?_
 refine pq (qm (.one (uI (andI .u64 n2 4294967295)))) ?_
 refine pq (qb p_mulY) ?_
 refine pq (qm (.one (uI n4))) ?_
 refine pq (qm (.one (uI n6))) ?_
 refine pq (qb p_mulY) ?_
 refine pq (q_build (cs := [uI (IntKind.u64.wrap ((andI .u64 n1 4294967295) * (andI .u64 n2 4294967295))), uI (IntKind.u64.wrap ((andI .u64 n1 4294967295) * n6)), uI (IntKind.u64.wrap (n4 * (andI .u64 n2 4294967295))), uI (IntKind.u64.wrap (n4 * n6))]) ty118 rfl rfl rfl) ?_
 refine ow [[uI (IntKind.u64.wrap ((andI .u64 n1 4294967295) * (andI .u64 n2 4294967295))), uI (IntKind.u64.wrap ((andI .u64 n1 4294967295) * n6)), uI (IntKind.u64.wrap (n4 * (andI .u64 n2 4294967295))), uI (IntKind.u64.wrap (n4 * n6))]] 0 sz118 ?_
 refine oE (eS (lR ?_))
 obtain rfl := sj h
 exact E_endF (.inr rfl) (res_cell (d := .agg [uI (IntKind.u64.wrap ((andI .u64 n1 4294967295) * (andI .u64 n2 4294967295))), uI (IntKind.u64.wrap ((andI .u64 n1 4294967295) * n6)), uI (IntKind.u64.wrap (n4 * (andI .u64 n2 4294967295))), uI (IntKind.u64.wrap (n4 * n6))]) 0 rfl sz118 rfl rfl rfl rfl res_nil) (vw_cons (vd_agg (vc_cons vc_v (vc_cons vc_v (vc_cons vc_v (vc_cons vc_v vc_nil))))) vw_nil) oG rfl rfl
noncomputable def wide_Left (a0 : Int × Int) (n3 : Int) : Option ((Int × Int)) :=
 match a0 with
 | (n1, n2) => (if n3 < 0 then some (n1, n2) else (if n3 > 127 then some (0, 0) else (if n3 > 63 then ((shl1 .u64 n2 (IntKind.u64.wrap (IntKind.i64.wrap (n3 - 64)))).bind fun n9 => some ((IntKind.i64.wrap n9), 0)) else ((shl1 .u64 (IntKind.u64.wrap n1) (IntKind.u64.wrap n3)).bind fun n11 => ((shr1 .u64 n2 (IntKind.u64.wrap (IntKind.i64.wrap (64 - n3)))).bind fun n13 => ((shl1 .u64 n2 (IntKind.u64.wrap n3)).bind fun n15 => some ((IntKind.i64.wrap (orI .u64 n11 n13)), n15)))))))
theorem wide_Left_r (m : Nat) {a0 : Int × Int} {n3 : Int} {out : (Int × Int)} (h : wide_Left a0 n3 = some out) : RunsP E1 (m + 1) 77 [.agg (r63 a0), .one (iT .i64 n3)] (.fresh, [.agg (r63 out)]) := by
 obtain ⟨n1, n2⟩ := a0
 refine fn_F rfl (by rw [E1_fn]; exact show fiOf Tryd.prog 77 = _ by unfold fiOf; rw [Tryd.func77]; unfold Tryd.f77; rfl) rfl ?_
 dsimp only
 unfold wide_Left at h
 refine lS (lO ?_)
 refine ol_new rfl rfl rfl (q_box ty64 rfl (cs := [iI n1, uI n2]) rfl rfl) (fun k4 => ?_)
 refine ol_new rfl rfl rfl (q_alloc ty64 (row := [iI 0, uI 0]) rfl rfl) (fun k5 => ?_)
 refine oE (eS (lS (lB (lS (lO ?_)))))
 refine pq (qm (iO n3)) ?_
 by_cases c6 : n3 < 0
 replace h := ifT c6 h
 refine pq (qb (p_lss_tZ c6)) ?_
 refine pq (qa bt) ?_
 refine oE (eS (cT rfl (lS (lO ?_))))
 refine pq (ql (.agg [iI n1, uI n2]) 1 sz64) ?_
 refine ow [[iI n1, uI n2]] 0 sz64 ?_
 refine oE (eS (lR (bR (eR ?_))))
 obtain rfl := sj h
 exact E_endF (.inr rfl) (res_cell (d := .agg [iI n1, uI n2]) 0 rfl sz64 rfl rfl rfl rfl res_nil) (vw_cons (vd_agg (vc_cons vc_v (vc_cons vc_v vc_nil))) vw_nil) oG rfl rfl
 replace h := ifF c6 h
 refine pq (qb (p_lss_fZ c6)) ?_
 refine pq (qa bf) ?_
 refine oE (eS (cF rfl (lS (lO ?_))))
 refine pq (qm (iO n3)) ?_
 by_cases c7 : n3 > 127
 replace h := ifT c7 h
 refine pq (qb (p_gtr_tZ c7)) ?_
 refine pq (qa bt) ?_
 refine oE (eS (cT rfl (lS (lO ?_))))
 refine pq (q_build (cs := [iI 0, uI 0]) ty64 rfl pl64 rfl) ?_
 refine ow [[iI 0, uI 0]] 0 sz64 ?_
 refine oE (eS (lR (bR (eR ?_))))
 obtain rfl := sj h
 exact E_endF (.inr rfl) (res_cell (d := .agg [iI 0, uI 0]) 0 rfl sz64 rfl rfl rfl rfl res_nil) (vw_cons (vd_agg (vc_cons vc_v (vc_cons vc_v vc_nil))) vw_nil) oG rfl rfl
 replace h := ifF c7 h
 refine pq (qb (p_gtr_fZ c7)) ?_
 refine pq (qa bf) ?_
 refine oE (eS (cF rfl (lS (lO ?_))))
 refine pq (qm (iO n3)) ?_
 by_cases c8 : n3 > 63
 replace h := ifT c8 h
 refine pq (qb (p_gtr_tZ c8)) ?_
 refine pq (qa bt) ?_
 refine oE (eS (cT rfl (lS (lO ?_))))
 refine pq (q_fieldP rfl fa64_1 rfl) ?_
 refine pq (ql (.one (uI n2)) 1 sz62) ?_
 refine pq (qm (iO n3)) ?_
 refine pq (qb p_subY) ?_
 refine pq (q_conv rfl (cv3_117_i64 _) rfl) ?_
 obtain ⟨n9, h10, h⟩ := bindS h
 refine pq (q_bin rfl rfl (p_shl h10) rfl) ?_
 refine pq (q_conv rfl (cv62_2_u64 _) rfl) ?_
 refine pq (q_build (cs := [iI (IntKind.i64.wrap n9), uI 0]) ty64 rfl pl64 rfl) ?_
 refine ow [[iI (IntKind.i64.wrap n9), uI 0]] 0 sz64 ?_
 refine oE (eS (lR (bR (eR ?_))))
 obtain rfl := sj h
 exact E_endF (.inr rfl) (res_cell (d := .agg [iI (IntKind.i64.wrap n9), uI 0]) 0 rfl sz64 rfl rfl rfl rfl res_nil) (vw_cons (vd_agg (vc_cons vc_v (vc_cons vc_v vc_nil))) vw_nil) oG rfl rfl
 replace h := ifF c8 h
 refine pq (qb (p_gtr_fZ c8)) ?_
 refine pq (qa bf) ?_
 refine oE (eS (cF rfl (lK (bN (eS (lS (lO ?_)))))))
 refine pq (q_fieldP rfl fa64_0 rfl) ?_
 refine pq (ql (iO n1) 1 sz2) ?_
 refine pq (q_conv rfl (cv2_62_i64 _) rfl) ?_
 refine pq (qm (iO n3)) ?_
 refine pq (q_conv rfl (cv3_117_i64 _) rfl) ?_
 obtain ⟨n11, h12, h⟩ := bindS h
 refine pq (q_bin rfl rfl (p_shl h12) rfl) ?_
 refine pq (q_fieldP rfl fa64_1 rfl) ?_
 refine pq (ql (.one (uI n2)) 1 sz62) ?_
 refine pq (qm (iO n3)) ?_
 refine pq (qb p_subY) ?_
 refine pq (q_conv rfl (cv3_117_i64 _) rfl) ?_
 obtain ⟨n13, h14, h⟩ := bindS h
 refine pq (q_bin rfl rfl (p_shr h14) rfl) ?_
 refine pq (q_bin rfl rfl (p_or _ _ _ _ _ _ _) rfl) ?_
 refine pq (qa (.one (uI (orI .u64 n11 n13)))) ?_
 refine oN ?_
 refine pq (qm (.one (uI (orI .u64 n11 n13)))) ?_
 refine pq (q_conv rfl (cv62_2_u64 _) rfl) ?_
 refine pq (q_fieldP rfl fa64_1 rfl) ?_
 refine pq (ql (.one (uI n2)) 1 sz62) ?_
 refine pq (qm (iO n3)) ?_
 refine pq (q_conv rfl (cv3_117_i64 _) rfl) ?_
 obtain ⟨n15, h16, h⟩ := bindS h
 refine pq (q_bin rfl rfl (p_shl h16) rfl) ?_
 refine pq (q_build (cs := [iI (IntKind.i64.wrap (orI .u64 n11 n13)), uI n15]) ty64 rfl pl64 rfl) ?_
 refine ow [[iI (IntKind.i64.wrap (orI .u64 n11 n13)), uI n15]] 0 sz64 ?_
 refine oE (eS (lR ?_))
 obtain rfl := sj h
 exact E_endF (.inr rfl) (res_cell (d := .agg [iI (IntKind.i64.wrap (orI .u64 n11 n13)), uI n15]) 0 rfl sz64 rfl rfl rfl rfl res_nil) (vw_cons (vd_agg (vc_cons vc_v (vc_cons vc_v vc_nil))) vw_nil) oG rfl rfl
noncomputable def wide_Mul (n1 : Int) (n2 : Int) : Option ((Int × Int)) :=
 ((wide_products (IntKind.u64.wrap n1) (IntKind.u64.wrap n2)).bind fun (n5, n6, n7, n8) => ((wide_Left (0, n6) 32).bind fun (n19, n20) => ((wide_Add ((IntKind.i64.wrap n8), n5) (n19, n20)).bind fun (n22, n23) => ((wide_Left (0, n7) 32).bind fun (n32, n33) => ((wide_Add (n22, n23) (n32, n33)).bind fun (n35, n36) => (if n1 < 0 then (if n2 < 0 then some ((IntKind.i64.wrap ((IntKind.i64.wrap (n35 - n2)) - n1)), n36) else some ((IntKind.i64.wrap (n35 - n2)), n36)) else (if n2 < 0 then some ((IntKind.i64.wrap (n35 - n1)), n36) else some (n35, n36))))))))
theorem wide_Mul_r (m : Nat) {n1 : Int} {n2 : Int} {out : (Int × Int)} (h : wide_Mul n1 n2 = some out) : RunsP E1 (m + 2) 65 [.one (iT .i64 n1), .one (iT .i64 n2)] (.fresh, [.agg (r63 out)]) := by
 refine fn_F rfl (by rw [E1_fn]; exact show fiOf Tryd.prog 65 = _ by unfold fiOf; rw [Tryd.func65]; unfold Tryd.f65; rfl) rfl ?_
 dsimp only
 unfold wide_Mul at h
 refine lS (lO ?_)
 refine ol_new rfl rfl rfl (q_alloc ty64 (row := [iI 0, uI 0]) rfl rfl) (fun k3 => ?_)
 refine oN ?_
 refine pq (qm (iO n1)) ?_
 refine pq (q_conv rfl (cv2_62_i64 _) rfl) ?_
 refine pq (qm (iO n2)) ?_
 refine pq (q_conv rfl (cv2_62_i64 _) rfl) ?_
 obtain ⟨⟨n5, n6, n7, n8⟩, h4, h⟩ := bindS h
 refine pq (qc (.agg [uI n5, uI n6, uI n7, uI n8]) [.one (uI (IntKind.u64.wrap n1)), .one (uI (IntKind.u64.wrap n2))] (wide_products_r (m + 0) h4) (vw_cons (vd_one vc_v) (vw_cons (vd_one vc_v) vw_nil))) ?_
 refine ol_new rfl rfl rfl (q_alloc ty118 (row := [uI 0, uI 0, uI 0, uI 0]) rfl rfl) (fun k9 => ?_)
 refine ow [[uI n5, uI n6, uI n7, uI n8]] 0 sz118 ?_
 refine oN ?_
 refine pq (q_ixA (a := 3) ty118 rfl ty62 rfl rfl rfl rfl) ?_
 refine pq (ql (.one (uI n8)) 0 sz62) ?_
 refine pq (q_conv rfl (cv62_2_u64 _) rfl) ?_
 refine pq (q_ixA (a := 0) ty118 rfl ty62 rfl rfl rfl rfl) ?_
 refine pq (ql (.one (uI n5)) 0 sz62) ?_
 refine pq (q_build (cs := [iI (IntKind.i64.wrap n8), uI n5]) ty64 rfl pl64 rfl) ?_
 refine ol_new rfl rfl rfl (q_alloc ty64 (row := [iI 0, uI 0]) rfl rfl) (fun k10 => ?_)
 refine ow [[iI (IntKind.i64.wrap n8), uI n5]] 0 sz64 ?_
 refine oE (eS (lS ?_))
 refine L_norm (L2 := ([[(k10, 2, [[iI (IntKind.i64.wrap n8), uI n5]])], [(k9, 4, [[uI n5, uI n6, uI n7, uI n8]])], [(k3, 2, [[iI 0, uI 0]])]] : BL)) [0, 1, 2] (by decide) rfl ?_
 refine L_turn 7 rfl [[], [], [], [], [], [], [k10]] [(false, []), (false, []), (false, []), (false, []), (false, []), (false, []), (false, [])] [[1, 2, 3, 4], [0], [0], [0], [0], [], []] (by kernel_rfl) (by kernel_rfl) (by kernel_rfl) ?_ (fun bb11 hlt hnd => ?_)
 intro bb11 hlt hnd
 exact ⟨⟨djE, ⟨djE, ⟨djE, ⟨djE, ⟨djE, ⟨djE, ⟨djN, trivial⟩⟩⟩⟩⟩⟩⟩, (ltO_cons ltK_nil (ltO_cons ltK_nil (ltO_cons ltK_nil (ltO_cons ltK_nil (ltO_cons ltK_nil (ltO_cons ltK_nil (ltO_cons (ltK_cons (key_lt hlt 0 rfl) ltK_nil) ltO_nil)))))))⟩
 refine tq [0] rfl (hm0 rfl) (ql (.agg [iI (IntKind.i64.wrap n8), uI n5]) 0 sz64) ?_
 refine tq [] rfl (hm0 rfl) (q_ixA (a := 1) ty118 rfl ty62 rfl rfl rfl rfl) ?_
 refine tq [1] rfl (hm0 rfl) (ql (.one (uI n6)) 0 sz62) ?_
 refine tq [] rfl (hm0 rfl) (q_build (cs := [iI 0, uI n6]) ty64 rfl pl64 rfl) ?_
 obtain ⟨⟨n19, n20⟩, h18, h⟩ := bindS h
 refine tq [] rfl (hm0 rfl) (qc (.agg [iI n19, uI n20]) [.agg [iI 0, uI n6], iO 32] (wide_Left_r (m + 0) h18) (vw_cons (vd_agg (vc_cons vc_v (vc_cons vc_v vc_nil))) (vw_cons (vd_one vc_v) vw_nil))) ?_
 obtain ⟨⟨n22, n23⟩, h21, h⟩ := bindS h
 refine tq [] rfl (hm0 rfl) (qc (.agg [iI n22, uI n23]) [.agg [iI (IntKind.i64.wrap n8), uI n5], .agg [iI n19, uI n20]] (wide_Add_r (m + 0) h21) (vw_cons (vd_agg (vc_cons vc_v (vc_cons vc_v vc_nil))) (vw_cons (vd_agg (vc_cons vc_v (vc_cons vc_v vc_nil))) vw_nil))) ?_
 refine tn_wr rfl rfl [0] (by decide) rfl (hm0 rfl) rfl (q_store (es' := [[iI n22, uI n23]]) 0 rfl rfl rfl sz64 rfl rfl rfl rfl rfl) (q := 0) rfl rfl ?_
 refine tn_end (eS (lS ?_))
 refine L_norm (L2 := ([[(k10, 2, [[iI n22, uI n23]])], [(k9, 4, [[uI n5, uI n6, uI n7, uI n8]])], [(k3, 2, [[iI 0, uI 0]])]] : BL)) [0, 1, 2] (by decide) rfl ?_
 refine L_turn 7 rfl [[], [], [], [], [], [], [k10]] [(false, []), (false, []), (false, []), (false, []), (false, []), (false, []), (false, [])] [[1, 2, 3, 4], [0], [0], [0], [0], [], []] (by kernel_rfl) (by kernel_rfl) (by kernel_rfl) ?_ (fun bb24 hlt hnd => ?_)
 intro bb24 hlt hnd
 exact ⟨⟨djE, ⟨djE, ⟨djE, ⟨djE, ⟨djE, ⟨djE, ⟨djN, trivial⟩⟩⟩⟩⟩⟩⟩, (ltO_cons ltK_nil (ltO_cons ltK_nil (ltO_cons ltK_nil (ltO_cons ltK_nil (ltO_cons ltK_nil (ltO_cons ltK_nil (ltO_cons (ltK_cons (key_lt hlt 0 rfl) ltK_nil) ltO_nil)))))))⟩
 refine tq [0] rfl (hm0 rfl) (ql (.agg [iI n22, uI n23]) 0 sz64) ?_
 refine tq [] rfl (hm0 rfl) (q_ixA (a := 2) ty118 rfl ty62 rfl rfl rfl rfl) ?_
 refine tq [1] rfl (hm0 rfl) (ql (.one (uI n7)) 0 sz62) ?_
 refine tq [] rfl (hm0 rfl) (q_build (cs := [iI 0, uI n7]) ty64 rfl pl64 rfl) ?_
 obtain ⟨⟨n32, n33⟩, h31, h⟩ := bindS h
 refine tq [] rfl (hm0 rfl) (qc (.agg [iI n32, uI n33]) [.agg [iI 0, uI n7], iO 32] (wide_Left_r (m + 0) h31) (vw_cons (vd_agg (vc_cons vc_v (vc_cons vc_v vc_nil))) (vw_cons (vd_one vc_v) vw_nil))) ?_
 obtain ⟨⟨n35, n36⟩, h34, h⟩ := bindS h
 refine tq [] rfl (hm0 rfl) (qc (.agg [iI n35, uI n36]) [.agg [iI n22, uI n23], .agg [iI n32, uI n33]] (wide_Add_r (m + 0) h34) (vw_cons (vd_agg (vc_cons vc_v (vc_cons vc_v vc_nil))) (vw_cons (vd_agg (vc_cons vc_v (vc_cons vc_v vc_nil))) vw_nil))) ?_
 refine tn_wr rfl rfl [0] (by decide) rfl (hm0 rfl) rfl (q_store (es' := [[iI n35, uI n36]]) 0 rfl rfl rfl sz64 rfl rfl rfl rfl rfl) (q := 0) rfl rfl ?_
 refine tn_end (eS (lS (lS (lO ?_))))
 refine pq (qm (iO n1)) ?_
 by_cases c37 : n1 < 0
 replace h := ifT c37 h
 refine pq (qb (p_lss_tZ c37)) ?_
 refine oE (eS (cT rfl (lO ?_)))
 refine pq (q_fieldP rfl fa64_0 rfl) ?_
 refine pq (ql (iO n35) 0 sz2) ?_
 refine pq (qm (iO n2)) ?_
 refine pq (qb p_subY) ?_
 refine pq (q_fieldP rfl fa64_0 rfl) ?_
 refine ow [[iI (IntKind.i64.wrap (n35 - n2)), uI n36]] 0 sz2 ?_
 refine oE (eS (lS (lS (lO ?_))))
 refine pq (qm (iO n2)) ?_
 by_cases c38 : n2 < 0
 replace h := ifT c38 h
 refine pq (qb (p_lss_tZ c38)) ?_
 refine oE (eS (cT rfl (lO ?_)))
 refine pq (q_fieldP rfl fa64_0 rfl) ?_
 refine pq (ql (iO (IntKind.i64.wrap (n35 - n2))) 0 sz2) ?_
 refine pq (qm (iO n1)) ?_
 refine pq (qb p_subY) ?_
 refine pq (q_fieldP rfl fa64_0 rfl) ?_
 refine ow [[iI (IntKind.i64.wrap ((IntKind.i64.wrap (n35 - n2)) - n1)), uI n36]] 0 sz2 ?_
 refine oN ?_
 refine pq (ql (.agg [iI (IntKind.i64.wrap ((IntKind.i64.wrap (n35 - n2)) - n1)), uI n36]) 0 sz64) ?_
 refine ow [[iI (IntKind.i64.wrap ((IntKind.i64.wrap (n35 - n2)) - n1)), uI n36]] 2 sz64 ?_
 refine oE (eS (lR ?_))
 obtain rfl := sj h
 exact E_endF (.inr rfl) (res_cell (d := .agg [iI (IntKind.i64.wrap ((IntKind.i64.wrap (n35 - n2)) - n1)), uI n36]) 2 rfl sz64 rfl rfl rfl rfl res_nil) (vw_cons (vd_agg (vc_cons vc_v (vc_cons vc_v vc_nil))) vw_nil) oG rfl rfl
 replace h := ifF c38 h
 refine pq (qb (p_lss_fZ c38)) ?_
 refine oE (eS (cF rfl (lK (eS (lS (lO ?_))))))
 refine pq (ql (.agg [iI (IntKind.i64.wrap (n35 - n2)), uI n36]) 0 sz64) ?_
 refine ow [[iI (IntKind.i64.wrap (n35 - n2)), uI n36]] 2 sz64 ?_
 refine oE (eS (lR ?_))
 obtain rfl := sj h
 exact E_endF (.inr rfl) (res_cell (d := .agg [iI (IntKind.i64.wrap (n35 - n2)), uI n36]) 2 rfl sz64 rfl rfl rfl rfl res_nil) (vw_cons (vd_agg (vc_cons vc_v (vc_cons vc_v vc_nil))) vw_nil) oG rfl rfl
 replace h := ifF c37 h
 refine pq (qb (p_lss_fZ c37)) ?_
 refine oE (eS (cF rfl (lK (eS (lS (lS (lO ?_)))))))
 refine pq (qm (iO n2)) ?_
 by_cases c39 : n2 < 0
 replace h := ifT c39 h
 refine pq (qb (p_lss_tZ c39)) ?_
 refine oE (eS (cT rfl (lO ?_)))
 refine pq (q_fieldP rfl fa64_0 rfl) ?_
 refine pq (ql (iO n35) 0 sz2) ?_
 refine pq (qm (iO n1)) ?_
 refine pq (qb p_subY) ?_
 refine pq (q_fieldP rfl fa64_0 rfl) ?_
 refine ow [[iI (IntKind.i64.wrap (n35 - n1)), uI n36]] 0 sz2 ?_
 refine oN ?_
 refine pq (ql (.agg [iI (IntKind.i64.wrap (n35 - n1)), uI n36]) 0 sz64) ?_
 refine ow [[iI (IntKind.i64.wrap (n35 - n1)), uI n36]] 2 sz64 ?_
 refine oE (eS (lR ?_))
 obtain rfl := sj h
 exact E_endF (.inr rfl) (res_cell (d := .agg [iI (IntKind.i64.wrap (n35 - n1)), uI n36]) 2 rfl sz64 rfl rfl rfl rfl res_nil) (vw_cons (vd_agg (vc_cons vc_v (vc_cons vc_v vc_nil))) vw_nil) oG rfl rfl
 replace h := ifF c39 h
 refine pq (qb (p_lss_fZ c39)) ?_
 refine oE (eS (cF rfl (lK (eS (lS (lO ?_))))))
 refine pq (ql (.agg [iI n35, uI n36]) 0 sz64) ?_
 refine ow [[iI n35, uI n36]] 2 sz64 ?_
 refine oE (eS (lR ?_))
 obtain rfl := sj h
 exact E_endF (.inr rfl) (res_cell (d := .agg [iI n35, uI n36]) 2 rfl sz64 rfl rfl rfl rfl res_nil) (vw_cons (vd_agg (vc_cons vc_v (vc_cons vc_v vc_nil))) vw_nil) oG rfl rfl
noncomputable def ring_Mul (n1 : Int) (n2 : Int) (n3 : Int) : Option ((Int × Int)) :=
 (if n1 = 1 then (if n2 ≥ 4611686018427387904 then ((wide_Of 4611686018427387904).bind fun (n8, n9) => some (n8, n9)) else (if n3 ≥ 4611686018427387904 then ((wide_Of 4611686018427387904).bind fun (n12, n13) => some (n12, n13)) else ((wide_Of n2).bind fun (n15, n16) => ((wide_Of n3).bind fun (n18, n19) => ((wide_Add (n15, n16) (n18, n19)).bind fun (n21, n22) => ((wide_Of 4611686018427387904).bind fun (n24, n25) => ((ring_lesser (n21, n22) (n24, n25)).bind fun (n27, n28) => some (n27, n28)))))))) else (if n1 = 2 then (if n2 ≠ 0 then (if n3 ≠ 0 then ((ring_truth true).bind fun (n33, n34) => some (n33, n34)) else ((ring_truth false).bind fun (n36, n37) => some (n36, n37))) else ((ring_truth false).bind fun (n39, n40) => some (n39, n40))) else (if n1 = 4 then (if n3 ≥ 4611686018427387904 then ((wide_Of 4611686018427387904).bind fun (n44, n45) => some (n44, n45)) else (if n2 ≥ 4611686018427387904 then ((wide_Of 4611686018427387904).bind fun (n48, n49) => some (n48, n49)) else ((wide_Of n3).bind fun (n51, n52) => some (n51, n52)))) else (if n1 = 3 then (if n2 ≥ 4611686018427387904 then ((wide_Of 4611686018427387904).bind fun (n56, n57) => some (n56, n57)) else (if n3 ≥ 4611686018427387904 then ((wide_Of 4611686018427387904).bind fun (n60, n61) => some (n60, n61)) else ((wide_Of n2).bind fun (n63, n64) => some (n63, n64)))) else (if n1 = 5 then ((wide_Mul n2 n3).bind fun (n67, n68) => some (n67, n68)) else some (0, 0))))))
theorem ring_Mul_r (m : Nat) {n1 : Int} {n2 : Int} {n3 : Int} {out : (Int × Int)} (h : ring_Mul n1 n2 n3 = some out) : RunsP E1 (m + 3) 47 [.one (iT .i64 n1), .one (iT .i64 n2), .one (iT .i64 n3)] (.fresh, [.agg (r63 out)]) := by
 refine fn_F rfl (by rw [E1_fn]; exact show fiOf Tryd.prog 47 = _ by unfold fiOf; rw [Tryd.func47]; unfold Tryd.f47; rfl) rfl ?_
 dsimp only
 unfold ring_Mul at h
 refine lS (lO ?_)
 refine ol_new rfl rfl rfl (q_alloc ty64 (row := [iI 0, uI 0]) rfl rfl) (fun k4 => ?_)
 refine oE (eS (lS (lS (lO ?_))))
 refine pq (qm (iO n1)) ?_
 refine oE (eS (lB (lS (lB (lS (lB (lS (lB (lS (lB (lS (lB (lS (lS (lS (lO ?_))))))))))))))))
 by_cases c5 : n1 = 1
 replace h := ifT c5 h
 refine pq (qb (p_eql_tZ c5)) ?_
 refine pq (qa bt) ?_
 refine oE (eS (cT rfl (L_exit ?_)))
 refine E_seqX ?_
 refine E_seqX ?_
 refine bH (eS (lS (lS (lS (lO ?_)))))
 refine pq (qm (iO n2)) ?_
 by_cases c6 : n2 ≥ 4611686018427387904
 replace h := ifT c6 h
 refine pq (qb (p_geq_tZ c6)) ?_
 refine pq (qm bt) ?_
 iterate 2 refine os ?_
 refine pq (qpt bt) ?_
 refine oE (eS (cT rfl (lS (lO ?_))))
 obtain ⟨⟨n8, n9⟩, h7, h⟩ := bindS h
 refine pq (qc (.agg [iI n8, uI n9]) [iO 4611686018427387904] (wide_Of_r (m + 1) h7) (vw_cons (vd_one vc_v) vw_nil)) ?_
 refine ow [[iI n8, uI n9]] 0 sz64 ?_
 refine oE (eS (lR (eR (eR (bR (eR (bR (eR (bR (eR (bR (eR (bR (eR ?_))))))))))))))
 obtain rfl := sj h
 exact E_endF (.inr rfl) (res_cell (d := .agg [iI n8, uI n9]) 0 rfl sz64 rfl rfl rfl rfl res_nil) (vw_cons (vd_agg (vc_cons vc_v (vc_cons vc_v vc_nil))) vw_nil) oG rfl rfl
 replace h := ifF c6 h
 refine pq (qb (p_geq_fZ c6)) ?_
 refine pq (qm bf) ?_
 refine pq (qm (iO n3)) ?_
 by_cases c10 : n3 ≥ 4611686018427387904
 replace h := ifT c10 h
 refine pq (qb (p_geq_tZ c10)) ?_
 refine pq (qpf bt) ?_
 refine oE (eS (cT rfl (lS (lO ?_))))
 obtain ⟨⟨n12, n13⟩, h11, h⟩ := bindS h
 refine pq (qc (.agg [iI n12, uI n13]) [iO 4611686018427387904] (wide_Of_r (m + 1) h11) (vw_cons (vd_one vc_v) vw_nil)) ?_
 refine ow [[iI n12, uI n13]] 0 sz64 ?_
 refine oE (eS (lR (eR (eR (bR (eR (bR (eR (bR (eR (bR (eR (bR (eR ?_))))))))))))))
 obtain rfl := sj h
 exact E_endF (.inr rfl) (res_cell (d := .agg [iI n12, uI n13]) 0 rfl sz64 rfl rfl rfl rfl res_nil) (vw_cons (vd_agg (vc_cons vc_v (vc_cons vc_v vc_nil))) vw_nil) oG rfl rfl
 replace h := ifF c10 h
 refine pq (qb (p_geq_fZ c10)) ?_
 refine pq (qpf bf) ?_
 refine oE (eS (cF rfl (lK (eS (lS (lO ?_))))))
 refine pq (qm (iO n2)) ?_
 obtain ⟨⟨n15, n16⟩, h14, h⟩ := bindS h
 refine pq (qc (.agg [iI n15, uI n16]) [iO n2] (wide_Of_r (m + 1) h14) (vw_cons (vd_one vc_v) vw_nil)) ?_
 refine pq (qm (iO n3)) ?_
 obtain ⟨⟨n18, n19⟩, h17, h⟩ := bindS h
 refine pq (qc (.agg [iI n18, uI n19]) [iO n3] (wide_Of_r (m + 1) h17) (vw_cons (vd_one vc_v) vw_nil)) ?_
 obtain ⟨⟨n21, n22⟩, h20, h⟩ := bindS h
 refine pq (qc (.agg [iI n21, uI n22]) [.agg [iI n15, uI n16], .agg [iI n18, uI n19]] (wide_Add_r (m + 1) h20) (vw_cons (vd_agg (vc_cons vc_v (vc_cons vc_v vc_nil))) (vw_cons (vd_agg (vc_cons vc_v (vc_cons vc_v vc_nil))) vw_nil))) ?_
 obtain ⟨⟨n24, n25⟩, h23, h⟩ := bindS h
 refine pq (qc (.agg [iI n24, uI n25]) [iO 4611686018427387904] (wide_Of_r (m + 1) h23) (vw_cons (vd_one vc_v) vw_nil)) ?_
 obtain ⟨⟨n27, n28⟩, h26, h⟩ := bindS h
 refine pq (qc (.agg [iI n27, uI n28]) [.agg [iI n21, uI n22], .agg [iI n24, uI n25]] (ring_lesser_r (m + 0) h26) (vw_cons (vd_agg (vc_cons vc_v (vc_cons vc_v vc_nil))) (vw_cons (vd_agg (vc_cons vc_v (vc_cons vc_v vc_nil))) vw_nil))) ?_
 refine ow [[iI n27, uI n28]] 0 sz64 ?_
 refine oE (eS (lR (eR (bR (eR (bR (eR (bR (eR (bR (eR (bR (eR ?_)))))))))))))
 obtain rfl := sj h
 exact E_endF (.inr rfl) (res_cell (d := .agg [iI n27, uI n28]) 0 rfl sz64 rfl rfl rfl rfl res_nil) (vw_cons (vd_agg (vc_cons vc_v (vc_cons vc_v vc_nil))) vw_nil) oG rfl rfl
 replace h := ifF c5 h
 refine pq (qb (p_eql_fZ c5)) ?_
 refine pq (qa bf) ?_
 refine oE (eS (cF rfl (lK (eS (lS (lS (lO ?_)))))))
 by_cases c29 : n1 = 2
 replace h := ifT c29 h
 refine pq (qb (p_eql_tZ c29)) ?_
 refine pq (qa bt) ?_
 refine oE (eS (cT rfl (L_exit ?_)))
 refine E_seqX ?_
 refine E_seqX ?_
 refine E_blkX rfl ?_
 refine E_seqX ?_
 refine bH (eS (lS (lS (lO ?_))))
 refine pq (qm (iO n2)) ?_
 by_cases c30 : n2 ≠ 0
 replace h := ifT c30 h
 refine pq (qb (p_neq_tZ c30)) ?_
 refine pq (qm bt) ?_
 refine pq (qm (iO n3)) ?_
 by_cases c31 : n3 ≠ 0
 replace h := ifT c31 h
 refine pq (qb (p_neq_tZ c31)) ?_
 refine pq (qpt bt) ?_
 obtain ⟨⟨n33, n34⟩, h32, h⟩ := bindS h
 refine pq (qc (.agg [iI n33, uI n34]) [bt] (ring_truth_r (m + 0) h32) (vw_cons (vd_one vc_v) vw_nil)) ?_
 refine ow [[iI n33, uI n34]] 0 sz64 ?_
 refine oE (eS (lR (eR (bR (eR (bR (eR (bR (eR (bR (eR ?_)))))))))))
 obtain rfl := sj h
 exact E_endF (.inr rfl) (res_cell (d := .agg [iI n33, uI n34]) 0 rfl sz64 rfl rfl rfl rfl res_nil) (vw_cons (vd_agg (vc_cons vc_v (vc_cons vc_v vc_nil))) vw_nil) oG rfl rfl
 replace h := ifF c31 h
 refine pq (qb (p_neq_fZ c31)) ?_
 refine pq (qpt bf) ?_
 obtain ⟨⟨n36, n37⟩, h35, h⟩ := bindS h
 refine pq (qc (.agg [iI n36, uI n37]) [bf] (ring_truth_r (m + 0) h35) (vw_cons (vd_one vc_v) vw_nil)) ?_
 refine ow [[iI n36, uI n37]] 0 sz64 ?_
 refine oE (eS (lR (eR (bR (eR (bR (eR (bR (eR (bR (eR ?_)))))))))))
 obtain rfl := sj h
 exact E_endF (.inr rfl) (res_cell (d := .agg [iI n36, uI n37]) 0 rfl sz64 rfl rfl rfl rfl res_nil) (vw_cons (vd_agg (vc_cons vc_v (vc_cons vc_v vc_nil))) vw_nil) oG rfl rfl
 replace h := ifF c30 h
 refine pq (qb (p_neq_fZ c30)) ?_
 refine pq (qm bf) ?_
 iterate 2 refine os ?_
 refine pq (qpf bf) ?_
 obtain ⟨⟨n39, n40⟩, h38, h⟩ := bindS h
 refine pq (qc (.agg [iI n39, uI n40]) [bf] (ring_truth_r (m + 0) h38) (vw_cons (vd_one vc_v) vw_nil)) ?_
 refine ow [[iI n39, uI n40]] 0 sz64 ?_
 refine oE (eS (lR (eR (bR (eR (bR (eR (bR (eR (bR (eR ?_)))))))))))
 obtain rfl := sj h
 exact E_endF (.inr rfl) (res_cell (d := .agg [iI n39, uI n40]) 0 rfl sz64 rfl rfl rfl rfl res_nil) (vw_cons (vd_agg (vc_cons vc_v (vc_cons vc_v vc_nil))) vw_nil) oG rfl rfl
 replace h := ifF c29 h
 refine pq (qb (p_eql_fZ c29)) ?_
 refine pq (qa bf) ?_
 refine oE (eS (cF rfl (lK (eS (lS (lS (lO ?_)))))))
 by_cases c41 : n1 = 4
 replace h := ifT c41 h
 refine pq (qb (p_eql_tZ c41)) ?_
 refine pq (qa bt) ?_
 refine oE (eS (cT rfl (L_exit ?_)))
 refine E_seqX ?_
 refine E_seqX ?_
 refine E_blkX rfl ?_
 refine E_seqX ?_
 refine E_blkX rfl ?_
 refine E_seqX ?_
 refine bH (eS (lO ?_))
 refine pq (qm (iO n3)) ?_
 refine pq (qm (iO n2)) ?_
 refine pq (qa (iO n3)) ?_
 refine pq (qa (iO n2)) ?_
 refine oE (bN (eS (lS (lS (lS (lO ?_))))))
 refine pq (qm (iO n3)) ?_
 by_cases c42 : n3 ≥ 4611686018427387904
 replace h := ifT c42 h
 refine pq (qb (p_geq_tZ c42)) ?_
 refine pq (qm bt) ?_
 iterate 2 refine os ?_
 refine pq (qpt bt) ?_
 refine oE (eS (cT rfl (lS (lO ?_))))
 obtain ⟨⟨n44, n45⟩, h43, h⟩ := bindS h
 refine pq (qc (.agg [iI n44, uI n45]) [iO 4611686018427387904] (wide_Of_r (m + 1) h43) (vw_cons (vd_one vc_v) vw_nil)) ?_
 refine ow [[iI n44, uI n45]] 0 sz64 ?_
 refine oE (eS (lR (eR (eR (bR (eR (bR (eR ?_))))))))
 obtain rfl := sj h
 exact E_endF (.inr rfl) (res_cell (d := .agg [iI n44, uI n45]) 0 rfl sz64 rfl rfl rfl rfl res_nil) (vw_cons (vd_agg (vc_cons vc_v (vc_cons vc_v vc_nil))) vw_nil) oG rfl rfl
 replace h := ifF c42 h
 refine pq (qb (p_geq_fZ c42)) ?_
 refine pq (qm bf) ?_
 refine pq (qm (iO n2)) ?_
 by_cases c46 : n2 ≥ 4611686018427387904
 replace h := ifT c46 h
 refine pq (qb (p_geq_tZ c46)) ?_
 refine pq (qpf bt) ?_
 refine oE (eS (cT rfl (lS (lO ?_))))
 obtain ⟨⟨n48, n49⟩, h47, h⟩ := bindS h
 refine pq (qc (.agg [iI n48, uI n49]) [iO 4611686018427387904] (wide_Of_r (m + 1) h47) (vw_cons (vd_one vc_v) vw_nil)) ?_
 refine ow [[iI n48, uI n49]] 0 sz64 ?_
 refine oE (eS (lR (eR (eR (bR (eR (bR (eR ?_))))))))
 obtain rfl := sj h
 exact E_endF (.inr rfl) (res_cell (d := .agg [iI n48, uI n49]) 0 rfl sz64 rfl rfl rfl rfl res_nil) (vw_cons (vd_agg (vc_cons vc_v (vc_cons vc_v vc_nil))) vw_nil) oG rfl rfl
 replace h := ifF c46 h
 refine pq (qb (p_geq_fZ c46)) ?_
 refine pq (qpf bf) ?_
 refine oE (eS (cF rfl (lK (eS (lS (lO ?_))))))
 refine pq (qm (iO n3)) ?_
 obtain ⟨⟨n51, n52⟩, h50, h⟩ := bindS h
 refine pq (qc (.agg [iI n51, uI n52]) [iO n3] (wide_Of_r (m + 1) h50) (vw_cons (vd_one vc_v) vw_nil)) ?_
 refine ow [[iI n51, uI n52]] 0 sz64 ?_
 refine oE (eS (lR (eR (bR (eR (bR (eR ?_)))))))
 obtain rfl := sj h
 exact E_endF (.inr rfl) (res_cell (d := .agg [iI n51, uI n52]) 0 rfl sz64 rfl rfl rfl rfl res_nil) (vw_cons (vd_agg (vc_cons vc_v (vc_cons vc_v vc_nil))) vw_nil) oG rfl rfl
 replace h := ifF c41 h
 refine pq (qb (p_eql_fZ c41)) ?_
 refine pq (qa bf) ?_
 refine oE (eS (cF rfl (lK (eS (lS (lS (lO ?_)))))))
 by_cases c53 : n1 = 3
 replace h := ifT c53 h
 refine pq (qb (p_eql_tZ c53)) ?_
 refine pq (qa bt) ?_
 refine oE (eS (cT rfl (L_exit ?_)))
 refine E_seqX ?_
 refine E_seqX ?_
 refine E_blkX rfl ?_
 refine E_seqX ?_
 refine E_blkX rfl ?_
 refine E_seqX ?_
 refine E_blkX rfl ?_
 refine E_seqX ?_
 refine bH (eS (lS (lS (lS (lO ?_)))))
 refine pq (qm (iO n2)) ?_
 by_cases c54 : n2 ≥ 4611686018427387904
 replace h := ifT c54 h
 refine pq (qb (p_geq_tZ c54)) ?_
 refine pq (qm bt) ?_
 iterate 2 refine os ?_
 refine pq (qpt bt) ?_
 refine oE (eS (cT rfl (lS (lO ?_))))
 obtain ⟨⟨n56, n57⟩, h55, h⟩ := bindS h
 refine pq (qc (.agg [iI n56, uI n57]) [iO 4611686018427387904] (wide_Of_r (m + 1) h55) (vw_cons (vd_one vc_v) vw_nil)) ?_
 refine ow [[iI n56, uI n57]] 0 sz64 ?_
 refine oE (eS (lR (eR (eR (bR (eR (bR (eR ?_))))))))
 obtain rfl := sj h
 exact E_endF (.inr rfl) (res_cell (d := .agg [iI n56, uI n57]) 0 rfl sz64 rfl rfl rfl rfl res_nil) (vw_cons (vd_agg (vc_cons vc_v (vc_cons vc_v vc_nil))) vw_nil) oG rfl rfl
 replace h := ifF c54 h
 refine pq (qb (p_geq_fZ c54)) ?_
 refine pq (qm bf) ?_
 refine pq (qm (iO n3)) ?_
 by_cases c58 : n3 ≥ 4611686018427387904
 replace h := ifT c58 h
 refine pq (qb (p_geq_tZ c58)) ?_
 refine pq (qpf bt) ?_
 refine oE (eS (cT rfl (lS (lO ?_))))
 obtain ⟨⟨n60, n61⟩, h59, h⟩ := bindS h
 refine pq (qc (.agg [iI n60, uI n61]) [iO 4611686018427387904] (wide_Of_r (m + 1) h59) (vw_cons (vd_one vc_v) vw_nil)) ?_
 refine ow [[iI n60, uI n61]] 0 sz64 ?_
 refine oE (eS (lR (eR (eR (bR (eR (bR (eR ?_))))))))
 obtain rfl := sj h
 exact E_endF (.inr rfl) (res_cell (d := .agg [iI n60, uI n61]) 0 rfl sz64 rfl rfl rfl rfl res_nil) (vw_cons (vd_agg (vc_cons vc_v (vc_cons vc_v vc_nil))) vw_nil) oG rfl rfl
 replace h := ifF c58 h
 refine pq (qb (p_geq_fZ c58)) ?_
 refine pq (qpf bf) ?_
 refine oE (eS (cF rfl (lK (eS (lS (lO ?_))))))
 refine pq (qm (iO n2)) ?_
 obtain ⟨⟨n63, n64⟩, h62, h⟩ := bindS h
 refine pq (qc (.agg [iI n63, uI n64]) [iO n2] (wide_Of_r (m + 1) h62) (vw_cons (vd_one vc_v) vw_nil)) ?_
 refine ow [[iI n63, uI n64]] 0 sz64 ?_
 refine oE (eS (lR (eR (bR (eR (bR (eR ?_)))))))
 obtain rfl := sj h
 exact E_endF (.inr rfl) (res_cell (d := .agg [iI n63, uI n64]) 0 rfl sz64 rfl rfl rfl rfl res_nil) (vw_cons (vd_agg (vc_cons vc_v (vc_cons vc_v vc_nil))) vw_nil) oG rfl rfl
 replace h := ifF c53 h
 refine pq (qb (p_eql_fZ c53)) ?_
 refine pq (qa bf) ?_
 refine oE (eS (cF rfl (lK (eS (lS (lO ?_))))))
 by_cases c65 : n1 = 5
 replace h := ifT c65 h
 refine pq (qb (p_eql_tZ c65)) ?_
 refine pq (qa bt) ?_
 refine oE (eS (cT rfl (L_exit ?_)))
 refine E_seqX ?_
 refine E_blkX rfl ?_
 refine E_seqX ?_
 refine E_blkX rfl ?_
 refine E_seqX ?_
 refine E_blkX rfl ?_
 refine E_seqX ?_
 refine E_blkX rfl ?_
 refine E_seqX ?_
 refine bH (eS (lS (lS (lO ?_))))
 refine pq (qm (iO n2)) ?_
 refine pq (qm (iO n3)) ?_
 obtain ⟨⟨n67, n68⟩, h66, h⟩ := bindS h
 refine pq (qc (.agg [iI n67, uI n68]) [iO n2, iO n3] (wide_Mul_r (m + 0) h66) (vw_cons (vd_one vc_v) (vw_cons (vd_one vc_v) vw_nil))) ?_
 refine ow [[iI n67, uI n68]] 0 sz64 ?_
 refine oE (eS (lR (eR (bR (eR ?_)))))
 obtain rfl := sj h
 exact E_endF (.inr rfl) (res_cell (d := .agg [iI n67, uI n68]) 0 rfl sz64 rfl rfl rfl rfl res_nil) (vw_cons (vd_agg (vc_cons vc_v (vc_cons vc_v vc_nil))) vw_nil) oG rfl rfl
 replace h := ifF c65 h
 refine pq (qb (p_eql_fZ c65)) ?_
 refine pq (qa bf) ?_
 refine oE (eS (cF rfl (lK (eS (L_exit ?_)))))
 refine E_blkX rfl ?_
 refine E_seqX ?_
 refine E_blkX rfl ?_
 refine E_seqX ?_
 refine E_blkX rfl ?_
 refine E_seqX ?_
 refine E_blkX rfl ?_
 refine E_seqX ?_
 refine E_blkX rfl ?_
 refine E_seqX ?_
 refine bH (eS (lS (lO ?_)))
 refine pq (q_build (cs := [iI 0, uI 0]) ty64 rfl pl64 rfl) ?_
 refine ow [[iI 0, uI 0]] 0 sz64 ?_
 refine oE (eS (lR ?_))
 obtain rfl := sj h
 exact E_endF (.inr rfl) (res_cell (d := .agg [iI 0, uI 0]) 0 rfl sz64 rfl rfl rfl rfl res_nil) (vw_cons (vd_agg (vc_cons vc_v (vc_cons vc_v vc_nil))) vw_nil) oG rfl rfl
noncomputable def ring_Add (n1 : Int) (a1 : Int × Int) (a2 : Int × Int) : Option ((Int × Int)) :=
 match a1, a2 with
 | (n2, n3), (n4, n5) => (if n1 = 1 then ((ring_lesser (n2, n3) (n4, n5)).bind fun (n11, n12) => some (n11, n12)) else (if n1 = 3 then ((ring_lesser (n2, n3) (n4, n5)).bind fun (n15, n16) => some (n15, n16)) else (if n1 = 4 then ((ring_lesser (n2, n3) (n4, n5)).bind fun (n19, n20) => some (n19, n20)) else (if n1 = 2 then (if n2 = 0 ∧ n3 = 0 then (if n4 = 0 ∧ n5 = 0 then ((ring_truth false).bind fun (n25, n26) => some (n25, n26)) else ((ring_truth true).bind fun (n28, n29) => some (n28, n29))) else ((ring_truth true).bind fun (n31, n32) => some (n31, n32))) else (if n1 = 5 then ((wide_Add (n2, n3) (n4, n5)).bind fun (n35, n36) => some (n35, n36)) else some (0, 0))))))
theorem ring_Add_r (m : Nat) {n1 : Int} {a1 : Int × Int} {a2 : Int × Int} {out : (Int × Int)} (h : ring_Add n1 a1 a2 = some out) : RunsP E1 (m + 3) 48 [.one (iT .i64 n1), .agg (r63 a1), .agg (r63 a2)] (.fresh, [.agg (r63 out)]) := by
 obtain ⟨n2, n3⟩ := a1
 obtain ⟨n4, n5⟩ := a2
 refine fn_F rfl (by rw [E1_fn]; exact show fiOf Tryd.prog 48 = _ by unfold fiOf; rw [Tryd.func48]; unfold Tryd.f48; rfl) rfl ?_
 dsimp only
 unfold ring_Add at h
 refine lS (lO ?_)
 refine ol_new rfl rfl rfl (q_box ty64 rfl (cs := [iI n2, uI n3]) rfl rfl) (fun k6 => ?_)
 refine ol_new rfl rfl rfl (q_box ty64 rfl (cs := [iI n4, uI n5]) rfl rfl) (fun k7 => ?_)
 refine ol_new rfl rfl rfl (q_alloc ty64 (row := [iI 0, uI 0]) rfl rfl) (fun k8 => ?_)
 refine oE (eS (lS (lS (lO ?_))))
 refine pq (qm (iO n1)) ?_
 refine oE (eS (lB (lS (lS (lO ?_)))))
 by_cases c9 : n1 = 1
 replace h := ifT c9 h
 refine pq (qb (p_eql_tZ c9)) ?_
 refine pq (qa bt) ?_
 refine oE (eS (cT rfl (lK (eS (cT rfl (lS (lO ?_)))))))
 refine pq (ql (.agg [iI n2, uI n3]) 2 sz64) ?_
 refine pq (ql (.agg [iI n4, uI n5]) 1 sz64) ?_
 obtain ⟨⟨n11, n12⟩, h10, h⟩ := bindS h
 refine pq (qc (.agg [iI n11, uI n12]) [.agg [iI n2, uI n3], .agg [iI n4, uI n5]] (ring_lesser_r (m + 0) h10) (vw_cons (vd_agg (vc_cons vc_v (vc_cons vc_v vc_nil))) (vw_cons (vd_agg (vc_cons vc_v (vc_cons vc_v vc_nil))) vw_nil))) ?_
 refine ow [[iI n11, uI n12]] 0 sz64 ?_
 refine oE (eS (lR (bR (eR ?_))))
 obtain rfl := sj h
 exact E_endF (.inr rfl) (res_cell (d := .agg [iI n11, uI n12]) 0 rfl sz64 rfl rfl rfl rfl res_nil) (vw_cons (vd_agg (vc_cons vc_v (vc_cons vc_v vc_nil))) vw_nil) oG rfl rfl
 replace h := ifF c9 h
 refine pq (qb (p_eql_fZ c9)) ?_
 refine pq (qa bf) ?_
 refine oE (eS (cF rfl (lS (lO ?_))))
 by_cases c13 : n1 = 3
 replace h := ifT c13 h
 refine pq (qb (p_eql_tZ c13)) ?_
 refine pq (qa bt) ?_
 refine oE (eS (cT rfl (lK (eS (cT rfl (lS (lO ?_)))))))
 refine pq (ql (.agg [iI n2, uI n3]) 2 sz64) ?_
 refine pq (ql (.agg [iI n4, uI n5]) 1 sz64) ?_
 obtain ⟨⟨n15, n16⟩, h14, h⟩ := bindS h
 refine pq (qc (.agg [iI n15, uI n16]) [.agg [iI n2, uI n3], .agg [iI n4, uI n5]] (ring_lesser_r (m + 0) h14) (vw_cons (vd_agg (vc_cons vc_v (vc_cons vc_v vc_nil))) (vw_cons (vd_agg (vc_cons vc_v (vc_cons vc_v vc_nil))) vw_nil))) ?_
 refine ow [[iI n15, uI n16]] 0 sz64 ?_
 refine oE (eS (lR (bR (eR ?_))))
 obtain rfl := sj h
 exact E_endF (.inr rfl) (res_cell (d := .agg [iI n15, uI n16]) 0 rfl sz64 rfl rfl rfl rfl res_nil) (vw_cons (vd_agg (vc_cons vc_v (vc_cons vc_v vc_nil))) vw_nil) oG rfl rfl
 replace h := ifF c13 h
 refine pq (qb (p_eql_fZ c13)) ?_
 refine pq (qa bf) ?_
 refine oE (eS (cF rfl (lO ?_)))
 by_cases c17 : n1 = 4
 replace h := ifT c17 h
 refine pq (qb (p_eql_tZ c17)) ?_
 refine pq (qa bt) ?_
 refine oE (eS (cT rfl (lS (lO ?_))))
 refine pq (ql (.agg [iI n2, uI n3]) 2 sz64) ?_
 refine pq (ql (.agg [iI n4, uI n5]) 1 sz64) ?_
 obtain ⟨⟨n19, n20⟩, h18, h⟩ := bindS h
 refine pq (qc (.agg [iI n19, uI n20]) [.agg [iI n2, uI n3], .agg [iI n4, uI n5]] (ring_lesser_r (m + 0) h18) (vw_cons (vd_agg (vc_cons vc_v (vc_cons vc_v vc_nil))) (vw_cons (vd_agg (vc_cons vc_v (vc_cons vc_v vc_nil))) vw_nil))) ?_
 refine ow [[iI n19, uI n20]] 0 sz64 ?_
 refine oE (eS (lR (bR (eR ?_))))
 obtain rfl := sj h
 exact E_endF (.inr rfl) (res_cell (d := .agg [iI n19, uI n20]) 0 rfl sz64 rfl rfl rfl rfl res_nil) (vw_cons (vd_agg (vc_cons vc_v (vc_cons vc_v vc_nil))) vw_nil) oG rfl rfl
 replace h := ifF c17 h
 refine pq (qb (p_eql_fZ c17)) ?_
 refine pq (qa bf) ?_
 refine oE (eS (cF rfl (lS (lO ?_))))
 by_cases c21 : n1 = 2
 replace h := ifT c21 h
 refine pq (qb (p_eql_tZ c21)) ?_
 refine pq (qa bt) ?_
 refine oE (eS (cT rfl (lS (lO ?_))))
 refine pq (ql (.agg [iI n2, uI n3]) 2 sz64) ?_
 refine pq (q_build (cs := [iI 0, uI 0]) ty64 rfl pl64 rfl) ?_
 by_cases c22 : n2 = 0 ∧ n3 = 0
 replace h := ifT c22 h
 refine pq (q_binA rfl rfl (by rfl) (by rfl) (eqneqA64_t _ _ c22) rfl) ?_
 refine pq (qm bf) ?_
 refine pq (ql (.agg [iI n4, uI n5]) 1 sz64) ?_
 refine pq (q_build (cs := [iI 0, uI 0]) ty64 rfl pl64 rfl) ?_
 by_cases c23 : n4 = 0 ∧ n5 = 0
 replace h := ifT c23 h
 refine pq (q_binA rfl rfl (by rfl) (by rfl) (eqneqA64_t _ _ c23) rfl) ?_
 refine pq (qpf bf) ?_
 obtain ⟨⟨n25, n26⟩, h24, h⟩ := bindS h
 refine pq (qc (.agg [iI n25, uI n26]) [bf] (ring_truth_r (m + 0) h24) (vw_cons (vd_one vc_v) vw_nil)) ?_
 refine ow [[iI n25, uI n26]] 0 sz64 ?_
 refine oE (eS (lR (bR (eR ?_))))
 obtain rfl := sj h
 exact E_endF (.inr rfl) (res_cell (d := .agg [iI n25, uI n26]) 0 rfl sz64 rfl rfl rfl rfl res_nil) (vw_cons (vd_agg (vc_cons vc_v (vc_cons vc_v vc_nil))) vw_nil) oG rfl rfl
 replace h := ifF c23 h
 refine pq (q_binA rfl rfl (by rfl) (by rfl) (eqneqA64_f _ _ c23) rfl) ?_
 refine pq (qpf bt) ?_
 obtain ⟨⟨n28, n29⟩, h27, h⟩ := bindS h
 refine pq (qc (.agg [iI n28, uI n29]) [bt] (ring_truth_r (m + 0) h27) (vw_cons (vd_one vc_v) vw_nil)) ?_
 refine ow [[iI n28, uI n29]] 0 sz64 ?_
 refine oE (eS (lR (bR (eR ?_))))
 obtain rfl := sj h
 exact E_endF (.inr rfl) (res_cell (d := .agg [iI n28, uI n29]) 0 rfl sz64 rfl rfl rfl rfl res_nil) (vw_cons (vd_agg (vc_cons vc_v (vc_cons vc_v vc_nil))) vw_nil) oG rfl rfl
 replace h := ifF c22 h
 refine pq (q_binA rfl rfl (by rfl) (by rfl) (eqneqA64_f _ _ c22) rfl) ?_
 refine pq (qm bt) ?_
 iterate 3 refine os ?_
 refine pq (qpt bt) ?_
 obtain ⟨⟨n31, n32⟩, h30, h⟩ := bindS h
 refine pq (qc (.agg [iI n31, uI n32]) [bt] (ring_truth_r (m + 0) h30) (vw_cons (vd_one vc_v) vw_nil)) ?_
 refine ow [[iI n31, uI n32]] 0 sz64 ?_
 refine oE (eS (lR (bR (eR ?_))))
 obtain rfl := sj h
 exact E_endF (.inr rfl) (res_cell (d := .agg [iI n31, uI n32]) 0 rfl sz64 rfl rfl rfl rfl res_nil) (vw_cons (vd_agg (vc_cons vc_v (vc_cons vc_v vc_nil))) vw_nil) oG rfl rfl
 replace h := ifF c21 h
 refine pq (qb (p_eql_fZ c21)) ?_
 refine pq (qa bf) ?_
 refine oE (eS (cF rfl (lS (lO ?_))))
 by_cases c33 : n1 = 5
 replace h := ifT c33 h
 refine pq (qb (p_eql_tZ c33)) ?_
 refine pq (qa bt) ?_
 refine oE (eS (cT rfl (lS (lO ?_))))
 refine pq (ql (.agg [iI n2, uI n3]) 2 sz64) ?_
 refine pq (ql (.agg [iI n4, uI n5]) 1 sz64) ?_
 obtain ⟨⟨n35, n36⟩, h34, h⟩ := bindS h
 refine pq (qc (.agg [iI n35, uI n36]) [.agg [iI n2, uI n3], .agg [iI n4, uI n5]] (wide_Add_r (m + 1) h34) (vw_cons (vd_agg (vc_cons vc_v (vc_cons vc_v vc_nil))) (vw_cons (vd_agg (vc_cons vc_v (vc_cons vc_v vc_nil))) vw_nil))) ?_
 refine ow [[iI n35, uI n36]] 0 sz64 ?_
 refine oE (eS (lR (bR (eR ?_))))
 obtain rfl := sj h
 exact E_endF (.inr rfl) (res_cell (d := .agg [iI n35, uI n36]) 0 rfl sz64 rfl rfl rfl rfl res_nil) (vw_cons (vd_agg (vc_cons vc_v (vc_cons vc_v vc_nil))) vw_nil) oG rfl rfl
 replace h := ifF c33 h
 refine pq (qb (p_eql_fZ c33)) ?_
 refine pq (qa bf) ?_
 refine oE (eS (cF rfl (lK (bN (eS (lS (lO ?_)))))))
 refine pq (q_build (cs := [iI 0, uI 0]) ty64 rfl pl64 rfl) ?_
 refine ow [[iI 0, uI 0]] 0 sz64 ?_
 refine oE (eS (lR ?_))
 obtain rfl := sj h
 exact E_endF (.inr rfl) (res_cell (d := .agg [iI 0, uI 0]) 0 rfl sz64 rfl rfl rfl rfl res_nil) (vw_cons (vd_agg (vc_cons vc_v (vc_cons vc_v vc_nil))) vw_nil) oG rfl rfl
end Ev
end Go.Proofs.YtnikcjnkcjondaaDoor
end
