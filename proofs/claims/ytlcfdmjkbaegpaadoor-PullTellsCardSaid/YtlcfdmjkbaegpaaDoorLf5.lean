/- Functions of the program as functions on data, and that they are. -/
import Derived.Test.YtlcfdmjkbaegpaaDoorEvZ
import Derived.Test.YtlcfdmjkbaegpaaDoorLf1
import Derived.Test.YtlcfdmjkbaegpaaDoorLf2
import Derived.Test.YtlcfdmjkbaegpaaDoorLy1
import Derived.Test.YtlcfdmjkbaegpaaDoorLy2
namespace Go.Proofs.YtlcfdmjkbaegpaaDoor
namespace Ev
open Go
set_option linter.unusedVariables false
set_option linter.unusedSimpArgs false
set_option maxRecDepth 100000
set_option maxHeartbeats 1000000
attribute [local irreducible] OpsL StL TnL WpL EndL
noncomputable def pull_wrong_b2 (s3 : Sl (Int × (Int × Int))) (n62 : Int) : Option (Int ⊕ (Unit ⊕ Int)) :=
 (if n62 < ((s3.l.length : Nat) : Int) then ((atS 3 s3 n62).bind fun (n66, (n67, n68)) => ((atS 3 s3 (IntKind.i64.wrap (n62 - 1))).bind fun (n71, (n72, n73)) => (if n66 ≤ n71 then some (.inr (.inr 6)) else some (.inl (IntKind.i64.wrap (n62 + 1)))))) else some (.inr (.inl ())))
noncomputable def pull_wrong_b1 (n2 : Int) (s3 : Sl (Int × (Int × Int))) (n27 : Int) : Option (Int ⊕ (Unit ⊕ Int)) :=
 (if n27 < ((s3.l.length : Nat) : Int) then ((atS 3 s3 n27).bind fun (n31, (n32, n33)) => (if n31 < 0 then some (.inr (.inr 3)) else (if n31 ≥ n2 then some (.inr (.inr 3)) else some (.inl (IntKind.i64.wrap (n27 + 1)))))) else some (.inr (.inl ())))
noncomputable def pull_wrong (n1 : Int) (n2 : Int) (s3 : Sl (Int × (Int × Int))) : Option (Int) :=
 ((ring_Is n1).bind fun b5 => (if b5 = true then (if n2 < 0 then some 3 else (if n2 > 4096 then some 3 else ((loopO (pull_wrong_b1 n2 s3) 0).bind (Sum.elim (fun _ => ((loopO (pull_wrong_b2 s3) 1).bind (Sum.elim (fun _ => some 0) (fun u => some u)))) (fun u => some u))))) else some 8))
theorem pull_wrong_r (m : Nat) {n1 : Int} {n2 : Int} {s3 : Sl (Int × (Int × Int))} {out : Int} (h : pull_wrong n1 n2 s3 = some out) : RunsP E1 (m + 2) 48 [.one (iT .i64 n1), .one (iT .i64 n2), .one (Sl.t r63 s3)] (.fresh, [.one (iT .i64 out)]) := by
 refine fn_F rfl (by rw [E1_fn]; exact show fiOf Tryd.prog 48 = _ by unfold fiOf; rw [Tryd.func48]; unfold Tryd.f48; rfl) rfl ?_
 dsimp only
 unfold pull_wrong at h
 refine lS (lO ?_)
 refine pq (qa (iO 0)) ?_
 refine oE (eS (lS (lS (lO ?_))))
 refine pq (qm (iO n1)) ?_
 obtain ⟨b5, h4, h⟩ := bindS h
 refine pq (qc (bO b5) [iO n1] (ring_Is_r (m + 0) h4) (vw_cons (vd_one vc_v) vw_nil)) ?_
 rcases b5 with _ | _
 replace h := wF h
 refine pq (q_not rfl) ?_
 refine oE (eS (cT rfl (lS (lO ?_))))
 refine pq (qa (iO 8)) ?_
 refine oE (eS (lR (eR ?_)))
 obtain rfl := sj h
 exact eF1
 replace h := wT h
 refine pq (q_not rfl) ?_
 refine oE (eS (cF rfl (lK (eS (lS (lS (lO ?_)))))))
 refine pq (qm (iO n2)) ?_
 by_cases c6 : n2 < 0
 replace h := ifT c6 h
 refine pq (qb (p_lss_tZ c6)) ?_
 refine pq (qm bt) ?_
 iterate 2 refine os ?_
 refine pq (qpt bt) ?_
 refine oE (eS (cT rfl (lS (lO ?_))))
 refine pq (qa (iO 3)) ?_
 refine oE (eS (lR (eR ?_)))
 obtain rfl := sj h
 exact eF1
 replace h := ifF c6 h
 refine pq (qb (p_lss_fZ c6)) ?_
 refine pq (qm bf) ?_
 refine pq (qm (iO n2)) ?_
 by_cases c7 : n2 > 4096
 replace h := ifT c7 h
 refine pq (qb (p_gtr_tZ c7)) ?_
 refine pq (qpf bt) ?_
 refine oE (eS (cT rfl (lS (lO ?_))))
 refine pq (qa (iO 3)) ?_
 refine oE (eS (lR (eR ?_)))
 obtain rfl := sj h
 exact eF1
 replace h := ifF c7 h
 refine pq (qb (p_gtr_fZ c7)) ?_
 refine pq (qpf bf) ?_
 refine oE (eS (cF rfl (lK (eS (lS (lS (lO ?_)))))))
 refine pq (qm (.one (sF r63 s3))) ?_
 refine pq (q_lenS rfl ty29 rfl rfl rfl rfl) ?_
 refine pq (qm (iO 0)) ?_
 refine oE (eS (lB ?_))
 let S1 : Int → Unit → (Nat → D) → Nat → D := fun a kt g => ups g [(1, iO n2), (2, .one (sF r63 s3)), (19, .one (sF r63 s3)), (20, .one (iI ((s3.l.length : Nat) : Int))), (21, iO a)]
 let SL1 : Int → Unit → BL := fun a kt => ([] : BL)
 let G1 : Int → Ex → St → Prop := fun u => endQ E1 [.tmp 6] (.fresh, [.one (iT .i64 u)])
 let Sx1 : Unit → Unit → (Nat → D) → Nat → D := fun a kt g => ups g [(2, .one (sF r63 s3))]
 let SLx1 : Unit → Unit → BL := fun a kt => ([] : BL)
 let J1 : (Unit ⊕ Int) → Ex → St → Prop := JX 53 0 Sx1 SLx1 G1
 refine L_loopS (pull_wrong_b1 n2 s3) S1 SL1 J1 JX_n 0 h () (ups_self ⟨rfl, rfl, rfl, rfl, rfl, trivial⟩) [] (by decide) rfl ?_ ?_
 rintro n27 _ g out h
 change pull_wrong_b1 n2 s3 n27 = some out at h
 unfold pull_wrong_b1 at h
 refine lS (lO ?_)
 by_cases c28 : n27 < ((s3.l.length : Nat) : Int)
 replace h := ifT c28 h
 refine pq (qb (p_lss_tZ c28)) ?_
 refine oE (eS (lS (cT rfl (lK (eS (lS (lB (lS (lO ?_)))))))))
 obtain ⟨⟨n31, ⟨n32, n33⟩⟩, h30, h⟩ := bindS h
 obtain ⟨h30a, h30b, h30⟩ := atS_some h30
 refine pq (q_ixS rfl rfl h30a h30 (el29.trans (congrArg some h30b.symm))) ?_
 refine pq (q_loadI (v := .agg [iI n31, iI n32, uI n33]) rfl sz64 (map_get h30) rfl rfl) ?_
 refine ol_new rfl rfl rfl (q_alloc ty64 (row := [iI 0, iI 0, uI 0]) rfl rfl) (fun k34 => ?_)
 refine ow [[iI n31, iI n32, uI n33]] 0 sz64 ?_
 refine oN ?_
 refine pq (q_fieldP rfl fa64_0 rfl) ?_
 refine pq (ql (iO n31) 0 sz3) ?_
 by_cases c35 : n31 < 0
 replace h := ifT c35 h
 refine pq (qb (p_lss_tZ c35)) ?_
 refine pq (qm bt) ?_
 iterate 4 refine os ?_
 refine pq (qpt bt) ?_
 refine oE (eS (cT rfl (lS (lO ?_))))
 refine pq (qa (iO 3)) ?_
 refine oE (eS (lR (bR (eR ?_))))
 obtain rfl := sj h
 exact E_out (E_up (eF1))
 replace h := ifF c35 h
 refine pq (qb (p_lss_fZ c35)) ?_
 refine pq (qm bf) ?_
 refine pq (q_fieldP rfl fa64_0 rfl) ?_
 refine pq (ql (iO n31) 0 sz3) ?_
 refine pq (qm (iO n2)) ?_
 by_cases c36 : n31 ≥ n2
 replace h := ifT c36 h
 refine pq (qb (p_geq_tZ c36)) ?_
 refine pq (qpf bt) ?_
 refine oE (eS (cT rfl (lS (lO ?_))))
 refine pq (qa (iO 3)) ?_
 refine oE (eS (lR (bR (eR ?_))))
 obtain rfl := sj h
 exact E_out (E_up (eF1))
 replace h := ifF c36 h
 refine pq (qb (p_geq_fZ c36)) ?_
 refine pq (qpf bf) ?_
 refine oE (eS (cF rfl (lK (bN (eS (lO ?_))))))
 refine pq (qb p_addY) ?_
 refine pq (qm (iO (IntKind.i64.wrap (n27 + 1)))) ?_
 refine oE ?_
 obtain rfl := sj h
 exact E_next () (ups_self ⟨rfl, rfl, rfl, rfl, rfl, trivial⟩) [] (by decide) rfl
 replace h := ifF c28 h
 refine pq (qb (p_lss_fZ c28)) ?_
 refine oE (eS (lS (cF rfl (L_exit ?_))))
 refine E_seqX ?_
 obtain rfl := sj h
 refine E_out ?_
 exact (E_exit () (ups_self ⟨rfl, trivial⟩) [] (by decide) rfl)
 rintro (_ | u) h
 refine J_x (fun kt g => ?_)
 replace h := elimL h
 refine bH (eS (lS (lS (lO ?_))))
 refine pq (qa (iO 1)) ?_
 refine oE (eS (lB ?_))
 let S2 : Int → Unit → (Nat → D) → Nat → D := fun a kt g => ups g [(2, .one (sF r63 s3)), (9, iO a)]
 let SL2 : Int → Unit → BL := fun a kt => ([] : BL)
 let G2 : Int → Ex → St → Prop := fun u => endQ E1 [.tmp 6] (.fresh, [.one (iT .i64 u)])
 let Sx2 : Unit → Unit → (Nat → D) → Nat → D := fun a kt g => ups g []
 let SLx2 : Unit → Unit → BL := fun a kt => ([] : BL)
 let J2 : (Unit ⊕ Int) → Ex → St → Prop := JX 53 2 Sx2 SLx2 G2
 refine L_loopS (pull_wrong_b2 s3) S2 SL2 J2 JX_n 1 h () (ups_self ⟨rfl, rfl, trivial⟩) [] (by decide) rfl ?_ ?_
 rintro n62 _ g out h
 change pull_wrong_b2 s3 n62 = some out at h
 unfold pull_wrong_b2 at h
 refine lS (lS (lO ?_))
 refine pq (qm (iO n62)) ?_
 refine pq (qm (.one (sF r63 s3))) ?_
 refine pq (q_lenS rfl ty29 rfl rfl rfl rfl) ?_
 by_cases c63 : n62 < ((s3.l.length : Nat) : Int)
 replace h := ifT c63 h
 refine pq (qb (p_lss_tZ c63)) ?_
 refine oE (eS (cT rfl (lK (eS (lS (lB (lS ?_)))))))
 refine L_still (by kernel_rfl) ?_
 refine sq (qm (.one (sF r63 s3))) ?_
 refine sq (qm (iO n62)) ?_
 obtain ⟨⟨n66, ⟨n67, n68⟩⟩, h65, h⟩ := bindS h
 obtain ⟨h65a, h65b, h65⟩ := atS_some h65
 refine sq (q_ixS rfl rfl h65a h65 (el29.trans (congrArg some h65b.symm))) ?_
 refine sq (q_fieldI rfl fa64_0 rfl) ?_
 refine sq (q_loadI (v := iO n66) rfl sz3 (map_get h65) rfl rfl) ?_
 refine sq (qm (.one (sF r63 s3))) ?_
 refine sq (qm (iO n62)) ?_
 refine sq (qb p_subY) ?_
 obtain ⟨⟨n71, ⟨n72, n73⟩⟩, h70, h⟩ := bindS h
 obtain ⟨h70a, h70b, h70⟩ := atS_some h70
 refine sq (q_ixS rfl rfl h70a h70 (el29.trans (congrArg some h70b.symm))) ?_
 refine sq (q_fieldI rfl fa64_0 rfl) ?_
 refine sq (q_loadI (v := iO n71) rfl sz3 (map_get h70) rfl rfl) ?_
 by_cases c74 : n66 ≤ n71
 replace h := ifT c74 h
 refine sq (qb (p_leq_tZ c74)) ?_
 refine st_end (eS (cT rfl (lS (lO ?_))))
 refine pq (qa (iO 6)) ?_
 refine oE (eS (lR (bR (eR ?_))))
 obtain rfl := sj h
 exact E_out (E_up (eF1))
 replace h := ifF c74 h
 refine sq (qb (p_leq_fZ c74)) ?_
 refine st_end (eS (cF rfl (lK (bN (eS (lO ?_))))))
 refine pq (qm (iO n62)) ?_
 refine pq (qb p_addY) ?_
 refine pq (qa (iO (IntKind.i64.wrap (n62 + 1)))) ?_
 refine oE ?_
 obtain rfl := sj h
 exact E_next () (ups_self ⟨rfl, rfl, trivial⟩) [] (by decide) rfl
 replace h := ifF c63 h
 refine pq (qb (p_lss_fZ c63)) ?_
 refine oE (eS (cF rfl (L_exit ?_)))
 refine E_seqX ?_
 obtain rfl := sj h
 refine E_out ?_
 exact (E_exit () (ups_self trivial) [] (by decide) rfl)
 rintro (_ | u) h
 refine J_x (fun kt g => ?_)
 replace h := elimL h
 refine bH (eS (lS (lO ?_)))
 refine pq (qa (iO 0)) ?_
 refine oE (eS (lR ?_))
 obtain rfl := sj h
 exact eF1
 obtain rfl := Option.some.inj (elimR h)
 exact J_up (fun s hs => hs)
 obtain rfl := Option.some.inj (elimR h)
 exact J_up (fun s hs => hs)
noncomputable def wide_Narrow (a0 : Int × Int) : Option (Int × Bool) :=
 match a0 with
 | (n1, n2) => ((wide_Of (IntKind.i64.wrap n2)).bind fun (n5, n6) => (if n1 = n5 ∧ n2 = n6 then some ((IntKind.i64.wrap n2), true) else some (0, false)))
theorem wide_Narrow_r (m : Nat) {a0 : Int × Int} {out : Int × Bool} (h : wide_Narrow a0 = some out) : RunsP E1 (m + 2) 81 [.agg (r61 a0)] (.fresh, [.one (iT .i64 out.1), .one (bT out.2)]) := by
 obtain ⟨n1, n2⟩ := a0
 refine fn_F rfl (by rw [E1_fn]; exact show fiOf Tryd.prog 81 = _ by unfold fiOf; rw [Tryd.func81]; unfold Tryd.f81; rfl) rfl ?_
 dsimp only
 unfold wide_Narrow at h
 refine lS (lO ?_)
 refine ol_new rfl rfl rfl (q_box ty62 rfl (cs := [iI n1, uI n2]) rfl rfl) (fun k3 => ?_)
 refine pq (qa (iO 0)) ?_
 refine pq (qa bf) ?_
 refine oN ?_
 refine pq (q_fieldP rfl fa62_1 rfl) ?_
 refine pq (ql (.one (uI n2)) 0 sz60) ?_
 refine pq (q_conv rfl (cv60_2_u64 _) rfl) ?_
 refine pq (qa (iO (IntKind.i64.wrap n2))) ?_
 refine oE (eS (lS (lS ?_)))
 refine L_still (by kernel_rfl) ?_
 refine sq (ql (.agg [iI n1, uI n2]) 0 sz62) ?_
 refine sq (qm (iO (IntKind.i64.wrap n2))) ?_
 obtain ⟨⟨n5, n6⟩, h4, h⟩ := bindS h
 refine sq (qc (.agg [iI n5, uI n6]) [.one (iI (IntKind.i64.wrap n2))] (wide_Of_r (m + 0) h4) (vw_cons (vd_one vc_v) vw_nil)) ?_
 by_cases c7 : n1 = n5 ∧ n2 = n6
 replace h := ifT c7 h
 refine sq (q_binA rfl rfl (by rfl) (by rfl) (eqneqA62_t _ _ c7) rfl) ?_
 refine st_end (eS (cF rfl (lK (eS (lS (lO ?_))))))
 refine pq (qm (iO (IntKind.i64.wrap n2))) ?_
 refine pq (qa (iO (IntKind.i64.wrap n2))) ?_
 refine pq (qa bt) ?_
 refine oE (eS (lR ?_))
 obtain rfl := sj h
 exact E_endF (.inr rfl) (res_tmp rfl (res_tmp rfl res_nil)) (vw_cons (vd_one vc_v) (vw_cons (vd_one vc_v) vw_nil)) oW rfl rfl
 replace h := ifF c7 h
 refine sq (q_binA rfl rfl (by rfl) (by rfl) (eqneqA62_f _ _ c7) rfl) ?_
 refine st_end (eS (cT rfl (lS (lO ?_))))
 refine pq (qa (iO 0)) ?_
 refine pq (qa bf) ?_
 refine oE (eS (lR (eR ?_)))
 obtain rfl := sj h
 exact E_endF (.inr rfl) (res_tmp rfl (res_tmp rfl res_nil)) (vw_cons (vd_one vc_v) (vw_cons (vd_one vc_v) vw_nil)) oW rfl rfl
noncomputable def ring_Narrow (n1 : Int) (a1 : Int × Int) : Option (Int × Bool) :=
 match a1 with
 | (n2, n3) => ((wide_Narrow (n2, n3)).bind fun (n6, b7) => some (n6, b7))
theorem ring_Narrow_r (m : Nat) {n1 : Int} {a1 : Int × Int} {out : Int × Bool} (h : ring_Narrow n1 a1 = some out) : RunsP E1 (m + 3) 49 [.one (iT .i64 n1), .agg (r61 a1)] (.fresh, [.one (iT .i64 out.1), .one (bT out.2)]) := by
 obtain ⟨n2, n3⟩ := a1
 refine fn_F rfl (by rw [E1_fn]; exact show fiOf Tryd.prog 49 = _ by unfold fiOf; rw [Tryd.func49]; unfold Tryd.f49; rfl) rfl ?_
 dsimp only
 unfold ring_Narrow at h
 refine lS (lO ?_)
 refine ol_new rfl rfl rfl (q_box ty62 rfl (cs := [iI n2, uI n3]) rfl rfl) (fun k4 => ?_)
 refine pq (qa (iO 0)) ?_
 refine pq (qa bf) ?_
 refine oN ?_
 refine pq (ql (.agg [iI n2, uI n3]) 0 sz62) ?_
 obtain ⟨⟨n6, b7⟩, h5, h⟩ := bindS h
 refine pq (qc (.tup [iO n6, bO b7]) [.agg [iI n2, uI n3]] (wide_Narrow_r (m + 0) h5) (vw_cons (vd_agg (vc_cons vc_v (vc_cons vc_v vc_nil))) vw_nil)) ?_
 refine pq (q_ext (v := iO n6) rfl rfl) ?_
 refine pq (q_ext (v := bO b7) rfl rfl) ?_
 refine pq (qa (iO n6)) ?_
 refine pq (qa (bO b7)) ?_
 refine oE (eS (lR ?_))
 obtain rfl := sj h
 exact E_endF (.inr rfl) (res_tmp rfl (res_tmp rfl res_nil)) (vw_cons (vd_one vc_v) (vw_cons (vd_one vc_v) vw_nil)) oW rfl rfl
noncomputable def ring_Zero (n1 : Int) : Option (Int) :=
 (if n1 = 1 then some 4611686018427387904 else (if n1 = 3 then some 4611686018427387904 else (if n1 = 4 then some 4611686018427387904 else some 0)))
theorem ring_Zero_r (m : Nat) {n1 : Int} {out : Int} (h : ring_Zero n1 = some out) : RunsP E1 (m + 1) 50 [.one (iT .i64 n1)] (.fresh, [.one (iT .i64 out)]) := by
 refine fn_F rfl (by rw [E1_fn]; exact show fiOf Tryd.prog 50 = _ by unfold fiOf; rw [Tryd.func50]; unfold Tryd.f50; rfl) rfl ?_
 dsimp only
 unfold ring_Zero at h
 refine lS (lO ?_)
 refine pq (qa (iO 0)) ?_
 refine oE (eS (lS (lS (lO ?_))))
 refine pq (qm (iO n1)) ?_
 refine oE (eS (lB (lS (lS (lO ?_)))))
 by_cases c2 : n1 = 1
 replace h := ifT c2 h
 refine pq (qb (p_eql_tZ c2)) ?_
 refine pq (qa bt) ?_
 refine oE (eS (cT rfl (lK (eS (cT rfl (lS (lO ?_)))))))
 refine pq (qa (iO 4611686018427387904)) ?_
 refine oE (eS (lR (bR (eR ?_))))
 obtain rfl := sj h
 exact eF1
 replace h := ifF c2 h
 refine pq (qb (p_eql_fZ c2)) ?_
 refine pq (qa bf) ?_
 refine oE (eS (cF rfl (lS (lO ?_))))
 by_cases c3 : n1 = 3
 replace h := ifT c3 h
 refine pq (qb (p_eql_tZ c3)) ?_
 refine pq (qa bt) ?_
 refine oE (eS (cT rfl (lK (eS (cT rfl (lS (lO ?_)))))))
 refine pq (qa (iO 4611686018427387904)) ?_
 refine oE (eS (lR (bR (eR ?_))))
 obtain rfl := sj h
 exact eF1
 replace h := ifF c3 h
 refine pq (qb (p_eql_fZ c3)) ?_
 refine pq (qa bf) ?_
 refine oE (eS (cF rfl (lO ?_)))
 by_cases c4 : n1 = 4
 replace h := ifT c4 h
 refine pq (qb (p_eql_tZ c4)) ?_
 refine pq (qa bt) ?_
 refine oE (eS (cT rfl (lS (lO ?_))))
 refine pq (qa (iO 4611686018427387904)) ?_
 refine oE (eS (lR (bR (eR ?_))))
 obtain rfl := sj h
 exact eF1
 replace h := ifF c4 h
 refine pq (qb (p_eql_fZ c4)) ?_
 refine pq (qa bf) ?_
 refine oE (eS (cF rfl (lK (bN (eS (lS (lO ?_)))))))
 refine pq (qa (iO 0)) ?_
 refine oE (eS (lR ?_))
 obtain rfl := sj h
 exact eF1
noncomputable def pull_Done_b1 (n1 : Int) (s3 : Sl (Int × (Int × Int))) (a : Int × (List (Int × Int))) : Option ((Int × (List (Int × Int))) ⊕ ((List (Int × Int)) ⊕ ((Int × (Sl (Int × Int))) × Int))) :=
 match a with
 | (n46, l47) => (if n46 < ((s3.l.length : Nat) : Int) then ((atS 3 s3 n46).bind fun (n52, (n53, n54)) => ((ring_Narrow n1 (n53, n54)).bind fun (n57, b58) => (if b58 = true then ((ring_Zero n1).bind fun n60 => (if n57 ≠ n60 then ((app l47 ([(n52, n57)] : List (Int × Int))).bind fun _ => some (.inl ((IntKind.i64.wrap (n46 + 1)), (l47 ++ ([(n52, n57)] : List (Int × Int)))))) else some (.inl ((IntKind.i64.wrap (n46 + 1)), l47)))) else some (.inr (.inr ((0, (⟨false, 0, []⟩ : Sl (Int × Int))), 12)))))) else some (.inr (.inl l47)))
noncomputable def pull_Done (n1 : Int) (n2 : Int) (s3 : Sl (Int × (Int × Int))) : Option ((Int × (Sl (Int × Int))) × Int) :=
 ((pull_wrong n1 n2 s3).bind fun n6 => (if n6 ≠ 0 then some ((0, (⟨false, 0, []⟩ : Sl (Int × Int))), n6) else ((loopO (pull_Done_b1 n1 s3) (0, ([] : List (Int × Int)))).bind (Sum.elim (fun l65 => some ((n2, (mo 2 l65)), 0)) (fun u => some u)))))
theorem pull_Done_r (m : Nat) {n1 : Int} {n2 : Int} {s3 : Sl (Int × (Int × Int))} {out : (Int × (Sl (Int × Int))) × Int} (h : pull_Done n1 n2 s3 = some out) : RunsP E1 (m + 4) 16 [.one (iT .i64 n1), .one (iT .i64 n2), .one (Sl.t r63 s3)] (.fresh, [.agg (r38 out.1), .one (iT .i64 out.2)]) := by
 refine fn_F rfl (by rw [E1_fn]; exact show fiOf Tryd.prog 16 = _ by unfold fiOf; rw [Tryd.func16]; unfold Tryd.f16; rfl) rfl ?_
 dsimp only
 unfold pull_Done at h
 refine lS (lO ?_)
 refine ol_new rfl rfl rfl (q_alloc ty39 (row := [iI 0, nC]) rfl rfl) (fun k4 => ?_)
 refine pq (qa (iO 0)) ?_
 refine oE (eS (lS (lS (lO ?_))))
 refine pq (qm (iO n1)) ?_
 refine pq (qm (iO n2)) ?_
 refine pq (qm (.one (sF r63 s3))) ?_
 obtain ⟨n6, h5, h⟩ := bindS h
 refine pq (qc (iO n6) [iO n1, iO n2, .one (sF r63 s3)] (pull_wrong_r (m + 1) h5) (vw_cons (vd_one vc_v) (vw_cons (vd_one vc_v) (vw_cons (vd_one vc_s) vw_nil)))) ?_
 refine pq (qa (iO n6)) ?_
 refine oN ?_
 refine pq (qm (iO n6)) ?_
 by_cases c7 : n6 ≠ 0
 replace h := ifT c7 h
 refine pq (qb (p_neq_tZ c7)) ?_
 refine oE (eS (cT rfl (lS (lO ?_))))
 refine pq (q_build (cs := [iI 0, nC]) ty39 rfl pl39 rfl) ?_
 refine pq (qm (iO n6)) ?_
 refine ow [[iI 0, nC]] 0 sz39 ?_
 refine pq (qa (iO n6)) ?_
 refine oE (eS (lR (eR ?_)))
 obtain rfl := sj h
 exact E_endF (.inr rfl) (res_cell (d := .agg [iI 0, nC]) 0 rfl sz39 rfl rfl rfl rfl (res_tmp rfl res_nil)) (vw_cons (vd_agg (vc_cons vc_v (vc_cons vc_s vc_nil))) (vw_cons (vd_one vc_v) vw_nil)) oW rfl rfl
 replace h := ifF c7 h
 refine pq (qb (p_neq_fZ c7)) ?_
 refine oE (eS (cF rfl (lK (eS (lS (lO ?_))))))
 refine pq (qm (iO n2)) ?_
 refine pq (q_build (cs := [iI n2, nC]) ty39 rfl pl39 rfl) ?_
 refine ol_new rfl rfl rfl (q_alloc ty39 (row := [iI 0, nC]) rfl rfl) (fun k8 => ?_)
 refine ow [[iI n2, nC]] 0 sz39 ?_
 refine oE (eS (lS (lS (lO ?_))))
 refine pq (qm (.one (sF r63 s3))) ?_
 refine pq (q_lenS rfl ty29 rfl rfl rfl rfl) ?_
 refine pq (qm (iO 0)) ?_
 refine oE (eS (lB ?_))
 refine L_addM (α := Int × Int) r70 2 ?_
 let S1 : (Int × (List (Int × Int))) → Nat → (Nat → D) → Nat → D := fun a kt g => ups g [(0, iO n1), (6, .one (.ptr k4 0 0)), (9, .one (.ptr k8 0 0)), (24, .one (sF r63 s3)), (25, .one (iI ((s3.l.length : Nat) : Int))), (26, .one (iI a.1))]
 let SL1 : (Int × (List (Int × Int))) → Nat → BL := fun a kt => ([[(k4, 2, [[iI 0, nC]])], [(k8, 2, [[iI n2, moC a.2 kt]])], moL r70 2 a.2 kt] : BL)
 let G1 : ((Int × (Sl (Int × Int))) × Int) → Ex → St → Prop := fun u => endQ E1 [.cell 6 39, .tmp 7] (.fresh, [.agg (r38 u.1), .one (iT .i64 u.2)])
 let Sx1 : (List (Int × Int)) → Nat → (Nat → D) → Nat → D := fun a kt g => ups g [(6, .one (.ptr k4 0 0)), (9, .one (.ptr k8 0 0))]
 let SLx1 : (List (Int × Int)) → Nat → BL := fun a kt => ([[(k4, 2, [[iI 0, nC]])], [(k8, 2, [[iI n2, moC a kt]])], moL r70 2 a kt] : BL)
 let J1 : ((List (Int × Int)) ⊕ ((Int × (Sl (Int × Int))) × Int)) → Ex → St → Prop := JX 55 0 Sx1 SLx1 G1
 refine L_loopS (pull_Done_b1 n1 s3) S1 SL1 J1 JX_n (0, ([] : List (Int × Int))) h 1044 (ups_self ⟨rfl, rfl, rfl, rfl, rfl, rfl, trivial⟩) [2, 1, 0] (by decide) rfl ?_ ?_
 rintro ⟨n46, l47⟩ k48 g out h
 change pull_Done_b1 n1 s3 (n46, l47) = some out at h
 unfold pull_Done_b1 at h
 refine lS (lO ?_)
 by_cases c49 : n46 < ((s3.l.length : Nat) : Int)
 replace h := ifT c49 h
 refine pq (qb (p_lss_tZ c49)) ?_
 refine oE (eS (lS (cT rfl (lK (eS (lS (lB (lS (lO ?_)))))))))
 obtain ⟨⟨n52, ⟨n53, n54⟩⟩, h51, h⟩ := bindS h
 obtain ⟨h51a, h51b, h51⟩ := atS_some h51
 refine pq (q_ixS rfl rfl h51a h51 (el29.trans (congrArg some h51b.symm))) ?_
 refine pq (q_loadI (v := .agg [iI n52, iI n53, uI n54]) rfl sz64 (map_get h51) rfl rfl) ?_
 refine ol_new rfl rfl rfl (q_alloc ty64 (row := [iI 0, iI 0, uI 0]) rfl rfl) (fun k55 => ?_)
 refine ow [[iI n52, iI n53, uI n54]] 0 sz64 ?_
 refine oN ?_
 refine pq (qm (iO n1)) ?_
 refine pq (q_fieldP rfl fa64_1 rfl) ?_
 refine pq (ql (.agg [iI n53, uI n54]) 0 sz62) ?_
 obtain ⟨⟨n57, b58⟩, h56, h⟩ := bindS h
 refine pq (qc (.tup [iO n57, bO b58]) [iO n1, .agg [iI n53, uI n54]] (ring_Narrow_r (m + 0) h56) (vw_cons (vd_one vc_v) (vw_cons (vd_agg (vc_cons vc_v (vc_cons vc_v vc_nil))) vw_nil))) ?_
 refine pq (qm (.tup [iO n57, bO b58])) ?_
 refine pq (q_ext (v := iO n57) rfl rfl) ?_
 refine pq (q_ext (v := bO b58) rfl rfl) ?_
 refine pq (qa (iO n57)) ?_
 refine pq (qa (bO b58)) ?_
 refine oE (eS (lS (lS (lO ?_))))
 refine pq (qm (bO b58)) ?_
 rcases b58 with _ | _
 replace h := wF h
 refine pq (q_not rfl) ?_
 refine oE (eS (cT rfl (lS (lO ?_))))
 refine pq (q_build (cs := [iI 0, nC]) ty39 rfl pl39 rfl) ?_
 refine ow [[iI 0, nC]] 1 sz39 ?_
 refine pq (qa (iO 12)) ?_
 refine oE (eS (lR (eR (bR (eR ?_)))))
 obtain rfl := sj h
 exact E_out (E_up (E_endF (.inr rfl) (res_cell (d := .agg [iI 0, nC]) 1 rfl sz39 rfl rfl rfl rfl (res_tmp rfl res_nil)) (vw_cons (vd_agg (vc_cons vc_v (vc_cons vc_s vc_nil))) (vw_cons (vd_one vc_v) vw_nil)) oW rfl rfl))
 replace h := wT h
 refine pq (q_not rfl) ?_
 refine oE (eS (cF rfl (lK (eS (lS (lO ?_))))))
 refine pq (qm (iO n57)) ?_
 refine pq (qm (iO n1)) ?_
 obtain ⟨n60, h59, h⟩ := bindS h
 refine pq (qc (iO n60) [iO n1] (ring_Zero_r (m + 2) h59) (vw_cons (vd_one vc_v) vw_nil)) ?_
 by_cases c61 : n57 ≠ n60
 replace h := ifT c61 h
 refine pq (qb (p_neq_tZ c61)) ?_
 refine oE (eS (cT rfl (lO ?_)))
 refine pq (q_fieldP rfl fa39_1 rfl) ?_
 refine pq (ql (.one (moC l47 k48)) 2 sz25) ?_
 refine pq (q_fieldP rfl fa64_0 rfl) ?_
 refine pq (ql (iO n52) 0 sz3) ?_
 refine pq (qm (iO n57)) ?_
 refine pq (q_build (cs := [iI n52, iI n57]) ty71 rfl pl71 rfl) ?_
 refine ol_new rfl rfl rfl (q_bslice (cs := [iI n52, iI n57]) (es := (([(n52, n57)] : List (Int × Int))).map (rowC r70)) ty25 rfl ty71 rfl rfl rfl rfl rfl) (fun k62 => ?_)
 obtain ⟨_, h63, h⟩ := bindS h
 obtain ⟨h63b, rfl⟩ := app_some h63
 refine ol_appM (r := r70) (l := l47) (ys := ([(n52, n57)] : List (Int × Int))) 4 rfl rfl rfl rfl rfl rfl (el_ownM (l := ([(n52, n57)] : List (Int × Int))) 0 rfl) rfl h63 (fun y => rfl) el25 ty25 rfl rfl rfl rfl rfl (fun k64 => ?_)
 refine pq (q_fieldP rfl fa39_1 rfl) ?_
 refine ow [[iI n2, moC (l47 ++ ([(n52, n57)] : List (Int × Int))) k64]] 4 sz25 ?_
 refine oE (bN (eS (lO ?_)))
 refine pq (qb p_addY) ?_
 refine pq (qm (iO (IntKind.i64.wrap (n46 + 1)))) ?_
 refine oE ?_
 obtain rfl := sj h
 exact E_next k64 (ups_self ⟨rfl, rfl, rfl, rfl, rfl, rfl, trivial⟩) [3, 4, 0] (by decide) rfl
 replace h := ifF c61 h
 refine pq (qb (p_neq_fZ c61)) ?_
 refine oE (eS (cF rfl (lK (bN (eS (lO ?_))))))
 refine pq (qb p_addY) ?_
 refine pq (qm (iO (IntKind.i64.wrap (n46 + 1)))) ?_
 refine oE ?_
 obtain rfl := sj h
 exact E_next k48 (ups_self ⟨rfl, rfl, rfl, rfl, rfl, rfl, trivial⟩) [1, 2, 3] (by decide) rfl
 replace h := ifF c49 h
 refine pq (qb (p_lss_fZ c49)) ?_
 refine oE (eS (lS (cF rfl (L_exit ?_))))
 refine E_seqX ?_
 obtain rfl := sj h
 refine E_out ?_
 exact (E_exit k48 (ups_self ⟨rfl, rfl, trivial⟩) [0, 1, 2] (by decide) rfl)
 rintro (l65 | u) h
 refine J_x (fun k66 g => ?_)
 replace h := elimL h
 refine bH (eS (lS (lO ?_)))
 refine pq (ql (.agg [iI n2, moC l65 k66]) 1 sz39) ?_
 refine ow [[iI n2, moC l65 k66]] 0 sz39 ?_
 refine pq (qa (iO 0)) ?_
 refine oE (eS (lR ?_))
 obtain rfl := sj h
 exact E_endF (.inr rfl) (res_cell (d := .agg [iI n2, moC l65 k66]) 0 rfl sz39 rfl rfl rfl rfl (res_tmp rfl res_nil)) (vw_cons (vd_agg (vc_cons vc_v (vc_cons (vc_M (r := r70) 2 rfl (fun x h m => rfl)) vc_nil))) (vw_cons (vd_one vc_v) vw_nil)) oW rfl rfl
 obtain rfl := Option.some.inj (elimR h)
 exact J_up (fun s hs => hs)
noncomputable def pull_Times (n1 : Int) (a1 : Int × Int × Sl (Int) × Sl (Int) × Sl (Int)) (a2 : Int × Sl (Int) × Sl (Int)) (s10 : Sl (Int)) (b11 : Bool) : Option ((Int × (Sl (Int × Int))) × Int) :=
 match a1, a2 with
 | (n2, n3, s4, s5, s6), (n7, s8, s9) => ((pull_Sums n1 (n2, n3, s4, s5, s6) (n7, s8, s9) s10 b11).bind fun (s16, n17) => (if n17 ≠ 0 then some ((0, (⟨false, 0, []⟩ : Sl (Int × Int))), n17) else ((pull_sure (n2, n3, s4, s5, s6)).bind fun (n20, n21, s22, s23, s24) => ((pull_Done n1 n20 s16).bind fun ((n27, s28), n29) => some ((n27, s28), n29)))))
theorem pull_Times_r (m : Nat) {n1 : Int} {a1 : Int × Int × Sl (Int) × Sl (Int) × Sl (Int)} {a2 : Int × Sl (Int) × Sl (Int)} {s10 : Sl (Int)} {b11 : Bool} {out : (Int × (Sl (Int × Int))) × Int} (h : pull_Times n1 a1 a2 s10 b11 = some out) : RunsP E1 (m + 7) 14 [.one (iT .i64 n1), .agg (r32 a1), .agg (r35 a2), .one (Sl.t r60 s10), .one (bT b11)] (.fresh, [.agg (r38 out.1), .one (iT .i64 out.2)]) := by
 obtain ⟨n2, n3, s4, s5, s6⟩ := a1
 obtain ⟨n7, s8, s9⟩ := a2
 refine fn_F rfl (by rw [E1_fn]; exact show fiOf Tryd.prog 14 = _ by unfold fiOf; rw [Tryd.func14]; unfold Tryd.f14; rfl) rfl ?_
 dsimp only
 unfold pull_Times at h
 refine lS (lO ?_)
 refine ol_new rfl rfl rfl (q_box ty33 rfl (cs := [iI n2, iI n3, sF r3 s4, sF r3 s5, sF r2 s6]) rfl rfl) (fun k12 => ?_)
 refine ol_new rfl rfl rfl (q_box ty36 rfl (cs := [iI n7, sF r60 s8, sF r2 s9]) rfl rfl) (fun k13 => ?_)
 refine ol_new rfl rfl rfl (q_alloc ty39 (row := [iI 0, nC]) rfl rfl) (fun k14 => ?_)
 refine pq (qa (iO 0)) ?_
 refine oN ?_
 refine pq (qm (iO n1)) ?_
 refine pq (ql (.agg [iI n2, iI n3, sF r3 s4, sF r3 s5, sF r2 s6]) 2 sz33) ?_
 refine pq (ql (.agg [iI n7, sF r60 s8, sF r2 s9]) 1 sz36) ?_
 refine pq (qm (.one (sF r60 s10))) ?_
 refine pq (qm (bO b11)) ?_
 obtain ⟨⟨s16, n17⟩, h15, h⟩ := bindS h
 refine pq (qc (.tup [.one (sC r63 s16), iO n17]) [iO n1, .agg [iI n2, iI n3, sF r3 s4, sF r3 s5, sF r2 s6], .agg [iI n7, sF r60 s8, sF r2 s9], .one (sF r60 s10), bO b11] (pull_Sums_r (m + 0) h15) (vw_cons (vd_one vc_v) (vw_cons (vd_agg (vc_cons vc_v (vc_cons vc_v (vc_cons vc_s (vc_cons vc_s (vc_cons vc_s vc_nil)))))) (vw_cons (vd_agg (vc_cons vc_v (vc_cons vc_s (vc_cons vc_s vc_nil)))) (vw_cons (vd_one vc_s) (vw_cons (vd_one vc_v) vw_nil)))))) ?_
 refine pq (qm (.tup [.one (sC r63 s16), iO n17])) ?_
 refine pq (q_ext (v := .one (sC r63 s16)) rfl rfl) ?_
 refine pq (q_ext (v := iO n17) rfl rfl) ?_
 refine pq (qa (.one (sC r63 s16))) ?_
 refine pq (qa (iO n17)) ?_
 refine oE (eS (lS (lS (lO ?_))))
 refine pq (qm (iO n17)) ?_
 by_cases c18 : n17 ≠ 0
 replace h := ifT c18 h
 refine pq (qb (p_neq_tZ c18)) ?_
 refine oE (eS (cT rfl (lS (lO ?_))))
 refine pq (q_build (cs := [iI 0, nC]) ty39 rfl pl39 rfl) ?_
 refine pq (qm (iO n17)) ?_
 refine ow [[iI 0, nC]] 0 sz39 ?_
 refine pq (qa (iO n17)) ?_
 refine oE (eS (lR (eR ?_)))
 obtain rfl := sj h
 exact E_endF (.inr rfl) (res_cell (d := .agg [iI 0, nC]) 0 rfl sz39 rfl rfl rfl rfl (res_tmp rfl res_nil)) (vw_cons (vd_agg (vc_cons vc_v (vc_cons vc_s vc_nil))) (vw_cons (vd_one vc_v) vw_nil)) oW rfl rfl
 replace h := ifF c18 h
 refine pq (qb (p_neq_fZ c18)) ?_
 refine oE (eS (cF rfl (lK (eS (lS (lO ?_))))))
 refine pq (qm (iO n1)) ?_
 refine pq (ql (.agg [iI n2, iI n3, sF r3 s4, sF r3 s5, sF r2 s6]) 2 sz33) ?_
 obtain ⟨⟨n20, n21, s22, s23, s24⟩, h19, h⟩ := bindS h
 refine ol_putX rfl rfl rfl (q_callX (v := fun fr25 => .agg [iI n20, iI n21, .p fr25 (Sl.t r3 s22), .p fr25 (Sl.t r3 s23), .p fr25 (Sl.t r2 s24)]) (args := [.agg [iI n2, iI n3, sF r3 s4, sF r3 s5, sF r2 s6]]) (pull_sure_r (m + 3) h19) rfl rfl (vw_cons (vd_agg (vc_cons vc_v (vc_cons vc_v (vc_cons vc_s (vc_cons vc_s (vc_cons vc_s vc_nil)))))) vw_nil) rfl rfl (fun fr => rfl)) (fun fr25 => ?_)
 refine pq (q_fieldV (v := iO n20) rfl fa33_0 rfl rfl) ?_
 refine pq (qm (.one (sC r63 s16))) ?_
 obtain ⟨⟨⟨n27, s28⟩, n29⟩, h26, h⟩ := bindS h
 refine pq (qc (.tup [.agg [iI n27, sC r70 s28], iO n29]) [iO n1, iO n20, .one (sC r63 s16)] (pull_Done_r (m + 2) h26) (vw_cons (vd_one vc_v) (vw_cons (vd_one vc_v) (vw_cons (vd_one vc_s) vw_nil)))) ?_
 refine pq (q_ext (v := .agg [iI n27, sC r70 s28]) rfl rfl) ?_
 refine pq (q_ext (v := iO n29) rfl rfl) ?_
 refine ow [[iI n27, sC r70 s28]] 0 sz39 ?_
 refine pq (qa (iO n29)) ?_
 refine oE (eS (lR ?_))
 obtain rfl := sj h
 exact E_endF (.inr rfl) (res_cell (d := .agg [iI n27, sC r70 s28]) 0 rfl sz39 rfl rfl rfl rfl (res_tmp rfl res_nil)) (vw_cons (vd_agg (vc_cons vc_v (vc_cons vc_s vc_nil))) (vw_cons (vd_one vc_v) vw_nil)) oW rfl rfl
noncomputable def ref02_least (n1 : Int) : Option (Bool) :=
 (if n1 = 1 then some true else (if n1 = 3 then some true else (if n1 = 4 then some true else some false)))
theorem ref02_least_r (m : Nat) {n1 : Int} {out : Bool} (h : ref02_least n1 = some out) : RunsP E1 (m + 1) 57 [.one (iT .i64 n1)] (.fresh, [.one (bT out)]) := by
 refine fn_F rfl (by rw [E1_fn]; exact show fiOf Tryd.prog 57 = _ by unfold fiOf; rw [Tryd.func57]; unfold Tryd.f57; rfl) rfl ?_
 dsimp only
 unfold ref02_least at h
 refine lS (lO ?_)
 refine pq (qa bf) ?_
 refine oN ?_
 refine pq (qm (iO n1)) ?_
 by_cases c2 : n1 = 1
 replace h := ifT c2 h
 refine pq (qb (p_eql_tZ c2)) ?_
 refine pq (qm bt) ?_
 iterate 2 refine os ?_
 refine pq (qpt bt) ?_
 refine pq (qm bt) ?_
 iterate 2 refine os ?_
 refine pq (qpt bt) ?_
 refine pq (qa bt) ?_
 refine oE (eS (lR ?_))
 obtain rfl := sj h
 exact eF1
 replace h := ifF c2 h
 refine pq (qb (p_eql_fZ c2)) ?_
 refine pq (qm bf) ?_
 refine pq (qm (iO n1)) ?_
 by_cases c3 : n1 = 3
 replace h := ifT c3 h
 refine pq (qb (p_eql_tZ c3)) ?_
 refine pq (qpf bt) ?_
 refine pq (qm bt) ?_
 iterate 2 refine os ?_
 refine pq (qpt bt) ?_
 refine pq (qa bt) ?_
 refine oE (eS (lR ?_))
 obtain rfl := sj h
 exact eF1
 replace h := ifF c3 h
 refine pq (qb (p_eql_fZ c3)) ?_
 refine pq (qpf bf) ?_
 refine pq (qm bf) ?_
 refine pq (qm (iO n1)) ?_
 by_cases c4 : n1 = 4
 replace h := ifT c4 h
 refine pq (qb (p_eql_tZ c4)) ?_
 refine pq (qpf bt) ?_
 refine pq (qa bt) ?_
 refine oE (eS (lR ?_))
 obtain rfl := sj h
 exact eF1
 replace h := ifF c4 h
 refine pq (qb (p_eql_fZ c4)) ?_
 refine pq (qpf bf) ?_
 refine pq (qa bf) ?_
 refine oE (eS (lR ?_))
 obtain rfl := sj h
 exact eF1
noncomputable def ref02_Zero (n1 : Int) : Option (Int) :=
 ((ref02_least n1).bind fun b3 => (if b3 = true then some 4611686018427387904 else some 0))
theorem ref02_Zero_r (m : Nat) {n1 : Int} {out : Int} (h : ref02_Zero n1 = some out) : RunsP E1 (m + 2) 24 [.one (iT .i64 n1)] (.fresh, [.one (iT .i64 out)]) := by
 refine fn_F rfl (by rw [E1_fn]; exact show fiOf Tryd.prog 24 = _ by unfold fiOf; rw [Tryd.func24]; unfold Tryd.f24; rfl) rfl ?_
 dsimp only
 unfold ref02_Zero at h
 refine lS (lO ?_)
 refine pq (qa (iO 0)) ?_
 refine oE (eS (lS (lS (lO ?_))))
 refine pq (qm (iO n1)) ?_
 obtain ⟨b3, h2, h⟩ := bindS h
 refine pq (qc (bO b3) [iO n1] (ref02_least_r (m + 0) h2) (vw_cons (vd_one vc_v) vw_nil)) ?_
 refine oE (eS ?_)
 rcases b3 with _ | _
 replace h := wF h
 refine cF rfl (lK (eS (lS (lO ?_))))
 refine pq (qa (iO 0)) ?_
 refine oE (eS (lR ?_))
 obtain rfl := sj h
 exact eF1
 replace h := wT h
 refine cT rfl (lS (lO ?_))
 refine pq (qa (iO 4611686018427387904)) ?_
 refine oE (eS (lR (eR ?_)))
 obtain rfl := sj h
 exact eF1
noncomputable def ref07_SameItems_b1 (s1 : Sl (Int × Int)) (s2 : Sl (Int × Int)) (n25 : Int) : Option (Int ⊕ (Unit ⊕ Bool)) :=
 (if n25 < ((s1.l.length : Nat) : Int) then ((atS 2 s1 n25).bind fun (n29, n30) => ((atS 2 s2 n25).bind fun (n33, n34) => (if n29 = n33 ∧ n30 = n34 then some (.inl (IntKind.i64.wrap (n25 + 1))) else some (.inr (.inr false))))) else some (.inr (.inl ())))
noncomputable def ref07_SameItems (s1 : Sl (Int × Int)) (s2 : Sl (Int × Int)) : Option (Bool) :=
 (if ((s1.l.length : Nat) : Int) ≠ ((s2.l.length : Nat) : Int) then some false else ((loopO (ref07_SameItems_b1 s1 s2) 0).bind (Sum.elim (fun _ => some true) (fun u => some u))))
theorem ref07_SameItems_r (m : Nat) {s1 : Sl (Int × Int)} {s2 : Sl (Int × Int)} {out : Bool} (h : ref07_SameItems s1 s2 = some out) : RunsP E1 (m + 1) 53 [.one (Sl.t r70 s1), .one (Sl.t r70 s2)] (.fresh, [.one (bT out)]) := by
 refine fn_F rfl (by rw [E1_fn]; exact show fiOf Tryd.prog 53 = _ by unfold fiOf; rw [Tryd.func53]; unfold Tryd.f53; rfl) rfl ?_
 dsimp only
 unfold ref07_SameItems at h
 refine lS (lO ?_)
 refine pq (qa bf) ?_
 refine oE (eS (lS (lS (lO ?_))))
 refine pq (qm (.one (sF r70 s1))) ?_
 refine pq (q_lenS rfl ty25 rfl rfl rfl rfl) ?_
 refine pq (qm (.one (sF r70 s2))) ?_
 refine pq (q_lenS rfl ty25 rfl rfl rfl rfl) ?_
 by_cases c3 : ((s1.l.length : Nat) : Int) ≠ ((s2.l.length : Nat) : Int)
 replace h := ifT c3 h
 refine pq (qb (p_neq_tZ c3)) ?_
 refine oE (eS (cT rfl (lS (lO ?_))))
 refine pq (qa bf) ?_
 refine oE (eS (lR (eR ?_)))
 obtain rfl := sj h
 exact eF1
 replace h := ifF c3 h
 refine pq (qb (p_neq_fZ c3)) ?_
 refine oE (eS (cF rfl (lK (eS (lS (lS (lO ?_)))))))
 refine pq (qa (iO 0)) ?_
 refine oE (eS (lB ?_))
 let S1 : Int → Unit → (Nat → D) → Nat → D := fun a kt g => ups g [(0, .one (sF r70 s1)), (1, .one (sF r70 s2)), (5, iO a)]
 let SL1 : Int → Unit → BL := fun a kt => ([] : BL)
 let G1 : Bool → Ex → St → Prop := fun u => endQ E1 [.tmp 4] (.fresh, [.one (bT u)])
 let Sx1 : Unit → Unit → (Nat → D) → Nat → D := fun a kt g => ups g []
 let SLx1 : Unit → Unit → BL := fun a kt => ([] : BL)
 let J1 : (Unit ⊕ Bool) → Ex → St → Prop := JX 26 0 Sx1 SLx1 G1
 refine L_loopS (ref07_SameItems_b1 s1 s2) S1 SL1 J1 JX_n 0 h () (ups_self ⟨rfl, rfl, rfl, trivial⟩) [] (by decide) rfl ?_ ?_
 rintro n25 _ g out h
 change ref07_SameItems_b1 s1 s2 n25 = some out at h
 unfold ref07_SameItems_b1 at h
 refine lS (lS (lO ?_))
 refine pq (qm (iO n25)) ?_
 refine pq (qm (.one (sF r70 s1))) ?_
 refine pq (q_lenS rfl ty25 rfl rfl rfl rfl) ?_
 by_cases c26 : n25 < ((s1.l.length : Nat) : Int)
 replace h := ifT c26 h
 refine pq (qb (p_lss_tZ c26)) ?_
 refine oE (eS (cT rfl (lK (eS (lS (lB (lS ?_)))))))
 refine L_still (by kernel_rfl) ?_
 refine sq (qm (.one (sF r70 s1))) ?_
 refine sq (qm (iO n25)) ?_
 obtain ⟨⟨n29, n30⟩, h28, h⟩ := bindS h
 obtain ⟨h28a, h28b, h28⟩ := atS_some h28
 refine sq (q_ixS rfl rfl h28a h28 (el25.trans (congrArg some h28b.symm))) ?_
 refine sq (q_loadI (v := .agg [iI n29, iI n30]) rfl sz71 (map_get h28) rfl rfl) ?_
 refine sq (qm (.one (sF r70 s2))) ?_
 refine sq (qm (iO n25)) ?_
 obtain ⟨⟨n33, n34⟩, h32, h⟩ := bindS h
 obtain ⟨h32a, h32b, h32⟩ := atS_some h32
 refine sq (q_ixS rfl rfl h32a h32 (el25.trans (congrArg some h32b.symm))) ?_
 refine sq (q_loadI (v := .agg [iI n33, iI n34]) rfl sz71 (map_get h32) rfl rfl) ?_
 by_cases c35 : n29 = n33 ∧ n30 = n34
 replace h := ifT c35 h
 refine sq (q_binA rfl rfl (by rfl) (by rfl) (eqneqA71_t _ _ c35) rfl) ?_
 refine st_end (eS (cF rfl (lK (bN (eS (lO ?_))))))
 refine pq (qm (iO n25)) ?_
 refine pq (qb p_addY) ?_
 refine pq (qa (iO (IntKind.i64.wrap (n25 + 1)))) ?_
 refine oE ?_
 obtain rfl := sj h
 exact E_next () (ups_self ⟨rfl, rfl, rfl, trivial⟩) [] (by decide) rfl
 replace h := ifF c35 h
 refine sq (q_binA rfl rfl (by rfl) (by rfl) (eqneqA71_f _ _ c35) rfl) ?_
 refine st_end (eS (cT rfl (lS (lO ?_))))
 refine pq (qa bf) ?_
 refine oE (eS (lR (bR (eR ?_))))
 obtain rfl := sj h
 exact E_out (E_up (eF1))
 replace h := ifF c26 h
 refine pq (qb (p_lss_fZ c26)) ?_
 refine oE (eS (cF rfl (L_exit ?_)))
 refine E_seqX ?_
 obtain rfl := sj h
 refine E_out ?_
 exact (E_exit () (ups_self trivial) [] (by decide) rfl)
 rintro (_ | u) h
 refine J_x (fun kt g => ?_)
 replace h := elimL h
 refine bH (eS (lS (lO ?_)))
 refine pq (qa bt) ?_
 refine oE (eS (lR ?_))
 obtain rfl := sj h
 exact eF1
 obtain rfl := Option.some.inj (elimR h)
 exact J_up (fun s hs => hs)
noncomputable def ref09_Same (a0 : Int × (Sl (Int × Int))) (a1 : Int × (Sl (Int × Int))) : Option (Bool) :=
 match a0, a1 with
 | (n1, s2), (n3, s4) => (if n1 = n3 then ((ref07_SameItems s2 s4).bind fun b9 => some b9) else some false)
theorem ref09_Same_r (m : Nat) {a0 : Int × (Sl (Int × Int))} {a1 : Int × (Sl (Int × Int))} {out : Bool} (h : ref09_Same a0 a1 = some out) : RunsP E1 (m + 2) 20 [.agg (r38 a0), .agg (r38 a1)] (.fresh, [.one (bT out)]) := by
 obtain ⟨n1, s2⟩ := a0
 obtain ⟨n3, s4⟩ := a1
 refine fn_F rfl (by rw [E1_fn]; exact show fiOf Tryd.prog 20 = _ by unfold fiOf; rw [Tryd.func20]; unfold Tryd.f20; rfl) rfl ?_
 dsimp only
 unfold ref09_Same at h
 refine lS (lO ?_)
 refine ol_new rfl rfl rfl (q_box ty39 rfl (cs := [iI n1, sF r70 s2]) rfl rfl) (fun k5 => ?_)
 refine ol_new rfl rfl rfl (q_box ty39 rfl (cs := [iI n3, sF r70 s4]) rfl rfl) (fun k6 => ?_)
 refine pq (qa bf) ?_
 refine oN ?_
 refine pq (q_fieldP rfl fa39_0 rfl) ?_
 refine pq (ql (iO n1) 1 sz3) ?_
 refine pq (q_fieldP rfl fa39_0 rfl) ?_
 refine pq (ql (iO n3) 0 sz3) ?_
 by_cases c7 : n1 = n3
 replace h := ifT c7 h
 refine pq (qb (p_eql_tZ c7)) ?_
 refine pq (qm bt) ?_
 refine pq (q_fieldP rfl fa39_1 rfl) ?_
 refine pq (ql (.one (sF r70 s2)) 1 sz25) ?_
 refine pq (q_fieldP rfl fa39_1 rfl) ?_
 refine pq (ql (.one (sF r70 s4)) 0 sz25) ?_
 obtain ⟨b9, h8, h⟩ := bindS h
 refine pq (qc (bO b9) [.one (sF r70 s2), .one (sF r70 s4)] (ref07_SameItems_r (m + 0) h8) (vw_cons (vd_one vc_s) (vw_cons (vd_one vc_s) vw_nil))) ?_
 refine pq (qpt (bO b9)) ?_
 refine pq (qa (bO b9)) ?_
 refine oE (eS (lR ?_))
 obtain rfl := sj h
 exact eF1
 replace h := ifF c7 h
 refine pq (qb (p_eql_fZ c7)) ?_
 refine pq (qm bf) ?_
 iterate 5 refine os ?_
 refine pq (qpf bf) ?_
 refine pq (qa bf) ?_
 refine oE (eS (lR ?_))
 obtain rfl := sj h
 exact eF1
end Ev
end Go.Proofs.YtlcfdmjkbaegpaaDoor
