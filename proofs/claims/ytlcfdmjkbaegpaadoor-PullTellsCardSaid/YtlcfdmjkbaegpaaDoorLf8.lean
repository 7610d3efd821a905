/- Functions of the program as functions on data, and that they are. -/
import Derived.Test.YtlcfdmjkbaegpaaDoorEvZ
import Derived.Test.YtlcfdmjkbaegpaaDoorLf1
import Derived.Test.YtlcfdmjkbaegpaaDoorLf3
import Derived.Test.YtlcfdmjkbaegpaaDoorLf5
import Derived.Test.YtlcfdmjkbaegpaaDoorLf6
import Derived.Test.YtlcfdmjkbaegpaaDoorLf7
import Derived.Test.YtlcfdmjkbaegpaaDoorLy1
namespace Go.Proofs.YtlcfdmjkbaegpaaDoor
namespace Ev
open Go
set_option linter.unusedVariables false
set_option linter.unusedSimpArgs false
set_option maxRecDepth 100000
set_option maxHeartbeats 1000000
attribute [local irreducible] OpsL StL TnL WpL EndL
noncomputable def law13_Task_Rows (a0 : Int × (Int × Int) × (Sl (Int × Int × Int)) × (Sl (Int × Int)) × (Sl (Int × Int)) × Sl (Int) × Bool) : Option (Sl (Int)) :=
 match a0 with
 | (n1, (n2, n3), s4, s5, s6, s7, b8) => (if ((s7.l.length : Nat) : Int) > 2 then ((cutS 1 s7 0 2).bind fun s11 => some s11) else some s7)
theorem law13_Task_Rows_r (m : Nat) {a0 : Int × (Int × Int) × (Sl (Int × Int × Int)) × (Sl (Int × Int)) × (Sl (Int × Int)) × Sl (Int) × Bool} {out : Sl (Int)} (h : law13_Task_Rows a0 = some out) : RunsX E1 (m + 1) 11 [.agg (r27 a0)] [.one (Sl.t r60 out)] := by
 obtain ⟨n1, ⟨n2, n3⟩, s4, s5, s6, s7, b8⟩ := a0
 refine fn_X rfl (by rw [E1_fn]; exact show fiOf Tryd.prog 11 = _ by unfold fiOf; rw [Tryd.func11]; unfold Tryd.f11; rfl) rfl ?_
 dsimp only
 unfold law13_Task_Rows at h
 refine lS (lO ?_)
 refine ol_new rfl rfl rfl (q_box ty28 rfl (cs := [iI n1, iC .u8 n2, iC .u8 n3, sF r92 s4, sF r70 s5, sF r70 s6, sF r60 s7, bC b8]) rfl rfl) (fun k9 => ?_)
 refine pq (qa (.one nC)) ?_
 refine oE (eS (lS (lS (lO ?_))))
 refine pq (q_fieldP rfl fa28_5 rfl) ?_
 refine pq (ql (.one (sF r60 s7)) 0 sz26) ?_
 refine pq (q_lenS rfl ty26 rfl rfl rfl rfl) ?_
 by_cases c10 : ((s7.l.length : Nat) : Int) > 2
 replace h := ifT c10 h
 refine pq (qb (p_gtr_tZ c10)) ?_
 refine oE (eS (cT rfl (lS (lO ?_))))
 refine pq (q_fieldP rfl fa28_5 rfl) ?_
 refine pq (ql (.one (sF r60 s7)) 0 sz26) ?_
 obtain ⟨s11, h12, h⟩ := bindS h
 refine pq (q_sliceS (r := r60) h12 rfl ty26 rfl ty60 no_zero (no_some rfl (Int.le_trans (cutS_some h12).1.1 (cutS_some h12).1.2.1) _)) ?_
 refine pq (qa (.one (sF r60 s11))) ?_
 refine oE (eS (lR (eR ?_)))
 obtain rfl := sj h
 exact E_endX (.inr rfl) (res_tmp rfl res_nil) (vw_cons (vd_one vc_s) vw_nil) oP rfl
 replace h := ifF c10 h
 refine pq (qb (p_gtr_fZ c10)) ?_
 refine oE (eS (cF rfl (lK (eS (lS (lO ?_))))))
 refine pq (q_fieldP rfl fa28_5 rfl) ?_
 refine pq (ql (.one (sF r60 s7)) 0 sz26) ?_
 refine pq (qa (.one (sF r60 s7))) ?_
 refine oE (eS (lR ?_))
 obtain rfl := sj h
 exact E_endX (.inr rfl) (res_tmp rfl res_nil) (vw_cons (vd_one vc_s) vw_nil) oP rfl
noncomputable def ref13_Done_b3 (n1 : Int) (s3 : Sl (Int × (Int × Int))) (a : Int × (List (Int × Int))) : Option ((Int × (List (Int × Int))) ⊕ ((List (Int × Int)) ⊕ ((Int × (Sl (Int × Int))) × Int))) :=
 match a with
 | (n110, l111) => (if n110 < ((s3.l.length : Nat) : Int) then ((atS 3 s3 n110).bind fun (n116, (n117, n118)) => ((ref01_Narrow (n117, n118)).bind fun (n120, b121) => (if b121 = true then ((ref02_Zero n1).bind fun n123 => (if n120 ≠ n123 then ((app l111 ([(n116, n120)] : List (Int × Int))).bind fun _ => some (.inl ((IntKind.i64.wrap (n110 + 1)), (l111 ++ ([(n116, n120)] : List (Int × Int)))))) else some (.inl ((IntKind.i64.wrap (n110 + 1)), l111)))) else some (.inr (.inr ((0, (⟨false, 0, []⟩ : Sl (Int × Int))), 12)))))) else some (.inr (.inl l111)))
noncomputable def ref13_Done_b2 (s3 : Sl (Int × (Int × Int))) (n60 : Int) : Option (Int ⊕ (Unit ⊕ ((Int × (Sl (Int × Int))) × Int))) :=
 (if n60 < ((s3.l.length : Nat) : Int) then ((atS 3 s3 n60).bind fun (n64, (n65, n66)) => ((atS 3 s3 (IntKind.i64.wrap (n60 - 1))).bind fun (n69, (n70, n71)) => (if n64 ≤ n69 then some (.inr (.inr ((0, (⟨false, 0, []⟩ : Sl (Int × Int))), 6))) else some (.inl (IntKind.i64.wrap (n60 + 1)))))) else some (.inr (.inl ())))
noncomputable def ref13_Done_b1 (n2 : Int) (s3 : Sl (Int × (Int × Int))) (n26 : Int) : Option (Int ⊕ (Unit ⊕ ((Int × (Sl (Int × Int))) × Int))) :=
 (if n26 < ((s3.l.length : Nat) : Int) then ((atS 3 s3 n26).bind fun (n30, (n31, n32)) => (if n30 < 0 then some (.inr (.inr ((0, (⟨false, 0, []⟩ : Sl (Int × Int))), 3))) else (if n30 ≥ n2 then some (.inr (.inr ((0, (⟨false, 0, []⟩ : Sl (Int × Int))), 3))) else some (.inl (IntKind.i64.wrap (n26 + 1)))))) else some (.inr (.inl ())))
noncomputable def ref13_Done (n1 : Int) (n2 : Int) (s3 : Sl (Int × (Int × Int))) : Option ((Int × (Sl (Int × Int))) × Int) :=
 ((ref02_Is n1).bind fun b6 => (if b6 = true then (if n2 < 0 then some ((0, (⟨false, 0, []⟩ : Sl (Int × Int))), 3) else (if n2 > 4096 then some ((0, (⟨false, 0, []⟩ : Sl (Int × Int))), 3) else ((loopO (ref13_Done_b1 n2 s3) 0).bind (Sum.elim (fun _ => ((loopO (ref13_Done_b2 s3) 1).bind (Sum.elim (fun _ => ((loopO (ref13_Done_b3 n1 s3) (0, ([] : List (Int × Int)))).bind (Sum.elim (fun l128 => some ((n2, (mo 2 l128)), 0)) (fun u => some u)))) (fun u => some u)))) (fun u => some u))))) else some ((0, (⟨false, 0, []⟩ : Sl (Int × Int))), 8)))
theorem ref13_Done_r (m : Nat) {n1 : Int} {n2 : Int} {s3 : Sl (Int × (Int × Int))} {out : (Int × (Sl (Int × Int))) × Int} (h : ref13_Done n1 n2 s3 = some out) : RunsP E1 (m + 3) 17 [.one (iT .i64 n1), .one (iT .i64 n2), .one (Sl.t r63 s3)] (.fresh, [.agg (r38 out.1), .one (iT .i64 out.2)]) := by
 refine fn_F rfl (by rw [E1_fn]; exact show fiOf Tryd.prog 17 = _ by unfold fiOf; rw [Tryd.func17]; unfold Tryd.f17; rfl) rfl ?_
 dsimp only
 unfold ref13_Done at h
 refine lS (lO ?_)
 refine ol_new rfl rfl rfl (q_alloc ty39 (row := [iI 0, nC]) rfl rfl) (fun k4 => ?_)
 refine pq (qa (iO 0)) ?_
 refine oE (eS (lS (lS (lO ?_))))
 refine pq (qm (iO n1)) ?_
 obtain ⟨b6, h5, h⟩ := bindS h
 refine pq (qc (bO b6) [iO n1] (ref02_Is_r (m + 1) h5) (vw_cons (vd_one vc_v) vw_nil)) ?_
 rcases b6 with _ | _
 replace h := wF h
 refine pq (q_not rfl) ?_
 refine oE (eS (cT rfl (lS (lO ?_))))
 refine pq (q_build (cs := [iI 0, nC]) ty39 rfl pl39 rfl) ?_
 refine ow [[iI 0, nC]] 0 sz39 ?_
 refine pq (qa (iO 8)) ?_
 refine oE (eS (lR (eR ?_)))
 obtain rfl := sj h
 exact E_endF (.inr rfl) (res_cell (d := .agg [iI 0, nC]) 0 rfl sz39 rfl rfl rfl rfl (res_tmp rfl res_nil)) (vw_cons (vd_agg (vc_cons vc_v (vc_cons vc_s vc_nil))) (vw_cons (vd_one vc_v) vw_nil)) oW rfl rfl
 replace h := wT h
 refine pq (q_not rfl) ?_
 refine oE (eS (cF rfl (lK (eS (lS (lS (lO ?_)))))))
 refine pq (qm (iO n2)) ?_
 by_cases c7 : n2 < 0
 replace h := ifT c7 h
 refine pq (qb (p_lss_tZ c7)) ?_
 refine pq (qm bt) ?_
 iterate 2 refine os ?_
 refine pq (qpt bt) ?_
 refine oE (eS (cT rfl (lS (lO ?_))))
 refine pq (q_build (cs := [iI 0, nC]) ty39 rfl pl39 rfl) ?_
 refine ow [[iI 0, nC]] 0 sz39 ?_
 refine pq (qa (iO 3)) ?_
 refine oE (eS (lR (eR ?_)))
 obtain rfl := sj h
 exact E_endF (.inr rfl) (res_cell (d := .agg [iI 0, nC]) 0 rfl sz39 rfl rfl rfl rfl (res_tmp rfl res_nil)) (vw_cons (vd_agg (vc_cons vc_v (vc_cons vc_s vc_nil))) (vw_cons (vd_one vc_v) vw_nil)) oW rfl rfl
 replace h := ifF c7 h
 refine pq (qb (p_lss_fZ c7)) ?_
 refine pq (qm bf) ?_
 refine pq (qm (iO n2)) ?_
 by_cases c8 : n2 > 4096
 replace h := ifT c8 h
 refine pq (qb (p_gtr_tZ c8)) ?_
 refine pq (qpf bt) ?_
 refine oE (eS (cT rfl (lS (lO ?_))))
 refine pq (q_build (cs := [iI 0, nC]) ty39 rfl pl39 rfl) ?_
 refine ow [[iI 0, nC]] 0 sz39 ?_
 refine pq (qa (iO 3)) ?_
 refine oE (eS (lR (eR ?_)))
 obtain rfl := sj h
 exact E_endF (.inr rfl) (res_cell (d := .agg [iI 0, nC]) 0 rfl sz39 rfl rfl rfl rfl (res_tmp rfl res_nil)) (vw_cons (vd_agg (vc_cons vc_v (vc_cons vc_s vc_nil))) (vw_cons (vd_one vc_v) vw_nil)) oW rfl rfl
 replace h := ifF c8 h
 refine pq (qb (p_gtr_fZ c8)) ?_
 refine pq (qpf bf) ?_
 refine oE (eS (cF rfl (lK (eS (lS (lS (lO ?_)))))))
 refine pq (qa (iO 0)) ?_
 refine oE (eS (lB ?_))
 let S1 : Int → Unit → (Nat → D) → Nat → D := fun a kt g => ups g [(0, iO n1), (1, iO n2), (2, .one (sF r63 s3)), (6, .one (.ptr k4 0 0)), (8, iO a)]
 let SL1 : Int → Unit → BL := fun a kt => ([[(k4, 2, [[iI 0, nC]])]] : BL)
 let G1 : ((Int × (Sl (Int × Int))) × Int) → Ex → St → Prop := fun u => endQ E1 [.cell 6 39, .tmp 7] (.fresh, [.agg (r38 u.1), .one (iT .i64 u.2)])
 let Sx1 : Unit → Unit → (Nat → D) → Nat → D := fun a kt g => ups g [(0, iO n1), (1, iO n2), (2, .one (sF r63 s3)), (6, .one (.ptr k4 0 0))]
 let SLx1 : Unit → Unit → BL := fun a kt => ([[(k4, 2, [[iI 0, nC]])]] : BL)
 let J1 : (Unit ⊕ ((Int × (Sl (Int × Int))) × Int)) → Ex → St → Prop := JX 103 0 Sx1 SLx1 G1
 refine L_loopS (ref13_Done_b1 n2 s3) S1 SL1 J1 JX_n 0 h () (ups_self ⟨rfl, rfl, rfl, rfl, rfl, trivial⟩) [0] (by decide) rfl ?_ ?_
 rintro n26 _ g out h
 change ref13_Done_b1 n2 s3 n26 = some out at h
 unfold ref13_Done_b1 at h
 refine lS (lS (lO ?_))
 refine pq (qm (iO n26)) ?_
 refine pq (qm (.one (sF r63 s3))) ?_
 refine pq (q_lenS rfl ty29 rfl rfl rfl rfl) ?_
 by_cases c27 : n26 < ((s3.l.length : Nat) : Int)
 replace h := ifT c27 h
 refine pq (qb (p_lss_tZ c27)) ?_
 refine oE (eS (cT rfl (lK (eS (lS (lB (lS (lO ?_))))))))
 refine pq (qm (.one (sF r63 s3))) ?_
 refine pq (qm (iO n26)) ?_
 obtain ⟨⟨n30, ⟨n31, n32⟩⟩, h29, h⟩ := bindS h
 obtain ⟨h29a, h29b, h29⟩ := atS_some h29
 refine pq (q_ixS rfl rfl h29a h29 (el29.trans (congrArg some h29b.symm))) ?_
 refine pq (q_fieldI rfl fa64_0 rfl) ?_
 refine pq (q_loadI (v := iO n30) rfl sz3 (map_get h29) rfl rfl) ?_
 by_cases c33 : n30 < 0
 replace h := ifT c33 h
 refine pq (qb (p_lss_tZ c33)) ?_
 refine pq (qm bt) ?_
 iterate 7 refine os ?_
 refine pq (qpt bt) ?_
 refine oE (eS (cT rfl (lS (lO ?_))))
 refine pq (q_build (cs := [iI 0, nC]) ty39 rfl pl39 rfl) ?_
 refine ow [[iI 0, nC]] 0 sz39 ?_
 refine pq (qa (iO 3)) ?_
 refine oE (eS (lR (bR (eR ?_))))
 obtain rfl := sj h
 exact E_out (E_up (E_endF (.inr rfl) (res_cell (d := .agg [iI 0, nC]) 0 rfl sz39 rfl rfl rfl rfl (res_tmp rfl res_nil)) (vw_cons (vd_agg (vc_cons vc_v (vc_cons vc_s vc_nil))) (vw_cons (vd_one vc_v) vw_nil)) oW rfl rfl))
 replace h := ifF c33 h
 refine pq (qb (p_lss_fZ c33)) ?_
 refine pq (qm bf) ?_
 refine pq (qm (.one (sF r63 s3))) ?_
 refine pq (qm (iO n26)) ?_
 refine pq (q_ixS rfl rfl h29a h29 (el29.trans (congrArg some h29b.symm))) ?_
 refine pq (q_fieldI rfl fa64_0 rfl) ?_
 refine pq (q_loadI (v := iO n30) rfl sz3 (map_get h29) rfl rfl) ?_
 refine pq (qm (iO n2)) ?_
 by_cases c34 : n30 ≥ n2
 replace h := ifT c34 h
 refine pq (qb (p_geq_tZ c34)) ?_
 refine pq (qpf bt) ?_
 refine oE (eS (cT rfl (lS (lO ?_))))
 refine pq (q_build (cs := [iI 0, nC]) ty39 rfl pl39 rfl) ?_
 refine ow [[iI 0, nC]] 0 sz39 ?_
 refine pq (qa (iO 3)) ?_
 refine oE (eS (lR (bR (eR ?_))))
 obtain rfl := sj h
 exact E_out (E_up (E_endF (.inr rfl) (res_cell (d := .agg [iI 0, nC]) 0 rfl sz39 rfl rfl rfl rfl (res_tmp rfl res_nil)) (vw_cons (vd_agg (vc_cons vc_v (vc_cons vc_s vc_nil))) (vw_cons (vd_one vc_v) vw_nil)) oW rfl rfl))
 replace h := ifF c34 h
 refine pq (qb (p_geq_fZ c34)) ?_
 refine pq (qpf bf) ?_
 refine oE (eS (cF rfl (lK (bN (eS (lO ?_))))))
 refine pq (qm (iO n26)) ?_
 refine pq (qb p_addY) ?_
 refine pq (qa (iO (IntKind.i64.wrap (n26 + 1)))) ?_
 refine oE ?_
 obtain rfl := sj h
 exact E_next () (ups_self ⟨rfl, rfl, rfl, rfl, rfl, trivial⟩) [0] (by decide) rfl
 replace h := ifF c27 h
 refine pq (qb (p_lss_fZ c27)) ?_
 refine oE (eS (cF rfl (L_exit ?_)))
 refine E_seqX ?_
 obtain rfl := sj h
 refine E_out ?_
 exact (E_exit () (ups_self ⟨rfl, rfl, rfl, rfl, trivial⟩) [0] (by decide) rfl)
 rintro (_ | u) h
 refine J_x (fun kt g => ?_)
 replace h := elimL h
 refine bH (eS (lS (lS (lO ?_))))
 refine pq (qa (iO 1)) ?_
 refine oE (eS (lB ?_))
 let S2 : Int → Unit → (Nat → D) → Nat → D := fun a kt g => ups g [(0, iO n1), (1, iO n2), (2, .one (sF r63 s3)), (6, .one (.ptr k4 0 0)), (9, iO a)]
 let SL2 : Int → Unit → BL := fun a kt => ([[(k4, 2, [[iI 0, nC]])]] : BL)
 let G2 : ((Int × (Sl (Int × Int))) × Int) → Ex → St → Prop := fun u => endQ E1 [.cell 6 39, .tmp 7] (.fresh, [.agg (r38 u.1), .one (iT .i64 u.2)])
 let Sx2 : Unit → Unit → (Nat → D) → Nat → D := fun a kt g => ups g [(0, iO n1), (1, iO n2), (2, .one (sF r63 s3)), (6, .one (.ptr k4 0 0))]
 let SLx2 : Unit → Unit → BL := fun a kt => ([[(k4, 2, [[iI 0, nC]])]] : BL)
 let J2 : (Unit ⊕ ((Int × (Sl (Int × Int))) × Int)) → Ex → St → Prop := JX 103 2 Sx2 SLx2 G2
 refine L_loopS (ref13_Done_b2 s3) S2 SL2 J2 JX_n 1 h () (ups_self ⟨rfl, rfl, rfl, rfl, rfl, trivial⟩) [0] (by decide) rfl ?_ ?_
 rintro n60 _ g out h
 change ref13_Done_b2 s3 n60 = some out at h
 unfold ref13_Done_b2 at h
 refine lS (lS (lO ?_))
 refine pq (qm (iO n60)) ?_
 refine pq (qm (.one (sF r63 s3))) ?_
 refine pq (q_lenS rfl ty29 rfl rfl rfl rfl) ?_
 by_cases c61 : n60 < ((s3.l.length : Nat) : Int)
 replace h := ifT c61 h
 refine pq (qb (p_lss_tZ c61)) ?_
 refine oE (eS (cT rfl (lK (eS (lS (lB (lS ?_)))))))
 refine L_still (by kernel_rfl) ?_
 refine sq (qm (.one (sF r63 s3))) ?_
 refine sq (qm (iO n60)) ?_
 obtain ⟨⟨n64, ⟨n65, n66⟩⟩, h63, h⟩ := bindS h
 obtain ⟨h63a, h63b, h63⟩ := atS_some h63
 refine sq (q_ixS rfl rfl h63a h63 (el29.trans (congrArg some h63b.symm))) ?_
 refine sq (q_fieldI rfl fa64_0 rfl) ?_
 refine sq (q_loadI (v := iO n64) rfl sz3 (map_get h63) rfl rfl) ?_
 refine sq (qm (.one (sF r63 s3))) ?_
 refine sq (qm (iO n60)) ?_
 refine sq (qb p_subY) ?_
 obtain ⟨⟨n69, ⟨n70, n71⟩⟩, h68, h⟩ := bindS h
 obtain ⟨h68a, h68b, h68⟩ := atS_some h68
 refine sq (q_ixS rfl rfl h68a h68 (el29.trans (congrArg some h68b.symm))) ?_
 refine sq (q_fieldI rfl fa64_0 rfl) ?_
 refine sq (q_loadI (v := iO n69) rfl sz3 (map_get h68) rfl rfl) ?_
 by_cases c72 : n64 ≤ n69
 replace h := ifT c72 h
 refine sq (qb (p_leq_tZ c72)) ?_
 refine st_end (eS (cT rfl (lS (lO ?_))))
 refine pq (q_build (cs := [iI 0, nC]) ty39 rfl pl39 rfl) ?_
 refine ow [[iI 0, nC]] 0 sz39 ?_
 refine pq (qa (iO 6)) ?_
 refine oE (eS (lR (bR (eR ?_))))
 obtain rfl := sj h
 exact E_out (E_up (E_endF (.inr rfl) (res_cell (d := .agg [iI 0, nC]) 0 rfl sz39 rfl rfl rfl rfl (res_tmp rfl res_nil)) (vw_cons (vd_agg (vc_cons vc_v (vc_cons vc_s vc_nil))) (vw_cons (vd_one vc_v) vw_nil)) oW rfl rfl))
 replace h := ifF c72 h
 refine sq (qb (p_leq_fZ c72)) ?_
 refine st_end (eS (cF rfl (lK (bN (eS (lO ?_))))))
 refine pq (qm (iO n60)) ?_
 refine pq (qb p_addY) ?_
 refine pq (qa (iO (IntKind.i64.wrap (n60 + 1)))) ?_
 refine oE ?_
 obtain rfl := sj h
 exact E_next () (ups_self ⟨rfl, rfl, rfl, rfl, rfl, trivial⟩) [0] (by decide) rfl
 replace h := ifF c61 h
 refine pq (qb (p_lss_fZ c61)) ?_
 refine oE (eS (cF rfl (L_exit ?_)))
 refine E_seqX ?_
 obtain rfl := sj h
 refine E_out ?_
 exact (E_exit () (ups_self ⟨rfl, rfl, rfl, rfl, trivial⟩) [0] (by decide) rfl)
 rintro (_ | u) h
 refine J_x (fun kt g => ?_)
 replace h := elimL h
 refine bH (eS (lS (lO ?_)))
 refine pq (qm (iO n2)) ?_
 refine pq (q_build (cs := [iI n2, nC]) ty39 rfl pl39 rfl) ?_
 refine ol_new rfl rfl rfl (q_alloc ty39 (row := [iI 0, nC]) rfl rfl) (fun k73 => ?_)
 refine ow [[iI n2, nC]] 0 sz39 ?_
 refine oE (eS (lS (lS (lO ?_))))
 refine pq (qa (iO 0)) ?_
 refine oE (eS (lB ?_))
 refine L_addM (α := Int × Int) r70 2 ?_
 let S3 : (Int × (List (Int × Int))) → Nat → (Nat → D) → Nat → D := fun a kt g => ups g [(0, iO n1), (2, .one (sF r63 s3)), (6, .one (.ptr k4 0 0)), (10, .one (.ptr k73 0 0)), (11, .one (iI a.1))]
 let SL3 : (Int × (List (Int × Int))) → Nat → BL := fun a kt => ([[(k4, 2, [[iI 0, nC]])], [(k73, 2, [[iI n2, moC a.2 kt]])], moL r70 2 a.2 kt] : BL)
 let G3 : ((Int × (Sl (Int × Int))) × Int) → Ex → St → Prop := fun u => endQ E1 [.cell 6 39, .tmp 7] (.fresh, [.agg (r38 u.1), .one (iT .i64 u.2)])
 let Sx3 : (List (Int × Int)) → Nat → (Nat → D) → Nat → D := fun a kt g => ups g [(6, .one (.ptr k4 0 0)), (10, .one (.ptr k73 0 0))]
 let SLx3 : (List (Int × Int)) → Nat → BL := fun a kt => ([[(k4, 2, [[iI 0, nC]])], [(k73, 2, [[iI n2, moC a kt]])], moL r70 2 a kt] : BL)
 let J3 : ((List (Int × Int)) ⊕ ((Int × (Sl (Int × Int))) × Int)) → Ex → St → Prop := JX 103 4 Sx3 SLx3 G3
 refine L_loopS (ref13_Done_b3 n1 s3) S3 SL3 J3 JX_n (0, ([] : List (Int × Int))) h 1108 (ups_self ⟨rfl, rfl, rfl, rfl, rfl, trivial⟩) [2, 1, 0] (by decide) rfl ?_ ?_
 rintro ⟨n110, l111⟩ k112 g out h
 change ref13_Done_b3 n1 s3 (n110, l111) = some out at h
 unfold ref13_Done_b3 at h
 refine lS (lS (lO ?_))
 refine pq (qm (iO n110)) ?_
 refine pq (qm (.one (sF r63 s3))) ?_
 refine pq (q_lenS rfl ty29 rfl rfl rfl rfl) ?_
 by_cases c113 : n110 < ((s3.l.length : Nat) : Int)
 replace h := ifT c113 h
 refine pq (qb (p_lss_tZ c113)) ?_
 refine oE (eS (cT rfl (lK (eS (lS (lB (lS (lO ?_))))))))
 refine pq (qm (.one (sF r63 s3))) ?_
 refine pq (qm (iO n110)) ?_
 obtain ⟨⟨n116, ⟨n117, n118⟩⟩, h115, h⟩ := bindS h
 obtain ⟨h115a, h115b, h115⟩ := atS_some h115
 refine pq (q_ixS rfl rfl h115a h115 (el29.trans (congrArg some h115b.symm))) ?_
 refine pq (q_fieldI rfl fa64_1 rfl) ?_
 refine pq (q_loadI (v := .agg [iI n117, uI n118]) rfl sz62 (map_get h115) rfl rfl) ?_
 obtain ⟨⟨n120, b121⟩, h119, h⟩ := bindS h
 refine pq (qc (.tup [iO n120, bO b121]) [.agg [iI n117, uI n118]] (ref01_Narrow_r (m + 1) h119) (vw_cons (vd_agg (vc_cons vc_v (vc_cons vc_v vc_nil))) vw_nil)) ?_
 refine pq (qm (.tup [iO n120, bO b121])) ?_
 refine pq (q_ext (v := iO n120) rfl rfl) ?_
 refine pq (q_ext (v := bO b121) rfl rfl) ?_
 refine pq (qa (iO n120)) ?_
 refine pq (qa (bO b121)) ?_
 refine oE (eS (lS (lS (lO ?_))))
 refine pq (qm (bO b121)) ?_
 rcases b121 with _ | _
 replace h := wF h
 refine pq (q_not rfl) ?_
 refine oE (eS (cT rfl (lS (lO ?_))))
 refine pq (q_build (cs := [iI 0, nC]) ty39 rfl pl39 rfl) ?_
 refine ow [[iI 0, nC]] 0 sz39 ?_
 refine pq (qa (iO 12)) ?_
 refine oE (eS (lR (eR (bR (eR ?_)))))
 obtain rfl := sj h
 exact E_out (E_up (E_endF (.inr rfl) (res_cell (d := .agg [iI 0, nC]) 0 rfl sz39 rfl rfl rfl rfl (res_tmp rfl res_nil)) (vw_cons (vd_agg (vc_cons vc_v (vc_cons vc_s vc_nil))) (vw_cons (vd_one vc_v) vw_nil)) oW rfl rfl))
 replace h := wT h
 refine pq (q_not rfl) ?_
 refine oE (eS (cF rfl (lK (eS (lS (lO ?_))))))
 refine pq (qm (iO n120)) ?_
 refine pq (qm (iO n1)) ?_
 obtain ⟨n123, h122, h⟩ := bindS h
 refine pq (qc (iO n123) [iO n1] (ref02_Zero_r (m + 0) h122) (vw_cons (vd_one vc_v) vw_nil)) ?_
 by_cases c124 : n120 ≠ n123
 replace h := ifT c124 h
 refine pq (qb (p_neq_tZ c124)) ?_
 refine oE (eS (cT rfl ?_))
 refine L_norm (L2 := ([[(k4, 2, [[iI 0, nC]])], [(k73, 2, [[iI n2, moC l111 k112]])], moL r70 2 l111 k112] : BL)) [0, 1, 2] (by decide) rfl ?_
 refine L_turn 13 rfl [[], [], [], [], [], [], [], [], [], [], moK l111 k112, [], [k73]] [(false, []), (false, []), (false, []), (false, []), (false, []), (false, []), (false, []), (false, []), (false, []), (true, []), (true, []), (false, []), (false, [])] [[2, 3, 4, 5, 6, 7, 8, 9], [2, 3, 4, 5, 6, 7, 8, 9], [0, 1, 3, 7], [0, 1, 2, 7], [0, 1, 7], [0, 1, 7], [0, 1, 7], [0, 1, 2, 3, 4, 5, 6], [0, 1], [0, 1], [], [], []] (by kernel_rfl) (by kernel_rfl) (by kernel_rfl) ?_ (fun bb125 hlt hnd => ?_)
 intro bb125 hlt hnd
 have e_k4 : k4 < bb125 := key_lt hlt 0 rfl
 have e_k73 : k73 < bb125 := key_lt hlt 1 rfl
 have e_k112 : l111 = [] ∨ k112 < bb125 := key_ltM (r := r70) (w := 2) hlt 2 rfl
 have f_k112 := moK_lt e_k112
 have d_k73_k4 : k73 ≠ k4 := key_ne hnd 1 0 rfl rfl rfl
 have d_k112_k4 : k4 ∉ moK l111 k112 := key_neM (r := r70) (w := 2) hnd 2 0 rfl rfl rfl
 have g_k112_k4 := moK_ne d_k112_k4
 have d_k112_k73 : k73 ∉ moK l111 k112 := key_neM (r := r70) (w := 2) hnd 2 1 rfl rfl rfl
 have g_k112_k73 := moK_ne d_k112_k73
 exact ⟨(by first | (simp [DJ]; done) | (simp [DJ]; omega) | (simp [DJ]; assumption) | (simp_all [DJ]; done) | (simp_all [DJ]; omega)), (by first | (simp [DJ]; done) | (simp [DJ]; omega) | (simp [DJ]; assumption) | (simp_all [DJ]; done) | (simp_all [DJ]; omega))⟩
 have e_k4 : k4 < bb125 := key_lt hlt 0 rfl
 have e_k73 : k73 < bb125 := key_lt hlt 1 rfl
 have e_k112 : l111 = [] ∨ k112 < bb125 := key_ltM (r := r70) (w := 2) hlt 2 rfl
 have f_k112 := moK_lt e_k112
 have d_k73_k4 : k73 ≠ k4 := key_ne hnd 1 0 rfl rfl rfl
 have d_k112_k4 : k4 ∉ moK l111 k112 := key_neM (r := r70) (w := 2) hnd 2 0 rfl rfl rfl
 have g_k112_k4 := moK_ne d_k112_k4
 have d_k112_k73 : k73 ∉ moK l111 k112 := key_neM (r := r70) (w := 2) hnd 2 1 rfl rfl rfl
 have g_k112_k73 := moK_ne d_k112_k73
 refine tq [] rfl hmn (q_fieldP rfl fa39_1 rfl) ?_
 refine tq [1] rfl (hmc (nin_cons (ne_new (key_lt hlt 1 rfl)) nin_nil) hmn) (ql (.one (moC l111 k112)) 0 sz25) ?_
 refine tq [] rfl (hm0 rfl) (qm (.one (sF r63 s3))) ?_
 refine tq [] rfl (hm0 rfl) (qm (iO n110)) ?_
 refine tq [] rfl (hm0 rfl) (q_ixS rfl rfl h115a h115 (el29.trans (congrArg some h115b.symm))) ?_
 refine tq [] rfl (hm0 rfl) (q_fieldI rfl fa64_0 rfl) ?_
 refine tq [] rfl (hm0 rfl) (q_loadI (v := iO n116) rfl sz3 (map_get h115) rfl rfl) ?_
 refine tq [] rfl (hm0 rfl) (qm (iO n120)) ?_
 refine tq [] rfl (hm0 rfl) (q_build (cs := [iI n116, iI n120]) ty71 rfl pl71 rfl) ?_
 refine tn_new rfl rfl rfl [] (by decide) rfl (hm0 rfl) rfl rfl (hkc (ne_new (key_lt hlt 0 rfl)) (hkc (ne_new (key_lt hlt 1 rfl)) (hkM (e_k112.imp id fun h => by omega) hkn))) (q_bslice (cs := [iI n116, iI n120]) (es := (([(n116, n120)] : List (Int × Int))).map (rowC r70)) ty25 rfl ty71 rfl rfl rfl rfl rfl) ?_
 obtain ⟨_, h127, h⟩ := bindS h
 obtain ⟨h127b, rfl⟩ := app_some h127
 refine tn_appM (r := r70) (l := l111) 0 3 rfl rfl rfl rfl [3, 0] (by decide) rfl (hm0 rfl) rfl rfl (hkc (ne_add rfl) (hkc (ne_new (key_lt hlt 0 rfl)) (hkc (ne_new (key_lt hlt 1 rfl)) (hkM (e_k112.imp id fun h => by omega) hkn)))) rfl rfl (el_ownM (l := ([(n116, n120)] : List (Int × Int))) 1 rfl) rfl rfl h127 (fun y => rfl) el25 ty25 rfl rfl rfl rfl rfl ?_
 refine tq [] rfl (hm0 rfl) (q_fieldP rfl fa39_1 rfl) ?_
 refine tn_wr rfl rfl [3] (by decide) rfl (hm0 rfl) rfl (q_store (es' := [[iI n2, moC (l111 ++ ([(n116, n120)] : List (Int × Int))) (bb125 + 10)]]) 0 rfl rfl rfl sz25 rfl rfl rfl rfl rfl) (q := 3) rfl rfl ?_
 refine tn_end (bN (eS (lO ?_)))
 refine pq (qm (iO n110)) ?_
 refine pq (qb p_addY) ?_
 refine pq (qa (iO (IntKind.i64.wrap (n110 + 1)))) ?_
 refine oE ?_
 obtain rfl := sj h
 exact E_next (bb125 + 10) (ups_self ⟨rfl, rfl, rfl, rfl, rfl, trivial⟩) [2, 3, 0] (by decide) rfl
 replace h := ifF c124 h
 refine pq (qb (p_neq_fZ c124)) ?_
 refine oE (eS (cF rfl (lK (bN (eS (lO ?_))))))
 refine pq (qm (iO n110)) ?_
 refine pq (qb p_addY) ?_
 refine pq (qa (iO (IntKind.i64.wrap (n110 + 1)))) ?_
 refine oE ?_
 obtain rfl := sj h
 exact E_next k112 (ups_self ⟨rfl, rfl, rfl, rfl, rfl, trivial⟩) [0, 1, 2] (by decide) rfl
 replace h := ifF c113 h
 refine pq (qb (p_lss_fZ c113)) ?_
 refine oE (eS (cF rfl (L_exit ?_)))
 refine E_seqX ?_
 obtain rfl := sj h
 refine E_out ?_
 exact (E_exit k112 (ups_self ⟨rfl, rfl, trivial⟩) [0, 1, 2] (by decide) rfl)
 rintro (l128 | u) h
 refine J_x (fun k129 g => ?_)
 replace h := elimL h
 refine bH (eS (lS (lO ?_)))
 refine pq (ql (.agg [iI n2, moC l128 k129]) 1 sz39) ?_
 refine ow [[iI n2, moC l128 k129]] 0 sz39 ?_
 refine pq (qa (iO 0)) ?_
 refine oE (eS (lR ?_))
 obtain rfl := sj h
 exact E_endF (.inr rfl) (res_cell (d := .agg [iI n2, moC l128 k129]) 0 rfl sz39 rfl rfl rfl rfl (res_tmp rfl res_nil)) (vw_cons (vd_agg (vc_cons vc_v (vc_cons (vc_M (r := r70) 2 rfl (fun x h m => rfl)) vc_nil))) (vw_cons (vd_one vc_v) vw_nil)) oW rfl rfl
 obtain rfl := Option.some.inj (elimR h)
 exact J_up (fun s hs => hs)
 obtain rfl := Option.some.inj (elimR h)
 exact J_up (fun s hs => hs)
 obtain rfl := Option.some.inj (elimR h)
 exact J_up (fun s hs => hs)
noncomputable def ref13_Times (n1 : Int) (a1 : Int × Int × Sl (Int) × Sl (Int) × Sl (Int)) (a2 : Int × Sl (Int) × Sl (Int)) (s10 : Sl (Int)) (b11 : Bool) : Option ((Int × (Sl (Int × Int))) × Int) :=
 match a1, a2 with
 | (n2, n3, s4, s5, s6), (n7, s8, s9) => ((ref13_Sums n1 (n2, n3, s4, s5, s6) (n7, s8, s9) s10 b11).bind fun (s16, n17) => (if n17 ≠ 0 then some ((0, (⟨false, 0, []⟩ : Sl (Int × Int))), n17) else ((ref07_Sure (n2, n3, s4, s5, s6)).bind fun (n20, n21, s22, s23, s24) => ((ref13_Done n1 n20 s16).bind fun ((n27, s28), n29) => some ((n27, s28), n29)))))
theorem ref13_Times_r (m : Nat) {n1 : Int} {a1 : Int × Int × Sl (Int) × Sl (Int) × Sl (Int)} {a2 : Int × Sl (Int) × Sl (Int)} {s10 : Sl (Int)} {b11 : Bool} {out : (Int × (Sl (Int × Int))) × Int} (h : ref13_Times n1 a1 a2 s10 b11 = some out) : RunsP E1 (m + 7) 15 [.one (iT .i64 n1), .agg (r32 a1), .agg (r35 a2), .one (Sl.t r60 s10), .one (bT b11)] (.fresh, [.agg (r38 out.1), .one (iT .i64 out.2)]) := by
 obtain ⟨n2, n3, s4, s5, s6⟩ := a1
 obtain ⟨n7, s8, s9⟩ := a2
 refine fn_F rfl (by rw [E1_fn]; exact show fiOf Tryd.prog 15 = _ by unfold fiOf; rw [Tryd.func15]; unfold Tryd.f15; rfl) rfl ?_
 dsimp only
 unfold ref13_Times at h
 refine lS (lO ?_)
 refine ol_new rfl rfl rfl (q_box ty33 rfl (cs := [iI n2, iI n3, sF r3 s4, sF r3 s5, sF r2 s6]) rfl rfl) (fun k12 => ?_)
 refine ol_new rfl rfl rfl (q_box ty36 rfl (cs := [iI n7, sF r60 s8, sF r2 s9]) rfl rfl) (fun k13 => ?_)
 refine ol_new rfl rfl rfl (q_alloc ty39 (row := [iI 0, nC]) rfl rfl) (fun k14 => ?_)
 refine pq (qa (iO 0)) ?_
 refine oN ?_
 refine pq (qm (iO n1)) ?_
 refine pq (ql (.agg [iI n2, iI n3, sF r3 s4, sF r3 s5, sF r2 s6]) 2 sz33) ?_
 refine pq (ql (.agg [iI n7, sF r60 s8, sF r2 s9]) 1 sz36) ?_
 refine pq (qm (.one (sF r60 s10))) ?_
 refine pq (qm (bO b11)) ?_
 obtain ⟨⟨s16, n17⟩, h15, h⟩ := bindS h
 refine pq (qc (.tup [.one (sC r63 s16), iO n17]) [iO n1, .agg [iI n2, iI n3, sF r3 s4, sF r3 s5, sF r2 s6], .agg [iI n7, sF r60 s8, sF r2 s9], .one (sF r60 s10), bO b11] (ref13_Sums_r (m + 0) h15) (vw_cons (vd_one vc_v) (vw_cons (vd_agg (vc_cons vc_v (vc_cons vc_v (vc_cons vc_s (vc_cons vc_s (vc_cons vc_s vc_nil)))))) (vw_cons (vd_agg (vc_cons vc_v (vc_cons vc_s (vc_cons vc_s vc_nil)))) (vw_cons (vd_one vc_s) (vw_cons (vd_one vc_v) vw_nil)))))) ?_
 refine pq (qm (.tup [.one (sC r63 s16), iO n17])) ?_
 refine pq (q_ext (v := .one (sC r63 s16)) rfl rfl) ?_
 refine pq (q_ext (v := iO n17) rfl rfl) ?_
 refine pq (qa (.one (sC r63 s16))) ?_
 refine pq (qa (iO n17)) ?_
 refine oE (eS (lS (lS (lO ?_))))
 refine pq (qm (iO n17)) ?_
 by_cases c18 : n17 ≠ 0
 replace h := ifT c18 h
 refine pq (qb (p_neq_tZ c18)) ?_
 refine oE (eS (cT rfl (lS (lO ?_))))
 refine pq (q_build (cs := [iI 0, nC]) ty39 rfl pl39 rfl) ?_
 refine pq (qm (iO n17)) ?_
 refine ow [[iI 0, nC]] 0 sz39 ?_
 refine pq (qa (iO n17)) ?_
 refine oE (eS (lR (eR ?_)))
 obtain rfl := sj h
 exact E_endF (.inr rfl) (res_cell (d := .agg [iI 0, nC]) 0 rfl sz39 rfl rfl rfl rfl (res_tmp rfl res_nil)) (vw_cons (vd_agg (vc_cons vc_v (vc_cons vc_s vc_nil))) (vw_cons (vd_one vc_v) vw_nil)) oW rfl rfl
 replace h := ifF c18 h
 refine pq (qb (p_neq_fZ c18)) ?_
 refine oE (eS (cF rfl (lK (eS (lS (lO ?_))))))
 refine pq (qm (iO n1)) ?_
 refine pq (ql (.agg [iI n2, iI n3, sF r3 s4, sF r3 s5, sF r2 s6]) 2 sz33) ?_
 obtain ⟨⟨n20, n21, s22, s23, s24⟩, h19, h⟩ := bindS h
 refine ol_putX rfl rfl rfl (q_callX (v := fun fr25 => .agg [iI n20, iI n21, .p fr25 (Sl.t r3 s22), .p fr25 (Sl.t r3 s23), .p fr25 (Sl.t r2 s24)]) (args := [.agg [iI n2, iI n3, sF r3 s4, sF r3 s5, sF r2 s6]]) (ref07_Sure_r (m + 4) h19) rfl rfl (vw_cons (vd_agg (vc_cons vc_v (vc_cons vc_v (vc_cons vc_s (vc_cons vc_s (vc_cons vc_s vc_nil)))))) vw_nil) rfl rfl (fun fr => rfl)) (fun fr25 => ?_)
 refine pq (q_fieldV (v := iO n20) rfl fa33_0 rfl rfl) ?_
 refine pq (qm (.one (sC r63 s16))) ?_
 obtain ⟨⟨⟨n27, s28⟩, n29⟩, h26, h⟩ := bindS h
 refine pq (qc (.tup [.agg [iI n27, sC r70 s28], iO n29]) [iO n1, iO n20, .one (sC r63 s16)] (ref13_Done_r (m + 3) h26) (vw_cons (vd_one vc_v) (vw_cons (vd_one vc_v) (vw_cons (vd_one vc_s) vw_nil)))) ?_
 refine pq (q_ext (v := .agg [iI n27, sC r70 s28]) rfl rfl) ?_
 refine pq (q_ext (v := iO n29) rfl rfl) ?_
 refine ow [[iI n27, sC r70 s28]] 0 sz39 ?_
 refine pq (qa (iO n29)) ?_
 refine oE (eS (lR ?_))
 obtain rfl := sj h
 exact E_endF (.inr rfl) (res_cell (d := .agg [iI n27, sC r70 s28]) 0 rfl sz39 rfl rfl rfl rfl (res_tmp rfl res_nil)) (vw_cons (vd_agg (vc_cons vc_v (vc_cons vc_s vc_nil))) (vw_cons (vd_one vc_v) vw_nil)) oW rfl rfl
end Ev
end Go.Proofs.YtlcfdmjkbaegpaaDoor
