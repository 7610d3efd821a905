/- Functions of the program as functions on data, and that they are. -/
import Derived.Test.YtlcfdmjkbaegpaaDoorEvZ
import Derived.Test.YtlcfdmjkbaegpaaDoorLf1
import Derived.Test.YtlcfdmjkbaegpaaDoorLf6
import Derived.Test.YtlcfdmjkbaegpaaDoorLy1
import Derived.Test.YtlcfdmjkbaegpaaDoorLy2
namespace Go.Proofs.YtlcfdmjkbaegpaaDoor
namespace Ev
open Go
set_option linter.unusedVariables false
set_option linter.unusedSimpArgs false
set_option maxRecDepth 100000
set_option maxHeartbeats 1000000
attribute [local irreducible] OpsL StL TnL WpL EndL
noncomputable def ref13_Sums_b2 (n1 : Int) (s17 : Sl (Int)) (s18 : Sl (Int)) (s19 : Sl (Int)) (n22 : Int) (s23 : Sl (Int × Int)) (n608 : Int) (a : Bool × Int × Int × Int) : Option ((Bool × Int × Int × Int) ⊕ ((Bool × Int × Int) ⊕ ((Bool × (List (Int × (Int × Int))) × Int) ⊕ ((List (Int × (Int × Int))) ⊕ ((Sl (Int × (Int × Int))) × Int))))) :=
 match a with
 | (b676, n677, n678, n679) => ((atS 1 s17 (IntKind.i64.wrap (n608 + 1))).bind fun n682 => (if n677 < n682 then ((atS 1 s18 n677).bind fun n686 => ((ref09_Get (n22, s23) n686).bind fun (n688, b689) => (if b689 = true then ((atS 1 s19 n677).bind fun n692 => ((ref02_Mul n1 n692 n688).bind fun (n694, n695) => (if b676 = true then ((ref02_Add n1 (n678, n679) (n694, n695)).bind fun (n698, n699) => some (.inl (true, (IntKind.i64.wrap (n677 + 1)), n698, n699))) else some (.inl (true, (IntKind.i64.wrap (n677 + 1)), n694, n695))))) else some (.inl (b676, (IntKind.i64.wrap (n677 + 1)), n678, n679))))) else some (.inr (.inl (b676, n678, n679)))))
noncomputable def ref13_Sums_b3 (n1 : Int) (s17 : Sl (Int)) (s18 : Sl (Int)) (s19 : Sl (Int)) (n22 : Int) (s23 : Sl (Int × Int)) (n608 : Int) (a : Bool × Int × Int × Int) : Option ((Bool × Int × Int × Int) ⊕ ((Bool × Int × Int) ⊕ ((Bool × (List (Int × (Int × Int))) × Int) ⊕ ((List (Int × (Int × Int))) ⊕ ((Sl (Int × (Int × Int))) × Int))))) :=
 match a with
 | (b769, n770, n771, n772) => ((atS 1 s17 (IntKind.i64.wrap (n608 + 1))).bind fun n775 => (if n770 < n775 then ((atS 1 s18 n770).bind fun n779 => ((ref09_Get (n22, s23) n779).bind fun (n781, b782) => (if b782 = true then ((atS 1 s19 n770).bind fun n785 => ((ref02_Mul n1 n785 n781).bind fun (n787, n788) => (if b769 = true then ((ref02_Add n1 (n771, n772) (n787, n788)).bind fun (n791, n792) => some (.inl (true, (IntKind.i64.wrap (n770 + 1)), n791, n792))) else some (.inl (true, (IntKind.i64.wrap (n770 + 1)), n787, n788))))) else some (.inl (b769, (IntKind.i64.wrap (n770 + 1)), n771, n772))))) else some (.inr (.inl (b769, n771, n772)))))
noncomputable def ref13_Sums_b1 (n1 : Int) (s10 : Sl (Int)) (n15 : Int) (s17 : Sl (Int)) (s18 : Sl (Int)) (s19 : Sl (Int)) (n22 : Int) (s23 : Sl (Int × Int)) (a : Bool × (List (Int × (Int × Int))) × Int) : Option ((Bool × (List (Int × (Int × Int))) × Int) ⊕ ((List (Int × (Int × Int))) ⊕ ((Sl (Int × (Int × Int))) × Int))) :=
 match a with
 | (b606, l607, n608) => (if n608 < n15 then ((ref03_Has s10 n608).bind fun b612 => (if b612 = true then (if b606 = true then some (.inl (true, l607, (IntKind.i64.wrap (n608 + 1)))) else ((atS 1 s17 n608).bind fun n709 => ((loopO (ref13_Sums_b3 n1 s17 s18 s19 n22 s23 n608) (false, n709, 0, 0)).bind (Sum.elim (fun ⟨b793, n794, n795⟩ => (if b793 = true then ((app l607 ([(n608, (n794, n795))] : List (Int × (Int × Int)))).bind fun _ => some (.inl (false, (l607 ++ ([(n608, (n794, n795))] : List (Int × (Int × Int)))), (IntKind.i64.wrap (n608 + 1))))) else some (.inl (false, l607, (IntKind.i64.wrap (n608 + 1)))))) (fun u => some u))))) else (if b606 = true then ((atS 1 s17 n608).bind fun n616 => ((loopO (ref13_Sums_b2 n1 s17 s18 s19 n22 s23 n608) (false, n616, 0, 0)).bind (Sum.elim (fun ⟨b700, n701, n702⟩ => (if b700 = true then ((app l607 ([(n608, (n701, n702))] : List (Int × (Int × Int)))).bind fun _ => some (.inl (true, (l607 ++ ([(n608, (n701, n702))] : List (Int × (Int × Int)))), (IntKind.i64.wrap (n608 + 1))))) else some (.inl (true, l607, (IntKind.i64.wrap (n608 + 1)))))) (fun u => some u)))) else some (.inl (false, l607, (IntKind.i64.wrap (n608 + 1))))))) else some (.inr (.inl l607)))
noncomputable def ref13_Sums (n1 : Int) (a1 : Int × Int × Sl (Int) × Sl (Int) × Sl (Int)) (a2 : Int × Sl (Int) × Sl (Int)) (s10 : Sl (Int)) (b11 : Bool) : Option ((Sl (Int × (Int × Int))) × Int) :=
 match a1, a2 with
 | (n2, n3, s4, s5, s6), (n7, s8, s9) => ((ref07_Sure (n2, n3, s4, s5, s6)).bind fun (n15, n16, s17, s18, s19) => ((ref10_Back (n7, s8, s9)).bind fun (n22, s23) => ((ref02_Is n1).bind fun b26 => (if b26 = true then (if n22 ≠ n16 then some ((⟨false, 0, []⟩ : Sl (Int × (Int × Int))), 4) else ((loopO (ref13_Sums_b1 n1 s10 n15 s17 s18 s19 n22 s23) (b11, ([] : List (Int × (Int × Int))), 0)).bind (Sum.elim (fun l799 => some ((mo 3 l799), 0)) (fun u => some u)))) else some ((⟨false, 0, []⟩ : Sl (Int × (Int × Int))), 8)))))
theorem ref13_Sums_r (m : Nat) {n1 : Int} {a1 : Int × Int × Sl (Int) × Sl (Int) × Sl (Int)} {a2 : Int × Sl (Int) × Sl (Int)} {s10 : Sl (Int)} {b11 : Bool} {out : (Sl (Int × (Int × Int))) × Int} (h : ref13_Sums n1 a1 a2 s10 b11 = some out) : RunsP E1 (m + 6) 13 [.one (iT .i64 n1), .agg (r32 a1), .agg (r35 a2), .one (Sl.t r60 s10), .one (bT b11)] (.fresh, [.one (Sl.t r63 out.1), .one (iT .i64 out.2)]) := by
 obtain ⟨n2, n3, s4, s5, s6⟩ := a1
 obtain ⟨n7, s8, s9⟩ := a2
 refine fn_F rfl (by rw [E1_fn]; exact show fiOf Tryd.prog 13 = _ by unfold fiOf; rw [Tryd.func13]; unfold Tryd.f13; rfl) rfl ?_
 dsimp only
 unfold ref13_Sums at h
 refine lS (lO ?_)
 refine ol_new rfl rfl rfl (q_box ty33 rfl (cs := [iI n2, iI n3, sF r3 s4, sF r3 s5, sF r2 s6]) rfl rfl) (fun k12 => ?_)
 refine ol_new rfl rfl rfl (q_box ty36 rfl (cs := [iI n7, sF r60 s8, sF r2 s9]) rfl rfl) (fun k13 => ?_)
 refine pq (qa (.one nC)) ?_
 refine pq (qa (iO 0)) ?_
 refine oN ?_
 refine pq (ql (.agg [iI n2, iI n3, sF r3 s4, sF r3 s5, sF r2 s6]) 1 sz33) ?_
 obtain ⟨⟨n15, n16, s17, s18, s19⟩, h14, h⟩ := bindS h
 refine ol_putX rfl rfl rfl (q_callX (v := fun fr20 => .agg [iI n15, iI n16, .p fr20 (Sl.t r3 s17), .p fr20 (Sl.t r3 s18), .p fr20 (Sl.t r2 s19)]) (args := [.agg [iI n2, iI n3, sF r3 s4, sF r3 s5, sF r2 s6]]) (ref07_Sure_r (m + 3) h14) rfl rfl (vw_cons (vd_agg (vc_cons vc_v (vc_cons vc_v (vc_cons vc_s (vc_cons vc_s (vc_cons vc_s vc_nil)))))) vw_nil) rfl rfl (fun fr => rfl)) (fun fr20 => ?_)
 refine ow [[iI n15, iI n16, .p fr20 (Sl.t r3 s17), .p fr20 (Sl.t r3 s18), .p fr20 (Sl.t r2 s19)]] 1 sz33 ?_
 refine oN ?_
 refine pq (ql (.agg [iI n7, sF r60 s8, sF r2 s9]) 0 sz36) ?_
 obtain ⟨⟨n22, s23⟩, h21, h⟩ := bindS h
 refine pq (qc (.agg [iI n22, sC r70 s23]) [.agg [iI n7, sF r60 s8, sF r2 s9]] (ref10_Back_r (m + 0) h21) (vw_cons (vd_agg (vc_cons vc_v (vc_cons vc_s (vc_cons vc_s vc_nil)))) vw_nil)) ?_
 refine ol_new rfl rfl rfl (q_alloc ty39 (row := [iI 0, nC]) rfl rfl) (fun k24 => ?_)
 refine ow [[iI n22, sC r70 s23]] 0 sz39 ?_
 refine oE (eS (lS (lS (lO ?_))))
 refine pq (qm (iO n1)) ?_
 obtain ⟨b26, h25, h⟩ := bindS h
 refine pq (qc (bO b26) [iO n1] (ref02_Is_r (m + 4) h25) (vw_cons (vd_one vc_v) vw_nil)) ?_
 rcases b26 with _ | _
 replace h := wF h
 refine pq (q_not rfl) ?_
 refine oE (eS (cT rfl (lS (lO ?_))))
 refine pq (qa (.one nC)) ?_
 refine pq (qa (iO 8)) ?_
 refine oE (eS (lR (eR ?_)))
 obtain rfl := sj h
 exact E_endF (.inr rfl) (res_tmp rfl (res_tmp rfl res_nil)) (vw_cons (vd_one vc_s) (vw_cons (vd_one vc_v) vw_nil)) oW rfl rfl
 replace h := wT h
 refine pq (q_not rfl) ?_
 refine oE (eS (cF rfl (lK (eS (lS (lS (lO ?_)))))))
 refine pq (q_fieldP rfl fa39_0 rfl) ?_
 refine pq (ql (iO n22) 0 sz3) ?_
 refine pq (q_fieldP rfl fa33_1 rfl) ?_
 refine pq (ql (iO n16) 2 sz3) ?_
 by_cases c27 : n22 ≠ n16
 replace h := ifT c27 h
 refine pq (qb (p_neq_tZ c27)) ?_
 refine oE (eS (cT rfl (lS (lO ?_))))
 refine pq (qa (.one nC)) ?_
 refine pq (qa (iO 4)) ?_
 refine oE (eS (lR (eR ?_)))
 obtain rfl := sj h
 exact E_endF (.inr rfl) (res_tmp rfl (res_tmp rfl res_nil)) (vw_cons (vd_one vc_s) (vw_cons (vd_one vc_v) vw_nil)) oW rfl rfl
 replace h := ifF c27 h
 refine pq (qb (p_neq_fZ c27)) ?_
 refine oE (eS (cF rfl (lK (eS (lS (lO ?_))))))
 refine pq (qa (.one nC)) ?_
 refine oE (eS (lS (lS (lO ?_))))
 refine pq (qa (iO 0)) ?_
 refine oE (eS (lB ?_))
 refine L_addM (α := Int × (Int × Int)) r63 3 ?_
 let S1 : (Bool × (List (Int × (Int × Int))) × Int) → Nat → (Nat → D) → Nat → D := fun a kt g => ups g [(0, iO n1), (3, .one (sF r60 s10)), (4, .one (bC a.1)), (6, .one (.ptr k12 0 0)), (12, .one (.ptr k24 0 0)), (13, .one (moC a.2.1 kt)), (14, .one (iI a.2.2))]
 let SL1 : (Bool × (List (Int × (Int × Int))) × Int) → Nat → BL := fun a kt => ([[(k12, 5, [[iI n15, iI n16, .p fr20 (Sl.t r3 s17), .p fr20 (Sl.t r3 s18), .p fr20 (Sl.t r2 s19)]])], [(k24, 2, [[iI n22, sC r70 s23]])], moL r63 3 a.2.1 kt] : BL)
 let G1 : ((Sl (Int × (Int × Int))) × Int) → Ex → St → Prop := fun u => endQ E1 [.tmp 10, .tmp 11] (.fresh, [.one (Sl.t r63 u.1), .one (iT .i64 u.2)])
 let Sx1 : (List (Int × (Int × Int))) → Nat → (Nat → D) → Nat → D := fun a kt g => ups g [(13, .one (moC a kt))]
 let SLx1 : (List (Int × (Int × Int))) → Nat → BL := fun a kt => ([moL r63 3 a kt] : BL)
 let J1 : ((List (Int × (Int × Int))) ⊕ ((Sl (Int × (Int × Int))) × Int)) → Ex → St → Prop := JX 93 0 Sx1 SLx1 G1
 refine L_loopS (ref13_Sums_b1 n1 s10 n15 s17 s18 s19 n22 s23) S1 SL1 J1 JX_n (b11, ([] : List (Int × (Int × Int))), 0) h 1604 (ups_self ⟨rfl, rfl, rfl, rfl, rfl, rfl, rfl, trivial⟩) [3, 1, 0] (by decide) rfl ?_ ?_
 rintro ⟨b606, l607, n608⟩ k609 g out h
 change ref13_Sums_b1 n1 s10 n15 s17 s18 s19 n22 s23 (b606, l607, n608) = some out at h
 unfold ref13_Sums_b1 at h
 refine lS (lS (lO ?_))
 refine pq (qm (iO n608)) ?_
 refine pq (q_fieldP rfl fa33_0 rfl) ?_
 refine pq (ql (iO n15) 0 sz3) ?_
 by_cases c610 : n608 < n15
 replace h := ifT c610 h
 refine pq (qb (p_lss_tZ c610)) ?_
 refine oE (eS (cT rfl (lK (eS (lS (lB (lS (lS (lO ?_)))))))))
 refine pq (qm (.one (sF r60 s10))) ?_
 refine pq (qm (iO n608)) ?_
 obtain ⟨b612, h611, h⟩ := bindS h
 refine pq (qc (bO b612) [.one (sF r60 s10), iO n608] (ref03_Has_r (m + 4) h611) (vw_cons (vd_one vc_s) (vw_cons (vd_one vc_v) vw_nil))) ?_
 refine pq (qm (bO b606)) ?_
 rcases b612 with _ | _
 replace h := wF h
 rcases b606 with _ | _
 replace h := wF h
 refine pq (q_binB rfl rfl (eqeqlB4 _ _ _ _) rfl) ?_
 refine oE (eS (cT rfl (L_exit ?_)))
 refine E_seqX ?_
 refine bH (eS (lO ?_))
 refine pq (qm (iO n608)) ?_
 refine pq (qb p_addY) ?_
 refine pq (qa (iO (IntKind.i64.wrap (n608 + 1)))) ?_
 refine oE ?_
 obtain rfl := sj h
 exact E_next k609 (ups_self ⟨rfl, rfl, rfl, rfl, rfl, rfl, rfl, trivial⟩) [0, 1, 2] (by decide) rfl
 replace h := wT h
 refine pq (q_binB rfl rfl (eqeqlB4 _ _ _ _) rfl) ?_
 refine oE (eS (cF rfl (lK (eS (lS (lO ?_))))))
 refine ol_new rfl rfl rfl (q_alloc ty62 (row := [iI 0, uI 0]) rfl rfl) (fun k613 => ?_)
 refine oN ?_
 refine pq (qa bf) ?_
 refine oE (eS (lS (lS (lO ?_))))
 refine pq (q_fieldP rfl fa33_2 rfl) ?_
 refine pq (ql (.one (.p fr20 (Sl.t r3 s17))) 1 sz30) ?_
 refine pq (qm (iO n608)) ?_
 obtain ⟨n616, h615, h⟩ := bindS h
 obtain ⟨h615a, h615b, h615⟩ := atS_some h615
 refine pq (q_ixS rfl rfl h615a h615 (el30.trans (congrArg some h615b.symm))) ?_
 refine pq (q_loadI (v := iO n616) rfl sz3 (map_get h615) rfl rfl) ?_
 refine pq (qa (iO n616)) ?_
 refine oE (eS (lB ?_))
 let S2 : (Bool × Int × Int × Int) → Unit → (Nat → D) → Nat → D := fun a kt g => ups g [(0, iO n1), (3, .one (sF r60 s10)), (4, bt), (6, .one (.ptr k12 0 0)), (12, .one (.ptr k24 0 0)), (13, .one (moC l607 k609)), (14, iO n608), (15, .one (.ptr k613 0 0)), (16, .one (bC a.1)), (17, .one (iI a.2.1))]
 let SL2 : (Bool × Int × Int × Int) → Unit → BL := fun a kt => ([[(k12, 5, [[iI n15, iI n16, .p fr20 (Sl.t r3 s17), .p fr20 (Sl.t r3 s18), .p fr20 (Sl.t r2 s19)]])], [(k24, 2, [[iI n22, sC r70 s23]])], moL r63 3 l607 k609, [(k613, 2, [[iI a.2.2.1, uI a.2.2.2]])]] : BL)
 let G2 : ((Bool × (List (Int × (Int × Int))) × Int) ⊕ ((List (Int × (Int × Int))) ⊕ ((Sl (Int × (Int × Int))) × Int))) → Ex → St → Prop := LQ 93 S1 SL1 J1
 let Sx2 : (Bool × Int × Int) → Unit → (Nat → D) → Nat → D := fun a kt g => ups g [(0, iO n1), (3, .one (sF r60 s10)), (4, bt), (6, .one (.ptr k12 0 0)), (12, .one (.ptr k24 0 0)), (13, .one (moC l607 k609)), (14, iO n608), (15, .one (.ptr k613 0 0)), (16, .one (bC a.1))]
 let SLx2 : (Bool × Int × Int) → Unit → BL := fun a kt => ([[(k12, 5, [[iI n15, iI n16, .p fr20 (Sl.t r3 s17), .p fr20 (Sl.t r3 s18), .p fr20 (Sl.t r2 s19)]])], [(k24, 2, [[iI n22, sC r70 s23]])], moL r63 3 l607 k609, [(k613, 2, [[iI a.2.1, uI a.2.2]])]] : BL)
 let J2 : ((Bool × Int × Int) ⊕ ((Bool × (List (Int × (Int × Int))) × Int) ⊕ ((List (Int × (Int × Int))) ⊕ ((Sl (Int × (Int × Int))) × Int)))) → Ex → St → Prop := JX 93 2 Sx2 SLx2 G2
 refine L_loopS (ref13_Sums_b2 n1 s17 s18 s19 n22 s23 n608) S2 SL2 J2 JX_n (false, n616, 0, 0) h () (ups_self ⟨rfl, rfl, rfl, rfl, rfl, rfl, rfl, rfl, rfl, rfl, trivial⟩) [1, 2, 3, 0] (by decide) rfl ?_ ?_
 rintro ⟨b676, n677, n678, n679⟩ _ g out h
 change ref13_Sums_b2 n1 s17 s18 s19 n22 s23 n608 (b676, n677, n678, n679) = some out at h
 unfold ref13_Sums_b2 at h
 refine lS (lS (lO ?_))
 refine pq (qm (iO n677)) ?_
 refine pq (q_fieldP rfl fa33_2 rfl) ?_
 refine pq (ql (.one (.p fr20 (Sl.t r3 s17))) 0 sz30) ?_
 refine pq (qm (iO n608)) ?_
 refine pq (qb p_addY) ?_
 obtain ⟨n682, h681, h⟩ := bindS h
 obtain ⟨h681a, h681b, h681⟩ := atS_some h681
 refine pq (q_ixS rfl rfl h681a h681 (el30.trans (congrArg some h681b.symm))) ?_
 refine pq (q_loadI (v := iO n682) rfl sz3 (map_get h681) rfl rfl) ?_
 by_cases c683 : n677 < n682
 replace h := ifT c683 h
 refine pq (qb (p_lss_tZ c683)) ?_
 refine oE (eS (cT rfl (lK (eS (lS (lB (lS ?_)))))))
 refine L_still (by kernel_rfl) ?_
 refine sq (ql (.agg [iI n22, sC r70 s23]) 1 sz39) ?_
 refine sq (q_fieldP rfl fa33_3 rfl) ?_
 refine sq (ql (.one (.p fr20 (Sl.t r3 s18))) 0 sz30) ?_
 refine sq (qm (iO n677)) ?_
 obtain ⟨n686, h685, h⟩ := bindS h
 obtain ⟨h685a, h685b, h685⟩ := atS_some h685
 refine sq (q_ixS rfl rfl h685a h685 (el30.trans (congrArg some h685b.symm))) ?_
 refine sq (q_loadI (v := iO n686) rfl sz3 (map_get h685) rfl rfl) ?_
 obtain ⟨⟨n688, b689⟩, h687, h⟩ := bindS h
 refine sq (qc (.tup [iO n688, bO b689]) [.agg [iI n22, sC r70 s23], iO n686] (ref09_Get_r (m + 2) h687) (vw_cons (vd_agg (vc_cons vc_v (vc_cons vc_s vc_nil))) (vw_cons (vd_one vc_v) vw_nil))) ?_
 refine sq (qm (.tup [iO n688, bO b689])) ?_
 refine sq (q_ext (v := iO n688) rfl rfl) ?_
 refine sq (q_ext (v := bO b689) rfl rfl) ?_
 refine sq (qa (iO n688)) ?_
 refine sq (qa (bO b689)) ?_
 refine st_end (eS (lS (lS (lO ?_))))
 refine pq (qm (bO b689)) ?_
 rcases b689 with _ | _
 replace h := wF h
 refine pq (q_not rfl) ?_
 refine oE (eS (cT rfl (L_exit ?_)))
 refine E_seqX ?_
 refine bH (eS (lO ?_))
 refine pq (qm (iO n677)) ?_
 refine pq (qb p_addY) ?_
 refine pq (qa (iO (IntKind.i64.wrap (n677 + 1)))) ?_
 refine oE ?_
 obtain rfl := sj h
 exact E_next () (ups_self ⟨rfl, rfl, rfl, rfl, rfl, rfl, rfl, rfl, rfl, rfl, trivial⟩) [0, 1, 2, 3] (by decide) rfl
 replace h := wT h
 refine pq (q_not rfl) ?_
 refine oE (eS (cF rfl (lK (eS (lS (lO ?_))))))
 refine pq (qm (iO n1)) ?_
 refine pq (q_fieldP rfl fa33_4 rfl) ?_
 refine pq (ql (.one (.p fr20 (Sl.t r2 s19))) 0 sz31) ?_
 refine pq (qm (iO n677)) ?_
 obtain ⟨n692, h691, h⟩ := bindS h
 obtain ⟨h691a, h691b, h691⟩ := atS_some h691
 refine pq (q_ixS rfl rfl h691a h691 (el31.trans (congrArg some h691b.symm))) ?_
 refine pq (q_loadI (v := iO n692) rfl sz2 (map_get h691) rfl rfl) ?_
 refine pq (qm (iO n688)) ?_
 obtain ⟨⟨n694, n695⟩, h693, h⟩ := bindS h
 refine pq (qc (.agg [iI n694, uI n695]) [iO n1, iO n692, iO n688] (ref02_Mul_r (m + 1) h693) (vw_cons (vd_one vc_v) (vw_cons (vd_one vc_v) (vw_cons (vd_one vc_v) vw_nil)))) ?_
 refine ol_new rfl rfl rfl (q_alloc ty62 (row := [iI 0, uI 0]) rfl rfl) (fun k696 => ?_)
 refine ow [[iI n694, uI n695]] 0 sz62 ?_
 refine oE (eS (lS (lS (lO ?_))))
 refine pq (qm (bO b676)) ?_
 refine oE (eS ?_)
 rcases b676 with _ | _
 replace h := wF h
 refine cF rfl (lO ?_)
 refine pq (ql (.agg [iI n694, uI n695]) 0 sz62) ?_
 refine ow [[iI n694, uI n695]] 4 sz62 ?_
 refine oR ?_
 refine pq (qa bt) ?_
 refine oE (bN (eS (lO ?_)))
 refine pq (qm (iO n677)) ?_
 refine pq (qb p_addY) ?_
 refine pq (qa (iO (IntKind.i64.wrap (n677 + 1)))) ?_
 refine oE ?_
 obtain rfl := sj h
 exact E_next () (ups_self ⟨rfl, rfl, rfl, rfl, rfl, rfl, rfl, rfl, rfl, rfl, trivial⟩) [1, 2, 3, 4] (by decide) rfl
 replace h := wT h
 refine cT rfl (lO ?_)
 refine pq (qm (iO n1)) ?_
 refine pq (ql (.agg [iI n678, uI n679]) 4 sz62) ?_
 refine pq (ql (.agg [iI n694, uI n695]) 0 sz62) ?_
 obtain ⟨⟨n698, n699⟩, h697, h⟩ := bindS h
 refine pq (qc (.agg [iI n698, uI n699]) [iO n1, .agg [iI n678, uI n679], .agg [iI n694, uI n695]] (ref02_Add_r (m + 3) h697) (vw_cons (vd_one vc_v) (vw_cons (vd_agg (vc_cons vc_v (vc_cons vc_v vc_nil))) (vw_cons (vd_agg (vc_cons vc_v (vc_cons vc_v vc_nil))) vw_nil)))) ?_
 refine ow [[iI n698, uI n699]] 4 sz62 ?_
 refine oR ?_
 refine pq (qa bt) ?_
 refine oE (bN (eS (lO ?_)))
 refine pq (qm (iO n677)) ?_
 refine pq (qb p_addY) ?_
 refine pq (qa (iO (IntKind.i64.wrap (n677 + 1)))) ?_
 refine oE ?_
 obtain rfl := sj h
 exact E_next () (ups_self ⟨rfl, rfl, rfl, rfl, rfl, rfl, rfl, rfl, rfl, rfl, trivial⟩) [1, 2, 3, 4] (by decide) rfl
 replace h := ifF c683 h
 refine pq (qb (p_lss_fZ c683)) ?_
 refine oE (eS (cF rfl (L_exit ?_)))
 refine E_seqX ?_
 obtain rfl := sj h
 refine E_out ?_
 exact (E_exit () (ups_self ⟨rfl, rfl, rfl, rfl, rfl, rfl, rfl, rfl, rfl, trivial⟩) [0, 1, 2, 3] (by decide) rfl)
 rintro (⟨b700, n701, n702⟩ | u) h
 refine J_x (fun kt g => ?_)
 replace h := elimL h
 refine bH (eS (lS (lO ?_)))
 refine pq (qm (bO b700)) ?_
 refine oE (eS ?_)
 rcases b700 with _ | _
 replace h := wF h
 refine cF rfl (lK (bN (eS (lO ?_))))
 refine pq (qm (iO n608)) ?_
 refine pq (qb p_addY) ?_
 refine pq (qa (iO (IntKind.i64.wrap (n608 + 1)))) ?_
 refine oE ?_
 obtain rfl := sj h
 exact E_next k609 (ups_self ⟨rfl, rfl, rfl, rfl, rfl, rfl, rfl, trivial⟩) [0, 1, 2] (by decide) rfl
 replace h := wT h
 refine cT rfl (lO ?_)
 refine pq (qm (.one (moC l607 k609))) ?_
 refine pq (qm (iO n608)) ?_
 refine pq (ql (.agg [iI n701, uI n702]) 3 sz62) ?_
 refine pq (q_build (cs := [iI n608, iI n701, uI n702]) ty64 rfl pl64 rfl) ?_
 refine ol_new rfl rfl rfl (q_bslice (cs := [iI n608, iI n701, uI n702]) (es := (([(n608, (n701, n702))] : List (Int × (Int × Int)))).map (rowC r63)) ty29 rfl ty64 rfl rfl rfl rfl rfl) (fun k703 => ?_)
 obtain ⟨_, h704, h⟩ := bindS h
 obtain ⟨h704b, rfl⟩ := app_some h704
 refine ol_appM (r := r63) (l := l607) (ys := ([(n608, (n701, n702))] : List (Int × (Int × Int)))) 3 rfl rfl rfl rfl rfl rfl (el_ownM (l := ([(n608, (n701, n702))] : List (Int × (Int × Int)))) 0 rfl) rfl h704 (fun y => rfl) el29 ty29 rfl rfl rfl rfl rfl (fun k705 => ?_)
 refine pq (qa (.one (moC (l607 ++ ([(n608, (n701, n702))] : List (Int × (Int × Int)))) k705))) ?_
 refine oE (bN (eS (lO ?_)))
 refine pq (qm (iO n608)) ?_
 refine pq (qb p_addY) ?_
 refine pq (qa (iO (IntKind.i64.wrap (n608 + 1)))) ?_
 refine oE ?_
 obtain rfl := sj h
 exact E_next k705 (ups_self ⟨rfl, rfl, rfl, rfl, rfl, rfl, rfl, trivial⟩) [2, 3, 0] (by decide) rfl
 obtain rfl := Option.some.inj (elimR h)
 exact J_up (fun s hs => hs)
 replace h := wT h
 rcases b606 with _ | _
 replace h := wF h
 refine pq (q_binB rfl rfl (eqeqlB4 _ _ _ _) rfl) ?_
 refine oE (eS (cF rfl (lK (eS (lS (lO ?_))))))
 refine ol_new rfl rfl rfl (q_alloc ty62 (row := [iI 0, uI 0]) rfl rfl) (fun k706 => ?_)
 refine oN ?_
 refine pq (qa bf) ?_
 refine oE (eS (lS (lS (lO ?_))))
 refine pq (q_fieldP rfl fa33_2 rfl) ?_
 refine pq (ql (.one (.p fr20 (Sl.t r3 s17))) 1 sz30) ?_
 refine pq (qm (iO n608)) ?_
 obtain ⟨n709, h708, h⟩ := bindS h
 obtain ⟨h708a, h708b, h708⟩ := atS_some h708
 refine pq (q_ixS rfl rfl h708a h708 (el30.trans (congrArg some h708b.symm))) ?_
 refine pq (q_loadI (v := iO n709) rfl sz3 (map_get h708) rfl rfl) ?_
 refine pq (qa (iO n709)) ?_
 refine oE (eS (lB ?_))
 let S3 : (Bool × Int × Int × Int) → Unit → (Nat → D) → Nat → D := fun a kt g => ups g [(0, iO n1), (3, .one (sF r60 s10)), (4, bf), (6, .one (.ptr k12 0 0)), (12, .one (.ptr k24 0 0)), (13, .one (moC l607 k609)), (14, iO n608), (15, .one (.ptr k706 0 0)), (16, .one (bC a.1)), (17, .one (iI a.2.1))]
 let SL3 : (Bool × Int × Int × Int) → Unit → BL := fun a kt => ([[(k12, 5, [[iI n15, iI n16, .p fr20 (Sl.t r3 s17), .p fr20 (Sl.t r3 s18), .p fr20 (Sl.t r2 s19)]])], [(k24, 2, [[iI n22, sC r70 s23]])], moL r63 3 l607 k609, [(k706, 2, [[iI a.2.2.1, uI a.2.2.2]])]] : BL)
 let G3 : ((Bool × (List (Int × (Int × Int))) × Int) ⊕ ((List (Int × (Int × Int))) ⊕ ((Sl (Int × (Int × Int))) × Int))) → Ex → St → Prop := LQ 93 S1 SL1 J1
 let Sx3 : (Bool × Int × Int) → Unit → (Nat → D) → Nat → D := fun a kt g => ups g [(0, iO n1), (3, .one (sF r60 s10)), (4, bf), (6, .one (.ptr k12 0 0)), (12, .one (.ptr k24 0 0)), (13, .one (moC l607 k609)), (14, iO n608), (15, .one (.ptr k706 0 0)), (16, .one (bC a.1))]
 let SLx3 : (Bool × Int × Int) → Unit → BL := fun a kt => ([[(k12, 5, [[iI n15, iI n16, .p fr20 (Sl.t r3 s17), .p fr20 (Sl.t r3 s18), .p fr20 (Sl.t r2 s19)]])], [(k24, 2, [[iI n22, sC r70 s23]])], moL r63 3 l607 k609, [(k706, 2, [[iI a.2.1, uI a.2.2]])]] : BL)
 let J3 : ((Bool × Int × Int) ⊕ ((Bool × (List (Int × (Int × Int))) × Int) ⊕ ((List (Int × (Int × Int))) ⊕ ((Sl (Int × (Int × Int))) × Int)))) → Ex → St → Prop := JX 93 2 Sx3 SLx3 G3
 refine L_loopS (ref13_Sums_b3 n1 s17 s18 s19 n22 s23 n608) S3 SL3 J3 JX_n (false, n709, 0, 0) h () (ups_self ⟨rfl, rfl, rfl, rfl, rfl, rfl, rfl, rfl, rfl, rfl, trivial⟩) [1, 2, 3, 0] (by decide) rfl ?_ ?_
 rintro ⟨b769, n770, n771, n772⟩ _ g out h
 change ref13_Sums_b3 n1 s17 s18 s19 n22 s23 n608 (b769, n770, n771, n772) = some out at h
 unfold ref13_Sums_b3 at h
 refine lS (lS (lO ?_))
 refine pq (qm (iO n770)) ?_
 refine pq (q_fieldP rfl fa33_2 rfl) ?_
 refine pq (ql (.one (.p fr20 (Sl.t r3 s17))) 0 sz30) ?_
 refine pq (qm (iO n608)) ?_
 refine pq (qb p_addY) ?_
 obtain ⟨n775, h774, h⟩ := bindS h
 obtain ⟨h774a, h774b, h774⟩ := atS_some h774
 refine pq (q_ixS rfl rfl h774a h774 (el30.trans (congrArg some h774b.symm))) ?_
 refine pq (q_loadI (v := iO n775) rfl sz3 (map_get h774) rfl rfl) ?_
 by_cases c776 : n770 < n775
 replace h := ifT c776 h
 refine pq (qb (p_lss_tZ c776)) ?_
 refine oE (eS (cT rfl (lK (eS (lS (lB (lS ?_)))))))
 refine L_still (by kernel_rfl) ?_
 refine sq (ql (.agg [iI n22, sC r70 s23]) 1 sz39) ?_
 refine sq (q_fieldP rfl fa33_3 rfl) ?_
 refine sq (ql (.one (.p fr20 (Sl.t r3 s18))) 0 sz30) ?_
 refine sq (qm (iO n770)) ?_
 obtain ⟨n779, h778, h⟩ := bindS h
 obtain ⟨h778a, h778b, h778⟩ := atS_some h778
 refine sq (q_ixS rfl rfl h778a h778 (el30.trans (congrArg some h778b.symm))) ?_
 refine sq (q_loadI (v := iO n779) rfl sz3 (map_get h778) rfl rfl) ?_
 obtain ⟨⟨n781, b782⟩, h780, h⟩ := bindS h
 refine sq (qc (.tup [iO n781, bO b782]) [.agg [iI n22, sC r70 s23], iO n779] (ref09_Get_r (m + 2) h780) (vw_cons (vd_agg (vc_cons vc_v (vc_cons vc_s vc_nil))) (vw_cons (vd_one vc_v) vw_nil))) ?_
 refine sq (qm (.tup [iO n781, bO b782])) ?_
 refine sq (q_ext (v := iO n781) rfl rfl) ?_
 refine sq (q_ext (v := bO b782) rfl rfl) ?_
 refine sq (qa (iO n781)) ?_
 refine sq (qa (bO b782)) ?_
 refine st_end (eS (lS (lS (lO ?_))))
 refine pq (qm (bO b782)) ?_
 rcases b782 with _ | _
 replace h := wF h
 refine pq (q_not rfl) ?_
 refine oE (eS (cT rfl (L_exit ?_)))
 refine E_seqX ?_
 refine bH (eS (lO ?_))
 refine pq (qm (iO n770)) ?_
 refine pq (qb p_addY) ?_
 refine pq (qa (iO (IntKind.i64.wrap (n770 + 1)))) ?_
 refine oE ?_
 obtain rfl := sj h
 exact E_next () (ups_self ⟨rfl, rfl, rfl, rfl, rfl, rfl, rfl, rfl, rfl, rfl, trivial⟩) [0, 1, 2, 3] (by decide) rfl
 replace h := wT h
 refine pq (q_not rfl) ?_
 refine oE (eS (cF rfl (lK (eS (lS (lO ?_))))))
 refine pq (qm (iO n1)) ?_
 refine pq (q_fieldP rfl fa33_4 rfl) ?_
 refine pq (ql (.one (.p fr20 (Sl.t r2 s19))) 0 sz31) ?_
 refine pq (qm (iO n770)) ?_
 obtain ⟨n785, h784, h⟩ := bindS h
 obtain ⟨h784a, h784b, h784⟩ := atS_some h784
 refine pq (q_ixS rfl rfl h784a h784 (el31.trans (congrArg some h784b.symm))) ?_
 refine pq (q_loadI (v := iO n785) rfl sz2 (map_get h784) rfl rfl) ?_
 refine pq (qm (iO n781)) ?_
 obtain ⟨⟨n787, n788⟩, h786, h⟩ := bindS h
 refine pq (qc (.agg [iI n787, uI n788]) [iO n1, iO n785, iO n781] (ref02_Mul_r (m + 1) h786) (vw_cons (vd_one vc_v) (vw_cons (vd_one vc_v) (vw_cons (vd_one vc_v) vw_nil)))) ?_
 refine ol_new rfl rfl rfl (q_alloc ty62 (row := [iI 0, uI 0]) rfl rfl) (fun k789 => ?_)
 refine ow [[iI n787, uI n788]] 0 sz62 ?_
 refine oE (eS (lS (lS (lO ?_))))
 refine pq (qm (bO b769)) ?_
 refine oE (eS ?_)
 rcases b769 with _ | _
 replace h := wF h
 refine cF rfl (lO ?_)
 refine pq (ql (.agg [iI n787, uI n788]) 0 sz62) ?_
 refine ow [[iI n787, uI n788]] 4 sz62 ?_
 refine oR ?_
 refine pq (qa bt) ?_
 refine oE (bN (eS (lO ?_)))
 refine pq (qm (iO n770)) ?_
 refine pq (qb p_addY) ?_
 refine pq (qa (iO (IntKind.i64.wrap (n770 + 1)))) ?_
 refine oE ?_
 obtain rfl := sj h
 exact E_next () (ups_self ⟨rfl, rfl, rfl, rfl, rfl, rfl, rfl, rfl, rfl, rfl, trivial⟩) [1, 2, 3, 4] (by decide) rfl
 replace h := wT h
 refine cT rfl (lO ?_)
 refine pq (qm (iO n1)) ?_
 refine pq (ql (.agg [iI n771, uI n772]) 4 sz62) ?_
 refine pq (ql (.agg [iI n787, uI n788]) 0 sz62) ?_
 obtain ⟨⟨n791, n792⟩, h790, h⟩ := bindS h
 refine pq (qc (.agg [iI n791, uI n792]) [iO n1, .agg [iI n771, uI n772], .agg [iI n787, uI n788]] (ref02_Add_r (m + 3) h790) (vw_cons (vd_one vc_v) (vw_cons (vd_agg (vc_cons vc_v (vc_cons vc_v vc_nil))) (vw_cons (vd_agg (vc_cons vc_v (vc_cons vc_v vc_nil))) vw_nil)))) ?_
 refine ow [[iI n791, uI n792]] 4 sz62 ?_
 refine oR ?_
 refine pq (qa bt) ?_
 refine oE (bN (eS (lO ?_)))
 refine pq (qm (iO n770)) ?_
 refine pq (qb p_addY) ?_
 refine pq (qa (iO (IntKind.i64.wrap (n770 + 1)))) ?_
 refine oE ?_
 obtain rfl := sj h
 exact E_next () (ups_self ⟨rfl, rfl, rfl, rfl, rfl, rfl, rfl, rfl, rfl, rfl, trivial⟩) [1, 2, 3, 4] (by decide) rfl
 replace h := ifF c776 h
 refine pq (qb (p_lss_fZ c776)) ?_
 refine oE (eS (cF rfl (L_exit ?_)))
 refine E_seqX ?_
 obtain rfl := sj h
 refine E_out ?_
 exact (E_exit () (ups_self ⟨rfl, rfl, rfl, rfl, rfl, rfl, rfl, rfl, rfl, trivial⟩) [0, 1, 2, 3] (by decide) rfl)
 rintro (⟨b793, n794, n795⟩ | u) h
 refine J_x (fun kt g => ?_)
 replace h := elimL h
 refine bH (eS (lS (lO ?_)))
 refine pq (qm (bO b793)) ?_
 refine oE (eS ?_)
 rcases b793 with _ | _
 replace h := wF h
 refine cF rfl (lK (bN (eS (lO ?_))))
 refine pq (qm (iO n608)) ?_
 refine pq (qb p_addY) ?_
 refine pq (qa (iO (IntKind.i64.wrap (n608 + 1)))) ?_
 refine oE ?_
 obtain rfl := sj h
 exact E_next k609 (ups_self ⟨rfl, rfl, rfl, rfl, rfl, rfl, rfl, trivial⟩) [0, 1, 2] (by decide) rfl
 replace h := wT h
 refine cT rfl (lO ?_)
 refine pq (qm (.one (moC l607 k609))) ?_
 refine pq (qm (iO n608)) ?_
 refine pq (ql (.agg [iI n794, uI n795]) 3 sz62) ?_
 refine pq (q_build (cs := [iI n608, iI n794, uI n795]) ty64 rfl pl64 rfl) ?_
 refine ol_new rfl rfl rfl (q_bslice (cs := [iI n608, iI n794, uI n795]) (es := (([(n608, (n794, n795))] : List (Int × (Int × Int)))).map (rowC r63)) ty29 rfl ty64 rfl rfl rfl rfl rfl) (fun k796 => ?_)
 obtain ⟨_, h797, h⟩ := bindS h
 obtain ⟨h797b, rfl⟩ := app_some h797
 refine ol_appM (r := r63) (l := l607) (ys := ([(n608, (n794, n795))] : List (Int × (Int × Int)))) 3 rfl rfl rfl rfl rfl rfl (el_ownM (l := ([(n608, (n794, n795))] : List (Int × (Int × Int)))) 0 rfl) rfl h797 (fun y => rfl) el29 ty29 rfl rfl rfl rfl rfl (fun k798 => ?_)
 refine pq (qa (.one (moC (l607 ++ ([(n608, (n794, n795))] : List (Int × (Int × Int)))) k798))) ?_
 refine oE (bN (eS (lO ?_)))
 refine pq (qm (iO n608)) ?_
 refine pq (qb p_addY) ?_
 refine pq (qa (iO (IntKind.i64.wrap (n608 + 1)))) ?_
 refine oE ?_
 obtain rfl := sj h
 exact E_next k798 (ups_self ⟨rfl, rfl, rfl, rfl, rfl, rfl, rfl, trivial⟩) [2, 3, 0] (by decide) rfl
 obtain rfl := Option.some.inj (elimR h)
 exact J_up (fun s hs => hs)
 replace h := wT h
 refine pq (q_binB rfl rfl (eqeqlB4 _ _ _ _) rfl) ?_
 refine oE (eS (cT rfl (L_exit ?_)))
 refine E_seqX ?_
 refine bH (eS (lO ?_))
 refine pq (qm (iO n608)) ?_
 refine pq (qb p_addY) ?_
 refine pq (qa (iO (IntKind.i64.wrap (n608 + 1)))) ?_
 refine oE ?_
 obtain rfl := sj h
 exact E_next k609 (ups_self ⟨rfl, rfl, rfl, rfl, rfl, rfl, rfl, trivial⟩) [0, 1, 2] (by decide) rfl
 replace h := ifF c610 h
 refine pq (qb (p_lss_fZ c610)) ?_
 refine oE (eS (cF rfl (L_exit ?_)))
 refine E_seqX ?_
 obtain rfl := sj h
 refine E_out ?_
 exact (E_exit k609 (ups_self ⟨rfl, trivial⟩) [2] (by decide) rfl)
 rintro (l799 | u) h
 refine J_x (fun k800 g => ?_)
 replace h := elimL h
 refine bH (eS (lS (lO ?_)))
 refine pq (qm (.one (moC l799 k800))) ?_
 refine pq (qa (.one (moC l799 k800))) ?_
 refine pq (qa (iO 0)) ?_
 refine oE (eS (lR ?_))
 obtain rfl := sj h
 exact E_endF (.inr rfl) (res_tmp rfl (res_tmp rfl res_nil)) (vw_cons (vd_one (vc_M (r := r63) 0 rfl (fun x h m => rfl))) (vw_cons (vd_one vc_v) vw_nil)) oW rfl rfl
 obtain rfl := Option.some.inj (elimR h)
 exact J_up (fun s hs => hs)
noncomputable def ref13_SameSums_b1 (s1 : Sl (Int × (Int × Int))) (s2 : Sl (Int × (Int × Int))) (n29 : Int) : Option (Int ⊕ (Unit ⊕ Bool)) :=
 (if n29 < ((s1.l.length : Nat) : Int) then ((atS 3 s1 n29).bind fun (n33, (n34, n35)) => ((atS 3 s2 n29).bind fun (n38, (n39, n40)) => (if n33 = n38 ∧ n34 = n39 ∧ n35 = n40 then some (.inl (IntKind.i64.wrap (n29 + 1))) else some (.inr (.inr false))))) else some (.inr (.inl ())))
noncomputable def ref13_SameSums (s1 : Sl (Int × (Int × Int))) (s2 : Sl (Int × (Int × Int))) : Option (Bool) :=
 (if ((s1.l.length : Nat) : Int) ≠ ((s2.l.length : Nat) : Int) then some false else ((loopO (ref13_SameSums_b1 s1 s2) 0).bind (Sum.elim (fun _ => some true) (fun u => some u))))
theorem ref13_SameSums_r (m : Nat) {s1 : Sl (Int × (Int × Int))} {s2 : Sl (Int × (Int × Int))} {out : Bool} (h : ref13_SameSums s1 s2 = some out) : RunsP E1 (m + 1) 19 [.one (Sl.t r63 s1), .one (Sl.t r63 s2)] (.fresh, [.one (bT out)]) := by
 refine fn_F rfl (by rw [E1_fn]; exact show fiOf Tryd.prog 19 = _ by unfold fiOf; rw [Tryd.func19]; unfold Tryd.f19; rfl) rfl ?_
 dsimp only
 unfold ref13_SameSums at h
 refine lS (lO ?_)
 refine pq (qa bf) ?_
 refine oE (eS (lS (lS (lO ?_))))
 refine pq (qm (.one (sF r63 s1))) ?_
 refine pq (q_lenS rfl ty29 rfl rfl rfl rfl) ?_
 refine pq (qm (.one (sF r63 s2))) ?_
 refine pq (q_lenS rfl ty29 rfl rfl rfl rfl) ?_
 by_cases c3 : ((s1.l.length : Nat) : Int) ≠ ((s2.l.length : Nat) : Int)
 replace h := ifT c3 h
 refine pq (qb (p_neq_tZ c3)) ?_
 refine oE (eS (cT rfl (lS (lO ?_))))
 refine pq (qa bf) ?_
 refine oE (eS (lR (eR ?_)))
 obtain rfl := sj h
 exact eF1
 replace h := ifF c3 h
 refine pq (qb (p_neq_fZ c3)) ?_
 refine oE (eS (cF rfl (lK (eS (lS (lS (lO ?_)))))))
 refine pq (qa (iO 0)) ?_
 refine oE (eS (lB ?_))
 let S1 : Int → Unit → (Nat → D) → Nat → D := fun a kt g => ups g [(0, .one (sF r63 s1)), (1, .one (sF r63 s2)), (5, iO a)]
 let SL1 : Int → Unit → BL := fun a kt => ([] : BL)
 let G1 : Bool → Ex → St → Prop := fun u => endQ E1 [.tmp 4] (.fresh, [.one (bT u)])
 let Sx1 : Unit → Unit → (Nat → D) → Nat → D := fun a kt g => ups g []
 let SLx1 : Unit → Unit → BL := fun a kt => ([] : BL)
 let J1 : (Unit ⊕ Bool) → Ex → St → Prop := JX 26 0 Sx1 SLx1 G1
 refine L_loopS (ref13_SameSums_b1 s1 s2) S1 SL1 J1 JX_n 0 h () (ups_self ⟨rfl, rfl, rfl, trivial⟩) [] (by decide) rfl ?_ ?_
 rintro n29 _ g out h
 change ref13_SameSums_b1 s1 s2 n29 = some out at h
 unfold ref13_SameSums_b1 at h
 refine lS (lS (lO ?_))
 refine pq (qm (iO n29)) ?_
 refine pq (qm (.one (sF r63 s1))) ?_
 refine pq (q_lenS rfl ty29 rfl rfl rfl rfl) ?_
 by_cases c30 : n29 < ((s1.l.length : Nat) : Int)
 replace h := ifT c30 h
 refine pq (qb (p_lss_tZ c30)) ?_
 refine oE (eS (cT rfl (lK (eS (lS (lB (lS ?_)))))))
 refine L_still (by kernel_rfl) ?_
 refine sq (qm (.one (sF r63 s1))) ?_
 refine sq (qm (iO n29)) ?_
 obtain ⟨⟨n33, ⟨n34, n35⟩⟩, h32, h⟩ := bindS h
 obtain ⟨h32a, h32b, h32⟩ := atS_some h32
 refine sq (q_ixS rfl rfl h32a h32 (el29.trans (congrArg some h32b.symm))) ?_
 refine sq (q_loadI (v := .agg [iI n33, iI n34, uI n35]) rfl sz64 (map_get h32) rfl rfl) ?_
 refine sq (qm (.one (sF r63 s2))) ?_
 refine sq (qm (iO n29)) ?_
 obtain ⟨⟨n38, ⟨n39, n40⟩⟩, h37, h⟩ := bindS h
 obtain ⟨h37a, h37b, h37⟩ := atS_some h37
 refine sq (q_ixS rfl rfl h37a h37 (el29.trans (congrArg some h37b.symm))) ?_
 refine sq (q_loadI (v := .agg [iI n38, iI n39, uI n40]) rfl sz64 (map_get h37) rfl rfl) ?_
 by_cases c41 : n33 = n38 ∧ n34 = n39 ∧ n35 = n40
 replace h := ifT c41 h
 refine sq (q_binA rfl rfl (by rfl) (by rfl) (eqneqA64_t _ _ c41) rfl) ?_
 refine st_end (eS (cF rfl (lK (bN (eS (lO ?_))))))
 refine pq (qm (iO n29)) ?_
 refine pq (qb p_addY) ?_
 refine pq (qa (iO (IntKind.i64.wrap (n29 + 1)))) ?_
 refine oE ?_
 obtain rfl := sj h
 exact E_next () (ups_self ⟨rfl, rfl, rfl, trivial⟩) [] (by decide) rfl
 replace h := ifF c41 h
 refine sq (q_binA rfl rfl (by rfl) (by rfl) (eqneqA64_f _ _ c41) rfl) ?_
 refine st_end (eS (cT rfl (lS (lO ?_))))
 refine pq (qa bf) ?_
 refine oE (eS (lR (bR (eR ?_))))
 obtain rfl := sj h
 exact E_out (E_up (eF1))
 replace h := ifF c30 h
 refine pq (qb (p_lss_fZ c30)) ?_
 refine oE (eS (cF rfl (L_exit ?_)))
 refine E_seqX ?_
 obtain rfl := sj h
 refine E_out ?_
 exact (E_exit () (ups_self trivial) [] (by decide) rfl)
 rintro (_ | u) h
 refine J_x (fun kt g => ?_)
 replace h := elimL h
 refine bH (eS (lS (lO ?_)))
 refine pq (qa bt) ?_
 refine oE (eS (lR ?_))
 obtain rfl := sj h
 exact eF1
 obtain rfl := Option.some.inj (elimR h)
 exact J_up (fun s hs => hs)
end Ev
end Go.Proofs.YtlcfdmjkbaegpaaDoor
