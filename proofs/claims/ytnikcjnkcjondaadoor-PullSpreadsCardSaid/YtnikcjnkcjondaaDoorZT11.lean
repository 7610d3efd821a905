/- Texts of a claim, joined. -/
import Derived.Test.YtnikcjnkcjondaaDoorZT10
import Derived.Test.YtnikcjnkcjondaaDoorZT6
import Derived.Test.YtnikcjnkcjondaaDoorZT9
set_option linter.unusedVariables false
set_option linter.unusedSimpArgs false
section
namespace Go.Proofs.YtnikcjnkcjondaaDoor
namespace Ev
open Go
set_option linter.unusedVariables false
set_option linter.unusedSimpArgs false
set_option maxRecDepth 100000
set_option maxHeartbeats 1000000
attribute [local irreducible] OpsL StL TnL WpL EndL
noncomputable def pull_Sums_b2 (s20 : Sl (Int)) (s21 : Sl (Int)) (s22 : Sl (Int)) (n333 : Int) (n387 : Int) : Option (Int ⊕ (Unit ⊕ Empty)) :=
 ((atS 1 s20 (IntKind.i64.wrap (n333 + 1))).bind fun n390 => (if n387 < n390 then ((atS 1 s21 n387).bind fun n394 => ((flags_Has (⟨false, 0, []⟩ : Sl (Int)) n394).bind fun b396 => (if b396 = true then ((atS 1 s22 n387).bind fun n406 => ((atS 1 (⟨false, 0, []⟩ : Sl (Int)) n394).bind fun n409 => none)) else some (.inl (IntKind.i64.wrap (n387 + 1)))))) else some (.inr (.inl ()))))
noncomputable def pull_Sums_b3 (s20 : Sl (Int)) (s21 : Sl (Int)) (s22 : Sl (Int)) (n333 : Int) (n460 : Int) : Option (Int ⊕ (Unit ⊕ Empty)) :=
 ((atS 1 s20 (IntKind.i64.wrap (n333 + 1))).bind fun n463 => (if n460 < n463 then ((atS 1 s21 n460).bind fun n467 => ((flags_Has (⟨false, 0, []⟩ : Sl (Int)) n467).bind fun b469 => (if b469 = true then ((atS 1 s22 n460).bind fun n479 => ((atS 1 (⟨false, 0, []⟩ : Sl (Int)) n467).bind fun n482 => none)) else some (.inl (IntKind.i64.wrap (n460 + 1)))))) else some (.inr (.inl ()))))
noncomputable def pull_Sums_b1 (s10 : Sl (Int)) (n18 : Int) (s20 : Sl (Int)) (s21 : Sl (Int)) (s22 : Sl (Int)) (a : Int × Bool) : Option ((Int × Bool) ⊕ (Unit ⊕ Empty)) :=
 match a with
 | (n333, b334) => (if n333 < n18 then ((flags_Has s10 n333).bind fun b337 => (if b337 = true then (if b334 = true then some (.inl ((IntKind.i64.wrap (n333 + 1)), true)) else ((atS 1 s20 n333).bind fun n414 => ((loopO (pull_Sums_b3 s20 s21 s22 n333) n414).bind (Sum.elim (fun _ => some (.inl ((IntKind.i64.wrap (n333 + 1)), false))) (fun u => u.elim))))) else (if b334 = true then ((atS 1 s20 n333).bind fun n341 => ((loopO (pull_Sums_b2 s20 s21 s22 n333) n341).bind (Sum.elim (fun _ => some (.inl ((IntKind.i64.wrap (n333 + 1)), true))) (fun u => u.elim)))) else some (.inl ((IntKind.i64.wrap (n333 + 1)), false))))) else some (.inr (.inl ())))
noncomputable def pull_Sums_b5 (n1 : Int) (s8 : Sl (Int)) (s9 : Sl (Int)) (s20 : Sl (Int)) (s21 : Sl (Int)) (s22 : Sl (Int)) (n1339 : Int) (a : Bool × Int × Int × Int) : Option ((Bool × Int × Int × Int) ⊕ ((Bool × Int × Int) ⊕ Empty)) :=
 match a with
 | (b1442, n1443, n1444, n1445) => ((atS 1 s20 (IntKind.i64.wrap (n1339 + 1))).bind fun n1448 => (if n1443 < n1448 then ((atS 1 s21 n1443).bind fun n1452 => ((flags_Has s8 n1452).bind fun b1454 => (if b1454 = true then ((atS 1 s22 n1443).bind fun n1467 => ((atS 1 s9 n1452).bind fun n1470 => ((ring_Mul n1 n1467 n1470).bind fun (n1472, n1473) => (if b1442 = true then ((ring_Add n1 (n1444, n1445) (n1472, n1473)).bind fun (n1475, n1476) => some (.inl (true, (IntKind.i64.wrap (n1443 + 1)), n1475, n1476))) else some (.inl (true, (IntKind.i64.wrap (n1443 + 1)), n1472, n1473)))))) else some (.inl (b1442, (IntKind.i64.wrap (n1443 + 1)), n1444, n1445))))) else some (.inr (.inl (b1442, n1444, n1445)))))
noncomputable def pull_Sums_b6 (n1 : Int) (s8 : Sl (Int)) (s9 : Sl (Int)) (s20 : Sl (Int)) (s21 : Sl (Int)) (s22 : Sl (Int)) (n1339 : Int) (a : Bool × Int × Int × Int) : Option ((Bool × Int × Int × Int) ⊕ ((Bool × Int × Int) ⊕ Empty)) :=
 match a with
 | (b1580, n1581, n1582, n1583) => ((atS 1 s20 (IntKind.i64.wrap (n1339 + 1))).bind fun n1586 => (if n1581 < n1586 then ((atS 1 s21 n1581).bind fun n1590 => ((flags_Has s8 n1590).bind fun b1592 => (if b1592 = true then ((atS 1 s22 n1581).bind fun n1605 => ((atS 1 s9 n1590).bind fun n1608 => ((ring_Mul n1 n1605 n1608).bind fun (n1610, n1611) => (if b1580 = true then ((ring_Add n1 (n1582, n1583) (n1610, n1611)).bind fun (n1613, n1614) => some (.inl (true, (IntKind.i64.wrap (n1581 + 1)), n1613, n1614))) else some (.inl (true, (IntKind.i64.wrap (n1581 + 1)), n1610, n1611)))))) else some (.inl (b1580, (IntKind.i64.wrap (n1581 + 1)), n1582, n1583))))) else some (.inr (.inl (b1580, n1582, n1583)))))
noncomputable def pull_Sums_b4 (n1 : Int) (s8 : Sl (Int)) (s9 : Sl (Int)) (s10 : Sl (Int)) (n18 : Int) (s20 : Sl (Int)) (s21 : Sl (Int)) (s22 : Sl (Int)) (a : Int × Bool × (List (Int × (Int × Int)))) : Option ((Int × Bool × (List (Int × (Int × Int)))) ⊕ ((List (Int × (Int × Int))) ⊕ Empty)) :=
 match a with
 | (n1339, b1340, l1341) => (if n1339 < n18 then ((flags_Has s10 n1339).bind fun b1345 => (if b1345 = true then (if b1340 = true then some (.inl ((IntKind.i64.wrap (n1339 + 1)), true, l1341)) else ((atS 1 s20 n1339).bind fun n1487 => ((loopO (pull_Sums_b6 n1 s8 s9 s20 s21 s22 n1339) (false, n1487, 0, 0)).bind (Sum.elim (fun ⟨b1615, n1616, n1617⟩ => (if b1615 = true then ((app l1341 ([(n1339, (n1616, n1617))] : List (Int × (Int × Int)))).bind fun _ => some (.inl ((IntKind.i64.wrap (n1339 + 1)), false, (l1341 ++ ([(n1339, (n1616, n1617))] : List (Int × (Int × Int))))))) else some (.inl ((IntKind.i64.wrap (n1339 + 1)), false, l1341)))) (fun u => u.elim))))) else (if b1340 = true then ((atS 1 s20 n1339).bind fun n1349 => ((loopO (pull_Sums_b5 n1 s8 s9 s20 s21 s22 n1339) (false, n1349, 0, 0)).bind (Sum.elim (fun ⟨b1477, n1478, n1479⟩ => (if b1477 = true then ((app l1341 ([(n1339, (n1478, n1479))] : List (Int × (Int × Int)))).bind fun _ => some (.inl ((IntKind.i64.wrap (n1339 + 1)), true, (l1341 ++ ([(n1339, (n1478, n1479))] : List (Int × (Int × Int))))))) else some (.inl ((IntKind.i64.wrap (n1339 + 1)), true, l1341)))) (fun u => u.elim)))) else some (.inl ((IntKind.i64.wrap (n1339 + 1)), false, l1341))))) else some (.inr (.inl l1341)))
noncomputable def pull_Sums (n1 : Int) (a1 : Int × Int × Sl (Int) × Sl (Int) × Sl (Int)) (a2 : Int × Sl (Int) × Sl (Int)) (s10 : Sl (Int)) (b11 : Bool) : Option ((Sl (Int × (Int × Int))) × Int) :=
 match a1, a2 with
 | (n2, n3, s4, s5, s6), (n7, s8, s9) => ((ring_Is n1).bind fun b16 => (if b16 = true then ((pull_sure (n2, n3, s4, s5, s6)).bind fun (n18, n19, s20, s21, s22) => ((devec_Right (n7, s8, s9)).bind fun b25 => (if b25 = true then (if n7 ≠ n19 then some ((⟨false, 0, []⟩ : Sl (Int × (Int × Int))), 4) else ((loopO (pull_Sums_b4 n1 s8 s9 s10 n18 s20 s21 s22) (0, b11, ([] : List (Int × (Int × Int))))).bind (Sum.elim (fun l1622 => some ((mo 3 l1622), 0)) (fun u => u.elim)))) else (if (0 : Int) ≠ n19 then some ((⟨false, 0, []⟩ : Sl (Int × (Int × Int))), 4) else ((loopO (pull_Sums_b1 s10 n18 s20 s21 s22) (0, b11)).bind (Sum.elim (fun _ => some ((⟨false, 0, []⟩ : Sl (Int × (Int × Int))), 0)) (fun u => u.elim))))))) else some ((⟨false, 0, []⟩ : Sl (Int × (Int × Int))), 8)))
theorem pull_Sums_r (m : Nat) {n1 : Int} {a1 : Int × Int × Sl (Int) × Sl (Int) × Sl (Int)} {a2 : Int × Sl (Int) × Sl (Int)} {s10 : Sl (Int)} {b11 : Bool} {out : (Sl (Int × (Int × Int))) × Int} (h : pull_Sums n1 a1 a2 s10 b11 = some out) : RunsP E1 (m + 6) 27 [.one (iT .i64 n1), .agg (r32 a1), .agg (r42 a2), .one (Sl.t r62 s10), .one (bT b11)] (.fresh, [.one (Sl.t r78 out.1), .one (iT .i64 out.2)]) := by
 obtain ⟨n2, n3, s4, s5, s6⟩ := a1
 obtain ⟨n7, s8, s9⟩ := a2
 refine fn_F rfl (by rw [E1_fn]; exact show fiOf Tryd.prog 27 = _ by unfold fiOf; rw [Tryd.func27]; unfold Tryd.f27; rfl) rfl ?_
 dsimp only
 unfold pull_Sums at h
 refine lS (lO ?_)
 refine ol_new rfl rfl rfl (q_box ty22 rfl (cs := [iI n1]) rfl rfl) (fun k12 => ?_)
 refine ol_new rfl rfl rfl (q_box ty33 rfl (cs := [iI n2, iI n3, sF r3 s4, sF r3 s5, sF r2 s6]) rfl rfl) (fun k13 => ?_)
 refine ol_new rfl rfl rfl (q_box ty43 rfl (cs := [iI n7, sF r62 s8, sF r2 s9]) rfl rfl) (fun k14 => ?_)
 refine pq (qa (.one nC)) ?_
 refine pq (qa (iO 0)) ?_
 refine oE (eS (lS (lS (lO ?_))))
 refine pq (ql (iO n1) 2 sz22) ?_
 obtain ⟨b16, h15, h⟩ := bindS h
 refine pq (qc (bO b16) [iO n1] (ring_Is_r (m + 4) h15) (vw_cons (vd_one vc_v) vw_nil)) ?_
 rcases b16 with _ | _
 replace h := wF h
 refine pq (q_not rfl) ?_
 refine oE (eS (cT rfl (lS (lO ?_))))
 refine pq (qa (.one nC)) ?_
 refine pq (qa (iO 8)) ?_
 refine oE (eS (lR (eR ?_)))
 obtain rfl := sj h
 exact E_endF (.inr rfl) (res_tmp rfl (res_tmp rfl res_nil)) (vw_cons (vd_one vc_s) (vw_cons (vd_one vc_v) vw_nil)) oW rfl rfl
 replace h := wT h
 refine pq (q_not rfl) ?_
 refine oE (eS (cF rfl (lK (eS (lS (lO ?_))))))
 refine pq (ql (.agg [iI n2, iI n3, sF r3 s4, sF r3 s5, sF r2 s6]) 1 sz33) ?_
 obtain ⟨⟨n18, n19, s20, s21, s22⟩, h17, h⟩ := bindS h
 refine ol_putX rfl rfl rfl (q_callX (v := fun fr23 => .agg [iI n18, iI n19, .p fr23 (Sl.t r3 s20), .p fr23 (Sl.t r3 s21), .p fr23 (Sl.t r2 s22)]) (args := [.agg [iI n2, iI n3, sF r3 s4, sF r3 s5, sF r2 s6]]) (pull_sure_r (m + 2) h17) rfl rfl (vw_cons (vd_agg (vc_cons vc_v (vc_cons vc_v (vc_cons vc_s (vc_cons vc_s (vc_cons vc_s vc_nil)))))) vw_nil) rfl rfl (fun fr => rfl)) (fun fr23 => ?_)
 refine ow [[iI n18, iI n19, .p fr23 (Sl.t r3 s20), .p fr23 (Sl.t r3 s21), .p fr23 (Sl.t r2 s22)]] 1 sz33 ?_
 refine oE (eS (lS (lS (lO ?_))))
 refine pq (ql (.agg [iI n7, sF r62 s8, sF r2 s9]) 0 sz43) ?_
 obtain ⟨b25, h24, h⟩ := bindS h
 refine pq (qc (bO b25) [.agg [iI n7, sF r62 s8, sF r2 s9]] (devec_Right_r (m + 0) h24) (vw_cons (vd_agg (vc_cons vc_v (vc_cons vc_s (vc_cons vc_s vc_nil)))) vw_nil)) ?_
 rcases b25 with _ | _
 replace h := wF h
 refine pq (q_not rfl) ?_
 refine oE (eS (cT rfl (lO ?_)))
 refine pq (q_build (cs := [iI 0, nC, nC]) ty43 rfl pl43 rfl) ?_
 refine ow [[iI 0, nC, nC]] 0 sz43 ?_
 refine oE (eS (lS (lS (lO ?_))))
 refine pq (q_fieldP rfl fa43_0 rfl) ?_
 refine pq (ql (iO 0) 0 sz3) ?_
 refine pq (q_fieldP rfl fa33_1 rfl) ?_
 refine pq (ql (iO n19) 1 sz3) ?_
 by_cases c26 : (0 : Int) ≠ n19
 replace h := ifT c26 h
 refine pq (qb (p_neq_tZ c26)) ?_
 refine oE (eS (cT rfl (lS (lO ?_))))
 refine pq (qa (.one nC)) ?_
 refine pq (qa (iO 4)) ?_
 refine oE (eS (lR (eR ?_)))
 obtain rfl := sj h
 exact E_endF (.inr rfl) (res_tmp rfl (res_tmp rfl res_nil)) (vw_cons (vd_one vc_s) (vw_cons (vd_one vc_v) vw_nil)) oW rfl rfl
 replace h := ifF c26 h
 refine pq (qb (p_neq_fZ c26)) ?_
 refine oE (eS (cF rfl (lK (eS (lS (lO ?_))))))
 refine pq (q_mkfun rfl rfl) ?_
 refine ol_new rfl rfl rfl (q_alloc ty92 (row := [.p true (.v .nilFunc)]) rfl rfl) (fun k27 => ?_)
 refine ow [[.clo (.func 45) [] [.ptr k13 0 0, .ptr k14 0 0, .ptr k12 0 0]]] 0 sz92 ?_
 refine oN ?_
 refine ol_new rfl rfl rfl (q_alloc ty67 (row := [nC]) rfl rfl) (fun k28 => ?_)
 refine oE (eS (lS (lS (lO ?_))))
 refine pq (q_fieldP rfl fa33_0 rfl) ?_
 refine pq (ql (iO n18) 3 sz3) ?_
 refine pq (qm (.one (sF r62 s10))) ?_
 refine pq (qm (bO b11)) ?_
 refine ol_scallN (args := [iO n18, .one (sF r62 s10), bO b11]) rfl rfl rfl ax49 (by rw [E1_fn]; exact show fiOf Tryd.prog 49 = _ by unfold fiOf; rw [Tryd.func49]; unfold Tryd.f49; rfl) rfl rfl rfl ?_
 dsimp only
 refine lS (lO ?_)
 refine ol_new rfl rfl rfl (q_box ty3 rfl (cs := [iI n18]) rfl rfl) (fun k29 => ?_)
 refine ol_new rfl rfl rfl (q_box ty26 rfl (cs := [sF r62 s10]) rfl rfl) (fun k30 => ?_)
 refine ol_new rfl rfl rfl (q_box ty4 rfl (cs := [bC b11]) rfl rfl) (fun k31 => ?_)
 refine pq (qa (.one (.p true (.v .nilFunc)))) ?_
 refine oN ?_
 refine pq (q_mkfun rfl rfl) ?_
 refine pq (qa (.one (.clo (.func 66) [] [.ptr k29 0 0, .ptr k30 0 0, .ptr k31 0 0]))) ?_
 refine oE (eS (lR ?_))
 refine E_call (v := .one (.clo (.func 66) [] [.ptr k29 0 0, .ptr k30 0 0, .ptr k31 0 0])) (.inr rfl) (res_tmp (d := .one (.clo (.func 66) [] [.ptr k29 0 0, .ptr k30 0 0, .ptr k31 0 0])) rfl res_nil) rfl ?_
 refine oE (eS (lB ?_))
 refine L_range rfl (by rw [E1_fn]; exact show fiOf Tryd.prog 66 = _ by unfold fiOf; rw [Tryd.func66]; unfold Tryd.f66; rfl) rfl rfl (fun k32 => ?_)
 dsimp only
 refine lS (lO ?_)
 refine pq (ql (iO n18) 3 sz3) ?_
 refine pq (qm (iO 0)) ?_
 refine oE (eS (lB ?_))
 let S1 : (Int × Bool) → Unit → (Nat → D) → Nat → D := fun a kt g => ups g [(0, .one (.yld k32)), (2, .one (.ptr k30 0 0)), (3, .one (.ptr k31 0 0)), (6, iO n18), (7, .one (iI a.1))]
 let SL1 : (Int × Bool) → Unit → BL := fun a kt => ([[(k32, 0, [])], [(k30, 1, [[sF r62 s10]])], [(k31, 1, [[bC a.2]])], [(k27, 1, [[.clo (.func 45) [] [.ptr k13 0 0, .ptr k14 0 0, .ptr k12 0 0]]])], [(k28, 1, [[nC]])], [(k13, 5, [[iI n18, iI n19, .p fr23 (Sl.t r3 s20), .p fr23 (Sl.t r3 s21), .p fr23 (Sl.t r2 s22)]])], [(k14, 3, [[iI 0, nC, nC]])], [(k12, 1, [[iI n1]])]] : BL)
 let G1 : Empty → Ex → St → Prop := fun u => u.elim
 let Sx1 : Unit → Unit → (Nat → D) → Nat → D := fun a kt g => ups g []
 let SLx1 : Unit → Unit → BL := fun a kt => ([[(k27, 1, [[.clo (.func 45) [] [.ptr k13 0 0, .ptr k14 0 0, .ptr k12 0 0]]])], [(k28, 1, [[nC]])], [(k32, 0, [])], [(k13, 5, [[iI n18, iI n19, .p fr23 (Sl.t r3 s20), .p fr23 (Sl.t r3 s21), .p fr23 (Sl.t r2 s22)]])], [(k14, 3, [[iI 0, nC, nC]])], [(k12, 1, [[iI n1]])]] : BL)
 let J1 : (Unit ⊕ Empty) → Ex → St → Prop := JX 22 0 Sx1 SLx1 G1
 refine L_loopS (pull_Sums_b1 s10 n18 s20 s21 s22) S1 SL1 J1 JX_n (0, b11) h () (ups_self ⟨rfl, rfl, rfl, rfl, rfl, trivial⟩) [0, 2, 1, 5, 4, 7, 6, 8] (by decide) rfl ?_ ?_
 rintro ⟨n333, b334⟩ _ g out h
 change pull_Sums_b1 s10 n18 s20 s21 s22 (n333, b334) = some out at h
 unfold pull_Sums_b1 at h
 refine lS (lO ?_)
 by_cases c335 : n333 < n18
 replace h := ifT c335 h
 refine pq (qb (p_lss_tZ c335)) ?_
 refine oE (eS (lS (cT rfl (lK (eS (lS (lB (lS (lO ?_)))))))))
 refine pq (qm (iO n333)) ?_
 refine pq (qa (iO n333)) ?_
 refine oE (eS (lS ?_))
 refine L_cut 8 (by kernel_rfl) (by kernel_rfl) ?_
 refine sq (ql (.one (sF r62 s10)) 1 sz26) ?_
 refine sq (qm (iO n333)) ?_
 obtain ⟨b337, h336, h⟩ := bindS h
 refine sq (qc (bO b337) [.one (sF r62 s10), iO n333] (flags_Has_r (m + 2) h336) (vw_cons (vd_one vc_s) (vw_cons (vd_one vc_v) vw_nil))) ?_
 refine sq (ql (bO b334) 2 sz4) ?_
 rcases b337 with _ | _
 replace h := wF h
 rcases b334 with _ | _
 replace h := wF h
 refine sq (q_binB rfl rfl (eqneqB4 _ _ _ _) rfl) ?_
 refine sq (qm bf) ?_
 iterate 2 refine ss ?_
 refine st_cut ?_
 iterate 2 refine os ?_
 refine pq (qpf bf) ?_
 refine oE (eS (cF rfl (lK (bN (eS (lO ?_))))))
 refine pq (qb p_addY) ?_
 refine pq (qm (iO (IntKind.i64.wrap (n333 + 1)))) ?_
 refine oE ?_
 obtain rfl := sj h
 exact E_next () (ups_self ⟨rfl, rfl, rfl, rfl, rfl, trivial⟩) [0, 1, 2, 3, 4, 5, 6, 7] (by decide) rfl
 replace h := wT h
 refine sq (q_binB rfl rfl (eqneqB4 _ _ _ _) rfl) ?_
 refine sq (qm bt) ?_
 refine sq (qm (.one (.yld k32))) ?_
 refine sq (qm (iO n333)) ?_
 refine st_cut ?_
 refine ol_yield (args := [iO n333]) (p := 0) rfl rfl rfl rfl rfl rfl rfl rfl rfl ?_
 refine lO ?_
 refine pq (qa (iO n333)) ?_
 refine oE ?_
 refine E_asg ?_
 refine lB (lS (lO ?_))
 refine pq (ql (.one (.clo (.func 45) [] [.ptr k13 0 0, .ptr k14 0 0, .ptr k12 0 0])) 3 sz92) ?_
 refine pq (qm (iO n333)) ?_
 refine ol_scall (args := [iO n333, .one (.ptr k13 0 0), .one (.ptr k14 0 0), .one (.ptr k12 0 0)]) rfl rfl rfl rfl (by rw [E1_fn]; exact show fiOf Tryd.prog 45 = _ by unfold fiOf; rw [Tryd.func45]; unfold Tryd.f45; rfl) rfl rfl rfl ?_
 dsimp only
 refine lS (lO ?_)
 refine ol_new rfl rfl rfl (q_alloc ty64 (row := [iI 0, uI 0]) rfl rfl) (fun k338 => ?_)
 refine pq (qa bf) ?_
 refine oE (eS (lS (lS (lO ?_))))
 refine pq (q_fieldP rfl fa33_2 rfl) ?_
 refine pq (ql (.one (.p fr23 (Sl.t r3 s20))) 6 sz30) ?_
 refine pq (qm (iO n333)) ?_
 obtain ⟨n341, h340, h⟩ := bindS h
 obtain ⟨h340a, h340b, h340⟩ := atS_some h340
 refine pq (q_ixS rfl rfl h340a h340 (el30.trans (congrArg some h340b.symm))) ?_
 refine pq (q_loadI (v := iO n341) rfl sz3 (map_get h340) rfl rfl) ?_
 refine pq (qa (iO n341)) ?_
 refine oE (eS (lB ?_))
 let S2 : Int → Unit → (Nat → D) → Nat → D := fun a kt g => ups g [(0, iO n333), (1, .one (.ptr k13 0 0)), (2, .one (.ptr k14 0 0)), (3, .one (.ptr k12 0 0)), (5, .one (.ptr k338 0 0)), (6, bf), (7, iO a)]
 let SL2 : Int → Unit → BL := fun a kt => ([[(k13, 5, [[iI n18, iI n19, .p fr23 (Sl.t r3 s20), .p fr23 (Sl.t r3 s21), .p fr23 (Sl.t r2 s22)]])], [(k14, 3, [[iI 0, nC, nC]])], [(k12, 1, [[iI n1]])], [(k338, 2, [[iI 0, uI 0]])], [(k27, 1, [[.clo (.func 45) [] [.ptr k13 0 0, .ptr k14 0 0, .ptr k12 0 0]]])], [(k28, 1, [[nC]])], [(k32, 0, [])], [(k30, 1, [[sF r62 s10]])], [(k31, 1, [[bC true]])]] : BL)
 let G2 : Empty → Ex → St → Prop := fun u => u.elim
 let Sx2 : Unit → Unit → (Nat → D) → Nat → D := fun a kt g => ups g [(5, .one (.ptr k338 0 0)), (6, bf)]
 let SLx2 : Unit → Unit → BL := fun a kt => ([[(k338, 2, [[iI 0, uI 0]])], [(k27, 1, [[.clo (.func 45) [] [.ptr k13 0 0, .ptr k14 0 0, .ptr k12 0 0]]])], [(k28, 1, [[nC]])], [(k32, 0, [])], [(k30, 1, [[sF r62 s10]])], [(k31, 1, [[bC true]])], [(k13, 5, [[iI n18, iI n19, .p fr23 (Sl.t r3 s20), .p fr23 (Sl.t r3 s21), .p fr23 (Sl.t r2 s22)]])], [(k14, 3, [[iI 0, nC, nC]])], [(k12, 1, [[iI n1]])]] : BL)
 let J2 : (Unit ⊕ Empty) → Ex → St → Prop := JX 55 0 Sx2 SLx2 G2
 refine L_loopS (pull_Sums_b2 s20 s21 s22 n333) S2 SL2 J2 JX_n n341 h () (ups_self ⟨rfl, rfl, rfl, rfl, rfl, rfl, rfl, trivial⟩) [6, 7, 8, 0, 4, 5, 1, 2, 3] (by decide) rfl ?_ ?_
 rintro n387 _ g out h
 change pull_Sums_b2 s20 s21 s22 n333 n387 = some out at h
 unfold pull_Sums_b2 at h
 refine lS (lS (lO ?_))
 refine pq (qm (iO n387)) ?_
 refine pq (q_fieldP rfl fa33_2 rfl) ?_
 refine pq (ql (.one (.p fr23 (Sl.t r3 s20))) 0 sz30) ?_
 refine pq (qm (iO n333)) ?_
 refine pq (qb p_addY) ?_
 obtain ⟨n390, h389, h⟩ := bindS h
 obtain ⟨h389a, h389b, h389⟩ := atS_some h389
 refine pq (q_ixS rfl rfl h389a h389 (el30.trans (congrArg some h389b.symm))) ?_
 refine pq (q_loadI (v := iO n390) rfl sz3 (map_get h389) rfl rfl) ?_
 by_cases c391 : n387 < n390
 replace h := ifT c391 h
 refine pq (qb (p_lss_tZ c391)) ?_
 refine oE (eS (cT rfl (lK (eS (lS (lB (lS (lO ?_))))))))
 refine pq (q_fieldP rfl fa33_3 rfl) ?_
 refine pq (ql (.one (.p fr23 (Sl.t r3 s21))) 0 sz30) ?_
 refine pq (qm (iO n387)) ?_
 obtain ⟨n394, h393, h⟩ := bindS h
 obtain ⟨h393a, h393b, h393⟩ := atS_some h393
 refine pq (q_ixS rfl rfl h393a h393 (el30.trans (congrArg some h393b.symm))) ?_
 refine pq (q_loadI (v := iO n394) rfl sz3 (map_get h393) rfl rfl) ?_
 refine pq (qa (iO n394)) ?_
 refine oE (eS (lS (lS (lO ?_))))
 refine pq (q_fieldP rfl fa43_1 rfl) ?_
 refine pq (ql (.one nC) 1 sz26) ?_
 refine pq (qm (iO n394)) ?_
 obtain ⟨b396, h395, h⟩ := bindS h
 refine pq (qc (bO b396) [.one nC, iO n394] (flags_Has_r (m + 2) h395) (vw_cons (vd_one vc_s) (vw_cons (vd_one vc_v) vw_nil))) ?_
 rcases b396 with _ | _
 replace h := wF h
 refine pq (q_not rfl) ?_
 refine oE (eS (cT rfl (L_exit ?_)))
 refine E_seqX ?_
 refine bH (eS (lO ?_))
 refine pq (qm (iO n387)) ?_
 refine pq (qb p_addY) ?_
 refine pq (qa (iO (IntKind.i64.wrap (n387 + 1)))) ?_
 refine oE ?_
 obtain rfl := sj h
 exact E_next () (ups_self ⟨rfl, rfl, rfl, rfl, rfl, rfl, rfl, trivial⟩) [0, 1, 2, 3, 4, 5, 6, 7, 8] (by decide) rfl
 replace h := wT h
 refine pq (q_not rfl) ?_
 refine oE (eS (cF rfl (lK (eS (lS ?_)))))
 refine L_norm (L2 := ([[(k13, 5, [[iI n18, iI n19, .p fr23 (Sl.t r3 s20), .p fr23 (Sl.t r3 s21), .p fr23 (Sl.t r2 s22)]])], [(k14, 3, [[iI 0, nC, nC]])], [(k12, 1, [[iI n1]])], [(k338, 2, [[iI 0, uI 0]])], [(k27, 1, [[.clo (.func 45) [] [.ptr k13 0 0, .ptr k14 0 0, .ptr k12 0 0]]])], [(k28, 1, [[nC]])], [(k32, 0, [])], [(k30, 1, [[sF r62 s10]])], [(k31, 1, [[bC true]])]] : BL)) [0, 1, 2, 3, 4, 5, 6, 7, 8] (by decide) rfl ?_
 refine L_turn 14 rfl [[], [], [], [], [], [], [], [], [], [], [], [], [], []] [(false, []), (false, []), (false, []), (false, []), (false, []), (false, []), (false, []), (false, []), (false, []), (false, []), (false, []), (false, []), (false, []), (false, [])] [[1, 2, 3, 4, 5, 6, 7, 8, 9, 10, 12], [0, 3, 6, 7, 8, 9, 10, 12], [0, 3, 6, 7, 8, 9, 10, 12], [0, 1, 2, 6, 7, 8, 9, 10, 12], [0, 6, 7, 8, 9, 10, 12], [0, 6, 7, 8, 9, 10, 12], [0, 1, 2, 3, 4, 5, 8, 12], [0, 1, 2, 3, 4, 5, 8, 12], [0, 1, 2, 3, 4, 5, 6, 7, 12], [0, 1, 2, 3, 4, 5, 12], [0, 1, 2, 3, 4, 5, 12], [12], [0, 1, 2, 3, 4, 5, 6, 7, 8, 9, 10, 11], []] (by kernel_rfl) (by kernel_rfl) (by kernel_rfl) ?_ (fun bb397 hlt hnd => ?_)
 intro bb397 hlt hnd
 exact ⟨⟨djE, ⟨djE, ⟨djE, ⟨djE, ⟨djE, ⟨djE, ⟨djE, ⟨djE, ⟨djE, ⟨djE, ⟨djE, ⟨djE, ⟨djE, ⟨djE, trivial⟩⟩⟩⟩⟩⟩⟩⟩⟩⟩⟩⟩⟩⟩, (ltO_cons ltK_nil (ltO_cons ltK_nil (ltO_cons ltK_nil (ltO_cons ltK_nil (ltO_cons ltK_nil (ltO_cons ltK_nil (ltO_cons ltK_nil (ltO_cons ltK_nil (ltO_cons ltK_nil (ltO_cons ltK_nil (ltO_cons ltK_nil (ltO_cons ltK_nil (ltO_cons ltK_nil (ltO_cons ltK_nil ltO_nil))))))))))))))⟩
 refine tq [2] rfl (hm0 rfl) (ql (iO n1) 0 sz22) ?_
 refine tq [] rfl (hm0 rfl) (q_fieldP rfl fa33_4 rfl) ?_
 refine tq [0] rfl (hm0 rfl) (ql (.one (.p fr23 (Sl.t r2 s22))) 0 sz31) ?_
 refine tq [] rfl (hm0 rfl) (qm (iO n387)) ?_
 obtain ⟨n406, h405, h⟩ := bindS h
 obtain ⟨h405a, h405b, h405⟩ := atS_some h405
 refine tq [] rfl (hm0 rfl) (q_ixS rfl rfl h405a h405 (el31.trans (congrArg some h405b.symm))) ?_
 refine tq [] rfl (hm0 rfl) (q_loadI (v := iO n406) rfl sz2 (map_get h405) rfl rfl) ?_
 refine tq [] rfl (hm0 rfl) (q_fieldP rfl fa43_2 rfl) ?_
 refine tq [1] rfl (hm0 rfl) (ql (.one nC) 0 sz31) ?_
 refine tq [] rfl (hm0 rfl) (qm (iO n394)) ?_
 obtain ⟨n409, h408, h⟩ := bindS h
 exact (atS_nil h408).elim
 replace h := ifF c391 h
 refine pq (qb (p_lss_fZ c391)) ?_
 refine oE (eS (cF rfl (L_exit ?_)))
 refine E_seqX ?_
 obtain rfl := sj h
 refine E_out ?_
 exact (E_exit () (ups_self ⟨rfl, rfl, trivial⟩) [3, 4, 5, 6, 7, 8, 0, 1, 2] (by decide) rfl)
 rintro (_ | u) h
 refine J_x (fun kt g => ?_)
 replace h := elimL h
 refine bH (eS (lS (lO ?_)))
 refine pq (ql (.agg [iI 0, uI 0]) 0 sz64) ?_
 refine pq (qm bf) ?_
 refine ow [[iI 0, uI 0]] 0 sz64 ?_
 refine pq (qa bf) ?_
 refine oE (eS (lR ?_))
 refine E_call (v := .tup [.agg [iI 0, uI 0], bf]) (.inr rfl) (res_cell (d := .agg [iI 0, uI 0]) 0 rfl sz64 rfl rfl rfl rfl (res_tmp (d := bf) rfl res_nil)) rfl ?_
 refine pq (qm (.tup [.agg [iI 0, uI 0], bf])) ?_
 refine pq (q_ext (v := .agg [iI 0, uI 0]) rfl rfl) ?_
 refine pq (q_ext (v := bf) rfl rfl) ?_
 refine ol_new rfl rfl rfl (q_alloc ty64 (row := [iI 0, uI 0]) rfl rfl) (fun k410 => ?_)
 refine ow [[iI 0, uI 0]] 0 sz64 ?_
 refine pq (qa bf) ?_
 refine oN ?_
 refine pq (qm bf) ?_
 refine oE (eS (cF rfl (lK (bN ?_))))
 refine E_roundN (p := 4) rfl ?_
 refine pq (q_not rfl) ?_
 refine pq (qpt bf) ?_
 refine oE (eS (cF rfl (lK (bN (eS (lO ?_))))))
 refine pq (qb p_addY) ?_
 refine pq (qm (iO (IntKind.i64.wrap (n333 + 1)))) ?_
 refine oE ?_
 obtain rfl := sj h
 exact E_next () (ups_self ⟨rfl, rfl, rfl, rfl, rfl, trivial⟩) [4, 5, 6, 2, 3, 7, 8, 9] (by decide) rfl
 exact u.elim
 replace h := wT h
 rcases b334 with _ | _
 replace h := wF h
 refine sq (q_binB rfl rfl (eqneqB4 _ _ _ _) rfl) ?_
 refine sq (qm bt) ?_
 refine sq (qm (.one (.yld k32))) ?_
 refine sq (qm (iO n333)) ?_
 refine st_cut ?_
 refine ol_yield (args := [iO n333]) (p := 0) rfl rfl rfl rfl rfl rfl rfl rfl rfl ?_
 refine lO ?_
 refine pq (qa (iO n333)) ?_
 refine oE ?_
 refine E_asg ?_
 refine lB (lS (lO ?_))
 refine pq (ql (.one (.clo (.func 45) [] [.ptr k13 0 0, .ptr k14 0 0, .ptr k12 0 0])) 3 sz92) ?_
 refine pq (qm (iO n333)) ?_
 refine ol_scall (args := [iO n333, .one (.ptr k13 0 0), .one (.ptr k14 0 0), .one (.ptr k12 0 0)]) rfl rfl rfl rfl (by rw [E1_fn]; exact show fiOf Tryd.prog 45 = _ by unfold fiOf; rw [Tryd.func45]; unfold Tryd.f45; rfl) rfl rfl rfl ?_
 dsimp only
 refine lS (lO ?_)
 refine ol_new rfl rfl rfl (q_alloc ty64 (row := [iI 0, uI 0]) rfl rfl) (fun k411 => ?_)
 refine pq (qa bf) ?_
 refine oE (eS (lS (lS (lO ?_))))
 refine pq (q_fieldP rfl fa33_2 rfl) ?_
 refine pq (ql (.one (.p fr23 (Sl.t r3 s20))) 6 sz30) ?_
 refine pq (qm (iO n333)) ?_
 obtain ⟨n414, h413, h⟩ := bindS h
 obtain ⟨h413a, h413b, h413⟩ := atS_some h413
 refine pq (q_ixS rfl rfl h413a h413 (el30.trans (congrArg some h413b.symm))) ?_
 refine pq (q_loadI (v := iO n414) rfl sz3 (map_get h413) rfl rfl) ?_
 refine pq (qa (iO n414)) ?_
 refine oE (eS (lB ?_))
 let S3 : Int → Unit → (Nat → D) → Nat → D := fun a kt g => ups g [(0, iO n333), (1, .one (.ptr k13 0 0)), (2, .one (.ptr k14 0 0)), (3, .one (.ptr k12 0 0)), (5, .one (.ptr k411 0 0)), (6, bf), (7, iO a)]
 let SL3 : Int → Unit → BL := fun a kt => ([[(k13, 5, [[iI n18, iI n19, .p fr23 (Sl.t r3 s20), .p fr23 (Sl.t r3 s21), .p fr23 (Sl.t r2 s22)]])], [(k14, 3, [[iI 0, nC, nC]])], [(k12, 1, [[iI n1]])], [(k411, 2, [[iI 0, uI 0]])], [(k27, 1, [[.clo (.func 45) [] [.ptr k13 0 0, .ptr k14 0 0, .ptr k12 0 0]]])], [(k28, 1, [[nC]])], [(k32, 0, [])], [(k30, 1, [[sF r62 s10]])], [(k31, 1, [[bC false]])]] : BL)
 let G3 : Empty → Ex → St → Prop := fun u => u.elim
 let Sx3 : Unit → Unit → (Nat → D) → Nat → D := fun a kt g => ups g [(5, .one (.ptr k411 0 0)), (6, bf)]
 let SLx3 : Unit → Unit → BL := fun a kt => ([[(k411, 2, [[iI 0, uI 0]])], [(k27, 1, [[.clo (.func 45) [] [.ptr k13 0 0, .ptr k14 0 0, .ptr k12 0 0]]])], [(k28, 1, [[nC]])], [(k32, 0, [])], [(k30, 1, [[sF r62 s10]])], [(k31, 1, [[bC false]])], [(k13, 5, [[iI n18, iI n19, .p fr23 (Sl.t r3 s20), .p fr23 (Sl.t r3 s21), .p fr23 (Sl.t r2 s22)]])], [(k14, 3, [[iI 0, nC, nC]])], [(k12, 1, [[iI n1]])]] : BL)
 let J3 : (Unit ⊕ Empty) → Ex → St → Prop := JX 55 0 Sx3 SLx3 G3
 refine L_loopS (pull_Sums_b3 s20 s21 s22 n333) S3 SL3 J3 JX_n n414 h () (ups_self ⟨rfl, rfl, rfl, rfl, rfl, rfl, rfl, trivial⟩) [6, 7, 8, 0, 4, 5, 1, 2, 3] (by decide) rfl ?_ ?_
 rintro n460 _ g out h
 change pull_Sums_b3 s20 s21 s22 n333 n460 = some out at h
 unfold pull_Sums_b3 at h
 refine lS (lS (lO ?_))
 refine pq (qm (iO n460)) ?_
 refine pq (q_fieldP rfl fa33_2 rfl) ?_
 refine pq (ql (.one (.p fr23 (Sl.t r3 s20))) 0 sz30) ?_
 refine pq (qm (iO n333)) ?_
 refine pq (qb p_addY) ?_
 obtain ⟨n463, h462, h⟩ := bindS h
 obtain ⟨h462a, h462b, h462⟩ := atS_some h462
 refine pq (q_ixS rfl rfl h462a h462 (el30.trans (congrArg some h462b.symm))) ?_
 refine pq (q_loadI (v := iO n463) rfl sz3 (map_get h462) rfl rfl) ?_
 by_cases c464 : n460 < n463
 replace h := ifT c464 h
 refine pq (qb (p_lss_tZ c464)) ?_
 refine oE (eS (cT rfl (lK (eS (lS (lB (lS (lO ?_))))))))
 refine pq (q_fieldP rfl fa33_3 rfl) ?_
 refine pq (ql (.one (.p fr23 (Sl.t r3 s21))) 0 sz30) ?_
 refine pq (qm (iO n460)) ?_
 obtain ⟨n467, h466, h⟩ := bindS h
 obtain ⟨h466a, h466b, h466⟩ := atS_some h466
 refine pq (q_ixS rfl rfl h466a h466 (el30.trans (congrArg some h466b.symm))) ?_
 refine pq (q_loadI (v := iO n467) rfl sz3 (map_get h466) rfl rfl) ?_
 refine pq (qa (iO n467)) ?_
 refine oE (eS (lS (lS (lO ?_))))
 refine pq (q_fieldP rfl fa43_1 rfl) ?_
 refine pq (ql (.one nC) 1 sz26) ?_
 refine pq (qm (iO n467)) ?_
 obtain ⟨b469, h468, h⟩ := bindS h
 refine pq (qc (bO b469) [.one nC, iO n467] (flags_Has_r (m + 2) h468) (vw_cons (vd_one vc_s) (vw_cons (vd_one vc_v) vw_nil))) ?_
 rcases b469 with _ | _
 replace h := wF h
 refine pq (q_not rfl) ?_
 refine oE (eS (cT rfl (L_exit ?_)))
 refine E_seqX ?_
 refine bH (eS (lO ?_))
 refine pq (qm (iO n460)) ?_
 refine pq (qb p_addY) ?_
 refine pq (qa (iO (IntKind.i64.wrap (n460 + 1)))) ?_
 refine oE ?_
 obtain rfl := sj h
 exact E_next () (ups_self ⟨rfl, rfl, rfl, rfl, rfl, rfl, rfl, trivial⟩) [0, 1, 2, 3, 4, 5, 6, 7, 8] (by decide) rfl
 replace h := wT h
 refine pq (q_not rfl) ?_
 refine oE (eS (cF rfl (lK (eS (lS ?_)))))
 refine L_norm (L2 := ([[(k13, 5, [[iI n18, iI n19, .p fr23 (Sl.t r3 s20), .p fr23 (Sl.t r3 s21), .p fr23 (Sl.t r2 s22)]])], [(k14, 3, [[iI 0, nC, nC]])], [(k12, 1, [[iI n1]])], [(k411, 2, [[iI 0, uI 0]])], [(k27, 1, [[.clo (.func 45) [] [.ptr k13 0 0, .ptr k14 0 0, .ptr k12 0 0]]])], [(k28, 1, [[nC]])], [(k32, 0, [])], [(k30, 1, [[sF r62 s10]])], [(k31, 1, [[bC false]])]] : BL)) [0, 1, 2, 3, 4, 5, 6, 7, 8] (by decide) rfl ?_
 refine L_turn 14 rfl [[], [], [], [], [], [], [], [], [], [], [], [], [], []] [(false, []), (false, []), (false, []), (false, []), (false, []), (false, []), (false, []), (false, []), (false, []), (false, []), (false, []), (false, []), (false, []), (false, [])] [[1, 2, 3, 4, 5, 6, 7, 8, 9, 10, 12], [0, 3, 6, 7, 8, 9, 10, 12], [0, 3, 6, 7, 8, 9, 10, 12], [0, 1, 2, 6, 7, 8, 9, 10, 12], [0, 6, 7, 8, 9, 10, 12], [0, 6, 7, 8, 9, 10, 12], [0, 1, 2, 3, 4, 5, 8, 12], [0, 1, 2, 3, 4, 5, 8, 12], [0, 1, 2, 3, 4, 5, 6, 7, 12], [0, 1, 2, 3, 4, 5, 12], [0, 1, 2, 3, 4, 5, 12], [12], [0, 1, 2, 3, 4, 5, 6, 7, 8, 9, 10, 11], []] (by kernel_rfl) (by kernel_rfl) (by kernel_rfl) ?_ (fun bb470 hlt hnd => ?_)
 intro bb470 hlt hnd
 exact ⟨⟨djE, ⟨djE, ⟨djE, ⟨djE, ⟨djE, ⟨djE, ⟨djE, ⟨djE, ⟨djE, ⟨djE, ⟨djE, ⟨djE, ⟨djE, ⟨djE, trivial⟩⟩⟩⟩⟩⟩⟩⟩⟩⟩⟩⟩⟩⟩, (ltO_cons ltK_nil (ltO_cons ltK_nil (ltO_cons ltK_nil (ltO_cons ltK_nil (ltO_cons ltK_nil (ltO_cons ltK_nil (ltO_cons ltK_nil (ltO_cons ltK_nil (ltO_cons ltK_nil (ltO_cons ltK_nil (ltO_cons ltK_nil (ltO_cons ltK_nil (ltO_cons ltK_nil (ltO_cons ltK_nil ltO_nil))))))))))))))⟩
 refine tq [2] rfl (hm0 rfl) (ql (iO n1) 0 sz22) ?_
 refine tq [] rfl (hm0 rfl) (q_fieldP rfl fa33_4 rfl) ?_
 refine tq [0] rfl (hm0 rfl) (ql (.one (.p fr23 (Sl.t r2 s22))) 0 sz31) ?_
 refine tq [] rfl (hm0 rfl) (qm (iO n460)) ?_
 obtain ⟨n479, h478, h⟩ := bindS h
 obtain ⟨h478a, h478b, h478⟩ := atS_some h478
 refine tq [] rfl (hm0 rfl) (q_ixS rfl rfl h478a h478 (el31.trans (congrArg some h478b.symm))) ?_
 refine tq [] rfl (hm0 rfl) (q_loadI (v := iO n479) rfl sz2 (map_get h478) rfl rfl) ?_
 refine tq [] rfl (hm0 rfl) (q_fieldP rfl fa43_2 rfl) ?_
 refine tq [1] rfl (hm0 rfl) (ql (.one nC) 0 sz31) ?_
 refine tq [] rfl (hm0 rfl) (qm (iO n467)) ?_
 obtain ⟨n482, h481, h⟩ := bindS h
 exact (atS_nil h481).elim
 replace h := ifF c464 h
 refine pq (qb (p_lss_fZ c464)) ?_
 refine oE (eS (cF rfl (L_exit ?_)))
 refine E_seqX ?_
 obtain rfl := sj h
 refine E_out ?_
 exact (E_exit () (ups_self ⟨rfl, rfl, trivial⟩) [3, 4, 5, 6, 7, 8, 0, 1, 2] (by decide) rfl)
 rintro (_ | u) h
 refine J_x (fun kt g => ?_)
 replace h := elimL h
 refine bH (eS (lS (lO ?_)))
 refine pq (ql (.agg [iI 0, uI 0]) 0 sz64) ?_
 refine pq (qm bf) ?_
 refine ow [[iI 0, uI 0]] 0 sz64 ?_
 refine pq (qa bf) ?_
 refine oE (eS (lR ?_))
 refine E_call (v := .tup [.agg [iI 0, uI 0], bf]) (.inr rfl) (res_cell (d := .agg [iI 0, uI 0]) 0 rfl sz64 rfl rfl rfl rfl (res_tmp (d := bf) rfl res_nil)) rfl ?_
 refine pq (qm (.tup [.agg [iI 0, uI 0], bf])) ?_
 refine pq (q_ext (v := .agg [iI 0, uI 0]) rfl rfl) ?_
 refine pq (q_ext (v := bf) rfl rfl) ?_
 refine ol_new rfl rfl rfl (q_alloc ty64 (row := [iI 0, uI 0]) rfl rfl) (fun k483 => ?_)
 refine ow [[iI 0, uI 0]] 0 sz64 ?_
 refine pq (qa bf) ?_
 refine oN ?_
 refine pq (qm bf) ?_
 refine oE (eS (cF rfl (lK (bN ?_))))
 refine E_roundN (p := 4) rfl ?_
 refine pq (q_not rfl) ?_
 refine pq (qpt bf) ?_
 refine oE (eS (cF rfl (lK (bN (eS (lO ?_))))))
 refine pq (qb p_addY) ?_
 refine pq (qm (iO (IntKind.i64.wrap (n333 + 1)))) ?_
 refine oE ?_
 obtain rfl := sj h
 exact E_next () (ups_self ⟨rfl, rfl, rfl, rfl, rfl, trivial⟩) [4, 5, 6, 2, 3, 7, 8, 9] (by decide) rfl
 exact u.elim
 replace h := wT h
 refine sq (q_binB rfl rfl (eqneqB4 _ _ _ _) rfl) ?_
 refine sq (qm bf) ?_
 iterate 2 refine ss ?_
 refine st_cut ?_
 iterate 2 refine os ?_
 refine pq (qpf bf) ?_
 refine oE (eS (cF rfl (lK (bN (eS (lO ?_))))))
 refine pq (qb p_addY) ?_
 refine pq (qm (iO (IntKind.i64.wrap (n333 + 1)))) ?_
 refine oE ?_
 obtain rfl := sj h
 exact E_next () (ups_self ⟨rfl, rfl, rfl, rfl, rfl, trivial⟩) [0, 1, 2, 3, 4, 5, 6, 7] (by decide) rfl
 replace h := ifF c335 h
 refine pq (qb (p_lss_fZ c335)) ?_
 refine oE (eS (lS (cF rfl (L_exit ?_))))
 refine E_seqX ?_
 obtain rfl := sj h
 refine E_out ?_
 exact (E_exit () (ups_self trivial) [3, 4, 0, 5, 6, 7] (by decide) rfl)
 rintro (_ | u) h
 refine J_x (fun kt g => ?_)
 replace h := elimL h
 refine bH ?_
 refine E_range (p := 2) (.inl rfl) rfl ?_
 refine bN (eS (lS (lO ?_)))
 refine pq (ql (.one nC) 1 sz67) ?_
 refine pq (qa (.one nC)) ?_
 refine pq (qa (iO 0)) ?_
 refine oE (eS (lR ?_))
 obtain rfl := sj h
 exact E_endF (.inr rfl) (res_tmp rfl (res_tmp rfl res_nil)) (vw_cons (vd_one vc_s) (vw_cons (vd_one vc_v) vw_nil)) oW rfl rfl
 exact u.elim
 replace h := wT h
 refine pq (q_not rfl) ?_
 refine oE (eS (cF rfl (lK (eS (lS (lS (lO ?_)))))))
 refine pq (q_fieldP rfl fa43_0 rfl) ?_
 refine pq (ql (iO n7) 0 sz3) ?_
 refine pq (q_fieldP rfl fa33_1 rfl) ?_
 refine pq (ql (iO n19) 1 sz3) ?_
 by_cases c484 : n7 ≠ n19
 replace h := ifT c484 h
 refine pq (qb (p_neq_tZ c484)) ?_
 refine oE (eS (cT rfl (lS (lO ?_))))
 refine pq (qa (.one nC)) ?_
 refine pq (qa (iO 4)) ?_
 refine oE (eS (lR (eR ?_)))
 obtain rfl := sj h
 exact E_endF (.inr rfl) (res_tmp rfl (res_tmp rfl res_nil)) (vw_cons (vd_one vc_s) (vw_cons (vd_one vc_v) vw_nil)) oW rfl rfl
 replace h := ifF c484 h
 refine pq (qb (p_neq_fZ c484)) ?_
 refine oE (eS (cF rfl (lK (eS (lS (lO ?_))))))
 refine pq (q_mkfun rfl rfl) ?_
 refine ol_new rfl rfl rfl (q_alloc ty92 (row := [.p true (.v .nilFunc)]) rfl rfl) (fun k485 => ?_)
 refine ow [[.clo (.func 45) [] [.ptr k13 0 0, .ptr k14 0 0, .ptr k12 0 0]]] 0 sz92 ?_
 refine oN ?_
 refine ol_new rfl rfl rfl (q_alloc ty67 (row := [nC]) rfl rfl) (fun k486 => ?_)
 refine oE (eS (lS (lS (lO ?_))))
 refine pq (q_fieldP rfl fa33_0 rfl) ?_
 refine pq (ql (iO n18) 3 sz3) ?_
 refine pq (qm (.one (sF r62 s10))) ?_
 refine pq (qm (bO b11)) ?_
 refine ol_scallN (args := [iO n18, .one (sF r62 s10), bO b11]) rfl rfl rfl ax49 (by rw [E1_fn]; exact show fiOf Tryd.prog 49 = _ by unfold fiOf; rw [Tryd.func49]; unfold Tryd.f49; rfl) rfl rfl rfl ?_
 dsimp only
 refine lS (lO ?_)
 refine ol_new rfl rfl rfl (q_box ty3 rfl (cs := [iI n18]) rfl rfl) (fun k487 => ?_)
 refine ol_new rfl rfl rfl (q_box ty26 rfl (cs := [sF r62 s10]) rfl rfl) (fun k488 => ?_)
 refine ol_new rfl rfl rfl (q_box ty4 rfl (cs := [bC b11]) rfl rfl) (fun k489 => ?_)
 refine pq (qa (.one (.p true (.v .nilFunc)))) ?_
 refine oN ?_
 refine pq (q_mkfun rfl rfl) ?_
 refine pq (qa (.one (.clo (.func 66) [] [.ptr k487 0 0, .ptr k488 0 0, .ptr k489 0 0]))) ?_
 refine oE (eS (lR ?_))
 refine E_call (v := .one (.clo (.func 66) [] [.ptr k487 0 0, .ptr k488 0 0, .ptr k489 0 0])) (.inr rfl) (res_tmp (d := .one (.clo (.func 66) [] [.ptr k487 0 0, .ptr k488 0 0, .ptr k489 0 0])) rfl res_nil) rfl ?_
 refine oE (eS (lB ?_))
 refine L_range rfl (by rw [E1_fn]; exact show fiOf Tryd.prog 66 = _ by unfold fiOf; rw [Tryd.func66]; unfold Tryd.f66; rfl) rfl rfl (fun k490 => ?_)
 dsimp only
 refine lS (lO ?_)
 refine pq (ql (iO n18) 3 sz3) ?_
 refine pq (qm (iO 0)) ?_
 refine oE (eS (lB ?_))
 refine L_addM (α := Int × (Int × Int)) r78 3 ?_
 let S4 : (Int × Bool × (List (Int × (Int × Int)))) → Nat → (Nat → D) → Nat → D := fun a kt g => ups g [(0, .one (.yld k490)), (2, .one (.ptr k488 0 0)), (3, .one (.ptr k489 0 0)), (6, iO n18), (7, .one (iI a.1))]
 let SL4 : (Int × Bool × (List (Int × (Int × Int)))) → Nat → BL := fun a kt => ([[(k490, 0, [])], [(k488, 1, [[sF r62 s10]])], [(k489, 1, [[bC a.2.1]])], [(k485, 1, [[.clo (.func 45) [] [.ptr k13 0 0, .ptr k14 0 0, .ptr k12 0 0]]])], [(k486, 1, [[moC a.2.2 kt]])], [(k13, 5, [[iI n18, iI n19, .p fr23 (Sl.t r3 s20), .p fr23 (Sl.t r3 s21), .p fr23 (Sl.t r2 s22)]])], [(k14, 3, [[iI n7, sF r62 s8, sF r2 s9]])], [(k12, 1, [[iI n1]])], moL r78 3 a.2.2 kt] : BL)
 let G4 : Empty → Ex → St → Prop := fun u => u.elim
 let Sx4 : (List (Int × (Int × Int))) → Nat → (Nat → D) → Nat → D := fun a kt g => ups g []
 let SLx4 : (List (Int × (Int × Int))) → Nat → BL := fun a kt => ([[(k485, 1, [[.clo (.func 45) [] [.ptr k13 0 0, .ptr k14 0 0, .ptr k12 0 0]]])], [(k486, 1, [[moC a kt]])], [(k490, 0, [])], [(k13, 5, [[iI n18, iI n19, .p fr23 (Sl.t r3 s20), .p fr23 (Sl.t r3 s21), .p fr23 (Sl.t r2 s22)]])], [(k14, 3, [[iI n7, sF r62 s8, sF r2 s9]])], [(k12, 1, [[iI n1]])], moL r78 3 a kt] : BL)
 let J4 : ((List (Int × (Int × Int))) ⊕ Empty) → Ex → St → Prop := JX 22 0 Sx4 SLx4 G4
 refine L_loopS (pull_Sums_b4 n1 s8 s9 s10 n18 s20 s21 s22) S4 SL4 J4 JX_n (0, b11, ([] : List (Int × (Int × Int)))) h 2337 (ups_self ⟨rfl, rfl, rfl, rfl, rfl, trivial⟩) [1, 3, 2, 6, 5, 8, 7, 9, 0] (by decide) rfl ?_ ?_
 rintro ⟨n1339, b1340, l1341⟩ k1342 g out h
 change pull_Sums_b4 n1 s8 s9 s10 n18 s20 s21 s22 (n1339, b1340, l1341) = some out at h
 unfold pull_Sums_b4 at h
 refine lS (lO ?_)
 by_cases c1343 : n1339 < n18
 replace h := ifT c1343 h
 refine pq (qb (p_lss_tZ c1343)) ?_
 refine oE (eS (lS (cT rfl (lK (eS (lS (lB (lS (lO ?_)))))))))
 refine pq (qm (iO n1339)) ?_
 refine pq (qa (iO n1339)) ?_
 refine oE (eS (lS ?_))
 refine L_cut 8 (by kernel_rfl) (by kernel_rfl) ?_
 refine sq (ql (.one (sF r62 s10)) 1 sz26) ?_
 refine sq (qm (iO n1339)) ?_
 obtain ⟨b1345, h1344, h⟩ := bindS h
 refine sq (qc (bO b1345) [.one (sF r62 s10), iO n1339] (flags_Has_r (m + 2) h1344) (vw_cons (vd_one vc_s) (vw_cons (vd_one vc_v) vw_nil))) ?_
 refine sq (ql (bO b1340) 2 sz4) ?_
 rcases b1345 with _ | _
 replace h := wF h
 rcases b1340 with _ | _
 replace h := wF h
 refine sq (q_binB rfl rfl (eqneqB4 _ _ _ _) rfl) ?_
 refine sq (qm bf) ?_
 iterate 2 refine ss ?_
 refine st_cut ?_
 iterate 2 refine os ?_
 refine pq (qpf bf) ?_
 refine oE (eS (cF rfl (lK (bN (eS (lO ?_))))))
 refine pq (qb p_addY) ?_
 refine pq (qm (iO (IntKind.i64.wrap (n1339 + 1)))) ?_
 refine oE ?_
 obtain rfl := sj h
 exact E_next k1342 (ups_self ⟨rfl, rfl, rfl, rfl, rfl, trivial⟩) [0, 1, 2, 3, 4, 5, 6, 7, 8] (by decide) rfl
 replace h := wT h
 refine sq (q_binB rfl rfl (eqneqB4 _ _ _ _) rfl) ?_
 refine sq (qm bt) ?_
 refine sq (qm (.one (.yld k490))) ?_
 refine sq (qm (iO n1339)) ?_
 refine st_cut ?_
 refine ol_yield (args := [iO n1339]) (p := 0) rfl rfl rfl rfl rfl rfl rfl rfl rfl ?_
 refine lO ?_
 refine pq (qa (iO n1339)) ?_
 refine oE ?_
 refine E_asg ?_
 refine lB (lS (lO ?_))
 refine pq (ql (.one (.clo (.func 45) [] [.ptr k13 0 0, .ptr k14 0 0, .ptr k12 0 0])) 3 sz92) ?_
 refine pq (qm (iO n1339)) ?_
 refine ol_scall (args := [iO n1339, .one (.ptr k13 0 0), .one (.ptr k14 0 0), .one (.ptr k12 0 0)]) rfl rfl rfl rfl (by rw [E1_fn]; exact show fiOf Tryd.prog 45 = _ by unfold fiOf; rw [Tryd.func45]; unfold Tryd.f45; rfl) rfl rfl rfl ?_
 dsimp only
 refine lS (lO ?_)
 refine ol_new rfl rfl rfl (q_alloc ty64 (row := [iI 0, uI 0]) rfl rfl) (fun k1346 => ?_)
 refine pq (qa bf) ?_
 refine oE (eS (lS (lS (lO ?_))))
 refine pq (q_fieldP rfl fa33_2 rfl) ?_
 refine pq (ql (.one (.p fr23 (Sl.t r3 s20))) 6 sz30) ?_
 refine pq (qm (iO n1339)) ?_
 obtain ⟨n1349, h1348, h⟩ := bindS h
 obtain ⟨h1348a, h1348b, h1348⟩ := atS_some h1348
 refine pq (q_ixS rfl rfl h1348a h1348 (el30.trans (congrArg some h1348b.symm))) ?_
 refine pq (q_loadI (v := iO n1349) rfl sz3 (map_get h1348) rfl rfl) ?_
 refine pq (qa (iO n1349)) ?_
 refine oE (eS (lB ?_))
 let S5 : (Bool × Int × Int × Int) → Unit → (Nat → D) → Nat → D := fun a kt g => ups g [(0, iO n1339), (1, .one (.ptr k13 0 0)), (2, .one (.ptr k14 0 0)), (3, .one (.ptr k12 0 0)), (5, .one (.ptr k1346 0 0)), (6, .one (bC a.1)), (7, .one (iI a.2.1))]
 let SL5 : (Bool × Int × Int × Int) → Unit → BL := fun a kt => ([[(k13, 5, [[iI n18, iI n19, .p fr23 (Sl.t r3 s20), .p fr23 (Sl.t r3 s21), .p fr23 (Sl.t r2 s22)]])], [(k14, 3, [[iI n7, sF r62 s8, sF r2 s9]])], [(k12, 1, [[iI n1]])], [(k1346, 2, [[iI a.2.2.1, uI a.2.2.2]])], [(k485, 1, [[.clo (.func 45) [] [.ptr k13 0 0, .ptr k14 0 0, .ptr k12 0 0]]])], [(k486, 1, [[moC l1341 k1342]])], [(k490, 0, [])], [(k488, 1, [[sF r62 s10]])], [(k489, 1, [[bC true]])], moL r78 3 l1341 k1342] : BL)
 let G5 : Empty → Ex → St → Prop := fun u => u.elim
 let Sx5 : (Bool × Int × Int) → Unit → (Nat → D) → Nat → D := fun a kt g => ups g [(5, .one (.ptr k1346 0 0)), (6, .one (bC a.1))]
 let SLx5 : (Bool × Int × Int) → Unit → BL := fun a kt => ([[(k1346, 2, [[iI a.2.1, uI a.2.2]])], [(k485, 1, [[.clo (.func 45) [] [.ptr k13 0 0, .ptr k14 0 0, .ptr k12 0 0]]])], [(k486, 1, [[moC l1341 k1342]])], [(k490, 0, [])], [(k488, 1, [[sF r62 s10]])], [(k489, 1, [[bC true]])], [(k13, 5, [[iI n18, iI n19, .p fr23 (Sl.t r3 s20), .p fr23 (Sl.t r3 s21), .p fr23 (Sl.t r2 s22)]])], [(k14, 3, [[iI n7, sF r62 s8, sF r2 s9]])], [(k12, 1, [[iI n1]])], moL r78 3 l1341 k1342] : BL)
 let J5 : ((Bool × Int × Int) ⊕ Empty) → Ex → St → Prop := JX 55 0 Sx5 SLx5 G5
 refine L_loopS (pull_Sums_b5 n1 s8 s9 s20 s21 s22 n1339) S5 SL5 J5 JX_n (false, n1349, 0, 0) h () (ups_self ⟨rfl, rfl, rfl, rfl, rfl, rfl, rfl, trivial⟩) [6, 7, 8, 0, 4, 5, 1, 2, 3, 9] (by decide) rfl ?_ ?_
 rintro ⟨b1442, n1443, n1444, n1445⟩ _ g out h
 change pull_Sums_b5 n1 s8 s9 s20 s21 s22 n1339 (b1442, n1443, n1444, n1445) = some out at h
 unfold pull_Sums_b5 at h
 refine lS (lS (lO ?_))
 refine pq (qm (iO n1443)) ?_
 refine pq (q_fieldP rfl fa33_2 rfl) ?_
 refine pq (ql (.one (.p fr23 (Sl.t r3 s20))) 0 sz30) ?_
 refine pq (qm (iO n1339)) ?_
 refine pq (qb p_addY) ?_
 obtain ⟨n1448, h1447, h⟩ := bindS h
 obtain ⟨h1447a, h1447b, h1447⟩ := atS_some h1447
 refine pq (q_ixS rfl rfl h1447a h1447 (el30.trans (congrArg some h1447b.symm))) ?_
 refine pq (q_loadI (v := iO n1448) rfl sz3 (map_get h1447) rfl rfl) ?_
 by_cases c1449 : n1443 < n1448
 replace h := ifT c1449 h
 refine pq (qb (p_lss_tZ c1449)) ?_
 refine oE (eS (cT rfl (lK (eS (lS (lB (lS (lO ?_))))))))
 refine pq (q_fieldP rfl fa33_3 rfl) ?_
 refine pq (ql (.one (.p fr23 (Sl.t r3 s21))) 0 sz30) ?_
 refine pq (qm (iO n1443)) ?_
 obtain ⟨n1452, h1451, h⟩ := bindS h
 obtain ⟨h1451a, h1451b, h1451⟩ := atS_some h1451
 refine pq (q_ixS rfl rfl h1451a h1451 (el30.trans (congrArg some h1451b.symm))) ?_
 refine pq (q_loadI (v := iO n1452) rfl sz3 (map_get h1451) rfl rfl) ?_
 refine pq (qa (iO n1452)) ?_
 refine oE (eS (lS (lS (lO ?_))))
 refine pq (q_fieldP rfl fa43_1 rfl) ?_
 refine pq (ql (.one (sF r62 s8)) 1 sz26) ?_
 refine pq (qm (iO n1452)) ?_
 obtain ⟨b1454, h1453, h⟩ := bindS h
 refine pq (qc (bO b1454) [.one (sF r62 s8), iO n1452] (flags_Has_r (m + 2) h1453) (vw_cons (vd_one vc_s) (vw_cons (vd_one vc_v) vw_nil))) ?_
 rcases b1454 with _ | _
 replace h := wF h
 refine pq (q_not rfl) ?_
 refine oE (eS (cT rfl (L_exit ?_)))
 refine E_seqX ?_
 refine bH (eS (lO ?_))
 refine pq (qm (iO n1443)) ?_
 refine pq (qb p_addY) ?_
 refine pq (qa (iO (IntKind.i64.wrap (n1443 + 1)))) ?_
 refine oE ?_
 obtain rfl := sj h
 exact E_next () (ups_self ⟨rfl, rfl, rfl, rfl, rfl, rfl, rfl, trivial⟩) [0, 1, 2, 3, 4, 5, 6, 7, 8, 9] (by decide) rfl
 replace h := wT h
 refine pq (q_not rfl) ?_
 refine oE (eS (cF rfl (lK (eS (lS ?_)))))
 refine L_norm (L2 := ([[(k13, 5, [[iI n18, iI n19, .p fr23 (Sl.t r3 s20), .p fr23 (Sl.t r3 s21), .p fr23 (Sl.t r2 s22)]])], [(k14, 3, [[iI n7, sF r62 s8, sF r2 s9]])], [(k12, 1, [[iI n1]])], [(k1346, 2, [[iI n1444, uI n1445]])], [(k485, 1, [[.clo (.func 45) [] [.ptr k13 0 0, .ptr k14 0 0, .ptr k12 0 0]]])], [(k486, 1, [[moC l1341 k1342]])], [(k490, 0, [])], [(k488, 1, [[sF r62 s10]])], [(k489, 1, [[bC true]])], moL r78 3 l1341 k1342] : BL)) [0, 1, 2, 3, 4, 5, 6, 7, 8, 9] (by decide) rfl ?_
 refine L_turn 14 rfl [[], [], [], [], [], [], [], [], [], [], [], [], [], []] [(false, []), (false, []), (false, []), (false, []), (false, []), (false, []), (false, []), (false, []), (false, []), (false, []), (false, []), (false, []), (true, []), (false, [12])] [[1, 2, 3, 4, 5, 6, 7, 8, 9, 10, 12], [0, 3, 6, 7, 8, 9, 10, 12], [0, 3, 6, 7, 8, 9, 10, 12], [0, 1, 2, 6, 7, 8, 9, 10, 12], [0, 6, 7, 8, 9, 10, 12], [0, 6, 7, 8, 9, 10, 12], [0, 1, 2, 3, 4, 5, 8, 12], [0, 1, 2, 3, 4, 5, 8, 12], [0, 1, 2, 3, 4, 5, 6, 7, 12], [0, 1, 2, 3, 4, 5, 12], [0, 1, 2, 3, 4, 5, 12], [12], [0, 1, 2, 3, 4, 5, 6, 7, 8, 9, 10, 11], []] (by kernel_rfl) (by kernel_rfl) (by kernel_rfl) ?_ (fun bb1455 hlt hnd => ?_)
 intro bb1455 hlt hnd
 exact ⟨⟨djE, ⟨djE, ⟨djE, ⟨djE, ⟨djE, ⟨djE, ⟨djE, ⟨djE, ⟨djE, ⟨djE, ⟨djE, ⟨djE, ⟨djE, ⟨djE, trivial⟩⟩⟩⟩⟩⟩⟩⟩⟩⟩⟩⟩⟩⟩, (ltO_cons ltK_nil (ltO_cons ltK_nil (ltO_cons ltK_nil (ltO_cons ltK_nil (ltO_cons ltK_nil (ltO_cons ltK_nil (ltO_cons ltK_nil (ltO_cons ltK_nil (ltO_cons ltK_nil (ltO_cons ltK_nil (ltO_cons ltK_nil (ltO_cons ltK_nil (ltO_cons ltK_nil (ltO_cons ltK_nil ltO_nil))))))))))))))⟩
 have e_k1342 : l1341 = [] ∨ k1342 < bb1455 := key_ltM (r := r78) (w := 3) hlt 9 rfl
 refine tq [2] rfl (hmc (nin_cons (ne_new (key_lt hlt 2 rfl)) nin_nil) hmn) (ql (iO n1) 0 sz22) ?_
 refine tq [] rfl hmn (q_fieldP rfl fa33_4 rfl) ?_
 refine tq [0] rfl (hmc (nin_cons (ne_new (key_lt hlt 0 rfl)) nin_nil) hmn) (ql (.one (.p fr23 (Sl.t r2 s22))) 0 sz31) ?_
 refine tq [] rfl hmn (qm (iO n1443)) ?_
 obtain ⟨n1467, h1466, h⟩ := bindS h
 obtain ⟨h1466a, h1466b, h1466⟩ := atS_some h1466
 refine tq [] rfl hmn (q_ixS rfl rfl h1466a h1466 (el31.trans (congrArg some h1466b.symm))) ?_
 refine tq [] rfl hmn (q_loadI (v := iO n1467) rfl sz2 (map_get h1466) rfl rfl) ?_
 refine tq [] rfl hmn (q_fieldP rfl fa43_2 rfl) ?_
 refine tq [1] rfl (hmc (nin_cons (ne_new (key_lt hlt 1 rfl)) nin_nil) hmn) (ql (.one (sF r2 s9)) 0 sz31) ?_
 refine tq [] rfl hmn (qm (iO n1452)) ?_
 obtain ⟨n1470, h1469, h⟩ := bindS h
 obtain ⟨h1469a, h1469b, h1469⟩ := atS_some h1469
 refine tq [] rfl hmn (q_ixS rfl rfl h1469a h1469 (el31.trans (congrArg some h1469b.symm))) ?_
 refine tq [] rfl hmn (q_loadI (v := iO n1470) rfl sz2 (map_get h1469) rfl rfl) ?_
 obtain ⟨⟨n1472, n1473⟩, h1471, h⟩ := bindS h
 refine tq [] rfl hmn (qc (.agg [iI n1472, uI n1473]) [iO n1, iO n1467, iO n1470] (ring_Mul_r (m + 1) h1471) (vw_cons (vd_one vc_v) (vw_cons (vd_one vc_v) (vw_cons (vd_one vc_v) vw_nil)))) ?_
 refine tn_new rfl rfl rfl [] (by decide) rfl (hm0 rfl) rfl rfl (hkc (ne_new (key_lt hlt 0 rfl)) (hkc (ne_new (key_lt hlt 1 rfl)) (hkc (ne_new (key_lt hlt 2 rfl)) (hkc (ne_new (key_lt hlt 3 rfl)) (hkc (ne_new (key_lt hlt 4 rfl)) (hkc (ne_new (key_lt hlt 5 rfl)) (hkc (ne_new (key_lt hlt 6 rfl)) (hkc (ne_new (key_lt hlt 7 rfl)) (hkc (ne_new (key_lt hlt 8 rfl)) (hkM (e_k1342.imp id fun h => by omega) hkn)))))))))) (q_alloc ty64 (row := [iI 0, uI 0]) rfl rfl) ?_
 refine tn_wr rfl rfl [0] (by decide) rfl (hm0 rfl) rfl (q_store (es' := [[iI n1472, uI n1473]]) 0 rfl rfl rfl sz64 rfl rfl rfl rfl rfl) (q := 0) rfl rfl ?_
 refine tn_end (eS (lS (lO ?_)))
 refine pq (qm (bO b1442)) ?_
 refine oE (eS ?_)
 rcases b1442 with _ | _
 replace h := wF h
 refine cF rfl (lO ?_)
 refine pq (ql (.agg [iI n1472, uI n1473]) 0 sz64) ?_
 refine ow [[iI n1472, uI n1473]] 4 sz64 ?_
 refine pq (qa bt) ?_
 refine oE (bN (eS (lO ?_)))
 refine pq (qm (iO n1443)) ?_
 refine pq (qb p_addY) ?_
 refine pq (qa (iO (IntKind.i64.wrap (n1443 + 1)))) ?_
 refine oE ?_
 obtain rfl := sj h
 exact E_next () (ups_self ⟨rfl, rfl, rfl, rfl, rfl, rfl, rfl, trivial⟩) [1, 2, 3, 4, 5, 6, 7, 8, 9, 10] (by decide) rfl
 replace h := wT h
 refine cT rfl (lO ?_)
 refine pq (ql (iO n1) 3 sz22) ?_
 refine pq (ql (.agg [iI n1444, uI n1445]) 4 sz64) ?_
 refine pq (ql (.agg [iI n1472, uI n1473]) 0 sz64) ?_
 obtain ⟨⟨n1475, n1476⟩, h1474, h⟩ := bindS h
 refine pq (qc (.agg [iI n1475, uI n1476]) [iO n1, .agg [iI n1444, uI n1445], .agg [iI n1472, uI n1473]] (ring_Add_r (m + 1) h1474) (vw_cons (vd_one vc_v) (vw_cons (vd_agg (vc_cons vc_v (vc_cons vc_v vc_nil))) (vw_cons (vd_agg (vc_cons vc_v (vc_cons vc_v vc_nil))) vw_nil)))) ?_
 refine ow [[iI n1475, uI n1476]] 4 sz64 ?_
 refine oE (bN (eS (lO ?_)))
 refine pq (qm (iO n1443)) ?_
 refine pq (qb p_addY) ?_
 refine pq (qa (iO (IntKind.i64.wrap (n1443 + 1)))) ?_
 refine oE ?_
 obtain rfl := sj h
 exact E_next () (ups_self ⟨rfl, rfl, rfl, rfl, rfl, rfl, rfl, trivial⟩) [1, 2, 3, 4, 5, 6, 7, 8, 9, 10] (by decide) rfl
 replace h := ifF c1449 h
 refine pq (qb (p_lss_fZ c1449)) ?_
 refine oE (eS (cF rfl (L_exit ?_)))
 refine E_seqX ?_
 obtain rfl := sj h
 refine E_out ?_
 exact (E_exit () (ups_self ⟨rfl, rfl, trivial⟩) [3, 4, 5, 6, 7, 8, 0, 1, 2, 9] (by decide) rfl)
 rintro (⟨b1477, n1478, n1479⟩ | u) h
 refine J_x (fun kt g => ?_)
 replace h := elimL h
 refine bH (eS (lS (lO ?_)))
 refine pq (ql (.agg [iI n1478, uI n1479]) 0 sz64) ?_
 refine pq (qm (bO b1477)) ?_
 refine ow [[iI n1478, uI n1479]] 0 sz64 ?_
 refine pq (qa (bO b1477)) ?_
 refine oE (eS (lR ?_))
 refine E_call (v := .tup [.agg [iI n1478, uI n1479], bO b1477]) (.inr rfl) (res_cell (d := .agg [iI n1478, uI n1479]) 0 rfl sz64 rfl rfl rfl rfl (res_tmp (d := bO b1477) rfl res_nil)) rfl ?_
 refine pq (qm (.tup [.agg [iI n1478, uI n1479], bO b1477])) ?_
 refine pq (q_ext (v := .agg [iI n1478, uI n1479]) rfl rfl) ?_
 refine pq (q_ext (v := bO b1477) rfl rfl) ?_
 refine ol_new rfl rfl rfl (q_alloc ty64 (row := [iI 0, uI 0]) rfl rfl) (fun k1480 => ?_)
 refine ow [[iI n1478, uI n1479]] 0 sz64 ?_
 refine pq (qa (bO b1477)) ?_
 refine oN ?_
 refine pq (qm (bO b1477)) ?_
 refine oE (eS ?_)
 rcases b1477 with _ | _
 replace h := wF h
 refine cF rfl (lK (bN ?_))
 refine E_roundN (p := 4) rfl ?_
 refine pq (q_not rfl) ?_
 refine pq (qpt bf) ?_
 refine oE (eS (cF rfl (lK (bN (eS (lO ?_))))))
 refine pq (qb p_addY) ?_
 refine pq (qm (iO (IntKind.i64.wrap (n1339 + 1)))) ?_
 refine oE ?_
 obtain rfl := sj h
 exact E_next k1342 (ups_self ⟨rfl, rfl, rfl, rfl, rfl, trivial⟩) [4, 5, 6, 2, 3, 7, 8, 9, 10] (by decide) rfl
 replace h := wT h
 refine cT rfl (lO ?_)
 refine pq (ql (.one (moC l1341 k1342)) 3 sz67) ?_
 refine pq (qm (iO n1339)) ?_
 refine pq (ql (.agg [iI n1478, uI n1479]) 0 sz64) ?_
 refine pq (q_build (cs := [iI n1339, iI n1478, uI n1479]) ty79 rfl pl79 rfl) ?_
 refine ol_new rfl rfl rfl (q_bslice (cs := [iI n1339, iI n1478, uI n1479]) (es := (([(n1339, (n1478, n1479))] : List (Int × (Int × Int)))).map (rowC r78)) ty67 rfl ty79 rfl rfl rfl rfl rfl) (fun k1481 => ?_)
 obtain ⟨_, h1482, h⟩ := bindS h
 obtain ⟨h1482b, rfl⟩ := app_some h1482
 refine ol_appM (r := r78) (l := l1341) (ys := ([(n1339, (n1478, n1479))] : List (Int × (Int × Int)))) 11 rfl rfl rfl rfl rfl rfl (el_ownM (l := ([(n1339, (n1478, n1479))] : List (Int × (Int × Int)))) 0 rfl) rfl h1482 (fun y => rfl) el67 ty67 rfl rfl rfl rfl rfl (fun k1483 => ?_)
 refine ow [[moC (l1341 ++ ([(n1339, (n1478, n1479))] : List (Int × (Int × Int)))) k1483]] 5 sz67 ?_
 refine oE (bN ?_)
 refine E_roundN (p := 6) rfl ?_
 refine pq (q_not rfl) ?_
 refine pq (qpt bf) ?_
 refine oE (eS (cF rfl (lK (bN (eS (lO ?_))))))
 refine pq (qb p_addY) ?_
 refine pq (qm (iO (IntKind.i64.wrap (n1339 + 1)))) ?_
 refine oE ?_
 obtain rfl := sj h
 exact E_next k1483 (ups_self ⟨rfl, rfl, rfl, rfl, rfl, trivial⟩) [6, 7, 8, 4, 5, 9, 10, 11, 0] (by decide) rfl
 exact u.elim
 replace h := wT h
 rcases b1340 with _ | _
 replace h := wF h
 refine sq (q_binB rfl rfl (eqneqB4 _ _ _ _) rfl) ?_
 refine sq (qm bt) ?_
 refine sq (qm (.one (.yld k490))) ?_
 refine sq (qm (iO n1339)) ?_
 refine st_cut ?_
 refine ol_yield (args := [iO n1339]) (p := 0) rfl rfl rfl rfl rfl rfl rfl rfl rfl ?_
 refine lO ?_
 refine pq (qa (iO n1339)) ?_
 refine oE ?_
 refine E_asg ?_
 refine lB (lS (lO ?_))
 refine pq (ql (.one (.clo (.func 45) [] [.ptr k13 0 0, .ptr k14 0 0, .ptr k12 0 0])) 3 sz92) ?_
 refine pq (qm (iO n1339)) ?_
 refine ol_scall (args := [iO n1339, .one (.ptr k13 0 0), .one (.ptr k14 0 0), .one (.ptr k12 0 0)]) rfl rfl rfl rfl (by rw [E1_fn]; exact show fiOf Tryd.prog 45 = _ by unfold fiOf; rw [Tryd.func45]; unfold Tryd.f45; rfl) rfl rfl rfl ?_
 dsimp only
 refine lS (lO ?_)
 refine ol_new rfl rfl rfl (q_alloc ty64 (row := [iI 0, uI 0]) rfl rfl) (fun k1484 => ?_)
 refine pq (qa bf) ?_
 refine oE (eS (lS (lS (lO ?_))))
 refine pq (q_fieldP rfl fa33_2 rfl) ?_
 refine pq (ql (.one (.p fr23 (Sl.t r3 s20))) 6 sz30) ?_
 refine pq (qm (iO n1339)) ?_
 obtain ⟨n1487, h1486, h⟩ := bindS h
 obtain ⟨h1486a, h1486b, h1486⟩ := atS_some h1486
 refine pq (q_ixS rfl rfl h1486a h1486 (el30.trans (congrArg some h1486b.symm))) ?_
 refine pq (q_loadI (v := iO n1487) rfl sz3 (map_get h1486) rfl rfl) ?_
 refine pq (qa (iO n1487)) ?_
 refine oE (eS (lB ?_))
 let S6 : (Bool × Int × Int × Int) → Unit → (Nat → D) → Nat → D := fun a kt g => ups g [(0, iO n1339), (1, .one (.ptr k13 0 0)), (2, .one (.ptr k14 0 0)), (3, .one (.ptr k12 0 0)), (5, .one (.ptr k1484 0 0)), (6, .one (bC a.1)), (7, .one (iI a.2.1))]
 let SL6 : (Bool × Int × Int × Int) → Unit → BL := fun a kt => ([[(k13, 5, [[iI n18, iI n19, .p fr23 (Sl.t r3 s20), .p fr23 (Sl.t r3 s21), .p fr23 (Sl.t r2 s22)]])], [(k14, 3, [[iI n7, sF r62 s8, sF r2 s9]])], [(k12, 1, [[iI n1]])], [(k1484, 2, [[iI a.2.2.1, uI a.2.2.2]])], [(k485, 1, [[.clo (.func 45) [] [.ptr k13 0 0, .ptr k14 0 0, .ptr k12 0 0]]])], [(k486, 1, [[moC l1341 k1342]])], [(k490, 0, [])], [(k488, 1, [[sF r62 s10]])], [(k489, 1, [[bC false]])], moL r78 3 l1341 k1342] : BL)
 let G6 : Empty → Ex → St → Prop := fun u => u.elim
 let Sx6 : (Bool × Int × Int) → Unit → (Nat → D) → Nat → D := fun a kt g => ups g [(5, .one (.ptr k1484 0 0)), (6, .one (bC a.1))]
 let SLx6 : (Bool × Int × Int) → Unit → BL := fun a kt => ([[(k1484, 2, [[iI a.2.1, uI a.2.2]])], [(k485, 1, [[.clo (.func 45) [] [.ptr k13 0 0, .ptr k14 0 0, .ptr k12 0 0]]])], [(k486, 1, [[moC l1341 k1342]])], [(k490, 0, [])], [(k488, 1, [[sF r62 s10]])], [(k489, 1, [[bC false]])], [(k13, 5, [[iI n18, iI n19, .p fr23 (Sl.t r3 s20), .p fr23 (Sl.t r3 s21), .p fr23 (Sl.t r2 s22)]])], [(k14, 3, [[iI n7, sF r62 s8, sF r2 s9]])], [(k12, 1, [[iI n1]])], moL r78 3 l1341 k1342] : BL)
 let J6 : ((Bool × Int × Int) ⊕ Empty) → Ex → St → Prop := JX 55 0 Sx6 SLx6 G6
 refine L_loopS (pull_Sums_b6 n1 s8 s9 s20 s21 s22 n1339) S6 SL6 J6 JX_n (false, n1487, 0, 0) h () (ups_self ⟨rfl, rfl, rfl, rfl, rfl, rfl, rfl, trivial⟩) [6, 7, 8, 0, 4, 5, 1, 2, 3, 9] (by decide) rfl ?_ ?_
 rintro ⟨b1580, n1581, n1582, n1583⟩ _ g out h
 change pull_Sums_b6 n1 s8 s9 s20 s21 s22 n1339 (b1580, n1581, n1582, n1583) = some out at h
 unfold pull_Sums_b6 at h
 refine lS (lS (lO ?_))
 refine pq (qm (iO n1581)) ?_
 refine pq (q_fieldP rfl fa33_2 rfl) ?_
 refine pq (ql (.one (.p fr23 (Sl.t r3 s20))) 0 sz30) ?_
 refine pq (qm (iO n1339)) ?_
 refine pq (qb p_addY) ?_
 obtain ⟨n1586, h1585, h⟩ := bindS h
 obtain ⟨h1585a, h1585b, h1585⟩ := atS_some h1585
 refine pq (q_ixS rfl rfl h1585a h1585 (el30.trans (congrArg some h1585b.symm))) ?_
 refine pq (q_loadI (v := iO n1586) rfl sz3 (map_get h1585) rfl rfl) ?_
 by_cases c1587 : n1581 < n1586
 replace h := ifT c1587 h
 refine pq (qb (p_lss_tZ c1587)) ?_
 refine oE (eS (cT rfl (lK (eS (lS (lB (lS (lO ?_))))))))
 refine pq (q_fieldP rfl fa33_3 rfl) ?_
 refine pq (ql (.one (.p fr23 (Sl.t r3 s21))) 0 sz30) ?_
 refine pq (qm (iO n1581)) ?_
 obtain ⟨n1590, h1589, h⟩ := bindS h
 obtain ⟨h1589a, h1589b, h1589⟩ := atS_some h1589
 refine pq (q_ixS rfl rfl h1589a h1589 (el30.trans (congrArg some h1589b.symm))) ?_
 refine pq (q_loadI (v := iO n1590) rfl sz3 (map_get h1589) rfl rfl) ?_
 refine pq (qa (iO n1590)) ?_
 refine oE (eS (lS (lS (lO ?_))))
 refine pq (q_fieldP rfl fa43_1 rfl) ?_
 refine pq (ql (.one (sF r62 s8)) 1 sz26) ?_
 refine pq (qm (iO n1590)) ?_
 obtain ⟨b1592, h1591, h⟩ := bindS h
 refine pq (qc (bO b1592) [.one (sF r62 s8), iO n1590] (flags_Has_r (m + 2) h1591) (vw_cons (vd_one vc_s) (vw_cons (vd_one vc_v) vw_nil))) ?_
 rcases b1592 with _ | _
 replace h := wF h
 refine pq (q_not rfl) ?_
 refine oE (eS (cT rfl (L_exit ?_)))
 refine E_seqX ?_
 refine bH (eS (lO ?_))
 refine pq (qm (iO n1581)) ?_
 refine pq (qb p_addY) ?_
 refine pq (qa (iO (IntKind.i64.wrap (n1581 + 1)))) ?_
 refine oE ?_
 obtain rfl := sj h
 exact E_next () (ups_self ⟨rfl, rfl, rfl, rfl, rfl, rfl, rfl, trivial⟩) [0, 1, 2, 3, 4, 5, 6, 7, 8, 9] (by decide) rfl
 replace h := wT h
 refine pq (q_not rfl) ?_
 refine oE (eS (cF rfl (lK (eS (lS ?_)))))
 refine L_norm (L2 := ([[(k13, 5, [[iI n18, iI n19, .p fr23 (Sl.t r3 s20), .p fr23 (Sl.t r3 s21), .p fr23 (Sl.t r2 s22)]])], [(k14, 3, [[iI n7, sF r62 s8, sF r2 s9]])], [(k12, 1, [[iI n1]])], [(k1484, 2, [[iI n1582, uI n1583]])], [(k485, 1, [[.clo (.func 45) [] [.ptr k13 0 0, .ptr k14 0 0, .ptr k12 0 0]]])], [(k486, 1, [[moC l1341 k1342]])], [(k490, 0, [])], [(k488, 1, [[sF r62 s10]])], [(k489, 1, [[bC false]])], moL r78 3 l1341 k1342] : BL)) [0, 1, 2, 3, 4, 5, 6, 7, 8, 9] (by decide) rfl ?_
 refine L_turn 14 rfl [[], [], [], [], [], [], [], [], [], [], [], [], [], []] [(false, []), (false, []), (false, []), (false, []), (false, []), (false, []), (false, []), (false, []), (false, []), (false, []), (false, []), (false, []), (true, []), (false, [12])] [[1, 2, 3, 4, 5, 6, 7, 8, 9, 10, 12], [0, 3, 6, 7, 8, 9, 10, 12], [0, 3, 6, 7, 8, 9, 10, 12], [0, 1, 2, 6, 7, 8, 9, 10, 12], [0, 6, 7, 8, 9, 10, 12], [0, 6, 7, 8, 9, 10, 12], [0, 1, 2, 3, 4, 5, 8, 12], [0, 1, 2, 3, 4, 5, 8, 12], [0, 1, 2, 3, 4, 5, 6, 7, 12], [0, 1, 2, 3, 4, 5, 12], [0, 1, 2, 3, 4, 5, 12], [12], [0, 1, 2, 3, 4, 5, 6, 7, 8, 9, 10, 11], []] (by kernel_rfl) (by kernel_rfl) (by kernel_rfl) ?_ (fun bb1593 hlt hnd => ?_)
 intro bb1593 hlt hnd
 exact ⟨⟨djE, ⟨djE, ⟨djE, ⟨djE, ⟨djE, ⟨djE, ⟨djE, ⟨djE, ⟨djE, ⟨djE, ⟨djE, ⟨djE, ⟨djE, ⟨djE, trivial⟩⟩⟩⟩⟩⟩⟩⟩⟩⟩⟩⟩⟩⟩, (ltO_cons ltK_nil (ltO_cons ltK_nil (ltO_cons ltK_nil (ltO_cons ltK_nil (ltO_cons ltK_nil (ltO_cons ltK_nil (ltO_cons ltK_nil (ltO_cons ltK_nil (ltO_cons ltK_nil (ltO_cons ltK_nil (ltO_cons ltK_nil (ltO_cons ltK_nil (ltO_cons ltK_nil (ltO_cons ltK_nil ltO_nil))))))))))))))⟩
 have e_k1342 : l1341 = [] ∨ k1342 < bb1593 := key_ltM (r := r78) (w := 3) hlt 9 rfl
 refine tq [2] rfl (hmc (nin_cons (ne_new (key_lt hlt 2 rfl)) nin_nil) hmn) (ql (iO n1) 0 sz22) ?_
 refine tq [] rfl hmn (q_fieldP rfl fa33_4 rfl) ?_
 refine tq [0] rfl (hmc (nin_cons (ne_new (key_lt hlt 0 rfl)) nin_nil) hmn) (ql (.one (.p fr23 (Sl.t r2 s22))) 0 sz31) ?_
 refine tq [] rfl hmn (qm (iO n1581)) ?_
 obtain ⟨n1605, h1604, h⟩ := bindS h
 obtain ⟨h1604a, h1604b, h1604⟩ := atS_some h1604
 refine tq [] rfl hmn (q_ixS rfl rfl h1604a h1604 (el31.trans (congrArg some h1604b.symm))) ?_
 refine tq [] rfl hmn (q_loadI (v := iO n1605) rfl sz2 (map_get h1604) rfl rfl) ?_
 refine tq [] rfl hmn (q_fieldP rfl fa43_2 rfl) ?_
 refine tq [1] rfl (hmc (nin_cons (ne_new (key_lt hlt 1 rfl)) nin_nil) hmn) (ql (.one (sF r2 s9)) 0 sz31) ?_
 refine tq [] rfl hmn (qm (iO n1590)) ?_
 obtain ⟨n1608, h1607, h⟩ := bindS h
 obtain ⟨h1607a, h1607b, h1607⟩ := atS_some h1607
 refine tq [] rfl hmn (q_ixS rfl rfl h1607a h1607 (el31.trans (congrArg some h1607b.symm))) ?_
 refine tq [] rfl hmn (q_loadI (v := iO n1608) rfl sz2 (map_get h1607) rfl rfl) ?_
 obtain ⟨⟨n1610, n1611⟩, h1609, h⟩ := bindS h
 refine tq [] rfl hmn (qc (.agg [iI n1610, uI n1611]) [iO n1, iO n1605, iO n1608] (ring_Mul_r (m + 1) h1609) (vw_cons (vd_one vc_v) (vw_cons (vd_one vc_v) (vw_cons (vd_one vc_v) vw_nil)))) ?_
 refine tn_new rfl rfl rfl [] (by decide) rfl (hm0 rfl) rfl rfl (hkc (ne_new (key_lt hlt 0 rfl)) (hkc (ne_new (key_lt hlt 1 rfl)) (hkc (ne_new (key_lt hlt 2 rfl)) (hkc (ne_new (key_lt hlt 3 rfl)) (hkc (ne_new (key_lt hlt 4 rfl)) (hkc (ne_new (key_lt hlt 5 rfl)) (hkc (ne_new (key_lt hlt 6 rfl)) (hkc (ne_new (key_lt hlt 7 rfl)) (hkc (ne_new (key_lt hlt 8 rfl)) (hkM (e_k1342.imp id fun h => by omega) hkn)))))))))) (q_alloc ty64 (row := [iI 0, uI 0]) rfl rfl) ?_
 refine tn_wr rfl rfl [0] (by decide) rfl (hm0 rfl) rfl (q_store (es' := [[iI n1610, uI n1611]]) 0 rfl rfl rfl sz64 rfl rfl rfl rfl rfl) (q := 0) rfl rfl ?_
 refine tn_end (eS (lS (lO ?_)))
 refine pq (qm (bO b1580)) ?_
 refine oE (eS ?_)
 rcases b1580 with _ | _
 replace h := wF h
 refine cF rfl (lO ?_)
 refine pq (ql (.agg [iI n1610, uI n1611]) 0 sz64) ?_
 refine ow [[iI n1610, uI n1611]] 4 sz64 ?_
 refine pq (qa bt) ?_
 refine oE (bN (eS (lO ?_)))
 refine pq (qm (iO n1581)) ?_
 refine pq (qb p_addY) ?_
 refine pq (qa (iO (IntKind.i64.wrap (n1581 + 1)))) ?_
 refine oE ?_
 obtain rfl := sj h
 exact E_next () (ups_self ⟨rfl, rfl, rfl, rfl, rfl, rfl, rfl, trivial⟩) [1, 2, 3, 4, 5, 6, 7, 8, 9, 10] (by decide) rfl
 replace h := wT h
 refine cT rfl (lO ?_)
 refine pq (ql (iO n1) 3 sz22) ?_
 refine pq (ql (.agg [iI n1582, uI n1583]) 4 sz64) ?_
 refine pq (ql (.agg [iI n1610, uI n1611]) 0 sz64) ?_
 obtain ⟨⟨n1613, n1614⟩, h1612, h⟩ := bindS h
 refine pq (qc (.agg [iI n1613, uI n1614]) [iO n1, .agg [iI n1582, uI n1583], .agg [iI n1610, uI n1611]] (ring_Add_r (m + 1) h1612) (vw_cons (vd_one vc_v) (vw_cons (vd_agg (vc_cons vc_v (vc_cons vc_v vc_nil))) (vw_cons (vd_agg (vc_cons vc_v (vc_cons vc_v vc_nil))) vw_nil)))) ?_
 refine ow [[iI n1613, uI n1614]] 4 sz64 ?_
 refine oE (bN (eS (lO ?_)))
 refine pq (qm (iO n1581)) ?_
 refine pq (qb p_addY) ?_
 refine pq (qa (iO (IntKind.i64.wrap (n1581 + 1)))) ?_
 refine oE ?_
 obtain rfl := sj h
 exact E_next () (ups_self ⟨rfl, rfl, rfl, rfl, rfl, rfl, rfl, trivial⟩) [1, 2, 3, 4, 5, 6, 7, 8, 9, 10] (by decide) rfl
 replace h := ifF c1587 h
 refine pq (qb (p_lss_fZ c1587)) ?_
 refine oE (eS (cF rfl (L_exit ?_)))
 refine E_seqX ?_
 obtain rfl := sj h
 refine E_out ?_
 exact (E_exit () (ups_self ⟨rfl, rfl, trivial⟩) [3, 4, 5, 6, 7, 8, 0, 1, 2, 9] (by decide) rfl)
 rintro (⟨b1615, n1616, n1617⟩ | u) h
 refine J_x (fun kt g => ?_)
 replace h := elimL h
 refine bH (eS (lS (lO ?_)))
 refine pq (ql (.agg [iI n1616, uI n1617]) 0 sz64) ?_
 refine pq (qm (bO b1615)) ?_
 refine ow [[iI n1616, uI n1617]] 0 sz64 ?_
 refine pq (qa (bO b1615)) ?_
 refine oE (eS (lR ?_))
 refine E_call (v := .tup [.agg [iI n1616, uI n1617], bO b1615]) (.inr rfl) (res_cell (d := .agg [iI n1616, uI n1617]) 0 rfl sz64 rfl rfl rfl rfl (res_tmp (d := bO b1615) rfl res_nil)) rfl ?_
 refine pq (qm (.tup [.agg [iI n1616, uI n1617], bO b1615])) ?_
 refine pq (q_ext (v := .agg [iI n1616, uI n1617]) rfl rfl) ?_
 refine pq (q_ext (v := bO b1615) rfl rfl) ?_
 refine ol_new rfl rfl rfl (q_alloc ty64 (row := [iI 0, uI 0]) rfl rfl) (fun k1618 => ?_)
 refine ow [[iI n1616, uI n1617]] 0 sz64 ?_
 refine pq (qa (bO b1615)) ?_
 refine oN ?_
 refine pq (qm (bO b1615)) ?_
 refine oE (eS ?_)
 rcases b1615 with _ | _
 replace h := wF h
 refine cF rfl (lK (bN ?_))
 refine E_roundN (p := 4) rfl ?_
 refine pq (q_not rfl) ?_
 refine pq (qpt bf) ?_
 refine oE (eS (cF rfl (lK (bN (eS (lO ?_))))))
 refine pq (qb p_addY) ?_
 refine pq (qm (iO (IntKind.i64.wrap (n1339 + 1)))) ?_
 refine oE ?_
 obtain rfl := sj h
 exact E_next k1342 (ups_self ⟨rfl, rfl, rfl, rfl, rfl, trivial⟩) [4, 5, 6, 2, 3, 7, 8, 9, 10] (by decide) rfl
 replace h := wT h
 refine cT rfl (lO ?_)
 refine pq (ql (.one (moC l1341 k1342)) 3 sz67) ?_
 refine pq (qm (iO n1339)) ?_
 refine pq (ql (.agg [iI n1616, uI n1617]) 0 sz64) ?_
 refine pq (q_build (cs := [iI n1339, iI n1616, uI n1617]) ty79 rfl pl79 rfl) ?_
 refine ol_new rfl rfl rfl (q_bslice (cs := [iI n1339, iI n1616, uI n1617]) (es := (([(n1339, (n1616, n1617))] : List (Int × (Int × Int)))).map (rowC r78)) ty67 rfl ty79 rfl rfl rfl rfl rfl) (fun k1619 => ?_)
 obtain ⟨_, h1620, h⟩ := bindS h
 obtain ⟨h1620b, rfl⟩ := app_some h1620
 refine ol_appM (r := r78) (l := l1341) (ys := ([(n1339, (n1616, n1617))] : List (Int × (Int × Int)))) 11 rfl rfl rfl rfl rfl rfl (el_ownM (l := ([(n1339, (n1616, n1617))] : List (Int × (Int × Int)))) 0 rfl) rfl h1620 (fun y => rfl) el67 ty67 rfl rfl rfl rfl rfl (fun k1621 => ?_)
 refine ow [[moC (l1341 ++ ([(n1339, (n1616, n1617))] : List (Int × (Int × Int)))) k1621]] 5 sz67 ?_
 refine oE (bN ?_)
 refine E_roundN (p := 6) rfl ?_
 refine pq (q_not rfl) ?_
 refine pq (qpt bf) ?_
 refine oE (eS (cF rfl (lK (bN (eS (lO ?_))))))
 refine pq (qb p_addY) ?_
 refine pq (qm (iO (IntKind.i64.wrap (n1339 + 1)))) ?_
 refine oE ?_
 obtain rfl := sj h
 exact E_next k1621 (ups_self ⟨rfl, rfl, rfl, rfl, rfl, trivial⟩) [6, 7, 8, 4, 5, 9, 10, 11, 0] (by decide) rfl
 exact u.elim
 replace h := wT h
 refine sq (q_binB rfl rfl (eqneqB4 _ _ _ _) rfl) ?_
 refine sq (qm bf) ?_
 iterate 2 refine ss ?_
 refine st_cut ?_
 iterate 2 refine os ?_
 refine pq (qpf bf) ?_
 refine oE (eS (cF rfl (lK (bN (eS (lO ?_))))))
 refine pq (qb p_addY) ?_
 refine pq (qm (iO (IntKind.i64.wrap (n1339 + 1)))) ?_
 refine oE ?_
 obtain rfl := sj h
 exact E_next k1342 (ups_self ⟨rfl, rfl, rfl, rfl, rfl, trivial⟩) [0, 1, 2, 3, 4, 5, 6, 7, 8] (by decide) rfl
 replace h := ifF c1343 h
 refine pq (qb (p_lss_fZ c1343)) ?_
 refine oE (eS (lS (cF rfl (L_exit ?_))))
 refine E_seqX ?_
 obtain rfl := sj h
 refine E_out ?_
 exact (E_exit k1342 (ups_self trivial) [3, 4, 0, 5, 6, 7, 8] (by decide) rfl)
 rintro (l1622 | u) h
 refine J_x (fun k1623 g => ?_)
 replace h := elimL h
 refine bH ?_
 refine E_range (p := 2) (.inl rfl) rfl ?_
 refine bN (eS (lS (lO ?_)))
 refine pq (ql (.one (moC l1622 k1623)) 1 sz67) ?_
 refine pq (qa (.one (moC l1622 k1623))) ?_
 refine pq (qa (iO 0)) ?_
 refine oE (eS (lR ?_))
 obtain rfl := sj h
 exact E_endF (.inr rfl) (res_tmp rfl (res_tmp rfl res_nil)) (vw_cons (vd_one (vc_M (r := r78) 6 rfl (fun x h m => rfl))) (vw_cons (vd_one vc_v) vw_nil)) oW rfl rfl
 exact u.elim
noncomputable def pull_wrong_b2 (s3 : Sl (Int × (Int × Int))) (n62 : Int) : Option (Int ⊕ (Unit ⊕ Int)) :=
 (if n62 < ((s3.l.length : Nat) : Int) then ((atS 3 s3 n62).bind fun (n66, (n67, n68)) => ((atS 3 s3 (IntKind.i64.wrap (n62 - 1))).bind fun (n71, (n72, n73)) => (if n66 ≤ n71 then some (.inr (.inr 6)) else some (.inl (IntKind.i64.wrap (n62 + 1)))))) else some (.inr (.inl ())))
noncomputable def pull_wrong_b1 (n2 : Int) (s3 : Sl (Int × (Int × Int))) (n27 : Int) : Option (Int ⊕ (Unit ⊕ Int)) :=
 (if n27 < ((s3.l.length : Nat) : Int) then ((atS 3 s3 n27).bind fun (n31, (n32, n33)) => (if n31 < 0 then some (.inr (.inr 3)) else (if n31 ≥ n2 then some (.inr (.inr 3)) else some (.inl (IntKind.i64.wrap (n27 + 1)))))) else some (.inr (.inl ())))
noncomputable def pull_wrong (n1 : Int) (n2 : Int) (s3 : Sl (Int × (Int × Int))) : Option (Int) :=
 ((ring_Is n1).bind fun b5 => (if b5 = true then (if n2 < 0 then some 3 else (if n2 > 4096 then some 3 else ((loopO (pull_wrong_b1 n2 s3) 0).bind (Sum.elim (fun _ => ((loopO (pull_wrong_b2 s3) 1).bind (Sum.elim (fun _ => some 0) (fun u => some u)))) (fun u => some u))))) else some 8))
theorem pull_wrong_r (m : Nat) {n1 : Int} {n2 : Int} {s3 : Sl (Int × (Int × Int))} {out : Int} (h : pull_wrong n1 n2 s3 = some out) : RunsP E1 (m + 2) 50 [.one (iT .i64 n1), .one (iT .i64 n2), .one (Sl.t r78 s3)] (.fresh, [.one (iT .i64 out)]) := by
 refine fn_F rfl (by rw [E1_fn]; exact show fiOf Tryd.prog 50 = _ by unfold fiOf; rw [Tryd.func50]; unfold Tryd.f50; rfl) rfl ?_
 dsimp only
 unfold pull_wrong at h
 refine lS (lO ?_)
 refine pq (qa (iO 0)) ?_
 refine oE (eS (lS (lS (lO ?_))))
 refine pq (qm (iO n1)) ?_
 obtain ⟨b5, h4, h⟩ := bindS h
 refine pq (qc (bO b5) [iO n1] (ring_Is_r (m + 0) h4) (vw_cons (vd_one vc_v) vw_nil)) ?_
 rcases b5 with _ | _
 replace h := wF h
 refine pq (q_not rfl) ?_
 refine oE (eS (cT rfl (lS (lO ?_))))
 refine pq (qa (iO 8)) ?_
 refine oE (eS (lR (eR ?_)))
 obtain rfl := sj h
 exact eF1
 replace h := wT h
 refine pq (q_not rfl) ?_
 refine oE (eS (cF rfl (lK (eS (lS (lS (lO ?_)))))))
 refine pq (qm (iO n2)) ?_
 by_cases c6 : n2 < 0
 replace h := ifT c6 h
 refine pq (qb (p_lss_tZ c6)) ?_
 refine pq (qm bt) ?_
 iterate 2 refine os ?_
 refine pq (qpt bt) ?_
 refine oE (eS (cT rfl (lS (lO ?_))))
 refine pq (qa (iO 3)) ?_
 refine oE (eS (lR (eR ?_)))
 obtain rfl := sj h
 exact eF1
 replace h := ifF c6 h
 refine pq (qb (p_lss_fZ c6)) ?_
 refine pq (qm bf) ?_
 refine pq (qm (iO n2)) ?_
 by_cases c7 : n2 > 4096
 replace h := ifT c7 h
 refine pq (qb (p_gtr_tZ c7)) ?_
 refine pq (qpf bt) ?_
 refine oE (eS (cT rfl (lS (lO ?_))))
 refine pq (qa (iO 3)) ?_
 refine oE (eS (lR (eR ?_)))
 obtain rfl := sj h
 exact eF1
 replace h := ifF c7 h
 refine pq (qb (p_gtr_fZ c7)) ?_
 refine pq (qpf bf) ?_
 refine oE (eS (cF rfl (lK (eS (lS (lS (lO ?_)))))))
 refine pq (qm (.one (sF r78 s3))) ?_
 refine pq (q_lenS rfl ty67 rfl rfl rfl rfl) ?_
 refine pq (qm (iO 0)) ?_
 refine oE (eS (lB ?_))
 let S1 : Int → Unit → (Nat → D) → Nat → D := fun a kt g => ups g [(1, iO n2), (2, .one (sF r78 s3)), (19, .one (sF r78 s3)), (20, .one (iI ((s3.l.length : Nat) : Int))), (21, iO a)]
 let SL1 : Int → Unit → BL := fun a kt => ([] : BL)
 let G1 : Int → Ex → St → Prop := fun u => endQ E1 [.tmp 6] (.fresh, [.one (iT .i64 u)])
 let Sx1 : Unit → Unit → (Nat → D) → Nat → D := fun a kt g => ups g [(2, .one (sF r78 s3))]
 let SLx1 : Unit → Unit → BL := fun a kt => ([] : BL)
 let J1 : (Unit ⊕ Int) → Ex → St → Prop := JX 53 0 Sx1 SLx1 G1
 refine L_loopS (pull_wrong_b1 n2 s3) S1 SL1 J1 JX_n 0 h () (ups_self ⟨rfl, rfl, rfl, rfl, rfl, trivial⟩) [] (by decide) rfl ?_ ?_
 rintro n27 _ g out h
 change pull_wrong_b1 n2 s3 n27 = some out at h
 unfold pull_wrong_b1 at h
 refine lS (lO ?_)
 by_cases c28 : n27 < ((s3.l.length : Nat) : Int)
 replace h := ifT c28 h
 refine pq (qb (p_lss_tZ c28)) ?_
 refine oE (eS (lS (cT rfl (lK (eS (lS (lB (lS (lO ?_)))))))))
 obtain ⟨⟨n31, ⟨n32, n33⟩⟩, h30, h⟩ := bindS h
 obtain ⟨h30a, h30b, h30⟩ := atS_some h30
 refine pq (q_ixS rfl rfl h30a h30 (el67.trans (congrArg some h30b.symm))) ?_
 refine pq (q_loadI (v := .agg [iI n31, iI n32, uI n33]) rfl sz79 (map_get h30) rfl rfl) ?_
 refine ol_new rfl rfl rfl (q_alloc ty79 (row := [iI 0, iI 0, uI 0]) rfl rfl) (fun k34 => ?_)
 refine ow [[iI n31, iI n32, uI n33]] 0 sz79 ?_
 refine oN ?_
 refine pq (q_fieldP rfl fa79_0 rfl) ?_
 refine pq (ql (iO n31) 0 sz3) ?_
 by_cases c35 : n31 < 0
 replace h := ifT c35 h
 refine pq (qb (p_lss_tZ c35)) ?_
 refine pq (qm bt) ?_
 iterate 4 refine os ?_
 refine pq (qpt bt) ?_
 refine oE (eS (cT rfl (lS (lO ?_))))
 refine pq (qa (iO 3)) ?_
 refine oE (eS (lR (bR (eR ?_))))
 obtain rfl := sj h
 exact E_out (E_up (eF1))
 replace h := ifF c35 h
 refine pq (qb (p_lss_fZ c35)) ?_
 refine pq (qm bf) ?_
 refine pq (q_fieldP rfl fa79_0 rfl) ?_
 refine pq (ql (iO n31) 0 sz3) ?_
 refine pq (qm (iO n2)) ?_
 by_cases c36 : n31 ≥ n2
 replace h := ifT c36 h
 refine pq (qb (p_geq_tZ c36)) ?_
 refine pq (qpf bt) ?_
 refine oE (eS (cT rfl (lS (lO ?_))))
 refine pq (qa (iO 3)) ?_
 refine oE (eS (lR (bR (eR ?_))))
 obtain rfl := sj h
 exact E_out (E_up (eF1))
 replace h := ifF c36 h
 refine pq (qb (p_geq_fZ c36)) ?_
 refine pq (qpf bf) ?_
 refine oE (eS (cF rfl (lK (bN (eS (lO ?_))))))
 refine pq (qb p_addY) ?_
 refine pq (qm (iO (IntKind.i64.wrap (n27 + 1)))) ?_
 refine oE ?_
 obtain rfl := sj h
 exact E_next () (ups_self ⟨rfl, rfl, rfl, rfl, rfl, trivial⟩) [] (by decide) rfl
 replace h := ifF c28 h
 refine pq (qb (p_lss_fZ c28)) ?_
 refine oE (eS (lS (cF rfl (L_exit ?_))))
 refine E_seqX ?_
 obtain rfl := sj h
 refine E_out ?_
 exact (E_exit () (ups_self ⟨rfl, trivial⟩) [] (by decide) rfl)
 rintro (_ | u) h
 refine J_x (fun kt g => ?_)
 replace h := elimL h
 refine bH (eS (lS (lS (lO ?_))))
 refine pq (qa (iO 1)) ?_
 refine oE (eS (lB ?_))
 let S2 : Int → Unit → (Nat → D) → Nat → D := fun a kt g => ups g [(2, .one (sF r78 s3)), (9, iO a)]
 let SL2 : Int → Unit → BL := fun a kt => ([] : BL)
 let G2 : Int → Ex → St → Prop := fun u => endQ E1 [.tmp 6] (.fresh, [.one (iT .i64 u)])
 let Sx2 : Unit → Unit → (Nat → D) → Nat → D := fun a kt g => ups g []
 let SLx2 : Unit → Unit → BL := fun a kt => ([] : BL)
 let J2 : (Unit ⊕ Int) → Ex → St → Prop := JX 53 2 Sx2 SLx2 G2
 refine L_loopS (pull_wrong_b2 s3) S2 SL2 J2 JX_n 1 h () (ups_self ⟨rfl, rfl, trivial⟩) [] (by decide) rfl ?_ ?_
 rintro n62 _ g out h
 change pull_wrong_b2 s3 n62 = some out at h
 unfold pull_wrong_b2 at h
 refine lS (lS (lO ?_))
 refine pq (qm (iO n62)) ?_
 refine pq (qm (.one (sF r78 s3))) ?_
 refine pq (q_lenS rfl ty67 rfl rfl rfl rfl) ?_
 by_cases c63 : n62 < ((s3.l.length : Nat) : Int)
 replace h := ifT c63 h
 refine pq (qb (p_lss_tZ c63)) ?_
 refine oE (eS (cT rfl (lK (eS (lS (lB (lS ?_)))))))
 refine L_still (by kernel_rfl) ?_
 refine sq (qm (.one (sF r78 s3))) ?_
 refine sq (qm (iO n62)) ?_
 obtain ⟨⟨n66, ⟨n67, n68⟩⟩, h65, h⟩ := bindS h
 obtain ⟨h65a, h65b, h65⟩ := atS_some h65
 refine sq (q_ixS rfl rfl h65a h65 (el67.trans (congrArg some h65b.symm))) ?_
 refine sq (q_fieldI rfl fa79_0 rfl) ?_
 refine sq (q_loadI (v := iO n66) rfl sz3 (map_get h65) rfl rfl) ?_
 refine sq (qm (.one (sF r78 s3))) ?_
 refine sq (qm (iO n62)) ?_
 refine sq (qb p_subY) ?_
 obtain ⟨⟨n71, ⟨n72, n73⟩⟩, h70, h⟩ := bindS h
 obtain ⟨h70a, h70b, h70⟩ := atS_some h70
 refine sq (q_ixS rfl rfl h70a h70 (el67.trans (congrArg some h70b.symm))) ?_
 refine sq (q_fieldI rfl fa79_0 rfl) ?_
 refine sq (q_loadI (v := iO n71) rfl sz3 (map_get h70) rfl rfl) ?_
 by_cases c74 : n66 ≤ n71
 replace h := ifT c74 h
 refine sq (qb (p_leq_tZ c74)) ?_
 refine st_end (eS (cT rfl (lS (lO ?_))))
 refine pq (qa (iO 6)) ?_
 refine oE (eS (lR (bR (eR ?_))))
 obtain rfl := sj h
 exact E_out (E_up (eF1))
 replace h := ifF c74 h
 refine sq (qb (p_leq_fZ c74)) ?_
 refine st_end (eS (cF rfl (lK (bN (eS (lO ?_))))))
 refine pq (qm (iO n62)) ?_
 refine pq (qb p_addY) ?_
 refine pq (qa (iO (IntKind.i64.wrap (n62 + 1)))) ?_
 refine oE ?_
 obtain rfl := sj h
 exact E_next () (ups_self ⟨rfl, rfl, trivial⟩) [] (by decide) rfl
 replace h := ifF c63 h
 refine pq (qb (p_lss_fZ c63)) ?_
 refine oE (eS (cF rfl (L_exit ?_)))
 refine E_seqX ?_
 obtain rfl := sj h
 refine E_out ?_
 exact (E_exit () (ups_self trivial) [] (by decide) rfl)
 rintro (_ | u) h
 refine J_x (fun kt g => ?_)
 replace h := elimL h
 refine bH (eS (lS (lO ?_)))
 refine pq (qa (iO 0)) ?_
 refine oE (eS (lR ?_))
 obtain rfl := sj h
 exact eF1
 obtain rfl := Option.some.inj (elimR h)
 exact J_up (fun s hs => hs)
 obtain rfl := Option.some.inj (elimR h)
 exact J_up (fun s hs => hs)
noncomputable def wide_Narrow (a0 : Int × Int) : Option (Int × Bool) :=
 match a0 with
 | (n1, n2) => ((wide_Of (IntKind.i64.wrap n2)).bind fun (n5, n6) => (if n1 = n5 ∧ n2 = n6 then some ((IntKind.i64.wrap n2), true) else some (0, false)))
theorem wide_Narrow_r (m : Nat) {a0 : Int × Int} {out : Int × Bool} (h : wide_Narrow a0 = some out) : RunsP E1 (m + 2) 67 [.agg (r63 a0)] (.fresh, [.one (iT .i64 out.1), .one (bT out.2)]) := by
 obtain ⟨n1, n2⟩ := a0
 refine fn_F rfl (by rw [E1_fn]; exact show fiOf Tryd.prog 67 = _ by unfold fiOf; rw [Tryd.func67]; unfold Tryd.f67; rfl) rfl ?_
 dsimp only
 unfold wide_Narrow at h
 refine lS (lO ?_)
 refine ol_new rfl rfl rfl (q_box ty64 rfl (cs := [iI n1, uI n2]) rfl rfl) (fun k3 => ?_)
 refine pq (qa (iO 0)) ?_
 refine pq (qa bf) ?_
 refine oN ?_
 refine pq (q_fieldP rfl fa64_1 rfl) ?_
 refine pq (ql (.one (uI n2)) 0 sz62) ?_
 refine pq (q_conv rfl (cv62_2_u64 _) rfl) ?_
 refine pq (qa (iO (IntKind.i64.wrap n2))) ?_
 refine oE (eS (lS (lS ?_)))
 refine L_still (by kernel_rfl) ?_
 refine sq (ql (.agg [iI n1, uI n2]) 0 sz64) ?_
 refine sq (qm (iO (IntKind.i64.wrap n2))) ?_
 obtain ⟨⟨n5, n6⟩, h4, h⟩ := bindS h
 refine sq (qc (.agg [iI n5, uI n6]) [.one (iI (IntKind.i64.wrap n2))] (wide_Of_r (m + 0) h4) (vw_cons (vd_one vc_v) vw_nil)) ?_
 by_cases c7 : n1 = n5 ∧ n2 = n6
 replace h := ifT c7 h
 refine sq (q_binA rfl rfl (by rfl) (by rfl) (eqneqA64_t _ _ c7) rfl) ?_
 refine st_end (eS (cF rfl (lK (eS (lS (lO ?_))))))
 refine pq (qm (iO (IntKind.i64.wrap n2))) ?_
 refine pq (qa (iO (IntKind.i64.wrap n2))) ?_
 refine pq (qa bt) ?_
 refine oE (eS (lR ?_))
 obtain rfl := sj h
 exact E_endF (.inr rfl) (res_tmp rfl (res_tmp rfl res_nil)) (vw_cons (vd_one vc_v) (vw_cons (vd_one vc_v) vw_nil)) oW rfl rfl
 replace h := ifF c7 h
 refine sq (q_binA rfl rfl (by rfl) (by rfl) (eqneqA64_f _ _ c7) rfl) ?_
 refine st_end (eS (cT rfl (lS (lO ?_))))
 refine pq (qa (iO 0)) ?_
 refine pq (qa bf) ?_
 refine oE (eS (lR (eR ?_)))
 obtain rfl := sj h
 exact E_endF (.inr rfl) (res_tmp rfl (res_tmp rfl res_nil)) (vw_cons (vd_one vc_v) (vw_cons (vd_one vc_v) vw_nil)) oW rfl rfl
noncomputable def ring_Narrow (n1 : Int) (a1 : Int × Int) : Option (Int × Bool) :=
 match a1 with
 | (n2, n3) => ((wide_Narrow (n2, n3)).bind fun (n6, b7) => some (n6, b7))
theorem ring_Narrow_r (m : Nat) {n1 : Int} {a1 : Int × Int} {out : Int × Bool} (h : ring_Narrow n1 a1 = some out) : RunsP E1 (m + 3) 51 [.one (iT .i64 n1), .agg (r63 a1)] (.fresh, [.one (iT .i64 out.1), .one (bT out.2)]) := by
 obtain ⟨n2, n3⟩ := a1
 refine fn_F rfl (by rw [E1_fn]; exact show fiOf Tryd.prog 51 = _ by unfold fiOf; rw [Tryd.func51]; unfold Tryd.f51; rfl) rfl ?_
 dsimp only
 unfold ring_Narrow at h
 refine lS (lO ?_)
 refine ol_new rfl rfl rfl (q_box ty64 rfl (cs := [iI n2, uI n3]) rfl rfl) (fun k4 => ?_)
 refine pq (qa (iO 0)) ?_
 refine pq (qa bf) ?_
 refine oN ?_
 refine pq (ql (.agg [iI n2, uI n3]) 0 sz64) ?_
 obtain ⟨⟨n6, b7⟩, h5, h⟩ := bindS h
 refine pq (qc (.tup [iO n6, bO b7]) [.agg [iI n2, uI n3]] (wide_Narrow_r (m + 0) h5) (vw_cons (vd_agg (vc_cons vc_v (vc_cons vc_v vc_nil))) vw_nil)) ?_
 refine pq (q_ext (v := iO n6) rfl rfl) ?_
 refine pq (q_ext (v := bO b7) rfl rfl) ?_
 refine pq (qa (iO n6)) ?_
 refine pq (qa (bO b7)) ?_
 refine oE (eS (lR ?_))
 obtain rfl := sj h
 exact E_endF (.inr rfl) (res_tmp rfl (res_tmp rfl res_nil)) (vw_cons (vd_one vc_v) (vw_cons (vd_one vc_v) vw_nil)) oW rfl rfl
noncomputable def ring_Zero (n1 : Int) : Option (Int) :=
 (if n1 = 1 then some 4611686018427387904 else (if n1 = 3 then some 4611686018427387904 else (if n1 = 4 then some 4611686018427387904 else some 0)))
theorem ring_Zero_r (m : Nat) {n1 : Int} {out : Int} (h : ring_Zero n1 = some out) : RunsP E1 (m + 1) 52 [.one (iT .i64 n1)] (.fresh, [.one (iT .i64 out)]) := by
 refine fn_F rfl (by rw [E1_fn]; exact show fiOf Tryd.prog 52 = _ by unfold fiOf; rw [Tryd.func52]; unfold Tryd.f52; rfl) rfl ?_
 dsimp only
 unfold ring_Zero at h
 refine lS (lO ?_)
 refine pq (qa (iO 0)) ?_
 refine oE (eS (lS (lS (lO ?_))))
 refine pq (qm (iO n1)) ?_
 refine oE (eS (lB (lS (lS (lO ?_)))))
 by_cases c2 : n1 = 1
 replace h := ifT c2 h
 refine pq (qb (p_eql_tZ c2)) ?_
 refine pq (qa bt) ?_
 refine oE (eS (cT rfl (lK (eS (cT rfl (lS (lO ?_)))))))
 refine pq (qa (iO 4611686018427387904)) ?_
 refine oE (eS (lR (bR (eR ?_))))
 obtain rfl := sj h
 exact eF1
 replace h := ifF c2 h
 refine pq (qb (p_eql_fZ c2)) ?_
 refine pq (qa bf) ?_
 refine oE (eS (cF rfl (lS (lO ?_))))
 by_cases c3 : n1 = 3
 replace h := ifT c3 h
 refine pq (qb (p_eql_tZ c3)) ?_
 refine pq (qa bt) ?_
 refine oE (eS (cT rfl (lK (eS (cT rfl (lS (lO ?_)))))))
 refine pq (qa (iO 4611686018427387904)) ?_
 refine oE (eS (lR (bR (eR ?_))))
 obtain rfl := sj h
 exact eF1
 replace h := ifF c3 h
 refine pq (qb (p_eql_fZ c3)) ?_
 refine pq (qa bf) ?_
 refine oE (eS (cF rfl (lO ?_)))
 by_cases c4 : n1 = 4
 replace h := ifT c4 h
 refine pq (qb (p_eql_tZ c4)) ?_
 refine pq (qa bt) ?_
 refine oE (eS (cT rfl (lS (lO ?_))))
 refine pq (qa (iO 4611686018427387904)) ?_
 refine oE (eS (lR (bR (eR ?_))))
 obtain rfl := sj h
 exact eF1
 replace h := ifF c4 h
 refine pq (qb (p_eql_fZ c4)) ?_
 refine pq (qa bf) ?_
 refine oE (eS (cF rfl (lK (bN (eS (lS (lO ?_)))))))
 refine pq (qa (iO 0)) ?_
 refine oE (eS (lR ?_))
 obtain rfl := sj h
 exact eF1
noncomputable def pull_Done_b1 (n1 : Int) (s3 : Sl (Int × (Int × Int))) (a : Int × (List (Int × Int))) : Option ((Int × (List (Int × Int))) ⊕ ((List (Int × Int)) ⊕ ((Int × (Sl (Int × Int))) × Int))) :=
 match a with
 | (n46, l47) => (if n46 < ((s3.l.length : Nat) : Int) then ((atS 3 s3 n46).bind fun (n52, (n53, n54)) => ((ring_Narrow n1 (n53, n54)).bind fun (n57, b58) => (if b58 = true then ((ring_Zero n1).bind fun n60 => (if n57 ≠ n60 then ((app l47 ([(n52, n57)] : List (Int × Int))).bind fun _ => some (.inl ((IntKind.i64.wrap (n46 + 1)), (l47 ++ ([(n52, n57)] : List (Int × Int)))))) else some (.inl ((IntKind.i64.wrap (n46 + 1)), l47)))) else some (.inr (.inr ((0, (⟨false, 0, []⟩ : Sl (Int × Int))), 12)))))) else some (.inr (.inl l47)))
noncomputable def pull_Done (n1 : Int) (n2 : Int) (s3 : Sl (Int × (Int × Int))) : Option ((Int × (Sl (Int × Int))) × Int) :=
 ((pull_wrong n1 n2 s3).bind fun n6 => (if n6 ≠ 0 then some ((0, (⟨false, 0, []⟩ : Sl (Int × Int))), n6) else ((loopO (pull_Done_b1 n1 s3) (0, ([] : List (Int × Int)))).bind (Sum.elim (fun l65 => some ((n2, (mo 2 l65)), 0)) (fun u => some u)))))
theorem pull_Done_r (m : Nat) {n1 : Int} {n2 : Int} {s3 : Sl (Int × (Int × Int))} {out : (Int × (Sl (Int × Int))) × Int} (h : pull_Done n1 n2 s3 = some out) : RunsP E1 (m + 4) 28 [.one (iT .i64 n1), .one (iT .i64 n2), .one (Sl.t r78 s3)] (.fresh, [.agg (r35 out.1), .one (iT .i64 out.2)]) := by
 refine fn_F rfl (by rw [E1_fn]; exact show fiOf Tryd.prog 28 = _ by unfold fiOf; rw [Tryd.func28]; unfold Tryd.f28; rfl) rfl ?_
 dsimp only
 unfold pull_Done at h
 refine lS (lO ?_)
 refine ol_new rfl rfl rfl (q_alloc ty36 (row := [iI 0, nC]) rfl rfl) (fun k4 => ?_)
 refine pq (qa (iO 0)) ?_
 refine oE (eS (lS (lS (lO ?_))))
 refine pq (qm (iO n1)) ?_
 refine pq (qm (iO n2)) ?_
 refine pq (qm (.one (sF r78 s3))) ?_
 obtain ⟨n6, h5, h⟩ := bindS h
 refine pq (qc (iO n6) [iO n1, iO n2, .one (sF r78 s3)] (pull_wrong_r (m + 1) h5) (vw_cons (vd_one vc_v) (vw_cons (vd_one vc_v) (vw_cons (vd_one vc_s) vw_nil)))) ?_
 refine pq (qa (iO n6)) ?_
 refine oN ?_
 refine pq (qm (iO n6)) ?_
 by_cases c7 : n6 ≠ 0
 replace h := ifT c7 h
 refine pq (qb (p_neq_tZ c7)) ?_
 refine oE (eS (cT rfl (lS (lO ?_))))
 refine pq (q_build (cs := [iI 0, nC]) ty36 rfl pl36 rfl) ?_
 refine pq (qm (iO n6)) ?_
 refine ow [[iI 0, nC]] 0 sz36 ?_
 refine pq (qa (iO n6)) ?_
 refine oE (eS (lR (eR ?_)))
 obtain rfl := sj h
 exact E_endF (.inr rfl) (res_cell (d := .agg [iI 0, nC]) 0 rfl sz36 rfl rfl rfl rfl (res_tmp rfl res_nil)) (vw_cons (vd_agg (vc_cons vc_v (vc_cons vc_s vc_nil))) (vw_cons (vd_one vc_v) vw_nil)) oW rfl rfl
 replace h := ifF c7 h
 refine pq (qb (p_neq_fZ c7)) ?_
 refine oE (eS (cF rfl (lK (eS (lS (lO ?_))))))
 refine pq (qm (iO n2)) ?_
 refine pq (q_build (cs := [iI n2, nC]) ty36 rfl pl36 rfl) ?_
 refine ol_new rfl rfl rfl (q_alloc ty36 (row := [iI 0, nC]) rfl rfl) (fun k8 => ?_)
 refine ow [[iI n2, nC]] 0 sz36 ?_
 refine oE (eS (lS (lS (lO ?_))))
 refine pq (qm (.one (sF r78 s3))) ?_
 refine pq (q_lenS rfl ty67 rfl rfl rfl rfl) ?_
 refine pq (qm (iO 0)) ?_
 refine oE (eS (lB ?_))
 refine L_addM (α := Int × Int) r57 2 ?_
 let S1 : (Int × (List (Int × Int))) → Nat → (Nat → D) → Nat → D := fun a kt g => ups g [(0, iO n1), (6, .one (.ptr k4 0 0)), (9, .one (.ptr k8 0 0)), (24, .one (sF r78 s3)), (25, .one (iI ((s3.l.length : Nat) : Int))), (26, .one (iI a.1))]
 let SL1 : (Int × (List (Int × Int))) → Nat → BL := fun a kt => ([[(k4, 2, [[iI 0, nC]])], [(k8, 2, [[iI n2, moC a.2 kt]])], moL r57 2 a.2 kt] : BL)
 let G1 : ((Int × (Sl (Int × Int))) × Int) → Ex → St → Prop := fun u => endQ E1 [.cell 6 36, .tmp 7] (.fresh, [.agg (r35 u.1), .one (iT .i64 u.2)])
 let Sx1 : (List (Int × Int)) → Nat → (Nat → D) → Nat → D := fun a kt g => ups g [(6, .one (.ptr k4 0 0)), (9, .one (.ptr k8 0 0))]
 let SLx1 : (List (Int × Int)) → Nat → BL := fun a kt => ([[(k4, 2, [[iI 0, nC]])], [(k8, 2, [[iI n2, moC a kt]])], moL r57 2 a kt] : BL)
 let J1 : ((List (Int × Int)) ⊕ ((Int × (Sl (Int × Int))) × Int)) → Ex → St → Prop := JX 55 0 Sx1 SLx1 G1
 refine L_loopS (pull_Done_b1 n1 s3) S1 SL1 J1 JX_n (0, ([] : List (Int × Int))) h 1044 (ups_self ⟨rfl, rfl, rfl, rfl, rfl, rfl, trivial⟩) [2, 1, 0] (by decide) rfl ?_ ?_
 rintro ⟨n46, l47⟩ k48 g out h
 change pull_Done_b1 n1 s3 (n46, l47) = some out at h
 unfold pull_Done_b1 at h
 refine lS (lO ?_)
 by_cases c49 : n46 < ((s3.l.length : Nat) : Int)
 replace h := ifT c49 h
 refine pq (qb (p_lss_tZ c49)) ?_
 refine oE (eS (lS (cT rfl (lK (eS (lS (lB (lS (lO ?_)))))))))
 obtain ⟨⟨n52, ⟨n53, n54⟩⟩, h51, h⟩ := bindS h
 obtain ⟨h51a, h51b, h51⟩ := atS_some h51
 refine pq (q_ixS rfl rfl h51a h51 (el67.trans (congrArg some h51b.symm))) ?_
 refine pq (q_loadI (v := .agg [iI n52, iI n53, uI n54]) rfl sz79 (map_get h51) rfl rfl) ?_
 refine ol_new rfl rfl rfl (q_alloc ty79 (row := [iI 0, iI 0, uI 0]) rfl rfl) (fun k55 => ?_)
 refine ow [[iI n52, iI n53, uI n54]] 0 sz79 ?_
 refine oN ?_
 refine pq (qm (iO n1)) ?_
 refine pq (q_fieldP rfl fa79_1 rfl) ?_
 refine pq (ql (.agg [iI n53, uI n54]) 0 sz64) ?_
 obtain ⟨⟨n57, b58⟩, h56, h⟩ := bindS h
 refine pq (qc (.tup [iO n57, bO b58]) [iO n1, .agg [iI n53, uI n54]] (ring_Narrow_r (m + 0) h56) (vw_cons (vd_one vc_v) (vw_cons (vd_agg (vc_cons vc_v (vc_cons vc_v vc_nil))) vw_nil))) ?_
 refine pq (qm (.tup [iO n57, bO b58])) ?_
 refine pq (q_ext (v := iO n57) rfl rfl) ?_
 refine pq (q_ext (v := bO b58) rfl rfl) ?_
 refine pq (qa (iO n57)) ?_
 refine pq (qa (bO b58)) ?_
 refine oE (eS (lS (lS (lO ?_))))
 refine pq (qm (bO b58)) ?_
 rcases b58 with _ | _
 replace h := wF h
 refine pq (q_not rfl) ?_
 refine oE (eS (cT rfl (lS (lO ?_))))
 refine pq (q_build (cs := [iI 0, nC]) ty36 rfl pl36 rfl) ?_
 refine ow [[iI 0, nC]] 1 sz36 ?_
 refine pq (qa (iO 12)) ?_
 refine oE (eS (lR (eR (bR (eR ?_)))))
 obtain rfl := sj h
 exact E_out (E_up (E_endF (.inr rfl) (res_cell (d := .agg [iI 0, nC]) 1 rfl sz36 rfl rfl rfl rfl (res_tmp rfl res_nil)) (vw_cons (vd_agg (vc_cons vc_v (vc_cons vc_s vc_nil))) (vw_cons (vd_one vc_v) vw_nil)) oW rfl rfl))
 replace h := wT h
 refine pq (q_not rfl) ?_
 refine oE (eS (cF rfl (lK (eS (lS (lO ?_))))))
 refine pq (qm (iO n57)) ?_
 refine pq (qm (iO n1)) ?_
 obtain ⟨n60, h59, h⟩ := bindS h
 refine pq (qc (iO n60) [iO n1] (ring_Zero_r (m + 2) h59) (vw_cons (vd_one vc_v) vw_nil)) ?_
 by_cases c61 : n57 ≠ n60
 replace h := ifT c61 h
 refine pq (qb (p_neq_tZ c61)) ?_
 refine oE (eS (cT rfl (lO ?_)))
 refine pq (q_fieldP rfl fa36_1 rfl) ?_
 refine pq (ql (.one (moC l47 k48)) 2 sz25) ?_
 refine pq (q_fieldP rfl fa79_0 rfl) ?_
 refine pq (ql (iO n52) 0 sz3) ?_
 refine pq (qm (iO n57)) ?_
 refine pq (q_build (cs := [iI n52, iI n57]) ty58 rfl pl58 rfl) ?_
 refine ol_new rfl rfl rfl (q_bslice (cs := [iI n52, iI n57]) (es := (([(n52, n57)] : List (Int × Int))).map (rowC r57)) ty25 rfl ty58 rfl rfl rfl rfl rfl) (fun k62 => ?_)
 obtain ⟨_, h63, h⟩ := bindS h
 obtain ⟨h63b, rfl⟩ := app_some h63
 refine ol_appM (r := r57) (l := l47) (ys := ([(n52, n57)] : List (Int × Int))) 4 rfl rfl rfl rfl rfl rfl (el_ownM (l := ([(n52, n57)] : List (Int × Int))) 0 rfl) rfl h63 (fun y => rfl) el25 ty25 rfl rfl rfl rfl rfl (fun k64 => ?_)
 refine pq (q_fieldP rfl fa36_1 rfl) ?_
 refine ow [[iI n2, moC (l47 ++ ([(n52, n57)] : List (Int × Int))) k64]] 4 sz25 ?_
 refine oE (bN (eS (lO ?_)))
 refine pq (qb p_addY) ?_
 refine pq (qm (iO (IntKind.i64.wrap (n46 + 1)))) ?_
 refine oE ?_
 obtain rfl := sj h
 exact E_next k64 (ups_self ⟨rfl, rfl, rfl, rfl, rfl, rfl, trivial⟩) [3, 4, 0] (by decide) rfl
 replace h := ifF c61 h
 refine pq (qb (p_neq_fZ c61)) ?_
 refine oE (eS (cF rfl (lK (bN (eS (lO ?_))))))
 refine pq (qb p_addY) ?_
 refine pq (qm (iO (IntKind.i64.wrap (n46 + 1)))) ?_
 refine oE ?_
 obtain rfl := sj h
 exact E_next k48 (ups_self ⟨rfl, rfl, rfl, rfl, rfl, rfl, trivial⟩) [1, 2, 3] (by decide) rfl
 replace h := ifF c49 h
 refine pq (qb (p_lss_fZ c49)) ?_
 refine oE (eS (lS (cF rfl (L_exit ?_))))
 refine E_seqX ?_
 obtain rfl := sj h
 refine E_out ?_
 exact (E_exit k48 (ups_self ⟨rfl, rfl, trivial⟩) [0, 1, 2] (by decide) rfl)
 rintro (l65 | u) h
 refine J_x (fun k66 g => ?_)
 replace h := elimL h
 refine bH (eS (lS (lO ?_)))
 refine pq (ql (.agg [iI n2, moC l65 k66]) 1 sz36) ?_
 refine ow [[iI n2, moC l65 k66]] 0 sz36 ?_
 refine pq (qa (iO 0)) ?_
 refine oE (eS (lR ?_))
 obtain rfl := sj h
 exact E_endF (.inr rfl) (res_cell (d := .agg [iI n2, moC l65 k66]) 0 rfl sz36 rfl rfl rfl rfl (res_tmp rfl res_nil)) (vw_cons (vd_agg (vc_cons vc_v (vc_cons (vc_M (r := r57) 2 rfl (fun x h m => rfl)) vc_nil))) (vw_cons (vd_one vc_v) vw_nil)) oW rfl rfl
 obtain rfl := Option.some.inj (elimR h)
 exact J_up (fun s hs => hs)
noncomputable def pull_Times (n1 : Int) (a1 : Int × Int × Sl (Int) × Sl (Int) × Sl (Int)) (a2 : Int × Sl (Int) × Sl (Int)) (s10 : Sl (Int)) (b11 : Bool) : Option ((Int × (Sl (Int × Int))) × Int) :=
 match a1, a2 with
 | (n2, n3, s4, s5, s6), (n7, s8, s9) => ((pull_Sums n1 (n2, n3, s4, s5, s6) (n7, s8, s9) s10 b11).bind fun (s16, n17) => (if n17 ≠ 0 then some ((0, (⟨false, 0, []⟩ : Sl (Int × Int))), n17) else ((pull_sure (n2, n3, s4, s5, s6)).bind fun (n20, n21, s22, s23, s24) => ((pull_Done n1 n20 s16).bind fun ((n27, s28), n29) => some ((n27, s28), n29)))))
theorem pull_Times_r (m : Nat) {n1 : Int} {a1 : Int × Int × Sl (Int) × Sl (Int) × Sl (Int)} {a2 : Int × Sl (Int) × Sl (Int)} {s10 : Sl (Int)} {b11 : Bool} {out : (Int × (Sl (Int × Int))) × Int} (h : pull_Times n1 a1 a2 s10 b11 = some out) : RunsP E1 (m + 7) 9 [.one (iT .i64 n1), .agg (r32 a1), .agg (r42 a2), .one (Sl.t r62 s10), .one (bT b11)] (.fresh, [.agg (r35 out.1), .one (iT .i64 out.2)]) := by
 obtain ⟨n2, n3, s4, s5, s6⟩ := a1
 obtain ⟨n7, s8, s9⟩ := a2
 refine fn_F rfl (by rw [E1_fn]; exact show fiOf Tryd.prog 9 = _ by unfold fiOf; rw [Tryd.func9]; unfold Tryd.f9; rfl) rfl ?_
 dsimp only
 unfold pull_Times at h
 refine lS (lO ?_)
 refine ol_new rfl rfl rfl (q_box ty33 rfl (cs := [iI n2, iI n3, sF r3 s4, sF r3 s5, sF r2 s6]) rfl rfl) (fun k12 => ?_)
 refine ol_new rfl rfl rfl (q_box ty43 rfl (cs := [iI n7, sF r62 s8, sF r2 s9]) rfl rfl) (fun k13 => ?_)
 refine ol_new rfl rfl rfl (q_alloc ty36 (row := [iI 0, nC]) rfl rfl) (fun k14 => ?_)
 refine pq (qa (iO 0)) ?_
 refine oN ?_
 refine pq (qm (iO n1)) ?_
 refine pq (ql (.agg [iI n2, iI n3, sF r3 s4, sF r3 s5, sF r2 s6]) 2 sz33) ?_
 refine pq (ql (.agg [iI n7, sF r62 s8, sF r2 s9]) 1 sz43) ?_
 refine pq (qm (.one (sF r62 s10))) ?_
 refine pq (qm (bO b11)) ?_
 obtain ⟨⟨s16, n17⟩, h15, h⟩ := bindS h
 refine pq (qc (.tup [.one (sC r78 s16), iO n17]) [iO n1, .agg [iI n2, iI n3, sF r3 s4, sF r3 s5, sF r2 s6], .agg [iI n7, sF r62 s8, sF r2 s9], .one (sF r62 s10), bO b11] (pull_Sums_r (m + 0) h15) (vw_cons (vd_one vc_v) (vw_cons (vd_agg (vc_cons vc_v (vc_cons vc_v (vc_cons vc_s (vc_cons vc_s (vc_cons vc_s vc_nil)))))) (vw_cons (vd_agg (vc_cons vc_v (vc_cons vc_s (vc_cons vc_s vc_nil)))) (vw_cons (vd_one vc_s) (vw_cons (vd_one vc_v) vw_nil)))))) ?_
 refine pq (qm (.tup [.one (sC r78 s16), iO n17])) ?_
 refine pq (q_ext (v := .one (sC r78 s16)) rfl rfl) ?_
 refine pq (q_ext (v := iO n17) rfl rfl) ?_
 refine pq (qa (.one (sC r78 s16))) ?_
 refine pq (qa (iO n17)) ?_
 refine oE (eS (lS (lS (lO ?_))))
 refine pq (qm (iO n17)) ?_
 by_cases c18 : n17 ≠ 0
 replace h := ifT c18 h
 refine pq (qb (p_neq_tZ c18)) ?_
 refine oE (eS (cT rfl (lS (lO ?_))))
 refine pq (q_build (cs := [iI 0, nC]) ty36 rfl pl36 rfl) ?_
 refine pq (qm (iO n17)) ?_
 refine ow [[iI 0, nC]] 0 sz36 ?_
 refine pq (qa (iO n17)) ?_
 refine oE (eS (lR (eR ?_)))
 obtain rfl := sj h
 exact E_endF (.inr rfl) (res_cell (d := .agg [iI 0, nC]) 0 rfl sz36 rfl rfl rfl rfl (res_tmp rfl res_nil)) (vw_cons (vd_agg (vc_cons vc_v (vc_cons vc_s vc_nil))) (vw_cons (vd_one vc_v) vw_nil)) oW rfl rfl
 replace h := ifF c18 h
 refine pq (qb (p_neq_fZ c18)) ?_
 refine oE (eS (cF rfl (lK (eS (lS (lO ?_))))))
 refine pq (qm (iO n1)) ?_
 refine pq (ql (.agg [iI n2, iI n3, sF r3 s4, sF r3 s5, sF r2 s6]) 2 sz33) ?_
 obtain ⟨⟨n20, n21, s22, s23, s24⟩, h19, h⟩ := bindS h
 refine ol_putX rfl rfl rfl (q_callX (v := fun fr25 => .agg [iI n20, iI n21, .p fr25 (Sl.t r3 s22), .p fr25 (Sl.t r3 s23), .p fr25 (Sl.t r2 s24)]) (args := [.agg [iI n2, iI n3, sF r3 s4, sF r3 s5, sF r2 s6]]) (pull_sure_r (m + 3) h19) rfl rfl (vw_cons (vd_agg (vc_cons vc_v (vc_cons vc_v (vc_cons vc_s (vc_cons vc_s (vc_cons vc_s vc_nil)))))) vw_nil) rfl rfl (fun fr => rfl)) (fun fr25 => ?_)
 refine pq (q_fieldV (v := iO n20) rfl fa33_0 rfl rfl) ?_
 refine pq (qm (.one (sC r78 s16))) ?_
 obtain ⟨⟨⟨n27, s28⟩, n29⟩, h26, h⟩ := bindS h
 refine pq (qc (.tup [.agg [iI n27, sC r57 s28], iO n29]) [iO n1, iO n20, .one (sC r78 s16)] (pull_Done_r (m + 2) h26) (vw_cons (vd_one vc_v) (vw_cons (vd_one vc_v) (vw_cons (vd_one vc_s) vw_nil)))) ?_
 refine pq (q_ext (v := .agg [iI n27, sC r57 s28]) rfl rfl) ?_
 refine pq (q_ext (v := iO n29) rfl rfl) ?_
 refine ow [[iI n27, sC r57 s28]] 0 sz36 ?_
 refine pq (qa (iO n29)) ?_
 refine oE (eS (lR ?_))
 obtain rfl := sj h
 exact E_endF (.inr rfl) (res_cell (d := .agg [iI n27, sC r57 s28]) 0 rfl sz36 rfl rfl rfl rfl (res_tmp rfl res_nil)) (vw_cons (vd_agg (vc_cons vc_v (vc_cons vc_s vc_nil))) (vw_cons (vd_one vc_v) vw_nil)) oW rfl rfl
noncomputable def ref02_least (n1 : Int) : Option (Bool) :=
 (if n1 = 1 then some true else (if n1 = 3 then some true else (if n1 = 4 then some true else some false)))
theorem ref02_least_r (m : Nat) {n1 : Int} {out : Bool} (h : ref02_least n1 = some out) : RunsP E1 (m + 1) 34 [.one (iT .i64 n1)] (.fresh, [.one (bT out)]) := by
 refine fn_F rfl (by rw [E1_fn]; exact show fiOf Tryd.prog 34 = _ by unfold fiOf; rw [Tryd.func34]; unfold Tryd.f34; rfl) rfl ?_
 dsimp only
 unfold ref02_least at h
 refine lS (lO ?_)
 refine pq (qa bf) ?_
 refine oN ?_
 refine pq (qm (iO n1)) ?_
 by_cases c2 : n1 = 1
 replace h := ifT c2 h
 refine pq (qb (p_eql_tZ c2)) ?_
 refine pq (qm bt) ?_
 iterate 2 refine os ?_
 refine pq (qpt bt) ?_
 refine pq (qm bt) ?_
 iterate 2 refine os ?_
 refine pq (qpt bt) ?_
 refine pq (qa bt) ?_
 refine oE (eS (lR ?_))
 obtain rfl := sj h
 exact eF1
 replace h := ifF c2 h
 refine pq (qb (p_eql_fZ c2)) ?_
 refine pq (qm bf) ?_
 refine pq (qm (iO n1)) ?_
 by_cases c3 : n1 = 3
 replace h := ifT c3 h
 refine pq (qb (p_eql_tZ c3)) ?_
 refine pq (qpf bt) ?_
 refine pq (qm bt) ?_
 iterate 2 refine os ?_
 refine pq (qpt bt) ?_
 refine pq (qa bt) ?_
 refine oE (eS (lR ?_))
 obtain rfl := sj h
 exact eF1
 replace h := ifF c3 h
 refine pq (qb (p_eql_fZ c3)) ?_
 refine pq (qpf bf) ?_
 refine pq (qm bf) ?_
 refine pq (qm (iO n1)) ?_
 by_cases c4 : n1 = 4
 replace h := ifT c4 h
 refine pq (qb (p_eql_tZ c4)) ?_
 refine pq (qpf bt) ?_
 refine pq (qa bt) ?_
 refine oE (eS (lR ?_))
 obtain rfl := sj h
 exact eF1
 replace h := ifF c4 h
 refine pq (qb (p_eql_fZ c4)) ?_
 refine pq (qpf bf) ?_
 refine pq (qa bf) ?_
 refine oE (eS (lR ?_))
 obtain rfl := sj h
 exact eF1
noncomputable def ref02_Zero (n1 : Int) : Option (Int) :=
 ((ref02_least n1).bind fun b3 => (if b3 = true then some 4611686018427387904 else some 0))
theorem ref02_Zero_r (m : Nat) {n1 : Int} {out : Int} (h : ref02_Zero n1 = some out) : RunsP E1 (m + 2) 13 [.one (iT .i64 n1)] (.fresh, [.one (iT .i64 out)]) := by
 refine fn_F rfl (by rw [E1_fn]; exact show fiOf Tryd.prog 13 = _ by unfold fiOf; rw [Tryd.func13]; unfold Tryd.f13; rfl) rfl ?_
 dsimp only
 unfold ref02_Zero at h
 refine lS (lO ?_)
 refine pq (qa (iO 0)) ?_
 refine oE (eS (lS (lS (lO ?_))))
 refine pq (qm (iO n1)) ?_
 obtain ⟨b3, h2, h⟩ := bindS h
 refine pq (qc (bO b3) [iO n1] (ref02_least_r (m + 0) h2) (vw_cons (vd_one vc_v) vw_nil)) ?_
 refine oE (eS ?_)
 rcases b3 with _ | _
 replace h := wF h
 refine cF rfl (lK (eS (lS (lO ?_))))
 refine pq (qa (iO 0)) ?_
 refine oE (eS (lR ?_))
 obtain rfl := sj h
 exact eF1
 replace h := wT h
 refine cT rfl (lS (lO ?_))
 refine pq (qa (iO 4611686018427387904)) ?_
 refine oE (eS (lR (eR ?_)))
 obtain rfl := sj h
 exact eF1
end Ev
end Go.Proofs.YtnikcjnkcjondaaDoor
end
