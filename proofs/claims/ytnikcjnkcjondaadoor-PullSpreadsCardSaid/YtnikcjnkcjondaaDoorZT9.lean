/- Texts of a claim, joined. -/
import Derived.Test.YtnikcjnkcjondaaDoorZT8
import Derived.Test.YtnikcjnkcjondaaDoorZT6
import Derived.Test.YtnikcjnkcjondaaDoorZT7
set_option linter.unusedVariables false
set_option linter.unusedSimpArgs false
section
namespace Go.Proofs.YtnikcjnkcjondaaDoor
namespace Ev
open Go
set_option linter.unusedVariables false
set_option linter.unusedSimpArgs false
set_option maxRecDepth 100000
set_option maxHeartbeats 1000000
attribute [local irreducible] OpsL StL TnL WpL EndL
noncomputable def ref11_Union_b1 (n1 : Int) (n19 : Int) (s20 : Sl (Int × Int)) (n23 : Int) (s24 : Sl (Int × Int)) (a : Int × (List (Int × Int))) : Option ((Int × (List (Int × Int))) ⊕ ((List (Int × Int)) ⊕ ((Int × (Sl (Int × Int))) × Int))) :=
 match a with
 | (n125, l126) => (if n125 < n19 then ((ref11_has (n19, s20) n125).bind fun (n130, b131) => ((ref11_has (n23, s24) n125).bind fun (n133, b134) => (if b131 = true then (if b134 = true then ((ref01_Of n130).bind fun (n142, n143) => ((ref01_Of n133).bind fun (n145, n146) => ((ref02_Add n1 (n142, n143) (n145, n146)).bind fun (n148, n149) => ((ref01_Narrow (n148, n149)).bind fun (n151, b152) => (if b152 = true then ((app l126 ([(n125, n151)] : List (Int × Int))).bind fun _ => some (.inl ((IntKind.i64.wrap (n125 + 1)), (l126 ++ ([(n125, n151)] : List (Int × Int)))))) else some (.inr (.inr ((0, (⟨false, 0, []⟩ : Sl (Int × Int))), 12)))))))) else ((app l126 ([(n125, n130)] : List (Int × Int))).bind fun _ => some (.inl ((IntKind.i64.wrap (n125 + 1)), (l126 ++ ([(n125, n130)] : List (Int × Int))))))) else (if b134 = true then ((app l126 ([(n125, n133)] : List (Int × Int))).bind fun _ => some (.inl ((IntKind.i64.wrap (n125 + 1)), (l126 ++ ([(n125, n133)] : List (Int × Int)))))) else some (.inl ((IntKind.i64.wrap (n125 + 1)), l126)))))) else some (.inr (.inl l126)))
noncomputable def ref11_Union (n1 : Int) (a1 : Int × (Sl (Int × Int))) (a2 : Int × (Sl (Int × Int))) : Option ((Int × (Sl (Int × Int))) × Int) :=
 match a1, a2 with
 | (n2, s3), (n4, s5) => ((ref09_Sure (n2, s3)).bind fun (n19, s20) => ((ref09_Sure (n4, s5)).bind fun (n23, s24) => ((ref02_Is n1).bind fun b27 => (if b27 = true then (if n19 ≠ n23 then some ((0, (⟨false, 0, []⟩ : Sl (Int × Int))), 4) else ((loopO (ref11_Union_b1 n1 n19 s20 n23 s24) (0, ([] : List (Int × Int)))).bind (Sum.elim (fun l156 => some ((n19, (mo 2 l156)), 0)) (fun u => some u)))) else some ((0, (⟨false, 0, []⟩ : Sl (Int × Int))), 8)))))
theorem ref11_Union_r (m : Nat) {n1 : Int} {a1 : Int × (Sl (Int × Int))} {a2 : Int × (Sl (Int × Int))} {out : (Int × (Sl (Int × Int))) × Int} (h : ref11_Union n1 a1 a2 = some out) : RunsP E1 (m + 3) 8 [.one (iT .i64 n1), .agg (r35 a1), .agg (r35 a2)] (.fresh, [.agg (r35 out.1), .one (iT .i64 out.2)]) := by
 obtain ⟨n2, s3⟩ := a1
 obtain ⟨n4, s5⟩ := a2
 refine fn_F rfl (by rw [E1_fn]; exact show fiOf Tryd.prog 8 = _ by unfold fiOf; rw [Tryd.func8]; unfold Tryd.f8; rfl) rfl ?_
 dsimp only
 unfold ref11_Union at h
 refine lS (lO ?_)
 refine ol_new rfl rfl rfl (q_box ty36 rfl (cs := [iI n2, sF r57 s3]) rfl rfl) (fun k6 => ?_)
 refine ol_new rfl rfl rfl (q_box ty36 rfl (cs := [iI n4, sF r57 s5]) rfl rfl) (fun k7 => ?_)
 refine ol_new rfl rfl rfl (q_alloc ty36 (row := [iI 0, nC]) rfl rfl) (fun k8 => ?_)
 refine pq (qa (iO 0)) ?_
 refine oE (eS (lS ?_))
 refine L_norm (L2 := ([[(k8, 2, [[iI 0, nC]])], [(k7, 2, [[iI n4, sF r57 s5]])], [(k6, 2, [[iI n2, sF r57 s3]])]] : BL)) [0, 1, 2] (by decide) rfl ?_
 refine L_turn 6 rfl [[], [], [], [], [k6], [k7]] [(false, []), (false, []), (false, []), (false, []), (false, []), (false, [])] [[2], [2], [0, 1], [], [], []] (by kernel_rfl) (by kernel_rfl) (by kernel_rfl) ?_ (fun bb9 hlt hnd => ?_)
 intro bb9 hlt hnd
 exact ⟨⟨djE, ⟨djE, ⟨djE, ⟨djE, ⟨djN, ⟨djN, trivial⟩⟩⟩⟩⟩⟩, (ltO_cons ltK_nil (ltO_cons ltK_nil (ltO_cons ltK_nil (ltO_cons ltK_nil (ltO_cons (ltK_cons (key_lt hlt 2 rfl) ltK_nil) (ltO_cons (ltK_cons (key_lt hlt 1 rfl) ltK_nil) ltO_nil))))))⟩
 refine tq [2] rfl (hm0 rfl) (ql (.agg [iI n2, sF r57 s3]) 0 sz36) ?_
 obtain ⟨⟨n19, s20⟩, h18, h⟩ := bindS h
 refine tn_putX rfl rfl rfl [] (by decide) rfl (hm0 rfl) rfl (q_callX (v := fun fr21 => .agg [iI n19, .p fr21 (Sl.t r57 s20)]) (args := [.agg [iI n2, sF r57 s3]]) (ref09_Sure_r (m + 0) h18) rfl rfl (vw_cons (vd_agg (vc_cons vc_v (vc_cons vc_s vc_nil))) vw_nil) rfl rfl (fun fr => rfl)) (fun fr21 => ?_)
 refine tq [1] rfl (hm0 rfl) (ql (.agg [iI n4, sF r57 s5]) 0 sz36) ?_
 obtain ⟨⟨n23, s24⟩, h22, h⟩ := bindS h
 refine tn_putX rfl rfl rfl [] (by decide) rfl (hm0 rfl) rfl (q_callX (v := fun fr25 => .agg [iI n23, .p fr25 (Sl.t r57 s24)]) (args := [.agg [iI n4, sF r57 s5]]) (ref09_Sure_r (m + 0) h22) rfl rfl (vw_cons (vd_agg (vc_cons vc_v (vc_cons vc_s vc_nil))) vw_nil) rfl rfl (fun fr => rfl)) (fun fr25 => ?_)
 refine tn_wr rfl rfl [2] (by decide) rfl (hm0 rfl) rfl (q_store (es' := [[iI n19, .p fr21 (Sl.t r57 s20)]]) 0 rfl rfl rfl sz36 rfl rfl rfl rfl rfl) (q := 2) rfl rfl ?_
 refine tn_wr rfl rfl [1] (by decide) rfl (hm0 rfl) rfl (q_store (es' := [[iI n23, .p fr25 (Sl.t r57 s24)]]) 0 rfl rfl rfl sz36 rfl rfl rfl rfl rfl) (q := 1) rfl rfl ?_
 refine tn_end (eS (lS (lS (lO ?_))))
 refine pq (qm (iO n1)) ?_
 obtain ⟨b27, h26, h⟩ := bindS h
 refine pq (qc (bO b27) [iO n1] (ref02_Is_r (m + 1) h26) (vw_cons (vd_one vc_v) vw_nil)) ?_
 rcases b27 with _ | _
 replace h := wF h
 refine pq (q_not rfl) ?_
 refine oE (eS (cT rfl (lS (lO ?_))))
 refine pq (q_build (cs := [iI 0, nC]) ty36 rfl pl36 rfl) ?_
 refine ow [[iI 0, nC]] 0 sz36 ?_
 refine pq (qa (iO 8)) ?_
 refine oE (eS (lR (eR ?_)))
 obtain rfl := sj h
 exact E_endF (.inr rfl) (res_cell (d := .agg [iI 0, nC]) 0 rfl sz36 rfl rfl rfl rfl (res_tmp rfl res_nil)) (vw_cons (vd_agg (vc_cons vc_v (vc_cons vc_s vc_nil))) (vw_cons (vd_one vc_v) vw_nil)) oW rfl rfl
 replace h := wT h
 refine pq (q_not rfl) ?_
 refine oE (eS (cF rfl (lK (eS (lS (lS (lO ?_)))))))
 refine pq (q_fieldP rfl fa36_0 rfl) ?_
 refine pq (ql (iO n19) 2 sz3) ?_
 refine pq (q_fieldP rfl fa36_0 rfl) ?_
 refine pq (ql (iO n23) 1 sz3) ?_
 by_cases c28 : n19 ≠ n23
 replace h := ifT c28 h
 refine pq (qb (p_neq_tZ c28)) ?_
 refine oE (eS (cT rfl (lS (lO ?_))))
 refine pq (q_build (cs := [iI 0, nC]) ty36 rfl pl36 rfl) ?_
 refine ow [[iI 0, nC]] 0 sz36 ?_
 refine pq (qa (iO 4)) ?_
 refine oE (eS (lR (eR ?_)))
 obtain rfl := sj h
 exact E_endF (.inr rfl) (res_cell (d := .agg [iI 0, nC]) 0 rfl sz36 rfl rfl rfl rfl (res_tmp rfl res_nil)) (vw_cons (vd_agg (vc_cons vc_v (vc_cons vc_s vc_nil))) (vw_cons (vd_one vc_v) vw_nil)) oW rfl rfl
 replace h := ifF c28 h
 refine pq (qb (p_neq_fZ c28)) ?_
 refine oE (eS (cF rfl (lK (eS (lS (lO ?_))))))
 refine pq (q_fieldP rfl fa36_0 rfl) ?_
 refine pq (ql (iO n19) 2 sz3) ?_
 refine pq (q_build (cs := [iI n19, nC]) ty36 rfl pl36 rfl) ?_
 refine ol_new rfl rfl rfl (q_alloc ty36 (row := [iI 0, nC]) rfl rfl) (fun k29 => ?_)
 refine ow [[iI n19, nC]] 0 sz36 ?_
 refine oE (eS (lS (lS (lO ?_))))
 refine pq (qa (iO 0)) ?_
 refine oE (eS (lB ?_))
 refine L_addM (α := Int × Int) r57 2 ?_
 let S1 : (Int × (List (Int × Int))) → Nat → (Nat → D) → Nat → D := fun a kt g => ups g [(0, iO n1), (4, .one (.ptr k6 0 0)), (5, .one (.ptr k7 0 0)), (6, .one (.ptr k8 0 0)), (8, .one (.ptr k29 0 0)), (9, .one (iI a.1))]
 let SL1 : (Int × (List (Int × Int))) → Nat → BL := fun a kt => ([[(k6, 2, [[iI n19, .p fr21 (Sl.t r57 s20)]])], [(k7, 2, [[iI n23, .p fr25 (Sl.t r57 s24)]])], [(k8, 2, [[iI 0, nC]])], [(k29, 2, [[iI n19, moC a.2 kt]])], moL r57 2 a.2 kt] : BL)
 let G1 : ((Int × (Sl (Int × Int))) × Int) → Ex → St → Prop := fun u => endQ E1 [.cell 6 36, .tmp 7] (.fresh, [.agg (r35 u.1), .one (iT .i64 u.2)])
 let Sx1 : (List (Int × Int)) → Nat → (Nat → D) → Nat → D := fun a kt g => ups g [(6, .one (.ptr k8 0 0)), (8, .one (.ptr k29 0 0))]
 let SLx1 : (List (Int × Int)) → Nat → BL := fun a kt => ([[(k8, 2, [[iI 0, nC]])], [(k29, 2, [[iI n19, moC a kt]])], moL r57 2 a kt] : BL)
 let J1 : ((List (Int × Int)) ⊕ ((Int × (Sl (Int × Int))) × Int)) → Ex → St → Prop := JX 89 0 Sx1 SLx1 G1
 refine L_loopS (ref11_Union_b1 n1 n19 s20 n23 s24) S1 SL1 J1 JX_n (0, ([] : List (Int × Int))) h 1123 (ups_self ⟨rfl, rfl, rfl, rfl, rfl, rfl, trivial⟩) [4, 3, 2, 1, 0] (by decide) rfl ?_ ?_
 rintro ⟨n125, l126⟩ k127 g out h
 change ref11_Union_b1 n1 n19 s20 n23 s24 (n125, l126) = some out at h
 unfold ref11_Union_b1 at h
 refine lS (lS (lO ?_))
 refine pq (qm (iO n125)) ?_
 refine pq (q_fieldP rfl fa36_0 rfl) ?_
 refine pq (ql (iO n19) 0 sz3) ?_
 by_cases c128 : n125 < n19
 replace h := ifT c128 h
 refine pq (qb (p_lss_tZ c128)) ?_
 refine oE (eS (cT rfl (lK (eS (lS (lB (lS (lO ?_))))))))
 refine pq (ql (.agg [iI n19, .p fr21 (Sl.t r57 s20)]) 0 sz36) ?_
 refine pq (qm (iO n125)) ?_
 obtain ⟨⟨n130, b131⟩, h129, h⟩ := bindS h
 refine pq (qc (.tup [iO n130, bO b131]) [.agg [iI n19, .p fr21 (Sl.t r57 s20)], iO n125] (ref11_has_r (m + 1) h129) (vw_cons (vd_agg (vc_cons vc_v (vc_cons vc_s vc_nil))) (vw_cons (vd_one vc_v) vw_nil))) ?_
 refine pq (qm (.tup [iO n130, bO b131])) ?_
 refine pq (q_ext (v := iO n130) rfl rfl) ?_
 refine pq (q_ext (v := bO b131) rfl rfl) ?_
 refine pq (qa (iO n130)) ?_
 refine pq (qa (bO b131)) ?_
 refine oN ?_
 refine pq (ql (.agg [iI n23, .p fr25 (Sl.t r57 s24)]) 1 sz36) ?_
 refine pq (qm (iO n125)) ?_
 obtain ⟨⟨n133, b134⟩, h132, h⟩ := bindS h
 refine pq (qc (.tup [iO n133, bO b134]) [.agg [iI n23, .p fr25 (Sl.t r57 s24)], iO n125] (ref11_has_r (m + 1) h132) (vw_cons (vd_agg (vc_cons vc_v (vc_cons vc_s vc_nil))) (vw_cons (vd_one vc_v) vw_nil))) ?_
 refine pq (qm (.tup [iO n133, bO b134])) ?_
 refine pq (q_ext (v := iO n133) rfl rfl) ?_
 refine pq (q_ext (v := bO b134) rfl rfl) ?_
 refine pq (qa (iO n133)) ?_
 refine pq (qa (bO b134)) ?_
 refine oE (eS (lS (lS (lO ?_))))
 refine pq (qm (bO b131)) ?_
 rcases b131 with _ | _
 replace h := wF h
 refine pq (q_not rfl) ?_
 refine pq (qm bt) ?_
 refine pq (qm (bO b134)) ?_
 rcases b134 with _ | _
 replace h := wF h
 refine pq (q_not rfl) ?_
 refine pq (qpt bt) ?_
 refine oE (eS (cT rfl (L_exit ?_)))
 refine E_seqX ?_
 refine bH (eS (lO ?_))
 refine pq (qm (iO n125)) ?_
 refine pq (qb p_addY) ?_
 refine pq (qa (iO (IntKind.i64.wrap (n125 + 1)))) ?_
 refine oE ?_
 obtain rfl := sj h
 exact E_next k127 (ups_self ⟨rfl, rfl, rfl, rfl, rfl, rfl, trivial⟩) [0, 1, 2, 3, 4] (by decide) rfl
 replace h := wT h
 refine pq (q_not rfl) ?_
 refine pq (qpt bf) ?_
 refine oE (eS (cF rfl (lK (eS (lS (lO ?_))))))
 refine pq (qm (iO n130)) ?_
 refine pq (qa (iO n130)) ?_
 refine oE (eS (lS (lS (lO ?_))))
 refine pq (qm bf) ?_
 refine pq (q_not rfl) ?_
 refine oE (eS (cT rfl (lO ?_)))
 refine pq (qm (iO n133)) ?_
 refine pq (qa (iO n133)) ?_
 refine oE (eS (lS (lS (lO ?_))))
 refine pq (qm bf) ?_
 refine pq (qm bf) ?_
 refine os ?_
 refine pq (qpf bf) ?_
 refine oE (eS (cF rfl (lK (eS (lO ?_)))))
 refine pq (q_fieldP rfl fa36_1 rfl) ?_
 refine pq (ql (.one (moC l126 k127)) 3 sz25) ?_
 refine pq (qm (iO n125)) ?_
 refine pq (qm (iO n133)) ?_
 refine pq (q_build (cs := [iI n125, iI n133]) ty58 rfl pl58 rfl) ?_
 refine ol_new rfl rfl rfl (q_bslice (cs := [iI n125, iI n133]) (es := (([(n125, n133)] : List (Int × Int))).map (rowC r57)) ty25 rfl ty58 rfl rfl rfl rfl rfl) (fun k135 => ?_)
 obtain ⟨_, h136, h⟩ := bindS h
 obtain ⟨h136b, rfl⟩ := app_some h136
 refine ol_appM (r := r57) (l := l126) (ys := ([(n125, n133)] : List (Int × Int))) 5 rfl rfl rfl rfl rfl rfl (el_ownM (l := ([(n125, n133)] : List (Int × Int))) 0 rfl) rfl h136 (fun y => rfl) el25 ty25 rfl rfl rfl rfl rfl (fun k137 => ?_)
 refine pq (q_fieldP rfl fa36_1 rfl) ?_
 refine ow [[iI n19, moC (l126 ++ ([(n125, n133)] : List (Int × Int))) k137]] 5 sz25 ?_
 refine oE (bN (eS (lO ?_)))
 refine pq (qm (iO n125)) ?_
 refine pq (qb p_addY) ?_
 refine pq (qa (iO (IntKind.i64.wrap (n125 + 1)))) ?_
 refine oE ?_
 obtain rfl := sj h
 exact E_next k137 (ups_self ⟨rfl, rfl, rfl, rfl, rfl, rfl, trivial⟩) [2, 3, 4, 5, 0] (by decide) rfl
 replace h := wT h
 refine pq (q_not rfl) ?_
 refine pq (qm bf) ?_
 iterate 2 refine os ?_
 refine pq (qpf bf) ?_
 refine oE (eS (cF rfl (lK (eS (lS (lO ?_))))))
 refine pq (qm (iO n130)) ?_
 refine pq (qa (iO n130)) ?_
 refine oE (eS (lS (lS (lO ?_))))
 refine pq (qm bt) ?_
 refine pq (q_not rfl) ?_
 refine oE (eS (cF rfl (lK (eS (lS (lS (lO ?_)))))))
 refine pq (qm bt) ?_
 refine pq (qm bt) ?_
 refine pq (qm (bO b134)) ?_
 refine pq (qpt (bO b134)) ?_
 refine oE (eS ?_)
 rcases b134 with _ | _
 replace h := wF h
 refine cF rfl (lK (eS (lO ?_)))
 refine pq (q_fieldP rfl fa36_1 rfl) ?_
 refine pq (ql (.one (moC l126 k127)) 3 sz25) ?_
 refine pq (qm (iO n125)) ?_
 refine pq (qm (iO n130)) ?_
 refine pq (q_build (cs := [iI n125, iI n130]) ty58 rfl pl58 rfl) ?_
 refine ol_new rfl rfl rfl (q_bslice (cs := [iI n125, iI n130]) (es := (([(n125, n130)] : List (Int × Int))).map (rowC r57)) ty25 rfl ty58 rfl rfl rfl rfl rfl) (fun k138 => ?_)
 obtain ⟨_, h139, h⟩ := bindS h
 obtain ⟨h139b, rfl⟩ := app_some h139
 refine ol_appM (r := r57) (l := l126) (ys := ([(n125, n130)] : List (Int × Int))) 5 rfl rfl rfl rfl rfl rfl (el_ownM (l := ([(n125, n130)] : List (Int × Int))) 0 rfl) rfl h139 (fun y => rfl) el25 ty25 rfl rfl rfl rfl rfl (fun k140 => ?_)
 refine pq (q_fieldP rfl fa36_1 rfl) ?_
 refine ow [[iI n19, moC (l126 ++ ([(n125, n130)] : List (Int × Int))) k140]] 5 sz25 ?_
 refine oE (bN (eS (lO ?_)))
 refine pq (qm (iO n125)) ?_
 refine pq (qb p_addY) ?_
 refine pq (qa (iO (IntKind.i64.wrap (n125 + 1)))) ?_
 refine oE ?_
 obtain rfl := sj h
 exact E_next k140 (ups_self ⟨rfl, rfl, rfl, rfl, rfl, rfl, trivial⟩) [2, 3, 4, 5, 0] (by decide) rfl
 replace h := wT h
 refine cT rfl (lS (lO ?_))
 refine pq (qm (iO n1)) ?_
 refine pq (qm (iO n130)) ?_
 obtain ⟨⟨n142, n143⟩, h141, h⟩ := bindS h
 refine pq (qc (.agg [iI n142, uI n143]) [iO n130] (ref01_Of_r (m + 1) h141) (vw_cons (vd_one vc_v) vw_nil)) ?_
 refine pq (qm (iO n133)) ?_
 obtain ⟨⟨n145, n146⟩, h144, h⟩ := bindS h
 refine pq (qc (.agg [iI n145, uI n146]) [iO n133] (ref01_Of_r (m + 1) h144) (vw_cons (vd_one vc_v) vw_nil)) ?_
 obtain ⟨⟨n148, n149⟩, h147, h⟩ := bindS h
 refine pq (qc (.agg [iI n148, uI n149]) [iO n1, .agg [iI n142, uI n143], .agg [iI n145, uI n146]] (ref02_Add_r (m + 0) h147) (vw_cons (vd_one vc_v) (vw_cons (vd_agg (vc_cons vc_v (vc_cons vc_v vc_nil))) (vw_cons (vd_agg (vc_cons vc_v (vc_cons vc_v vc_nil))) vw_nil)))) ?_
 obtain ⟨⟨n151, b152⟩, h150, h⟩ := bindS h
 refine pq (qc (.tup [iO n151, bO b152]) [.agg [iI n148, uI n149]] (ref01_Narrow_r (m + 1) h150) (vw_cons (vd_agg (vc_cons vc_v (vc_cons vc_v vc_nil))) vw_nil)) ?_
 refine pq (qm (.tup [iO n151, bO b152])) ?_
 refine pq (q_ext (v := iO n151) rfl rfl) ?_
 refine pq (q_ext (v := bO b152) rfl rfl) ?_
 refine pq (qa (iO n151)) ?_
 refine pq (qa (bO b152)) ?_
 refine oE (eS (lS (lS (lO ?_))))
 refine pq (qm (bO b152)) ?_
 rcases b152 with _ | _
 replace h := wF h
 refine pq (q_not rfl) ?_
 refine oE (eS (cT rfl (lS (lO ?_))))
 refine pq (q_build (cs := [iI 0, nC]) ty36 rfl pl36 rfl) ?_
 refine ow [[iI 0, nC]] 2 sz36 ?_
 refine pq (qa (iO 12)) ?_
 refine oE (eS (lR (eR (eR (bR (eR ?_))))))
 obtain rfl := sj h
 exact E_out (E_up (E_endF (.inr rfl) (res_cell (d := .agg [iI 0, nC]) 2 rfl sz36 rfl rfl rfl rfl (res_tmp rfl res_nil)) (vw_cons (vd_agg (vc_cons vc_v (vc_cons vc_s vc_nil))) (vw_cons (vd_one vc_v) vw_nil)) oW rfl rfl))
 replace h := wT h
 refine pq (q_not rfl) ?_
 refine oE (eS (cF rfl (lK (eS (lO ?_)))))
 refine pq (qm (iO n151)) ?_
 refine pq (qa (iO n151)) ?_
 refine oR ?_
 refine pq (q_fieldP rfl fa36_1 rfl) ?_
 refine pq (ql (.one (moC l126 k127)) 3 sz25) ?_
 refine pq (qm (iO n125)) ?_
 refine pq (qm (iO n151)) ?_
 refine pq (q_build (cs := [iI n125, iI n151]) ty58 rfl pl58 rfl) ?_
 refine ol_new rfl rfl rfl (q_bslice (cs := [iI n125, iI n151]) (es := (([(n125, n151)] : List (Int × Int))).map (rowC r57)) ty25 rfl ty58 rfl rfl rfl rfl rfl) (fun k153 => ?_)
 obtain ⟨_, h154, h⟩ := bindS h
 obtain ⟨h154b, rfl⟩ := app_some h154
 refine ol_appM (r := r57) (l := l126) (ys := ([(n125, n151)] : List (Int × Int))) 5 rfl rfl rfl rfl rfl rfl (el_ownM (l := ([(n125, n151)] : List (Int × Int))) 0 rfl) rfl h154 (fun y => rfl) el25 ty25 rfl rfl rfl rfl rfl (fun k155 => ?_)
 refine pq (q_fieldP rfl fa36_1 rfl) ?_
 refine ow [[iI n19, moC (l126 ++ ([(n125, n151)] : List (Int × Int))) k155]] 5 sz25 ?_
 refine oE (bN (eS (lO ?_)))
 refine pq (qm (iO n125)) ?_
 refine pq (qb p_addY) ?_
 refine pq (qa (iO (IntKind.i64.wrap (n125 + 1)))) ?_
 refine oE ?_
 obtain rfl := sj h
 exact E_next k155 (ups_self ⟨rfl, rfl, rfl, rfl, rfl, rfl, trivial⟩) [2, 3, 4, 5, 0] (by decide) rfl
 replace h := ifF c128 h
 refine pq (qb (p_lss_fZ c128)) ?_
 refine oE (eS (cF rfl (L_exit ?_)))
 refine E_seqX ?_
 obtain rfl := sj h
 refine E_out ?_
 exact (E_exit k127 (ups_self ⟨rfl, rfl, trivial⟩) [2, 3, 4] (by decide) rfl)
 rintro (l156 | u) h
 refine J_x (fun k157 g => ?_)
 replace h := elimL h
 refine bH (eS (lS (lO ?_)))
 refine pq (ql (.agg [iI n19, moC l156 k157]) 1 sz36) ?_
 refine ow [[iI n19, moC l156 k157]] 0 sz36 ?_
 refine pq (qa (iO 0)) ?_
 refine oE (eS (lR ?_))
 obtain rfl := sj h
 exact E_endF (.inr rfl) (res_cell (d := .agg [iI n19, moC l156 k157]) 0 rfl sz36 rfl rfl rfl rfl (res_tmp rfl res_nil)) (vw_cons (vd_agg (vc_cons vc_v (vc_cons (vc_M (r := r57) 2 rfl (fun x h m => rfl)) vc_nil))) (vw_cons (vd_one vc_v) vw_nil)) oW rfl rfl
 obtain rfl := Option.some.inj (elimR h)
 exact J_up (fun s hs => hs)
noncomputable def ref03_words (n1 : Int) : Option (Int) :=
 (if n1 > 4096 then (if (4096 : Int) < 1 then some 0 else ((divO .i64 (IntKind.i64.wrap (4096 + 63)) 64).bind fun n4 => some n4)) else (if n1 < 1 then some 0 else ((divO .i64 (IntKind.i64.wrap (n1 + 63)) 64).bind fun n7 => some n7)))
theorem ref03_words_r (m : Nat) {n1 : Int} {out : Int} (h : ref03_words n1 = some out) : RunsP E1 (m + 1) 70 [.one (iT .i64 n1)] (.fresh, [.one (iT .i64 out)]) := by
 refine fn_F rfl (by rw [E1_fn]; exact show fiOf Tryd.prog 70 = _ by unfold fiOf; rw [Tryd.func70]; unfold Tryd.f70; rfl) rfl ?_
 dsimp only
 unfold ref03_words at h
 refine lS (lO ?_)
 refine pq (qa (iO 0)) ?_
 refine oE (eS (lS (lS (lO ?_))))
 refine pq (qm (iO n1)) ?_
 by_cases c2 : n1 > 4096
 replace h := ifT c2 h
 refine pq (qb (p_gtr_tZ c2)) ?_
 refine oE (eS (cT rfl (lO ?_)))
 refine pq (qa (iO 4096)) ?_
 refine oE (eS (lS (lS (lO ?_))))
 refine pq (qm (iO 4096)) ?_
 by_cases c3 : (4096 : Int) < 1
 replace h := ifT c3 h
 refine pq (qb (p_lss_tZ c3)) ?_
 refine oE (eS (cT rfl (lS (lO ?_))))
 refine pq (qa (iO 0)) ?_
 refine oE (eS (lR (eR ?_)))
 obtain rfl := sj h
 exact eF1
 replace h := ifF c3 h
 refine pq (qb (p_lss_fZ c3)) ?_
 refine oE (eS (cF rfl (lK (eS (lS (lO ?_))))))
 refine pq (qm (iO 4096)) ?_
 refine pq (qb p_addY) ?_
 obtain ⟨n4, h5, h⟩ := bindS h
 refine pq (q_bin rfl rfl (divO_p h5) rfl) ?_
 refine pq (qa (iO n4)) ?_
 refine oE (eS (lR ?_))
 obtain rfl := sj h
 exact eF1
 replace h := ifF c2 h
 refine pq (qb (p_gtr_fZ c2)) ?_
 refine oE (eS (cF rfl (lK (eS (lS (lS (lO ?_)))))))
 refine pq (qm (iO n1)) ?_
 by_cases c6 : n1 < 1
 replace h := ifT c6 h
 refine pq (qb (p_lss_tZ c6)) ?_
 refine oE (eS (cT rfl (lS (lO ?_))))
 refine pq (qa (iO 0)) ?_
 refine oE (eS (lR (eR ?_)))
 obtain rfl := sj h
 exact eF1
 replace h := ifF c6 h
 refine pq (qb (p_lss_fZ c6)) ?_
 refine oE (eS (cF rfl (lK (eS (lS (lO ?_))))))
 refine pq (qm (iO n1)) ?_
 refine pq (qb p_addY) ?_
 obtain ⟨n7, h8, h⟩ := bindS h
 refine pq (q_bin rfl rfl (divO_p h8) rfl) ?_
 refine pq (qa (iO n7)) ?_
 refine oE (eS (lR ?_))
 obtain rfl := sj h
 exact eF1
noncomputable def ref03_New (n1 : Int) : Option (List (Int)) :=
 ((ref03_words n1).bind fun n3 => ((lenOk n3).bind fun _ => some (List.replicate n3.toNat (0 : Int))))
theorem ref03_New_r (m : Nat) {n1 : Int} {out : List (Int)} (h : ref03_New n1 = some out) : RunsP E1 (m + 2) 54 [.one (iT .i64 n1)] (.own, [.one (.s true 1 ((out).map r62))]) := by
 refine fn_O rfl (by rw [E1_fn]; exact show fiOf Tryd.prog 54 = _ by unfold fiOf; rw [Tryd.func54]; unfold Tryd.f54; rfl) rfl ?_
 dsimp only
 unfold ref03_New at h
 refine lS (lO ?_)
 refine pq (qa (.one nC)) ?_
 refine oN ?_
 refine pq (qm (iO n1)) ?_
 obtain ⟨n3, h2, h⟩ := bindS h
 refine pq (qc (iO n3) [iO n1] (ref03_words_r (m + 0) h2) (vw_cons (vd_one vc_v) vw_nil)) ?_
 obtain ⟨u4, h5, h⟩ := bindS h
 refine ol_new rfl rfl rfl (q_mkslice (r := rowC r62) (a := (0 : Int)) ty26 rfl ty62 rfl rfl (lenOk_some h5).1 (lenOk_some h5).2 rfl rfl) (fun k6 => ?_)
 refine pq (qa (.one (.own k6 0 ((List.replicate n3.toNat (0 : Int))).length))) ?_
 refine oE (eS (lR ?_))
 obtain rfl := sj h
 exact E_endO (r := r62) 0 (.inr rfl) (res_tmp rfl res_nil) rfl (fun x h m => rfl) (fun x => rfl)
noncomputable def ref03_set (s1 : Sl (Int)) (n2 : Int) (b3 : Bool) : Option (List (Int)) :=
 ((app ([] : List (Int)) s1.l).bind fun _ => (if n2 < 0 then some (([] : List (Int)) ++ s1.l) else ((divO .i64 n2 64).bind fun n8 => (if n8 ≥ ((s1.l.length : Nat) : Int) then some (([] : List (Int)) ++ s1.l) else ((modO n2 64).bind fun n11 => ((shl1 .u64 1 (IntKind.u64.wrap n11)).bind fun n13 => (if b3 = true then ((atS 1 (mo 1 (([] : List (Int)) ++ s1.l)) n8).bind fun n20 => some ((([] : List (Int)) ++ s1.l).set n8.toNat (orI .u64 n20 n13))) else ((atS 1 (mo 1 (([] : List (Int)) ++ s1.l)) n8).bind fun n17 => some ((([] : List (Int)) ++ s1.l).set n8.toNat (andNotI .u64 n17 n13))))))))))
theorem ref03_set_r (m : Nat) {s1 : Sl (Int)} {n2 : Int} {b3 : Bool} {out : List (Int)} (h : ref03_set s1 n2 b3 = some out) : RunsP E1 (m + 1) 71 [.one (Sl.t r62 s1), .one (iT .i64 n2), .one (bT b3)] (resM 1 r62 out) := by
 refine fn_M rfl (by rw [E1_fn]; exact show fiOf Tryd.prog 71 = _ by unfold fiOf; rw [Tryd.func71]; unfold Tryd.f71; rfl) rfl ?_
 dsimp only
 unfold ref03_set at h
 refine lS (lO ?_)
 refine pq (qa (.one nC)) ?_
 refine oN ?_
 refine pq (qa (.one nC)) ?_
 refine oN ?_
 refine pq (qm (.one nC)) ?_
 refine pq (qm (.one (sF r62 s1))) ?_
 refine ol_addM (α := Int) r62 1 ?_
 obtain ⟨_, h4, h⟩ := bindS h
 obtain ⟨h4b, rfl⟩ := app_some h4
 refine ol_appM (r := r62) (l := ([] : List (Int))) (ys := s1.l) 0 rfl rfl rfl rfl rfl rfl (el_dat (fr := false) (r := r62) (fun x => rfl)) rfl h4 (fun y => rfl) el26 ty26 rfl rfl rfl rfl rfl (fun k6 => ?_)
 refine pq (qa (.one (moC (([] : List (Int)) ++ s1.l) k6))) ?_
 refine oE (eS (lS (lS (lO ?_))))
 refine pq (qm (iO n2)) ?_
 by_cases c7 : n2 < 0
 replace h := ifT c7 h
 refine pq (qb (p_lss_tZ c7)) ?_
 refine pq (qm bt) ?_
 iterate 5 refine os ?_
 refine pq (qpt bt) ?_
 refine oE (eS (cT rfl (lS (lO ?_))))
 refine pq (qm (.one (moC (([] : List (Int)) ++ s1.l) k6))) ?_
 refine pq (qa (.one (moC (([] : List (Int)) ++ s1.l) k6))) ?_
 refine oE (eS (lR (eR ?_)))
 obtain rfl := sj h
 exact E_endM (r := r62) 0 (.inr rfl) (res_tmp rfl res_nil) rfl (fun x h m => rfl) (fun x => rfl)
 replace h := ifF c7 h
 refine pq (qb (p_lss_fZ c7)) ?_
 refine pq (qm bf) ?_
 refine pq (qm (iO n2)) ?_
 obtain ⟨n8, h9, h⟩ := bindS h
 refine pq (q_bin rfl rfl (divO_p h9) rfl) ?_
 refine pq (qm (.one (sF r62 s1))) ?_
 refine pq (q_lenS rfl ty26 rfl rfl rfl rfl) ?_
 by_cases c10 : n8 ≥ ((s1.l.length : Nat) : Int)
 replace h := ifT c10 h
 refine pq (qb (p_geq_tZ c10)) ?_
 refine pq (qpf bt) ?_
 refine oE (eS (cT rfl (lS (lO ?_))))
 refine pq (qm (.one (moC (([] : List (Int)) ++ s1.l) k6))) ?_
 refine pq (qa (.one (moC (([] : List (Int)) ++ s1.l) k6))) ?_
 refine oE (eS (lR (eR ?_)))
 obtain rfl := sj h
 exact E_endM (r := r62) 0 (.inr rfl) (res_tmp rfl res_nil) rfl (fun x h m => rfl) (fun x => rfl)
 replace h := ifF c10 h
 refine pq (qb (p_geq_fZ c10)) ?_
 refine pq (qpf bf) ?_
 refine oE (eS (cF rfl (lK (eS (lS (lO ?_))))))
 refine pq (qm (iO n2)) ?_
 obtain ⟨n11, h12, h⟩ := bindS h
 refine pq (q_bin rfl rfl (modO_p h12) rfl) ?_
 refine pq (q_conv rfl (cv3_117_i64 _) rfl) ?_
 obtain ⟨n13, h14, h⟩ := bindS h
 refine pq (q_bin rfl rfl (p_shl h14) rfl) ?_
 refine pq (qa (.one (uI n13))) ?_
 refine oE (eS (lS (lS (lO ?_))))
 refine pq (qm (bO b3)) ?_
 refine oE (eS ?_)
 rcases b3 with _ | _
 replace h := wF h
 refine cF rfl (lO ?_)
 refine pq (qm (.one (moC (([] : List (Int)) ++ s1.l) k6))) ?_
 refine pq (qm (iO n2)) ?_
 refine pq (q_bin rfl rfl (divO_p h9) rfl) ?_
 refine pq (qm (.one (moC (([] : List (Int)) ++ s1.l) k6))) ?_
 refine pq (qm (iO n2)) ?_
 refine pq (q_bin rfl rfl (divO_p h9) rfl) ?_
 obtain ⟨n17, h16, h⟩ := bindS h
 obtain ⟨h16a, h16⟩ := atM_some h16
 refine pq (q_ixM (r := r62) 0 rfl rfl h16a h16 rfl el26) ?_
 refine pq (q_loadP (v := .one (uI n17)) 0 rfl sz62 (segM (r := r62) rfl h16) (map_get h16) rfl rfl) ?_
 refine pq (qm (.one (uI n13))) ?_
 refine pq (q_bin rfl rfl (p_andNot _ _ _ _ _ _ _) rfl) ?_
 refine pq (q_ixM (r := r62) 0 rfl rfl h16a h16 rfl el26) ?_
 refine ol_wr rfl rfl (q_store (e' := rowC r62 (andNotI .u64 n17 n13)) (es' := (((([] : List (Int)) ++ s1.l).set n8.toNat (andNotI .u64 n17 n13))).map (rowC r62)) 0 rfl rfl rfl sz62 rfl (segM (r := r62) rfl h16) (map_get h16) rfl map_set) (congrArg (fun z => List.set _ 0 z) (setM (r := r62) h16)) ?_
 refine ol_re 7 (v := .one (moC ((([] : List (Int)) ++ s1.l).set n8.toNat (andNotI .u64 n17 n13)) k6)) (Eq.trans (b := .one (moC (([] : List (Int)) ++ s1.l) k6)) rfl (congrArg D.one moC_set)) ?_
 refine ol_re 11 (v := .one (moC ((([] : List (Int)) ++ s1.l).set n8.toNat (andNotI .u64 n17 n13)) k6)) (Eq.trans (b := .one (moC (([] : List (Int)) ++ s1.l) k6)) rfl (congrArg D.one moC_set)) ?_
 refine ol_re 38 (v := .one (moC ((([] : List (Int)) ++ s1.l).set n8.toNat (andNotI .u64 n17 n13)) k6)) (Eq.trans (b := .one (moC (([] : List (Int)) ++ s1.l) k6)) rfl (congrArg D.one moC_set)) ?_
 refine ol_re 41 (v := .one (moC ((([] : List (Int)) ++ s1.l).set n8.toNat (andNotI .u64 n17 n13)) k6)) (Eq.trans (b := .one (moC (([] : List (Int)) ++ s1.l) k6)) rfl (congrArg D.one moC_set)) ?_
 refine oN ?_
 refine pq (qm (.one (moC ((([] : List (Int)) ++ s1.l).set n8.toNat (andNotI .u64 n17 n13)) k6))) ?_
 refine pq (qa (.one (moC ((([] : List (Int)) ++ s1.l).set n8.toNat (andNotI .u64 n17 n13)) k6))) ?_
 refine oE (eS (lR ?_))
 obtain rfl := sj h
 exact E_endM (r := r62) 0 (.inr rfl) (res_tmp rfl res_nil) rfl (fun x h m => rfl) (fun x => rfl)
 replace h := wT h
 refine cT rfl (lO ?_)
 refine pq (qm (.one (moC (([] : List (Int)) ++ s1.l) k6))) ?_
 refine pq (qm (iO n2)) ?_
 refine pq (q_bin rfl rfl (divO_p h9) rfl) ?_
 refine pq (qm (.one (moC (([] : List (Int)) ++ s1.l) k6))) ?_
 refine pq (qm (iO n2)) ?_
 refine pq (q_bin rfl rfl (divO_p h9) rfl) ?_
 obtain ⟨n20, h19, h⟩ := bindS h
 obtain ⟨h19a, h19⟩ := atM_some h19
 refine pq (q_ixM (r := r62) 0 rfl rfl h19a h19 rfl el26) ?_
 refine pq (q_loadP (v := .one (uI n20)) 0 rfl sz62 (segM (r := r62) rfl h19) (map_get h19) rfl rfl) ?_
 refine pq (qm (.one (uI n13))) ?_
 refine pq (q_bin rfl rfl (p_or _ _ _ _ _ _ _) rfl) ?_
 refine pq (q_ixM (r := r62) 0 rfl rfl h19a h19 rfl el26) ?_
 refine ol_wr rfl rfl (q_store (e' := rowC r62 (orI .u64 n20 n13)) (es' := (((([] : List (Int)) ++ s1.l).set n8.toNat (orI .u64 n20 n13))).map (rowC r62)) 0 rfl rfl rfl sz62 rfl (segM (r := r62) rfl h19) (map_get h19) rfl map_set) (congrArg (fun z => List.set _ 0 z) (setM (r := r62) h19)) ?_
 refine ol_re 7 (v := .one (moC ((([] : List (Int)) ++ s1.l).set n8.toNat (orI .u64 n20 n13)) k6)) (Eq.trans (b := .one (moC (([] : List (Int)) ++ s1.l) k6)) rfl (congrArg D.one moC_set)) ?_
 refine ol_re 11 (v := .one (moC ((([] : List (Int)) ++ s1.l).set n8.toNat (orI .u64 n20 n13)) k6)) (Eq.trans (b := .one (moC (([] : List (Int)) ++ s1.l) k6)) rfl (congrArg D.one moC_set)) ?_
 refine ol_re 27 (v := .one (moC ((([] : List (Int)) ++ s1.l).set n8.toNat (orI .u64 n20 n13)) k6)) (Eq.trans (b := .one (moC (([] : List (Int)) ++ s1.l) k6)) rfl (congrArg D.one moC_set)) ?_
 refine ol_re 30 (v := .one (moC ((([] : List (Int)) ++ s1.l).set n8.toNat (orI .u64 n20 n13)) k6)) (Eq.trans (b := .one (moC (([] : List (Int)) ++ s1.l) k6)) rfl (congrArg D.one moC_set)) ?_
 refine oN ?_
 refine pq (qm (.one (moC ((([] : List (Int)) ++ s1.l).set n8.toNat (orI .u64 n20 n13)) k6))) ?_
 refine pq (qa (.one (moC ((([] : List (Int)) ++ s1.l).set n8.toNat (orI .u64 n20 n13)) k6))) ?_
 refine oE (eS (lR ?_))
 obtain rfl := sj h
 exact E_endM (r := r62) 0 (.inr rfl) (res_tmp rfl res_nil) rfl (fun x h m => rfl) (fun x => rfl)
noncomputable def ref03_Put (s1 : Sl (Int)) (n2 : Int) : Option (List (Int)) :=
 ((ref03_set s1 n2 true).bind fun s4 => some s4)
theorem ref03_Put_r (m : Nat) {s1 : Sl (Int)} {n2 : Int} {out : List (Int)} (h : ref03_Put s1 n2 = some out) : RunsP E1 (m + 2) 55 [.one (Sl.t r62 s1), .one (iT .i64 n2)] (resM 1 r62 out) := by
 refine fn_M rfl (by rw [E1_fn]; exact show fiOf Tryd.prog 55 = _ by unfold fiOf; rw [Tryd.func55]; unfold Tryd.f55; rfl) rfl ?_
 dsimp only
 unfold ref03_Put at h
 refine lS (lO ?_)
 refine pq (qa (.one nC)) ?_
 refine oN ?_
 refine pq (qm (.one (sF r62 s1))) ?_
 refine pq (qm (iO n2)) ?_
 obtain ⟨s4, h3, h⟩ := bindS h
 refine ol_callM (r := r62) (l := s4) (args := [.one (sF r62 s1), iO n2, bt]) (ref03_set_r (m + 0) h3) rfl rfl rfl rfl rfl rfl (vw_cons (vd_one vc_s) (vw_cons (vd_one vc_v) (vw_cons (vd_one vc_v) vw_nil))) rfl (fun k5 => ?_)
 refine pq (qa (.one (moC s4 k5))) ?_
 refine oE (eS (lR ?_))
 obtain rfl := sj h
 exact E_endM (r := r62) 0 (.inr rfl) (res_tmp rfl res_nil) rfl (fun x h m => rfl) (fun x => rfl)
noncomputable def ref03_Of_b1 (n1 : Int) (s2 : Sl (Int)) (a : List (Int) × Int) : Option ((List (Int) × Int) ⊕ ((List (Int)) ⊕ (List (Int)))) :=
 match a with
 | (l29, n30) => (if n30 < ((s2.l.length : Nat) : Int) then ((atS 1 s2 n30).bind fun n35 => (if n35 ≥ 0 then (if n35 < n1 then (if n35 < 4096 then ((ref03_Put (⟨true, 1, l29⟩ : Sl (Int)) n35).bind fun s40 => ((neL s40).bind fun _ => some (.inl (s40, (IntKind.i64.wrap (n30 + 1)))))) else some (.inl (l29, (IntKind.i64.wrap (n30 + 1))))) else some (.inl (l29, (IntKind.i64.wrap (n30 + 1))))) else some (.inl (l29, (IntKind.i64.wrap (n30 + 1)))))) else some (.inr (.inl l29)))
noncomputable def ref03_Of (n1 : Int) (s2 : Sl (Int)) : Option (List (Int)) :=
 ((ref03_New n1).bind fun s4 => ((loopO (ref03_Of_b1 n1 s2) (s4, 0)).bind (Sum.elim (fun l43 => some l43) (fun u => some u))))
theorem ref03_Of_r (m : Nat) {n1 : Int} {s2 : Sl (Int)} {out : List (Int)} (h : ref03_Of n1 s2 = some out) : RunsP E1 (m + 3) 31 [.one (iT .i64 n1), .one (Sl.t r3 s2)] (.own, [.one (.s true 1 ((out).map r62))]) := by
 refine fn_O rfl (by rw [E1_fn]; exact show fiOf Tryd.prog 31 = _ by unfold fiOf; rw [Tryd.func31]; unfold Tryd.f31; rfl) rfl ?_
 dsimp only
 unfold ref03_Of at h
 refine lS (lO ?_)
 refine pq (qa (.one nC)) ?_
 refine oN ?_
 refine pq (qm (iO n1)) ?_
 obtain ⟨s4, h3, h⟩ := bindS h
 refine ol_new rfl rfl rfl (q_callO (args := [iO n1]) (ref03_New_r (m + 0) h3) rfl rfl (vw_cons (vd_one vc_v) vw_nil) rfl) (fun k5 => ?_)
 refine pq (qa (.one (.own k5 0 (s4).length))) ?_
 refine oE (eS (lS (lS (lO ?_))))
 refine pq (qa (iO 0)) ?_
 refine oE (eS (lB ?_))
 let S1 : (List (Int) × Int) → Nat → (Nat → D) → Nat → D := fun a kt g => ups g [(0, iO n1), (1, .one (sF r3 s2)), (5, .one (.own kt 0 (a.1).length)), (6, .one (iI a.2))]
 let SL1 : (List (Int) × Int) → Nat → BL := fun a kt => ([[(kt, 1, (a.1).map (rowC r62))]] : BL)
 let G1 : (List (Int)) → Ex → St → Prop := fun u => endQ E1 [.tmp 4] (.own, [.one (.s true 1 ((u).map r62))])
 let Sx1 : (List (Int)) → Nat → (Nat → D) → Nat → D := fun a kt g => ups g [(5, .one (.own kt 0 (a).length))]
 let SLx1 : (List (Int)) → Nat → BL := fun a kt => ([[(kt, 1, (a).map (rowC r62))]] : BL)
 let J1 : ((List (Int)) ⊕ (List (Int))) → Ex → St → Prop := JX 42 0 Sx1 SLx1 G1
 refine L_loopS (ref03_Of_b1 n1 s2) S1 SL1 J1 JX_n (s4, 0) h k5 (ups_self ⟨rfl, rfl, rfl, rfl, trivial⟩) [0] (by decide) rfl ?_ ?_
 rintro ⟨l29, n30⟩ k31 g out h
 change ref03_Of_b1 n1 s2 (l29, n30) = some out at h
 unfold ref03_Of_b1 at h
 refine lS (lS (lO ?_))
 refine pq (qm (iO n30)) ?_
 refine pq (qm (.one (sF r3 s2))) ?_
 refine pq (q_lenS rfl ty30 rfl rfl rfl rfl) ?_
 by_cases c32 : n30 < ((s2.l.length : Nat) : Int)
 replace h := ifT c32 h
 refine pq (qb (p_lss_tZ c32)) ?_
 refine oE (eS (cT rfl (lK (eS (lS (lB (lS (lO ?_))))))))
 refine pq (qm (.one (sF r3 s2))) ?_
 refine pq (qm (iO n30)) ?_
 obtain ⟨n35, h34, h⟩ := bindS h
 obtain ⟨h34a, h34b, h34⟩ := atS_some h34
 refine pq (q_ixS rfl rfl h34a h34 (el30.trans (congrArg some h34b.symm))) ?_
 refine pq (q_loadI (v := iO n35) rfl sz3 (map_get h34) rfl rfl) ?_
 by_cases c36 : n35 ≥ 0
 replace h := ifT c36 h
 refine pq (qb (p_geq_tZ c36)) ?_
 refine pq (qm bt) ?_
 refine pq (qm (.one (sF r3 s2))) ?_
 refine pq (qm (iO n30)) ?_
 refine pq (q_ixS rfl rfl h34a h34 (el30.trans (congrArg some h34b.symm))) ?_
 refine pq (q_loadI (v := iO n35) rfl sz3 (map_get h34) rfl rfl) ?_
 refine pq (qm (iO n1)) ?_
 by_cases c37 : n35 < n1
 replace h := ifT c37 h
 refine pq (qb (p_lss_tZ c37)) ?_
 refine pq (qpt bt) ?_
 refine pq (qm bt) ?_
 refine pq (qm (.one (sF r3 s2))) ?_
 refine pq (qm (iO n30)) ?_
 refine pq (q_ixS rfl rfl h34a h34 (el30.trans (congrArg some h34b.symm))) ?_
 refine pq (q_loadI (v := iO n35) rfl sz3 (map_get h34) rfl rfl) ?_
 by_cases c38 : n35 < 4096
 replace h := ifT c38 h
 refine pq (qb (p_lss_tZ c38)) ?_
 refine pq (qpt bt) ?_
 refine oE (eS (cT rfl (lO ?_)))
 refine pq (qm (.one (.own k31 0 (l29).length))) ?_
 refine pq (qm (.one (sF r3 s2))) ?_
 refine pq (qm (iO n30)) ?_
 refine pq (q_ixS rfl rfl h34a h34 (el30.trans (congrArg some h34b.symm))) ?_
 refine pq (q_loadI (v := iO n35) rfl sz3 (map_get h34) rfl rfl) ?_
 obtain ⟨s40, h39, h⟩ := bindS h
 refine ol_callM (r := r62) (l := s40) (args := [.one (.own k31 0 (l29).length), iO n35]) (ref03_Put_r (m + 0) h39) rfl rfl rfl rfl rfl rfl (vw_cons (vd_one (vc_own (r := r62) 0 rfl (fun x h m => rfl))) (vw_cons (vd_one vc_v) vw_nil)) rfl (fun k41 => ?_)
 refine pq (qa (.one (moC s40 k41))) ?_
 refine oE (bN (eS (lO ?_)))
 refine pq (qm (iO n30)) ?_
 refine pq (qb p_addY) ?_
 refine pq (qa (iO (IntKind.i64.wrap (n30 + 1)))) ?_
 refine oE ?_
 obtain ⟨_, h42, h⟩ := bindS h
 refine E_re 5 (v := .one (.own k41 0 (s40).length)) (Eq.trans (b := .one (moC s40 k41)) rfl (congrArg D.one (ne_moC h42).symm)) ?_
 refine E_reS 0 rfl (ne_moL h42).symm ?_
 obtain rfl := sj h
 exact E_next k41 (ups_self ⟨rfl, rfl, rfl, rfl, trivial⟩) [0] (by decide) rfl
 replace h := ifF c38 h
 refine pq (qb (p_lss_fZ c38)) ?_
 refine pq (qpt bf) ?_
 refine oE (eS (cF rfl (lK (bN (eS (lO ?_))))))
 refine pq (qm (iO n30)) ?_
 refine pq (qb p_addY) ?_
 refine pq (qa (iO (IntKind.i64.wrap (n30 + 1)))) ?_
 refine oE ?_
 obtain rfl := sj h
 exact E_next k31 (ups_self ⟨rfl, rfl, rfl, rfl, trivial⟩) [0] (by decide) rfl
 replace h := ifF c37 h
 refine pq (qb (p_lss_fZ c37)) ?_
 refine pq (qpt bf) ?_
 refine pq (qm bf) ?_
 iterate 5 refine os ?_
 refine pq (qpf bf) ?_
 refine oE (eS (cF rfl (lK (bN (eS (lO ?_))))))
 refine pq (qm (iO n30)) ?_
 refine pq (qb p_addY) ?_
 refine pq (qa (iO (IntKind.i64.wrap (n30 + 1)))) ?_
 refine oE ?_
 obtain rfl := sj h
 exact E_next k31 (ups_self ⟨rfl, rfl, rfl, rfl, trivial⟩) [0] (by decide) rfl
 replace h := ifF c36 h
 refine pq (qb (p_geq_fZ c36)) ?_
 refine pq (qm bf) ?_
 iterate 6 refine os ?_
 refine pq (qpf bf) ?_
 refine pq (qm bf) ?_
 iterate 5 refine os ?_
 refine pq (qpf bf) ?_
 refine oE (eS (cF rfl (lK (bN (eS (lO ?_))))))
 refine pq (qm (iO n30)) ?_
 refine pq (qb p_addY) ?_
 refine pq (qa (iO (IntKind.i64.wrap (n30 + 1)))) ?_
 refine oE ?_
 obtain rfl := sj h
 exact E_next k31 (ups_self ⟨rfl, rfl, rfl, rfl, trivial⟩) [0] (by decide) rfl
 replace h := ifF c32 h
 refine pq (qb (p_lss_fZ c32)) ?_
 refine oE (eS (cF rfl (L_exit ?_)))
 refine E_seqX ?_
 obtain rfl := sj h
 refine E_out ?_
 exact (E_exit k31 (ups_self ⟨rfl, trivial⟩) [0] (by decide) rfl)
 rintro (l43 | u) h
 refine J_x (fun k44 g => ?_)
 replace h := elimL h
 refine bH (eS (lS (lO ?_)))
 refine pq (qm (.one (.own k44 0 (l43).length))) ?_
 refine pq (qa (.one (.own k44 0 (l43).length))) ?_
 refine oE (eS (lR ?_))
 obtain rfl := sj h
 exact E_endO (r := r62) 0 (.inr rfl) (res_tmp rfl res_nil) rfl (fun x h m => rfl) (fun x => rfl)
 obtain rfl := Option.some.inj (elimR h)
 exact J_up (fun s hs => hs)
noncomputable def ref10_Of_b1 (s7 : Sl (Int × Int)) (a : List (Int) × Int × List (Int)) : Option ((List (Int) × Int × List (Int)) ⊕ ((List (Int) × List (Int)) ⊕ (Int × Sl (Int) × Sl (Int)))) :=
 match a with
 | (l58, n59, l60) => (if n59 < ((s7.l.length : Nat) : Int) then ((atS 2 s7 n59).bind fun (n66, n67) => ((app l58 ([n66] : List (Int))).bind fun _ => ((atL l60 n66).bind fun n77 => some (.inl ((l58 ++ ([n66] : List (Int))), (IntKind.i64.wrap (n59 + 1)), (l60.set n66.toNat n67)))))) else some (.inr (.inl (l58, l60))))
noncomputable def ref10_Of_b2 (s7 : Sl (Int × Int)) (a : List (Int) × Int × List (Int)) : Option ((List (Int) × Int × List (Int)) ⊕ ((List (Int) × List (Int)) ⊕ (Int × Sl (Int) × Sl (Int)))) :=
 match a with
 | (l133, n134, l135) => (if n134 < ((s7.l.length : Nat) : Int) then ((atS 2 s7 n134).bind fun (n141, n142) => ((app l133 ([n141] : List (Int))).bind fun _ => ((atL l135 n141).bind fun n152 => some (.inl ((l133 ++ ([n141] : List (Int))), (IntKind.i64.wrap (n134 + 1)), (l135.set n141.toNat n142)))))) else some (.inr (.inl (l133, l135))))
noncomputable def ref10_Of_b3 (s7 : Sl (Int × Int)) (a : List (Int) × Int × List (Int)) : Option ((List (Int) × Int × List (Int)) ⊕ ((List (Int) × List (Int)) ⊕ (Int × Sl (Int) × Sl (Int)))) :=
 match a with
 | (l207, n208, l209) => (if n208 < ((s7.l.length : Nat) : Int) then ((atS 2 s7 n208).bind fun (n215, n216) => ((app l207 ([n215] : List (Int))).bind fun _ => ((atL l209 n215).bind fun n226 => some (.inl ((l207 ++ ([n215] : List (Int))), (IntKind.i64.wrap (n208 + 1)), (l209.set n215.toNat n216)))))) else some (.inr (.inl (l207, l209))))
noncomputable def ref10_Of (a0 : Int × (Sl (Int × Int))) : Option ((Int × Sl (Int) × Sl (Int))) :=
 match a0 with
 | (n1, s2) => ((ref09_Sure (n1, s2)).bind fun (n6, s7) => (if n6 < 0 then ((ref03_New 0).bind fun s17 => ((lenOk 0).bind fun _ => ((loopO (ref10_Of_b1 s7) (([] : List (Int)), 0, (List.replicate (0 : Int).toNat (0 : Int)))).bind (Sum.elim (fun ⟨l78, l79⟩ => ((ref03_Of n6 (mo 1 l78)).bind fun s83 => some (0, (⟨true, 1, s83⟩ : Sl (Int)), (⟨true, 1, l79⟩ : Sl (Int))))) (fun u => some u))))) else (if n6 > 4096 then ((ref03_New 0).bind fun s92 => ((lenOk 0).bind fun _ => ((loopO (ref10_Of_b2 s7) (([] : List (Int)), 0, (List.replicate (0 : Int).toNat (0 : Int)))).bind (Sum.elim (fun ⟨l153, l154⟩ => ((ref03_Of n6 (mo 1 l153)).bind fun s158 => some (0, (⟨true, 1, s158⟩ : Sl (Int)), (⟨true, 1, l154⟩ : Sl (Int))))) (fun u => some u))))) else ((ref03_New n6).bind fun s166 => ((lenOk n6).bind fun _ => ((loopO (ref10_Of_b3 s7) (([] : List (Int)), 0, (List.replicate n6.toNat (0 : Int)))).bind (Sum.elim (fun ⟨l227, l228⟩ => ((ref03_Of n6 (mo 1 l227)).bind fun s232 => some (n6, (⟨true, 1, s232⟩ : Sl (Int)), (⟨true, 1, l228⟩ : Sl (Int))))) (fun u => some u))))))))
theorem ref10_Of_r (m : Nat) {a0 : Int × (Sl (Int × Int))} {out : (Int × Sl (Int) × Sl (Int))} (h : ref10_Of a0 = some out) : RunsP E1 (m + 4) 10 [.agg (r35 a0)] (.fresh, [.agg (r42 out)]) := by
 obtain ⟨n1, s2⟩ := a0
 refine fn_F rfl (by rw [E1_fn]; exact show fiOf Tryd.prog 10 = _ by unfold fiOf; rw [Tryd.func10]; unfold Tryd.f10; rfl) rfl ?_
 dsimp only
 unfold ref10_Of at h
 refine lS (lO ?_)
 refine ol_new rfl rfl rfl (q_box ty36 rfl (cs := [iI n1, sF r57 s2]) rfl rfl) (fun k3 => ?_)
 refine ol_new rfl rfl rfl (q_alloc ty43 (row := [iI 0, nC, nC]) rfl rfl) (fun k4 => ?_)
 refine oN ?_
 refine pq (ql (.agg [iI n1, sF r57 s2]) 1 sz36) ?_
 obtain ⟨⟨n6, s7⟩, h5, h⟩ := bindS h
 refine ol_putX rfl rfl rfl (q_callX (v := fun fr8 => .agg [iI n6, .p fr8 (Sl.t r57 s7)]) (args := [.agg [iI n1, sF r57 s2]]) (ref09_Sure_r (m + 1) h5) rfl rfl (vw_cons (vd_agg (vc_cons vc_v (vc_cons vc_s vc_nil))) vw_nil) rfl rfl (fun fr => rfl)) (fun fr8 => ?_)
 refine ow [[iI n6, .p fr8 (Sl.t r57 s7)]] 1 sz36 ?_
 refine oN ?_
 refine pq (q_fieldP rfl fa36_0 rfl) ?_
 refine pq (ql (iO n6) 1 sz3) ?_
 refine ol_scallN (args := [iO n6]) rfl rfl rfl ax30 (by rw [E1_fn]; exact show fiOf Tryd.prog 30 = _ by unfold fiOf; rw [Tryd.func30]; unfold Tryd.f30; rfl) rfl rfl rfl ?_
 dsimp only
 refine lS (lO ?_)
 refine ol_new rfl rfl rfl (q_alloc ty43 (row := [iI 0, nC, nC]) rfl rfl) (fun k9 => ?_)
 refine oE (eS (lS (lS (lO ?_))))
 refine pq (qm (iO n6)) ?_
 by_cases c10 : n6 < 0
 replace h := ifT c10 h
 refine pq (qb (p_lss_tZ c10)) ?_
 refine pq (qm bt) ?_
 iterate 2 refine os ?_
 refine pq (qpt bt) ?_
 refine oE (eS (cT rfl (lO ?_)))
 refine pq (qa (iO 0)) ?_
 refine oE (eS (lS ?_))
 refine L_norm (L2 := ([[(k9, 3, [[iI 0, nC, nC]])], [(k4, 3, [[iI 0, nC, nC]])], [(k3, 2, [[iI n6, .p fr8 (Sl.t r57 s7)]])]] : BL)) [0, 1, 2] (by decide) rfl ?_
 refine L_turn 7 rfl [[], [], [], [], [], [], [k9]] [(false, []), (false, []), (true, []), (false, []), (true, []), (false, []), (false, [])] [[1, 2, 3, 4], [0, 3, 4], [0, 3, 4], [0, 1, 2], [0, 1, 2], [], []] (by kernel_rfl) (by kernel_rfl) (by kernel_rfl) ?_ (fun bb11 hlt hnd => ?_)
 intro bb11 hlt hnd
 exact ⟨⟨djE, ⟨djE, ⟨djE, ⟨djE, ⟨djE, ⟨djE, ⟨djN, trivial⟩⟩⟩⟩⟩⟩⟩, (ltO_cons ltK_nil (ltO_cons ltK_nil (ltO_cons ltK_nil (ltO_cons ltK_nil (ltO_cons ltK_nil (ltO_cons ltK_nil (ltO_cons (ltK_cons (key_lt hlt 0 rfl) ltK_nil) ltO_nil)))))))⟩
 refine tq [] rfl hmn (qm (iO 0)) ?_
 refine tq [] rfl hmn (qm (iO 0)) ?_
 obtain ⟨s17, h16, h⟩ := bindS h
 refine tn_new rfl rfl rfl [] (by decide) rfl hmn rfl rfl (hkc (ne_new (key_lt hlt 0 rfl)) (hkc (ne_new (key_lt hlt 1 rfl)) (hkc (ne_new (key_lt hlt 2 rfl)) hkn))) (q_callO (args := [iO 0]) (ref03_New_r (m + 0) h16) rfl rfl (vw_cons (vd_one vc_v) vw_nil) rfl) ?_
 refine tq [] rfl hmn (qm (iO 0)) ?_
 obtain ⟨u18, h19, h⟩ := bindS h
 refine tn_new rfl rfl rfl [] (by decide) rfl hmn rfl rfl (hkc (ne_add rfl) (hkc (ne_new (key_lt hlt 0 rfl)) (hkc (ne_new (key_lt hlt 1 rfl)) (hkc (ne_new (key_lt hlt 2 rfl)) hkn)))) (q_mkslice (r := rowC r2) (a := (0 : Int)) ty31 rfl ty2 rfl rfl (lenOk_some h19).1 (lenOk_some h19).2 rfl rfl) ?_
 refine tq [] rfl (hm0 rfl) (q_build (cs := [iI 0, .own (bb11 + 2) 0 (s17).length, .own (bb11 + 4) 0 ((List.replicate (0 : Int).toNat (0 : Int))).length]) ty43 rfl pl43 rfl) ?_
 refine tn_wr rfl rfl [2] (by decide) rfl (hm0 rfl) rfl (q_store (es' := [[iI 0, .own (bb11 + 2) 0 (s17).length, .own (bb11 + 4) 0 ((List.replicate (0 : Int).toNat (0 : Int))).length]]) 0 rfl rfl rfl sz43 rfl rfl rfl rfl rfl) (q := 2) rfl rfl ?_
 refine tn_end (eS (lR ?_))
 refine E_call (v := .agg [iI 0, .own (bb11 + 2) 0 (s17).length, .own (bb11 + 4) 0 ((List.replicate (0 : Int).toNat (0 : Int))).length]) (.inr rfl) (res_cell (d := .agg [iI 0, .own (bb11 + 2) 0 (s17).length, .own (bb11 + 4) 0 ((List.replicate (0 : Int).toNat (0 : Int))).length]) 2 rfl sz43 rfl rfl rfl rfl res_nil) rfl ?_
 refine ol_new rfl rfl rfl (q_alloc ty43 (row := [iI 0, nC, nC]) rfl rfl) (fun k20 => ?_)
 refine ow [[iI 0, .own (bb11 + 2) 0 (s17).length, .own (bb11 + 4) 0 ((List.replicate (0 : Int).toNat (0 : Int))).length]] 0 sz43 ?_
 refine oN ?_
 refine pq (qa (.one nC)) ?_
 refine oE (eS (lS (lS (lO ?_))))
 refine pq (qa (iO 0)) ?_
 refine oE (eS (lB ?_))
 refine L_addM (α := Int) r3 1 ?_
 let S1 : (List (Int) × Int × List (Int)) → (Nat × Nat) → (Nat → D) → Nat → D := fun a kt g => ups g [(1, .one (.ptr k3 0 0)), (2, .one (.ptr k4 0 0)), (3, .one (.ptr k20 0 0)), (4, .one (moC a.1 kt.1)), (5, .one (iI a.2.1))]
 let SL1 : (List (Int) × Int × List (Int)) → (Nat × Nat) → BL := fun a kt => ([[(k3, 2, [[iI n6, .p fr8 (Sl.t r57 s7)]])], [(k4, 3, [[iI 0, nC, nC]])], [(k20, 3, [[iI 0, .own (bb11 + 2) 0 (s17).length, .own kt.2 0 (a.2.2).length]])], [((bb11 + 2), 1, (s17).map (rowC r62))], moL r3 1 a.1 kt.1, [(kt.2, 1, (a.2.2).map (rowC r2))]] : BL)
 let G1 : (Int × Sl (Int) × Sl (Int)) → Ex → St → Prop := fun u => endQ E1 [.cell 2 43] (.fresh, [.agg (r42 u)])
 let Sx1 : (List (Int) × List (Int)) → (Nat × Nat) → (Nat → D) → Nat → D := fun a kt g => ups g [(1, .one (.ptr k3 0 0)), (2, .one (.ptr k4 0 0)), (3, .one (.ptr k20 0 0)), (4, .one (moC a.1 kt.1))]
 let SLx1 : (List (Int) × List (Int)) → (Nat × Nat) → BL := fun a kt => ([[(k3, 2, [[iI n6, .p fr8 (Sl.t r57 s7)]])], [(k4, 3, [[iI 0, nC, nC]])], [(k20, 3, [[iI 0, .own (bb11 + 2) 0 (s17).length, .own kt.2 0 (a.2).length]])], [((bb11 + 2), 1, (s17).map (rowC r62))], moL r3 1 a.1 kt.1, [(kt.2, 1, (a.2).map (rowC r2))]] : BL)
 let J1 : ((List (Int) × List (Int)) ⊕ (Int × Sl (Int) × Sl (Int))) → Ex → St → Prop := JX 48 0 Sx1 SLx1 G1
 refine L_loopS (ref10_Of_b1 s7) S1 SL1 J1 JX_n (([] : List (Int)), 0, (List.replicate (0 : Int).toNat (0 : Int))) h (1056, (bb11 + 4)) (ups_self ⟨rfl, rfl, rfl, rfl, rfl, trivial⟩) [6, 5, 1, 3, 0, 2] (by decide) rfl ?_ ?_
 rintro ⟨l58, n59, l60⟩ ⟨k61, k62⟩ g out h
 change ref10_Of_b1 s7 (l58, n59, l60) = some out at h
 unfold ref10_Of_b1 at h
 refine lS (lS (lO ?_))
 refine pq (qm (iO n59)) ?_
 refine pq (q_fieldP rfl fa36_1 rfl) ?_
 refine pq (ql (.one (.p fr8 (Sl.t r57 s7))) 0 sz25) ?_
 refine pq (q_lenS rfl ty25 rfl rfl rfl rfl) ?_
 by_cases c63 : n59 < ((s7.l.length : Nat) : Int)
 replace h := ifT c63 h
 refine pq (qb (p_lss_tZ c63)) ?_
 refine oE (eS (cT rfl (lK (eS (lS (lB (lS (lO ?_))))))))
 refine pq (qm (.one (moC l58 k61))) ?_
 refine pq (q_fieldP rfl fa36_1 rfl) ?_
 refine pq (ql (.one (.p fr8 (Sl.t r57 s7))) 0 sz25) ?_
 refine pq (qm (iO n59)) ?_
 obtain ⟨⟨n66, n67⟩, h65, h⟩ := bindS h
 obtain ⟨h65a, h65b, h65⟩ := atS_some h65
 refine pq (q_ixS rfl rfl h65a h65 (el25.trans (congrArg some h65b.symm))) ?_
 refine pq (q_fieldI rfl fa58_0 rfl) ?_
 refine pq (q_loadI (v := iO n66) rfl sz3 (map_get h65) rfl rfl) ?_
 refine ol_new rfl rfl rfl (q_bslice (cs := [iI n66]) (es := (([n66] : List (Int))).map (rowC r3)) ty30 rfl ty3 rfl rfl rfl rfl rfl) (fun k68 => ?_)
 obtain ⟨_, h69, h⟩ := bindS h
 obtain ⟨h69b, rfl⟩ := app_some h69
 refine ol_appM (r := r3) (l := l58) (ys := ([n66] : List (Int))) 5 rfl rfl rfl rfl rfl rfl (el_ownM (l := ([n66] : List (Int))) 0 rfl) rfl h69 (fun y => rfl) el30 ty30 rfl rfl rfl rfl rfl (fun k70 => ?_)
 refine pq (qa (.one (moC (l58 ++ ([n66] : List (Int))) k70))) ?_
 refine oE (eS ?_)
 refine L_norm (L2 := ([moL r3 1 (l58 ++ ([n66] : List (Int))) k70, [(k3, 2, [[iI n6, .p fr8 (Sl.t r57 s7)]])], [(k4, 3, [[iI 0, nC, nC]])], [(k20, 3, [[iI 0, .own (bb11 + 2) 0 (s17).length, .own k62 0 (l60).length]])], [((bb11 + 2), 1, (s17).map (rowC r62))], [(k62, 1, (l60).map (rowC r2))]] : BL)) [0, 2, 3, 4, 5, 6] (by decide) rfl ?_
 refine L_turn 16 rfl [[], [], [], [], [], [], [], [], [], [], [], [], [], [], [], [k62]] [(false, []), (false, []), (false, []), (false, []), (false, []), (false, []), (false, []), (false, []), (false, []), (false, []), (false, []), (false, []), (false, []), (false, []), (false, []), (false, [])] [[2, 3, 4, 5, 6, 7, 8, 9, 10, 11, 12, 13], [2, 3, 4, 5, 6, 7, 8, 9, 10, 11, 12, 13], [0, 1, 4, 8, 9, 10, 11, 12, 13], [0, 1, 4, 8, 9, 10, 11, 12, 13], [0, 1, 2, 3, 8, 9, 10, 11, 12, 13], [0, 1, 8, 9, 10, 11, 12, 13], [0, 1, 8, 9, 10, 11, 12, 13], [0, 1, 8, 9, 10, 11, 12, 13], [0, 1, 2, 3, 4, 5, 6, 7, 10], [0, 1, 2, 3, 4, 5, 6, 7, 10], [0, 1, 2, 3, 4, 5, 6, 7, 8, 9], [0, 1, 2, 3, 4, 5, 6, 7], [0, 1, 2, 3, 4, 5, 6, 7], [0, 1, 2, 3, 4, 5, 6, 7], [], []] (by kernel_rfl) (by kernel_rfl) (by kernel_rfl) ?_ (fun bb71 hlt hnd => ?_)
 intro bb71 hlt hnd
 exact ⟨⟨djE, ⟨djE, ⟨djE, ⟨djE, ⟨djE, ⟨djE, ⟨djE, ⟨djE, ⟨djE, ⟨djE, ⟨djE, ⟨djE, ⟨djE, ⟨djE, ⟨djE, ⟨djN, trivial⟩⟩⟩⟩⟩⟩⟩⟩⟩⟩⟩⟩⟩⟩⟩⟩, (ltO_cons ltK_nil (ltO_cons ltK_nil (ltO_cons ltK_nil (ltO_cons ltK_nil (ltO_cons ltK_nil (ltO_cons ltK_nil (ltO_cons ltK_nil (ltO_cons ltK_nil (ltO_cons ltK_nil (ltO_cons ltK_nil (ltO_cons ltK_nil (ltO_cons ltK_nil (ltO_cons ltK_nil (ltO_cons ltK_nil (ltO_cons ltK_nil (ltO_cons (ltK_cons (key_lt hlt 5 rfl) ltK_nil) ltO_nil))))))))))))))))⟩
 have e_k70 : (l58 ++ ([n66] : List (Int))) = [] ∨ k70 < bb71 := key_ltM (r := r3) (w := 1) hlt 0 rfl
 refine tq [] rfl (hm0 rfl) (q_fieldP rfl fa43_2 rfl) ?_
 refine tq [3] rfl (hm0 rfl) (ql (.one (.own k62 0 (l60).length)) 0 sz31) ?_
 refine tq [] rfl (hm0 rfl) (q_fieldP rfl fa36_1 rfl) ?_
 refine tq [1] rfl (hm0 rfl) (ql (.one (.p fr8 (Sl.t r57 s7))) 0 sz25) ?_
 refine tq [] rfl (hm0 rfl) (qm (iO n59)) ?_
 refine tq [] rfl (hm0 rfl) (q_ixS rfl rfl h65a h65 (el25.trans (congrArg some h65b.symm))) ?_
 refine tq [] rfl (hm0 rfl) (q_fieldI rfl fa58_0 rfl) ?_
 refine tq [] rfl (hm0 rfl) (q_loadI (v := iO n66) rfl sz3 (map_get h65) rfl rfl) ?_
 refine tq [] rfl (hm0 rfl) (q_fieldP rfl fa36_1 rfl) ?_
 refine tq [1] rfl (hm0 rfl) (ql (.one (.p fr8 (Sl.t r57 s7))) 0 sz25) ?_
 refine tq [] rfl (hm0 rfl) (qm (iO n59)) ?_
 refine tq [] rfl (hm0 rfl) (q_ixS rfl rfl h65a h65 (el25.trans (congrArg some h65b.symm))) ?_
 refine tq [] rfl (hm0 rfl) (q_fieldI rfl fa58_1 rfl) ?_
 refine tq [] rfl (hm0 rfl) (q_loadI (v := iO n67) rfl sz2 (map_get h65) rfl rfl) ?_
 obtain ⟨n77, h76, h⟩ := bindS h
 obtain ⟨h76a, h76⟩ := atL_some h76
 refine tq [5] rfl (hm0 rfl) (q_ixO 0 rfl rfl h76a h76 rfl el31) ?_
 refine tn_wr rfl rfl [5] (by decide) rfl (hm0 rfl) rfl (q_store (e' := rowC r2 n67) (es' := ((l60.set n66.toNat n67)).map (rowC r2)) 0 rfl rfl rfl sz2 rfl rfl (map_get h76) rfl map_set) (q := 5) rfl rfl ?_
 refine tn_re 28 (v := .one (.own k62 0 ((l60.set n66.toNat n67)).length)) (Eq.trans (b := .one (.own k62 0 (l60).length)) rfl (congrArg D.one own_setC)) ?_
 refine tn_reS 3 (s' := [(k20, 3, [[iI 0, .own (bb11 + 2) 0 (s17).length, .own k62 0 ((l60.set n66.toNat n67)).length]])]) rfl (congrArg (fun z => ([(k20, 3, [[iI 0, .own (bb11 + 2) 0 (s17).length, z]])] : List B1)) own_setC) ?_
 refine tn_end (bN (eS (lO ?_)))
 refine pq (qm (iO n59)) ?_
 refine pq (qb p_addY) ?_
 refine pq (qa (iO (IntKind.i64.wrap (n59 + 1)))) ?_
 refine oE ?_
 obtain rfl := sj h
 exact E_next (k70, k62) (ups_self ⟨rfl, rfl, rfl, rfl, rfl, trivial⟩) [1, 2, 3, 4, 0, 5] (by decide) rfl
 replace h := ifF c63 h
 refine pq (qb (p_lss_fZ c63)) ?_
 refine oE (eS (cF rfl (L_exit ?_)))
 refine E_seqX ?_
 obtain rfl := sj h
 refine E_out ?_
 exact (E_exit (k61, k62) (ups_self ⟨rfl, rfl, rfl, rfl, trivial⟩) [0, 1, 2, 3, 4, 5] (by decide) rfl)
 rintro (⟨l78, l79⟩ | u) h
 refine J_x (fun kt g => ?_)
 rcases kt with ⟨k80, k81⟩
 replace h := elimL h
 refine bH (eS (lS (lO ?_)))
 refine pq (q_fieldP rfl fa36_0 rfl) ?_
 refine pq (ql (iO n6) 0 sz3) ?_
 refine pq (qm (.one (moC l78 k80))) ?_
 obtain ⟨s83, h82, h⟩ := bindS h
 refine ol_new rfl rfl rfl (q_callO (args := [iO n6, .one (moC l78 k80)]) (ref03_Of_r (m + 0) h82) rfl rfl (vw_cons (vd_one vc_v) (vw_cons (vd_one (vc_M (r := r3) 4 rfl (fun x h m => rfl))) vw_nil)) rfl) (fun k84 => ?_)
 refine pq (q_fieldP rfl fa43_1 rfl) ?_
 refine ow [[iI 0, .own k84 0 (s83).length, .own k81 0 (l79).length]] 3 sz26 ?_
 refine oN ?_
 refine pq (ql (.agg [iI 0, .own k84 0 (s83).length, .own k81 0 (l79).length]) 3 sz43) ?_
 refine ow [[iI 0, .own k84 0 (s83).length, .own k81 0 (l79).length]] 2 sz43 ?_
 refine oE (eS (lR ?_))
 obtain rfl := sj h
 exact E_endF (.inr rfl) (res_cell (d := .agg [iI 0, .own k84 0 (s83).length, .own k81 0 (l79).length]) 2 rfl sz43 rfl rfl rfl rfl res_nil) (vw_cons (vd_agg (vc_cons vc_v (vc_cons (vc_own (r := r62) 0 rfl (fun x h m => rfl)) (vc_cons (vc_own (r := r2) 6 rfl (fun x h m => rfl)) vc_nil)))) vw_nil) oG rfl rfl
 obtain rfl := Option.some.inj (elimR h)
 exact J_up (fun s hs => hs)
 replace h := ifF c10 h
 refine pq (qb (p_lss_fZ c10)) ?_
 refine pq (qm bf) ?_
 refine pq (qm (iO n6)) ?_
 by_cases c85 : n6 > 4096
 replace h := ifT c85 h
 refine pq (qb (p_gtr_tZ c85)) ?_
 refine pq (qpf bt) ?_
 refine oE (eS (cT rfl (lO ?_)))
 refine pq (qa (iO 0)) ?_
 refine oE (eS (lS ?_))
 refine L_norm (L2 := ([[(k9, 3, [[iI 0, nC, nC]])], [(k4, 3, [[iI 0, nC, nC]])], [(k3, 2, [[iI n6, .p fr8 (Sl.t r57 s7)]])]] : BL)) [0, 1, 2] (by decide) rfl ?_
 refine L_turn 7 rfl [[], [], [], [], [], [], [k9]] [(false, []), (false, []), (true, []), (false, []), (true, []), (false, []), (false, [])] [[1, 2, 3, 4], [0, 3, 4], [0, 3, 4], [0, 1, 2], [0, 1, 2], [], []] (by kernel_rfl) (by kernel_rfl) (by kernel_rfl) ?_ (fun bb86 hlt hnd => ?_)
 intro bb86 hlt hnd
 exact ⟨⟨djE, ⟨djE, ⟨djE, ⟨djE, ⟨djE, ⟨djE, ⟨djN, trivial⟩⟩⟩⟩⟩⟩⟩, (ltO_cons ltK_nil (ltO_cons ltK_nil (ltO_cons ltK_nil (ltO_cons ltK_nil (ltO_cons ltK_nil (ltO_cons ltK_nil (ltO_cons (ltK_cons (key_lt hlt 0 rfl) ltK_nil) ltO_nil)))))))⟩
 refine tq [] rfl hmn (qm (iO 0)) ?_
 refine tq [] rfl hmn (qm (iO 0)) ?_
 obtain ⟨s92, h91, h⟩ := bindS h
 refine tn_new rfl rfl rfl [] (by decide) rfl hmn rfl rfl (hkc (ne_new (key_lt hlt 0 rfl)) (hkc (ne_new (key_lt hlt 1 rfl)) (hkc (ne_new (key_lt hlt 2 rfl)) hkn))) (q_callO (args := [iO 0]) (ref03_New_r (m + 0) h91) rfl rfl (vw_cons (vd_one vc_v) vw_nil) rfl) ?_
 refine tq [] rfl hmn (qm (iO 0)) ?_
 obtain ⟨u93, h94, h⟩ := bindS h
 refine tn_new rfl rfl rfl [] (by decide) rfl hmn rfl rfl (hkc (ne_add rfl) (hkc (ne_new (key_lt hlt 0 rfl)) (hkc (ne_new (key_lt hlt 1 rfl)) (hkc (ne_new (key_lt hlt 2 rfl)) hkn)))) (q_mkslice (r := rowC r2) (a := (0 : Int)) ty31 rfl ty2 rfl rfl (lenOk_some h94).1 (lenOk_some h94).2 rfl rfl) ?_
 refine tq [] rfl (hm0 rfl) (q_build (cs := [iI 0, .own (bb86 + 2) 0 (s92).length, .own (bb86 + 4) 0 ((List.replicate (0 : Int).toNat (0 : Int))).length]) ty43 rfl pl43 rfl) ?_
 refine tn_wr rfl rfl [2] (by decide) rfl (hm0 rfl) rfl (q_store (es' := [[iI 0, .own (bb86 + 2) 0 (s92).length, .own (bb86 + 4) 0 ((List.replicate (0 : Int).toNat (0 : Int))).length]]) 0 rfl rfl rfl sz43 rfl rfl rfl rfl rfl) (q := 2) rfl rfl ?_
 refine tn_end (eS (lR ?_))
 refine E_call (v := .agg [iI 0, .own (bb86 + 2) 0 (s92).length, .own (bb86 + 4) 0 ((List.replicate (0 : Int).toNat (0 : Int))).length]) (.inr rfl) (res_cell (d := .agg [iI 0, .own (bb86 + 2) 0 (s92).length, .own (bb86 + 4) 0 ((List.replicate (0 : Int).toNat (0 : Int))).length]) 2 rfl sz43 rfl rfl rfl rfl res_nil) rfl ?_
 refine ol_new rfl rfl rfl (q_alloc ty43 (row := [iI 0, nC, nC]) rfl rfl) (fun k95 => ?_)
 refine ow [[iI 0, .own (bb86 + 2) 0 (s92).length, .own (bb86 + 4) 0 ((List.replicate (0 : Int).toNat (0 : Int))).length]] 0 sz43 ?_
 refine oN ?_
 refine pq (qa (.one nC)) ?_
 refine oE (eS (lS (lS (lO ?_))))
 refine pq (qa (iO 0)) ?_
 refine oE (eS (lB ?_))
 refine L_addM (α := Int) r3 1 ?_
 let S2 : (List (Int) × Int × List (Int)) → (Nat × Nat) → (Nat → D) → Nat → D := fun a kt g => ups g [(1, .one (.ptr k3 0 0)), (2, .one (.ptr k4 0 0)), (3, .one (.ptr k95 0 0)), (4, .one (moC a.1 kt.1)), (5, .one (iI a.2.1))]
 let SL2 : (List (Int) × Int × List (Int)) → (Nat × Nat) → BL := fun a kt => ([[(k3, 2, [[iI n6, .p fr8 (Sl.t r57 s7)]])], [(k4, 3, [[iI 0, nC, nC]])], [(k95, 3, [[iI 0, .own (bb86 + 2) 0 (s92).length, .own kt.2 0 (a.2.2).length]])], [((bb86 + 2), 1, (s92).map (rowC r62))], moL r3 1 a.1 kt.1, [(kt.2, 1, (a.2.2).map (rowC r2))]] : BL)
 let G2 : (Int × Sl (Int) × Sl (Int)) → Ex → St → Prop := fun u => endQ E1 [.cell 2 43] (.fresh, [.agg (r42 u)])
 let Sx2 : (List (Int) × List (Int)) → (Nat × Nat) → (Nat → D) → Nat → D := fun a kt g => ups g [(1, .one (.ptr k3 0 0)), (2, .one (.ptr k4 0 0)), (3, .one (.ptr k95 0 0)), (4, .one (moC a.1 kt.1))]
 let SLx2 : (List (Int) × List (Int)) → (Nat × Nat) → BL := fun a kt => ([[(k3, 2, [[iI n6, .p fr8 (Sl.t r57 s7)]])], [(k4, 3, [[iI 0, nC, nC]])], [(k95, 3, [[iI 0, .own (bb86 + 2) 0 (s92).length, .own kt.2 0 (a.2).length]])], [((bb86 + 2), 1, (s92).map (rowC r62))], moL r3 1 a.1 kt.1, [(kt.2, 1, (a.2).map (rowC r2))]] : BL)
 let J2 : ((List (Int) × List (Int)) ⊕ (Int × Sl (Int) × Sl (Int))) → Ex → St → Prop := JX 48 0 Sx2 SLx2 G2
 refine L_loopS (ref10_Of_b2 s7) S2 SL2 J2 JX_n (([] : List (Int)), 0, (List.replicate (0 : Int).toNat (0 : Int))) h (1131, (bb86 + 4)) (ups_self ⟨rfl, rfl, rfl, rfl, rfl, trivial⟩) [6, 5, 1, 3, 0, 2] (by decide) rfl ?_ ?_
 rintro ⟨l133, n134, l135⟩ ⟨k136, k137⟩ g out h
 change ref10_Of_b2 s7 (l133, n134, l135) = some out at h
 unfold ref10_Of_b2 at h
 refine lS (lS (lO ?_))
 refine pq (qm (iO n134)) ?_
 refine pq (q_fieldP rfl fa36_1 rfl) ?_
 refine pq (ql (.one (.p fr8 (Sl.t r57 s7))) 0 sz25) ?_
 refine pq (q_lenS rfl ty25 rfl rfl rfl rfl) ?_
 by_cases c138 : n134 < ((s7.l.length : Nat) : Int)
 replace h := ifT c138 h
 refine pq (qb (p_lss_tZ c138)) ?_
 refine oE (eS (cT rfl (lK (eS (lS (lB (lS (lO ?_))))))))
 refine pq (qm (.one (moC l133 k136))) ?_
 refine pq (q_fieldP rfl fa36_1 rfl) ?_
 refine pq (ql (.one (.p fr8 (Sl.t r57 s7))) 0 sz25) ?_
 refine pq (qm (iO n134)) ?_
 obtain ⟨⟨n141, n142⟩, h140, h⟩ := bindS h
 obtain ⟨h140a, h140b, h140⟩ := atS_some h140
 refine pq (q_ixS rfl rfl h140a h140 (el25.trans (congrArg some h140b.symm))) ?_
 refine pq (q_fieldI rfl fa58_0 rfl) ?_
 refine pq (q_loadI (v := iO n141) rfl sz3 (map_get h140) rfl rfl) ?_
 refine ol_new rfl rfl rfl (q_bslice (cs := [iI n141]) (es := (([n141] : List (Int))).map (rowC r3)) ty30 rfl ty3 rfl rfl rfl rfl rfl) (fun k143 => ?_)
 obtain ⟨_, h144, h⟩ := bindS h
 obtain ⟨h144b, rfl⟩ := app_some h144
 refine ol_appM (r := r3) (l := l133) (ys := ([n141] : List (Int))) 5 rfl rfl rfl rfl rfl rfl (el_ownM (l := ([n141] : List (Int))) 0 rfl) rfl h144 (fun y => rfl) el30 ty30 rfl rfl rfl rfl rfl (fun k145 => ?_)
 refine pq (qa (.one (moC (l133 ++ ([n141] : List (Int))) k145))) ?_
 refine oE (eS ?_)
 refine L_norm (L2 := ([moL r3 1 (l133 ++ ([n141] : List (Int))) k145, [(k3, 2, [[iI n6, .p fr8 (Sl.t r57 s7)]])], [(k4, 3, [[iI 0, nC, nC]])], [(k95, 3, [[iI 0, .own (bb86 + 2) 0 (s92).length, .own k137 0 (l135).length]])], [((bb86 + 2), 1, (s92).map (rowC r62))], [(k137, 1, (l135).map (rowC r2))]] : BL)) [0, 2, 3, 4, 5, 6] (by decide) rfl ?_
 refine L_turn 16 rfl [[], [], [], [], [], [], [], [], [], [], [], [], [], [], [], [k137]] [(false, []), (false, []), (false, []), (false, []), (false, []), (false, []), (false, []), (false, []), (false, []), (false, []), (false, []), (false, []), (false, []), (false, []), (false, []), (false, [])] [[2, 3, 4, 5, 6, 7, 8, 9, 10, 11, 12, 13], [2, 3, 4, 5, 6, 7, 8, 9, 10, 11, 12, 13], [0, 1, 4, 8, 9, 10, 11, 12, 13], [0, 1, 4, 8, 9, 10, 11, 12, 13], [0, 1, 2, 3, 8, 9, 10, 11, 12, 13], [0, 1, 8, 9, 10, 11, 12, 13], [0, 1, 8, 9, 10, 11, 12, 13], [0, 1, 8, 9, 10, 11, 12, 13], [0, 1, 2, 3, 4, 5, 6, 7, 10], [0, 1, 2, 3, 4, 5, 6, 7, 10], [0, 1, 2, 3, 4, 5, 6, 7, 8, 9], [0, 1, 2, 3, 4, 5, 6, 7], [0, 1, 2, 3, 4, 5, 6, 7], [0, 1, 2, 3, 4, 5, 6, 7], [], []] (by kernel_rfl) (by kernel_rfl) (by kernel_rfl) ?_ (fun bb146 hlt hnd => ?_)
 intro bb146 hlt hnd
 exact ⟨⟨djE, ⟨djE, ⟨djE, ⟨djE, ⟨djE, ⟨djE, ⟨djE, ⟨djE, ⟨djE, ⟨djE, ⟨djE, ⟨djE, ⟨djE, ⟨djE, ⟨djE, ⟨djN, trivial⟩⟩⟩⟩⟩⟩⟩⟩⟩⟩⟩⟩⟩⟩⟩⟩, (ltO_cons ltK_nil (ltO_cons ltK_nil (ltO_cons ltK_nil (ltO_cons ltK_nil (ltO_cons ltK_nil (ltO_cons ltK_nil (ltO_cons ltK_nil (ltO_cons ltK_nil (ltO_cons ltK_nil (ltO_cons ltK_nil (ltO_cons ltK_nil (ltO_cons ltK_nil (ltO_cons ltK_nil (ltO_cons ltK_nil (ltO_cons ltK_nil (ltO_cons (ltK_cons (key_lt hlt 5 rfl) ltK_nil) ltO_nil))))))))))))))))⟩
 have e_k145 : (l133 ++ ([n141] : List (Int))) = [] ∨ k145 < bb146 := key_ltM (r := r3) (w := 1) hlt 0 rfl
 refine tq [] rfl (hm0 rfl) (q_fieldP rfl fa43_2 rfl) ?_
 refine tq [3] rfl (hm0 rfl) (ql (.one (.own k137 0 (l135).length)) 0 sz31) ?_
 refine tq [] rfl (hm0 rfl) (q_fieldP rfl fa36_1 rfl) ?_
 refine tq [1] rfl (hm0 rfl) (ql (.one (.p fr8 (Sl.t r57 s7))) 0 sz25) ?_
 refine tq [] rfl (hm0 rfl) (qm (iO n134)) ?_
 refine tq [] rfl (hm0 rfl) (q_ixS rfl rfl h140a h140 (el25.trans (congrArg some h140b.symm))) ?_
 refine tq [] rfl (hm0 rfl) (q_fieldI rfl fa58_0 rfl) ?_
 refine tq [] rfl (hm0 rfl) (q_loadI (v := iO n141) rfl sz3 (map_get h140) rfl rfl) ?_
 refine tq [] rfl (hm0 rfl) (q_fieldP rfl fa36_1 rfl) ?_
 refine tq [1] rfl (hm0 rfl) (ql (.one (.p fr8 (Sl.t r57 s7))) 0 sz25) ?_
 refine tq [] rfl (hm0 rfl) (qm (iO n134)) ?_
 refine tq [] rfl (hm0 rfl) (q_ixS rfl rfl h140a h140 (el25.trans (congrArg some h140b.symm))) ?_
 refine tq [] rfl (hm0 rfl) (q_fieldI rfl fa58_1 rfl) ?_
 refine tq [] rfl (hm0 rfl) (q_loadI (v := iO n142) rfl sz2 (map_get h140) rfl rfl) ?_
 obtain ⟨n152, h151, h⟩ := bindS h
 obtain ⟨h151a, h151⟩ := atL_some h151
 refine tq [5] rfl (hm0 rfl) (q_ixO 0 rfl rfl h151a h151 rfl el31) ?_
 refine tn_wr rfl rfl [5] (by decide) rfl (hm0 rfl) rfl (q_store (e' := rowC r2 n142) (es' := ((l135.set n141.toNat n142)).map (rowC r2)) 0 rfl rfl rfl sz2 rfl rfl (map_get h151) rfl map_set) (q := 5) rfl rfl ?_
 refine tn_re 28 (v := .one (.own k137 0 ((l135.set n141.toNat n142)).length)) (Eq.trans (b := .one (.own k137 0 (l135).length)) rfl (congrArg D.one own_setC)) ?_
 refine tn_reS 3 (s' := [(k95, 3, [[iI 0, .own (bb86 + 2) 0 (s92).length, .own k137 0 ((l135.set n141.toNat n142)).length]])]) rfl (congrArg (fun z => ([(k95, 3, [[iI 0, .own (bb86 + 2) 0 (s92).length, z]])] : List B1)) own_setC) ?_
 refine tn_end (bN (eS (lO ?_)))
 refine pq (qm (iO n134)) ?_
 refine pq (qb p_addY) ?_
 refine pq (qa (iO (IntKind.i64.wrap (n134 + 1)))) ?_
 refine oE ?_
 obtain rfl := sj h
 exact E_next (k145, k137) (ups_self ⟨rfl, rfl, rfl, rfl, rfl, trivial⟩) [1, 2, 3, 4, 0, 5] (by decide) rfl
 replace h := ifF c138 h
 refine pq (qb (p_lss_fZ c138)) ?_
 refine oE (eS (cF rfl (L_exit ?_)))
 refine E_seqX ?_
 obtain rfl := sj h
 refine E_out ?_
 exact (E_exit (k136, k137) (ups_self ⟨rfl, rfl, rfl, rfl, trivial⟩) [0, 1, 2, 3, 4, 5] (by decide) rfl)
 rintro (⟨l153, l154⟩ | u) h
 refine J_x (fun kt g => ?_)
 rcases kt with ⟨k155, k156⟩
 replace h := elimL h
 refine bH (eS (lS (lO ?_)))
 refine pq (q_fieldP rfl fa36_0 rfl) ?_
 refine pq (ql (iO n6) 0 sz3) ?_
 refine pq (qm (.one (moC l153 k155))) ?_
 obtain ⟨s158, h157, h⟩ := bindS h
 refine ol_new rfl rfl rfl (q_callO (args := [iO n6, .one (moC l153 k155)]) (ref03_Of_r (m + 0) h157) rfl rfl (vw_cons (vd_one vc_v) (vw_cons (vd_one (vc_M (r := r3) 4 rfl (fun x h m => rfl))) vw_nil)) rfl) (fun k159 => ?_)
 refine pq (q_fieldP rfl fa43_1 rfl) ?_
 refine ow [[iI 0, .own k159 0 (s158).length, .own k156 0 (l154).length]] 3 sz26 ?_
 refine oN ?_
 refine pq (ql (.agg [iI 0, .own k159 0 (s158).length, .own k156 0 (l154).length]) 3 sz43) ?_
 refine ow [[iI 0, .own k159 0 (s158).length, .own k156 0 (l154).length]] 2 sz43 ?_
 refine oE (eS (lR ?_))
 obtain rfl := sj h
 exact E_endF (.inr rfl) (res_cell (d := .agg [iI 0, .own k159 0 (s158).length, .own k156 0 (l154).length]) 2 rfl sz43 rfl rfl rfl rfl res_nil) (vw_cons (vd_agg (vc_cons vc_v (vc_cons (vc_own (r := r62) 0 rfl (fun x h m => rfl)) (vc_cons (vc_own (r := r2) 6 rfl (fun x h m => rfl)) vc_nil)))) vw_nil) oG rfl rfl
 obtain rfl := Option.some.inj (elimR h)
 exact J_up (fun s hs => hs)
 replace h := ifF c85 h
 refine pq (qb (p_gtr_fZ c85)) ?_
 refine pq (qpf bf) ?_
 refine oE (eS (cF rfl (lK (eS (lS ?_)))))
 refine L_norm (L2 := ([[(k9, 3, [[iI 0, nC, nC]])], [(k4, 3, [[iI 0, nC, nC]])], [(k3, 2, [[iI n6, .p fr8 (Sl.t r57 s7)]])]] : BL)) [0, 1, 2] (by decide) rfl ?_
 refine L_turn 7 rfl [[], [], [], [], [], [], [k9]] [(false, []), (false, []), (true, []), (false, []), (true, []), (false, []), (false, [])] [[1, 2, 3, 4], [0, 3, 4], [0, 3, 4], [0, 1, 2], [0, 1, 2], [], []] (by kernel_rfl) (by kernel_rfl) (by kernel_rfl) ?_ (fun bb160 hlt hnd => ?_)
 intro bb160 hlt hnd
 exact ⟨⟨djE, ⟨djE, ⟨djE, ⟨djE, ⟨djE, ⟨djE, ⟨djN, trivial⟩⟩⟩⟩⟩⟩⟩, (ltO_cons ltK_nil (ltO_cons ltK_nil (ltO_cons ltK_nil (ltO_cons ltK_nil (ltO_cons ltK_nil (ltO_cons ltK_nil (ltO_cons (ltK_cons (key_lt hlt 0 rfl) ltK_nil) ltO_nil)))))))⟩
 refine tq [] rfl hmn (qm (iO n6)) ?_
 refine tq [] rfl hmn (qm (iO n6)) ?_
 obtain ⟨s166, h165, h⟩ := bindS h
 refine tn_new rfl rfl rfl [] (by decide) rfl hmn rfl rfl (hkc (ne_new (key_lt hlt 0 rfl)) (hkc (ne_new (key_lt hlt 1 rfl)) (hkc (ne_new (key_lt hlt 2 rfl)) hkn))) (q_callO (args := [iO n6]) (ref03_New_r (m + 0) h165) rfl rfl (vw_cons (vd_one vc_v) vw_nil) rfl) ?_
 refine tq [] rfl hmn (qm (iO n6)) ?_
 obtain ⟨u167, h168, h⟩ := bindS h
 refine tn_new rfl rfl rfl [] (by decide) rfl hmn rfl rfl (hkc (ne_add rfl) (hkc (ne_new (key_lt hlt 0 rfl)) (hkc (ne_new (key_lt hlt 1 rfl)) (hkc (ne_new (key_lt hlt 2 rfl)) hkn)))) (q_mkslice (r := rowC r2) (a := (0 : Int)) ty31 rfl ty2 rfl rfl (lenOk_some h168).1 (lenOk_some h168).2 rfl rfl) ?_
 refine tq [] rfl (hm0 rfl) (q_build (cs := [iI n6, .own (bb160 + 2) 0 (s166).length, .own (bb160 + 4) 0 ((List.replicate n6.toNat (0 : Int))).length]) ty43 rfl pl43 rfl) ?_
 refine tn_wr rfl rfl [2] (by decide) rfl (hm0 rfl) rfl (q_store (es' := [[iI n6, .own (bb160 + 2) 0 (s166).length, .own (bb160 + 4) 0 ((List.replicate n6.toNat (0 : Int))).length]]) 0 rfl rfl rfl sz43 rfl rfl rfl rfl rfl) (q := 2) rfl rfl ?_
 refine tn_end (eS (lR ?_))
 refine E_call (v := .agg [iI n6, .own (bb160 + 2) 0 (s166).length, .own (bb160 + 4) 0 ((List.replicate n6.toNat (0 : Int))).length]) (.inr rfl) (res_cell (d := .agg [iI n6, .own (bb160 + 2) 0 (s166).length, .own (bb160 + 4) 0 ((List.replicate n6.toNat (0 : Int))).length]) 2 rfl sz43 rfl rfl rfl rfl res_nil) rfl ?_
 refine ol_new rfl rfl rfl (q_alloc ty43 (row := [iI 0, nC, nC]) rfl rfl) (fun k169 => ?_)
 refine ow [[iI n6, .own (bb160 + 2) 0 (s166).length, .own (bb160 + 4) 0 ((List.replicate n6.toNat (0 : Int))).length]] 0 sz43 ?_
 refine oN ?_
 refine pq (qa (.one nC)) ?_
 refine oE (eS (lS (lS (lO ?_))))
 refine pq (qa (iO 0)) ?_
 refine oE (eS (lB ?_))
 refine L_addM (α := Int) r3 1 ?_
 let S3 : (List (Int) × Int × List (Int)) → (Nat × Nat) → (Nat → D) → Nat → D := fun a kt g => ups g [(1, .one (.ptr k3 0 0)), (2, .one (.ptr k4 0 0)), (3, .one (.ptr k169 0 0)), (4, .one (moC a.1 kt.1)), (5, .one (iI a.2.1))]
 let SL3 : (List (Int) × Int × List (Int)) → (Nat × Nat) → BL := fun a kt => ([[(k3, 2, [[iI n6, .p fr8 (Sl.t r57 s7)]])], [(k4, 3, [[iI 0, nC, nC]])], [(k169, 3, [[iI n6, .own (bb160 + 2) 0 (s166).length, .own kt.2 0 (a.2.2).length]])], [((bb160 + 2), 1, (s166).map (rowC r62))], moL r3 1 a.1 kt.1, [(kt.2, 1, (a.2.2).map (rowC r2))]] : BL)
 let G3 : (Int × Sl (Int) × Sl (Int)) → Ex → St → Prop := fun u => endQ E1 [.cell 2 43] (.fresh, [.agg (r42 u)])
 let Sx3 : (List (Int) × List (Int)) → (Nat × Nat) → (Nat → D) → Nat → D := fun a kt g => ups g [(1, .one (.ptr k3 0 0)), (2, .one (.ptr k4 0 0)), (3, .one (.ptr k169 0 0)), (4, .one (moC a.1 kt.1))]
 let SLx3 : (List (Int) × List (Int)) → (Nat × Nat) → BL := fun a kt => ([[(k3, 2, [[iI n6, .p fr8 (Sl.t r57 s7)]])], [(k4, 3, [[iI 0, nC, nC]])], [(k169, 3, [[iI n6, .own (bb160 + 2) 0 (s166).length, .own kt.2 0 (a.2).length]])], [((bb160 + 2), 1, (s166).map (rowC r62))], moL r3 1 a.1 kt.1, [(kt.2, 1, (a.2).map (rowC r2))]] : BL)
 let J3 : ((List (Int) × List (Int)) ⊕ (Int × Sl (Int) × Sl (Int))) → Ex → St → Prop := JX 48 0 Sx3 SLx3 G3
 refine L_loopS (ref10_Of_b3 s7) S3 SL3 J3 JX_n (([] : List (Int)), 0, (List.replicate n6.toNat (0 : Int))) h (1205, (bb160 + 4)) (ups_self ⟨rfl, rfl, rfl, rfl, rfl, trivial⟩) [6, 5, 1, 3, 0, 2] (by decide) rfl ?_ ?_
 rintro ⟨l207, n208, l209⟩ ⟨k210, k211⟩ g out h
 change ref10_Of_b3 s7 (l207, n208, l209) = some out at h
 unfold ref10_Of_b3 at h
 refine lS (lS (lO ?_))
 refine pq (qm (iO n208)) ?_
 refine pq (q_fieldP rfl fa36_1 rfl) ?_
 refine pq (ql (.one (.p fr8 (Sl.t r57 s7))) 0 sz25) ?_
 refine pq (q_lenS rfl ty25 rfl rfl rfl rfl) ?_
 by_cases c212 : n208 < ((s7.l.length : Nat) : Int)
 replace h := ifT c212 h
 refine pq (qb (p_lss_tZ c212)) ?_
 refine oE (eS (cT rfl (lK (eS (lS (lB (lS (lO ?_))))))))
 refine pq (qm (.one (moC l207 k210))) ?_
 refine pq (q_fieldP rfl fa36_1 rfl) ?_
 refine pq (ql (.one (.p fr8 (Sl.t r57 s7))) 0 sz25) ?_
 refine pq (qm (iO n208)) ?_
 obtain ⟨⟨n215, n216⟩, h214, h⟩ := bindS h
 obtain ⟨h214a, h214b, h214⟩ := atS_some h214
 refine pq (q_ixS rfl rfl h214a h214 (el25.trans (congrArg some h214b.symm))) ?_
 refine pq (q_fieldI rfl fa58_0 rfl) ?_
 refine pq (q_loadI (v := iO n215) rfl sz3 (map_get h214) rfl rfl) ?_
 refine ol_new rfl rfl rfl (q_bslice (cs := [iI n215]) (es := (([n215] : List (Int))).map (rowC r3)) ty30 rfl ty3 rfl rfl rfl rfl rfl) (fun k217 => ?_)
 obtain ⟨_, h218, h⟩ := bindS h
 obtain ⟨h218b, rfl⟩ := app_some h218
 refine ol_appM (r := r3) (l := l207) (ys := ([n215] : List (Int))) 5 rfl rfl rfl rfl rfl rfl (el_ownM (l := ([n215] : List (Int))) 0 rfl) rfl h218 (fun y => rfl) el30 ty30 rfl rfl rfl rfl rfl (fun k219 => ?_)
 refine pq (qa (.one (moC (l207 ++ ([n215] : List (Int))) k219))) ?_
 refine oE (eS ?_)
 refine L_norm (L2 := ([moL r3 1 (l207 ++ ([n215] : List (Int))) k219, [(k3, 2, [[iI n6, .p fr8 (Sl.t r57 s7)]])], [(k4, 3, [[iI 0, nC, nC]])], [(k169, 3, [[iI n6, .own (bb160 + 2) 0 (s166).length, .own k211 0 (l209).length]])], [((bb160 + 2), 1, (s166).map (rowC r62))], [(k211, 1, (l209).map (rowC r2))]] : BL)) [0, 2, 3, 4, 5, 6] (by decide) rfl ?_
 refine L_turn 16 rfl [[], [], [], [], [], [], [], [], [], [], [], [], [], [], [], [k211]] [(false, []), (false, []), (false, []), (false, []), (false, []), (false, []), (false, []), (false, []), (false, []), (false, []), (false, []), (false, []), (false, []), (false, []), (false, []), (false, [])] [[2, 3, 4, 5, 6, 7, 8, 9, 10, 11, 12, 13], [2, 3, 4, 5, 6, 7, 8, 9, 10, 11, 12, 13], [0, 1, 4, 8, 9, 10, 11, 12, 13], [0, 1, 4, 8, 9, 10, 11, 12, 13], [0, 1, 2, 3, 8, 9, 10, 11, 12, 13], [0, 1, 8, 9, 10, 11, 12, 13], [0, 1, 8, 9, 10, 11, 12, 13], [0, 1, 8, 9, 10, 11, 12, 13], [0, 1, 2, 3, 4, 5, 6, 7, 10], [0, 1, 2, 3, 4, 5, 6, 7, 10], [0, 1, 2, 3, 4, 5, 6, 7, 8, 9], [0, 1, 2, 3, 4, 5, 6, 7], [0, 1, 2, 3, 4, 5, 6, 7], [0, 1, 2, 3, 4, 5, 6, 7], [], []] (by kernel_rfl) (by kernel_rfl) (by kernel_rfl) ?_ (fun bb220 hlt hnd => ?_)
 intro bb220 hlt hnd
 exact ⟨⟨djE, ⟨djE, ⟨djE, ⟨djE, ⟨djE, ⟨djE, ⟨djE, ⟨djE, ⟨djE, ⟨djE, ⟨djE, ⟨djE, ⟨djE, ⟨djE, ⟨djE, ⟨djN, trivial⟩⟩⟩⟩⟩⟩⟩⟩⟩⟩⟩⟩⟩⟩⟩⟩, (ltO_cons ltK_nil (ltO_cons ltK_nil (ltO_cons ltK_nil (ltO_cons ltK_nil (ltO_cons ltK_nil (ltO_cons ltK_nil (ltO_cons ltK_nil (ltO_cons ltK_nil (ltO_cons ltK_nil (ltO_cons ltK_nil (ltO_cons ltK_nil (ltO_cons ltK_nil (ltO_cons ltK_nil (ltO_cons ltK_nil (ltO_cons ltK_nil (ltO_cons (ltK_cons (key_lt hlt 5 rfl) ltK_nil) ltO_nil))))))))))))))))⟩
 have e_k219 : (l207 ++ ([n215] : List (Int))) = [] ∨ k219 < bb220 := key_ltM (r := r3) (w := 1) hlt 0 rfl
 refine tq [] rfl (hm0 rfl) (q_fieldP rfl fa43_2 rfl) ?_
 refine tq [3] rfl (hm0 rfl) (ql (.one (.own k211 0 (l209).length)) 0 sz31) ?_
 refine tq [] rfl (hm0 rfl) (q_fieldP rfl fa36_1 rfl) ?_
 refine tq [1] rfl (hm0 rfl) (ql (.one (.p fr8 (Sl.t r57 s7))) 0 sz25) ?_
 refine tq [] rfl (hm0 rfl) (qm (iO n208)) ?_
 refine tq [] rfl (hm0 rfl) (q_ixS rfl rfl h214a h214 (el25.trans (congrArg some h214b.symm))) ?_
 refine tq [] rfl (hm0 rfl) (q_fieldI rfl fa58_0 rfl) ?_
 refine tq [] rfl (hm0 rfl) (q_loadI (v := iO n215) rfl sz3 (map_get h214) rfl rfl) ?_
 refine tq [] rfl (hm0 rfl) (q_fieldP rfl fa36_1 rfl) ?_
 refine tq [1] rfl (hm0 rfl) (ql (.one (.p fr8 (Sl.t r57 s7))) 0 sz25) ?_
 refine tq [] rfl (hm0 rfl) (qm (iO n208)) ?_
 refine tq [] rfl (hm0 rfl) (q_ixS rfl rfl h214a h214 (el25.trans (congrArg some h214b.symm))) ?_
 refine tq [] rfl (hm0 rfl) (q_fieldI rfl fa58_1 rfl) ?_
 refine tq [] rfl (hm0 rfl) (q_loadI (v := iO n216) rfl sz2 (map_get h214) rfl rfl) ?_
 obtain ⟨n226, h225, h⟩ := bindS h
 obtain ⟨h225a, h225⟩ := atL_some h225
 refine tq [5] rfl (hm0 rfl) (q_ixO 0 rfl rfl h225a h225 rfl el31) ?_
 refine tn_wr rfl rfl [5] (by decide) rfl (hm0 rfl) rfl (q_store (e' := rowC r2 n216) (es' := ((l209.set n215.toNat n216)).map (rowC r2)) 0 rfl rfl rfl sz2 rfl rfl (map_get h225) rfl map_set) (q := 5) rfl rfl ?_
 refine tn_re 28 (v := .one (.own k211 0 ((l209.set n215.toNat n216)).length)) (Eq.trans (b := .one (.own k211 0 (l209).length)) rfl (congrArg D.one own_setC)) ?_
 refine tn_reS 3 (s' := [(k169, 3, [[iI n6, .own (bb160 + 2) 0 (s166).length, .own k211 0 ((l209.set n215.toNat n216)).length]])]) rfl (congrArg (fun z => ([(k169, 3, [[iI n6, .own (bb160 + 2) 0 (s166).length, z]])] : List B1)) own_setC) ?_
 refine tn_end (bN (eS (lO ?_)))
 refine pq (qm (iO n208)) ?_
 refine pq (qb p_addY) ?_
 refine pq (qa (iO (IntKind.i64.wrap (n208 + 1)))) ?_
 refine oE ?_
 obtain rfl := sj h
 exact E_next (k219, k211) (ups_self ⟨rfl, rfl, rfl, rfl, rfl, trivial⟩) [1, 2, 3, 4, 0, 5] (by decide) rfl
 replace h := ifF c212 h
 refine pq (qb (p_lss_fZ c212)) ?_
 refine oE (eS (cF rfl (L_exit ?_)))
 refine E_seqX ?_
 obtain rfl := sj h
 refine E_out ?_
 exact (E_exit (k210, k211) (ups_self ⟨rfl, rfl, rfl, rfl, trivial⟩) [0, 1, 2, 3, 4, 5] (by decide) rfl)
 rintro (⟨l227, l228⟩ | u) h
 refine J_x (fun kt g => ?_)
 rcases kt with ⟨k229, k230⟩
 replace h := elimL h
 refine bH (eS (lS (lO ?_)))
 refine pq (q_fieldP rfl fa36_0 rfl) ?_
 refine pq (ql (iO n6) 0 sz3) ?_
 refine pq (qm (.one (moC l227 k229))) ?_
 obtain ⟨s232, h231, h⟩ := bindS h
 refine ol_new rfl rfl rfl (q_callO (args := [iO n6, .one (moC l227 k229)]) (ref03_Of_r (m + 0) h231) rfl rfl (vw_cons (vd_one vc_v) (vw_cons (vd_one (vc_M (r := r3) 4 rfl (fun x h m => rfl))) vw_nil)) rfl) (fun k233 => ?_)
 refine pq (q_fieldP rfl fa43_1 rfl) ?_
 refine ow [[iI n6, .own k233 0 (s232).length, .own k230 0 (l228).length]] 3 sz26 ?_
 refine oN ?_
 refine pq (ql (.agg [iI n6, .own k233 0 (s232).length, .own k230 0 (l228).length]) 3 sz43) ?_
 refine ow [[iI n6, .own k233 0 (s232).length, .own k230 0 (l228).length]] 2 sz43 ?_
 refine oE (eS (lR ?_))
 obtain rfl := sj h
 exact E_endF (.inr rfl) (res_cell (d := .agg [iI n6, .own k233 0 (s232).length, .own k230 0 (l228).length]) 2 rfl sz43 rfl rfl rfl rfl res_nil) (vw_cons (vd_agg (vc_cons vc_v (vc_cons (vc_own (r := r62) 0 rfl (fun x h m => rfl)) (vc_cons (vc_own (r := r2) 6 rfl (fun x h m => rfl)) vc_nil)))) vw_nil) oG rfl rfl
 obtain rfl := Option.some.inj (elimR h)
 exact J_up (fun s hs => hs)
noncomputable def ring_Is (n1 : Int) : Option (Bool) :=
 (if n1 ≥ 1 then (if n1 ≤ 5 then some true else some false) else some false)
theorem ring_Is_r (m : Nat) {n1 : Int} {out : Bool} (h : ring_Is n1 = some out) : RunsP E1 (m + 1) 43 [.one (iT .i64 n1)] (.fresh, [.one (bT out)]) := by
 refine fn_F rfl (by rw [E1_fn]; exact show fiOf Tryd.prog 43 = _ by unfold fiOf; rw [Tryd.func43]; unfold Tryd.f43; rfl) rfl ?_
 dsimp only
 unfold ring_Is at h
 refine lS (lO ?_)
 refine pq (qa bf) ?_
 refine oN ?_
 refine pq (qm (iO n1)) ?_
 by_cases c2 : n1 ≥ 1
 replace h := ifT c2 h
 refine pq (qb (p_geq_tZ c2)) ?_
 refine pq (qm bt) ?_
 refine pq (qm (iO n1)) ?_
 by_cases c3 : n1 ≤ 5
 replace h := ifT c3 h
 refine pq (qb (p_leq_tZ c3)) ?_
 refine pq (qpt bt) ?_
 refine pq (qa bt) ?_
 refine oE (eS (lR ?_))
 obtain rfl := sj h
 exact eF1
 replace h := ifF c3 h
 refine pq (qb (p_leq_fZ c3)) ?_
 refine pq (qpt bf) ?_
 refine pq (qa bf) ?_
 refine oE (eS (lR ?_))
 obtain rfl := sj h
 exact eF1
 replace h := ifF c2 h
 refine pq (qb (p_geq_fZ c2)) ?_
 refine pq (qm bf) ?_
 iterate 2 refine os ?_
 refine pq (qpf bf) ?_
 refine pq (qa bf) ?_
 refine oE (eS (lR ?_))
 obtain rfl := sj h
 exact eF1
noncomputable def csr_size (n1 : Int) : Option (Bool) :=
 (if n1 ≥ 0 then (if n1 ≤ 4096 then some true else some false) else some false)
theorem csr_size_r (m : Nat) {n1 : Int} {out : Bool} (h : csr_size n1 = some out) : RunsP E1 (m + 1) 68 [.one (iT .i64 n1)] (.fresh, [.one (bT out)]) := by
 refine fn_F rfl (by rw [E1_fn]; exact show fiOf Tryd.prog 68 = _ by unfold fiOf; rw [Tryd.func68]; unfold Tryd.f68; rfl) rfl ?_
 dsimp only
 unfold csr_size at h
 refine lS (lO ?_)
 refine pq (qa bf) ?_
 refine oN ?_
 refine pq (qm (iO n1)) ?_
 by_cases c2 : n1 ≥ 0
 replace h := ifT c2 h
 refine pq (qb (p_geq_tZ c2)) ?_
 refine pq (qm bt) ?_
 refine pq (qm (iO n1)) ?_
 by_cases c3 : n1 ≤ 4096
 replace h := ifT c3 h
 refine pq (qb (p_leq_tZ c3)) ?_
 refine pq (qpt bt) ?_
 refine pq (qa bt) ?_
 refine oE (eS (lR ?_))
 obtain rfl := sj h
 exact eF1
 replace h := ifF c3 h
 refine pq (qb (p_leq_fZ c3)) ?_
 refine pq (qpt bf) ?_
 refine pq (qa bf) ?_
 refine oE (eS (lR ?_))
 obtain rfl := sj h
 exact eF1
 replace h := ifF c2 h
 refine pq (qb (p_geq_fZ c2)) ?_
 refine pq (qm bf) ?_
 iterate 2 refine os ?_
 refine pq (qpf bf) ?_
 refine pq (qa bf) ?_
 refine oE (eS (lR ?_))
 obtain rfl := sj h
 exact eF1
noncomputable def csr_rises_b1 (s1 : Sl (Int)) (n2 : Int) (a : Int × Int) : Option ((Int × Int) ⊕ (Unit ⊕ Bool)) :=
 match a with
 | (n17, n18) => (if n18 < ((s1.l.length : Nat) : Int) then ((atS 1 s1 n18).bind fun n22 => (if n22 ≤ n17 then some (.inr (.inr false)) else (if n22 ≥ n2 then some (.inr (.inr false)) else some (.inl (n22, (IntKind.i64.wrap (n18 + 1))))))) else some (.inr (.inl ())))
noncomputable def csr_rises (s1 : Sl (Int)) (n2 : Int) : Option (Bool) :=
 ((loopO (csr_rises_b1 s1 n2) ((-1), 0)).bind (Sum.elim (fun _ => some true) (fun u => some u)))
theorem csr_rises_r (m : Nat) {s1 : Sl (Int)} {n2 : Int} {out : Bool} (h : csr_rises s1 n2 = some out) : RunsP E1 (m + 1) 69 [.one (Sl.t r3 s1), .one (iT .i64 n2)] (.fresh, [.one (bT out)]) := by
 refine fn_F rfl (by rw [E1_fn]; exact show fiOf Tryd.prog 69 = _ by unfold fiOf; rw [Tryd.func69]; unfold Tryd.f69; rfl) rfl ?_
 dsimp only
 unfold csr_rises at h
 refine lS (lO ?_)
 refine pq (qa bf) ?_
 refine oN ?_
 refine pq (qa (iO (-1))) ?_
 refine oE (eS (lS (lS (lO ?_))))
 refine pq (qm (.one (sF r3 s1))) ?_
 refine pq (q_lenS rfl ty30 rfl rfl rfl rfl) ?_
 refine pq (qm (iO 0)) ?_
 refine oE (eS (lB ?_))
 let S1 : (Int × Int) → Unit → (Nat → D) → Nat → D := fun a kt g => ups g [(1, iO n2), (5, .one (iI a.1)), (8, .one (sF r3 s1)), (9, .one (iI ((s1.l.length : Nat) : Int))), (10, .one (iI a.2))]
 let SL1 : (Int × Int) → Unit → BL := fun a kt => ([] : BL)
 let G1 : Bool → Ex → St → Prop := fun u => endQ E1 [.tmp 4] (.fresh, [.one (bT u)])
 let Sx1 : Unit → Unit → (Nat → D) → Nat → D := fun a kt g => ups g []
 let SLx1 : Unit → Unit → BL := fun a kt => ([] : BL)
 let J1 : (Unit ⊕ Bool) → Ex → St → Prop := JX 24 0 Sx1 SLx1 G1
 refine L_loopS (csr_rises_b1 s1 n2) S1 SL1 J1 JX_n ((-1), 0) h () (ups_self ⟨rfl, rfl, rfl, rfl, rfl, trivial⟩) [] (by decide) rfl ?_ ?_
 rintro ⟨n17, n18⟩ _ g out h
 change csr_rises_b1 s1 n2 (n17, n18) = some out at h
 unfold csr_rises_b1 at h
 refine lS (lO ?_)
 by_cases c19 : n18 < ((s1.l.length : Nat) : Int)
 replace h := ifT c19 h
 refine pq (qb (p_lss_tZ c19)) ?_
 refine oE (eS (lS (cT rfl (lK (eS (lS (lB (lS (lO ?_)))))))))
 obtain ⟨n22, h21, h⟩ := bindS h
 obtain ⟨h21a, h21b, h21⟩ := atS_some h21
 refine pq (q_ixS rfl rfl h21a h21 (el30.trans (congrArg some h21b.symm))) ?_
 refine pq (q_loadI (v := iO n22) rfl sz3 (map_get h21) rfl rfl) ?_
 refine pq (qa (iO n22)) ?_
 refine oE (eS (lS (lS (lO ?_))))
 refine pq (qm (iO n22)) ?_
 refine pq (qm (iO n17)) ?_
 by_cases c23 : n22 ≤ n17
 replace h := ifT c23 h
 refine pq (qb (p_leq_tZ c23)) ?_
 refine pq (qm bt) ?_
 iterate 3 refine os ?_
 refine pq (qpt bt) ?_
 refine oE (eS (cT rfl (lS (lO ?_))))
 refine pq (qa bf) ?_
 refine oE (eS (lR (eR (bR (eR ?_)))))
 obtain rfl := sj h
 exact E_out (E_up (eF1))
 replace h := ifF c23 h
 refine pq (qb (p_leq_fZ c23)) ?_
 refine pq (qm bf) ?_
 refine pq (qm (iO n22)) ?_
 refine pq (qm (iO n2)) ?_
 by_cases c24 : n22 ≥ n2
 replace h := ifT c24 h
 refine pq (qb (p_geq_tZ c24)) ?_
 refine pq (qpf bt) ?_
 refine oE (eS (cT rfl (lS (lO ?_))))
 refine pq (qa bf) ?_
 refine oE (eS (lR (eR (bR (eR ?_)))))
 obtain rfl := sj h
 exact E_out (E_up (eF1))
 replace h := ifF c24 h
 refine pq (qb (p_geq_fZ c24)) ?_
 refine pq (qpf bf) ?_
 refine oE (eS (cF rfl (lK (eS (lO ?_)))))
 refine pq (qm (iO n22)) ?_
 refine pq (qa (iO n22)) ?_
 refine oE (bN (eS (lO ?_)))
 refine pq (qb p_addY) ?_
 refine pq (qm (iO (IntKind.i64.wrap (n18 + 1)))) ?_
 refine oE ?_
 obtain rfl := sj h
 exact E_next () (ups_self ⟨rfl, rfl, rfl, rfl, rfl, trivial⟩) [] (by decide) rfl
 replace h := ifF c19 h
 refine pq (qb (p_lss_fZ c19)) ?_
 refine oE (eS (lS (cF rfl (L_exit ?_))))
 refine E_seqX ?_
 obtain rfl := sj h
 refine E_out ?_
 exact (E_exit () (ups_self trivial) [] (by decide) rfl)
 rintro (_ | u) h
 refine J_x (fun kt g => ?_)
 replace h := elimL h
 refine bH (eS (lS (lO ?_)))
 refine pq (qa bt) ?_
 refine oE (eS (lR ?_))
 obtain rfl := sj h
 exact eF1
 obtain rfl := Option.some.inj (elimR h)
 exact J_up (fun s hs => hs)
noncomputable def csr_Right_b1 (n1 : Int) (n2 : Int) (s3 : Sl (Int)) (s4 : Sl (Int)) (n49 : Int) : Option (Int ⊕ (Unit ⊕ Bool)) :=
 (if n49 < n1 then ((atS 1 s3 n49).bind fun n53 => ((atS 1 s3 (IntKind.i64.wrap (n49 + 1))).bind fun n56 => (if n56 < n53 then some (.inr (.inr false)) else (if n56 > ((s4.l.length : Nat) : Int) then some (.inr (.inr false)) else ((cutS 1 s4 n53 n56).bind fun s59 => ((csr_rises s59 n2).bind fun b62 => (if b62 = true then some (.inl (IntKind.i64.wrap (n49 + 1))) else some (.inr (.inr false))))))))) else some (.inr (.inl ())))
noncomputable def csr_Right (a0 : Int × Int × Sl (Int) × Sl (Int) × Sl (Int)) : Option (Bool) :=
 match a0 with
 | (n1, n2, s3, s4, s5) => ((csr_size n1).bind fun b8 => (if b8 = true then ((csr_size n2).bind fun b10 => (if b10 = true then (if ((s3.l.length : Nat) : Int) ≠ (IntKind.i64.wrap (n1 + 1)) then some false else ((atS 1 s3 0).bind fun n14 => (if n14 ≠ 0 then some false else (if ((s5.l.length : Nat) : Int) ≠ ((s4.l.length : Nat) : Int) then some false else (if ((s4.l.length : Nat) : Int) > 65536 then some false else ((atS 1 s3 n1).bind fun n20 => (if n20 ≠ ((s4.l.length : Nat) : Int) then some false else ((loopO (csr_Right_b1 n1 n2 s3 s4) 0).bind (Sum.elim (fun _ => some true) (fun u => some u)))))))))) else some false)) else some false))
theorem csr_Right_r (m : Nat) {a0 : Int × Int × Sl (Int) × Sl (Int) × Sl (Int)} {out : Bool} (h : csr_Right a0 = some out) : RunsP E1 (m + 2) 53 [.agg (r32 a0)] (.fresh, [.one (bT out)]) := by
 obtain ⟨n1, n2, s3, s4, s5⟩ := a0
 refine fn_F rfl (by rw [E1_fn]; exact show fiOf Tryd.prog 53 = _ by unfold fiOf; rw [Tryd.func53]; unfold Tryd.f53; rfl) rfl ?_
 dsimp only
 unfold csr_Right at h
 refine lS (lO ?_)
 refine ol_new rfl rfl rfl (q_box ty33 rfl (cs := [iI n1, iI n2, sF r3 s3, sF r3 s4, sF r2 s5]) rfl rfl) (fun k6 => ?_)
 refine pq (qa bf) ?_
 refine oE (eS (lS (lS (lO ?_))))
 refine pq (q_fieldP rfl fa33_0 rfl) ?_
 refine pq (ql (iO n1) 0 sz3) ?_
 obtain ⟨b8, h7, h⟩ := bindS h
 refine pq (qc (bO b8) [iO n1] (csr_size_r (m + 0) h7) (vw_cons (vd_one vc_v) vw_nil)) ?_
 rcases b8 with _ | _
 replace h := wF h
 refine pq (q_not rfl) ?_
 refine pq (qm bt) ?_
 iterate 4 refine os ?_
 refine pq (qpt bt) ?_
 refine pq (qm bt) ?_
 iterate 7 refine os ?_
 refine pq (qpt bt) ?_
 refine pq (qm bt) ?_
 iterate 5 refine os ?_
 refine pq (qpt bt) ?_
 refine oE (eS (cT rfl (lS (lO ?_))))
 refine pq (qa bf) ?_
 refine oE (eS (lR (eR ?_)))
 obtain rfl := sj h
 exact eF1
 replace h := wT h
 refine pq (q_not rfl) ?_
 refine pq (qm bf) ?_
 refine pq (q_fieldP rfl fa33_1 rfl) ?_
 refine pq (ql (iO n2) 0 sz3) ?_
 obtain ⟨b10, h9, h⟩ := bindS h
 refine pq (qc (bO b10) [iO n2] (csr_size_r (m + 0) h9) (vw_cons (vd_one vc_v) vw_nil)) ?_
 rcases b10 with _ | _
 replace h := wF h
 refine pq (q_not rfl) ?_
 refine pq (qpf bt) ?_
 refine pq (qm bt) ?_
 iterate 7 refine os ?_
 refine pq (qpt bt) ?_
 refine pq (qm bt) ?_
 iterate 5 refine os ?_
 refine pq (qpt bt) ?_
 refine oE (eS (cT rfl (lS (lO ?_))))
 refine pq (qa bf) ?_
 refine oE (eS (lR (eR ?_)))
 obtain rfl := sj h
 exact eF1
 replace h := wT h
 refine pq (q_not rfl) ?_
 refine pq (qpf bf) ?_
 refine pq (qm bf) ?_
 refine pq (q_fieldP rfl fa33_2 rfl) ?_
 refine pq (ql (.one (sF r3 s3)) 0 sz30) ?_
 refine pq (q_lenS rfl ty30 rfl rfl rfl rfl) ?_
 refine pq (q_fieldP rfl fa33_0 rfl) ?_
 refine pq (ql (iO n1) 0 sz3) ?_
 refine pq (qb p_addY) ?_
 by_cases c11 : ((s3.l.length : Nat) : Int) ≠ (IntKind.i64.wrap (n1 + 1))
 replace h := ifT c11 h
 refine pq (qb (p_neq_tZ c11)) ?_
 refine pq (qpf bt) ?_
 refine pq (qm bt) ?_
 iterate 5 refine os ?_
 refine pq (qpt bt) ?_
 refine oE (eS (cT rfl (lS (lO ?_))))
 refine pq (qa bf) ?_
 refine oE (eS (lR (eR ?_)))
 obtain rfl := sj h
 exact eF1
 replace h := ifF c11 h
 refine pq (qb (p_neq_fZ c11)) ?_
 refine pq (qpf bf) ?_
 refine pq (qm bf) ?_
 refine pq (q_fieldP rfl fa33_2 rfl) ?_
 refine pq (ql (.one (sF r3 s3)) 0 sz30) ?_
 obtain ⟨n14, h13, h⟩ := bindS h
 obtain ⟨h13a, h13b, h13⟩ := atS_some h13
 refine pq (q_ixS rfl rfl h13a h13 (el30.trans (congrArg some h13b.symm))) ?_
 refine pq (q_loadI (v := iO n14) rfl sz3 (map_get h13) rfl rfl) ?_
 by_cases c15 : n14 ≠ 0
 replace h := ifT c15 h
 refine pq (qb (p_neq_tZ c15)) ?_
 refine pq (qpf bt) ?_
 refine oE (eS (cT rfl (lS (lO ?_))))
 refine pq (qa bf) ?_
 refine oE (eS (lR (eR ?_)))
 obtain rfl := sj h
 exact eF1
 replace h := ifF c15 h
 refine pq (qb (p_neq_fZ c15)) ?_
 refine pq (qpf bf) ?_
 refine oE (eS (cF rfl (lK (eS (lS (lO ?_))))))
 refine pq (q_fieldP rfl fa33_3 rfl) ?_
 refine pq (ql (.one (sF r3 s4)) 0 sz30) ?_
 refine pq (q_lenS rfl ty30 rfl rfl rfl rfl) ?_
 refine pq (qa (iO ((s4.l.length : Nat) : Int))) ?_
 refine oE (eS (lS (lS (lO ?_))))
 refine pq (q_fieldP rfl fa33_4 rfl) ?_
 refine pq (ql (.one (sF r2 s5)) 0 sz31) ?_
 refine pq (q_lenS rfl ty31 rfl rfl rfl rfl) ?_
 refine pq (qm (iO ((s4.l.length : Nat) : Int))) ?_
 by_cases c16 : ((s5.l.length : Nat) : Int) ≠ ((s4.l.length : Nat) : Int)
 replace h := ifT c16 h
 refine pq (qb (p_neq_tZ c16)) ?_
 refine pq (qm bt) ?_
 iterate 2 refine os ?_
 refine pq (qpt bt) ?_
 refine pq (qm bt) ?_
 iterate 8 refine os ?_
 refine pq (qpt bt) ?_
 refine oE (eS (cT rfl (lS (lO ?_))))
 refine pq (qa bf) ?_
 refine oE (eS (lR (eR ?_)))
 obtain rfl := sj h
 exact eF1
 replace h := ifF c16 h
 refine pq (qb (p_neq_fZ c16)) ?_
 refine pq (qm bf) ?_
 refine pq (qm (iO ((s4.l.length : Nat) : Int))) ?_
 by_cases c17 : ((s4.l.length : Nat) : Int) > 65536
 replace h := ifT c17 h
 refine pq (qb (p_gtr_tZ c17)) ?_
 refine pq (qpf bt) ?_
 refine pq (qm bt) ?_
 iterate 8 refine os ?_
 refine pq (qpt bt) ?_
 refine oE (eS (cT rfl (lS (lO ?_))))
 refine pq (qa bf) ?_
 refine oE (eS (lR (eR ?_)))
 obtain rfl := sj h
 exact eF1
 replace h := ifF c17 h
 refine pq (qb (p_gtr_fZ c17)) ?_
 refine pq (qpf bf) ?_
 refine pq (qm bf) ?_
 refine pq (q_fieldP rfl fa33_2 rfl) ?_
 refine pq (ql (.one (sF r3 s3)) 0 sz30) ?_
 refine pq (q_fieldP rfl fa33_0 rfl) ?_
 refine pq (ql (iO n1) 0 sz3) ?_
 obtain ⟨n20, h19, h⟩ := bindS h
 obtain ⟨h19a, h19b, h19⟩ := atS_some h19
 refine pq (q_ixS rfl rfl h19a h19 (el30.trans (congrArg some h19b.symm))) ?_
 refine pq (q_loadI (v := iO n20) rfl sz3 (map_get h19) rfl rfl) ?_
 refine pq (qm (iO ((s4.l.length : Nat) : Int))) ?_
 by_cases c21 : n20 ≠ ((s4.l.length : Nat) : Int)
 replace h := ifT c21 h
 refine pq (qb (p_neq_tZ c21)) ?_
 refine pq (qpf bt) ?_
 refine oE (eS (cT rfl (lS (lO ?_))))
 refine pq (qa bf) ?_
 refine oE (eS (lR (eR ?_)))
 obtain rfl := sj h
 exact eF1
 replace h := ifF c21 h
 refine pq (qb (p_neq_fZ c21)) ?_
 refine pq (qpf bf) ?_
 refine oE (eS (cF rfl (lK (eS (lS (lS (lO ?_)))))))
 refine pq (q_fieldP rfl fa33_0 rfl) ?_
 refine pq (ql (iO n1) 0 sz3) ?_
 refine pq (qm (iO 0)) ?_
 refine oE (eS (lB ?_))
 let S1 : Int → Unit → (Nat → D) → Nat → D := fun a kt g => ups g [(1, .one (.ptr k6 0 0)), (3, .one (iI ((s4.l.length : Nat) : Int))), (56, iO n1), (57, iO a)]
 let SL1 : Int → Unit → BL := fun a kt => ([[(k6, 5, [[iI n1, iI n2, sF r3 s3, sF r3 s4, sF r2 s5]])]] : BL)
 let G1 : Bool → Ex → St → Prop := fun u => endQ E1 [.tmp 2] (.fresh, [.one (bT u)])
 let Sx1 : Unit → Unit → (Nat → D) → Nat → D := fun a kt g => ups g []
 let SLx1 : Unit → Unit → BL := fun a kt => ([] : BL)
 let J1 : (Unit ⊕ Bool) → Ex → St → Prop := JX 91 0 Sx1 SLx1 G1
 refine L_loopS (csr_Right_b1 n1 n2 s3 s4) S1 SL1 J1 JX_n 0 h () (ups_self ⟨rfl, rfl, rfl, rfl, trivial⟩) [0] (by decide) rfl ?_ ?_
 rintro n49 _ g out h
 change csr_Right_b1 n1 n2 s3 s4 n49 = some out at h
 unfold csr_Right_b1 at h
 refine lS (lO ?_)
 by_cases c50 : n49 < n1
 replace h := ifT c50 h
 refine pq (qb (p_lss_tZ c50)) ?_
 refine oE (eS (lS (cT rfl (lK (eS (lS (lB (lS (lO ?_)))))))))
 refine pq (qm (iO n49)) ?_
 refine pq (qa (iO n49)) ?_
 refine oE (eS (lS ?_))
 refine L_still (by kernel_rfl) ?_
 refine sq (q_fieldP rfl fa33_2 rfl) ?_
 refine sq (ql (.one (sF r3 s3)) 0 sz30) ?_
 refine sq (qm (iO n49)) ?_
 obtain ⟨n53, h52, h⟩ := bindS h
 obtain ⟨h52a, h52b, h52⟩ := atS_some h52
 refine sq (q_ixS rfl rfl h52a h52 (el30.trans (congrArg some h52b.symm))) ?_
 refine sq (q_loadI (v := iO n53) rfl sz3 (map_get h52) rfl rfl) ?_
 refine sq (q_fieldP rfl fa33_2 rfl) ?_
 refine sq (ql (.one (sF r3 s3)) 0 sz30) ?_
 refine sq (qm (iO n49)) ?_
 refine sq (qb p_addY) ?_
 obtain ⟨n56, h55, h⟩ := bindS h
 obtain ⟨h55a, h55b, h55⟩ := atS_some h55
 refine sq (q_ixS rfl rfl h55a h55 (el30.trans (congrArg some h55b.symm))) ?_
 refine sq (q_loadI (v := iO n56) rfl sz3 (map_get h55) rfl rfl) ?_
 refine sq (qa (iO n53)) ?_
 refine sq (qa (iO n56)) ?_
 refine st_end (eS (lS ?_))
 refine L_still (by kernel_rfl) ?_
 refine sq (qm (iO n56)) ?_
 refine sq (qm (iO n53)) ?_
 by_cases c57 : n56 < n53
 replace h := ifT c57 h
 refine sq (qb (p_lss_tZ c57)) ?_
 refine sq (qm bt) ?_
 iterate 3 refine ss ?_
 refine sq (qpt bt) ?_
 refine sq (qm bt) ?_
 iterate 9 refine ss ?_
 refine sq (qpt bt) ?_
 refine st_end (eS (cT rfl (lS (lO ?_))))
 refine pq (qa bf) ?_
 refine oE (eS (lR (bR (eR ?_))))
 obtain rfl := sj h
 exact E_out (E_up (eF1))
 replace h := ifF c57 h
 refine sq (qb (p_lss_fZ c57)) ?_
 refine sq (qm bf) ?_
 refine sq (qm (iO n56)) ?_
 refine sq (qm (iO ((s4.l.length : Nat) : Int))) ?_
 by_cases c58 : n56 > ((s4.l.length : Nat) : Int)
 replace h := ifT c58 h
 refine sq (qb (p_gtr_tZ c58)) ?_
 refine sq (qpf bt) ?_
 refine sq (qm bt) ?_
 iterate 9 refine ss ?_
 refine sq (qpt bt) ?_
 refine st_end (eS (cT rfl (lS (lO ?_))))
 refine pq (qa bf) ?_
 refine oE (eS (lR (bR (eR ?_))))
 obtain rfl := sj h
 exact E_out (E_up (eF1))
 replace h := ifF c58 h
 refine sq (qb (p_gtr_fZ c58)) ?_
 refine sq (qpf bf) ?_
 refine sq (qm bf) ?_
 refine sq (q_fieldP rfl fa33_3 rfl) ?_
 refine sq (ql (.one (sF r3 s4)) 0 sz30) ?_
 refine sq (qm (iO n53)) ?_
 refine sq (qm (iO n56)) ?_
 obtain ⟨s59, h60, h⟩ := bindS h
 refine sq (q_sliceS (r := r3) h60 rfl ty30 rfl ty3 (no_some rfl (cutS_some h60).1.1 _) (no_some rfl (Int.le_trans (cutS_some h60).1.1 (cutS_some h60).1.2.1) _)) ?_
 refine sq (q_fieldP rfl fa33_1 rfl) ?_
 refine sq (ql (iO n2) 0 sz3) ?_
 obtain ⟨b62, h61, h⟩ := bindS h
 refine sq (qc (bO b62) [.one (sF r3 s59), iO n2] (csr_rises_r (m + 0) h61) (vw_cons (vd_one vc_s) (vw_cons (vd_one vc_v) vw_nil))) ?_
 rcases b62 with _ | _
 replace h := wF h
 refine sq (q_not rfl) ?_
 refine sq (qpf bt) ?_
 refine st_end (eS (cT rfl (lS (lO ?_))))
 refine pq (qa bf) ?_
 refine oE (eS (lR (bR (eR ?_))))
 obtain rfl := sj h
 exact E_out (E_up (eF1))
 replace h := wT h
 refine sq (q_not rfl) ?_
 refine sq (qpf bf) ?_
 refine st_end (eS (cF rfl (lK (bN (eS (lO ?_))))))
 refine pq (qb p_addY) ?_
 refine pq (qm (iO (IntKind.i64.wrap (n49 + 1)))) ?_
 refine oE ?_
 obtain rfl := sj h
 exact E_next () (ups_self ⟨rfl, rfl, rfl, rfl, trivial⟩) [0] (by decide) rfl
 replace h := ifF c50 h
 refine pq (qb (p_lss_fZ c50)) ?_
 refine oE (eS (lS (cF rfl (L_exit ?_))))
 refine E_seqX ?_
 obtain rfl := sj h
 refine E_out ?_
 exact (E_exit () (ups_self trivial) [] (by decide) rfl)
 rintro (_ | u) h
 refine J_x (fun kt g => ?_)
 replace h := elimL h
 refine bH (eS (lS (lO ?_)))
 refine pq (qa bt) ?_
 refine oE (eS (lR ?_))
 obtain rfl := sj h
 exact eF1
 obtain rfl := Option.some.inj (elimR h)
 exact J_up (fun s hs => hs)
noncomputable def pull_sure (a0 : Int × Int × Sl (Int) × Sl (Int) × Sl (Int)) : Option ((Int × Int × Sl (Int) × Sl (Int) × Sl (Int))) :=
 match a0 with
 | (n1, n2, s3, s4, s5) => ((csr_Right (n1, n2, s3, s4, s5)).bind fun b9 => (if b9 = true then some (n1, n2, s3, s4, s5) else some (0, 0, (⟨true, 1, ([0] : List (Int))⟩ : Sl (Int)), (⟨false, 0, []⟩ : Sl (Int)), (⟨false, 0, []⟩ : Sl (Int)))))
theorem pull_sure_r (m : Nat) {a0 : Int × Int × Sl (Int) × Sl (Int) × Sl (Int)} {out : (Int × Int × Sl (Int) × Sl (Int) × Sl (Int))} (h : pull_sure a0 = some out) : RunsX E1 (m + 3) 29 [.agg (r32 a0)] [.agg (r32 out)] := by
 obtain ⟨n1, n2, s3, s4, s5⟩ := a0
 refine fn_X rfl (by rw [E1_fn]; exact show fiOf Tryd.prog 29 = _ by unfold fiOf; rw [Tryd.func29]; unfold Tryd.f29; rfl) rfl ?_
 dsimp only
 unfold pull_sure at h
 refine lS (lO ?_)
 refine ol_new rfl rfl rfl (q_box ty33 rfl (cs := [iI n1, iI n2, sF r3 s3, sF r3 s4, sF r2 s5]) rfl rfl) (fun k6 => ?_)
 refine ol_new rfl rfl rfl (q_alloc ty33 (row := [iI 0, iI 0, nC, nC, nC]) rfl rfl) (fun k7 => ?_)
 refine oE (eS (lS (lS (lO ?_))))
 refine pq (ql (.agg [iI n1, iI n2, sF r3 s3, sF r3 s4, sF r2 s5]) 1 sz33) ?_
 obtain ⟨b9, h8, h⟩ := bindS h
 refine pq (qc (bO b9) [.agg [iI n1, iI n2, sF r3 s3, sF r3 s4, sF r2 s5]] (csr_Right_r (m + 0) h8) (vw_cons (vd_agg (vc_cons vc_v (vc_cons vc_v (vc_cons vc_s (vc_cons vc_s (vc_cons vc_s vc_nil)))))) vw_nil)) ?_
 refine oE (eS ?_)
 rcases b9 with _ | _
 replace h := wF h
 refine cF rfl (lK (eS (lS (lO ?_))))
 refine ol_new rfl rfl rfl (q_bslice (cs := [iI 0]) (es := (([0] : List (Int))).map (rowC r3)) ty30 rfl ty3 rfl rfl rfl rfl rfl) (fun k10 => ?_)
 refine pq (q_build (cs := [iI 0, iI 0, .own k10 0 (([0] : List (Int))).length, nC, nC]) ty33 rfl pl33 rfl) ?_
 refine ow [[iI 0, iI 0, .own k10 0 (([0] : List (Int))).length, nC, nC]] 1 sz33 ?_
 refine oE (eS (lR ?_))
 obtain rfl := sj h
 exact E_endX (.inr rfl) (res_cell (d := .agg [iI 0, iI 0, .own k10 0 (([0] : List (Int))).length, nC, nC]) 1 rfl sz33 rfl rfl rfl rfl res_nil) (vw_cons (vd_agg (vc_cons vc_v (vc_cons vc_v (vc_cons (vc_own (r := r3) 0 rfl (fun x h m => rfl)) (vc_cons vc_s (vc_cons vc_s vc_nil)))))) vw_nil) oG rfl
 replace h := wT h
 refine cT rfl (lS (lO ?_))
 refine pq (ql (.agg [iI n1, iI n2, sF r3 s3, sF r3 s4, sF r2 s5]) 1 sz33) ?_
 refine ow [[iI n1, iI n2, sF r3 s3, sF r3 s4, sF r2 s5]] 0 sz33 ?_
 refine oE (eS (lR (eR ?_)))
 obtain rfl := sj h
 exact E_endX (.inr rfl) (res_cell (d := .agg [iI n1, iI n2, sF r3 s3, sF r3 s4, sF r2 s5]) 0 rfl sz33 rfl rfl rfl rfl res_nil) (vw_cons (vd_agg (vc_cons vc_v (vc_cons vc_v (vc_cons vc_s (vc_cons vc_s (vc_cons vc_s vc_nil)))))) vw_nil) oG rfl
noncomputable def flags_words (n1 : Int) : Option (Int) :=
 ((divO .i64 (IntKind.i64.wrap ((minI (maxI n1 0) 4096) + 63)) 64).bind fun n2 => some n2)
theorem flags_words_r (m : Nat) {n1 : Int} {out : Int} (h : flags_words n1 = some out) : RunsP E1 (m + 1) 73 [.one (iT .i64 n1)] (.fresh, [.one (iT .i64 out)]) := by
 refine fn_F rfl (by rw [E1_fn]; exact show fiOf Tryd.prog 73 = _ by unfold fiOf; rw [Tryd.func73]; unfold Tryd.f73; rfl) rfl ?_
 dsimp only
 unfold flags_words at h
 refine lS (lO ?_)
 refine pq (qa (iO 0)) ?_
 refine oN ?_
 refine pq (qm (iO n1)) ?_
 refine pq ((q_minmax rfl rfl ty3 rfl rfl).2 rfl) ?_
 refine pq ((q_minmax rfl rfl ty3 rfl rfl).1 rfl) ?_
 refine pq (qb p_addY) ?_
 obtain ⟨n2, h3, h⟩ := bindS h
 refine pq (q_bin rfl rfl (divO_p h3) rfl) ?_
 refine pq (qa (iO n2)) ?_
 refine oE (eS (lR ?_))
 obtain rfl := sj h
 exact eF1
noncomputable def flags_within (s1 : Sl (Int)) (n2 : Int) : Option (Bool) :=
 (if n2 ≥ 0 then ((divO .i64 n2 64).bind fun n4 => (if n4 < ((s1.l.length : Nat) : Int) then some true else some false)) else some false)
theorem flags_within_r (m : Nat) {s1 : Sl (Int)} {n2 : Int} {out : Bool} (h : flags_within s1 n2 = some out) : RunsP E1 (m + 1) 59 [.one (Sl.t r62 s1), .one (iT .i64 n2)] (.fresh, [.one (bT out)]) := by
 refine fn_F rfl (by rw [E1_fn]; exact show fiOf Tryd.prog 59 = _ by unfold fiOf; rw [Tryd.func59]; unfold Tryd.f59; rfl) rfl ?_
 dsimp only
 unfold flags_within at h
 refine lS (lO ?_)
 refine pq (qa bf) ?_
 refine oN ?_
 refine pq (qm (iO n2)) ?_
 by_cases c3 : n2 ≥ 0
 replace h := ifT c3 h
 refine pq (qb (p_geq_tZ c3)) ?_
 refine pq (qm bt) ?_
 refine pq (qm (iO n2)) ?_
 obtain ⟨n4, h5, h⟩ := bindS h
 refine pq (q_bin rfl rfl (divO_p h5) rfl) ?_
 refine pq (qm (.one (sF r62 s1))) ?_
 refine pq (q_lenS rfl ty26 rfl rfl rfl rfl) ?_
 by_cases c6 : n4 < ((s1.l.length : Nat) : Int)
 replace h := ifT c6 h
 refine pq (qb (p_lss_tZ c6)) ?_
 refine pq (qpt bt) ?_
 refine pq (qa bt) ?_
 refine oE (eS (lR ?_))
 obtain rfl := sj h
 exact eF1
 replace h := ifF c6 h
 refine pq (qb (p_lss_fZ c6)) ?_
 refine pq (qpt bf) ?_
 refine pq (qa bf) ?_
 refine oE (eS (lR ?_))
 obtain rfl := sj h
 exact eF1
 replace h := ifF c3 h
 refine pq (qb (p_geq_fZ c3)) ?_
 refine pq (qm bf) ?_
 iterate 5 refine os ?_
 refine pq (qpf bf) ?_
 refine pq (qa bf) ?_
 refine oE (eS (lR ?_))
 obtain rfl := sj h
 exact eF1
noncomputable def flags_Next_b2 (n6 : Int) (n46 : Int) (n50 : Int) (_a : Unit) : Option (Unit ⊕ (Int ⊕ (Unit ⊕ Empty))) :=
 (if n50 ≠ 0 then ((TZ n50).bind fun n56 => some (.inr (.inl (IntKind.i64.wrap ((IntKind.i64.wrap ((IntKind.i64.wrap (n6 + 1)) * 64)) + (IntKind.i64.wrap ((IntKind.i64.wrap (n46 * 64)) + n56))))))) else some (.inr (.inr (.inl ()))))
noncomputable def flags_Next_b1 (n6 : Int) (s19 : Sl (Int)) (n46 : Int) : Option (Int ⊕ (Int ⊕ (Unit ⊕ Empty))) :=
 (if n46 < ((s19.l.length : Nat) : Int) then ((atS 1 s19 n46).bind fun n50 => ((loopO (flags_Next_b2 n6 n46 n50) ()).bind ((Sum.elim (fun n57 => some (.inr (.inl n57))) (Sum.elim (fun _ => some (.inl (IntKind.i64.wrap (n46 + 1)))) (fun u => u.elim)))))) else some (.inr (.inr (.inl ()))))
noncomputable def flags_Next (s1 : Sl (Int)) (n2 : Int) : Option (Int) :=
 ((flags_within s1 (maxI n2 0)).bind fun b5 => (if b5 = true then ((divO .i64 (maxI n2 0) 64).bind fun n6 => ((atS 1 s1 n6).bind fun n10 => ((modO (maxI n2 0) 64).bind fun n11 => ((shr1 .u64 n10 (IntKind.u64.wrap n11)).bind fun n13 => (if n13 ≠ 0 then ((TZ n13).bind fun n17 => some (IntKind.i64.wrap ((maxI n2 0) + n17))) else ((cutS 1 s1 (IntKind.i64.wrap (n6 + 1)) ((s1.l.length : Nat) : Int)).bind fun s19 => ((loopO (flags_Next_b1 n6 s19) 0).bind ((Sum.elim (fun n58 => some n58) (Sum.elim (fun _ => some (-1)) (fun u => u.elim))))))))))) else some (-1)))
theorem flags_Next_r (m : Nat) {s1 : Sl (Int)} {n2 : Int} {out : Int} (h : flags_Next s1 n2 = some out) : RunsP E1 (m + 3) 74 [.one (Sl.t r62 s1), .one (iT .i64 n2)] (.fresh, [.one (iT .i64 out)]) := by
 refine fn_F rfl (by rw [E1_fn]; exact show fiOf Tryd.prog 74 = _ by unfold fiOf; rw [Tryd.func74]; unfold Tryd.f74; rfl) rfl ?_
 dsimp only
 unfold flags_Next at h
 refine lS (lO ?_)
 refine ol_new rfl rfl rfl (q_alloc ty3 (row := [iI 0]) rfl rfl) (fun k3 => ?_)
 refine oN ?_
 refine pq (qm (iO n2)) ?_
 refine pq ((q_minmax rfl rfl ty3 rfl rfl).2 rfl) ?_
 refine pq (qa (iO (maxI n2 0))) ?_
 refine oE (eS (lS (lS (lO ?_))))
 refine pq (qm (.one (sF r62 s1))) ?_
 refine pq (qm (iO (maxI n2 0))) ?_
 obtain ⟨b5, h4, h⟩ := bindS h
 refine pq (qc (bO b5) [.one (sF r62 s1), .one (iI (maxI n2 0))] (flags_within_r (m + 1) h4) (vw_cons (vd_one vc_s) (vw_cons (vd_one vc_v) vw_nil))) ?_
 rcases b5 with _ | _
 replace h := wF h
 refine pq (q_not rfl) ?_
 refine oE (eS (cT rfl (lS (lO ?_))))
 refine ow [[iI (-1)]] 0 sz3 ?_
 refine oE (eS (lR (eR ?_)))
 obtain rfl := sj h
 exact E_endF (.inr rfl) (res_cell (d := .one (iI (-1))) 0 rfl sz3 rfl rfl rfl rfl res_nil) (vw_cons (vd_one vc_v) vw_nil) oP rfl rfl
 replace h := wT h
 refine pq (q_not rfl) ?_
 refine oE (eS (cF rfl (lK (eS (lS (lS (lO ?_)))))))
 refine pq (qm (.one (sF r62 s1))) ?_
 refine pq (qm (iO (maxI n2 0))) ?_
 obtain ⟨n6, h7, h⟩ := bindS h
 refine pq (q_bin rfl rfl (divO_p h7) rfl) ?_
 obtain ⟨n10, h9, h⟩ := bindS h
 obtain ⟨h9a, h9b, h9⟩ := atS_some h9
 refine pq (q_ixS rfl rfl h9a h9 (el26.trans (congrArg some h9b.symm))) ?_
 refine pq (q_loadI (v := .one (uI n10)) rfl sz62 (map_get h9) rfl rfl) ?_
 refine pq (qm (iO (maxI n2 0))) ?_
 obtain ⟨n11, h12, h⟩ := bindS h
 refine pq (q_bin rfl rfl (modO_p h12) rfl) ?_
 refine pq (q_conv rfl (cv3_117_i64 _) rfl) ?_
 obtain ⟨n13, h14, h⟩ := bindS h
 refine pq (q_bin rfl rfl (p_shr h14) rfl) ?_
 refine pq (qa (.one (uI n13))) ?_
 refine oN ?_
 refine pq (qm (.one (uI n13))) ?_
 by_cases c15 : n13 ≠ 0
 replace h := ifT c15 h
 refine pq (qb (p_neq_tZ c15)) ?_
 refine oE (eS (cT rfl (lS (lO ?_))))
 refine pq (qm (iO (maxI n2 0))) ?_
 refine pq (qm (.one (uI n13))) ?_
 obtain ⟨n17, h16, h⟩ := bindS h
 refine pq (qc (iO n17) [.one (uI n13)] (TZ_r (m + 1) h16) (vw_cons (vd_one vc_v) vw_nil)) ?_
 refine pq (qb p_addY) ?_
 refine ow [[iI (IntKind.i64.wrap ((maxI n2 0) + n17))]] 0 sz3 ?_
 refine oE (eS (lR (eR ?_)))
 obtain rfl := sj h
 exact E_endF (.inr rfl) (res_cell (d := .one (iI (IntKind.i64.wrap ((maxI n2 0) + n17)))) 0 rfl sz3 rfl rfl rfl rfl res_nil) (vw_cons (vd_one vc_v) vw_nil) oP rfl rfl
 replace h := ifF c15 h
 refine pq (qb (p_neq_fZ c15)) ?_
 refine oE (eS (cF rfl (lK (eS (lS (lO ?_))))))
 refine pq (qm (iO (maxI n2 0))) ?_
 refine pq (q_bin rfl rfl (divO_p h7) rfl) ?_
 refine pq (qb p_addY) ?_
 refine ol_new rfl rfl rfl (q_alloc ty3 (row := [iI 0]) rfl rfl) (fun k18 => ?_)
 refine ow [[iI (IntKind.i64.wrap (n6 + 1))]] 0 sz3 ?_
 refine oE (eS (lS (lS (lO ?_))))
 refine pq (qm (.one (sF r62 s1))) ?_
 refine pq (ql (iO (IntKind.i64.wrap (n6 + 1))) 0 sz3) ?_
 obtain ⟨s19, h20, h⟩ := bindS h
 refine pq (q_sliceS (r := r62) h20 rfl ty26 rfl ty62 (no_some rfl (cutS_some h20).1.1 _) (no_none _)) ?_
 refine ol_scallN (args := [.one (sF r62 s19)]) rfl rfl rfl ax79 (by rw [E1_fn]; exact show fiOf Tryd.prog 79 = _ by unfold fiOf; rw [Tryd.func79]; unfold Tryd.f79; rfl) rfl rfl rfl ?_
 dsimp only
 refine lS (lO ?_)
 refine ol_new rfl rfl rfl (q_box ty26 rfl (cs := [sF r62 s19]) rfl rfl) (fun k21 => ?_)
 refine pq (qa (.one (.p true (.v .nilFunc)))) ?_
 refine oN ?_
 refine pq (q_mkfun rfl rfl) ?_
 refine pq (qa (.one (.clo (.func 80) [] [.ptr k21 0 0]))) ?_
 refine oE (eS (lR ?_))
 refine E_call (v := .one (.clo (.func 80) [] [.ptr k21 0 0])) (.inr rfl) (res_tmp (d := .one (.clo (.func 80) [] [.ptr k21 0 0])) rfl res_nil) rfl ?_
 refine oE (eS (lB ?_))
 refine L_range rfl (by rw [E1_fn]; exact show fiOf Tryd.prog 80 = _ by unfold fiOf; rw [Tryd.func80]; unfold Tryd.f80; rfl) rfl rfl (fun k22 => ?_)
 dsimp only
 refine lS (lO ?_)
 refine pq (ql (.one (sF r62 s19)) 1 sz26) ?_
 refine pq (q_lenS rfl ty26 rfl rfl rfl rfl) ?_
 refine pq (qm (iO 0)) ?_
 refine oE (eS (lB ?_))
 let S1 : Int → Unit → (Nat → D) → Nat → D := fun a kt g => ups g [(0, .one (.yld k22)), (5, .one (sF r62 s19)), (6, .one (iI ((s19.l.length : Nat) : Int))), (7, iO a)]
 let SL1 : Int → Unit → BL := fun a kt => ([[(k22, 0, [])], [(k3, 1, [[iI 0]])], [(k18, 1, [[iI (IntKind.i64.wrap (n6 + 1))]])]] : BL)
 let G1 : Empty → Ex → St → Prop := fun u => u.elim
 let Sx1_1 : Unit → Unit → (Nat → D) → Nat → D := fun a kt g => ups g []
 let SLx1_1 : Unit → Unit → BL := fun a kt => ([[(k3, 1, [[iI 0]])], [(k18, 1, [[iI (IntKind.i64.wrap (n6 + 1))]])], [(k22, 0, [])]] : BL)
 let Sx1_0 : Int → Unit → (Nat → D) → Nat → D := fun a kt g => ups g []
 let SLx1_0 : Int → Unit → BL := fun a kt => ([[(k3, 1, [[iI a]])], [(k18, 1, [[iI (IntKind.i64.wrap (n6 + 1))]])], [(k22, 0, [[]])]] : BL)
 let J1 : (Int ⊕ (Unit ⊕ Empty)) → Ex → St → Prop := JE 27 .ret Sx1_0 SLx1_0 (JE 27 (.exit 0) Sx1_1 SLx1_1 (JU G1))
 refine L_loopS (flags_Next_b1 n6 s19) S1 SL1 J1 (JE_n rfl (JE_n rfl (JU_n))) 0 h () (ups_self ⟨rfl, rfl, rfl, rfl, trivial⟩) [0, 3, 2] (by decide) rfl ?_ ?_
 rintro n46 _ g out h
 change flags_Next_b1 n6 s19 n46 = some out at h
 unfold flags_Next_b1 at h
 refine lS (lO ?_)
 by_cases c47 : n46 < ((s19.l.length : Nat) : Int)
 replace h := ifT c47 h
 refine pq (qb (p_lss_tZ c47)) ?_
 refine oE (eS (lS (cT rfl (lK (eS (lS (lB (lS (lO ?_)))))))))
 refine pq (qm (iO n46)) ?_
 obtain ⟨n50, h49, h⟩ := bindS h
 obtain ⟨h49a, h49b, h49⟩ := atS_some h49
 refine pq (q_ixS rfl rfl h49a h49 (el26.trans (congrArg some h49b.symm))) ?_
 refine pq (q_loadI (v := .one (uI n50)) rfl sz62 (map_get h49) rfl rfl) ?_
 refine pq (qa (iO n46)) ?_
 refine pq (qa (.one (uI n50))) ?_
 refine oE (eS (lB ?_))
 let S2 : Unit → Unit → (Nat → D) → Nat → D := fun a kt g => ups g [(0, .one (.yld k22)), (3, iO n46), (4, .one (uI n50)), (5, .one (sF r62 s19)), (6, .one (iI ((s19.l.length : Nat) : Int))), (7, iO n46)]
 let SL2 : Unit → Unit → BL := fun a kt => ([[(k22, 0, [])], [(k3, 1, [[iI 0]])], [(k18, 1, [[iI (IntKind.i64.wrap (n6 + 1))]])]] : BL)
 let G2 : Empty → Ex → St → Prop := fun u => u.elim
 let Sx2_1 : Unit → Unit → (Nat → D) → Nat → D := fun a kt g => ups g [(0, .one (.yld k22)), (5, .one (sF r62 s19)), (6, .one (iI ((s19.l.length : Nat) : Int))), (7, iO n46)]
 let SLx2_1 : Unit → Unit → BL := fun a kt => ([[(k22, 0, [])], [(k3, 1, [[iI 0]])], [(k18, 1, [[iI (IntKind.i64.wrap (n6 + 1))]])]] : BL)
 let Sx2_0 : Int → Unit → (Nat → D) → Nat → D := fun a kt g => ups g []
 let SLx2_0 : Int → Unit → BL := fun a kt => ([[(k3, 1, [[iI a]])], [(k18, 1, [[iI (IntKind.i64.wrap (n6 + 1))]])], [(k22, 0, [[]])]] : BL)
 let J2 : (Int ⊕ (Unit ⊕ Empty)) → Ex → St → Prop := JE 27 .ret Sx2_0 SLx2_0 (JE 27 (.exit 2) Sx2_1 SLx2_1 (JU G2))
 refine L_loopS (flags_Next_b2 n6 n46 n50) S2 SL2 J2 (JE_n rfl (JE_n rfl (JU_n))) () h () (ups_self ⟨rfl, rfl, rfl, rfl, rfl, rfl, trivial⟩) [0, 1, 2] (by decide) rfl ?_ ?_
 rintro _ _ g out h
 change flags_Next_b2 n6 n46 n50 () = some out at h
 unfold flags_Next_b2 at h
 refine lS (lS (lO ?_))
 refine pq (qm (.one (uI n50))) ?_
 by_cases c54 : n50 ≠ 0
 replace h := ifT c54 h
 refine pq (qb (p_neq_tZ c54)) ?_
 refine oE (eS (cT rfl (lK (eS (lS (lB (lS (lO ?_))))))))
 refine pq (qm (.one (.yld k22))) ?_
 refine pq (qm (iO n46)) ?_
 refine pq (qb p_mulY) ?_
 refine pq (qm (.one (uI n50))) ?_
 obtain ⟨n56, h55, h⟩ := bindS h
 refine pq (qc (iO n56) [.one (uI n50)] (TZ_r (m + 0) h55) (vw_cons (vd_one vc_v) vw_nil)) ?_
 refine pq (qb p_addY) ?_
 refine ol_yield (args := [.one (iI (IntKind.i64.wrap ((IntKind.i64.wrap (n46 * 64)) + n56)))]) (p := 0) rfl rfl rfl rfl rfl rfl rfl rfl rfl ?_
 refine lO ?_
 refine pq (qa (.one (iI (IntKind.i64.wrap ((IntKind.i64.wrap (n46 * 64)) + n56))))) ?_
 refine oE ?_
 refine E_asg ?_
 refine lB (lS (lO ?_))
 refine pq (ql (iO (IntKind.i64.wrap (n6 + 1))) 2 sz3) ?_
 refine pq (qb p_mulY) ?_
 refine pq (qm (.one (iI (IntKind.i64.wrap ((IntKind.i64.wrap (n46 * 64)) + n56))))) ?_
 refine pq (qb p_addY) ?_
 refine ow [[iI (IntKind.i64.wrap ((IntKind.i64.wrap ((IntKind.i64.wrap (n6 + 1)) * 64)) + (IntKind.i64.wrap ((IntKind.i64.wrap (n46 * 64)) + n56))))]] 1 sz3 ?_
 refine oE (eS (lR (bR ?_)))
 refine E_roundX (p := 0) (es := [[]]) rfl rfl rfl rfl ?_
 refine pq (q_not rfl) ?_
 refine oE (eS (cT rfl (lR (bR (eR ?_)))))
 obtain rfl := sj h
 refine E_out ?_
 exact (E_je () (ups_self trivial) [1, 2, 0] (by decide) rfl)
 replace h := ifF c54 h
 refine pq (qb (p_neq_fZ c54)) ?_
 refine oE (eS (cF rfl (L_exit ?_)))
 refine E_seqX ?_
 obtain rfl := sj h
 refine E_out ?_
 exact E_js ((E_je () (ups_self ⟨rfl, rfl, rfl, rfl, trivial⟩) [0, 1, 2] (by decide) rfl))
 rintro (n57 | _ | u) h
 refine J_e (fun kt g => ?_)
 replace h := elimL h
 refine bR (bR (eR ?_))
 obtain rfl := sj h
 refine E_out ?_
 exact (E_je () (ups_self trivial) [0, 1, 2] (by decide) rfl)
 refine J_s (J_e (fun kt g => ?_))
 replace h := elimL (elimR h)
 refine bH (bN (eS (lO ?_)))
 refine pq (qb p_addY) ?_
 refine pq (qm (iO (IntKind.i64.wrap (n46 + 1)))) ?_
 refine oE ?_
 obtain rfl := sj h
 exact E_next () (ups_self ⟨rfl, rfl, rfl, rfl, trivial⟩) [0, 1, 2] (by decide) rfl
 exact u.elim
 replace h := ifF c47 h
 refine pq (qb (p_lss_fZ c47)) ?_
 refine oE (eS (lS (cF rfl (L_exit ?_))))
 refine E_seqX ?_
 obtain rfl := sj h
 refine E_out ?_
 exact E_js ((E_je () (ups_self trivial) [1, 2, 0] (by decide) rfl))
 rintro (n58 | _ | u) h
 refine J_e (fun kt g => ?_)
 replace h := elimL h
 refine bR ?_
 refine E_range (p := 2) (.inr rfl) rfl ?_
 refine bR (eR ?_)
 obtain rfl := sj h
 exact E_endF (.inr rfl) (res_cell (d := iO n58) 0 rfl sz3 rfl rfl rfl rfl res_nil) (vw_cons (vd_one vc_v) vw_nil) oP rfl rfl
 refine J_s (J_e (fun kt g => ?_))
 replace h := elimL (elimR h)
 refine bH ?_
 refine E_range (p := 2) (.inl rfl) rfl ?_
 refine bN (eS (lS (lO ?_)))
 refine ow [[iI (-1)]] 0 sz3 ?_
 refine oE (eS (lR ?_))
 obtain rfl := sj h
 exact E_endF (.inr rfl) (res_cell (d := .one (iI (-1))) 0 rfl sz3 rfl rfl rfl rfl res_nil) (vw_cons (vd_one vc_v) vw_nil) oP rfl rfl
 exact u.elim
noncomputable def flags_Right (s1 : Sl (Int)) (n2 : Int) : Option (Bool) :=
 (if n2 ≥ 0 then (if n2 ≤ 4096 then ((flags_words n2).bind fun n6 => (if ((s1.l.length : Nat) : Int) = n6 then ((flags_Next s1 n2).bind fun n9 => (if n9 < 0 then some true else some false)) else some false)) else some false) else some false)
theorem flags_Right_r (m : Nat) {s1 : Sl (Int)} {n2 : Int} {out : Bool} (h : flags_Right s1 n2 = some out) : RunsP E1 (m + 4) 58 [.one (Sl.t r62 s1), .one (iT .i64 n2)] (.fresh, [.one (bT out)]) := by
 refine fn_F rfl (by rw [E1_fn]; exact show fiOf Tryd.prog 58 = _ by unfold fiOf; rw [Tryd.func58]; unfold Tryd.f58; rfl) rfl ?_
 dsimp only
 unfold flags_Right at h
 refine lS (lO ?_)
 refine pq (qa bf) ?_
 refine oN ?_
 refine pq (qm (iO n2)) ?_
 by_cases c3 : n2 ≥ 0
 replace h := ifT c3 h
 refine pq (qb (p_geq_tZ c3)) ?_
 refine pq (qm bt) ?_
 refine pq (qm (iO n2)) ?_
 by_cases c4 : n2 ≤ 4096
 replace h := ifT c4 h
 refine pq (qb (p_leq_tZ c4)) ?_
 refine pq (qpt bt) ?_
 refine pq (qm bt) ?_
 refine pq (qm (.one (sF r62 s1))) ?_
 refine pq (q_lenS rfl ty26 rfl rfl rfl rfl) ?_
 refine pq (qm (iO n2)) ?_
 obtain ⟨n6, h5, h⟩ := bindS h
 refine pq (qc (iO n6) [iO n2] (flags_words_r (m + 2) h5) (vw_cons (vd_one vc_v) vw_nil)) ?_
 by_cases c7 : ((s1.l.length : Nat) : Int) = n6
 replace h := ifT c7 h
 refine pq (qb (p_eql_tZ c7)) ?_
 refine pq (qpt bt) ?_
 refine pq (qm bt) ?_
 refine pq (qm (.one (sF r62 s1))) ?_
 refine pq (qm (iO n2)) ?_
 obtain ⟨n9, h8, h⟩ := bindS h
 refine pq (qc (iO n9) [.one (sF r62 s1), iO n2] (flags_Next_r (m + 0) h8) (vw_cons (vd_one vc_s) (vw_cons (vd_one vc_v) vw_nil))) ?_
 by_cases c10 : n9 < 0
 replace h := ifT c10 h
 refine pq (qb (p_lss_tZ c10)) ?_
 refine pq (qpt bt) ?_
 refine pq (qa bt) ?_
 refine oE (eS (lR ?_))
 obtain rfl := sj h
 exact eF1
 replace h := ifF c10 h
 refine pq (qb (p_lss_fZ c10)) ?_
 refine pq (qpt bf) ?_
 refine pq (qa bf) ?_
 refine oE (eS (lR ?_))
 obtain rfl := sj h
 exact eF1
 replace h := ifF c7 h
 refine pq (qb (p_eql_fZ c7)) ?_
 refine pq (qpt bf) ?_
 refine pq (qm bf) ?_
 iterate 4 refine os ?_
 refine pq (qpf bf) ?_
 refine pq (qa bf) ?_
 refine oE (eS (lR ?_))
 obtain rfl := sj h
 exact eF1
 replace h := ifF c4 h
 refine pq (qb (p_leq_fZ c4)) ?_
 refine pq (qpt bf) ?_
 refine pq (qm bf) ?_
 iterate 5 refine os ?_
 refine pq (qpf bf) ?_
 refine pq (qm bf) ?_
 iterate 4 refine os ?_
 refine pq (qpf bf) ?_
 refine pq (qa bf) ?_
 refine oE (eS (lR ?_))
 obtain rfl := sj h
 exact eF1
 replace h := ifF c3 h
 refine pq (qb (p_geq_fZ c3)) ?_
 refine pq (qm bf) ?_
 iterate 2 refine os ?_
 refine pq (qpf bf) ?_
 refine pq (qm bf) ?_
 iterate 5 refine os ?_
 refine pq (qpf bf) ?_
 refine pq (qm bf) ?_
 iterate 4 refine os ?_
 refine pq (qpf bf) ?_
 refine pq (qa bf) ?_
 refine oE (eS (lR ?_))
 obtain rfl := sj h
 exact eF1
noncomputable def flags_bit (n1 : Int) : Option (Int) :=
 ((modO n1 64).bind fun n2 => ((shl1 .u64 1 (IntKind.u64.wrap n2)).bind fun n4 => some n4))
theorem flags_bit_r (m : Nat) {n1 : Int} {out : Int} (h : flags_bit n1 = some out) : RunsP E1 (m + 1) 60 [.one (iT .i64 n1)] (.fresh, [.one (iT .u64 out)]) := by
 refine fn_F rfl (by rw [E1_fn]; exact show fiOf Tryd.prog 60 = _ by unfold fiOf; rw [Tryd.func60]; unfold Tryd.f60; rfl) rfl ?_
 dsimp only
 unfold flags_bit at h
 refine lS (lO ?_)
 refine pq (qa (.one (uI 0))) ?_
 refine oN ?_
 refine pq (qm (iO n1)) ?_
 obtain ⟨n2, h3, h⟩ := bindS h
 refine pq (q_bin rfl rfl (modO_p h3) rfl) ?_
 refine pq (q_conv rfl (cv3_117_i64 _) rfl) ?_
 obtain ⟨n4, h5, h⟩ := bindS h
 refine pq (q_bin rfl rfl (p_shl h5) rfl) ?_
 refine pq (qa (.one (uI n4))) ?_
 refine oE (eS (lR ?_))
 obtain rfl := sj h
 exact eF1
noncomputable def flags_Has (s1 : Sl (Int)) (n2 : Int) : Option (Bool) :=
 ((flags_within s1 n2).bind fun b4 => (if b4 = true then ((divO .i64 n2 64).bind fun n5 => ((atS 1 s1 n5).bind fun n9 => ((flags_bit n2).bind fun n11 => (if (andI .u64 n9 n11) ≠ 0 then some true else some false)))) else some false))
theorem flags_Has_r (m : Nat) {s1 : Sl (Int)} {n2 : Int} {out : Bool} (h : flags_Has s1 n2 = some out) : RunsP E1 (m + 2) 46 [.one (Sl.t r62 s1), .one (iT .i64 n2)] (.fresh, [.one (bT out)]) := by
 refine fn_F rfl (by rw [E1_fn]; exact show fiOf Tryd.prog 46 = _ by unfold fiOf; rw [Tryd.func46]; unfold Tryd.f46; rfl) rfl ?_
 dsimp only
 unfold flags_Has at h
 refine lS (lO ?_)
 refine pq (qa bf) ?_
 refine oE (eS (lS ?_))
 refine L_still (by kernel_rfl) ?_
 refine sq (qm (.one (sF r62 s1))) ?_
 refine sq (qm (iO n2)) ?_
 obtain ⟨b4, h3, h⟩ := bindS h
 refine sq (qc (bO b4) [.one (sF r62 s1), iO n2] (flags_within_r (m + 0) h3) (vw_cons (vd_one vc_s) (vw_cons (vd_one vc_v) vw_nil))) ?_
 refine sq (qm (bO b4)) ?_
 rcases b4 with _ | _
 replace h := wF h
 iterate 9 refine ss ?_
 refine sq (qpf bf) ?_
 refine sq (qa bf) ?_
 refine st_end (eS (lR ?_))
 obtain rfl := sj h
 exact eF1
 replace h := wT h
 refine sq (qm (.one (sF r62 s1))) ?_
 refine sq (qm (iO n2)) ?_
 obtain ⟨n5, h6, h⟩ := bindS h
 refine sq (q_bin rfl rfl (divO_p h6) rfl) ?_
 obtain ⟨n9, h8, h⟩ := bindS h
 obtain ⟨h8a, h8b, h8⟩ := atS_some h8
 refine sq (q_ixS rfl rfl h8a h8 (el26.trans (congrArg some h8b.symm))) ?_
 refine sq (q_loadI (v := .one (uI n9)) rfl sz62 (map_get h8) rfl rfl) ?_
 refine sq (qm (iO n2)) ?_
 obtain ⟨n11, h10, h⟩ := bindS h
 refine sq (qc (.one (uI n11)) [iO n2] (flags_bit_r (m + 0) h10) (vw_cons (vd_one vc_v) vw_nil)) ?_
 refine sq (q_bin rfl rfl (p_and _ _ _ _ _ _ _) rfl) ?_
 by_cases c12 : (andI .u64 n9 n11) ≠ 0
 replace h := ifT c12 h
 refine sq (qb (p_neq_tZ c12)) ?_
 refine sq (qpt bt) ?_
 refine sq (qa bt) ?_
 refine st_end (eS (lR ?_))
 obtain rfl := sj h
 exact eF1
 replace h := ifF c12 h
 refine sq (qb (p_neq_fZ c12)) ?_
 refine sq (qpt bf) ?_
 refine sq (qa bf) ?_
 refine st_end (eS (lR ?_))
 obtain rfl := sj h
 exact eF1
end Ev
end Go.Proofs.YtnikcjnkcjondaaDoor
end
