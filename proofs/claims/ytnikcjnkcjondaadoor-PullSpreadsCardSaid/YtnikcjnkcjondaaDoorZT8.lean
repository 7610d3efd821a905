/- Texts of a claim, joined. -/
import Derived.Test.YtnikcjnkcjondaaDoorZT7
import Derived.Test.YtnikcjnkcjondaaDoorZT6
set_option linter.unusedVariables false
set_option linter.unusedSimpArgs false
section
namespace Go.Proofs.YtnikcjnkcjondaaDoor
namespace Ev
open Go
set_option linter.unusedVariables false
set_option linter.unusedSimpArgs false
set_option maxRecDepth 100000
set_option maxHeartbeats 1000000
attribute [local irreducible] OpsL StL TnL WpL EndL
noncomputable def ref07_Of_b2 (s64 : Sl (Int × Int × Int)) (a : (List (Int × Int × Int)) × Int) : Option (((List (Int × Int × Int)) × Int) ⊕ ((List (Int × Int × Int)) ⊕ ((Int × Int × Sl (Int) × Sl (Int) × Sl (Int)) × Int))) :=
 match a with
 | (l101, n102) => (if n102 < ((s64.l.length : Nat) : Int) then ((atS 3 s64 n102).bind fun (n114, n115, n116) => ((app l101 ([(n114, n115, n116)] : List (Int × Int × Int))).bind fun _ => some (.inl ((l101 ++ ([(n114, n115, n116)] : List (Int × Int × Int))), (IntKind.i64.wrap (n102 + 1)))))) else some (.inr (.inl l101)))
noncomputable def ref07_Of_b1 (n2 : Int) (n3 : Int) (s4 : Sl (Int × Int × Int)) (a : (List (Int × Int × Int)) × Int) : Option (((List (Int × Int × Int)) × Int) ⊕ ((List (Int × Int × Int)) ⊕ ((Int × Int × Sl (Int) × Sl (Int) × Sl (Int)) × Int))) :=
 match a with
 | (l45, n46) => (if n46 < ((s4.l.length : Nat) : Int) then ((atS 3 s4 n46).bind fun (n51, n52, n53) => (if n51 < 0 then some (.inr (.inr ((0, 0, (⟨false, 0, []⟩ : Sl (Int)), (⟨false, 0, []⟩ : Sl (Int)), (⟨false, 0, []⟩ : Sl (Int))), 3))) else (if n51 ≥ n2 then some (.inr (.inr ((0, 0, (⟨false, 0, []⟩ : Sl (Int)), (⟨false, 0, []⟩ : Sl (Int)), (⟨false, 0, []⟩ : Sl (Int))), 3))) else (if n52 < 0 then some (.inr (.inr ((0, 0, (⟨false, 0, []⟩ : Sl (Int)), (⟨false, 0, []⟩ : Sl (Int)), (⟨false, 0, []⟩ : Sl (Int))), 3))) else (if n52 ≥ n3 then some (.inr (.inr ((0, 0, (⟨false, 0, []⟩ : Sl (Int)), (⟨false, 0, []⟩ : Sl (Int)), (⟨false, 0, []⟩ : Sl (Int))), 3))) else ((app l45 ([(n51, n52, n53)] : List (Int × Int × Int))).bind fun _ => some (.inl ((l45 ++ ([(n51, n52, n53)] : List (Int × Int × Int))), (IntKind.i64.wrap (n46 + 1)))))))))) else some (.inr (.inl l45)))
noncomputable def ref07_Of (n1 : Int) (n2 : Int) (n3 : Int) (s4 : Sl (Int × Int × Int)) : Option ((Int × Int × Sl (Int) × Sl (Int) × Sl (Int)) × Int) :=
 ((ref02_Is n1).bind fun b7 => (if b7 = true then (if n2 < 0 then some ((0, 0, (⟨false, 0, []⟩ : Sl (Int)), (⟨false, 0, []⟩ : Sl (Int)), (⟨false, 0, []⟩ : Sl (Int))), 3) else (if n2 > 4096 then some ((0, 0, (⟨false, 0, []⟩ : Sl (Int)), (⟨false, 0, []⟩ : Sl (Int)), (⟨false, 0, []⟩ : Sl (Int))), 3) else (if n3 < 0 then some ((0, 0, (⟨false, 0, []⟩ : Sl (Int)), (⟨false, 0, []⟩ : Sl (Int)), (⟨false, 0, []⟩ : Sl (Int))), 3) else (if n3 > 4096 then some ((0, 0, (⟨false, 0, []⟩ : Sl (Int)), (⟨false, 0, []⟩ : Sl (Int)), (⟨false, 0, []⟩ : Sl (Int))), 3) else (if ((s4.l.length : Nat) : Int) > 65536 then some ((0, 0, (⟨false, 0, []⟩ : Sl (Int)), (⟨false, 0, []⟩ : Sl (Int)), (⟨false, 0, []⟩ : Sl (Int))), 5) else ((loopO (ref07_Of_b1 n2 n3 s4) (([] : List (Int × Int × Int)), 0)).bind (Sum.elim (fun l61 => ((ref05_Combine n1 (mo 3 l61)).bind fun (s64, n65) => (if n65 ≠ 0 then some ((0, 0, (⟨false, 0, []⟩ : Sl (Int)), (⟨false, 0, []⟩ : Sl (Int)), (⟨false, 0, []⟩ : Sl (Int))), n65) else ((loopO (ref07_Of_b2 s64) (([] : List (Int × Int × Int)), 0)).bind (Sum.elim (fun l118 => ((ref07_built n2 n3 (mo 3 l118)).bind fun (n121, n122, s123, s124, s125) => some ((n121, n122, s123, s124, s125), 0))) (fun u => some u)))))) (fun u => some u)))))))) else some ((0, 0, (⟨false, 0, []⟩ : Sl (Int)), (⟨false, 0, []⟩ : Sl (Int)), (⟨false, 0, []⟩ : Sl (Int))), 8)))
theorem ref07_Of_r (m : Nat) {n1 : Int} {n2 : Int} {n3 : Int} {s4 : Sl (Int × Int × Int)} {out : (Int × Int × Sl (Int) × Sl (Int) × Sl (Int)) × Int} (h : ref07_Of n1 n2 n3 s4 = some out) : RunsP E1 (m + 4) 32 [.one (iT .i64 n1), .one (iT .i64 n2), .one (iT .i64 n3), .one (Sl.t r76 s4)] (.fresh, [.agg (r32 out.1), .one (iT .i64 out.2)]) := by
 refine fn_F rfl (by rw [E1_fn]; exact show fiOf Tryd.prog 32 = _ by unfold fiOf; rw [Tryd.func32]; unfold Tryd.f32; rfl) rfl ?_
 dsimp only
 unfold ref07_Of at h
 refine lS (lO ?_)
 refine ol_new rfl rfl rfl (q_alloc ty33 (row := [iI 0, iI 0, nC, nC, nC]) rfl rfl) (fun k5 => ?_)
 refine pq (qa (iO 0)) ?_
 refine oE (eS (lS (lS (lO ?_))))
 refine pq (qm (iO n1)) ?_
 obtain ⟨b7, h6, h⟩ := bindS h
 refine pq (qc (bO b7) [iO n1] (ref02_Is_r (m + 2) h6) (vw_cons (vd_one vc_v) vw_nil)) ?_
 rcases b7 with _ | _
 replace h := wF h
 refine pq (q_not rfl) ?_
 refine oE (eS (cT rfl (lS (lO ?_))))
 refine pq (q_build (cs := [iI 0, iI 0, nC, nC, nC]) ty33 rfl pl33 rfl) ?_
 refine ow [[iI 0, iI 0, nC, nC, nC]] 0 sz33 ?_
 refine pq (qa (iO 8)) ?_
 refine oE (eS (lR (eR ?_)))
 obtain rfl := sj h
 exact E_endF (.inr rfl) (res_cell (d := .agg [iI 0, iI 0, nC, nC, nC]) 0 rfl sz33 rfl rfl rfl rfl (res_tmp rfl res_nil)) (vw_cons (vd_agg (vc_cons vc_v (vc_cons vc_v (vc_cons vc_s (vc_cons vc_s (vc_cons vc_s vc_nil)))))) (vw_cons (vd_one vc_v) vw_nil)) oW rfl rfl
 replace h := wT h
 refine pq (q_not rfl) ?_
 refine oE (eS (cF rfl (lK (eS (lS (lS (lO ?_)))))))
 refine pq (qm (iO n2)) ?_
 by_cases c8 : n2 < 0
 replace h := ifT c8 h
 refine pq (qb (p_lss_tZ c8)) ?_
 refine pq (qm bt) ?_
 iterate 2 refine os ?_
 refine pq (qpt bt) ?_
 refine pq (qm bt) ?_
 iterate 2 refine os ?_
 refine pq (qpt bt) ?_
 refine pq (qm bt) ?_
 iterate 2 refine os ?_
 refine pq (qpt bt) ?_
 refine oE (eS (cT rfl (lS (lO ?_))))
 refine pq (q_build (cs := [iI 0, iI 0, nC, nC, nC]) ty33 rfl pl33 rfl) ?_
 refine ow [[iI 0, iI 0, nC, nC, nC]] 0 sz33 ?_
 refine pq (qa (iO 3)) ?_
 refine oE (eS (lR (eR ?_)))
 obtain rfl := sj h
 exact E_endF (.inr rfl) (res_cell (d := .agg [iI 0, iI 0, nC, nC, nC]) 0 rfl sz33 rfl rfl rfl rfl (res_tmp rfl res_nil)) (vw_cons (vd_agg (vc_cons vc_v (vc_cons vc_v (vc_cons vc_s (vc_cons vc_s (vc_cons vc_s vc_nil)))))) (vw_cons (vd_one vc_v) vw_nil)) oW rfl rfl
 replace h := ifF c8 h
 refine pq (qb (p_lss_fZ c8)) ?_
 refine pq (qm bf) ?_
 refine pq (qm (iO n2)) ?_
 by_cases c9 : n2 > 4096
 replace h := ifT c9 h
 refine pq (qb (p_gtr_tZ c9)) ?_
 refine pq (qpf bt) ?_
 refine pq (qm bt) ?_
 iterate 2 refine os ?_
 refine pq (qpt bt) ?_
 refine pq (qm bt) ?_
 iterate 2 refine os ?_
 refine pq (qpt bt) ?_
 refine oE (eS (cT rfl (lS (lO ?_))))
 refine pq (q_build (cs := [iI 0, iI 0, nC, nC, nC]) ty33 rfl pl33 rfl) ?_
 refine ow [[iI 0, iI 0, nC, nC, nC]] 0 sz33 ?_
 refine pq (qa (iO 3)) ?_
 refine oE (eS (lR (eR ?_)))
 obtain rfl := sj h
 exact E_endF (.inr rfl) (res_cell (d := .agg [iI 0, iI 0, nC, nC, nC]) 0 rfl sz33 rfl rfl rfl rfl (res_tmp rfl res_nil)) (vw_cons (vd_agg (vc_cons vc_v (vc_cons vc_v (vc_cons vc_s (vc_cons vc_s (vc_cons vc_s vc_nil)))))) (vw_cons (vd_one vc_v) vw_nil)) oW rfl rfl
 replace h := ifF c9 h
 refine pq (qb (p_gtr_fZ c9)) ?_
 refine pq (qpf bf) ?_
 refine pq (qm bf) ?_
 refine pq (qm (iO n3)) ?_
 by_cases c10 : n3 < 0
 replace h := ifT c10 h
 refine pq (qb (p_lss_tZ c10)) ?_
 refine pq (qpf bt) ?_
 refine pq (qm bt) ?_
 iterate 2 refine os ?_
 refine pq (qpt bt) ?_
 refine oE (eS (cT rfl (lS (lO ?_))))
 refine pq (q_build (cs := [iI 0, iI 0, nC, nC, nC]) ty33 rfl pl33 rfl) ?_
 refine ow [[iI 0, iI 0, nC, nC, nC]] 0 sz33 ?_
 refine pq (qa (iO 3)) ?_
 refine oE (eS (lR (eR ?_)))
 obtain rfl := sj h
 exact E_endF (.inr rfl) (res_cell (d := .agg [iI 0, iI 0, nC, nC, nC]) 0 rfl sz33 rfl rfl rfl rfl (res_tmp rfl res_nil)) (vw_cons (vd_agg (vc_cons vc_v (vc_cons vc_v (vc_cons vc_s (vc_cons vc_s (vc_cons vc_s vc_nil)))))) (vw_cons (vd_one vc_v) vw_nil)) oW rfl rfl
 replace h := ifF c10 h
 refine pq (qb (p_lss_fZ c10)) ?_
 refine pq (qpf bf) ?_
 refine pq (qm bf) ?_
 refine pq (qm (iO n3)) ?_
 by_cases c11 : n3 > 4096
 replace h := ifT c11 h
 refine pq (qb (p_gtr_tZ c11)) ?_
 refine pq (qpf bt) ?_
 refine oE (eS (cT rfl (lS (lO ?_))))
 refine pq (q_build (cs := [iI 0, iI 0, nC, nC, nC]) ty33 rfl pl33 rfl) ?_
 refine ow [[iI 0, iI 0, nC, nC, nC]] 0 sz33 ?_
 refine pq (qa (iO 3)) ?_
 refine oE (eS (lR (eR ?_)))
 obtain rfl := sj h
 exact E_endF (.inr rfl) (res_cell (d := .agg [iI 0, iI 0, nC, nC, nC]) 0 rfl sz33 rfl rfl rfl rfl (res_tmp rfl res_nil)) (vw_cons (vd_agg (vc_cons vc_v (vc_cons vc_v (vc_cons vc_s (vc_cons vc_s (vc_cons vc_s vc_nil)))))) (vw_cons (vd_one vc_v) vw_nil)) oW rfl rfl
 replace h := ifF c11 h
 refine pq (qb (p_gtr_fZ c11)) ?_
 refine pq (qpf bf) ?_
 refine oE (eS (cF rfl (lK (eS (lS (lS (lO ?_)))))))
 refine pq (qm (.one (sF r76 s4))) ?_
 refine pq (q_lenS rfl ty24 rfl rfl rfl rfl) ?_
 by_cases c12 : ((s4.l.length : Nat) : Int) > 65536
 replace h := ifT c12 h
 refine pq (qb (p_gtr_tZ c12)) ?_
 refine oE (eS (cT rfl (lS (lO ?_))))
 refine pq (q_build (cs := [iI 0, iI 0, nC, nC, nC]) ty33 rfl pl33 rfl) ?_
 refine ow [[iI 0, iI 0, nC, nC, nC]] 0 sz33 ?_
 refine pq (qa (iO 5)) ?_
 refine oE (eS (lR (eR ?_)))
 obtain rfl := sj h
 exact E_endF (.inr rfl) (res_cell (d := .agg [iI 0, iI 0, nC, nC, nC]) 0 rfl sz33 rfl rfl rfl rfl (res_tmp rfl res_nil)) (vw_cons (vd_agg (vc_cons vc_v (vc_cons vc_v (vc_cons vc_s (vc_cons vc_s (vc_cons vc_s vc_nil)))))) (vw_cons (vd_one vc_v) vw_nil)) oW rfl rfl
 replace h := ifF c12 h
 refine pq (qb (p_gtr_fZ c12)) ?_
 refine oE (eS (cF rfl (lK (eS (lS (lO ?_))))))
 refine pq (qa (.one nC)) ?_
 refine oE (eS (lS (lS (lO ?_))))
 refine pq (qa (iO 0)) ?_
 refine oE (eS (lB ?_))
 refine L_addM (α := Int × Int × Int) r103 3 ?_
 let S1 : ((List (Int × Int × Int)) × Int) → Nat → (Nat → D) → Nat → D := fun a kt g => ups g [(0, iO n1), (1, iO n2), (2, iO n3), (3, .one (sF r76 s4)), (8, .one (.ptr k5 0 0)), (10, .one (moC a.1 kt)), (11, .one (iI a.2))]
 let SL1 : ((List (Int × Int × Int)) × Int) → Nat → BL := fun a kt => ([[(k5, 5, [[iI 0, iI 0, nC, nC, nC]])], moL r103 3 a.1 kt] : BL)
 let G1 : ((Int × Int × Sl (Int) × Sl (Int) × Sl (Int)) × Int) → Ex → St → Prop := fun u => endQ E1 [.cell 8 33, .tmp 9] (.fresh, [.agg (r32 u.1), .one (iT .i64 u.2)])
 let Sx1 : (List (Int × Int × Int)) → Nat → (Nat → D) → Nat → D := fun a kt g => ups g [(0, iO n1), (1, iO n2), (2, iO n3), (8, .one (.ptr k5 0 0)), (10, .one (moC a kt))]
 let SLx1 : (List (Int × Int × Int)) → Nat → BL := fun a kt => ([[(k5, 5, [[iI 0, iI 0, nC, nC, nC]])], moL r103 3 a kt] : BL)
 let J1 : ((List (Int × Int × Int)) ⊕ ((Int × Int × Sl (Int) × Sl (Int) × Sl (Int)) × Int)) → Ex → St → Prop := JX 135 0 Sx1 SLx1 G1
 refine L_loopS (ref07_Of_b1 n2 n3 s4) S1 SL1 J1 JX_n (([] : List (Int × Int × Int)), 0) h 1043 (ups_self ⟨rfl, rfl, rfl, rfl, rfl, rfl, rfl, trivial⟩) [1, 0] (by decide) rfl ?_ ?_
 rintro ⟨l45, n46⟩ k47 g out h
 change ref07_Of_b1 n2 n3 s4 (l45, n46) = some out at h
 unfold ref07_Of_b1 at h
 refine lS (lS (lO ?_))
 refine pq (qm (iO n46)) ?_
 refine pq (qm (.one (sF r76 s4))) ?_
 refine pq (q_lenS rfl ty24 rfl rfl rfl rfl) ?_
 by_cases c48 : n46 < ((s4.l.length : Nat) : Int)
 replace h := ifT c48 h
 refine pq (qb (p_lss_tZ c48)) ?_
 refine oE (eS (cT rfl (lK (eS (lS (lB (lS (lS (lO ?_)))))))))
 refine pq (qm (.one (sF r76 s4))) ?_
 refine pq (qm (iO n46)) ?_
 obtain ⟨⟨n51, n52, n53⟩, h50, h⟩ := bindS h
 obtain ⟨h50a, h50b, h50⟩ := atS_some h50
 refine pq (q_ixS rfl rfl h50a h50 (el24.trans (congrArg some h50b.symm))) ?_
 refine pq (q_fieldI rfl fa77_0 rfl) ?_
 refine pq (q_loadI (v := iO n51) rfl sz3 (map_get h50) rfl rfl) ?_
 by_cases c54 : n51 < 0
 replace h := ifT c54 h
 refine pq (qb (p_lss_tZ c54)) ?_
 refine pq (qm bt) ?_
 iterate 7 refine os ?_
 refine pq (qpt bt) ?_
 refine pq (qm bt) ?_
 iterate 6 refine os ?_
 refine pq (qpt bt) ?_
 refine pq (qm bt) ?_
 iterate 7 refine os ?_
 refine pq (qpt bt) ?_
 refine oE (eS (cT rfl (lS (lO ?_))))
 refine pq (q_build (cs := [iI 0, iI 0, nC, nC, nC]) ty33 rfl pl33 rfl) ?_
 refine ow [[iI 0, iI 0, nC, nC, nC]] 0 sz33 ?_
 refine pq (qa (iO 3)) ?_
 refine oE (eS (lR (eR (bR (eR ?_)))))
 obtain rfl := sj h
 exact E_out (E_up (E_endF (.inr rfl) (res_cell (d := .agg [iI 0, iI 0, nC, nC, nC]) 0 rfl sz33 rfl rfl rfl rfl (res_tmp rfl res_nil)) (vw_cons (vd_agg (vc_cons vc_v (vc_cons vc_v (vc_cons vc_s (vc_cons vc_s (vc_cons vc_s vc_nil)))))) (vw_cons (vd_one vc_v) vw_nil)) oW rfl rfl))
 replace h := ifF c54 h
 refine pq (qb (p_lss_fZ c54)) ?_
 refine pq (qm bf) ?_
 refine pq (qm (.one (sF r76 s4))) ?_
 refine pq (qm (iO n46)) ?_
 refine pq (q_ixS rfl rfl h50a h50 (el24.trans (congrArg some h50b.symm))) ?_
 refine pq (q_fieldI rfl fa77_0 rfl) ?_
 refine pq (q_loadI (v := iO n51) rfl sz3 (map_get h50) rfl rfl) ?_
 refine pq (qm (iO n2)) ?_
 by_cases c55 : n51 ≥ n2
 replace h := ifT c55 h
 refine pq (qb (p_geq_tZ c55)) ?_
 refine pq (qpf bt) ?_
 refine pq (qm bt) ?_
 iterate 6 refine os ?_
 refine pq (qpt bt) ?_
 refine pq (qm bt) ?_
 iterate 7 refine os ?_
 refine pq (qpt bt) ?_
 refine oE (eS (cT rfl (lS (lO ?_))))
 refine pq (q_build (cs := [iI 0, iI 0, nC, nC, nC]) ty33 rfl pl33 rfl) ?_
 refine ow [[iI 0, iI 0, nC, nC, nC]] 0 sz33 ?_
 refine pq (qa (iO 3)) ?_
 refine oE (eS (lR (eR (bR (eR ?_)))))
 obtain rfl := sj h
 exact E_out (E_up (E_endF (.inr rfl) (res_cell (d := .agg [iI 0, iI 0, nC, nC, nC]) 0 rfl sz33 rfl rfl rfl rfl (res_tmp rfl res_nil)) (vw_cons (vd_agg (vc_cons vc_v (vc_cons vc_v (vc_cons vc_s (vc_cons vc_s (vc_cons vc_s vc_nil)))))) (vw_cons (vd_one vc_v) vw_nil)) oW rfl rfl))
 replace h := ifF c55 h
 refine pq (qb (p_geq_fZ c55)) ?_
 refine pq (qpf bf) ?_
 refine pq (qm bf) ?_
 refine pq (qm (.one (sF r76 s4))) ?_
 refine pq (qm (iO n46)) ?_
 refine pq (q_ixS rfl rfl h50a h50 (el24.trans (congrArg some h50b.symm))) ?_
 refine pq (q_fieldI rfl fa77_1 rfl) ?_
 refine pq (q_loadI (v := iO n52) rfl sz3 (map_get h50) rfl rfl) ?_
 by_cases c56 : n52 < 0
 replace h := ifT c56 h
 refine pq (qb (p_lss_tZ c56)) ?_
 refine pq (qpf bt) ?_
 refine pq (qm bt) ?_
 iterate 7 refine os ?_
 refine pq (qpt bt) ?_
 refine oE (eS (cT rfl (lS (lO ?_))))
 refine pq (q_build (cs := [iI 0, iI 0, nC, nC, nC]) ty33 rfl pl33 rfl) ?_
 refine ow [[iI 0, iI 0, nC, nC, nC]] 0 sz33 ?_
 refine pq (qa (iO 3)) ?_
 refine oE (eS (lR (eR (bR (eR ?_)))))
 obtain rfl := sj h
 exact E_out (E_up (E_endF (.inr rfl) (res_cell (d := .agg [iI 0, iI 0, nC, nC, nC]) 0 rfl sz33 rfl rfl rfl rfl (res_tmp rfl res_nil)) (vw_cons (vd_agg (vc_cons vc_v (vc_cons vc_v (vc_cons vc_s (vc_cons vc_s (vc_cons vc_s vc_nil)))))) (vw_cons (vd_one vc_v) vw_nil)) oW rfl rfl))
 replace h := ifF c56 h
 refine pq (qb (p_lss_fZ c56)) ?_
 refine pq (qpf bf) ?_
 refine pq (qm bf) ?_
 refine pq (qm (.one (sF r76 s4))) ?_
 refine pq (qm (iO n46)) ?_
 refine pq (q_ixS rfl rfl h50a h50 (el24.trans (congrArg some h50b.symm))) ?_
 refine pq (q_fieldI rfl fa77_1 rfl) ?_
 refine pq (q_loadI (v := iO n52) rfl sz3 (map_get h50) rfl rfl) ?_
 refine pq (qm (iO n3)) ?_
 by_cases c57 : n52 ≥ n3
 replace h := ifT c57 h
 refine pq (qb (p_geq_tZ c57)) ?_
 refine pq (qpf bt) ?_
 refine oE (eS (cT rfl (lS (lO ?_))))
 refine pq (q_build (cs := [iI 0, iI 0, nC, nC, nC]) ty33 rfl pl33 rfl) ?_
 refine ow [[iI 0, iI 0, nC, nC, nC]] 0 sz33 ?_
 refine pq (qa (iO 3)) ?_
 refine oE (eS (lR (eR (bR (eR ?_)))))
 obtain rfl := sj h
 exact E_out (E_up (E_endF (.inr rfl) (res_cell (d := .agg [iI 0, iI 0, nC, nC, nC]) 0 rfl sz33 rfl rfl rfl rfl (res_tmp rfl res_nil)) (vw_cons (vd_agg (vc_cons vc_v (vc_cons vc_v (vc_cons vc_s (vc_cons vc_s (vc_cons vc_s vc_nil)))))) (vw_cons (vd_one vc_v) vw_nil)) oW rfl rfl))
 replace h := ifF c57 h
 refine pq (qb (p_geq_fZ c57)) ?_
 refine pq (qpf bf) ?_
 refine oE (eS (cF rfl (lK (eS ?_))))
 refine L_norm (L2 := ([[(k5, 5, [[iI 0, iI 0, nC, nC, nC]])], moL r103 3 l45 k47] : BL)) [0, 1] (by decide) rfl ?_
 refine L_turn 20 rfl [[], [], [], [], [], [], [], [], [], [], [], [], [], [], [], [], [], [], moK l45 k47, []] [(false, []), (false, []), (false, []), (false, []), (false, []), (false, []), (false, []), (false, []), (false, []), (false, []), (false, []), (false, []), (false, []), (false, []), (false, []), (false, []), (false, []), (true, []), (true, []), (false, [])] [[1, 2, 3, 4, 5, 6, 7, 8, 9, 10, 11, 12, 13, 14, 15, 16, 17], [0, 2, 6, 7, 8, 9, 10, 11, 12, 13, 14, 15], [0, 1, 6, 7, 8, 9, 10, 11, 12, 13, 14, 15], [0, 6, 7, 8, 9, 10, 11, 12, 13, 14, 15], [0, 6, 7, 8, 9, 10, 11, 12, 13, 14, 15], [0, 6, 7, 8, 9, 10, 11, 12, 13, 14, 15], [0, 1, 2, 3, 4, 5, 7, 11, 12, 13, 14, 15], [0, 1, 2, 3, 4, 5, 6, 11, 12, 13, 14, 15], [0, 1, 2, 3, 4, 5, 11, 12, 13, 14, 15], [0, 1, 2, 3, 4, 5, 11, 12, 13, 14, 15], [0, 1, 2, 3, 4, 5, 11, 12, 13, 14, 15], [0, 1, 2, 3, 4, 5, 6, 7, 8, 9, 10, 12], [0, 1, 2, 3, 4, 5, 6, 7, 8, 9, 10, 11], [0, 1, 2, 3, 4, 5, 6, 7, 8, 9, 10], [0, 1, 2, 3, 4, 5, 6, 7, 8, 9, 10], [0, 1, 2, 3, 4, 5, 6, 7, 8, 9, 10], [0], [0], [], []] (by kernel_rfl) (by kernel_rfl) (by kernel_rfl) ?_ (fun bb58 hlt hnd => ?_)
 intro bb58 hlt hnd
 have e_k5 : k5 < bb58 := key_lt hlt 0 rfl
 have e_k47 : l45 = [] ∨ k47 < bb58 := key_ltM (r := r103) (w := 3) hlt 1 rfl
 have f_k47 := moK_lt e_k47
 have d_k47_k5 : k5 ∉ moK l45 k47 := key_neM (r := r103) (w := 3) hnd 1 0 rfl rfl rfl
 have g_k47_k5 := moK_ne d_k47_k5
 exact ⟨(by first | (simp [DJ]; done) | (simp [DJ]; omega) | (simp [DJ]; assumption) | (simp_all [DJ]; done) | (simp_all [DJ]; omega)), (by first | (simp [DJ]; done) | (simp [DJ]; omega) | (simp [DJ]; assumption) | (simp_all [DJ]; done) | (simp_all [DJ]; omega))⟩
 have e_k5 : k5 < bb58 := key_lt hlt 0 rfl
 have e_k47 : l45 = [] ∨ k47 < bb58 := key_ltM (r := r103) (w := 3) hlt 1 rfl
 have f_k47 := moK_lt e_k47
 have d_k47_k5 : k5 ∉ moK l45 k47 := key_neM (r := r103) (w := 3) hnd 1 0 rfl rfl rfl
 have g_k47_k5 := moK_ne d_k47_k5
 refine tq [] rfl hmn (qm (.one (moC l45 k47))) ?_
 refine tq [] rfl (hm0 rfl) (qm (.one (sF r76 s4))) ?_
 refine tq [] rfl (hm0 rfl) (qm (iO n46)) ?_
 refine tq [] rfl (hm0 rfl) (q_ixS rfl rfl h50a h50 (el24.trans (congrArg some h50b.symm))) ?_
 refine tq [] rfl (hm0 rfl) (q_fieldI rfl fa77_0 rfl) ?_
 refine tq [] rfl (hm0 rfl) (q_loadI (v := iO n51) rfl sz3 (map_get h50) rfl rfl) ?_
 refine tq [] rfl (hm0 rfl) (qm (.one (sF r76 s4))) ?_
 refine tq [] rfl (hm0 rfl) (qm (iO n46)) ?_
 refine tq [] rfl (hm0 rfl) (q_ixS rfl rfl h50a h50 (el24.trans (congrArg some h50b.symm))) ?_
 refine tq [] rfl (hm0 rfl) (q_fieldI rfl fa77_1 rfl) ?_
 refine tq [] rfl (hm0 rfl) (q_loadI (v := iO n52) rfl sz3 (map_get h50) rfl rfl) ?_
 refine tq [] rfl (hm0 rfl) (qm (.one (sF r76 s4))) ?_
 refine tq [] rfl (hm0 rfl) (qm (iO n46)) ?_
 refine tq [] rfl (hm0 rfl) (q_ixS rfl rfl h50a h50 (el24.trans (congrArg some h50b.symm))) ?_
 refine tq [] rfl (hm0 rfl) (q_fieldI rfl fa77_2 rfl) ?_
 refine tq [] rfl (hm0 rfl) (q_loadI (v := iO n53) rfl sz2 (map_get h50) rfl rfl) ?_
 refine tq [] rfl (hm0 rfl) (q_build (cs := [iI n51, iI n52, iI n53]) ty104 rfl pl104 rfl) ?_
 refine tn_new rfl rfl rfl [] (by decide) rfl (hm0 rfl) rfl rfl (hkc (ne_new (key_lt hlt 0 rfl)) (hkM (e_k47.imp id fun h => by omega) hkn)) (q_bslice (cs := [iI n51, iI n52, iI n53]) (es := (([(n51, n52, n53)] : List (Int × Int × Int))).map (rowC r103)) ty102 rfl ty104 rfl rfl rfl rfl rfl) ?_
 obtain ⟨_, h60, h⟩ := bindS h
 obtain ⟨h60b, rfl⟩ := app_some h60
 refine tn_appM (r := r103) (l := l45) 0 2 rfl rfl rfl rfl [2, 0] (by decide) rfl (hm0 rfl) rfl rfl (hkc (ne_add rfl) (hkc (ne_new (key_lt hlt 0 rfl)) (hkM (e_k47.imp id fun h => by omega) hkn))) rfl rfl (el_ownM (l := ([(n51, n52, n53)] : List (Int × Int × Int))) 1 rfl) rfl rfl h60 (fun y => rfl) el102 ty102 rfl rfl rfl rfl rfl ?_
 refine tq [] rfl (hm0 rfl) (qa (.one (moC (l45 ++ ([(n51, n52, n53)] : List (Int × Int × Int))) (bb58 + 18)))) ?_
 refine tn_end (bN (eS (lO ?_)))
 refine pq (qm (iO n46)) ?_
 refine pq (qb p_addY) ?_
 refine pq (qa (iO (IntKind.i64.wrap (n46 + 1)))) ?_
 refine oE ?_
 obtain rfl := sj h
 exact E_next (bb58 + 18) (ups_self ⟨rfl, rfl, rfl, rfl, rfl, rfl, rfl, trivial⟩) [2, 0] (by decide) rfl
 replace h := ifF c48 h
 refine pq (qb (p_lss_fZ c48)) ?_
 refine oE (eS (cF rfl (L_exit ?_)))
 refine E_seqX ?_
 obtain rfl := sj h
 refine E_out ?_
 exact (E_exit k47 (ups_self ⟨rfl, rfl, rfl, rfl, rfl, trivial⟩) [0, 1] (by decide) rfl)
 rintro (l61 | u) h
 refine J_x (fun k62 g => ?_)
 replace h := elimL h
 refine bH (eS (lS (lO ?_)))
 refine pq (qm (iO n1)) ?_
 refine pq (qm (.one (moC l61 k62))) ?_
 obtain ⟨⟨s64, n65⟩, h63, h⟩ := bindS h
 refine pq (qc (.tup [.one (sC r103 s64), iO n65]) [iO n1, .one (moC l61 k62)] (ref05_Combine_r (m + 0) h63) (vw_cons (vd_one vc_v) (vw_cons (vd_one (vc_M (r := r103) 1 rfl (fun x h m => rfl))) vw_nil))) ?_
 refine pq (qm (.tup [.one (sC r103 s64), iO n65])) ?_
 refine pq (q_ext (v := .one (sC r103 s64)) rfl rfl) ?_
 refine pq (q_ext (v := iO n65) rfl rfl) ?_
 refine pq (qa (.one (sC r103 s64))) ?_
 refine pq (qa (iO n65)) ?_
 refine oE (eS (lS (lS (lO ?_))))
 refine pq (qm (iO n65)) ?_
 by_cases c66 : n65 ≠ 0
 replace h := ifT c66 h
 refine pq (qb (p_neq_tZ c66)) ?_
 refine oE (eS (cT rfl (lS (lO ?_))))
 refine pq (q_build (cs := [iI 0, iI 0, nC, nC, nC]) ty33 rfl pl33 rfl) ?_
 refine pq (qm (iO n65)) ?_
 refine ow [[iI 0, iI 0, nC, nC, nC]] 0 sz33 ?_
 refine pq (qa (iO n65)) ?_
 refine oE (eS (lR (eR ?_)))
 obtain rfl := sj h
 exact E_endF (.inr rfl) (res_cell (d := .agg [iI 0, iI 0, nC, nC, nC]) 0 rfl sz33 rfl rfl rfl rfl (res_tmp rfl res_nil)) (vw_cons (vd_agg (vc_cons vc_v (vc_cons vc_v (vc_cons vc_s (vc_cons vc_s (vc_cons vc_s vc_nil)))))) (vw_cons (vd_one vc_v) vw_nil)) oW rfl rfl
 replace h := ifF c66 h
 refine pq (qb (p_neq_fZ c66)) ?_
 refine oE (eS (cF rfl (lK (eS (lS (lO ?_))))))
 refine pq (qa (.one nC)) ?_
 refine oE (eS (lS (lS (lO ?_))))
 refine pq (qa (iO 0)) ?_
 refine oE (eS (lB ?_))
 refine L_addM (α := Int × Int × Int) r76 3 ?_
 let S2 : ((List (Int × Int × Int)) × Int) → Nat → (Nat → D) → Nat → D := fun a kt g => ups g [(1, iO n2), (2, iO n3), (8, .one (.ptr k5 0 0)), (10, .one (sC r103 s64)), (13, .one (moC a.1 kt)), (14, .one (iI a.2))]
 let SL2 : ((List (Int × Int × Int)) × Int) → Nat → BL := fun a kt => ([[(k5, 5, [[iI 0, iI 0, nC, nC, nC]])], moL r76 3 a.1 kt] : BL)
 let G2 : ((Int × Int × Sl (Int) × Sl (Int) × Sl (Int)) × Int) → Ex → St → Prop := fun u => endQ E1 [.cell 8 33, .tmp 9] (.fresh, [.agg (r32 u.1), .one (iT .i64 u.2)])
 let Sx2 : (List (Int × Int × Int)) → Nat → (Nat → D) → Nat → D := fun a kt g => ups g [(1, iO n2), (2, iO n3), (8, .one (.ptr k5 0 0)), (13, .one (moC a kt))]
 let SLx2 : (List (Int × Int × Int)) → Nat → BL := fun a kt => ([[(k5, 5, [[iI 0, iI 0, nC, nC, nC]])], moL r76 3 a kt] : BL)
 let J2 : ((List (Int × Int × Int)) ⊕ ((Int × Int × Sl (Int) × Sl (Int) × Sl (Int)) × Int)) → Ex → St → Prop := JX 135 2 Sx2 SLx2 G2
 refine L_loopS (ref07_Of_b2 s64) S2 SL2 J2 JX_n (([] : List (Int × Int × Int)), 0) h 1099 (ups_self ⟨rfl, rfl, rfl, rfl, rfl, rfl, trivial⟩) [1, 0] (by decide) rfl ?_ ?_
 rintro ⟨l101, n102⟩ k103 g out h
 change ref07_Of_b2 s64 (l101, n102) = some out at h
 unfold ref07_Of_b2 at h
 refine lS (lS (lO ?_))
 refine pq (qm (iO n102)) ?_
 refine pq (qm (.one (sC r103 s64))) ?_
 refine pq (q_lenS rfl ty102 rfl rfl rfl rfl) ?_
 by_cases c104 : n102 < ((s64.l.length : Nat) : Int)
 replace h := ifT c104 h
 refine pq (qb (p_lss_tZ c104)) ?_
 refine oE (eS (cT rfl (lK (eS (lS (lB ?_))))))
 refine L_norm (L2 := ([[(k5, 5, [[iI 0, iI 0, nC, nC, nC]])], moL r76 3 l101 k103] : BL)) [0, 1] (by decide) rfl ?_
 refine L_turn 20 rfl [[], [], [], [], [], [], [], [], [], [], [], [], [], [], [], [], [], [], moK l101 k103, []] [(false, []), (false, []), (false, []), (false, []), (false, []), (false, []), (false, []), (false, []), (false, []), (false, []), (false, []), (false, []), (false, []), (false, []), (false, []), (false, []), (false, []), (true, []), (true, []), (false, [])] [[1, 2, 3, 4, 5, 6, 7, 8, 9, 10, 11, 12, 13, 14, 15, 16, 17], [0, 2, 6, 7, 8, 9, 10, 11, 12, 13, 14, 15], [0, 1, 6, 7, 8, 9, 10, 11, 12, 13, 14, 15], [0, 6, 7, 8, 9, 10, 11, 12, 13, 14, 15], [0, 6, 7, 8, 9, 10, 11, 12, 13, 14, 15], [0, 6, 7, 8, 9, 10, 11, 12, 13, 14, 15], [0, 1, 2, 3, 4, 5, 7, 11, 12, 13, 14, 15], [0, 1, 2, 3, 4, 5, 6, 11, 12, 13, 14, 15], [0, 1, 2, 3, 4, 5, 11, 12, 13, 14, 15], [0, 1, 2, 3, 4, 5, 11, 12, 13, 14, 15], [0, 1, 2, 3, 4, 5, 11, 12, 13, 14, 15], [0, 1, 2, 3, 4, 5, 6, 7, 8, 9, 10, 12], [0, 1, 2, 3, 4, 5, 6, 7, 8, 9, 10, 11], [0, 1, 2, 3, 4, 5, 6, 7, 8, 9, 10], [0, 1, 2, 3, 4, 5, 6, 7, 8, 9, 10], [0, 1, 2, 3, 4, 5, 6, 7, 8, 9, 10], [0], [0], [], []] (by kernel_rfl) (by kernel_rfl) (by kernel_rfl) ?_ (fun bb105 hlt hnd => ?_)
 intro bb105 hlt hnd
 have e_k5 : k5 < bb105 := key_lt hlt 0 rfl
 have e_k103 : l101 = [] ∨ k103 < bb105 := key_ltM (r := r76) (w := 3) hlt 1 rfl
 have f_k103 := moK_lt e_k103
 have d_k103_k5 : k5 ∉ moK l101 k103 := key_neM (r := r76) (w := 3) hnd 1 0 rfl rfl rfl
 have g_k103_k5 := moK_ne d_k103_k5
 exact ⟨(by first | (simp [DJ]; done) | (simp [DJ]; omega) | (simp [DJ]; assumption) | (simp_all [DJ]; done) | (simp_all [DJ]; omega)), (by first | (simp [DJ]; done) | (simp [DJ]; omega) | (simp [DJ]; assumption) | (simp_all [DJ]; done) | (simp_all [DJ]; omega))⟩
 have e_k5 : k5 < bb105 := key_lt hlt 0 rfl
 have e_k103 : l101 = [] ∨ k103 < bb105 := key_ltM (r := r76) (w := 3) hlt 1 rfl
 have f_k103 := moK_lt e_k103
 have d_k103_k5 : k5 ∉ moK l101 k103 := key_neM (r := r76) (w := 3) hnd 1 0 rfl rfl rfl
 have g_k103_k5 := moK_ne d_k103_k5
 refine tq [] rfl hmn (qm (.one (moC l101 k103))) ?_
 refine tq [] rfl (hm0 rfl) (qm (.one (sC r103 s64))) ?_
 refine tq [] rfl (hm0 rfl) (qm (iO n102)) ?_
 obtain ⟨⟨n114, n115, n116⟩, h113, h⟩ := bindS h
 obtain ⟨h113a, h113b, h113⟩ := atS_some h113
 refine tq [] rfl (hm0 rfl) (q_ixS rfl rfl h113a h113 (el102.trans (congrArg some h113b.symm))) ?_
 refine tq [] rfl (hm0 rfl) (q_fieldI rfl fa104_0 rfl) ?_
 refine tq [] rfl (hm0 rfl) (q_loadI (v := iO n114) rfl sz3 (map_get h113) rfl rfl) ?_
 refine tq [] rfl (hm0 rfl) (qm (.one (sC r103 s64))) ?_
 refine tq [] rfl (hm0 rfl) (qm (iO n102)) ?_
 refine tq [] rfl (hm0 rfl) (q_ixS rfl rfl h113a h113 (el102.trans (congrArg some h113b.symm))) ?_
 refine tq [] rfl (hm0 rfl) (q_fieldI rfl fa104_1 rfl) ?_
 refine tq [] rfl (hm0 rfl) (q_loadI (v := iO n115) rfl sz3 (map_get h113) rfl rfl) ?_
 refine tq [] rfl (hm0 rfl) (qm (.one (sC r103 s64))) ?_
 refine tq [] rfl (hm0 rfl) (qm (iO n102)) ?_
 refine tq [] rfl (hm0 rfl) (q_ixS rfl rfl h113a h113 (el102.trans (congrArg some h113b.symm))) ?_
 refine tq [] rfl (hm0 rfl) (q_fieldI rfl fa104_2 rfl) ?_
 refine tq [] rfl (hm0 rfl) (q_loadI (v := iO n116) rfl sz2 (map_get h113) rfl rfl) ?_
 refine tq [] rfl (hm0 rfl) (q_build (cs := [iI n114, iI n115, iI n116]) ty77 rfl pl77 rfl) ?_
 refine tn_new rfl rfl rfl [] (by decide) rfl (hm0 rfl) rfl rfl (hkc (ne_new (key_lt hlt 0 rfl)) (hkM (e_k103.imp id fun h => by omega) hkn)) (q_bslice (cs := [iI n114, iI n115, iI n116]) (es := (([(n114, n115, n116)] : List (Int × Int × Int))).map (rowC r76)) ty24 rfl ty77 rfl rfl rfl rfl rfl) ?_
 obtain ⟨_, h117, h⟩ := bindS h
 obtain ⟨h117b, rfl⟩ := app_some h117
 refine tn_appM (r := r76) (l := l101) 0 2 rfl rfl rfl rfl [2, 0] (by decide) rfl (hm0 rfl) rfl rfl (hkc (ne_add rfl) (hkc (ne_new (key_lt hlt 0 rfl)) (hkM (e_k103.imp id fun h => by omega) hkn))) rfl rfl (el_ownM (l := ([(n114, n115, n116)] : List (Int × Int × Int))) 1 rfl) rfl rfl h117 (fun y => rfl) el24 ty24 rfl rfl rfl rfl rfl ?_
 refine tq [] rfl (hm0 rfl) (qa (.one (moC (l101 ++ ([(n114, n115, n116)] : List (Int × Int × Int))) (bb105 + 18)))) ?_
 refine tn_end (bN (eS (lO ?_)))
 refine pq (qm (iO n102)) ?_
 refine pq (qb p_addY) ?_
 refine pq (qa (iO (IntKind.i64.wrap (n102 + 1)))) ?_
 refine oE ?_
 obtain rfl := sj h
 exact E_next (bb105 + 18) (ups_self ⟨rfl, rfl, rfl, rfl, rfl, rfl, trivial⟩) [2, 0] (by decide) rfl
 replace h := ifF c104 h
 refine pq (qb (p_lss_fZ c104)) ?_
 refine oE (eS (cF rfl (L_exit ?_)))
 refine E_seqX ?_
 obtain rfl := sj h
 refine E_out ?_
 exact (E_exit k103 (ups_self ⟨rfl, rfl, rfl, rfl, trivial⟩) [0, 1] (by decide) rfl)
 rintro (l118 | u) h
 refine J_x (fun k119 g => ?_)
 replace h := elimL h
 refine bH (eS (lS (lO ?_)))
 refine pq (qm (iO n2)) ?_
 refine pq (qm (iO n3)) ?_
 refine pq (qm (.one (moC l118 k119))) ?_
 obtain ⟨⟨n121, n122, s123, s124, s125⟩, h120, h⟩ := bindS h
 refine pq (qc (.agg [iI n121, iI n122, sC r3 s123, sC r3 s124, sC r2 s125]) [iO n2, iO n3, .one (moC l118 k119)] (ref07_built_r (m + 1) h120) (vw_cons (vd_one vc_v) (vw_cons (vd_one vc_v) (vw_cons (vd_one (vc_M (r := r76) 1 rfl (fun x h m => rfl))) vw_nil)))) ?_
 refine ow [[iI n121, iI n122, sC r3 s123, sC r3 s124, sC r2 s125]] 0 sz33 ?_
 refine pq (qa (iO 0)) ?_
 refine oE (eS (lR ?_))
 obtain rfl := sj h
 exact E_endF (.inr rfl) (res_cell (d := .agg [iI n121, iI n122, sC r3 s123, sC r3 s124, sC r2 s125]) 0 rfl sz33 rfl rfl rfl rfl (res_tmp rfl res_nil)) (vw_cons (vd_agg (vc_cons vc_v (vc_cons vc_v (vc_cons vc_s (vc_cons vc_s (vc_cons vc_s vc_nil)))))) (vw_cons (vd_one vc_v) vw_nil)) oW rfl rfl
 obtain rfl := Option.some.inj (elimR h)
 exact J_up (fun s hs => hs)
 obtain rfl := Option.some.inj (elimR h)
 exact J_up (fun s hs => hs)
noncomputable def law07_Some_b1 (n7 : Int) (n9 : Int) (s11 : Sl (Int × Int × Int)) (a : (List (Int × Int × Int)) × Int) : Option (((List (Int × Int × Int)) × Int) ⊕ ((List (Int × Int × Int)) ⊕ (Int × Int × Sl (Int) × Sl (Int) × Sl (Int)))) :=
 match a with
 | (l74, n75) => (if n75 < ((s11.l.length : Nat) : Int) then ((atS 3 s11 n75).bind fun (n80, n81, n82) => (if n80 < 0 then some (.inl (l74, (IntKind.i64.wrap (n75 + 1)))) else (if n81 < 0 then some (.inl (l74, (IntKind.i64.wrap (n75 + 1)))) else (if n7 = 0 then some (.inl (l74, (IntKind.i64.wrap (n75 + 1)))) else (if n9 = 0 then some (.inl (l74, (IntKind.i64.wrap (n75 + 1)))) else ((modO n80 n7).bind fun n88 => ((modO n81 n9).bind fun n90 => ((app l74 ([(n88, n90, n82)] : List (Int × Int × Int))).bind fun _ => some (.inl ((l74 ++ ([(n88, n90, n82)] : List (Int × Int × Int))), (IntKind.i64.wrap (n75 + 1)))))))))))) else some (.inr (.inl l74)))
noncomputable def law07_Some (a0 : Int × Int) (s3 : Sl (Int × Int × Int)) : Option ((Int × Int × Sl (Int) × Sl (Int) × Sl (Int))) :=
 match a0 with
 | (n1, n2) => ((law07_Size n1).bind fun n7 => ((law07_Size n2).bind fun n9 => ((law07_Few s3).bind fun s11 => ((loopO (law07_Some_b1 n7 n9 s11) (([] : List (Int × Int × Int)), 0)).bind (Sum.elim (fun l95 => ((ref07_Of 1 n7 n9 (mo 3 l95)).bind fun ((n98, n99, s100, s101, s102), n103) => (if n103 ≠ 0 then ((lenOk (IntKind.i64.wrap (n7 + 1))).bind fun _ => some (n7, n9, (⟨true, 1, (List.replicate (IntKind.i64.wrap (n7 + 1)).toNat (0 : Int))⟩ : Sl (Int)), (⟨false, 0, []⟩ : Sl (Int)), (⟨false, 0, []⟩ : Sl (Int)))) else some (n98, n99, s100, s101, s102)))) (fun u => some u))))))
theorem law07_Some_r (m : Nat) {a0 : Int × Int} {s3 : Sl (Int × Int × Int)} {out : (Int × Int × Sl (Int) × Sl (Int) × Sl (Int))} (h : law07_Some a0 s3 = some out) : RunsP E1 (m + 5) 16 [.agg (r23 a0), .one (Sl.t r76 s3)] (.fresh, [.agg (r32 out)]) := by
 obtain ⟨n1, n2⟩ := a0
 refine fn_F rfl (by rw [E1_fn]; exact show fiOf Tryd.prog 16 = _ by unfold fiOf; rw [Tryd.func16]; unfold Tryd.f16; rfl) rfl ?_
 dsimp only
 unfold law07_Some at h
 refine lS (lO ?_)
 refine ol_new rfl rfl rfl (q_box ty23 rfl (cs := [iC .u8 n1, iC .u8 n2]) rfl rfl) (fun k4 => ?_)
 refine ol_new rfl rfl rfl (q_alloc ty33 (row := [iI 0, iI 0, nC, nC, nC]) rfl rfl) (fun k5 => ?_)
 refine oE (eS (lS ?_))
 refine L_still (by kernel_rfl) ?_
 refine sq (q_ixA (a := 0) ty23 rfl ty5 rfl rfl rfl rfl) ?_
 refine sq (ql (.one (iC .u8 n1)) 1 sz5) ?_
 obtain ⟨n7, h6, h⟩ := bindS h
 refine sq (qc (iO n7) [.one (iC .u8 n1)] (law07_Size_r (m + 3) h6) (vw_cons (vd_one vc_v) vw_nil)) ?_
 refine sq (q_ixA (a := 1) ty23 rfl ty5 rfl rfl rfl rfl) ?_
 refine sq (ql (.one (iC .u8 n2)) 1 sz5) ?_
 obtain ⟨n9, h8, h⟩ := bindS h
 refine sq (qc (iO n9) [.one (iC .u8 n2)] (law07_Size_r (m + 3) h8) (vw_cons (vd_one vc_v) vw_nil)) ?_
 refine sq (qa (iO n7)) ?_
 refine sq (qa (iO n9)) ?_
 refine st_end (eS (lS (lO ?_)))
 refine pq (qa (.one nC)) ?_
 refine oN ?_
 refine pq (qm (.one (sF r76 s3))) ?_
 obtain ⟨s11, h10, h⟩ := bindS h
 refine ol_putX rfl rfl rfl (q_callX (v := fun fr12 => .one (.p fr12 (Sl.t r76 s11))) (args := [.one (sF r76 s3)]) (law07_Few_r (m + 3) h10) rfl rfl (vw_cons (vd_one vc_s) vw_nil) rfl rfl (fun fr => rfl)) (fun fr12 => ?_)
 refine pq (qa (.one (.p fr12 (Sl.t r76 s11)))) ?_
 refine oE (eS (lS (lS (lO ?_))))
 refine pq (qa (iO 0)) ?_
 refine oE (eS (lB ?_))
 refine L_addM (α := Int × Int × Int) r76 3 ?_
 let S1 : ((List (Int × Int × Int)) × Int) → Nat → (Nat → D) → Nat → D := fun a kt g => ups g [(1, .one (.p fr12 (Sl.t r76 s11))), (4, .one (.ptr k5 0 0)), (5, iO n7), (6, iO n9), (7, .one (moC a.1 kt)), (8, .one (iI a.2))]
 let SL1 : ((List (Int × Int × Int)) × Int) → Nat → BL := fun a kt => ([[(k5, 5, [[iI 0, iI 0, nC, nC, nC]])], moL r76 3 a.1 kt] : BL)
 let G1 : (Int × Int × Sl (Int) × Sl (Int) × Sl (Int)) → Ex → St → Prop := fun u => endQ E1 [.cell 4 33] (.fresh, [.agg (r32 u)])
 let Sx1 : (List (Int × Int × Int)) → Nat → (Nat → D) → Nat → D := fun a kt g => ups g [(4, .one (.ptr k5 0 0)), (5, iO n7), (6, iO n9), (7, .one (moC a kt))]
 let SLx1 : (List (Int × Int × Int)) → Nat → BL := fun a kt => ([[(k5, 5, [[iI 0, iI 0, nC, nC, nC]])], moL r76 3 a kt] : BL)
 let J1 : ((List (Int × Int × Int)) ⊕ (Int × Int × Sl (Int) × Sl (Int) × Sl (Int))) → Ex → St → Prop := JX 73 0 Sx1 SLx1 G1
 refine L_loopS (law07_Some_b1 n7 n9 s11) S1 SL1 J1 JX_n (([] : List (Int × Int × Int)), 0) h 1072 (ups_self ⟨rfl, rfl, rfl, rfl, rfl, rfl, trivial⟩) [1, 0] (by decide) rfl ?_ ?_
 rintro ⟨l74, n75⟩ k76 g out h
 change law07_Some_b1 n7 n9 s11 (l74, n75) = some out at h
 unfold law07_Some_b1 at h
 refine lS (lS (lO ?_))
 refine pq (qm (iO n75)) ?_
 refine pq (qm (.one (.p fr12 (Sl.t r76 s11)))) ?_
 refine pq (q_lenS rfl ty24 rfl rfl rfl rfl) ?_
 by_cases c77 : n75 < ((s11.l.length : Nat) : Int)
 replace h := ifT c77 h
 refine pq (qb (p_lss_tZ c77)) ?_
 refine oE (eS (cT rfl (lK (eS (lS (lB (lS (lO ?_))))))))
 refine pq (qm (.one (.p fr12 (Sl.t r76 s11)))) ?_
 refine pq (qm (iO n75)) ?_
 obtain ⟨⟨n80, n81, n82⟩, h79, h⟩ := bindS h
 obtain ⟨h79a, h79b, h79⟩ := atS_some h79
 refine pq (q_ixS rfl rfl h79a h79 (el24.trans (congrArg some h79b.symm))) ?_
 refine pq (q_loadI (v := .agg [iI n80, iI n81, iI n82]) rfl sz77 (map_get h79) rfl rfl) ?_
 refine ol_new rfl rfl rfl (q_alloc ty77 (row := [iI 0, iI 0, iI 0]) rfl rfl) (fun k83 => ?_)
 refine ow [[iI n80, iI n81, iI n82]] 0 sz77 ?_
 refine oE (eS (lS (lS (lO ?_))))
 refine pq (q_fieldP rfl fa77_0 rfl) ?_
 refine pq (ql (iO n80) 0 sz3) ?_
 by_cases c84 : n80 < 0
 replace h := ifT c84 h
 refine pq (qb (p_lss_tZ c84)) ?_
 refine pq (qm bt) ?_
 iterate 3 refine os ?_
 refine pq (qpt bt) ?_
 refine pq (qm bt) ?_
 iterate 2 refine os ?_
 refine pq (qpt bt) ?_
 refine pq (qm bt) ?_
 iterate 2 refine os ?_
 refine pq (qpt bt) ?_
 refine oE (eS (cT rfl (L_exit ?_)))
 refine E_seqX ?_
 refine bH (eS (lO ?_))
 refine pq (qm (iO n75)) ?_
 refine pq (qb p_addY) ?_
 refine pq (qa (iO (IntKind.i64.wrap (n75 + 1)))) ?_
 refine oE ?_
 obtain rfl := sj h
 exact E_next k76 (ups_self ⟨rfl, rfl, rfl, rfl, rfl, rfl, trivial⟩) [1, 2] (by decide) rfl
 replace h := ifF c84 h
 refine pq (qb (p_lss_fZ c84)) ?_
 refine pq (qm bf) ?_
 refine pq (q_fieldP rfl fa77_1 rfl) ?_
 refine pq (ql (iO n81) 0 sz3) ?_
 by_cases c85 : n81 < 0
 replace h := ifT c85 h
 refine pq (qb (p_lss_tZ c85)) ?_
 refine pq (qpf bt) ?_
 refine pq (qm bt) ?_
 iterate 2 refine os ?_
 refine pq (qpt bt) ?_
 refine pq (qm bt) ?_
 iterate 2 refine os ?_
 refine pq (qpt bt) ?_
 refine oE (eS (cT rfl (L_exit ?_)))
 refine E_seqX ?_
 refine bH (eS (lO ?_))
 refine pq (qm (iO n75)) ?_
 refine pq (qb p_addY) ?_
 refine pq (qa (iO (IntKind.i64.wrap (n75 + 1)))) ?_
 refine oE ?_
 obtain rfl := sj h
 exact E_next k76 (ups_self ⟨rfl, rfl, rfl, rfl, rfl, rfl, trivial⟩) [1, 2] (by decide) rfl
 replace h := ifF c85 h
 refine pq (qb (p_lss_fZ c85)) ?_
 refine pq (qpf bf) ?_
 refine pq (qm bf) ?_
 refine pq (qm (iO n7)) ?_
 by_cases c86 : n7 = 0
 replace h := ifT c86 h
 refine pq (qb (p_eql_tZ c86)) ?_
 refine pq (qpf bt) ?_
 refine pq (qm bt) ?_
 iterate 2 refine os ?_
 refine pq (qpt bt) ?_
 refine oE (eS (cT rfl (L_exit ?_)))
 refine E_seqX ?_
 refine bH (eS (lO ?_))
 refine pq (qm (iO n75)) ?_
 refine pq (qb p_addY) ?_
 refine pq (qa (iO (IntKind.i64.wrap (n75 + 1)))) ?_
 refine oE ?_
 obtain rfl := sj h
 exact E_next k76 (ups_self ⟨rfl, rfl, rfl, rfl, rfl, rfl, trivial⟩) [1, 2] (by decide) rfl
 replace h := ifF c86 h
 refine pq (qb (p_eql_fZ c86)) ?_
 refine pq (qpf bf) ?_
 refine pq (qm bf) ?_
 refine pq (qm (iO n9)) ?_
 by_cases c87 : n9 = 0
 replace h := ifT c87 h
 refine pq (qb (p_eql_tZ c87)) ?_
 refine pq (qpf bt) ?_
 refine oE (eS (cT rfl (L_exit ?_)))
 refine E_seqX ?_
 refine bH (eS (lO ?_))
 refine pq (qm (iO n75)) ?_
 refine pq (qb p_addY) ?_
 refine pq (qa (iO (IntKind.i64.wrap (n75 + 1)))) ?_
 refine oE ?_
 obtain rfl := sj h
 exact E_next k76 (ups_self ⟨rfl, rfl, rfl, rfl, rfl, rfl, trivial⟩) [1, 2] (by decide) rfl
 replace h := ifF c87 h
 refine pq (qb (p_eql_fZ c87)) ?_
 refine pq (qpf bf) ?_
 refine oE (eS (cF rfl (lK (eS (lS (lO ?_))))))
 refine pq (q_fieldP rfl fa77_0 rfl) ?_
 refine pq (ql (iO n80) 0 sz3) ?_
 refine pq (qm (iO n7)) ?_
 obtain ⟨n88, h89, h⟩ := bindS h
 refine pq (q_bin rfl rfl (modO_p h89) rfl) ?_
 refine pq (q_fieldP rfl fa77_0 rfl) ?_
 refine ow [[iI n88, iI n81, iI n82]] 0 sz3 ?_
 refine oN ?_
 refine pq (q_fieldP rfl fa77_1 rfl) ?_
 refine pq (ql (iO n81) 0 sz3) ?_
 refine pq (qm (iO n9)) ?_
 obtain ⟨n90, h91, h⟩ := bindS h
 refine pq (q_bin rfl rfl (modO_p h91) rfl) ?_
 refine pq (q_fieldP rfl fa77_1 rfl) ?_
 refine ow [[iI n88, iI n90, iI n82]] 0 sz3 ?_
 refine oR ?_
 refine pq (qm (.one (moC l74 k76))) ?_
 refine pq (ql (.agg [iI n88, iI n90, iI n82]) 0 sz77) ?_
 refine ol_new rfl rfl rfl (q_bslice (cs := [iI n88, iI n90, iI n82]) (es := (([(n88, n90, n82)] : List (Int × Int × Int))).map (rowC r76)) ty24 rfl ty77 rfl rfl rfl rfl rfl) (fun k92 => ?_)
 obtain ⟨_, h93, h⟩ := bindS h
 obtain ⟨h93b, rfl⟩ := app_some h93
 refine ol_appM (r := r76) (l := l74) (ys := ([(n88, n90, n82)] : List (Int × Int × Int))) 3 rfl rfl rfl rfl rfl rfl (el_ownM (l := ([(n88, n90, n82)] : List (Int × Int × Int))) 0 rfl) rfl h93 (fun y => rfl) el24 ty24 rfl rfl rfl rfl rfl (fun k94 => ?_)
 refine pq (qa (.one (moC (l74 ++ ([(n88, n90, n82)] : List (Int × Int × Int))) k94))) ?_
 refine oE (bN (eS (lO ?_)))
 refine pq (qm (iO n75)) ?_
 refine pq (qb p_addY) ?_
 refine pq (qa (iO (IntKind.i64.wrap (n75 + 1)))) ?_
 refine oE ?_
 obtain rfl := sj h
 exact E_next k94 (ups_self ⟨rfl, rfl, rfl, rfl, rfl, rfl, trivial⟩) [3, 0] (by decide) rfl
 replace h := ifF c77 h
 refine pq (qb (p_lss_fZ c77)) ?_
 refine oE (eS (cF rfl (L_exit ?_)))
 refine E_seqX ?_
 obtain rfl := sj h
 refine E_out ?_
 exact (E_exit k76 (ups_self ⟨rfl, rfl, rfl, rfl, trivial⟩) [0, 1] (by decide) rfl)
 rintro (l95 | u) h
 refine J_x (fun k96 g => ?_)
 replace h := elimL h
 refine bH (eS (lS (lO ?_)))
 refine pq (qm (iO n7)) ?_
 refine pq (qm (iO n9)) ?_
 refine pq (qm (.one (moC l95 k96))) ?_
 obtain ⟨⟨⟨n98, n99, s100, s101, s102⟩, n103⟩, h97, h⟩ := bindS h
 refine pq (qc (.tup [.agg [iI n98, iI n99, sC r3 s100, sC r3 s101, sC r2 s102], iO n103]) [iO 1, iO n7, iO n9, .one (moC l95 k96)] (ref07_Of_r (m + 0) h97) (vw_cons (vd_one vc_v) (vw_cons (vd_one vc_v) (vw_cons (vd_one vc_v) (vw_cons (vd_one (vc_M (r := r76) 1 rfl (fun x h m => rfl))) vw_nil))))) ?_
 refine pq (qm (.tup [.agg [iI n98, iI n99, sC r3 s100, sC r3 s101, sC r2 s102], iO n103])) ?_
 refine pq (q_ext (v := .agg [iI n98, iI n99, sC r3 s100, sC r3 s101, sC r2 s102]) rfl rfl) ?_
 refine pq (q_ext (v := iO n103) rfl rfl) ?_
 refine ol_new rfl rfl rfl (q_alloc ty33 (row := [iI 0, iI 0, nC, nC, nC]) rfl rfl) (fun k104 => ?_)
 refine ow [[iI n98, iI n99, sC r3 s100, sC r3 s101, sC r2 s102]] 0 sz33 ?_
 refine pq (qa (iO n103)) ?_
 refine oE (eS (lS (lS (lO ?_))))
 refine pq (qm (iO n103)) ?_
 by_cases c105 : n103 ≠ 0
 replace h := ifT c105 h
 refine pq (qb (p_neq_tZ c105)) ?_
 refine oE (eS (cT rfl (lS (lO ?_))))
 refine pq (qm (iO n7)) ?_
 refine pq (qm (iO n9)) ?_
 refine ol_scallN (args := [iO n7, iO n9]) rfl rfl rfl ax37 (by rw [E1_fn]; exact show fiOf Tryd.prog 37 = _ by unfold fiOf; rw [Tryd.func37]; unfold Tryd.f37; rfl) rfl rfl rfl ?_
 dsimp only
 refine lS (lO ?_)
 refine ol_new rfl rfl rfl (q_alloc ty33 (row := [iI 0, iI 0, nC, nC, nC]) rfl rfl) (fun k106 => ?_)
 refine oN ?_
 refine pq (qm (iO n7)) ?_
 refine pq (qm (iO n9)) ?_
 refine pq (qm (iO n7)) ?_
 refine pq (qb p_addY) ?_
 obtain ⟨u107, h108, h⟩ := bindS h
 refine ol_new rfl rfl rfl (q_mkslice (r := rowC r3) (a := (0 : Int)) ty30 rfl ty3 rfl rfl (lenOk_some h108).1 (lenOk_some h108).2 rfl rfl) (fun k109 => ?_)
 refine pq (q_build (cs := [iI n7, iI n9, .own k109 0 ((List.replicate (IntKind.i64.wrap (n7 + 1)).toNat (0 : Int))).length, nC, nC]) ty33 rfl pl33 rfl) ?_
 refine ow [[iI n7, iI n9, .own k109 0 ((List.replicate (IntKind.i64.wrap (n7 + 1)).toNat (0 : Int))).length, nC, nC]] 1 sz33 ?_
 refine oE (eS (lR ?_))
 refine E_call (v := .agg [iI n7, iI n9, .own k109 0 ((List.replicate (IntKind.i64.wrap (n7 + 1)).toNat (0 : Int))).length, nC, nC]) (.inr rfl) (res_cell (d := .agg [iI n7, iI n9, .own k109 0 ((List.replicate (IntKind.i64.wrap (n7 + 1)).toNat (0 : Int))).length, nC, nC]) 1 rfl sz33 rfl rfl rfl rfl res_nil) rfl ?_
 refine ow [[iI n7, iI n9, .own k109 0 ((List.replicate (IntKind.i64.wrap (n7 + 1)).toNat (0 : Int))).length, nC, nC]] 3 sz33 ?_
 refine oE (eS (lR (eR ?_)))
 obtain rfl := sj h
 exact E_endF (.inr rfl) (res_cell (d := .agg [iI n7, iI n9, .own k109 0 ((List.replicate (IntKind.i64.wrap (n7 + 1)).toNat (0 : Int))).length, nC, nC]) 3 rfl sz33 rfl rfl rfl rfl res_nil) (vw_cons (vd_agg (vc_cons vc_v (vc_cons vc_v (vc_cons (vc_own (r := r3) 0 rfl (fun x h m => rfl)) (vc_cons vc_s (vc_cons vc_s vc_nil)))))) vw_nil) oG rfl rfl
 replace h := ifF c105 h
 refine pq (qb (p_neq_fZ c105)) ?_
 refine oE (eS (cF rfl (lK (eS (lS (lO ?_))))))
 refine pq (ql (.agg [iI n98, iI n99, sC r3 s100, sC r3 s101, sC r2 s102]) 0 sz33) ?_
 refine ow [[iI n98, iI n99, sC r3 s100, sC r3 s101, sC r2 s102]] 1 sz33 ?_
 refine oE (eS (lR ?_))
 obtain rfl := sj h
 exact E_endF (.inr rfl) (res_cell (d := .agg [iI n98, iI n99, sC r3 s100, sC r3 s101, sC r2 s102]) 1 rfl sz33 rfl rfl rfl rfl res_nil) (vw_cons (vd_agg (vc_cons vc_v (vc_cons vc_v (vc_cons vc_s (vc_cons vc_s (vc_cons vc_s vc_nil)))))) vw_nil) oG rfl rfl
 obtain rfl := Option.some.inj (elimR h)
 exact J_up (fun s hs => hs)
noncomputable def law02_Value (n1 : Int) (n2 : Int) : Option (Int) :=
 (if n1 = 5 then some n2 else (if n1 = 2 then some (andI .i64 n2 1) else ((modO (andI .i64 n2 4611686018427387903) 5).bind fun n5 => (if n5 = 0 then some 4611686018427387904 else some (andI .i64 n2 4611686018427387903)))))
theorem law02_Value_r (m : Nat) {n1 : Int} {n2 : Int} {out : Int} (h : law02_Value n1 n2 = some out) : RunsP E1 (m + 1) 20 [.one (iT .i64 n1), .one (iT .i64 n2)] (.fresh, [.one (iT .i64 out)]) := by
 refine fn_F rfl (by rw [E1_fn]; exact show fiOf Tryd.prog 20 = _ by unfold fiOf; rw [Tryd.func20]; unfold Tryd.f20; rfl) rfl ?_
 dsimp only
 unfold law02_Value at h
 refine lS (lO ?_)
 refine pq (qa (iO 0)) ?_
 refine oN ?_
 refine pq (qm (iO n1)) ?_
 refine oE (eS (lB (lS (lO ?_))))
 by_cases c3 : n1 = 5
 replace h := ifT c3 h
 refine pq (qb (p_eql_tZ c3)) ?_
 refine pq (qa bt) ?_
 refine oE (eS (cT rfl (lS (lO ?_))))
 refine pq (qm (iO n2)) ?_
 refine pq (qa (iO n2)) ?_
 refine oE (eS (lR (bR ?_)))
 obtain rfl := sj h
 exact eF1
 replace h := ifF c3 h
 refine pq (qb (p_eql_fZ c3)) ?_
 refine pq (qa bf) ?_
 refine oE (eS (cF rfl (lS (lO ?_))))
 by_cases c4 : n1 = 2
 replace h := ifT c4 h
 refine pq (qb (p_eql_tZ c4)) ?_
 refine pq (qa bt) ?_
 refine oE (eS (cT rfl (lS (lO ?_))))
 refine pq (qm (iO n2)) ?_
 refine pq (q_bin rfl rfl (p_and _ _ _ _ _ _ _) rfl) ?_
 refine pq (qa (iO (andI .i64 n2 1))) ?_
 refine oE (eS (lR (bR ?_)))
 obtain rfl := sj h
 exact eF1
 replace h := ifF c4 h
 refine pq (qb (p_eql_fZ c4)) ?_
 refine pq (qa bf) ?_
 refine oE (eS (cF rfl (lS (lO ?_))))
 refine pq (qm (iO n2)) ?_
 refine pq (q_bin rfl rfl (p_and _ _ _ _ _ _ _) rfl) ?_
 refine pq (qa (iO (andI .i64 n2 4611686018427387903))) ?_
 refine oE (eS (lS (lS (lO ?_))))
 refine pq (qm (iO (andI .i64 n2 4611686018427387903))) ?_
 obtain ⟨n5, h6, h⟩ := bindS h
 refine pq (q_bin rfl rfl (modO_p h6) rfl) ?_
 by_cases c7 : n5 = 0
 replace h := ifT c7 h
 refine pq (qb (p_eql_tZ c7)) ?_
 refine oE (eS (cT rfl (lS (lO ?_))))
 refine pq (qa (iO 4611686018427387904)) ?_
 refine oE (eS (lR (eR (bR ?_))))
 obtain rfl := sj h
 exact eF1
 replace h := ifF c7 h
 refine pq (qb (p_eql_fZ c7)) ?_
 refine oE (eS (cF rfl (lK (eS (lS (lO ?_))))))
 refine pq (qm (iO (andI .i64 n2 4611686018427387903))) ?_
 refine pq (qa (iO (andI .i64 n2 4611686018427387903))) ?_
 refine oE (eS (lR (bR ?_)))
 obtain rfl := sj h
 exact eF1
noncomputable def law02_Factor (n1 : Int) (n2 : Int) : Option (Int) :=
 (if n1 = 5 then ((modO n2 2147483648).bind fun n4 => some n4) else ((law02_Value n1 n2).bind fun n7 => some n7))
theorem law02_Factor_r (m : Nat) {n1 : Int} {n2 : Int} {out : Int} (h : law02_Factor n1 n2 = some out) : RunsP E1 (m + 2) 17 [.one (iT .i64 n1), .one (iT .i64 n2)] (.fresh, [.one (iT .i64 out)]) := by
 refine fn_F rfl (by rw [E1_fn]; exact show fiOf Tryd.prog 17 = _ by unfold fiOf; rw [Tryd.func17]; unfold Tryd.f17; rfl) rfl ?_
 dsimp only
 unfold law02_Factor at h
 refine lS (lO ?_)
 refine pq (qa (iO 0)) ?_
 refine oE (eS (lS (lS (lO ?_))))
 refine pq (qm (iO n1)) ?_
 by_cases c3 : n1 = 5
 replace h := ifT c3 h
 refine pq (qb (p_eql_tZ c3)) ?_
 refine oE (eS (cT rfl (lS (lO ?_))))
 refine pq (qm (iO n2)) ?_
 obtain ⟨n4, h5, h⟩ := bindS h
 refine pq (q_bin rfl rfl (modO_p h5) rfl) ?_
 refine pq (qa (iO n4)) ?_
 refine oE (eS (lR (eR ?_)))
 obtain rfl := sj h
 exact eF1
 replace h := ifF c3 h
 refine pq (qb (p_eql_fZ c3)) ?_
 refine oE (eS (cF rfl (lK (eS (lS (lO ?_))))))
 refine pq (qm (iO n1)) ?_
 refine pq (qm (iO n2)) ?_
 obtain ⟨n7, h6, h⟩ := bindS h
 refine pq (qc (iO n7) [iO n1, iO n2] (law02_Value_r (m + 0) h6) (vw_cons (vd_one vc_v) (vw_cons (vd_one vc_v) vw_nil))) ?_
 refine pq (qa (iO n7)) ?_
 refine oE (eS (lR ?_))
 obtain rfl := sj h
 exact eF1
noncomputable def law13_Task_Matrix_b1 (s16 : Sl (Int)) (n19 : Int) (a : List (Int) × Int) : Option ((List (Int) × Int) ⊕ ((List (Int)) ⊕ (Int × Int × Sl (Int) × Sl (Int) × Sl (Int)))) :=
 match a with
 | (l43, n44) => (if n44 < ((s16.l.length : Nat) : Int) then ((atS 1 s16 n44).bind fun n49 => ((law02_Factor n19 n49).bind fun n51 => ((app l43 ([n51] : List (Int))).bind fun _ => some (.inl ((l43 ++ ([n51] : List (Int))), (IntKind.i64.wrap (n44 + 1))))))) else some (.inr (.inl l43)))
noncomputable def law13_Task_Matrix (a0 : Int × (Int × Int) × (Sl (Int × Int × Int)) × (Sl (Int × Int)) × (Sl (Int × Int)) × Sl (Int) × Bool) : Option ((Int × Int × Sl (Int) × Sl (Int) × Sl (Int))) :=
 match a0 with
 | (n1, (n2, n3), s4, s5, s6, s7, b8) => ((law07_Some (n2, n3) s4).bind fun (n12, n13, s14, s15, s16) => ((law13_Right n1).bind fun n19 => ((loopO (law13_Task_Matrix_b1 s16 n19) (([] : List (Int)), 0)).bind (Sum.elim (fun l55 => some (n12, n13, s14, s15, (mo 1 l55))) (fun u => some u)))))
theorem law13_Task_Matrix_r (m : Nat) {a0 : Int × (Int × Int) × (Sl (Int × Int × Int)) × (Sl (Int × Int)) × (Sl (Int × Int)) × Sl (Int) × Bool} {out : (Int × Int × Sl (Int) × Sl (Int) × Sl (Int))} (h : law13_Task_Matrix a0 = some out) : RunsP E1 (m + 6) 6 [.agg (r27 a0)] (.fresh, [.agg (r32 out)]) := by
 obtain ⟨n1, ⟨n2, n3⟩, s4, s5, s6, s7, b8⟩ := a0
 refine fn_F rfl (by rw [E1_fn]; exact show fiOf Tryd.prog 6 = _ by unfold fiOf; rw [Tryd.func6]; unfold Tryd.f6; rfl) rfl ?_
 dsimp only
 unfold law13_Task_Matrix at h
 refine lS (lO ?_)
 refine ol_new rfl rfl rfl (q_box ty28 rfl (cs := [iI n1, iC .u8 n2, iC .u8 n3, sF r76 s4, sF r57 s5, sF r57 s6, sF r62 s7, bC b8]) rfl rfl) (fun k9 => ?_)
 refine ol_new rfl rfl rfl (q_alloc ty33 (row := [iI 0, iI 0, nC, nC, nC]) rfl rfl) (fun k10 => ?_)
 refine oN ?_
 refine pq (q_fieldP rfl fa28_1 rfl) ?_
 refine pq (ql (.agg [iC .u8 n2, iC .u8 n3]) 1 sz23) ?_
 refine pq (q_fieldP rfl fa28_2 rfl) ?_
 refine pq (ql (.one (sF r76 s4)) 1 sz24) ?_
 obtain ⟨⟨n12, n13, s14, s15, s16⟩, h11, h⟩ := bindS h
 refine pq (qc (.agg [iI n12, iI n13, sC r3 s14, sC r3 s15, sC r2 s16]) [.agg [iC .u8 n2, iC .u8 n3], .one (sF r76 s4)] (law07_Some_r (m + 0) h11) (vw_cons (vd_agg (vc_cons vc_v (vc_cons vc_v vc_nil))) (vw_cons (vd_one vc_s) vw_nil))) ?_
 refine ol_new rfl rfl rfl (q_alloc ty33 (row := [iI 0, iI 0, nC, nC, nC]) rfl rfl) (fun k17 => ?_)
 refine ow [[iI n12, iI n13, sC r3 s14, sC r3 s15, sC r2 s16]] 0 sz33 ?_
 refine oN ?_
 refine pq (q_fieldP rfl fa28_0 rfl) ?_
 refine pq (ql (iO n1) 2 sz22) ?_
 obtain ⟨n19, h18, h⟩ := bindS h
 refine pq (qc (iO n19) [iO n1] (law13_Right_r (m + 4) h18) (vw_cons (vd_one vc_v) vw_nil)) ?_
 refine pq (qa (iO n19)) ?_
 refine oN ?_
 refine pq (qa (.one nC)) ?_
 refine oE (eS (lS (lS (lO ?_))))
 refine pq (qa (iO 0)) ?_
 refine oE (eS (lB ?_))
 refine L_addM (α := Int) r2 1 ?_
 let S1 : (List (Int) × Int) → Nat → (Nat → D) → Nat → D := fun a kt g => ups g [(2, .one (.ptr k10 0 0)), (3, .one (.ptr k17 0 0)), (4, iO n19), (5, .one (moC a.1 kt)), (6, .one (iI a.2))]
 let SL1 : (List (Int) × Int) → Nat → BL := fun a kt => ([[(k10, 5, [[iI 0, iI 0, nC, nC, nC]])], [(k17, 5, [[iI n12, iI n13, sC r3 s14, sC r3 s15, sC r2 s16]])], moL r2 1 a.1 kt] : BL)
 let G1 : (Int × Int × Sl (Int) × Sl (Int) × Sl (Int)) → Ex → St → Prop := fun u => endQ E1 [.cell 2 33] (.fresh, [.agg (r32 u)])
 let Sx1 : (List (Int)) → Nat → (Nat → D) → Nat → D := fun a kt g => ups g [(2, .one (.ptr k10 0 0)), (3, .one (.ptr k17 0 0)), (5, .one (moC a kt))]
 let SLx1 : (List (Int)) → Nat → BL := fun a kt => ([[(k10, 5, [[iI 0, iI 0, nC, nC, nC]])], [(k17, 5, [[iI n12, iI n13, sC r3 s14, sC r3 s15, sC r2 s16]])], moL r2 1 a kt] : BL)
 let J1 : ((List (Int)) ⊕ (Int × Int × Sl (Int) × Sl (Int) × Sl (Int))) → Ex → St → Prop := JX 35 0 Sx1 SLx1 G1
 refine L_loopS (law13_Task_Matrix_b1 s16 n19) S1 SL1 J1 JX_n (([] : List (Int)), 0) h 1041 (ups_self ⟨rfl, rfl, rfl, rfl, rfl, trivial⟩) [2, 1, 0] (by decide) rfl ?_ ?_
 rintro ⟨l43, n44⟩ k45 g out h
 change law13_Task_Matrix_b1 s16 n19 (l43, n44) = some out at h
 unfold law13_Task_Matrix_b1 at h
 refine lS (lS (lO ?_))
 refine pq (qm (iO n44)) ?_
 refine pq (q_fieldP rfl fa33_4 rfl) ?_
 refine pq (ql (.one (sC r2 s16)) 1 sz31) ?_
 refine pq (q_lenS rfl ty31 rfl rfl rfl rfl) ?_
 by_cases c46 : n44 < ((s16.l.length : Nat) : Int)
 replace h := ifT c46 h
 refine pq (qb (p_lss_tZ c46)) ?_
 refine oE (eS (cT rfl (lK (eS (lS (lB (lO ?_)))))))
 refine pq (qm (.one (moC l43 k45))) ?_
 refine pq (qm (iO n19)) ?_
 refine pq (q_fieldP rfl fa33_4 rfl) ?_
 refine pq (ql (.one (sC r2 s16)) 1 sz31) ?_
 refine pq (qm (iO n44)) ?_
 obtain ⟨n49, h48, h⟩ := bindS h
 obtain ⟨h48a, h48b, h48⟩ := atS_some h48
 refine pq (q_ixS rfl rfl h48a h48 (el31.trans (congrArg some h48b.symm))) ?_
 refine pq (q_loadI (v := iO n49) rfl sz2 (map_get h48) rfl rfl) ?_
 obtain ⟨n51, h50, h⟩ := bindS h
 refine pq (qc (iO n51) [iO n19, iO n49] (law02_Factor_r (m + 3) h50) (vw_cons (vd_one vc_v) (vw_cons (vd_one vc_v) vw_nil))) ?_
 refine ol_new rfl rfl rfl (q_bslice (cs := [iI n51]) (es := (([n51] : List (Int))).map (rowC r2)) ty31 rfl ty2 rfl rfl rfl rfl rfl) (fun k52 => ?_)
 obtain ⟨_, h53, h⟩ := bindS h
 obtain ⟨h53b, rfl⟩ := app_some h53
 refine ol_appM (r := r2) (l := l43) (ys := ([n51] : List (Int))) 3 rfl rfl rfl rfl rfl rfl (el_ownM (l := ([n51] : List (Int))) 0 rfl) rfl h53 (fun y => rfl) el31 ty31 rfl rfl rfl rfl rfl (fun k54 => ?_)
 refine pq (qa (.one (moC (l43 ++ ([n51] : List (Int))) k54))) ?_
 refine oE (bN (eS (lO ?_)))
 refine pq (qm (iO n44)) ?_
 refine pq (qb p_addY) ?_
 refine pq (qa (iO (IntKind.i64.wrap (n44 + 1)))) ?_
 refine oE ?_
 obtain rfl := sj h
 exact E_next k54 (ups_self ⟨rfl, rfl, rfl, rfl, rfl, trivial⟩) [2, 3, 0] (by decide) rfl
 replace h := ifF c46 h
 refine pq (qb (p_lss_fZ c46)) ?_
 refine oE (eS (cF rfl (L_exit ?_)))
 refine E_seqX ?_
 obtain rfl := sj h
 refine E_out ?_
 exact (E_exit k45 (ups_self ⟨rfl, rfl, rfl, trivial⟩) [0, 1, 2] (by decide) rfl)
 rintro (l55 | u) h
 refine J_x (fun k56 g => ?_)
 replace h := elimL h
 refine bH (eS (lS (lO ?_)))
 refine pq (qm (.one (moC l55 k56))) ?_
 refine pq (q_fieldP rfl fa33_4 rfl) ?_
 refine ow [[iI n12, iI n13, sC r3 s14, sC r3 s15, moC l55 k56]] 1 sz31 ?_
 refine oN ?_
 refine pq (ql (.agg [iI n12, iI n13, sC r3 s14, sC r3 s15, moC l55 k56]) 1 sz33) ?_
 refine ow [[iI n12, iI n13, sC r3 s14, sC r3 s15, moC l55 k56]] 0 sz33 ?_
 refine oE (eS (lR ?_))
 obtain rfl := sj h
 exact E_endF (.inr rfl) (res_cell (d := .agg [iI n12, iI n13, sC r3 s14, sC r3 s15, moC l55 k56]) 0 rfl sz33 rfl rfl rfl rfl res_nil) (vw_cons (vd_agg (vc_cons vc_v (vc_cons vc_v (vc_cons vc_s (vc_cons vc_s (vc_cons (vc_M (r := r2) 2 rfl (fun x h m => rfl)) vc_nil)))))) vw_nil) oG rfl rfl
 obtain rfl := Option.some.inj (elimR h)
 exact J_up (fun s hs => hs)
noncomputable def ref09_Of_b2 (s51 : Sl (Int × Int × Int)) (a : Int × (List (Int × Int))) : Option ((Int × (List (Int × Int))) ⊕ ((List (Int × Int)) ⊕ ((Int × (Sl (Int × Int))) × Int))) :=
 match a with
 | (n89, l90) => (if n89 < ((s51.l.length : Nat) : Int) then ((atS 3 s51 n89).bind fun (n102, n103, n104) => ((app l90 ([(n103, n104)] : List (Int × Int))).bind fun _ => some (.inl ((IntKind.i64.wrap (n89 + 1)), (l90 ++ ([(n103, n104)] : List (Int × Int))))))) else some (.inr (.inl l90)))
noncomputable def ref09_Of_b1 (n2 : Int) (s3 : Sl (Int × Int)) (a : (List (Int × Int × Int)) × Int) : Option (((List (Int × Int × Int)) × Int) ⊕ ((List (Int × Int × Int)) ⊕ ((Int × (Sl (Int × Int))) × Int))) :=
 match a with
 | (l35, n36) => (if n36 < ((s3.l.length : Nat) : Int) then ((atS 2 s3 n36).bind fun (n41, n42) => (if n41 < 0 then some (.inr (.inr ((0, (⟨false, 0, []⟩ : Sl (Int × Int))), 3))) else (if n41 ≥ n2 then some (.inr (.inr ((0, (⟨false, 0, []⟩ : Sl (Int × Int))), 3))) else ((app l35 ([(0, n41, n42)] : List (Int × Int × Int))).bind fun _ => some (.inl ((l35 ++ ([(0, n41, n42)] : List (Int × Int × Int))), (IntKind.i64.wrap (n36 + 1)))))))) else some (.inr (.inl l35)))
noncomputable def ref09_Of (n1 : Int) (n2 : Int) (s3 : Sl (Int × Int)) : Option ((Int × (Sl (Int × Int))) × Int) :=
 ((ref02_Is n1).bind fun b6 => (if b6 = true then (if n2 < 0 then some ((0, (⟨false, 0, []⟩ : Sl (Int × Int))), 3) else (if n2 > 4096 then some ((0, (⟨false, 0, []⟩ : Sl (Int × Int))), 3) else ((loopO (ref09_Of_b1 n2 s3) (([] : List (Int × Int × Int)), 0)).bind (Sum.elim (fun l48 => ((ref05_Combine n1 (mo 3 l48)).bind fun (s51, n52) => (if n52 ≠ 0 then some ((0, (⟨false, 0, []⟩ : Sl (Int × Int))), n52) else ((loopO (ref09_Of_b2 s51) (0, ([] : List (Int × Int)))).bind (Sum.elim (fun l106 => some ((n2, (mo 2 l106)), 0)) (fun u => some u)))))) (fun u => some u))))) else some ((0, (⟨false, 0, []⟩ : Sl (Int × Int))), 8)))
theorem ref09_Of_r (m : Nat) {n1 : Int} {n2 : Int} {s3 : Sl (Int × Int)} {out : (Int × (Sl (Int × Int))) × Int} (h : ref09_Of n1 n2 s3 = some out) : RunsP E1 (m + 4) 38 [.one (iT .i64 n1), .one (iT .i64 n2), .one (Sl.t r57 s3)] (.fresh, [.agg (r35 out.1), .one (iT .i64 out.2)]) := by
 refine fn_F rfl (by rw [E1_fn]; exact show fiOf Tryd.prog 38 = _ by unfold fiOf; rw [Tryd.func38]; unfold Tryd.f38; rfl) rfl ?_
 dsimp only
 unfold ref09_Of at h
 refine lS (lO ?_)
 refine ol_new rfl rfl rfl (q_alloc ty36 (row := [iI 0, nC]) rfl rfl) (fun k4 => ?_)
 refine pq (qa (iO 0)) ?_
 refine oE (eS (lS (lS (lO ?_))))
 refine pq (qm (iO n1)) ?_
 obtain ⟨b6, h5, h⟩ := bindS h
 refine pq (qc (bO b6) [iO n1] (ref02_Is_r (m + 2) h5) (vw_cons (vd_one vc_v) vw_nil)) ?_
 rcases b6 with _ | _
 replace h := wF h
 refine pq (q_not rfl) ?_
 refine oE (eS (cT rfl (lS (lO ?_))))
 refine pq (q_build (cs := [iI 0, nC]) ty36 rfl pl36 rfl) ?_
 refine ow [[iI 0, nC]] 0 sz36 ?_
 refine pq (qa (iO 8)) ?_
 refine oE (eS (lR (eR ?_)))
 obtain rfl := sj h
 exact E_endF (.inr rfl) (res_cell (d := .agg [iI 0, nC]) 0 rfl sz36 rfl rfl rfl rfl (res_tmp rfl res_nil)) (vw_cons (vd_agg (vc_cons vc_v (vc_cons vc_s vc_nil))) (vw_cons (vd_one vc_v) vw_nil)) oW rfl rfl
 replace h := wT h
 refine pq (q_not rfl) ?_
 refine oE (eS (cF rfl (lK (eS (lS (lS (lO ?_)))))))
 refine pq (qm (iO n2)) ?_
 by_cases c7 : n2 < 0
 replace h := ifT c7 h
 refine pq (qb (p_lss_tZ c7)) ?_
 refine pq (qm bt) ?_
 iterate 2 refine os ?_
 refine pq (qpt bt) ?_
 refine oE (eS (cT rfl (lS (lO ?_))))
 refine pq (q_build (cs := [iI 0, nC]) ty36 rfl pl36 rfl) ?_
 refine ow [[iI 0, nC]] 0 sz36 ?_
 refine pq (qa (iO 3)) ?_
 refine oE (eS (lR (eR ?_)))
 obtain rfl := sj h
 exact E_endF (.inr rfl) (res_cell (d := .agg [iI 0, nC]) 0 rfl sz36 rfl rfl rfl rfl (res_tmp rfl res_nil)) (vw_cons (vd_agg (vc_cons vc_v (vc_cons vc_s vc_nil))) (vw_cons (vd_one vc_v) vw_nil)) oW rfl rfl
 replace h := ifF c7 h
 refine pq (qb (p_lss_fZ c7)) ?_
 refine pq (qm bf) ?_
 refine pq (qm (iO n2)) ?_
 by_cases c8 : n2 > 4096
 replace h := ifT c8 h
 refine pq (qb (p_gtr_tZ c8)) ?_
 refine pq (qpf bt) ?_
 refine oE (eS (cT rfl (lS (lO ?_))))
 refine pq (q_build (cs := [iI 0, nC]) ty36 rfl pl36 rfl) ?_
 refine ow [[iI 0, nC]] 0 sz36 ?_
 refine pq (qa (iO 3)) ?_
 refine oE (eS (lR (eR ?_)))
 obtain rfl := sj h
 exact E_endF (.inr rfl) (res_cell (d := .agg [iI 0, nC]) 0 rfl sz36 rfl rfl rfl rfl (res_tmp rfl res_nil)) (vw_cons (vd_agg (vc_cons vc_v (vc_cons vc_s vc_nil))) (vw_cons (vd_one vc_v) vw_nil)) oW rfl rfl
 replace h := ifF c8 h
 refine pq (qb (p_gtr_fZ c8)) ?_
 refine pq (qpf bf) ?_
 refine oE (eS (cF rfl (lK (eS (lS (lO ?_))))))
 refine pq (qa (.one nC)) ?_
 refine oE (eS (lS (lS (lO ?_))))
 refine pq (qa (iO 0)) ?_
 refine oE (eS (lB ?_))
 refine L_addM (α := Int × Int × Int) r103 3 ?_
 let S1 : ((List (Int × Int × Int)) × Int) → Nat → (Nat → D) → Nat → D := fun a kt g => ups g [(0, iO n1), (1, iO n2), (2, .one (sF r57 s3)), (6, .one (.ptr k4 0 0)), (8, .one (moC a.1 kt)), (9, .one (iI a.2))]
 let SL1 : ((List (Int × Int × Int)) × Int) → Nat → BL := fun a kt => ([[(k4, 2, [[iI 0, nC]])], moL r103 3 a.1 kt] : BL)
 let G1 : ((Int × (Sl (Int × Int))) × Int) → Ex → St → Prop := fun u => endQ E1 [.cell 6 36, .tmp 7] (.fresh, [.agg (r35 u.1), .one (iT .i64 u.2)])
 let Sx1 : (List (Int × Int × Int)) → Nat → (Nat → D) → Nat → D := fun a kt g => ups g [(0, iO n1), (1, iO n2), (6, .one (.ptr k4 0 0)), (8, .one (moC a kt))]
 let SLx1 : (List (Int × Int × Int)) → Nat → BL := fun a kt => ([[(k4, 2, [[iI 0, nC]])], moL r103 3 a kt] : BL)
 let J1 : ((List (Int × Int × Int)) ⊕ ((Int × (Sl (Int × Int))) × Int)) → Ex → St → Prop := JX 95 0 Sx1 SLx1 G1
 refine L_loopS (ref09_Of_b1 n2 s3) S1 SL1 J1 JX_n (([] : List (Int × Int × Int)), 0) h 1033 (ups_self ⟨rfl, rfl, rfl, rfl, rfl, rfl, trivial⟩) [1, 0] (by decide) rfl ?_ ?_
 rintro ⟨l35, n36⟩ k37 g out h
 change ref09_Of_b1 n2 s3 (l35, n36) = some out at h
 unfold ref09_Of_b1 at h
 refine lS (lS (lO ?_))
 refine pq (qm (iO n36)) ?_
 refine pq (qm (.one (sF r57 s3))) ?_
 refine pq (q_lenS rfl ty25 rfl rfl rfl rfl) ?_
 by_cases c38 : n36 < ((s3.l.length : Nat) : Int)
 replace h := ifT c38 h
 refine pq (qb (p_lss_tZ c38)) ?_
 refine oE (eS (cT rfl (lK (eS (lS (lB (lS (lS (lO ?_)))))))))
 refine pq (qm (.one (sF r57 s3))) ?_
 refine pq (qm (iO n36)) ?_
 obtain ⟨⟨n41, n42⟩, h40, h⟩ := bindS h
 obtain ⟨h40a, h40b, h40⟩ := atS_some h40
 refine pq (q_ixS rfl rfl h40a h40 (el25.trans (congrArg some h40b.symm))) ?_
 refine pq (q_fieldI rfl fa58_0 rfl) ?_
 refine pq (q_loadI (v := iO n41) rfl sz3 (map_get h40) rfl rfl) ?_
 by_cases c43 : n41 < 0
 replace h := ifT c43 h
 refine pq (qb (p_lss_tZ c43)) ?_
 refine pq (qm bt) ?_
 iterate 7 refine os ?_
 refine pq (qpt bt) ?_
 refine oE (eS (cT rfl (lS (lO ?_))))
 refine pq (q_build (cs := [iI 0, nC]) ty36 rfl pl36 rfl) ?_
 refine ow [[iI 0, nC]] 0 sz36 ?_
 refine pq (qa (iO 3)) ?_
 refine oE (eS (lR (eR (bR (eR ?_)))))
 obtain rfl := sj h
 exact E_out (E_up (E_endF (.inr rfl) (res_cell (d := .agg [iI 0, nC]) 0 rfl sz36 rfl rfl rfl rfl (res_tmp rfl res_nil)) (vw_cons (vd_agg (vc_cons vc_v (vc_cons vc_s vc_nil))) (vw_cons (vd_one vc_v) vw_nil)) oW rfl rfl))
 replace h := ifF c43 h
 refine pq (qb (p_lss_fZ c43)) ?_
 refine pq (qm bf) ?_
 refine pq (qm (.one (sF r57 s3))) ?_
 refine pq (qm (iO n36)) ?_
 refine pq (q_ixS rfl rfl h40a h40 (el25.trans (congrArg some h40b.symm))) ?_
 refine pq (q_fieldI rfl fa58_0 rfl) ?_
 refine pq (q_loadI (v := iO n41) rfl sz3 (map_get h40) rfl rfl) ?_
 refine pq (qm (iO n2)) ?_
 by_cases c44 : n41 ≥ n2
 replace h := ifT c44 h
 refine pq (qb (p_geq_tZ c44)) ?_
 refine pq (qpf bt) ?_
 refine oE (eS (cT rfl (lS (lO ?_))))
 refine pq (q_build (cs := [iI 0, nC]) ty36 rfl pl36 rfl) ?_
 refine ow [[iI 0, nC]] 0 sz36 ?_
 refine pq (qa (iO 3)) ?_
 refine oE (eS (lR (eR (bR (eR ?_)))))
 obtain rfl := sj h
 exact E_out (E_up (E_endF (.inr rfl) (res_cell (d := .agg [iI 0, nC]) 0 rfl sz36 rfl rfl rfl rfl (res_tmp rfl res_nil)) (vw_cons (vd_agg (vc_cons vc_v (vc_cons vc_s vc_nil))) (vw_cons (vd_one vc_v) vw_nil)) oW rfl rfl))
 replace h := ifF c44 h
 refine pq (qb (p_geq_fZ c44)) ?_
 refine pq (qpf bf) ?_
 refine oE (eS (cF rfl (lK (eS ?_))))
 refine L_norm (L2 := ([[(k4, 2, [[iI 0, nC]])], moL r103 3 l35 k37] : BL)) [0, 1] (by decide) rfl ?_
 refine L_turn 15 rfl [[], [], [], [], [], [], [], [], [], [], [], [], [], moK l35 k37, []] [(false, []), (false, []), (false, []), (false, []), (false, []), (false, []), (false, []), (false, []), (false, []), (false, []), (false, []), (false, []), (true, []), (true, []), (false, [])] [[1, 2, 3, 4, 5, 6, 7, 8, 9, 10, 11, 12], [0, 2, 6, 7, 8, 9, 10], [0, 1, 6, 7, 8, 9, 10], [0, 6, 7, 8, 9, 10], [0, 6, 7, 8, 9, 10], [0, 6, 7, 8, 9, 10], [0, 1, 2, 3, 4, 5, 7], [0, 1, 2, 3, 4, 5, 6], [0, 1, 2, 3, 4, 5], [0, 1, 2, 3, 4, 5], [0, 1, 2, 3, 4, 5], [0], [0], [], []] (by kernel_rfl) (by kernel_rfl) (by kernel_rfl) ?_ (fun bb45 hlt hnd => ?_)
 intro bb45 hlt hnd
 have e_k4 : k4 < bb45 := key_lt hlt 0 rfl
 have e_k37 : l35 = [] ∨ k37 < bb45 := key_ltM (r := r103) (w := 3) hlt 1 rfl
 have f_k37 := moK_lt e_k37
 have d_k37_k4 : k4 ∉ moK l35 k37 := key_neM (r := r103) (w := 3) hnd 1 0 rfl rfl rfl
 have g_k37_k4 := moK_ne d_k37_k4
 exact ⟨(by first | (simp [DJ]; done) | (simp [DJ]; omega) | (simp [DJ]; assumption) | (simp_all [DJ]; done) | (simp_all [DJ]; omega)), (by first | (simp [DJ]; done) | (simp [DJ]; omega) | (simp [DJ]; assumption) | (simp_all [DJ]; done) | (simp_all [DJ]; omega))⟩
 have e_k4 : k4 < bb45 := key_lt hlt 0 rfl
 have e_k37 : l35 = [] ∨ k37 < bb45 := key_ltM (r := r103) (w := 3) hlt 1 rfl
 have f_k37 := moK_lt e_k37
 have d_k37_k4 : k4 ∉ moK l35 k37 := key_neM (r := r103) (w := 3) hnd 1 0 rfl rfl rfl
 have g_k37_k4 := moK_ne d_k37_k4
 refine tq [] rfl hmn (qm (.one (moC l35 k37))) ?_
 refine tq [] rfl (hm0 rfl) (qm (.one (sF r57 s3))) ?_
 refine tq [] rfl (hm0 rfl) (qm (iO n36)) ?_
 refine tq [] rfl (hm0 rfl) (q_ixS rfl rfl h40a h40 (el25.trans (congrArg some h40b.symm))) ?_
 refine tq [] rfl (hm0 rfl) (q_fieldI rfl fa58_0 rfl) ?_
 refine tq [] rfl (hm0 rfl) (q_loadI (v := iO n41) rfl sz3 (map_get h40) rfl rfl) ?_
 refine tq [] rfl (hm0 rfl) (qm (.one (sF r57 s3))) ?_
 refine tq [] rfl (hm0 rfl) (qm (iO n36)) ?_
 refine tq [] rfl (hm0 rfl) (q_ixS rfl rfl h40a h40 (el25.trans (congrArg some h40b.symm))) ?_
 refine tq [] rfl (hm0 rfl) (q_fieldI rfl fa58_1 rfl) ?_
 refine tq [] rfl (hm0 rfl) (q_loadI (v := iO n42) rfl sz2 (map_get h40) rfl rfl) ?_
 refine tq [] rfl (hm0 rfl) (q_build (cs := [iI 0, iI n41, iI n42]) ty104 rfl pl104 rfl) ?_
 refine tn_new rfl rfl rfl [] (by decide) rfl (hm0 rfl) rfl rfl (hkc (ne_new (key_lt hlt 0 rfl)) (hkM (e_k37.imp id fun h => by omega) hkn)) (q_bslice (cs := [iI 0, iI n41, iI n42]) (es := (([(0, n41, n42)] : List (Int × Int × Int))).map (rowC r103)) ty102 rfl ty104 rfl rfl rfl rfl rfl) ?_
 obtain ⟨_, h47, h⟩ := bindS h
 obtain ⟨h47b, rfl⟩ := app_some h47
 refine tn_appM (r := r103) (l := l35) 0 2 rfl rfl rfl rfl [2, 0] (by decide) rfl (hm0 rfl) rfl rfl (hkc (ne_add rfl) (hkc (ne_new (key_lt hlt 0 rfl)) (hkM (e_k37.imp id fun h => by omega) hkn))) rfl rfl (el_ownM (l := ([(0, n41, n42)] : List (Int × Int × Int))) 1 rfl) rfl rfl h47 (fun y => rfl) el102 ty102 rfl rfl rfl rfl rfl ?_
 refine tq [] rfl (hm0 rfl) (qa (.one (moC (l35 ++ ([(0, n41, n42)] : List (Int × Int × Int))) (bb45 + 13)))) ?_
 refine tn_end (bN (eS (lO ?_)))
 refine pq (qm (iO n36)) ?_
 refine pq (qb p_addY) ?_
 refine pq (qa (iO (IntKind.i64.wrap (n36 + 1)))) ?_
 refine oE ?_
 obtain rfl := sj h
 exact E_next (bb45 + 13) (ups_self ⟨rfl, rfl, rfl, rfl, rfl, rfl, trivial⟩) [2, 0] (by decide) rfl
 replace h := ifF c38 h
 refine pq (qb (p_lss_fZ c38)) ?_
 refine oE (eS (cF rfl (L_exit ?_)))
 refine E_seqX ?_
 obtain rfl := sj h
 refine E_out ?_
 exact (E_exit k37 (ups_self ⟨rfl, rfl, rfl, rfl, trivial⟩) [0, 1] (by decide) rfl)
 rintro (l48 | u) h
 refine J_x (fun k49 g => ?_)
 replace h := elimL h
 refine bH (eS (lS (lO ?_)))
 refine pq (qm (iO n1)) ?_
 refine pq (qm (.one (moC l48 k49))) ?_
 obtain ⟨⟨s51, n52⟩, h50, h⟩ := bindS h
 refine pq (qc (.tup [.one (sC r103 s51), iO n52]) [iO n1, .one (moC l48 k49)] (ref05_Combine_r (m + 0) h50) (vw_cons (vd_one vc_v) (vw_cons (vd_one (vc_M (r := r103) 1 rfl (fun x h m => rfl))) vw_nil))) ?_
 refine pq (qm (.tup [.one (sC r103 s51), iO n52])) ?_
 refine pq (q_ext (v := .one (sC r103 s51)) rfl rfl) ?_
 refine pq (q_ext (v := iO n52) rfl rfl) ?_
 refine pq (qa (.one (sC r103 s51))) ?_
 refine pq (qa (iO n52)) ?_
 refine oE (eS (lS (lS (lO ?_))))
 refine pq (qm (iO n52)) ?_
 by_cases c53 : n52 ≠ 0
 replace h := ifT c53 h
 refine pq (qb (p_neq_tZ c53)) ?_
 refine oE (eS (cT rfl (lS (lO ?_))))
 refine pq (q_build (cs := [iI 0, nC]) ty36 rfl pl36 rfl) ?_
 refine pq (qm (iO n52)) ?_
 refine ow [[iI 0, nC]] 0 sz36 ?_
 refine pq (qa (iO n52)) ?_
 refine oE (eS (lR (eR ?_)))
 obtain rfl := sj h
 exact E_endF (.inr rfl) (res_cell (d := .agg [iI 0, nC]) 0 rfl sz36 rfl rfl rfl rfl (res_tmp rfl res_nil)) (vw_cons (vd_agg (vc_cons vc_v (vc_cons vc_s vc_nil))) (vw_cons (vd_one vc_v) vw_nil)) oW rfl rfl
 replace h := ifF c53 h
 refine pq (qb (p_neq_fZ c53)) ?_
 refine oE (eS (cF rfl (lK (eS (lS (lO ?_))))))
 refine pq (qm (iO n2)) ?_
 refine pq (q_build (cs := [iI n2, nC]) ty36 rfl pl36 rfl) ?_
 refine ol_new rfl rfl rfl (q_alloc ty36 (row := [iI 0, nC]) rfl rfl) (fun k54 => ?_)
 refine ow [[iI n2, nC]] 0 sz36 ?_
 refine oE (eS (lS (lS (lO ?_))))
 refine pq (qa (iO 0)) ?_
 refine oE (eS (lB ?_))
 refine L_addM (α := Int × Int) r57 2 ?_
 let S2 : (Int × (List (Int × Int))) → Nat → (Nat → D) → Nat → D := fun a kt g => ups g [(6, .one (.ptr k4 0 0)), (8, .one (sC r103 s51)), (11, .one (.ptr k54 0 0)), (12, .one (iI a.1))]
 let SL2 : (Int × (List (Int × Int))) → Nat → BL := fun a kt => ([[(k4, 2, [[iI 0, nC]])], [(k54, 2, [[iI n2, moC a.2 kt]])], moL r57 2 a.2 kt] : BL)
 let G2 : ((Int × (Sl (Int × Int))) × Int) → Ex → St → Prop := fun u => endQ E1 [.cell 6 36, .tmp 7] (.fresh, [.agg (r35 u.1), .one (iT .i64 u.2)])
 let Sx2 : (List (Int × Int)) → Nat → (Nat → D) → Nat → D := fun a kt g => ups g [(6, .one (.ptr k4 0 0)), (11, .one (.ptr k54 0 0))]
 let SLx2 : (List (Int × Int)) → Nat → BL := fun a kt => ([[(k4, 2, [[iI 0, nC]])], [(k54, 2, [[iI n2, moC a kt]])], moL r57 2 a kt] : BL)
 let J2 : ((List (Int × Int)) ⊕ ((Int × (Sl (Int × Int))) × Int)) → Ex → St → Prop := JX 95 2 Sx2 SLx2 G2
 refine L_loopS (ref09_Of_b2 s51) S2 SL2 J2 JX_n (0, ([] : List (Int × Int))) h 1087 (ups_self ⟨rfl, rfl, rfl, rfl, trivial⟩) [2, 1, 0] (by decide) rfl ?_ ?_
 rintro ⟨n89, l90⟩ k91 g out h
 change ref09_Of_b2 s51 (n89, l90) = some out at h
 unfold ref09_Of_b2 at h
 refine lS (lS (lO ?_))
 refine pq (qm (iO n89)) ?_
 refine pq (qm (.one (sC r103 s51))) ?_
 refine pq (q_lenS rfl ty102 rfl rfl rfl rfl) ?_
 by_cases c92 : n89 < ((s51.l.length : Nat) : Int)
 replace h := ifT c92 h
 refine pq (qb (p_lss_tZ c92)) ?_
 refine oE (eS (cT rfl (lK (eS (lS (lB ?_))))))
 refine L_norm (L2 := ([[(k4, 2, [[iI 0, nC]])], [(k54, 2, [[iI n2, moC l90 k91]])], moL r57 2 l90 k91] : BL)) [0, 1, 2] (by decide) rfl ?_
 refine L_turn 17 rfl [[], [], [], [], [], [], [], [], [], [], [], [], [], [], moK l90 k91, [], [k54]] [(false, []), (false, []), (false, []), (false, []), (false, []), (false, []), (false, []), (false, []), (false, []), (false, []), (false, []), (false, []), (false, []), (true, []), (true, []), (false, []), (false, [])] [[2, 3, 4, 5, 6, 7, 8, 9, 10, 11, 12, 13], [2, 3, 4, 5, 6, 7, 8, 9, 10, 11, 12, 13], [0, 1, 3, 7, 8, 9, 10, 11], [0, 1, 2, 7, 8, 9, 10, 11], [0, 1, 7, 8, 9, 10, 11], [0, 1, 7, 8, 9, 10, 11], [0, 1, 7, 8, 9, 10, 11], [0, 1, 2, 3, 4, 5, 6, 8], [0, 1, 2, 3, 4, 5, 6, 7], [0, 1, 2, 3, 4, 5, 6], [0, 1, 2, 3, 4, 5, 6], [0, 1, 2, 3, 4, 5, 6], [0, 1], [0, 1], [], [], []] (by kernel_rfl) (by kernel_rfl) (by kernel_rfl) ?_ (fun bb93 hlt hnd => ?_)
 intro bb93 hlt hnd
 have e_k4 : k4 < bb93 := key_lt hlt 0 rfl
 have e_k54 : k54 < bb93 := key_lt hlt 1 rfl
 have e_k91 : l90 = [] ∨ k91 < bb93 := key_ltM (r := r57) (w := 2) hlt 2 rfl
 have f_k91 := moK_lt e_k91
 have d_k54_k4 : k54 ≠ k4 := key_ne hnd 1 0 rfl rfl rfl
 have d_k91_k4 : k4 ∉ moK l90 k91 := key_neM (r := r57) (w := 2) hnd 2 0 rfl rfl rfl
 have g_k91_k4 := moK_ne d_k91_k4
 have d_k91_k54 : k54 ∉ moK l90 k91 := key_neM (r := r57) (w := 2) hnd 2 1 rfl rfl rfl
 have g_k91_k54 := moK_ne d_k91_k54
 exact ⟨(by first | (simp [DJ]; done) | (simp [DJ]; omega) | (simp [DJ]; assumption) | (simp_all [DJ]; done) | (simp_all [DJ]; omega)), (by first | (simp [DJ]; done) | (simp [DJ]; omega) | (simp [DJ]; assumption) | (simp_all [DJ]; done) | (simp_all [DJ]; omega))⟩
 have e_k4 : k4 < bb93 := key_lt hlt 0 rfl
 have e_k54 : k54 < bb93 := key_lt hlt 1 rfl
 have e_k91 : l90 = [] ∨ k91 < bb93 := key_ltM (r := r57) (w := 2) hlt 2 rfl
 have f_k91 := moK_lt e_k91
 have d_k54_k4 : k54 ≠ k4 := key_ne hnd 1 0 rfl rfl rfl
 have d_k91_k4 : k4 ∉ moK l90 k91 := key_neM (r := r57) (w := 2) hnd 2 0 rfl rfl rfl
 have g_k91_k4 := moK_ne d_k91_k4
 have d_k91_k54 : k54 ∉ moK l90 k91 := key_neM (r := r57) (w := 2) hnd 2 1 rfl rfl rfl
 have g_k91_k54 := moK_ne d_k91_k54
 refine tq [] rfl hmn (q_fieldP rfl fa36_1 rfl) ?_
 refine tq [1] rfl (hmc (nin_cons (ne_new (key_lt hlt 1 rfl)) nin_nil) hmn) (ql (.one (moC l90 k91)) 0 sz25) ?_
 refine tq [] rfl (hm0 rfl) (qm (.one (sC r103 s51))) ?_
 refine tq [] rfl (hm0 rfl) (qm (iO n89)) ?_
 obtain ⟨⟨n102, n103, n104⟩, h101, h⟩ := bindS h
 obtain ⟨h101a, h101b, h101⟩ := atS_some h101
 refine tq [] rfl (hm0 rfl) (q_ixS rfl rfl h101a h101 (el102.trans (congrArg some h101b.symm))) ?_
 refine tq [] rfl (hm0 rfl) (q_fieldI rfl fa104_1 rfl) ?_
 refine tq [] rfl (hm0 rfl) (q_loadI (v := iO n103) rfl sz3 (map_get h101) rfl rfl) ?_
 refine tq [] rfl (hm0 rfl) (qm (.one (sC r103 s51))) ?_
 refine tq [] rfl (hm0 rfl) (qm (iO n89)) ?_
 refine tq [] rfl (hm0 rfl) (q_ixS rfl rfl h101a h101 (el102.trans (congrArg some h101b.symm))) ?_
 refine tq [] rfl (hm0 rfl) (q_fieldI rfl fa104_2 rfl) ?_
 refine tq [] rfl (hm0 rfl) (q_loadI (v := iO n104) rfl sz2 (map_get h101) rfl rfl) ?_
 refine tq [] rfl (hm0 rfl) (q_build (cs := [iI n103, iI n104]) ty58 rfl pl58 rfl) ?_
 refine tn_new rfl rfl rfl [] (by decide) rfl (hm0 rfl) rfl rfl (hkc (ne_new (key_lt hlt 0 rfl)) (hkc (ne_new (key_lt hlt 1 rfl)) (hkM (e_k91.imp id fun h => by omega) hkn))) (q_bslice (cs := [iI n103, iI n104]) (es := (([(n103, n104)] : List (Int × Int))).map (rowC r57)) ty25 rfl ty58 rfl rfl rfl rfl rfl) ?_
 obtain ⟨_, h105, h⟩ := bindS h
 obtain ⟨h105b, rfl⟩ := app_some h105
 refine tn_appM (r := r57) (l := l90) 0 3 rfl rfl rfl rfl [3, 0] (by decide) rfl (hm0 rfl) rfl rfl (hkc (ne_add rfl) (hkc (ne_new (key_lt hlt 0 rfl)) (hkc (ne_new (key_lt hlt 1 rfl)) (hkM (e_k91.imp id fun h => by omega) hkn)))) rfl rfl (el_ownM (l := ([(n103, n104)] : List (Int × Int))) 1 rfl) rfl rfl h105 (fun y => rfl) el25 ty25 rfl rfl rfl rfl rfl ?_
 refine tq [] rfl (hm0 rfl) (q_fieldP rfl fa36_1 rfl) ?_
 refine tn_wr rfl rfl [3] (by decide) rfl (hm0 rfl) rfl (q_store (es' := [[iI n2, moC (l90 ++ ([(n103, n104)] : List (Int × Int))) (bb93 + 14)]]) 0 rfl rfl rfl sz25 rfl rfl rfl rfl rfl) (q := 3) rfl rfl ?_
 refine tn_end (bN (eS (lO ?_)))
 refine pq (qm (iO n89)) ?_
 refine pq (qb p_addY) ?_
 refine pq (qa (iO (IntKind.i64.wrap (n89 + 1)))) ?_
 refine oE ?_
 obtain rfl := sj h
 exact E_next (bb93 + 14) (ups_self ⟨rfl, rfl, rfl, rfl, trivial⟩) [2, 3, 0] (by decide) rfl
 replace h := ifF c92 h
 refine pq (qb (p_lss_fZ c92)) ?_
 refine oE (eS (cF rfl (L_exit ?_)))
 refine E_seqX ?_
 obtain rfl := sj h
 refine E_out ?_
 exact (E_exit k91 (ups_self ⟨rfl, rfl, trivial⟩) [0, 1, 2] (by decide) rfl)
 rintro (l106 | u) h
 refine J_x (fun k107 g => ?_)
 replace h := elimL h
 refine bH (eS (lS (lO ?_)))
 refine pq (ql (.agg [iI n2, moC l106 k107]) 1 sz36) ?_
 refine ow [[iI n2, moC l106 k107]] 0 sz36 ?_
 refine pq (qa (iO 0)) ?_
 refine oE (eS (lR ?_))
 obtain rfl := sj h
 exact E_endF (.inr rfl) (res_cell (d := .agg [iI n2, moC l106 k107]) 0 rfl sz36 rfl rfl rfl rfl (res_tmp rfl res_nil)) (vw_cons (vd_agg (vc_cons vc_v (vc_cons (vc_M (r := r57) 2 rfl (fun x h m => rfl)) vc_nil))) (vw_cons (vd_one vc_v) vw_nil)) oW rfl rfl
 obtain rfl := Option.some.inj (elimR h)
 exact J_up (fun s hs => hs)
 obtain rfl := Option.some.inj (elimR h)
 exact J_up (fun s hs => hs)
noncomputable def law09_Some_b1 (s2 : Sl (Int × Int)) (n4 : Int) (a : (List (Int × Int)) × Int) : Option (((List (Int × Int)) × Int) ⊕ ((List (Int × Int)) ⊕ (Int × (Sl (Int × Int))))) :=
 match a with
 | (l42, n43) => (if n43 < ((s2.l.length : Nat) : Int) then (if n43 < 60 then (if n4 > 0 then ((atS 2 s2 n43).bind fun (n50, n51) => (if n50 ≥ 0 then ((modO n50 n4).bind fun n57 => ((app l42 ([(n57, n51)] : List (Int × Int))).bind fun _ => some (.inl ((l42 ++ ([(n57, n51)] : List (Int × Int))), (IntKind.i64.wrap (n43 + 1)))))) else some (.inl (l42, (IntKind.i64.wrap (n43 + 1)))))) else some (.inr (.inl l42))) else some (.inr (.inl l42))) else some (.inr (.inl l42)))
noncomputable def law09_Some (n1 : Int) (s2 : Sl (Int × Int)) : Option ((Int × (Sl (Int × Int)))) :=
 ((modO (IntKind.i64.wrap n1) 60).bind fun n4 => ((loopO (law09_Some_b1 s2 n4) (([] : List (Int × Int)), 0)).bind (Sum.elim (fun l60 => ((ref09_Of 1 n4 (mo 2 l60)).bind fun ((n63, s64), n65) => some (n63, s64))) (fun u => some u))))
theorem law09_Some_r (m : Nat) {n1 : Int} {s2 : Sl (Int × Int)} {out : (Int × (Sl (Int × Int)))} (h : law09_Some n1 s2 = some out) : RunsP E1 (m + 5) 18 [.one (iT .u8 n1), .one (Sl.t r57 s2)] (.fresh, [.agg (r35 out)]) := by
 refine fn_F rfl (by rw [E1_fn]; exact show fiOf Tryd.prog 18 = _ by unfold fiOf; rw [Tryd.func18]; unfold Tryd.f18; rfl) rfl ?_
 dsimp only
 unfold law09_Some at h
 refine lS (lO ?_)
 refine ol_new rfl rfl rfl (q_alloc ty36 (row := [iI 0, nC]) rfl rfl) (fun k3 => ?_)
 refine oN ?_
 refine pq (qm (.one (iC .u8 n1))) ?_
 refine pq (q_conv rfl (cv5_3_u8 _) rfl) ?_
 obtain ⟨n4, h5, h⟩ := bindS h
 refine pq (q_bin rfl rfl (modO_p h5) rfl) ?_
 refine pq (qa (iO n4)) ?_
 refine oN ?_
 refine pq (qa (.one nC)) ?_
 refine oE (eS (lS (lS (lO ?_))))
 refine pq (qa (iO 0)) ?_
 refine oE (eS (lB ?_))
 refine L_addM (α := Int × Int) r57 2 ?_
 let S1 : ((List (Int × Int)) × Int) → Nat → (Nat → D) → Nat → D := fun a kt g => ups g [(1, .one (sF r57 s2)), (4, .one (.ptr k3 0 0)), (5, iO n4), (6, .one (moC a.1 kt)), (7, .one (iI a.2))]
 let SL1 : ((List (Int × Int)) × Int) → Nat → BL := fun a kt => ([[(k3, 2, [[iI 0, nC]])], moL r57 2 a.1 kt] : BL)
 let G1 : (Int × (Sl (Int × Int))) → Ex → St → Prop := fun u => endQ E1 [.cell 4 36] (.fresh, [.agg (r35 u)])
 let Sx1 : (List (Int × Int)) → Nat → (Nat → D) → Nat → D := fun a kt g => ups g [(4, .one (.ptr k3 0 0)), (5, iO n4), (6, .one (moC a kt))]
 let SLx1 : (List (Int × Int)) → Nat → BL := fun a kt => ([[(k3, 2, [[iI 0, nC]])], moL r57 2 a kt] : BL)
 let J1 : ((List (Int × Int)) ⊕ (Int × (Sl (Int × Int)))) → Ex → St → Prop := JX 56 0 Sx1 SLx1 G1
 refine L_loopS (law09_Some_b1 s2 n4) S1 SL1 J1 JX_n (([] : List (Int × Int)), 0) h 1040 (ups_self ⟨rfl, rfl, rfl, rfl, rfl, trivial⟩) [1, 0] (by decide) rfl ?_ ?_
 rintro ⟨l42, n43⟩ k44 g out h
 change law09_Some_b1 s2 n4 (l42, n43) = some out at h
 unfold law09_Some_b1 at h
 refine lS (lS (lO ?_))
 refine pq (qm (iO n43)) ?_
 refine pq (qm (.one (sF r57 s2))) ?_
 refine pq (q_lenS rfl ty25 rfl rfl rfl rfl) ?_
 by_cases c45 : n43 < ((s2.l.length : Nat) : Int)
 replace h := ifT c45 h
 refine pq (qb (p_lss_tZ c45)) ?_
 refine pq (qm bt) ?_
 refine pq (qm (iO n43)) ?_
 by_cases c46 : n43 < 60
 replace h := ifT c46 h
 refine pq (qb (p_lss_tZ c46)) ?_
 refine pq (qpt bt) ?_
 refine pq (qm bt) ?_
 refine pq (qm (iO n4)) ?_
 by_cases c47 : n4 > 0
 replace h := ifT c47 h
 refine pq (qb (p_gtr_tZ c47)) ?_
 refine pq (qpt bt) ?_
 refine oE (eS (cT rfl (lK (eS (lS (lB (lS (lO ?_))))))))
 refine pq (qm (.one (sF r57 s2))) ?_
 refine pq (qm (iO n43)) ?_
 obtain ⟨⟨n50, n51⟩, h49, h⟩ := bindS h
 obtain ⟨h49a, h49b, h49⟩ := atS_some h49
 refine pq (q_ixS rfl rfl h49a h49 (el25.trans (congrArg some h49b.symm))) ?_
 refine pq (q_fieldI rfl fa58_0 rfl) ?_
 refine pq (q_loadI (v := iO n50) rfl sz3 (map_get h49) rfl rfl) ?_
 by_cases c52 : n50 ≥ 0
 replace h := ifT c52 h
 refine pq (qb (p_geq_tZ c52)) ?_
 refine oE (eS (cT rfl ?_))
 refine L_norm (L2 := ([[(k3, 2, [[iI 0, nC]])], moL r57 2 l42 k44] : BL)) [0, 1] (by decide) rfl ?_
 refine L_turn 17 rfl [[], [], [], [], [], [], [], [], [], [], [], [], [], [], [], moK l42 k44, []] [(false, []), (false, []), (false, []), (false, []), (false, []), (false, []), (false, []), (false, []), (false, []), (false, []), (false, []), (false, []), (false, []), (false, []), (true, []), (true, []), (false, [])] [[1, 2, 3, 4, 5, 6, 7, 8, 9, 10, 11, 12, 13, 14], [0, 2, 6, 8, 9, 10, 11, 12], [0, 1, 6, 8, 9, 10, 11, 12], [0, 6, 8, 9, 10, 11, 12], [0, 6, 8, 9, 10, 11, 12], [0, 6, 8, 9, 10, 11, 12], [0, 1, 2, 3, 4, 5, 8, 9, 10, 11, 12], [0, 8, 9, 10, 11, 12], [0, 1, 2, 3, 4, 5, 6, 7, 9], [0, 1, 2, 3, 4, 5, 6, 7, 8], [0, 1, 2, 3, 4, 5, 6, 7], [0, 1, 2, 3, 4, 5, 6, 7], [0, 1, 2, 3, 4, 5, 6, 7], [0], [0], [], []] (by kernel_rfl) (by kernel_rfl) (by kernel_rfl) ?_ (fun bb53 hlt hnd => ?_)
 intro bb53 hlt hnd
 have e_k3 : k3 < bb53 := key_lt hlt 0 rfl
 have e_k44 : l42 = [] ∨ k44 < bb53 := key_ltM (r := r57) (w := 2) hlt 1 rfl
 have f_k44 := moK_lt e_k44
 have d_k44_k3 : k3 ∉ moK l42 k44 := key_neM (r := r57) (w := 2) hnd 1 0 rfl rfl rfl
 have g_k44_k3 := moK_ne d_k44_k3
 exact ⟨(by first | (simp [DJ]; done) | (simp [DJ]; omega) | (simp [DJ]; assumption) | (simp_all [DJ]; done) | (simp_all [DJ]; omega)), (by first | (simp [DJ]; done) | (simp [DJ]; omega) | (simp [DJ]; assumption) | (simp_all [DJ]; done) | (simp_all [DJ]; omega))⟩
 have e_k3 : k3 < bb53 := key_lt hlt 0 rfl
 have e_k44 : l42 = [] ∨ k44 < bb53 := key_ltM (r := r57) (w := 2) hlt 1 rfl
 have f_k44 := moK_lt e_k44
 have d_k44_k3 : k3 ∉ moK l42 k44 := key_neM (r := r57) (w := 2) hnd 1 0 rfl rfl rfl
 have g_k44_k3 := moK_ne d_k44_k3
 refine tq [] rfl hmn (qm (.one (moC l42 k44))) ?_
 refine tq [] rfl (hm0 rfl) (qm (.one (sF r57 s2))) ?_
 refine tq [] rfl (hm0 rfl) (qm (iO n43)) ?_
 refine tq [] rfl (hm0 rfl) (q_ixS rfl rfl h49a h49 (el25.trans (congrArg some h49b.symm))) ?_
 refine tq [] rfl (hm0 rfl) (q_fieldI rfl fa58_0 rfl) ?_
 refine tq [] rfl (hm0 rfl) (q_loadI (v := iO n50) rfl sz3 (map_get h49) rfl rfl) ?_
 refine tq [] rfl (hm0 rfl) (qm (iO n4)) ?_
 obtain ⟨n57, h58, h⟩ := bindS h
 refine tq [] rfl (hm0 rfl) (q_bin rfl rfl (modO_p h58) rfl) ?_
 refine tq [] rfl (hm0 rfl) (qm (.one (sF r57 s2))) ?_
 refine tq [] rfl (hm0 rfl) (qm (iO n43)) ?_
 refine tq [] rfl (hm0 rfl) (q_ixS rfl rfl h49a h49 (el25.trans (congrArg some h49b.symm))) ?_
 refine tq [] rfl (hm0 rfl) (q_fieldI rfl fa58_1 rfl) ?_
 refine tq [] rfl (hm0 rfl) (q_loadI (v := iO n51) rfl sz2 (map_get h49) rfl rfl) ?_
 refine tq [] rfl (hm0 rfl) (q_build (cs := [iI n57, iI n51]) ty58 rfl pl58 rfl) ?_
 refine tn_new rfl rfl rfl [] (by decide) rfl (hm0 rfl) rfl rfl (hkc (ne_new (key_lt hlt 0 rfl)) (hkM (e_k44.imp id fun h => by omega) hkn)) (q_bslice (cs := [iI n57, iI n51]) (es := (([(n57, n51)] : List (Int × Int))).map (rowC r57)) ty25 rfl ty58 rfl rfl rfl rfl rfl) ?_
 obtain ⟨_, h59, h⟩ := bindS h
 obtain ⟨h59b, rfl⟩ := app_some h59
 refine tn_appM (r := r57) (l := l42) 0 2 rfl rfl rfl rfl [2, 0] (by decide) rfl (hm0 rfl) rfl rfl (hkc (ne_add rfl) (hkc (ne_new (key_lt hlt 0 rfl)) (hkM (e_k44.imp id fun h => by omega) hkn))) rfl rfl (el_ownM (l := ([(n57, n51)] : List (Int × Int))) 1 rfl) rfl rfl h59 (fun y => rfl) el25 ty25 rfl rfl rfl rfl rfl ?_
 refine tq [] rfl (hm0 rfl) (qa (.one (moC (l42 ++ ([(n57, n51)] : List (Int × Int))) (bb53 + 15)))) ?_
 refine tn_end (bN (eS (lO ?_)))
 refine pq (qm (iO n43)) ?_
 refine pq (qb p_addY) ?_
 refine pq (qa (iO (IntKind.i64.wrap (n43 + 1)))) ?_
 refine oE ?_
 obtain rfl := sj h
 exact E_next (bb53 + 15) (ups_self ⟨rfl, rfl, rfl, rfl, rfl, trivial⟩) [2, 0] (by decide) rfl
 replace h := ifF c52 h
 refine pq (qb (p_geq_fZ c52)) ?_
 refine oE (eS (cF rfl (lK (bN (eS (lO ?_))))))
 refine pq (qm (iO n43)) ?_
 refine pq (qb p_addY) ?_
 refine pq (qa (iO (IntKind.i64.wrap (n43 + 1)))) ?_
 refine oE ?_
 obtain rfl := sj h
 exact E_next k44 (ups_self ⟨rfl, rfl, rfl, rfl, rfl, trivial⟩) [0, 1] (by decide) rfl
 replace h := ifF c47 h
 refine pq (qb (p_gtr_fZ c47)) ?_
 refine pq (qpt bf) ?_
 refine oE (eS (cF rfl (L_exit ?_)))
 refine E_seqX ?_
 obtain rfl := sj h
 refine E_out ?_
 exact (E_exit k44 (ups_self ⟨rfl, rfl, rfl, trivial⟩) [0, 1] (by decide) rfl)
 replace h := ifF c46 h
 refine pq (qb (p_lss_fZ c46)) ?_
 refine pq (qpt bf) ?_
 refine pq (qm bf) ?_
 iterate 2 refine os ?_
 refine pq (qpf bf) ?_
 refine oE (eS (cF rfl (L_exit ?_)))
 refine E_seqX ?_
 obtain rfl := sj h
 refine E_out ?_
 exact (E_exit k44 (ups_self ⟨rfl, rfl, rfl, trivial⟩) [0, 1] (by decide) rfl)
 replace h := ifF c45 h
 refine pq (qb (p_lss_fZ c45)) ?_
 refine pq (qm bf) ?_
 iterate 2 refine os ?_
 refine pq (qpf bf) ?_
 refine pq (qm bf) ?_
 iterate 2 refine os ?_
 refine pq (qpf bf) ?_
 refine oE (eS (cF rfl (L_exit ?_)))
 refine E_seqX ?_
 obtain rfl := sj h
 refine E_out ?_
 exact (E_exit k44 (ups_self ⟨rfl, rfl, rfl, trivial⟩) [0, 1] (by decide) rfl)
 rintro (l60 | u) h
 refine J_x (fun k61 g => ?_)
 replace h := elimL h
 refine bH (eS (lS (lO ?_)))
 refine pq (qm (iO n4)) ?_
 refine pq (qm (.one (moC l60 k61))) ?_
 obtain ⟨⟨⟨n63, s64⟩, n65⟩, h62, h⟩ := bindS h
 refine pq (qc (.tup [.agg [iI n63, sC r57 s64], iO n65]) [iO 1, iO n4, .one (moC l60 k61)] (ref09_Of_r (m + 0) h62) (vw_cons (vd_one vc_v) (vw_cons (vd_one vc_v) (vw_cons (vd_one (vc_M (r := r57) 1 rfl (fun x h m => rfl))) vw_nil)))) ?_
 refine pq (qm (.tup [.agg [iI n63, sC r57 s64], iO n65])) ?_
 refine pq (q_ext (v := .agg [iI n63, sC r57 s64]) rfl rfl) ?_
 refine pq (q_ext (v := iO n65) rfl rfl) ?_
 refine ol_new rfl rfl rfl (q_alloc ty36 (row := [iI 0, nC]) rfl rfl) (fun k66 => ?_)
 refine ow [[iI n63, sC r57 s64]] 0 sz36 ?_
 refine pq (qa (iO n65)) ?_
 refine oN ?_
 refine pq (ql (.agg [iI n63, sC r57 s64]) 0 sz36) ?_
 refine ow [[iI n63, sC r57 s64]] 1 sz36 ?_
 refine oE (eS (lR ?_))
 obtain rfl := sj h
 exact E_endF (.inr rfl) (res_cell (d := .agg [iI n63, sC r57 s64]) 1 rfl sz36 rfl rfl rfl rfl res_nil) (vw_cons (vd_agg (vc_cons vc_v (vc_cons vc_s vc_nil))) vw_nil) oG rfl rfl
 obtain rfl := Option.some.inj (elimR h)
 exact J_up (fun s hs => hs)
noncomputable def law13_Task_Vector_b1 (n1 : Int) (s16 : Sl (Int × Int)) (a : (List (Int × Int)) × Int) : Option (((List (Int × Int)) × Int) ⊕ ((List (Int × Int)) ⊕ (Int × (Sl (Int × Int))))) :=
 match a with
 | (l64, n65) => (if n65 < ((s16.l.length : Nat) : Int) then ((atS 2 s16 n65).bind fun (n80, n81) => ((law13_Right n1).bind fun n83 => ((law02_Value n83 n81).bind fun n85 => ((app l64 ([(n80, n85)] : List (Int × Int))).bind fun _ => some (.inl ((l64 ++ ([(n80, n85)] : List (Int × Int))), (IntKind.i64.wrap (n65 + 1)))))))) else some (.inr (.inl l64)))
noncomputable def law13_Task_Vector (a0 : Int × (Int × Int) × (Sl (Int × Int × Int)) × (Sl (Int × Int)) × (Sl (Int × Int)) × Sl (Int) × Bool) (s9 : Sl (Int × Int)) : Option ((Int × (Sl (Int × Int)))) :=
 match a0 with
 | (n1, (n2, n3), s4, s5, s6, s7, b8) => ((law07_Size n3).bind fun n13 => ((law09_Some (IntKind.u8.wrap n13) s9).bind fun (n15, s16) => ((loopO (law13_Task_Vector_b1 n1 s16) (([] : List (Int × Int)), 0)).bind (Sum.elim (fun l87 => some (n15, (mo 2 l87))) (fun u => some u)))))
theorem law13_Task_Vector_r (m : Nat) {a0 : Int × (Int × Int) × (Sl (Int × Int × Int)) × (Sl (Int × Int)) × (Sl (Int × Int)) × Sl (Int) × Bool} {s9 : Sl (Int × Int)} {out : (Int × (Sl (Int × Int)))} (h : law13_Task_Vector a0 s9 = some out) : RunsP E1 (m + 6) 7 [.agg (r27 a0), .one (Sl.t r57 s9)] (.fresh, [.agg (r35 out)]) := by
 obtain ⟨n1, ⟨n2, n3⟩, s4, s5, s6, s7, b8⟩ := a0
 refine fn_F rfl (by rw [E1_fn]; exact show fiOf Tryd.prog 7 = _ by unfold fiOf; rw [Tryd.func7]; unfold Tryd.f7; rfl) rfl ?_
 dsimp only
 unfold law13_Task_Vector at h
 refine lS (lO ?_)
 refine ol_new rfl rfl rfl (q_box ty28 rfl (cs := [iI n1, iC .u8 n2, iC .u8 n3, sF r76 s4, sF r57 s5, sF r57 s6, sF r62 s7, bC b8]) rfl rfl) (fun k10 => ?_)
 refine ol_new rfl rfl rfl (q_alloc ty36 (row := [iI 0, nC]) rfl rfl) (fun k11 => ?_)
 refine oN ?_
 refine pq (q_fieldP rfl fa28_1 rfl) ?_
 refine pq (q_ixA (a := 1) ty23 rfl ty5 rfl rfl rfl rfl) ?_
 refine pq (ql (.one (iC .u8 n3)) 1 sz5) ?_
 obtain ⟨n13, h12, h⟩ := bindS h
 refine pq (qc (iO n13) [.one (iC .u8 n3)] (law07_Size_r (m + 4) h12) (vw_cons (vd_one vc_v) vw_nil)) ?_
 refine pq (q_conv rfl (cv3_5_i64 _) rfl) ?_
 refine pq (qm (.one (sF r57 s9))) ?_
 obtain ⟨⟨n15, s16⟩, h14, h⟩ := bindS h
 refine pq (qc (.agg [iI n15, sC r57 s16]) [.one (iC .u8 (IntKind.u8.wrap n13)), .one (sF r57 s9)] (law09_Some_r (m + 0) h14) (vw_cons (vd_one vc_v) (vw_cons (vd_one vc_s) vw_nil))) ?_
 refine ol_new rfl rfl rfl (q_alloc ty36 (row := [iI 0, nC]) rfl rfl) (fun k17 => ?_)
 refine ow [[iI n15, sC r57 s16]] 0 sz36 ?_
 refine oN ?_
 refine pq (qa (.one nC)) ?_
 refine oE (eS (lS (lS (lO ?_))))
 refine pq (qa (iO 0)) ?_
 refine oE (eS (lB ?_))
 refine L_addM (α := Int × Int) r57 2 ?_
 let S1 : ((List (Int × Int)) × Int) → Nat → (Nat → D) → Nat → D := fun a kt g => ups g [(2, .one (.ptr k10 0 0)), (4, .one (.ptr k11 0 0)), (5, .one (.ptr k17 0 0)), (6, .one (moC a.1 kt)), (7, .one (iI a.2))]
 let SL1 : ((List (Int × Int)) × Int) → Nat → BL := fun a kt => ([[(k10, 8, [[iI n1, iC .u8 n2, iC .u8 n3, sF r76 s4, sF r57 s5, sF r57 s6, sF r62 s7, bC b8]])], [(k11, 2, [[iI 0, nC]])], [(k17, 2, [[iI n15, sC r57 s16]])], moL r57 2 a.1 kt] : BL)
 let G1 : (Int × (Sl (Int × Int))) → Ex → St → Prop := fun u => endQ E1 [.cell 4 36] (.fresh, [.agg (r35 u)])
 let Sx1 : (List (Int × Int)) → Nat → (Nat → D) → Nat → D := fun a kt g => ups g [(4, .one (.ptr k11 0 0)), (5, .one (.ptr k17 0 0)), (6, .one (moC a kt))]
 let SLx1 : (List (Int × Int)) → Nat → BL := fun a kt => ([[(k11, 2, [[iI 0, nC]])], [(k17, 2, [[iI n15, sC r57 s16]])], moL r57 2 a kt] : BL)
 let J1 : ((List (Int × Int)) ⊕ (Int × (Sl (Int × Int)))) → Ex → St → Prop := JX 46 0 Sx1 SLx1 G1
 refine L_loopS (law13_Task_Vector_b1 n1 s16) S1 SL1 J1 JX_n (([] : List (Int × Int)), 0) h 1062 (ups_self ⟨rfl, rfl, rfl, rfl, rfl, trivial⟩) [3, 2, 1, 0] (by decide) rfl ?_ ?_
 rintro ⟨l64, n65⟩ k66 g out h
 change law13_Task_Vector_b1 n1 s16 (l64, n65) = some out at h
 unfold law13_Task_Vector_b1 at h
 refine lS (lS (lO ?_))
 refine pq (qm (iO n65)) ?_
 refine pq (q_fieldP rfl fa36_1 rfl) ?_
 refine pq (ql (.one (sC r57 s16)) 2 sz25) ?_
 refine pq (q_lenS rfl ty25 rfl rfl rfl rfl) ?_
 by_cases c67 : n65 < ((s16.l.length : Nat) : Int)
 replace h := ifT c67 h
 refine pq (qb (p_lss_tZ c67)) ?_
 refine oE (eS (cT rfl (lK (eS (lS (lB ?_))))))
 refine L_norm (L2 := ([[(k10, 8, [[iI n1, iC .u8 n2, iC .u8 n3, sF r76 s4, sF r57 s5, sF r57 s6, sF r62 s7, bC b8]])], [(k11, 2, [[iI 0, nC]])], [(k17, 2, [[iI n15, sC r57 s16]])], moL r57 2 l64 k66] : BL)) [0, 1, 2, 3] (by decide) rfl ?_
 refine L_turn 21 rfl [[], [], [], [], [], [], [], [], [], [], [], [], [], [], [], [], [], [], [], moK l64 k66, []] [(false, []), (false, []), (false, []), (false, []), (false, []), (false, []), (false, []), (false, []), (false, []), (false, []), (false, []), (false, []), (false, []), (false, []), (false, []), (false, []), (false, []), (false, []), (true, []), (true, []), (false, [])] [[1, 2, 3, 4, 5, 6, 7, 8, 9, 10, 11, 12, 13, 14, 15, 16, 17, 18], [0, 3, 7, 8, 9, 10, 11, 12, 13, 14, 15, 16], [0, 3, 7, 8, 9, 10, 11, 12, 13, 14, 15, 16], [0, 1, 2, 7, 8, 9, 10, 11, 12, 13, 14, 15, 16], [0, 7, 8, 9, 10, 11, 12, 13, 14, 15, 16], [0, 7, 8, 9, 10, 11, 12, 13, 14, 15, 16], [0, 7, 8, 9, 10, 11, 12, 13, 14, 15, 16], [0, 1, 2, 3, 4, 5, 6, 10, 11, 12, 13, 14, 15], [0, 1, 2, 3, 4, 5, 6, 10, 11, 12, 13, 14, 15], [0, 1, 2, 3, 4, 5, 6, 10, 11, 12, 13, 14, 15], [0, 1, 2, 3, 4, 5, 6, 7, 8, 9, 12], [0, 1, 2, 3, 4, 5, 6, 7, 8, 9, 12], [0, 1, 2, 3, 4, 5, 6, 7, 8, 9, 10, 11], [0, 1, 2, 3, 4, 5, 6, 7, 8, 9], [0, 1, 2, 3, 4, 5, 6, 7, 8, 9], [0, 1, 2, 3, 4, 5, 6, 7, 8, 9], [0, 1, 2, 3, 4, 5, 6], [0], [0], [], []] (by kernel_rfl) (by kernel_rfl) (by kernel_rfl) ?_ (fun bb68 hlt hnd => ?_)
 intro bb68 hlt hnd
 have e_k10 : k10 < bb68 := key_lt hlt 0 rfl
 have e_k11 : k11 < bb68 := key_lt hlt 1 rfl
 have e_k17 : k17 < bb68 := key_lt hlt 2 rfl
 have e_k66 : l64 = [] ∨ k66 < bb68 := key_ltM (r := r57) (w := 2) hlt 3 rfl
 have f_k66 := moK_lt e_k66
 have d_k66_k10 : k10 ∉ moK l64 k66 := key_neM (r := r57) (w := 2) hnd 3 0 rfl rfl rfl
 have g_k66_k10 := moK_ne d_k66_k10
 have d_k66_k11 : k11 ∉ moK l64 k66 := key_neM (r := r57) (w := 2) hnd 3 1 rfl rfl rfl
 have g_k66_k11 := moK_ne d_k66_k11
 have d_k66_k17 : k17 ∉ moK l64 k66 := key_neM (r := r57) (w := 2) hnd 3 2 rfl rfl rfl
 have g_k66_k17 := moK_ne d_k66_k17
 exact ⟨(by first | (simp [DJ]; done) | (simp [DJ]; omega) | (simp [DJ]; assumption) | (simp_all [DJ]; done) | (simp_all [DJ]; omega)), (by first | (simp [DJ]; done) | (simp [DJ]; omega) | (simp [DJ]; assumption) | (simp_all [DJ]; done) | (simp_all [DJ]; omega))⟩
 have e_k10 : k10 < bb68 := key_lt hlt 0 rfl
 have e_k11 : k11 < bb68 := key_lt hlt 1 rfl
 have e_k17 : k17 < bb68 := key_lt hlt 2 rfl
 have e_k66 : l64 = [] ∨ k66 < bb68 := key_ltM (r := r57) (w := 2) hlt 3 rfl
 have f_k66 := moK_lt e_k66
 have d_k66_k10 : k10 ∉ moK l64 k66 := key_neM (r := r57) (w := 2) hnd 3 0 rfl rfl rfl
 have g_k66_k10 := moK_ne d_k66_k10
 have d_k66_k11 : k11 ∉ moK l64 k66 := key_neM (r := r57) (w := 2) hnd 3 1 rfl rfl rfl
 have g_k66_k11 := moK_ne d_k66_k11
 have d_k66_k17 : k17 ∉ moK l64 k66 := key_neM (r := r57) (w := 2) hnd 3 2 rfl rfl rfl
 have g_k66_k17 := moK_ne d_k66_k17
 refine tq [] rfl hmn (qm (.one (moC l64 k66))) ?_
 refine tq [] rfl (hm0 rfl) (q_fieldP rfl fa36_1 rfl) ?_
 refine tq [2] rfl (hm0 rfl) (ql (.one (sC r57 s16)) 0 sz25) ?_
 refine tq [] rfl (hm0 rfl) (qm (iO n65)) ?_
 obtain ⟨⟨n80, n81⟩, h79, h⟩ := bindS h
 obtain ⟨h79a, h79b, h79⟩ := atS_some h79
 refine tq [] rfl (hm0 rfl) (q_ixS rfl rfl h79a h79 (el25.trans (congrArg some h79b.symm))) ?_
 refine tq [] rfl (hm0 rfl) (q_fieldI rfl fa58_0 rfl) ?_
 refine tq [] rfl (hm0 rfl) (q_loadI (v := iO n80) rfl sz3 (map_get h79) rfl rfl) ?_
 refine tq [] rfl (hm0 rfl) (q_fieldP rfl fa28_0 rfl) ?_
 refine tq [0] rfl (hm0 rfl) (ql (iO n1) 0 sz22) ?_
 obtain ⟨n83, h82, h⟩ := bindS h
 refine tq [] rfl (hm0 rfl) (qc (iO n83) [iO n1] (law13_Right_r (m + 4) h82) (vw_cons (vd_one vc_v) vw_nil)) ?_
 refine tq [] rfl (hm0 rfl) (q_fieldP rfl fa36_1 rfl) ?_
 refine tq [2] rfl (hm0 rfl) (ql (.one (sC r57 s16)) 0 sz25) ?_
 refine tq [] rfl (hm0 rfl) (qm (iO n65)) ?_
 refine tq [] rfl (hm0 rfl) (q_ixS rfl rfl h79a h79 (el25.trans (congrArg some h79b.symm))) ?_
 refine tq [] rfl (hm0 rfl) (q_fieldI rfl fa58_1 rfl) ?_
 refine tq [] rfl (hm0 rfl) (q_loadI (v := iO n81) rfl sz2 (map_get h79) rfl rfl) ?_
 obtain ⟨n85, h84, h⟩ := bindS h
 refine tq [] rfl (hm0 rfl) (qc (iO n85) [iO n83, iO n81] (law02_Value_r (m + 4) h84) (vw_cons (vd_one vc_v) (vw_cons (vd_one vc_v) vw_nil))) ?_
 refine tq [] rfl (hm0 rfl) (q_build (cs := [iI n80, iI n85]) ty58 rfl pl58 rfl) ?_
 refine tn_new rfl rfl rfl [] (by decide) rfl (hm0 rfl) rfl rfl (hkc (ne_new (key_lt hlt 0 rfl)) (hkc (ne_new (key_lt hlt 1 rfl)) (hkc (ne_new (key_lt hlt 2 rfl)) (hkM (e_k66.imp id fun h => by omega) hkn)))) (q_bslice (cs := [iI n80, iI n85]) (es := (([(n80, n85)] : List (Int × Int))).map (rowC r57)) ty25 rfl ty58 rfl rfl rfl rfl rfl) ?_
 obtain ⟨_, h86, h⟩ := bindS h
 obtain ⟨h86b, rfl⟩ := app_some h86
 refine tn_appM (r := r57) (l := l64) 0 4 rfl rfl rfl rfl [4, 0] (by decide) rfl (hm0 rfl) rfl rfl (hkc (ne_add rfl) (hkc (ne_new (key_lt hlt 0 rfl)) (hkc (ne_new (key_lt hlt 1 rfl)) (hkc (ne_new (key_lt hlt 2 rfl)) (hkM (e_k66.imp id fun h => by omega) hkn))))) rfl rfl (el_ownM (l := ([(n80, n85)] : List (Int × Int))) 1 rfl) rfl rfl h86 (fun y => rfl) el25 ty25 rfl rfl rfl rfl rfl ?_
 refine tq [] rfl (hm0 rfl) (qa (.one (moC (l64 ++ ([(n80, n85)] : List (Int × Int))) (bb68 + 19)))) ?_
 refine tn_end (bN (eS (lO ?_)))
 refine pq (qm (iO n65)) ?_
 refine pq (qb p_addY) ?_
 refine pq (qa (iO (IntKind.i64.wrap (n65 + 1)))) ?_
 refine oE ?_
 obtain rfl := sj h
 exact E_next (bb68 + 19) (ups_self ⟨rfl, rfl, rfl, rfl, rfl, trivial⟩) [2, 3, 4, 0] (by decide) rfl
 replace h := ifF c67 h
 refine pq (qb (p_lss_fZ c67)) ?_
 refine oE (eS (cF rfl (L_exit ?_)))
 refine E_seqX ?_
 obtain rfl := sj h
 refine E_out ?_
 exact (E_exit k66 (ups_self ⟨rfl, rfl, rfl, trivial⟩) [1, 2, 3] (by decide) rfl)
 rintro (l87 | u) h
 refine J_x (fun k88 g => ?_)
 replace h := elimL h
 refine bH (eS (lS (lO ?_)))
 refine pq (q_fieldP rfl fa36_0 rfl) ?_
 refine pq (ql (iO n15) 1 sz3) ?_
 refine pq (qm (.one (moC l87 k88))) ?_
 refine pq (q_build (cs := [iI n15, moC l87 k88]) ty36 rfl pl36 rfl) ?_
 refine ow [[iI n15, moC l87 k88]] 0 sz36 ?_
 refine oE (eS (lR ?_))
 obtain rfl := sj h
 exact E_endF (.inr rfl) (res_cell (d := .agg [iI n15, moC l87 k88]) 0 rfl sz36 rfl rfl rfl rfl res_nil) (vw_cons (vd_agg (vc_cons vc_v (vc_cons (vc_M (r := r57) 2 rfl (fun x h m => rfl)) vc_nil))) vw_nil) oG rfl rfl
 obtain rfl := Option.some.inj (elimR h)
 exact J_up (fun s hs => hs)
noncomputable def ref09_Right_b1 (n1 : Int) (s2 : Sl (Int × Int)) (n33 : Int) : Option (Int ⊕ (Unit ⊕ Bool)) :=
 (if n33 < ((s2.l.length : Nat) : Int) then ((atS 2 s2 n33).bind fun (n37, n38) => (if n37 < 0 then some (.inr (.inr false)) else (if n37 ≥ n1 then some (.inr (.inr false)) else (if n33 > 0 then ((atS 2 s2 (IntKind.i64.wrap (n33 - 1))).bind fun (n44, n45) => (if n37 ≤ n44 then some (.inr (.inr false)) else some (.inl (IntKind.i64.wrap (n33 + 1))))) else some (.inl (IntKind.i64.wrap (n33 + 1))))))) else some (.inr (.inl ())))
noncomputable def ref09_Right (a0 : Int × (Sl (Int × Int))) : Option (Bool) :=
 match a0 with
 | (n1, s2) => (if n1 < 0 then some false else (if n1 > 4096 then some false else ((loopO (ref09_Right_b1 n1 s2) 0).bind (Sum.elim (fun _ => some true) (fun u => some u)))))
theorem ref09_Right_r (m : Nat) {a0 : Int × (Sl (Int × Int))} {out : Bool} (h : ref09_Right a0 = some out) : RunsP E1 (m + 1) 39 [.agg (r35 a0)] (.fresh, [.one (bT out)]) := by
 obtain ⟨n1, s2⟩ := a0
 refine fn_F rfl (by rw [E1_fn]; exact show fiOf Tryd.prog 39 = _ by unfold fiOf; rw [Tryd.func39]; unfold Tryd.f39; rfl) rfl ?_
 dsimp only
 unfold ref09_Right at h
 refine lS (lO ?_)
 refine ol_new rfl rfl rfl (q_box ty36 rfl (cs := [iI n1, sF r57 s2]) rfl rfl) (fun k3 => ?_)
 refine pq (qa bf) ?_
 refine oE (eS (lS (lS (lO ?_))))
 refine pq (q_fieldP rfl fa36_0 rfl) ?_
 refine pq (ql (iO n1) 0 sz3) ?_
 by_cases c4 : n1 < 0
 replace h := ifT c4 h
 refine pq (qb (p_lss_tZ c4)) ?_
 refine pq (qm bt) ?_
 iterate 3 refine os ?_
 refine pq (qpt bt) ?_
 refine oE (eS (cT rfl (lS (lO ?_))))
 refine pq (qa bf) ?_
 refine oE (eS (lR (eR ?_)))
 obtain rfl := sj h
 exact eF1
 replace h := ifF c4 h
 refine pq (qb (p_lss_fZ c4)) ?_
 refine pq (qm bf) ?_
 refine pq (q_fieldP rfl fa36_0 rfl) ?_
 refine pq (ql (iO n1) 0 sz3) ?_
 by_cases c5 : n1 > 4096
 replace h := ifT c5 h
 refine pq (qb (p_gtr_tZ c5)) ?_
 refine pq (qpf bt) ?_
 refine oE (eS (cT rfl (lS (lO ?_))))
 refine pq (qa bf) ?_
 refine oE (eS (lR (eR ?_)))
 obtain rfl := sj h
 exact eF1
 replace h := ifF c5 h
 refine pq (qb (p_gtr_fZ c5)) ?_
 refine pq (qpf bf) ?_
 refine oE (eS (cF rfl (lK (eS (lS (lS (lO ?_)))))))
 refine pq (qa (iO 0)) ?_
 refine oE (eS (lB ?_))
 let S1 : Int → Unit → (Nat → D) → Nat → D := fun a kt g => ups g [(1, .one (.ptr k3 0 0)), (3, iO a)]
 let SL1 : Int → Unit → BL := fun a kt => ([[(k3, 2, [[iI n1, sF r57 s2]])]] : BL)
 let G1 : Bool → Ex → St → Prop := fun u => endQ E1 [.tmp 2] (.fresh, [.one (bT u)])
 let Sx1 : Unit → Unit → (Nat → D) → Nat → D := fun a kt g => ups g []
 let SLx1 : Unit → Unit → BL := fun a kt => ([] : BL)
 let J1 : (Unit ⊕ Bool) → Ex → St → Prop := JX 57 0 Sx1 SLx1 G1
 refine L_loopS (ref09_Right_b1 n1 s2) S1 SL1 J1 JX_n 0 h () (ups_self ⟨rfl, rfl, trivial⟩) [0] (by decide) rfl ?_ ?_
 rintro n33 _ g out h
 change ref09_Right_b1 n1 s2 n33 = some out at h
 unfold ref09_Right_b1 at h
 refine lS (lS (lO ?_))
 refine pq (qm (iO n33)) ?_
 refine pq (q_fieldP rfl fa36_1 rfl) ?_
 refine pq (ql (.one (sF r57 s2)) 0 sz25) ?_
 refine pq (q_lenS rfl ty25 rfl rfl rfl rfl) ?_
 by_cases c34 : n33 < ((s2.l.length : Nat) : Int)
 replace h := ifT c34 h
 refine pq (qb (p_lss_tZ c34)) ?_
 refine oE (eS (cT rfl (lK (eS (lS (lB (lS ?_)))))))
 refine L_still (by kernel_rfl) ?_
 refine sq (q_fieldP rfl fa36_1 rfl) ?_
 refine sq (ql (.one (sF r57 s2)) 0 sz25) ?_
 refine sq (qm (iO n33)) ?_
 obtain ⟨⟨n37, n38⟩, h36, h⟩ := bindS h
 obtain ⟨h36a, h36b, h36⟩ := atS_some h36
 refine sq (q_ixS rfl rfl h36a h36 (el25.trans (congrArg some h36b.symm))) ?_
 refine sq (q_fieldI rfl fa58_0 rfl) ?_
 refine sq (q_loadI (v := iO n37) rfl sz3 (map_get h36) rfl rfl) ?_
 by_cases c39 : n37 < 0
 replace h := ifT c39 h
 refine sq (qb (p_lss_tZ c39)) ?_
 refine sq (qm bt) ?_
 iterate 9 refine ss ?_
 refine sq (qpt bt) ?_
 refine sq (qm bt) ?_
 iterate 18 refine ss ?_
 refine sq (qpt bt) ?_
 refine st_end (eS (cT rfl (lS (lO ?_))))
 refine pq (qa bf) ?_
 refine oE (eS (lR (bR (eR ?_))))
 obtain rfl := sj h
 exact E_out (E_up (eF1))
 replace h := ifF c39 h
 refine sq (qb (p_lss_fZ c39)) ?_
 refine sq (qm bf) ?_
 refine sq (q_fieldP rfl fa36_1 rfl) ?_
 refine sq (ql (.one (sF r57 s2)) 0 sz25) ?_
 refine sq (qm (iO n33)) ?_
 refine sq (q_ixS rfl rfl h36a h36 (el25.trans (congrArg some h36b.symm))) ?_
 refine sq (q_fieldI rfl fa58_0 rfl) ?_
 refine sq (q_loadI (v := iO n37) rfl sz3 (map_get h36) rfl rfl) ?_
 refine sq (q_fieldP rfl fa36_0 rfl) ?_
 refine sq (ql (iO n1) 0 sz3) ?_
 by_cases c40 : n37 ≥ n1
 replace h := ifT c40 h
 refine sq (qb (p_geq_tZ c40)) ?_
 refine sq (qpf bt) ?_
 refine sq (qm bt) ?_
 iterate 18 refine ss ?_
 refine sq (qpt bt) ?_
 refine st_end (eS (cT rfl (lS (lO ?_))))
 refine pq (qa bf) ?_
 refine oE (eS (lR (bR (eR ?_))))
 obtain rfl := sj h
 exact E_out (E_up (eF1))
 replace h := ifF c40 h
 refine sq (qb (p_geq_fZ c40)) ?_
 refine sq (qpf bf) ?_
 refine sq (qm bf) ?_
 refine sq (qm (iO n33)) ?_
 by_cases c41 : n33 > 0
 replace h := ifT c41 h
 refine sq (qb (p_gtr_tZ c41)) ?_
 refine sq (qm bt) ?_
 refine sq (q_fieldP rfl fa36_1 rfl) ?_
 refine sq (ql (.one (sF r57 s2)) 0 sz25) ?_
 refine sq (qm (iO n33)) ?_
 refine sq (q_ixS rfl rfl h36a h36 (el25.trans (congrArg some h36b.symm))) ?_
 refine sq (q_fieldI rfl fa58_0 rfl) ?_
 refine sq (q_loadI (v := iO n37) rfl sz3 (map_get h36) rfl rfl) ?_
 refine sq (q_fieldP rfl fa36_1 rfl) ?_
 refine sq (ql (.one (sF r57 s2)) 0 sz25) ?_
 refine sq (qm (iO n33)) ?_
 refine sq (qb p_subY) ?_
 obtain ⟨⟨n44, n45⟩, h43, h⟩ := bindS h
 obtain ⟨h43a, h43b, h43⟩ := atS_some h43
 refine sq (q_ixS rfl rfl h43a h43 (el25.trans (congrArg some h43b.symm))) ?_
 refine sq (q_fieldI rfl fa58_0 rfl) ?_
 refine sq (q_loadI (v := iO n44) rfl sz3 (map_get h43) rfl rfl) ?_
 by_cases c46 : n37 ≤ n44
 replace h := ifT c46 h
 refine sq (qb (p_leq_tZ c46)) ?_
 refine sq (qpt bt) ?_
 refine sq (qpf bt) ?_
 refine st_end (eS (cT rfl (lS (lO ?_))))
 refine pq (qa bf) ?_
 refine oE (eS (lR (bR (eR ?_))))
 obtain rfl := sj h
 exact E_out (E_up (eF1))
 replace h := ifF c46 h
 refine sq (qb (p_leq_fZ c46)) ?_
 refine sq (qpt bf) ?_
 refine sq (qpf bf) ?_
 refine st_end (eS (cF rfl (lK (bN (eS (lO ?_))))))
 refine pq (qm (iO n33)) ?_
 refine pq (qb p_addY) ?_
 refine pq (qa (iO (IntKind.i64.wrap (n33 + 1)))) ?_
 refine oE ?_
 obtain rfl := sj h
 exact E_next () (ups_self ⟨rfl, rfl, trivial⟩) [0] (by decide) rfl
 replace h := ifF c41 h
 refine sq (qb (p_gtr_fZ c41)) ?_
 refine sq (qm bf) ?_
 iterate 14 refine ss ?_
 refine sq (qpf bf) ?_
 refine sq (qpf bf) ?_
 refine st_end (eS (cF rfl (lK (bN (eS (lO ?_))))))
 refine pq (qm (iO n33)) ?_
 refine pq (qb p_addY) ?_
 refine pq (qa (iO (IntKind.i64.wrap (n33 + 1)))) ?_
 refine oE ?_
 obtain rfl := sj h
 exact E_next () (ups_self ⟨rfl, rfl, trivial⟩) [0] (by decide) rfl
 replace h := ifF c34 h
 refine pq (qb (p_lss_fZ c34)) ?_
 refine oE (eS (cF rfl (L_exit ?_)))
 refine E_seqX ?_
 obtain rfl := sj h
 refine E_out ?_
 exact (E_exit () (ups_self trivial) [] (by decide) rfl)
 rintro (_ | u) h
 refine J_x (fun kt g => ?_)
 replace h := elimL h
 refine bH (eS (lS (lO ?_)))
 refine pq (qa bt) ?_
 refine oE (eS (lR ?_))
 obtain rfl := sj h
 exact eF1
 obtain rfl := Option.some.inj (elimR h)
 exact J_up (fun s hs => hs)
noncomputable def ref09_Sure (a0 : Int × (Sl (Int × Int))) : Option ((Int × (Sl (Int × Int)))) :=
 match a0 with
 | (n1, s2) => ((ref09_Right (n1, s2)).bind fun b6 => (if b6 = true then some (n1, s2) else some (0, (⟨false, 0, []⟩ : Sl (Int × Int)))))
theorem ref09_Sure_r (m : Nat) {a0 : Int × (Sl (Int × Int))} {out : (Int × (Sl (Int × Int)))} (h : ref09_Sure a0 = some out) : RunsX E1 (m + 2) 21 [.agg (r35 a0)] [.agg (r35 out)] := by
 obtain ⟨n1, s2⟩ := a0
 refine fn_X rfl (by rw [E1_fn]; exact show fiOf Tryd.prog 21 = _ by unfold fiOf; rw [Tryd.func21]; unfold Tryd.f21; rfl) rfl ?_
 dsimp only
 unfold ref09_Sure at h
 refine lS (lO ?_)
 refine ol_new rfl rfl rfl (q_box ty36 rfl (cs := [iI n1, sF r57 s2]) rfl rfl) (fun k3 => ?_)
 refine ol_new rfl rfl rfl (q_alloc ty36 (row := [iI 0, nC]) rfl rfl) (fun k4 => ?_)
 refine oE (eS (lS (lS (lO ?_))))
 refine pq (ql (.agg [iI n1, sF r57 s2]) 1 sz36) ?_
 obtain ⟨b6, h5, h⟩ := bindS h
 refine pq (qc (bO b6) [.agg [iI n1, sF r57 s2]] (ref09_Right_r (m + 0) h5) (vw_cons (vd_agg (vc_cons vc_v (vc_cons vc_s vc_nil))) vw_nil)) ?_
 refine oE (eS ?_)
 rcases b6 with _ | _
 replace h := wF h
 refine cF rfl (lK (eS (lS (lO ?_))))
 refine pq (q_build (cs := [iI 0, nC]) ty36 rfl pl36 rfl) ?_
 refine ow [[iI 0, nC]] 0 sz36 ?_
 refine oE (eS (lR ?_))
 obtain rfl := sj h
 exact E_endX (.inr rfl) (res_cell (d := .agg [iI 0, nC]) 0 rfl sz36 rfl rfl rfl rfl res_nil) (vw_cons (vd_agg (vc_cons vc_v (vc_cons vc_s vc_nil))) vw_nil) oG rfl
 replace h := wT h
 refine cT rfl (lS (lO ?_))
 refine pq (ql (.agg [iI n1, sF r57 s2]) 1 sz36) ?_
 refine ow [[iI n1, sF r57 s2]] 0 sz36 ?_
 refine oE (eS (lR (eR ?_)))
 obtain rfl := sj h
 exact E_endX (.inr rfl) (res_cell (d := .agg [iI n1, sF r57 s2]) 0 rfl sz36 rfl rfl rfl rfl res_nil) (vw_cons (vd_agg (vc_cons vc_v (vc_cons vc_s vc_nil))) vw_nil) oG rfl
noncomputable def ref11_has_b1 (s2 : Sl (Int × Int)) (n3 : Int) (n18 : Int) : Option (Int ⊕ (Unit ⊕ (Int × Bool))) :=
 (if n18 < ((s2.l.length : Nat) : Int) then ((atS 2 s2 n18).bind fun (n22, n23) => (if n22 = n3 then some (.inr (.inr (n23, true))) else some (.inl (IntKind.i64.wrap (n18 + 1))))) else some (.inr (.inl ())))
noncomputable def ref11_has (a0 : Int × (Sl (Int × Int))) (n3 : Int) : Option (Int × Bool) :=
 match a0 with
 | (n1, s2) => ((loopO (ref11_has_b1 s2 n3) 0).bind (Sum.elim (fun _ => some (0, false)) (fun u => some u)))
theorem ref11_has_r (m : Nat) {a0 : Int × (Sl (Int × Int))} {n3 : Int} {out : Int × Bool} (h : ref11_has a0 n3 = some out) : RunsP E1 (m + 1) 23 [.agg (r35 a0), .one (iT .i64 n3)] (.fresh, [.one (iT .i64 out.1), .one (bT out.2)]) := by
 obtain ⟨n1, s2⟩ := a0
 refine fn_F rfl (by rw [E1_fn]; exact show fiOf Tryd.prog 23 = _ by unfold fiOf; rw [Tryd.func23]; unfold Tryd.f23; rfl) rfl ?_
 dsimp only
 unfold ref11_has at h
 refine lS (lO ?_)
 refine ol_new rfl rfl rfl (q_box ty36 rfl (cs := [iI n1, sF r57 s2]) rfl rfl) (fun k4 => ?_)
 refine pq (qa (iO 0)) ?_
 refine pq (qa bf) ?_
 refine oE (eS (lS (lS (lO ?_))))
 refine pq (qa (iO 0)) ?_
 refine oE (eS (lB ?_))
 let S1 : Int → Unit → (Nat → D) → Nat → D := fun a kt g => ups g [(1, iO n3), (2, .one (.ptr k4 0 0)), (6, iO a)]
 let SL1 : Int → Unit → BL := fun a kt => ([[(k4, 2, [[iI n1, sF r57 s2]])]] : BL)
 let G1 : (Int × Bool) → Ex → St → Prop := fun u => endQ E1 [.tmp 4, .tmp 5] (.fresh, [.one (iT .i64 u.1), .one (bT u.2)])
 let Sx1 : Unit → Unit → (Nat → D) → Nat → D := fun a kt g => ups g []
 let SLx1 : Unit → Unit → BL := fun a kt => ([] : BL)
 let J1 : (Unit ⊕ (Int × Bool)) → Ex → St → Prop := JX 28 0 Sx1 SLx1 G1
 refine L_loopS (ref11_has_b1 s2 n3) S1 SL1 J1 JX_n 0 h () (ups_self ⟨rfl, rfl, rfl, trivial⟩) [0] (by decide) rfl ?_ ?_
 rintro n18 _ g out h
 change ref11_has_b1 s2 n3 n18 = some out at h
 unfold ref11_has_b1 at h
 refine lS (lS (lO ?_))
 refine pq (qm (iO n18)) ?_
 refine pq (q_fieldP rfl fa36_1 rfl) ?_
 refine pq (ql (.one (sF r57 s2)) 0 sz25) ?_
 refine pq (q_lenS rfl ty25 rfl rfl rfl rfl) ?_
 by_cases c19 : n18 < ((s2.l.length : Nat) : Int)
 replace h := ifT c19 h
 refine pq (qb (p_lss_tZ c19)) ?_
 refine oE (eS (cT rfl (lK (eS (lS (lB (lS (lO ?_))))))))
 refine pq (q_fieldP rfl fa36_1 rfl) ?_
 refine pq (ql (.one (sF r57 s2)) 0 sz25) ?_
 refine pq (qm (iO n18)) ?_
 obtain ⟨⟨n22, n23⟩, h21, h⟩ := bindS h
 obtain ⟨h21a, h21b, h21⟩ := atS_some h21
 refine pq (q_ixS rfl rfl h21a h21 (el25.trans (congrArg some h21b.symm))) ?_
 refine pq (q_fieldI rfl fa58_0 rfl) ?_
 refine pq (q_loadI (v := iO n22) rfl sz3 (map_get h21) rfl rfl) ?_
 refine pq (qm (iO n3)) ?_
 by_cases c24 : n22 = n3
 replace h := ifT c24 h
 refine pq (qb (p_eql_tZ c24)) ?_
 refine oE (eS (cT rfl (lS (lO ?_))))
 refine pq (q_fieldP rfl fa36_1 rfl) ?_
 refine pq (ql (.one (sF r57 s2)) 0 sz25) ?_
 refine pq (qm (iO n18)) ?_
 refine pq (q_ixS rfl rfl h21a h21 (el25.trans (congrArg some h21b.symm))) ?_
 refine pq (q_fieldI rfl fa58_1 rfl) ?_
 refine pq (q_loadI (v := iO n23) rfl sz2 (map_get h21) rfl rfl) ?_
 refine pq (qa (iO n23)) ?_
 refine pq (qa bt) ?_
 refine oE (eS (lR (bR (eR ?_))))
 obtain rfl := sj h
 exact E_out (E_up (E_endF (.inr rfl) (res_tmp rfl (res_tmp rfl res_nil)) (vw_cons (vd_one vc_v) (vw_cons (vd_one vc_v) vw_nil)) oW rfl rfl))
 replace h := ifF c24 h
 refine pq (qb (p_eql_fZ c24)) ?_
 refine oE (eS (cF rfl (lK (bN (eS (lO ?_))))))
 refine pq (qm (iO n18)) ?_
 refine pq (qb p_addY) ?_
 refine pq (qa (iO (IntKind.i64.wrap (n18 + 1)))) ?_
 refine oE ?_
 obtain rfl := sj h
 exact E_next () (ups_self ⟨rfl, rfl, rfl, trivial⟩) [0] (by decide) rfl
 replace h := ifF c19 h
 refine pq (qb (p_lss_fZ c19)) ?_
 refine oE (eS (cF rfl (L_exit ?_)))
 refine E_seqX ?_
 obtain rfl := sj h
 refine E_out ?_
 exact (E_exit () (ups_self trivial) [] (by decide) rfl)
 rintro (_ | u) h
 refine J_x (fun kt g => ?_)
 replace h := elimL h
 refine bH (eS (lS (lO ?_)))
 refine pq (qa (iO 0)) ?_
 refine pq (qa bf) ?_
 refine oE (eS (lR ?_))
 obtain rfl := sj h
 exact E_endF (.inr rfl) (res_tmp rfl (res_tmp rfl res_nil)) (vw_cons (vd_one vc_v) (vw_cons (vd_one vc_v) vw_nil)) oW rfl rfl
 obtain rfl := Option.some.inj (elimR h)
 exact J_up (fun s hs => hs)
end Ev
end Go.Proofs.YtnikcjnkcjondaaDoor
end
