/- Functions of the program as functions on data, and that they are. -/
import Derived.Test.YtlcfdmjkbaegpaaEvZ
import Derived.Test.YtlcfdmjkbaegpaaLf1
import Derived.Test.YtlcfdmjkbaegpaaLy1
namespace Go.Proofs.Ytlcfdmjkbaegpaa
namespace Ev
open Go
set_option linter.unusedVariables false
set_option linter.unusedSimpArgs false
set_option maxRecDepth 100000
set_option maxHeartbeats 1000000
attribute [local irreducible] OpsL StL TnL WpL EndL
noncomputable def blend_Over_c1 (a0 : Int × Int × Int × Bool × Bool) : Option ((Int × Int) × Bool) :=
  match a0 with
  | (n1, n2, n3, b4, b5) => (if b5 = true then ((wide_Of n3).bind fun (n12, n13) => some ((n12, n13), true)) else ((wide_Of n2).bind fun (n9, n10) => some ((n9, n10), true)))
theorem blend_Over_c1_r (m : Nat) {a0 : Int × Int × Int × Bool × Bool} {out : (Int × Int) × Bool} (h : blend_Over_c1 a0 = some out) : RunsP E1 (m + 2) 46 [.agg (r63 a0)] (.fresh, [.agg (r65 out.1), .one (bT out.2)]) := by
 obtain ⟨n1, n2, n3, b4, b5⟩ := a0
 refine fn_F rfl (by rw [E1_fn]; exact show fiOf Try.prog 46 = _ by unfold fiOf; rw [Try.func46]; unfold Try.f46; rfl) rfl ?_
 dsimp only
 unfold blend_Over_c1 at h
 refine lS (lO ?_)
 refine ol_new rfl rfl rfl (q_box ty64 rfl (cs := [iI n1, iI n2, iI n3, bC b4, bC b5]) rfl rfl) (fun k6 => ?_)
 refine ol_new rfl rfl rfl (q_alloc ty66 (row := [iI 0, uI 0]) rfl rfl) (fun k7 => ?_)
 refine pq (qa bf) ?_
 refine oE (eS (lS (lS (lO ?_))))
 refine pq (q_fieldP rfl fa64_4 rfl) ?_
 refine pq (ql (bO b5) 1 sz4) ?_
 refine oE (eS ?_)
 rcases b5 with _ | _
 replace h := wF h
 refine cF rfl (lK (eS (lS (lO ?_))))
 refine pq (q_fieldP rfl fa64_1 rfl) ?_
 refine pq (ql (iO n2) 1 sz2) ?_
 obtain ⟨⟨n9, n10⟩, h8, h⟩ := bindS h
 refine pq (qc (.agg [iI n9, uI n10]) [iO n2] (wide_Of_r (m + 0) h8) (vw_cons (vd_one vc_v) vw_nil)) ?_
 refine ow [[iI n9, uI n10]] 0 sz66 ?_
 refine pq (qa bt) ?_
 refine oE (eS (lR ?_))
 obtain rfl := sj h
 exact E_endF (.inr rfl) (res_cell (d := .agg [iI n9, uI n10]) 0 rfl sz66 rfl rfl rfl rfl (res_tmp rfl res_nil)) (vw_cons (vd_agg (vc_cons vc_v (vc_cons vc_v vc_nil))) (vw_cons (vd_one vc_v) vw_nil)) oW rfl rfl
 replace h := wT h
 refine cT rfl (lS (lO ?_))
 refine pq (q_fieldP rfl fa64_2 rfl) ?_
 refine pq (ql (iO n3) 1 sz2) ?_
 obtain ⟨⟨n12, n13⟩, h11, h⟩ := bindS h
 refine pq (qc (.agg [iI n12, uI n13]) [iO n3] (wide_Of_r (m + 0) h11) (vw_cons (vd_one vc_v) vw_nil)) ?_
 refine ow [[iI n12, uI n13]] 0 sz66 ?_
 refine pq (qa bt) ?_
 refine oE (eS (lR (eR ?_)))
 obtain rfl := sj h
 exact E_endF (.inr rfl) (res_cell (d := .agg [iI n12, uI n13]) 0 rfl sz66 rfl rfl rfl rfl (res_tmp rfl res_nil)) (vw_cons (vd_agg (vc_cons vc_v (vc_cons vc_v vc_nil))) (vw_cons (vd_one vc_v) vw_nil)) oW rfl rfl

noncomputable def blend_Over_b1 (a : (Sl (Int × Int)) × (Sl (Int × Int)) × (List (Int × Int))) : Option (((Sl (Int × Int)) × (Sl (Int × Int)) × (List (Int × Int))) ⊕ ((List (Int × Int)) ⊕ ((List (Int × Int)) ⊕ Empty))) :=
  match a with
  | (s562, s563, l564) => (if ((s562.l.length : Nat) : Int) > 0 then (if ((s563.l.length : Nat) : Int) = 0 then ((atS 2 s562 0).bind fun (n590, n591) => ((cutS 2 s562 1 ((s562.l.length : Nat) : Int)).bind fun s592 => ((blend_Over_c1 (n590, n591, 0, true, false)).bind fun ((n596, n597), b598) => (if b598 = true then ((wide_Narrow (n596, n597)).bind fun (n601, b602) => (if b602 = true then ((app l564 ([(n590, n601)] : List (Int × Int))).bind fun _ => some (.inl (s592, s563, (l564 ++ ([(n590, n601)] : List (Int × Int)))))) else some (.inr (.inl l564)))) else some (.inl (s592, s563, l564)))))) else ((atS 2 s562 0).bind fun (n608, n609) => ((atS 2 s563 0).bind fun (n612, n613) => (if n608 ≤ n612 then (if n612 ≤ n608 then ((cutS 2 s562 1 ((s562.l.length : Nat) : Int)).bind fun s619 => ((cutS 2 s563 1 ((s563.l.length : Nat) : Int)).bind fun s622 => ((blend_Over_c1 (n612, n609, n613, true, true)).bind fun ((n626, n627), b628) => (if b628 = true then ((wide_Narrow (n626, n627)).bind fun (n631, b632) => (if b632 = true then ((app l564 ([(n612, n631)] : List (Int × Int))).bind fun _ => some (.inl (s619, s622, (l564 ++ ([(n612, n631)] : List (Int × Int)))))) else some (.inr (.inl l564)))) else some (.inl (s619, s622, l564)))))) else ((cutS 2 s562 1 ((s562.l.length : Nat) : Int)).bind fun s637 => ((blend_Over_c1 (n608, n609, 0, true, false)).bind fun ((n641, n642), b643) => (if b643 = true then ((wide_Narrow (n641, n642)).bind fun (n646, b647) => (if b647 = true then ((app l564 ([(n608, n646)] : List (Int × Int))).bind fun _ => some (.inl (s637, s563, (l564 ++ ([(n608, n646)] : List (Int × Int)))))) else some (.inr (.inl l564)))) else some (.inl (s637, s563, l564)))))) else ((cutS 2 s563 1 ((s563.l.length : Nat) : Int)).bind fun s653 => ((blend_Over_c1 (n612, 0, n613, false, true)).bind fun ((n657, n658), b659) => (if b659 = true then ((wide_Narrow (n657, n658)).bind fun (n662, b663) => (if b663 = true then ((app l564 ([(n612, n662)] : List (Int × Int))).bind fun _ => some (.inl (s562, s653, (l564 ++ ([(n612, n662)] : List (Int × Int)))))) else some (.inr (.inl l564)))) else some (.inl (s562, s653, l564))))))))) else (if ((s563.l.length : Nat) : Int) > 0 then ((atS 2 s563 0).bind fun (n678, n679) => ((cutS 2 s563 1 ((s563.l.length : Nat) : Int)).bind fun s680 => ((blend_Over_c1 (n678, 0, n679, false, true)).bind fun ((n684, n685), b686) => (if b686 = true then ((wide_Narrow (n684, n685)).bind fun (n689, b690) => (if b690 = true then ((app l564 ([(n678, n689)] : List (Int × Int))).bind fun _ => some (.inl (s562, s680, (l564 ++ ([(n678, n689)] : List (Int × Int)))))) else some (.inr (.inl l564)))) else some (.inl (s562, s680, l564)))))) else some (.inr (.inr (.inl l564)))))
noncomputable def blend_Over (a0 : Int × (Sl (Int × Int))) (a1 : Int × (Sl (Int × Int))) : Option ((Int × (Sl (Int × Int))) × Int) :=
  match a0, a1 with
  | (n1, s2), (n3, s4) => ((blend_sure (n1, s2)).bind fun (n23, s24) => ((blend_sure (n3, s4)).bind fun (n27, s28) => (if n23 ≠ n27 then some ((0, (⟨false, 0, []⟩ : Sl (Int × Int))), 4) else ((loopO (blend_Over_b1) (s24, s28, ([] : List (Int × Int)))).bind ((Sum.elim (fun l694 => some ((0, (⟨false, 0, []⟩ : Sl (Int × Int))), 12)) (Sum.elim (fun l696 => some ((n23, (mo 2 l696)), 0)) (fun u => u.elim))))))))
theorem blend_Over_r (m : Nat) {a0 : Int × (Sl (Int × Int))} {a1 : Int × (Sl (Int × Int))} {out : (Int × (Sl (Int × Int))) × Int} (h : blend_Over a0 a1 = some out) : RunsP E1 (m + 5) 17 [.agg (r24 a0), .agg (r24 a1)] (.fresh, [.agg (r24 out.1), .one (iT .i64 out.2)]) := by
 obtain ⟨n1, s2⟩ := a0
 obtain ⟨n3, s4⟩ := a1
 refine fn_F rfl (by rw [E1_fn]; exact show fiOf Try.prog 17 = _ by unfold fiOf; rw [Try.func17]; unfold Try.f17; rfl) rfl ?_
 dsimp only
 unfold blend_Over at h
 refine lS (lO ?_)
 refine ol_new rfl rfl rfl (q_box ty25 rfl (cs := [iI n1, sF r56 s2]) rfl rfl) (fun k5 => ?_)
 refine ol_new rfl rfl rfl (q_box ty25 rfl (cs := [iI n3, sF r56 s4]) rfl rfl) (fun k6 => ?_)
 refine ol_new rfl rfl rfl (q_alloc ty25 (row := [iI 0, nC]) rfl rfl) (fun k7 => ?_)
 refine pq (qa (iO 0)) ?_
 refine oN ?_
 refine pq (ql (.agg [iI n1, sF r56 s2]) 2 sz25) ?_
 refine pq (ql (.agg [iI n3, sF r56 s4]) 1 sz25) ?_
 refine ol_scallN (args := [.agg [iI n1, sF r56 s2], .agg [iI n3, sF r56 s4], .one (.p true (.v (.func (.func 46) #[] #[])))]) rfl rfl rfl ax33 (by rw [E1_fn]; exact show fiOf Try.prog 33 = _ by unfold fiOf; rw [Try.func33]; unfold Try.f33; rfl) rfl rfl rfl ?_
 dsimp only
 refine lS (lO ?_)
 refine ol_new rfl rfl rfl (q_box ty25 rfl (cs := [iI n1, sF r56 s2]) rfl rfl) (fun k8 => ?_)
 refine ol_new rfl rfl rfl (q_box ty25 rfl (cs := [iI n3, sF r56 s4]) rfl rfl) (fun k9 => ?_)
 refine ol_new rfl rfl rfl (q_box ty69 rfl (cs := [.p true (.v (.func (.func 46) #[] #[]))]) rfl rfl) (fun k10 => ?_)
 refine ol_new rfl rfl rfl (q_alloc ty25 (row := [iI 0, nC]) rfl rfl) (fun k11 => ?_)
 refine ol_new rfl rfl rfl (q_alloc ty28 (row := [iI 0]) rfl rfl) (fun k12 => ?_)
 refine oE (eS (lS ?_))
 refine L_norm (L2 := ([[(k12, 1, [[iI 0]])], [(k11, 2, [[iI 0, nC]])], [(k10, 1, [[.p true (.v (.func (.func 46) #[] #[]))]])], [(k9, 2, [[iI n3, sF r56 s4]])], [(k8, 2, [[iI n1, sF r56 s2]])], [(k7, 2, [[iI 0, nC]])]] : BL)) [0, 1, 2, 3, 4, 5] (by decide) rfl ?_
 refine L_turn 6 rfl [[], [], [], [], [k8], [k9]] [(false, []), (false, []), (false, []), (false, []), (false, []), (false, [])] [[2], [2], [0, 1], [], [], []] (by kernel_rfl) (by kernel_rfl) (by kernel_rfl) ?_ (fun bb13 hlt hnd => ?_)
 intro bb13 hlt hnd
 exact ⟨⟨djE, ⟨djE, ⟨djE, ⟨djE, ⟨djN, ⟨djN, trivial⟩⟩⟩⟩⟩⟩, (ltO_cons ltK_nil (ltO_cons ltK_nil (ltO_cons ltK_nil (ltO_cons ltK_nil (ltO_cons (ltK_cons (key_lt hlt 4 rfl) ltK_nil) (ltO_cons (ltK_cons (key_lt hlt 3 rfl) ltK_nil) ltO_nil))))))⟩
 refine tq [4] rfl (hm0 rfl) (ql (.agg [iI n1, sF r56 s2]) 0 sz25) ?_
 obtain ⟨⟨n23, s24⟩, h22, h⟩ := bindS h
 refine tn_putX rfl rfl rfl [] (by decide) rfl (hm0 rfl) rfl (q_callX (v := fun fr25 => .agg [iI n23, .p fr25 (Sl.t r56 s24)]) (args := [.agg [iI n1, sF r56 s2]]) (blend_sure_r (m + 0) h22) rfl rfl (vw_cons (vd_agg (vc_cons vc_v (vc_cons vc_s vc_nil))) vw_nil) rfl rfl (fun fr => rfl)) (fun fr25 => ?_)
 refine tq [3] rfl (hm0 rfl) (ql (.agg [iI n3, sF r56 s4]) 0 sz25) ?_
 obtain ⟨⟨n27, s28⟩, h26, h⟩ := bindS h
 refine tn_putX rfl rfl rfl [] (by decide) rfl (hm0 rfl) rfl (q_callX (v := fun fr29 => .agg [iI n27, .p fr29 (Sl.t r56 s28)]) (args := [.agg [iI n3, sF r56 s4]]) (blend_sure_r (m + 0) h26) rfl rfl (vw_cons (vd_agg (vc_cons vc_v (vc_cons vc_s vc_nil))) vw_nil) rfl rfl (fun fr => rfl)) (fun fr29 => ?_)
 refine tn_wr rfl rfl [4] (by decide) rfl (hm0 rfl) rfl (q_store (es' := [[iI n23, .p fr25 (Sl.t r56 s24)]]) 0 rfl rfl rfl sz25 rfl rfl rfl rfl rfl) (q := 4) rfl rfl ?_
 refine tn_wr rfl rfl [3] (by decide) rfl (hm0 rfl) rfl (q_store (es' := [[iI n27, .p fr29 (Sl.t r56 s28)]]) 0 rfl rfl rfl sz25 rfl rfl rfl rfl rfl) (q := 3) rfl rfl ?_
 refine tn_end (eS (lS (lS (lO ?_))))
 refine pq (q_fieldP rfl fa25_0 rfl) ?_
 refine pq (ql (iO n23) 4 sz3) ?_
 refine pq (q_fieldP rfl fa25_0 rfl) ?_
 refine pq (ql (iO n27) 3 sz3) ?_
 by_cases c30 : n23 ≠ n27
 replace h := ifT c30 h
 refine pq (qb (p_neq_tZ c30)) ?_
 refine oE (eS (cT rfl (lS (lO ?_))))
 refine pq (q_build (cs := [iI 0, nC]) ty25 rfl pl25 rfl) ?_
 refine ow [[iI 0, nC]] 1 sz25 ?_
 refine ow [[iI 4]] 0 sz28 ?_
 refine oE (eS (lR (eR ?_)))
 refine E_call (v := .tup [.agg [iI 0, nC], iO 4]) (.inr rfl) (res_cell (d := .agg [iI 0, nC]) 1 rfl sz25 rfl rfl rfl rfl (res_cell (d := iO 4) 0 rfl sz28 rfl rfl rfl rfl res_nil)) rfl ?_
 refine pq (q_ext (v := .agg [iI 0, nC]) rfl rfl) ?_
 refine pq (q_ext (v := iO 4) rfl rfl) ?_
 refine ow [[iI 0, nC]] 5 sz25 ?_
 refine pq (qa (iO 4)) ?_
 refine oE (eS (lR ?_))
 obtain rfl := sj h
 exact E_endF (.inr rfl) (res_cell (d := .agg [iI 0, nC]) 5 rfl sz25 rfl rfl rfl rfl (res_tmp rfl res_nil)) (vw_cons (vd_agg (vc_cons vc_v (vc_cons vc_s vc_nil))) (vw_cons (vd_one vc_v) vw_nil)) oW rfl rfl
 replace h := ifF c30 h
 refine pq (qb (p_neq_fZ c30)) ?_
 refine oE (eS (cF rfl (lK (eS (lS (lO ?_))))))
 refine pq (q_fieldP rfl fa25_0 rfl) ?_
 refine pq (ql (iO n23) 4 sz3) ?_
 refine pq (q_build (cs := [iI n23, nC]) ty25 rfl pl25 rfl) ?_
 refine ol_new rfl rfl rfl (q_alloc ty25 (row := [iI 0, nC]) rfl rfl) (fun k31 => ?_)
 refine ow [[iI n23, nC]] 0 sz25 ?_
 refine oE (eS (lS (lS (lO ?_))))
 refine pq (q_fieldP rfl fa25_1 rfl) ?_
 refine pq (ql (.one (.p fr25 (Sl.t r56 s24))) 5 sz23) ?_
 refine pq (q_fieldP rfl fa25_1 rfl) ?_
 refine pq (ql (.one (.p fr29 (Sl.t r56 s28))) 4 sz23) ?_
 refine ol_scallN (args := [.one (.p fr25 (Sl.t r56 s24)), .one (.p fr29 (Sl.t r56 s28))]) rfl rfl rfl ax60 (by rw [E1_fn]; exact show fiOf Try.prog 60 = _ by unfold fiOf; rw [Try.func60]; unfold Try.f60; rfl) rfl rfl rfl ?_
 dsimp only
 refine lS (lO ?_)
 refine ol_new rfl rfl rfl (q_box ty23 rfl (cs := [.p fr25 (Sl.t r56 s24)]) rfl rfl) (fun k32 => ?_)
 refine ol_new rfl rfl rfl (q_box ty23 rfl (cs := [.p fr29 (Sl.t r56 s28)]) rfl rfl) (fun k33 => ?_)
 refine pq (qa (.one (.p true (.v .nilFunc)))) ?_
 refine oN ?_
 refine pq (q_mkfun rfl rfl) ?_
 refine pq (qa (.one (.clo (.func 77) [] [.ptr k32 0 0, .ptr k33 0 0]))) ?_
 refine oE (eS (lR ?_))
 refine E_call (v := .one (.clo (.func 77) [] [.ptr k32 0 0, .ptr k33 0 0])) (.inr rfl) (res_tmp (d := .one (.clo (.func 77) [] [.ptr k32 0 0, .ptr k33 0 0])) rfl res_nil) rfl ?_
 refine oE (eS (lB ?_))
 refine L_range rfl (by rw [E1_fn]; exact show fiOf Try.prog 77 = _ by unfold fiOf; rw [Try.func77]; unfold Try.f77; rfl) rfl rfl (fun k34 => ?_)
 dsimp only
 refine lB ?_
 refine L_addM (α := Int × Int) r56 2 ?_
 let S1 : ((Sl (Int × Int)) × (Sl (Int × Int)) × (List (Int × Int))) → (Bool × Bool × Nat) → (Nat → D) → Nat → D := fun a kt g => ups g [(0, .one (.yld k34)), (1, .one (.ptr k32 0 0)), (2, .one (.ptr k33 0 0))]
 let SL1 : ((Sl (Int × Int)) × (Sl (Int × Int)) × (List (Int × Int))) → (Bool × Bool × Nat) → BL := fun a kt => ([[(k34, 0, [])], [(k32, 1, [[.p kt.1 (Sl.t r56 a.1)]])], [(k33, 1, [[.p kt.2.1 (Sl.t r56 a.2.1)]])], [(k7, 2, [[iI 0, nC]])], [(k10, 1, [[.p true (.v (.func (.func 46) #[] #[]))]])], [(k11, 2, [[iI 0, nC]])], [(k12, 1, [[iI 0]])], [(k31, 2, [[iI n23, moC a.2.2 kt.2.2]])], moL r56 2 a.2.2 kt.2.2] : BL)
 let G1 : Empty → Ex → St → Prop := fun u => u.elim
 let Sx1_1 : (List (Int × Int)) → Nat → (Nat → D) → Nat → D := fun a kt g => ups g []
 let SLx1_1 : (List (Int × Int)) → Nat → BL := fun a kt => ([[(k7, 2, [[iI 0, nC]])], [(k10, 1, [[.p true (.v (.func (.func 46) #[] #[]))]])], [(k11, 2, [[iI 0, nC]])], [(k12, 1, [[iI 0]])], [(k31, 2, [[iI n23, moC a kt]])], [(k34, 0, [])], moL r56 2 a kt] : BL)
 let Sx1_0 : (List (Int × Int)) → Nat → (Nat → D) → Nat → D := fun a kt g => ups g []
 let SLx1_0 : (List (Int × Int)) → Nat → BL := fun a kt => ([[(k7, 2, [[iI 0, nC]])], [(k10, 1, [[.p true (.v (.func (.func 46) #[] #[]))]])], [(k11, 2, [[iI 0, nC]])], [(k12, 1, [[iI 12]])], [(k31, 2, [[iI n23, moC a kt]])], [(k34, 0, [[]])], moL r56 2 a kt] : BL)
 let J1 : ((List (Int × Int)) ⊕ ((List (Int × Int)) ⊕ Empty)) → Ex → St → Prop := JE 85 .ret Sx1_0 SLx1_0 (JE 85 (.exit 0) Sx1_1 SLx1_1 (JU G1))
 refine L_loopS (blend_Over_b1) S1 SL1 J1 (JE_n rfl (JE_n rfl (JU_n))) (s24, s28, ([] : List (Int × Int))) h (fr25, fr29, 1560) (ups_self ⟨rfl, rfl, rfl, trivial⟩) [1, 3, 2, 10, 7, 6, 5, 4, 0] (by decide) rfl ?_ ?_
 rintro ⟨s562, s563, l564⟩ ⟨fr565, fr566, k567⟩ g out h
 change blend_Over_b1 (s562, s563, l564) = some out at h
 unfold blend_Over_b1 at h
 refine lS (lS (lO ?_))
 refine pq (ql (.one (.p fr565 (Sl.t r56 s562))) 1 sz23) ?_
 refine pq (q_lenS rfl ty23 rfl rfl rfl rfl) ?_
 by_cases c568 : ((s562.l.length : Nat) : Int) > 0
 replace h := ifT c568 h
 refine pq (qb (p_gtr_tZ c568)) ?_
 refine pq (qm bt) ?_
 iterate 3 refine os ?_
 refine pq (qpt bt) ?_
 refine oE (eS (cT rfl (lK (eS (lB (lS (lO ?_)))))))
 refine ol_new rfl rfl rfl (q_alloc ty64 (row := [iI 0, iI 0, iI 0, bC false, bC false]) rfl rfl) (fun k569 => ?_)
 refine oE (eS (lS ?_))
 refine L_norm (L2 := ([[(k569, 5, [[iI 0, iI 0, iI 0, bC false, bC false]])], [(k34, 0, [])], [(k32, 1, [[.p fr565 (Sl.t r56 s562)]])], [(k33, 1, [[.p fr566 (Sl.t r56 s563)]])], [(k7, 2, [[iI 0, nC]])], [(k10, 1, [[.p true (.v (.func (.func 46) #[] #[]))]])], [(k11, 2, [[iI 0, nC]])], [(k12, 1, [[iI 0]])], [(k31, 2, [[iI n23, moC l564 k567]])], moL r56 2 l564 k567] : BL)) [0, 1, 2, 3, 4, 5, 6, 7, 8, 9] (by decide) rfl ?_
 refine L_turn 21 rfl [[], [], [], [], [], [], [], [], [], [], [], [], [], [], [], [], [], [], [], [], [k569]] [(false, []), (false, []), (false, []), (false, []), (false, []), (false, []), (false, []), (false, []), (false, []), (false, []), (false, []), (false, []), (false, []), (false, []), (false, []), (false, []), (false, []), (false, []), (false, []), (false, []), (false, [])] [[], [], [], [], [], [], [], [], [12, 13, 14, 15], [12, 13, 14, 15], [12, 13, 14, 15], [12, 13, 14, 15], [8, 9, 10, 11], [8, 9, 10, 11], [8, 9, 10, 11], [8, 9, 10, 11], [], [], [], [], []] (by kernel_rfl) (by kernel_rfl) (by kernel_rfl) ?_ (fun bb570 hlt hnd => ?_)
 intro bb570 hlt hnd
 exact ⟨⟨djE, ⟨djE, ⟨djE, ⟨djE, ⟨djE, ⟨djE, ⟨djE, ⟨djE, ⟨djE, ⟨djE, ⟨djE, ⟨djE, ⟨djE, ⟨djE, ⟨djE, ⟨djE, ⟨djE, ⟨djE, ⟨djE, ⟨djE, ⟨djN, trivial⟩⟩⟩⟩⟩⟩⟩⟩⟩⟩⟩⟩⟩⟩⟩⟩⟩⟩⟩⟩⟩, (ltO_cons ltK_nil (ltO_cons ltK_nil (ltO_cons ltK_nil (ltO_cons ltK_nil (ltO_cons ltK_nil (ltO_cons ltK_nil (ltO_cons ltK_nil (ltO_cons ltK_nil (ltO_cons ltK_nil (ltO_cons ltK_nil (ltO_cons ltK_nil (ltO_cons ltK_nil (ltO_cons ltK_nil (ltO_cons ltK_nil (ltO_cons ltK_nil (ltO_cons ltK_nil (ltO_cons ltK_nil (ltO_cons ltK_nil (ltO_cons ltK_nil (ltO_cons ltK_nil (ltO_cons (ltK_cons (key_lt hlt 0 rfl) ltK_nil) ltO_nil)))))))))))))))))))))⟩
 have e_k567 : l564 = [] ∨ k567 < bb570 := key_ltM (r := r56) (w := 2) hlt 9 rfl
 refine tq [3] rfl (hm0 rfl) (ql (.one (.p fr566 (Sl.t r56 s563))) 0 sz23) ?_
 refine tq [] rfl (hm0 rfl) (q_lenS rfl ty23 rfl rfl rfl rfl) ?_
 by_cases c581 : ((s563.l.length : Nat) : Int) = 0
 replace h := ifT c581 h
 refine tn_put rfl rfl rfl [] (by decide) rfl (hm0 rfl) rfl (qb (p_eql_tZ c581)) ?_
 refine tq [] rfl (hm0 rfl) (qm bt) ?_
 refine tn_skip rfl rfl rfl rfl ?_
 refine tn_skip rfl rfl rfl rfl ?_
 refine tn_skip rfl rfl rfl rfl ?_
 refine tn_skip rfl rfl rfl rfl ?_
 refine tn_skip rfl rfl rfl rfl ?_
 refine tn_skip rfl rfl rfl rfl ?_
 refine tn_skip rfl rfl rfl rfl ?_
 refine tn_skip rfl rfl rfl rfl ?_
 refine tn_skip rfl rfl rfl rfl ?_
 refine tn_skip rfl rfl rfl rfl ?_
 refine tn_skip rfl rfl rfl rfl ?_
 refine tn_skip rfl rfl rfl rfl ?_
 refine tn_skip rfl rfl rfl rfl ?_
 refine tn_skip rfl rfl rfl rfl ?_
 refine tq [] rfl (hm0 rfl) (qpt bt) ?_
 refine tq [] rfl (hm0 rfl) (q_fieldP rfl fa64_3 rfl) ?_
 refine tn_wr rfl rfl [0] (by decide) rfl (hm0 rfl) rfl (q_store (es' := [[iI 0, iI 0, iI 0, bC true, bC false]]) 0 rfl rfl rfl sz4 rfl rfl rfl rfl rfl) (q := 0) rfl rfl ?_
 refine tn_end (eS (lS ?_))
 refine L_norm (L2 := ([[(k569, 5, [[iI 0, iI 0, iI 0, bC true, bC false]])], [(k34, 0, [])], [(k32, 1, [[.p fr565 (Sl.t r56 s562)]])], [(k33, 1, [[.p fr566 (Sl.t r56 s563)]])], [(k7, 2, [[iI 0, nC]])], [(k10, 1, [[.p true (.v (.func (.func 46) #[] #[]))]])], [(k11, 2, [[iI 0, nC]])], [(k12, 1, [[iI 0]])], [(k31, 2, [[iI n23, moC l564 k567]])], moL r56 2 l564 k567] : BL)) [0, 1, 2, 3, 4, 5, 6, 7, 8, 9] (by decide) rfl ?_
 refine L_turn 21 rfl [[], [], [], [], [], [], [], [], [], [], [], [], [], [], [], [], [], [], [], [], [k569]] [(false, []), (false, []), (false, []), (false, []), (false, []), (false, []), (false, []), (false, []), (false, []), (false, []), (false, []), (false, []), (false, []), (false, []), (false, []), (false, []), (false, []), (false, []), (false, []), (false, []), (false, [])] [[], [], [], [], [], [], [], [], [12, 13, 14, 15], [12, 13, 14, 15], [12, 13, 14, 15], [12, 13, 14, 15], [8, 9, 10, 11], [8, 9, 10, 11], [8, 9, 10, 11], [8, 9, 10, 11], [], [], [], [], []] (by kernel_rfl) (by kernel_rfl) (by kernel_rfl) ?_ (fun bb582 hlt hnd => ?_)
 intro bb582 hlt hnd
 exact ⟨⟨djE, ⟨djE, ⟨djE, ⟨djE, ⟨djE, ⟨djE, ⟨djE, ⟨djE, ⟨djE, ⟨djE, ⟨djE, ⟨djE, ⟨djE, ⟨djE, ⟨djE, ⟨djE, ⟨djE, ⟨djE, ⟨djE, ⟨djE, ⟨djN, trivial⟩⟩⟩⟩⟩⟩⟩⟩⟩⟩⟩⟩⟩⟩⟩⟩⟩⟩⟩⟩⟩, (ltO_cons ltK_nil (ltO_cons ltK_nil (ltO_cons ltK_nil (ltO_cons ltK_nil (ltO_cons ltK_nil (ltO_cons ltK_nil (ltO_cons ltK_nil (ltO_cons ltK_nil (ltO_cons ltK_nil (ltO_cons ltK_nil (ltO_cons ltK_nil (ltO_cons ltK_nil (ltO_cons ltK_nil (ltO_cons ltK_nil (ltO_cons ltK_nil (ltO_cons ltK_nil (ltO_cons ltK_nil (ltO_cons ltK_nil (ltO_cons ltK_nil (ltO_cons ltK_nil (ltO_cons (ltK_cons (key_lt hlt 0 rfl) ltK_nil) ltO_nil)))))))))))))))))))))⟩
 have e_k567 : l564 = [] ∨ k567 < bb582 := key_ltM (r := r56) (w := 2) hlt 9 rfl
 refine tq [2] rfl (hm0 rfl) (ql (.one (.p fr565 (Sl.t r56 s562))) 0 sz23) ?_
 refine tq [] rfl (hm0 rfl) (q_lenS rfl ty23 rfl rfl rfl rfl) ?_
 refine tn_put rfl rfl rfl [] (by decide) rfl (hm0 rfl) rfl (qb (p_eql_fZ (gt0_ne c568))) ?_
 refine tq [] rfl (hm0 rfl) (qm bf) ?_
 refine tq [3] rfl (hm0 rfl) (ql (.one (.p fr566 (Sl.t r56 s563))) 0 sz23) ?_
 refine tq [] rfl (hm0 rfl) (q_lenS rfl ty23 rfl rfl rfl rfl) ?_
 refine tn_put rfl rfl rfl [] (by decide) rfl (hm0 rfl) rfl (qb (p_gtr_fZ (eq0_ng c581))) ?_
 refine tq [] rfl (hm0 rfl) (qm bf) ?_
 refine tn_skip rfl rfl rfl rfl ?_
 refine tn_skip rfl rfl rfl rfl ?_
 refine tn_skip rfl rfl rfl rfl ?_
 refine tn_skip rfl rfl rfl rfl ?_
 refine tn_skip rfl rfl rfl rfl ?_
 refine tn_skip rfl rfl rfl rfl ?_
 refine tn_skip rfl rfl rfl rfl ?_
 refine tn_skip rfl rfl rfl rfl ?_
 refine tn_skip rfl rfl rfl rfl ?_
 refine tq [] rfl (hm0 rfl) (qpf bf) ?_
 refine tq [] rfl (hm0 rfl) (qpf bf) ?_
 refine tq [] rfl (hm0 rfl) (q_fieldP rfl fa64_4 rfl) ?_
 refine tn_wr rfl rfl [0] (by decide) rfl (hm0 rfl) rfl (q_store (es' := [[iI 0, iI 0, iI 0, bC true, bC false]]) 0 rfl rfl rfl sz4 rfl rfl rfl rfl rfl) (q := 0) rfl rfl ?_
 refine tn_end (eS (lS (lS (lO ?_))))
 refine pq (q_fieldP rfl fa64_3 rfl) ?_
 refine pq (ql bt 0 sz4) ?_
 refine oE (eS (cT rfl (lS ?_)))
 refine L_norm (L2 := ([[(k569, 5, [[iI 0, iI 0, iI 0, bC true, bC false]])], [(k34, 0, [])], [(k32, 1, [[.p fr565 (Sl.t r56 s562)]])], [(k33, 1, [[.p fr566 (Sl.t r56 s563)]])], [(k7, 2, [[iI 0, nC]])], [(k10, 1, [[.p true (.v (.func (.func 46) #[] #[]))]])], [(k11, 2, [[iI 0, nC]])], [(k12, 1, [[iI 0]])], [(k31, 2, [[iI n23, moC l564 k567]])], moL r56 2 l564 k567] : BL)) [0, 1, 2, 3, 4, 5, 6, 7, 8, 9] (by decide) rfl ?_
 refine L_turn 12 rfl [[], [], [], [], [], [], [], [], [], [k569], [], [k569]] [(false, []), (false, []), (false, []), (false, []), (false, []), (false, []), (false, []), (false, []), (false, []), (false, []), (false, []), (false, [])] [[4, 5, 6, 7], [4, 5, 6, 7], [4, 5, 6, 7], [4, 5, 6, 7], [0, 1, 2, 3, 8, 9], [0, 1, 2, 3, 8, 9], [0, 1, 2, 3, 8, 9], [0, 1, 2, 3, 8, 9], [4, 5, 6, 7], [4, 5, 6, 7], [], []] (by kernel_rfl) (by kernel_rfl) (by kernel_rfl) ?_ (fun bb583 hlt hnd => ?_)
 intro bb583 hlt hnd
 exact ⟨⟨djE, ⟨djE, ⟨djE, ⟨djE, ⟨djE, ⟨djE, ⟨djE, ⟨djE, ⟨djE, ⟨(djC nin_nil (djC nin_nil (djC nin_nil (djC nin_nil djN)))), ⟨djE, ⟨djN, trivial⟩⟩⟩⟩⟩⟩⟩⟩⟩⟩⟩⟩, (ltO_cons ltK_nil (ltO_cons ltK_nil (ltO_cons ltK_nil (ltO_cons ltK_nil (ltO_cons ltK_nil (ltO_cons ltK_nil (ltO_cons ltK_nil (ltO_cons ltK_nil (ltO_cons ltK_nil (ltO_cons (ltK_cons (key_lt hlt 0 rfl) ltK_nil) (ltO_cons ltK_nil (ltO_cons (ltK_cons (key_lt hlt 0 rfl) ltK_nil) ltO_nil))))))))))))⟩
 have e_k567 : l564 = [] ∨ k567 < bb583 := key_ltM (r := r56) (w := 2) hlt 9 rfl
 refine tq [2] rfl (hm0 rfl) (ql (.one (.p fr565 (Sl.t r56 s562))) 0 sz23) ?_
 obtain ⟨⟨n590, n591⟩, h589, h⟩ := bindS h
 obtain ⟨h589a, h589b, h589⟩ := atS_some h589
 refine tq [] rfl (hm0 rfl) (q_ixS rfl rfl h589a h589 (el23.trans (congrArg some h589b.symm))) ?_
 refine tq [] rfl (hm0 rfl) (q_fieldI rfl fa57_0 rfl) ?_
 refine tq [] rfl (hm0 rfl) (q_loadI (v := iO n590) rfl sz3 (map_get h589) rfl rfl) ?_
 refine tq [2] rfl (hmc (nin_cons (key_ne hnd 2 0 rfl rfl rfl) nin_nil) hmn) (ql (.one (.p fr565 (Sl.t r56 s562))) 0 sz23) ?_
 refine tq [] rfl hmn (q_ixS rfl rfl h589a h589 (el23.trans (congrArg some h589b.symm))) ?_
 refine tq [] rfl hmn (q_fieldI rfl fa57_1 rfl) ?_
 refine tq [] rfl hmn (q_loadI (v := iO n591) rfl sz2 (map_get h589) rfl rfl) ?_
 refine tq [] rfl (hm0 rfl) (q_fieldP rfl fa64_0 rfl) ?_
 refine tn_wr rfl rfl [0] (by decide) rfl (hm0 rfl) rfl (q_store (es' := [[iI n590, iI 0, iI 0, bC true, bC false]]) 0 rfl rfl rfl sz3 rfl rfl rfl rfl rfl) (q := 0) rfl rfl ?_
 refine tq [] rfl (hm0 rfl) (q_fieldP rfl fa64_1 rfl) ?_
 refine tn_wr rfl rfl [0] (by decide) rfl (hm0 rfl) rfl (q_store (es' := [[iI n590, iI n591, iI 0, bC true, bC false]]) 0 rfl rfl rfl sz2 rfl rfl rfl rfl rfl) (q := 0) rfl rfl ?_
 refine tn_end (eS (lO ?_))
 refine pq (ql (.one (.p fr565 (Sl.t r56 s562))) 2 sz23) ?_
 obtain ⟨s592, h593, h⟩ := bindS h
 refine pq (q_sliceS (r := r56) h593 rfl ty23 rfl ty57 (no_some rfl (cutS_some h593).1.1 _) (no_none _)) ?_
 refine ow [[.p fr565 (Sl.t r56 s592)]] 2 sz23 ?_
 refine oE (eS (lS (lS (lO ?_))))
 refine pq (q_fieldP rfl fa64_4 rfl) ?_
 refine pq (ql bf 0 sz4) ?_
 refine oE (eS (cF rfl (lK (eS (lS (lO ?_))))))
 refine pq (qm (.one (.yld k34))) ?_
 refine pq (ql (.agg [iI n590, iI n591, iI 0, bC true, bC false]) 0 sz64) ?_
 refine ol_yield (args := [.agg [iI n590, iI n591, iI 0, bC true, bC false]]) (p := 1) rfl rfl rfl rfl rfl rfl rfl rfl rfl ?_
 refine lO ?_
 refine ol_new rfl rfl rfl (q_alloc ty64 (row := [iI 0, iI 0, iI 0, bC false, bC false]) rfl rfl) (fun k594 => ?_)
 refine ow [[iI n590, iI n591, iI 0, bC true, bC false]] 0 sz64 ?_
 refine oE ?_
 refine E_asg ?_
 refine lB (lS (lO ?_))
 refine pq (ql (.one (.p true (.v (.func (.func 46) #[] #[])))) 6 sz69) ?_
 refine pq (ql (.agg [iI n590, iI n591, iI 0, bC true, bC false]) 0 sz64) ?_
 obtain ⟨⟨⟨n596, n597⟩, b598⟩, h595, h⟩ := bindS h
 refine pq (qc (.tup [.agg [iI n596, uI n597], bO b598]) [.agg [iI n590, iI n591, iI 0, bC true, bC false]] (blend_Over_c1_r (m + 1) h595) (vw_cons (vd_agg (vc_cons vc_v (vc_cons vc_v (vc_cons vc_v (vc_cons vc_v (vc_cons vc_v vc_nil)))))) vw_nil)) ?_
 refine pq (qm (.tup [.agg [iI n596, uI n597], bO b598])) ?_
 refine pq (q_ext (v := .agg [iI n596, uI n597]) rfl rfl) ?_
 refine pq (q_ext (v := bO b598) rfl rfl) ?_
 refine ol_new rfl rfl rfl (q_alloc ty66 (row := [iI 0, uI 0]) rfl rfl) (fun k599 => ?_)
 refine ow [[iI n596, uI n597]] 0 sz66 ?_
 refine pq (qa (bO b598)) ?_
 refine oE (eS (lS (lS (lO ?_))))
 refine pq (qm (bO b598)) ?_
 rcases b598 with _ | _
 replace h := wF h
 refine pq (q_not rfl) ?_
 refine oE (eS (cT rfl (L_exit ?_)))
 refine E_seqX ?_
 refine bH ?_
 refine E_roundN (p := 3) rfl ?_
 refine pq (q_not rfl) ?_
 refine oE (eS (cF rfl (lK (bN ?_))))
 obtain rfl := sj h
 exact E_next (fr565, fr566, k567) (ups_self ⟨rfl, rfl, rfl, trivial⟩) [3, 4, 5, 6, 7, 8, 9, 10, 11] (by decide) rfl
 replace h := wT h
 refine pq (q_not rfl) ?_
 refine oE (eS (cF rfl (lK (eS (lS (lO ?_))))))
 refine pq (ql (.agg [iI n596, uI n597]) 0 sz66) ?_
 obtain ⟨⟨n601, b602⟩, h600, h⟩ := bindS h
 refine pq (qc (.tup [iO n601, bO b602]) [.agg [iI n596, uI n597]] (wide_Narrow_r (m + 1) h600) (vw_cons (vd_agg (vc_cons vc_v (vc_cons vc_v vc_nil))) vw_nil)) ?_
 refine pq (qm (.tup [iO n601, bO b602])) ?_
 refine pq (q_ext (v := iO n601) rfl rfl) ?_
 refine pq (q_ext (v := bO b602) rfl rfl) ?_
 refine pq (qa (iO n601)) ?_
 refine pq (qa (bO b602)) ?_
 refine oE (eS (lS (lS (lO ?_))))
 refine pq (qm (bO b602)) ?_
 rcases b602 with _ | _
 replace h := wF h
 refine pq (q_not rfl) ?_
 refine oE (eS (cT rfl (lS (lO ?_))))
 refine pq (q_build (cs := [iI 0, nC]) ty25 rfl pl25 rfl) ?_
 refine ow [[iI 0, nC]] 8 sz25 ?_
 refine ow [[iI 12]] 9 sz28 ?_
 refine oE (eS (lR (eR (bR ?_))))
 refine E_roundX (p := 3) (es := [[]]) rfl rfl rfl rfl ?_
 refine pq (q_not rfl) ?_
 refine oE (eS (cT rfl (lR (bR ?_))))
 obtain rfl := sj h
 refine E_out ?_
 exact (E_je k567 (ups_self trivial) [6, 7, 8, 9, 10, 3, 11] (by decide) rfl)
 replace h := wT h
 refine pq (q_not rfl) ?_
 refine oE (eS (cF rfl (lK (eS (lO ?_)))))
 refine pq (q_fieldP rfl fa25_1 rfl) ?_
 refine pq (ql (.one (moC l564 k567)) 10 sz23) ?_
 refine pq (q_fieldP rfl fa64_0 rfl) ?_
 refine pq (ql (iO n590) 1 sz3) ?_
 refine pq (qm (iO n601)) ?_
 refine pq (q_build (cs := [iI n590, iI n601]) ty57 rfl pl57 rfl) ?_
 refine ol_new rfl rfl rfl (q_bslice (cs := [iI n590, iI n601]) (es := (([(n590, n601)] : List (Int × Int))).map (rowC r56)) ty23 rfl ty57 rfl rfl rfl rfl rfl) (fun k603 => ?_)
 obtain ⟨_, h604, h⟩ := bindS h
 obtain ⟨h604b, rfl⟩ := app_some h604
 refine ol_appM (r := r56) (l := l564) (ys := ([(n590, n601)] : List (Int × Int))) 12 rfl rfl rfl rfl rfl rfl (el_ownM (l := ([(n590, n601)] : List (Int × Int))) 0 rfl) rfl h604 (fun y => rfl) el23 ty23 rfl rfl rfl rfl rfl (fun k605 => ?_)
 refine pq (q_fieldP rfl fa25_1 rfl) ?_
 refine ow [[iI n23, moC (l564 ++ ([(n590, n601)] : List (Int × Int))) k605]] 12 sz23 ?_
 refine oE (bN ?_)
 refine E_roundN (p := 5) rfl ?_
 refine pq (q_not rfl) ?_
 refine oE (eS (cF rfl (lK (bN ?_))))
 obtain rfl := sj h
 exact E_next (fr565, fr566, k605) (ups_self ⟨rfl, rfl, rfl, trivial⟩) [5, 6, 7, 8, 9, 10, 11, 12, 0] (by decide) rfl
 replace h := ifF c581 h
 refine tn_put rfl rfl rfl [0] (by decide) rfl (hm0 rfl) rfl (qb (p_eql_fZ c581)) ?_
 refine tq [] rfl (hm0 rfl) (qm bf) ?_
 refine tq [2] rfl (hm0 rfl) (ql (.one (.p fr565 (Sl.t r56 s562))) 0 sz23) ?_
 refine tq [] rfl (hm0 rfl) (q_lenS rfl ty23 rfl rfl rfl rfl) ?_
 refine tn_put rfl rfl rfl [] (by decide) rfl (hm0 rfl) rfl (qb (p_gtr_tZ c568)) ?_
 refine tq [] rfl (hm0 rfl) (qm bt) ?_
 refine tq [2] rfl (hm0 rfl) (ql (.one (.p fr565 (Sl.t r56 s562))) 0 sz23) ?_
 obtain ⟨⟨n608, n609⟩, h607, h⟩ := bindS h
 obtain ⟨h607a, h607b, h607⟩ := atS_some h607
 refine tq [] rfl (hm0 rfl) (q_ixS rfl rfl h607a h607 (el23.trans (congrArg some h607b.symm))) ?_
 refine tq [] rfl (hm0 rfl) (q_fieldI rfl fa57_0 rfl) ?_
 refine tq [] rfl (hm0 rfl) (q_loadI (v := iO n608) rfl sz3 (map_get h607) rfl rfl) ?_
 refine tq [3] rfl (hm0 rfl) (ql (.one (.p fr566 (Sl.t r56 s563))) 0 sz23) ?_
 obtain ⟨⟨n612, n613⟩, h611, h⟩ := bindS h
 obtain ⟨h611a, h611b, h611⟩ := atS_some h611
 refine tq [] rfl (hm0 rfl) (q_ixS rfl rfl h611a h611 (el23.trans (congrArg some h611b.symm))) ?_
 refine tq [] rfl (hm0 rfl) (q_fieldI rfl fa57_0 rfl) ?_
 refine tq [] rfl (hm0 rfl) (q_loadI (v := iO n612) rfl sz3 (map_get h611) rfl rfl) ?_
 by_cases c614 : n608 ≤ n612
 replace h := ifT c614 h
 refine tn_put rfl rfl rfl [] (by decide) rfl (hm0 rfl) rfl (qb (p_leq_tZ c614)) ?_
 refine tq [] rfl (hm0 rfl) (qpt bt) ?_
 refine tq [] rfl (hm0 rfl) (qpf bt) ?_
 refine tq [] rfl (hm0 rfl) (q_fieldP rfl fa64_3 rfl) ?_
 refine tn_wr rfl rfl [0] (by decide) rfl (hm0 rfl) rfl (q_store (es' := [[iI 0, iI 0, iI 0, bC true, bC false]]) 0 rfl rfl rfl sz4 rfl rfl rfl rfl rfl) (q := 0) rfl rfl ?_
 refine tn_end (eS (lS ?_))
 refine L_norm (L2 := ([[(k569, 5, [[iI 0, iI 0, iI 0, bC true, bC false]])], [(k34, 0, [])], [(k32, 1, [[.p fr565 (Sl.t r56 s562)]])], [(k33, 1, [[.p fr566 (Sl.t r56 s563)]])], [(k7, 2, [[iI 0, nC]])], [(k10, 1, [[.p true (.v (.func (.func 46) #[] #[]))]])], [(k11, 2, [[iI 0, nC]])], [(k12, 1, [[iI 0]])], [(k31, 2, [[iI n23, moC l564 k567]])], moL r56 2 l564 k567] : BL)) [0, 1, 2, 3, 4, 5, 6, 7, 8, 9] (by decide) rfl ?_
 refine L_turn 21 rfl [[], [], [], [], [], [], [], [], [], [], [], [], [], [], [], [], [], [], [], [], [k569]] [(false, []), (false, []), (false, []), (false, []), (false, []), (false, []), (false, []), (false, []), (false, []), (false, []), (false, []), (false, []), (false, []), (false, []), (false, []), (false, []), (false, []), (false, []), (false, []), (false, []), (false, [])] [[], [], [], [], [], [], [], [], [12, 13, 14, 15], [12, 13, 14, 15], [12, 13, 14, 15], [12, 13, 14, 15], [8, 9, 10, 11], [8, 9, 10, 11], [8, 9, 10, 11], [8, 9, 10, 11], [], [], [], [], []] (by kernel_rfl) (by kernel_rfl) (by kernel_rfl) ?_ (fun bb615 hlt hnd => ?_)
 intro bb615 hlt hnd
 exact ⟨⟨djE, ⟨djE, ⟨djE, ⟨djE, ⟨djE, ⟨djE, ⟨djE, ⟨djE, ⟨djE, ⟨djE, ⟨djE, ⟨djE, ⟨djE, ⟨djE, ⟨djE, ⟨djE, ⟨djE, ⟨djE, ⟨djE, ⟨djE, ⟨djN, trivial⟩⟩⟩⟩⟩⟩⟩⟩⟩⟩⟩⟩⟩⟩⟩⟩⟩⟩⟩⟩⟩, (ltO_cons ltK_nil (ltO_cons ltK_nil (ltO_cons ltK_nil (ltO_cons ltK_nil (ltO_cons ltK_nil (ltO_cons ltK_nil (ltO_cons ltK_nil (ltO_cons ltK_nil (ltO_cons ltK_nil (ltO_cons ltK_nil (ltO_cons ltK_nil (ltO_cons ltK_nil (ltO_cons ltK_nil (ltO_cons ltK_nil (ltO_cons ltK_nil (ltO_cons ltK_nil (ltO_cons ltK_nil (ltO_cons ltK_nil (ltO_cons ltK_nil (ltO_cons ltK_nil (ltO_cons (ltK_cons (key_lt hlt 0 rfl) ltK_nil) ltO_nil)))))))))))))))))))))⟩
 have e_k567 : l564 = [] ∨ k567 < bb615 := key_ltM (r := r56) (w := 2) hlt 9 rfl
 refine tq [2] rfl (hm0 rfl) (ql (.one (.p fr565 (Sl.t r56 s562))) 0 sz23) ?_
 refine tq [] rfl (hm0 rfl) (q_lenS rfl ty23 rfl rfl rfl rfl) ?_
 refine tn_put rfl rfl rfl [] (by decide) rfl (hm0 rfl) rfl (qb (p_eql_fZ (gt0_ne c568))) ?_
 refine tq [] rfl (hm0 rfl) (qm bf) ?_
 refine tq [3] rfl (hm0 rfl) (ql (.one (.p fr566 (Sl.t r56 s563))) 0 sz23) ?_
 refine tq [] rfl (hm0 rfl) (q_lenS rfl ty23 rfl rfl rfl rfl) ?_
 refine tn_put rfl rfl rfl [] (by decide) rfl (hm0 rfl) rfl (qb (p_gtr_tZ (len1 c581))) ?_
 refine tq [] rfl (hm0 rfl) (qm bt) ?_
 refine tq [3] rfl (hm0 rfl) (ql (.one (.p fr566 (Sl.t r56 s563))) 0 sz23) ?_
 refine tq [] rfl (hm0 rfl) (q_ixS rfl rfl h611a h611 (el23.trans (congrArg some h611b.symm))) ?_
 refine tq [] rfl (hm0 rfl) (q_fieldI rfl fa57_0 rfl) ?_
 refine tq [] rfl (hm0 rfl) (q_loadI (v := iO n612) rfl sz3 (map_get h611) rfl rfl) ?_
 refine tq [2] rfl (hm0 rfl) (ql (.one (.p fr565 (Sl.t r56 s562))) 0 sz23) ?_
 refine tq [] rfl (hm0 rfl) (q_ixS rfl rfl h607a h607 (el23.trans (congrArg some h607b.symm))) ?_
 refine tq [] rfl (hm0 rfl) (q_fieldI rfl fa57_0 rfl) ?_
 refine tq [] rfl (hm0 rfl) (q_loadI (v := iO n608) rfl sz3 (map_get h607) rfl rfl) ?_
 by_cases c617 : n612 ≤ n608
 replace h := ifT c617 h
 refine tn_put rfl rfl rfl [] (by decide) rfl (hm0 rfl) rfl (qb (p_leq_tZ c617)) ?_
 refine tq [] rfl (hm0 rfl) (qpt bt) ?_
 refine tq [] rfl (hm0 rfl) (qpf bt) ?_
 refine tq [] rfl (hm0 rfl) (q_fieldP rfl fa64_4 rfl) ?_
 refine tn_wr rfl rfl [0] (by decide) rfl (hm0 rfl) rfl (q_store (es' := [[iI 0, iI 0, iI 0, bC true, bC true]]) 0 rfl rfl rfl sz4 rfl rfl rfl rfl rfl) (q := 0) rfl rfl ?_
 refine tn_end (eS (lS (lS (lO ?_))))
 refine pq (q_fieldP rfl fa64_3 rfl) ?_
 refine pq (ql bt 0 sz4) ?_
 refine oE (eS (cT rfl (lS ?_)))
 refine L_norm (L2 := ([[(k569, 5, [[iI 0, iI 0, iI 0, bC true, bC true]])], [(k34, 0, [])], [(k32, 1, [[.p fr565 (Sl.t r56 s562)]])], [(k33, 1, [[.p fr566 (Sl.t r56 s563)]])], [(k7, 2, [[iI 0, nC]])], [(k10, 1, [[.p true (.v (.func (.func 46) #[] #[]))]])], [(k11, 2, [[iI 0, nC]])], [(k12, 1, [[iI 0]])], [(k31, 2, [[iI n23, moC l564 k567]])], moL r56 2 l564 k567] : BL)) [0, 1, 2, 3, 4, 5, 6, 7, 8, 9] (by decide) rfl ?_
 refine L_turn 12 rfl [[], [], [], [], [], [], [], [], [], [k569], [], [k569]] [(false, []), (false, []), (false, []), (false, []), (false, []), (false, []), (false, []), (false, []), (false, []), (false, []), (false, []), (false, [])] [[4, 5, 6, 7], [4, 5, 6, 7], [4, 5, 6, 7], [4, 5, 6, 7], [0, 1, 2, 3, 8, 9], [0, 1, 2, 3, 8, 9], [0, 1, 2, 3, 8, 9], [0, 1, 2, 3, 8, 9], [4, 5, 6, 7], [4, 5, 6, 7], [], []] (by kernel_rfl) (by kernel_rfl) (by kernel_rfl) ?_ (fun bb618 hlt hnd => ?_)
 intro bb618 hlt hnd
 exact ⟨⟨djE, ⟨djE, ⟨djE, ⟨djE, ⟨djE, ⟨djE, ⟨djE, ⟨djE, ⟨djE, ⟨(djC nin_nil (djC nin_nil (djC nin_nil (djC nin_nil djN)))), ⟨djE, ⟨djN, trivial⟩⟩⟩⟩⟩⟩⟩⟩⟩⟩⟩⟩, (ltO_cons ltK_nil (ltO_cons ltK_nil (ltO_cons ltK_nil (ltO_cons ltK_nil (ltO_cons ltK_nil (ltO_cons ltK_nil (ltO_cons ltK_nil (ltO_cons ltK_nil (ltO_cons ltK_nil (ltO_cons (ltK_cons (key_lt hlt 0 rfl) ltK_nil) (ltO_cons ltK_nil (ltO_cons (ltK_cons (key_lt hlt 0 rfl) ltK_nil) ltO_nil))))))))))))⟩
 have e_k567 : l564 = [] ∨ k567 < bb618 := key_ltM (r := r56) (w := 2) hlt 9 rfl
 refine tq [2] rfl (hm0 rfl) (ql (.one (.p fr565 (Sl.t r56 s562))) 0 sz23) ?_
 refine tq [] rfl (hm0 rfl) (q_ixS rfl rfl h607a h607 (el23.trans (congrArg some h607b.symm))) ?_
 refine tq [] rfl (hm0 rfl) (q_fieldI rfl fa57_0 rfl) ?_
 refine tq [] rfl (hm0 rfl) (q_loadI (v := iO n608) rfl sz3 (map_get h607) rfl rfl) ?_
 refine tq [2] rfl (hmc (nin_cons (key_ne hnd 2 0 rfl rfl rfl) nin_nil) hmn) (ql (.one (.p fr565 (Sl.t r56 s562))) 0 sz23) ?_
 refine tq [] rfl hmn (q_ixS rfl rfl h607a h607 (el23.trans (congrArg some h607b.symm))) ?_
 refine tq [] rfl hmn (q_fieldI rfl fa57_1 rfl) ?_
 refine tq [] rfl hmn (q_loadI (v := iO n609) rfl sz2 (map_get h607) rfl rfl) ?_
 refine tq [] rfl (hm0 rfl) (q_fieldP rfl fa64_0 rfl) ?_
 refine tn_wr rfl rfl [0] (by decide) rfl (hm0 rfl) rfl (q_store (es' := [[iI n608, iI 0, iI 0, bC true, bC true]]) 0 rfl rfl rfl sz3 rfl rfl rfl rfl rfl) (q := 0) rfl rfl ?_
 refine tq [] rfl (hm0 rfl) (q_fieldP rfl fa64_1 rfl) ?_
 refine tn_wr rfl rfl [0] (by decide) rfl (hm0 rfl) rfl (q_store (es' := [[iI n608, iI n609, iI 0, bC true, bC true]]) 0 rfl rfl rfl sz2 rfl rfl rfl rfl rfl) (q := 0) rfl rfl ?_
 refine tn_end (eS (lO ?_))
 refine pq (ql (.one (.p fr565 (Sl.t r56 s562))) 2 sz23) ?_
 obtain ⟨s619, h620, h⟩ := bindS h
 refine pq (q_sliceS (r := r56) h620 rfl ty23 rfl ty57 (no_some rfl (cutS_some h620).1.1 _) (no_none _)) ?_
 refine ow [[.p fr565 (Sl.t r56 s619)]] 2 sz23 ?_
 refine oE (eS (lS (lS (lO ?_))))
 refine pq (q_fieldP rfl fa64_4 rfl) ?_
 refine pq (ql bt 0 sz4) ?_
 refine oE (eS (cT rfl (lS ?_)))
 refine L_norm (L2 := ([[(k569, 5, [[iI n608, iI n609, iI 0, bC true, bC true]])], [(k34, 0, [])], [(k32, 1, [[.p fr565 (Sl.t r56 s619)]])], [(k33, 1, [[.p fr566 (Sl.t r56 s563)]])], [(k7, 2, [[iI 0, nC]])], [(k10, 1, [[.p true (.v (.func (.func 46) #[] #[]))]])], [(k11, 2, [[iI 0, nC]])], [(k12, 1, [[iI 0]])], [(k31, 2, [[iI n23, moC l564 k567]])], moL r56 2 l564 k567] : BL)) [0, 1, 2, 3, 4, 5, 6, 7, 8, 9] (by decide) rfl ?_
 refine L_turn 12 rfl [[], [], [], [], [], [], [], [], [], [k569], [], [k569]] [(false, []), (false, []), (false, []), (false, []), (false, []), (false, []), (false, []), (false, []), (false, []), (false, []), (false, []), (false, [])] [[4, 5, 6, 7], [4, 5, 6, 7], [4, 5, 6, 7], [4, 5, 6, 7], [0, 1, 2, 3, 8, 9], [0, 1, 2, 3, 8, 9], [0, 1, 2, 3, 8, 9], [0, 1, 2, 3, 8, 9], [4, 5, 6, 7], [4, 5, 6, 7], [], []] (by kernel_rfl) (by kernel_rfl) (by kernel_rfl) ?_ (fun bb621 hlt hnd => ?_)
 intro bb621 hlt hnd
 exact ⟨⟨djE, ⟨djE, ⟨djE, ⟨djE, ⟨djE, ⟨djE, ⟨djE, ⟨djE, ⟨djE, ⟨(djC nin_nil (djC nin_nil (djC nin_nil (djC nin_nil djN)))), ⟨djE, ⟨djN, trivial⟩⟩⟩⟩⟩⟩⟩⟩⟩⟩⟩⟩, (ltO_cons ltK_nil (ltO_cons ltK_nil (ltO_cons ltK_nil (ltO_cons ltK_nil (ltO_cons ltK_nil (ltO_cons ltK_nil (ltO_cons ltK_nil (ltO_cons ltK_nil (ltO_cons ltK_nil (ltO_cons (ltK_cons (key_lt hlt 0 rfl) ltK_nil) (ltO_cons ltK_nil (ltO_cons (ltK_cons (key_lt hlt 0 rfl) ltK_nil) ltO_nil))))))))))))⟩
 have e_k567 : l564 = [] ∨ k567 < bb621 := key_ltM (r := r56) (w := 2) hlt 9 rfl
 refine tq [3] rfl (hm0 rfl) (ql (.one (.p fr566 (Sl.t r56 s563))) 0 sz23) ?_
 refine tq [] rfl (hm0 rfl) (q_ixS rfl rfl h611a h611 (el23.trans (congrArg some h611b.symm))) ?_
 refine tq [] rfl (hm0 rfl) (q_fieldI rfl fa57_0 rfl) ?_
 refine tq [] rfl (hm0 rfl) (q_loadI (v := iO n612) rfl sz3 (map_get h611) rfl rfl) ?_
 refine tq [3] rfl (hmc (nin_cons (key_ne hnd 3 0 rfl rfl rfl) nin_nil) hmn) (ql (.one (.p fr566 (Sl.t r56 s563))) 0 sz23) ?_
 refine tq [] rfl hmn (q_ixS rfl rfl h611a h611 (el23.trans (congrArg some h611b.symm))) ?_
 refine tq [] rfl hmn (q_fieldI rfl fa57_1 rfl) ?_
 refine tq [] rfl hmn (q_loadI (v := iO n613) rfl sz2 (map_get h611) rfl rfl) ?_
 refine tq [] rfl (hm0 rfl) (q_fieldP rfl fa64_0 rfl) ?_
 refine tn_wr rfl rfl [0] (by decide) rfl (hm0 rfl) rfl (q_store (es' := [[iI n612, iI n609, iI 0, bC true, bC true]]) 0 rfl rfl rfl sz3 rfl rfl rfl rfl rfl) (q := 0) rfl rfl ?_
 refine tq [] rfl (hm0 rfl) (q_fieldP rfl fa64_2 rfl) ?_
 refine tn_wr rfl rfl [0] (by decide) rfl (hm0 rfl) rfl (q_store (es' := [[iI n612, iI n609, iI n613, bC true, bC true]]) 0 rfl rfl rfl sz2 rfl rfl rfl rfl rfl) (q := 0) rfl rfl ?_
 refine tn_end (eS (lO ?_))
 refine pq (ql (.one (.p fr566 (Sl.t r56 s563))) 3 sz23) ?_
 obtain ⟨s622, h623, h⟩ := bindS h
 refine pq (q_sliceS (r := r56) h623 rfl ty23 rfl ty57 (no_some rfl (cutS_some h623).1.1 _) (no_none _)) ?_
 refine ow [[.p fr566 (Sl.t r56 s622)]] 3 sz23 ?_
 refine oN ?_
 refine pq (qm (.one (.yld k34))) ?_
 refine pq (ql (.agg [iI n612, iI n609, iI n613, bC true, bC true]) 0 sz64) ?_
 refine ol_yield (args := [.agg [iI n612, iI n609, iI n613, bC true, bC true]]) (p := 1) rfl rfl rfl rfl rfl rfl rfl rfl rfl ?_
 refine lO ?_
 refine ol_new rfl rfl rfl (q_alloc ty64 (row := [iI 0, iI 0, iI 0, bC false, bC false]) rfl rfl) (fun k624 => ?_)
 refine ow [[iI n612, iI n609, iI n613, bC true, bC true]] 0 sz64 ?_
 refine oE ?_
 refine E_asg ?_
 refine lB (lS (lO ?_))
 refine pq (ql (.one (.p true (.v (.func (.func 46) #[] #[])))) 6 sz69) ?_
 refine pq (ql (.agg [iI n612, iI n609, iI n613, bC true, bC true]) 0 sz64) ?_
 obtain ⟨⟨⟨n626, n627⟩, b628⟩, h625, h⟩ := bindS h
 refine pq (qc (.tup [.agg [iI n626, uI n627], bO b628]) [.agg [iI n612, iI n609, iI n613, bC true, bC true]] (blend_Over_c1_r (m + 1) h625) (vw_cons (vd_agg (vc_cons vc_v (vc_cons vc_v (vc_cons vc_v (vc_cons vc_v (vc_cons vc_v vc_nil)))))) vw_nil)) ?_
 refine pq (qm (.tup [.agg [iI n626, uI n627], bO b628])) ?_
 refine pq (q_ext (v := .agg [iI n626, uI n627]) rfl rfl) ?_
 refine pq (q_ext (v := bO b628) rfl rfl) ?_
 refine ol_new rfl rfl rfl (q_alloc ty66 (row := [iI 0, uI 0]) rfl rfl) (fun k629 => ?_)
 refine ow [[iI n626, uI n627]] 0 sz66 ?_
 refine pq (qa (bO b628)) ?_
 refine oE (eS (lS (lS (lO ?_))))
 refine pq (qm (bO b628)) ?_
 rcases b628 with _ | _
 replace h := wF h
 refine pq (q_not rfl) ?_
 refine oE (eS (cT rfl (L_exit ?_)))
 refine E_seqX ?_
 refine bH ?_
 refine E_roundN (p := 3) rfl ?_
 refine pq (q_not rfl) ?_
 refine oE (eS (cF rfl (lK (bN ?_))))
 obtain rfl := sj h
 exact E_next (fr565, fr566, k567) (ups_self ⟨rfl, rfl, rfl, trivial⟩) [3, 4, 5, 6, 7, 8, 9, 10, 11] (by decide) rfl
 replace h := wT h
 refine pq (q_not rfl) ?_
 refine oE (eS (cF rfl (lK (eS (lS (lO ?_))))))
 refine pq (ql (.agg [iI n626, uI n627]) 0 sz66) ?_
 obtain ⟨⟨n631, b632⟩, h630, h⟩ := bindS h
 refine pq (qc (.tup [iO n631, bO b632]) [.agg [iI n626, uI n627]] (wide_Narrow_r (m + 1) h630) (vw_cons (vd_agg (vc_cons vc_v (vc_cons vc_v vc_nil))) vw_nil)) ?_
 refine pq (qm (.tup [iO n631, bO b632])) ?_
 refine pq (q_ext (v := iO n631) rfl rfl) ?_
 refine pq (q_ext (v := bO b632) rfl rfl) ?_
 refine pq (qa (iO n631)) ?_
 refine pq (qa (bO b632)) ?_
 refine oE (eS (lS (lS (lO ?_))))
 refine pq (qm (bO b632)) ?_
 rcases b632 with _ | _
 replace h := wF h
 refine pq (q_not rfl) ?_
 refine oE (eS (cT rfl (lS (lO ?_))))
 refine pq (q_build (cs := [iI 0, nC]) ty25 rfl pl25 rfl) ?_
 refine ow [[iI 0, nC]] 8 sz25 ?_
 refine ow [[iI 12]] 9 sz28 ?_
 refine oE (eS (lR (eR (bR ?_))))
 refine E_roundX (p := 3) (es := [[]]) rfl rfl rfl rfl ?_
 refine pq (q_not rfl) ?_
 refine oE (eS (cT rfl (lR (bR ?_))))
 obtain rfl := sj h
 refine E_out ?_
 exact (E_je k567 (ups_self trivial) [6, 7, 8, 9, 10, 3, 11] (by decide) rfl)
 replace h := wT h
 refine pq (q_not rfl) ?_
 refine oE (eS (cF rfl (lK (eS (lO ?_)))))
 refine pq (q_fieldP rfl fa25_1 rfl) ?_
 refine pq (ql (.one (moC l564 k567)) 10 sz23) ?_
 refine pq (q_fieldP rfl fa64_0 rfl) ?_
 refine pq (ql (iO n612) 1 sz3) ?_
 refine pq (qm (iO n631)) ?_
 refine pq (q_build (cs := [iI n612, iI n631]) ty57 rfl pl57 rfl) ?_
 refine ol_new rfl rfl rfl (q_bslice (cs := [iI n612, iI n631]) (es := (([(n612, n631)] : List (Int × Int))).map (rowC r56)) ty23 rfl ty57 rfl rfl rfl rfl rfl) (fun k633 => ?_)
 obtain ⟨_, h634, h⟩ := bindS h
 obtain ⟨h634b, rfl⟩ := app_some h634
 refine ol_appM (r := r56) (l := l564) (ys := ([(n612, n631)] : List (Int × Int))) 12 rfl rfl rfl rfl rfl rfl (el_ownM (l := ([(n612, n631)] : List (Int × Int))) 0 rfl) rfl h634 (fun y => rfl) el23 ty23 rfl rfl rfl rfl rfl (fun k635 => ?_)
 refine pq (q_fieldP rfl fa25_1 rfl) ?_
 refine ow [[iI n23, moC (l564 ++ ([(n612, n631)] : List (Int × Int))) k635]] 12 sz23 ?_
 refine oE (bN ?_)
 refine E_roundN (p := 5) rfl ?_
 refine pq (q_not rfl) ?_
 refine oE (eS (cF rfl (lK (bN ?_))))
 obtain rfl := sj h
 exact E_next (fr565, fr566, k635) (ups_self ⟨rfl, rfl, rfl, trivial⟩) [5, 6, 7, 8, 9, 10, 11, 12, 0] (by decide) rfl
 replace h := ifF c617 h
 refine tn_put rfl rfl rfl [0] (by decide) rfl (hm0 rfl) rfl (qb (p_leq_fZ c617)) ?_
 refine tq [] rfl (hm0 rfl) (qpt bf) ?_
 refine tq [] rfl (hm0 rfl) (qpf bf) ?_
 refine tq [] rfl (hm0 rfl) (q_fieldP rfl fa64_4 rfl) ?_
 refine tn_wr rfl rfl [0] (by decide) rfl (hm0 rfl) rfl (q_store (es' := [[iI 0, iI 0, iI 0, bC true, bC false]]) 0 rfl rfl rfl sz4 rfl rfl rfl rfl rfl) (q := 0) rfl rfl ?_
 refine tn_end (eS (lS (lS (lO ?_))))
 refine pq (q_fieldP rfl fa64_3 rfl) ?_
 refine pq (ql bt 0 sz4) ?_
 refine oE (eS (cT rfl (lS ?_)))
 refine L_norm (L2 := ([[(k569, 5, [[iI 0, iI 0, iI 0, bC true, bC false]])], [(k34, 0, [])], [(k32, 1, [[.p fr565 (Sl.t r56 s562)]])], [(k33, 1, [[.p fr566 (Sl.t r56 s563)]])], [(k7, 2, [[iI 0, nC]])], [(k10, 1, [[.p true (.v (.func (.func 46) #[] #[]))]])], [(k11, 2, [[iI 0, nC]])], [(k12, 1, [[iI 0]])], [(k31, 2, [[iI n23, moC l564 k567]])], moL r56 2 l564 k567] : BL)) [0, 1, 2, 3, 4, 5, 6, 7, 8, 9] (by decide) rfl ?_
 refine L_turn 12 rfl [[], [], [], [], [], [], [], [], [], [k569], [], [k569]] [(false, []), (false, []), (false, []), (false, []), (false, []), (false, []), (false, []), (false, []), (false, []), (false, []), (false, []), (false, [])] [[4, 5, 6, 7], [4, 5, 6, 7], [4, 5, 6, 7], [4, 5, 6, 7], [0, 1, 2, 3, 8, 9], [0, 1, 2, 3, 8, 9], [0, 1, 2, 3, 8, 9], [0, 1, 2, 3, 8, 9], [4, 5, 6, 7], [4, 5, 6, 7], [], []] (by kernel_rfl) (by kernel_rfl) (by kernel_rfl) ?_ (fun bb636 hlt hnd => ?_)
 intro bb636 hlt hnd
 exact ⟨⟨djE, ⟨djE, ⟨djE, ⟨djE, ⟨djE, ⟨djE, ⟨djE, ⟨djE, ⟨djE, ⟨(djC nin_nil (djC nin_nil (djC nin_nil (djC nin_nil djN)))), ⟨djE, ⟨djN, trivial⟩⟩⟩⟩⟩⟩⟩⟩⟩⟩⟩⟩, (ltO_cons ltK_nil (ltO_cons ltK_nil (ltO_cons ltK_nil (ltO_cons ltK_nil (ltO_cons ltK_nil (ltO_cons ltK_nil (ltO_cons ltK_nil (ltO_cons ltK_nil (ltO_cons ltK_nil (ltO_cons (ltK_cons (key_lt hlt 0 rfl) ltK_nil) (ltO_cons ltK_nil (ltO_cons (ltK_cons (key_lt hlt 0 rfl) ltK_nil) ltO_nil))))))))))))⟩
 have e_k567 : l564 = [] ∨ k567 < bb636 := key_ltM (r := r56) (w := 2) hlt 9 rfl
 refine tq [2] rfl (hm0 rfl) (ql (.one (.p fr565 (Sl.t r56 s562))) 0 sz23) ?_
 refine tq [] rfl (hm0 rfl) (q_ixS rfl rfl h607a h607 (el23.trans (congrArg some h607b.symm))) ?_
 refine tq [] rfl (hm0 rfl) (q_fieldI rfl fa57_0 rfl) ?_
 refine tq [] rfl (hm0 rfl) (q_loadI (v := iO n608) rfl sz3 (map_get h607) rfl rfl) ?_
 refine tq [2] rfl (hmc (nin_cons (key_ne hnd 2 0 rfl rfl rfl) nin_nil) hmn) (ql (.one (.p fr565 (Sl.t r56 s562))) 0 sz23) ?_
 refine tq [] rfl hmn (q_ixS rfl rfl h607a h607 (el23.trans (congrArg some h607b.symm))) ?_
 refine tq [] rfl hmn (q_fieldI rfl fa57_1 rfl) ?_
 refine tq [] rfl hmn (q_loadI (v := iO n609) rfl sz2 (map_get h607) rfl rfl) ?_
 refine tq [] rfl (hm0 rfl) (q_fieldP rfl fa64_0 rfl) ?_
 refine tn_wr rfl rfl [0] (by decide) rfl (hm0 rfl) rfl (q_store (es' := [[iI n608, iI 0, iI 0, bC true, bC false]]) 0 rfl rfl rfl sz3 rfl rfl rfl rfl rfl) (q := 0) rfl rfl ?_
 refine tq [] rfl (hm0 rfl) (q_fieldP rfl fa64_1 rfl) ?_
 refine tn_wr rfl rfl [0] (by decide) rfl (hm0 rfl) rfl (q_store (es' := [[iI n608, iI n609, iI 0, bC true, bC false]]) 0 rfl rfl rfl sz2 rfl rfl rfl rfl rfl) (q := 0) rfl rfl ?_
 refine tn_end (eS (lO ?_))
 refine pq (ql (.one (.p fr565 (Sl.t r56 s562))) 2 sz23) ?_
 obtain ⟨s637, h638, h⟩ := bindS h
 refine pq (q_sliceS (r := r56) h638 rfl ty23 rfl ty57 (no_some rfl (cutS_some h638).1.1 _) (no_none _)) ?_
 refine ow [[.p fr565 (Sl.t r56 s637)]] 2 sz23 ?_
 refine oE (eS (lS (lS (lO ?_))))
 refine pq (q_fieldP rfl fa64_4 rfl) ?_
 refine pq (ql bf 0 sz4) ?_
 refine oE (eS (cF rfl (lK (eS (lS (lO ?_))))))
 refine pq (qm (.one (.yld k34))) ?_
 refine pq (ql (.agg [iI n608, iI n609, iI 0, bC true, bC false]) 0 sz64) ?_
 refine ol_yield (args := [.agg [iI n608, iI n609, iI 0, bC true, bC false]]) (p := 1) rfl rfl rfl rfl rfl rfl rfl rfl rfl ?_
 refine lO ?_
 refine ol_new rfl rfl rfl (q_alloc ty64 (row := [iI 0, iI 0, iI 0, bC false, bC false]) rfl rfl) (fun k639 => ?_)
 refine ow [[iI n608, iI n609, iI 0, bC true, bC false]] 0 sz64 ?_
 refine oE ?_
 refine E_asg ?_
 refine lB (lS (lO ?_))
 refine pq (ql (.one (.p true (.v (.func (.func 46) #[] #[])))) 6 sz69) ?_
 refine pq (ql (.agg [iI n608, iI n609, iI 0, bC true, bC false]) 0 sz64) ?_
 obtain ⟨⟨⟨n641, n642⟩, b643⟩, h640, h⟩ := bindS h
 refine pq (qc (.tup [.agg [iI n641, uI n642], bO b643]) [.agg [iI n608, iI n609, iI 0, bC true, bC false]] (blend_Over_c1_r (m + 1) h640) (vw_cons (vd_agg (vc_cons vc_v (vc_cons vc_v (vc_cons vc_v (vc_cons vc_v (vc_cons vc_v vc_nil)))))) vw_nil)) ?_
 refine pq (qm (.tup [.agg [iI n641, uI n642], bO b643])) ?_
 refine pq (q_ext (v := .agg [iI n641, uI n642]) rfl rfl) ?_
 refine pq (q_ext (v := bO b643) rfl rfl) ?_
 refine ol_new rfl rfl rfl (q_alloc ty66 (row := [iI 0, uI 0]) rfl rfl) (fun k644 => ?_)
 refine ow [[iI n641, uI n642]] 0 sz66 ?_
 refine pq (qa (bO b643)) ?_
 refine oE (eS (lS (lS (lO ?_))))
 refine pq (qm (bO b643)) ?_
 rcases b643 with _ | _
 replace h := wF h
 refine pq (q_not rfl) ?_
 refine oE (eS (cT rfl (L_exit ?_)))
 refine E_seqX ?_
 refine bH ?_
 refine E_roundN (p := 3) rfl ?_
 refine pq (q_not rfl) ?_
 refine oE (eS (cF rfl (lK (bN ?_))))
 obtain rfl := sj h
 exact E_next (fr565, fr566, k567) (ups_self ⟨rfl, rfl, rfl, trivial⟩) [3, 4, 5, 6, 7, 8, 9, 10, 11] (by decide) rfl
 replace h := wT h
 refine pq (q_not rfl) ?_
 refine oE (eS (cF rfl (lK (eS (lS (lO ?_))))))
 refine pq (ql (.agg [iI n641, uI n642]) 0 sz66) ?_
 obtain ⟨⟨n646, b647⟩, h645, h⟩ := bindS h
 refine pq (qc (.tup [iO n646, bO b647]) [.agg [iI n641, uI n642]] (wide_Narrow_r (m + 1) h645) (vw_cons (vd_agg (vc_cons vc_v (vc_cons vc_v vc_nil))) vw_nil)) ?_
 refine pq (qm (.tup [iO n646, bO b647])) ?_
 refine pq (q_ext (v := iO n646) rfl rfl) ?_
 refine pq (q_ext (v := bO b647) rfl rfl) ?_
 refine pq (qa (iO n646)) ?_
 refine pq (qa (bO b647)) ?_
 refine oE (eS (lS (lS (lO ?_))))
 refine pq (qm (bO b647)) ?_
 rcases b647 with _ | _
 replace h := wF h
 refine pq (q_not rfl) ?_
 refine oE (eS (cT rfl (lS (lO ?_))))
 refine pq (q_build (cs := [iI 0, nC]) ty25 rfl pl25 rfl) ?_
 refine ow [[iI 0, nC]] 8 sz25 ?_
 refine ow [[iI 12]] 9 sz28 ?_
 refine oE (eS (lR (eR (bR ?_))))
 refine E_roundX (p := 3) (es := [[]]) rfl rfl rfl rfl ?_
 refine pq (q_not rfl) ?_
 refine oE (eS (cT rfl (lR (bR ?_))))
 obtain rfl := sj h
 refine E_out ?_
 exact (E_je k567 (ups_self trivial) [6, 7, 8, 9, 10, 3, 11] (by decide) rfl)
 replace h := wT h
 refine pq (q_not rfl) ?_
 refine oE (eS (cF rfl (lK (eS (lO ?_)))))
 refine pq (q_fieldP rfl fa25_1 rfl) ?_
 refine pq (ql (.one (moC l564 k567)) 10 sz23) ?_
 refine pq (q_fieldP rfl fa64_0 rfl) ?_
 refine pq (ql (iO n608) 1 sz3) ?_
 refine pq (qm (iO n646)) ?_
 refine pq (q_build (cs := [iI n608, iI n646]) ty57 rfl pl57 rfl) ?_
 refine ol_new rfl rfl rfl (q_bslice (cs := [iI n608, iI n646]) (es := (([(n608, n646)] : List (Int × Int))).map (rowC r56)) ty23 rfl ty57 rfl rfl rfl rfl rfl) (fun k648 => ?_)
 obtain ⟨_, h649, h⟩ := bindS h
 obtain ⟨h649b, rfl⟩ := app_some h649
 refine ol_appM (r := r56) (l := l564) (ys := ([(n608, n646)] : List (Int × Int))) 12 rfl rfl rfl rfl rfl rfl (el_ownM (l := ([(n608, n646)] : List (Int × Int))) 0 rfl) rfl h649 (fun y => rfl) el23 ty23 rfl rfl rfl rfl rfl (fun k650 => ?_)
 refine pq (q_fieldP rfl fa25_1 rfl) ?_
 refine ow [[iI n23, moC (l564 ++ ([(n608, n646)] : List (Int × Int))) k650]] 12 sz23 ?_
 refine oE (bN ?_)
 refine E_roundN (p := 5) rfl ?_
 refine pq (q_not rfl) ?_
 refine oE (eS (cF rfl (lK (bN ?_))))
 obtain rfl := sj h
 exact E_next (fr565, fr566, k650) (ups_self ⟨rfl, rfl, rfl, trivial⟩) [5, 6, 7, 8, 9, 10, 11, 12, 0] (by decide) rfl
 replace h := ifF c614 h
 refine tn_put rfl rfl rfl [0] (by decide) rfl (hm0 rfl) rfl (qb (p_leq_fZ c614)) ?_
 refine tq [] rfl (hm0 rfl) (qpt bf) ?_
 refine tq [] rfl (hm0 rfl) (qpf bf) ?_
 refine tq [] rfl (hm0 rfl) (q_fieldP rfl fa64_3 rfl) ?_
 refine tn_wr rfl rfl [0] (by decide) rfl (hm0 rfl) rfl (q_store (es' := [[iI 0, iI 0, iI 0, bC false, bC false]]) 0 rfl rfl rfl sz4 rfl rfl rfl rfl rfl) (q := 0) rfl rfl ?_
 refine tn_end (eS (lS ?_))
 refine L_norm (L2 := ([[(k569, 5, [[iI 0, iI 0, iI 0, bC false, bC false]])], [(k34, 0, [])], [(k32, 1, [[.p fr565 (Sl.t r56 s562)]])], [(k33, 1, [[.p fr566 (Sl.t r56 s563)]])], [(k7, 2, [[iI 0, nC]])], [(k10, 1, [[.p true (.v (.func (.func 46) #[] #[]))]])], [(k11, 2, [[iI 0, nC]])], [(k12, 1, [[iI 0]])], [(k31, 2, [[iI n23, moC l564 k567]])], moL r56 2 l564 k567] : BL)) [0, 1, 2, 3, 4, 5, 6, 7, 8, 9] (by decide) rfl ?_
 refine L_turn 21 rfl [[], [], [], [], [], [], [], [], [], [], [], [], [], [], [], [], [], [], [], [], [k569]] [(false, []), (false, []), (false, []), (false, []), (false, []), (false, []), (false, []), (false, []), (false, []), (false, []), (false, []), (false, []), (false, []), (false, []), (false, []), (false, []), (false, []), (false, []), (false, []), (false, []), (false, [])] [[], [], [], [], [], [], [], [], [12, 13, 14, 15], [12, 13, 14, 15], [12, 13, 14, 15], [12, 13, 14, 15], [8, 9, 10, 11], [8, 9, 10, 11], [8, 9, 10, 11], [8, 9, 10, 11], [], [], [], [], []] (by kernel_rfl) (by kernel_rfl) (by kernel_rfl) ?_ (fun bb651 hlt hnd => ?_)
 intro bb651 hlt hnd
 exact ⟨⟨djE, ⟨djE, ⟨djE, ⟨djE, ⟨djE, ⟨djE, ⟨djE, ⟨djE, ⟨djE, ⟨djE, ⟨djE, ⟨djE, ⟨djE, ⟨djE, ⟨djE, ⟨djE, ⟨djE, ⟨djE, ⟨djE, ⟨djE, ⟨djN, trivial⟩⟩⟩⟩⟩⟩⟩⟩⟩⟩⟩⟩⟩⟩⟩⟩⟩⟩⟩⟩⟩, (ltO_cons ltK_nil (ltO_cons ltK_nil (ltO_cons ltK_nil (ltO_cons ltK_nil (ltO_cons ltK_nil (ltO_cons ltK_nil (ltO_cons ltK_nil (ltO_cons ltK_nil (ltO_cons ltK_nil (ltO_cons ltK_nil (ltO_cons ltK_nil (ltO_cons ltK_nil (ltO_cons ltK_nil (ltO_cons ltK_nil (ltO_cons ltK_nil (ltO_cons ltK_nil (ltO_cons ltK_nil (ltO_cons ltK_nil (ltO_cons ltK_nil (ltO_cons ltK_nil (ltO_cons (ltK_cons (key_lt hlt 0 rfl) ltK_nil) ltO_nil)))))))))))))))))))))⟩
 have e_k567 : l564 = [] ∨ k567 < bb651 := key_ltM (r := r56) (w := 2) hlt 9 rfl
 refine tq [2] rfl (hm0 rfl) (ql (.one (.p fr565 (Sl.t r56 s562))) 0 sz23) ?_
 refine tq [] rfl (hm0 rfl) (q_lenS rfl ty23 rfl rfl rfl rfl) ?_
 refine tn_put rfl rfl rfl [] (by decide) rfl (hm0 rfl) rfl (qb (p_eql_fZ (gt0_ne c568))) ?_
 refine tq [] rfl (hm0 rfl) (qm bf) ?_
 refine tq [3] rfl (hm0 rfl) (ql (.one (.p fr566 (Sl.t r56 s563))) 0 sz23) ?_
 refine tq [] rfl (hm0 rfl) (q_lenS rfl ty23 rfl rfl rfl rfl) ?_
 refine tn_put rfl rfl rfl [] (by decide) rfl (hm0 rfl) rfl (qb (p_gtr_tZ (len1 c581))) ?_
 refine tq [] rfl (hm0 rfl) (qm bt) ?_
 refine tq [3] rfl (hm0 rfl) (ql (.one (.p fr566 (Sl.t r56 s563))) 0 sz23) ?_
 refine tq [] rfl (hm0 rfl) (q_ixS rfl rfl h611a h611 (el23.trans (congrArg some h611b.symm))) ?_
 refine tq [] rfl (hm0 rfl) (q_fieldI rfl fa57_0 rfl) ?_
 refine tq [] rfl (hm0 rfl) (q_loadI (v := iO n612) rfl sz3 (map_get h611) rfl rfl) ?_
 refine tq [2] rfl (hm0 rfl) (ql (.one (.p fr565 (Sl.t r56 s562))) 0 sz23) ?_
 refine tq [] rfl (hm0 rfl) (q_ixS rfl rfl h607a h607 (el23.trans (congrArg some h607b.symm))) ?_
 refine tq [] rfl (hm0 rfl) (q_fieldI rfl fa57_0 rfl) ?_
 refine tq [] rfl (hm0 rfl) (q_loadI (v := iO n608) rfl sz3 (map_get h607) rfl rfl) ?_
 refine tn_put rfl rfl rfl [] (by decide) rfl (hm0 rfl) rfl (qb (p_leq_tZ (notle c614))) ?_
 refine tq [] rfl (hm0 rfl) (qpt bt) ?_
 refine tq [] rfl (hm0 rfl) (qpf bt) ?_
 refine tq [] rfl (hm0 rfl) (q_fieldP rfl fa64_4 rfl) ?_
 refine tn_wr rfl rfl [0] (by decide) rfl (hm0 rfl) rfl (q_store (es' := [[iI 0, iI 0, iI 0, bC false, bC true]]) 0 rfl rfl rfl sz4 rfl rfl rfl rfl rfl) (q := 0) rfl rfl ?_
 refine tn_end (eS (lS (lS (lO ?_))))
 refine pq (q_fieldP rfl fa64_3 rfl) ?_
 refine pq (ql bf 0 sz4) ?_
 refine oE (eS (cF rfl (lK (eS (lS (lS (lO ?_)))))))
 refine pq (q_fieldP rfl fa64_4 rfl) ?_
 refine pq (ql bt 0 sz4) ?_
 refine oE (eS (cT rfl (lS ?_)))
 refine L_norm (L2 := ([[(k569, 5, [[iI 0, iI 0, iI 0, bC false, bC true]])], [(k34, 0, [])], [(k32, 1, [[.p fr565 (Sl.t r56 s562)]])], [(k33, 1, [[.p fr566 (Sl.t r56 s563)]])], [(k7, 2, [[iI 0, nC]])], [(k10, 1, [[.p true (.v (.func (.func 46) #[] #[]))]])], [(k11, 2, [[iI 0, nC]])], [(k12, 1, [[iI 0]])], [(k31, 2, [[iI n23, moC l564 k567]])], moL r56 2 l564 k567] : BL)) [0, 1, 2, 3, 4, 5, 6, 7, 8, 9] (by decide) rfl ?_
 refine L_turn 12 rfl [[], [], [], [], [], [], [], [], [], [k569], [], [k569]] [(false, []), (false, []), (false, []), (false, []), (false, []), (false, []), (false, []), (false, []), (false, []), (false, []), (false, []), (false, [])] [[4, 5, 6, 7], [4, 5, 6, 7], [4, 5, 6, 7], [4, 5, 6, 7], [0, 1, 2, 3, 8, 9], [0, 1, 2, 3, 8, 9], [0, 1, 2, 3, 8, 9], [0, 1, 2, 3, 8, 9], [4, 5, 6, 7], [4, 5, 6, 7], [], []] (by kernel_rfl) (by kernel_rfl) (by kernel_rfl) ?_ (fun bb652 hlt hnd => ?_)
 intro bb652 hlt hnd
 exact ⟨⟨djE, ⟨djE, ⟨djE, ⟨djE, ⟨djE, ⟨djE, ⟨djE, ⟨djE, ⟨djE, ⟨(djC nin_nil (djC nin_nil (djC nin_nil (djC nin_nil djN)))), ⟨djE, ⟨djN, trivial⟩⟩⟩⟩⟩⟩⟩⟩⟩⟩⟩⟩, (ltO_cons ltK_nil (ltO_cons ltK_nil (ltO_cons ltK_nil (ltO_cons ltK_nil (ltO_cons ltK_nil (ltO_cons ltK_nil (ltO_cons ltK_nil (ltO_cons ltK_nil (ltO_cons ltK_nil (ltO_cons (ltK_cons (key_lt hlt 0 rfl) ltK_nil) (ltO_cons ltK_nil (ltO_cons (ltK_cons (key_lt hlt 0 rfl) ltK_nil) ltO_nil))))))))))))⟩
 have e_k567 : l564 = [] ∨ k567 < bb652 := key_ltM (r := r56) (w := 2) hlt 9 rfl
 refine tq [3] rfl (hm0 rfl) (ql (.one (.p fr566 (Sl.t r56 s563))) 0 sz23) ?_
 refine tq [] rfl (hm0 rfl) (q_ixS rfl rfl h611a h611 (el23.trans (congrArg some h611b.symm))) ?_
 refine tq [] rfl (hm0 rfl) (q_fieldI rfl fa57_0 rfl) ?_
 refine tq [] rfl (hm0 rfl) (q_loadI (v := iO n612) rfl sz3 (map_get h611) rfl rfl) ?_
 refine tq [3] rfl (hmc (nin_cons (key_ne hnd 3 0 rfl rfl rfl) nin_nil) hmn) (ql (.one (.p fr566 (Sl.t r56 s563))) 0 sz23) ?_
 refine tq [] rfl hmn (q_ixS rfl rfl h611a h611 (el23.trans (congrArg some h611b.symm))) ?_
 refine tq [] rfl hmn (q_fieldI rfl fa57_1 rfl) ?_
 refine tq [] rfl hmn (q_loadI (v := iO n613) rfl sz2 (map_get h611) rfl rfl) ?_
 refine tq [] rfl (hm0 rfl) (q_fieldP rfl fa64_0 rfl) ?_
 refine tn_wr rfl rfl [0] (by decide) rfl (hm0 rfl) rfl (q_store (es' := [[iI n612, iI 0, iI 0, bC false, bC true]]) 0 rfl rfl rfl sz3 rfl rfl rfl rfl rfl) (q := 0) rfl rfl ?_
 refine tq [] rfl (hm0 rfl) (q_fieldP rfl fa64_2 rfl) ?_
 refine tn_wr rfl rfl [0] (by decide) rfl (hm0 rfl) rfl (q_store (es' := [[iI n612, iI 0, iI n613, bC false, bC true]]) 0 rfl rfl rfl sz2 rfl rfl rfl rfl rfl) (q := 0) rfl rfl ?_
 refine tn_end (eS (lO ?_))
 refine pq (ql (.one (.p fr566 (Sl.t r56 s563))) 3 sz23) ?_
 obtain ⟨s653, h654, h⟩ := bindS h
 refine pq (q_sliceS (r := r56) h654 rfl ty23 rfl ty57 (no_some rfl (cutS_some h654).1.1 _) (no_none _)) ?_
 refine ow [[.p fr566 (Sl.t r56 s653)]] 3 sz23 ?_
 refine oN ?_
 refine pq (qm (.one (.yld k34))) ?_
 refine pq (ql (.agg [iI n612, iI 0, iI n613, bC false, bC true]) 0 sz64) ?_
 refine ol_yield (args := [.agg [iI n612, iI 0, iI n613, bC false, bC true]]) (p := 1) rfl rfl rfl rfl rfl rfl rfl rfl rfl ?_
 refine lO ?_
 refine ol_new rfl rfl rfl (q_alloc ty64 (row := [iI 0, iI 0, iI 0, bC false, bC false]) rfl rfl) (fun k655 => ?_)
 refine ow [[iI n612, iI 0, iI n613, bC false, bC true]] 0 sz64 ?_
 refine oE ?_
 refine E_asg ?_
 refine lB (lS (lO ?_))
 refine pq (ql (.one (.p true (.v (.func (.func 46) #[] #[])))) 6 sz69) ?_
 refine pq (ql (.agg [iI n612, iI 0, iI n613, bC false, bC true]) 0 sz64) ?_
 obtain ⟨⟨⟨n657, n658⟩, b659⟩, h656, h⟩ := bindS h
 refine pq (qc (.tup [.agg [iI n657, uI n658], bO b659]) [.agg [iI n612, iI 0, iI n613, bC false, bC true]] (blend_Over_c1_r (m + 1) h656) (vw_cons (vd_agg (vc_cons vc_v (vc_cons vc_v (vc_cons vc_v (vc_cons vc_v (vc_cons vc_v vc_nil)))))) vw_nil)) ?_
 refine pq (qm (.tup [.agg [iI n657, uI n658], bO b659])) ?_
 refine pq (q_ext (v := .agg [iI n657, uI n658]) rfl rfl) ?_
 refine pq (q_ext (v := bO b659) rfl rfl) ?_
 refine ol_new rfl rfl rfl (q_alloc ty66 (row := [iI 0, uI 0]) rfl rfl) (fun k660 => ?_)
 refine ow [[iI n657, uI n658]] 0 sz66 ?_
 refine pq (qa (bO b659)) ?_
 refine oE (eS (lS (lS (lO ?_))))
 refine pq (qm (bO b659)) ?_
 rcases b659 with _ | _
 replace h := wF h
 refine pq (q_not rfl) ?_
 refine oE (eS (cT rfl (L_exit ?_)))
 refine E_seqX ?_
 refine bH ?_
 refine E_roundN (p := 3) rfl ?_
 refine pq (q_not rfl) ?_
 refine oE (eS (cF rfl (lK (bN ?_))))
 obtain rfl := sj h
 exact E_next (fr565, fr566, k567) (ups_self ⟨rfl, rfl, rfl, trivial⟩) [3, 4, 5, 6, 7, 8, 9, 10, 11] (by decide) rfl
 replace h := wT h
 refine pq (q_not rfl) ?_
 refine oE (eS (cF rfl (lK (eS (lS (lO ?_))))))
 refine pq (ql (.agg [iI n657, uI n658]) 0 sz66) ?_
 obtain ⟨⟨n662, b663⟩, h661, h⟩ := bindS h
 refine pq (qc (.tup [iO n662, bO b663]) [.agg [iI n657, uI n658]] (wide_Narrow_r (m + 1) h661) (vw_cons (vd_agg (vc_cons vc_v (vc_cons vc_v vc_nil))) vw_nil)) ?_
 refine pq (qm (.tup [iO n662, bO b663])) ?_
 refine pq (q_ext (v := iO n662) rfl rfl) ?_
 refine pq (q_ext (v := bO b663) rfl rfl) ?_
 refine pq (qa (iO n662)) ?_
 refine pq (qa (bO b663)) ?_
 refine oE (eS (lS (lS (lO ?_))))
 refine pq (qm (bO b663)) ?_
 rcases b663 with _ | _
 replace h := wF h
 refine pq (q_not rfl) ?_
 refine oE (eS (cT rfl (lS (lO ?_))))
 refine pq (q_build (cs := [iI 0, nC]) ty25 rfl pl25 rfl) ?_
 refine ow [[iI 0, nC]] 8 sz25 ?_
 refine ow [[iI 12]] 9 sz28 ?_
 refine oE (eS (lR (eR (bR ?_))))
 refine E_roundX (p := 3) (es := [[]]) rfl rfl rfl rfl ?_
 refine pq (q_not rfl) ?_
 refine oE (eS (cT rfl (lR (bR ?_))))
 obtain rfl := sj h
 refine E_out ?_
 exact (E_je k567 (ups_self trivial) [6, 7, 8, 9, 10, 3, 11] (by decide) rfl)
 replace h := wT h
 refine pq (q_not rfl) ?_
 refine oE (eS (cF rfl (lK (eS (lO ?_)))))
 refine pq (q_fieldP rfl fa25_1 rfl) ?_
 refine pq (ql (.one (moC l564 k567)) 10 sz23) ?_
 refine pq (q_fieldP rfl fa64_0 rfl) ?_
 refine pq (ql (iO n612) 1 sz3) ?_
 refine pq (qm (iO n662)) ?_
 refine pq (q_build (cs := [iI n612, iI n662]) ty57 rfl pl57 rfl) ?_
 refine ol_new rfl rfl rfl (q_bslice (cs := [iI n612, iI n662]) (es := (([(n612, n662)] : List (Int × Int))).map (rowC r56)) ty23 rfl ty57 rfl rfl rfl rfl rfl) (fun k664 => ?_)
 obtain ⟨_, h665, h⟩ := bindS h
 obtain ⟨h665b, rfl⟩ := app_some h665
 refine ol_appM (r := r56) (l := l564) (ys := ([(n612, n662)] : List (Int × Int))) 12 rfl rfl rfl rfl rfl rfl (el_ownM (l := ([(n612, n662)] : List (Int × Int))) 0 rfl) rfl h665 (fun y => rfl) el23 ty23 rfl rfl rfl rfl rfl (fun k666 => ?_)
 refine pq (q_fieldP rfl fa25_1 rfl) ?_
 refine ow [[iI n23, moC (l564 ++ ([(n612, n662)] : List (Int × Int))) k666]] 12 sz23 ?_
 refine oE (bN ?_)
 refine E_roundN (p := 5) rfl ?_
 refine pq (q_not rfl) ?_
 refine oE (eS (cF rfl (lK (bN ?_))))
 obtain rfl := sj h
 exact E_next (fr565, fr566, k666) (ups_self ⟨rfl, rfl, rfl, trivial⟩) [5, 6, 7, 8, 9, 10, 11, 12, 0] (by decide) rfl
 replace h := ifF c568 h
 refine pq (qb (p_gtr_fZ c568)) ?_
 refine pq (qm bf) ?_
 refine pq (ql (.one (.p fr566 (Sl.t r56 s563))) 2 sz23) ?_
 refine pq (q_lenS rfl ty23 rfl rfl rfl rfl) ?_
 by_cases c667 : ((s563.l.length : Nat) : Int) > 0
 replace h := ifT c667 h
 refine pq (qb (p_gtr_tZ c667)) ?_
 refine pq (qpf bt) ?_
 refine oE (eS (cT rfl (lK (eS (lB (lS (lO ?_)))))))
 refine ol_new rfl rfl rfl (q_alloc ty64 (row := [iI 0, iI 0, iI 0, bC false, bC false]) rfl rfl) (fun k668 => ?_)
 refine oE (eS (lS ?_))
 refine L_norm (L2 := ([[(k668, 5, [[iI 0, iI 0, iI 0, bC false, bC false]])], [(k34, 0, [])], [(k32, 1, [[.p fr565 (Sl.t r56 s562)]])], [(k33, 1, [[.p fr566 (Sl.t r56 s563)]])], [(k7, 2, [[iI 0, nC]])], [(k10, 1, [[.p true (.v (.func (.func 46) #[] #[]))]])], [(k11, 2, [[iI 0, nC]])], [(k12, 1, [[iI 0]])], [(k31, 2, [[iI n23, moC l564 k567]])], moL r56 2 l564 k567] : BL)) [0, 1, 2, 3, 4, 5, 6, 7, 8, 9] (by decide) rfl ?_
 refine L_turn 21 rfl [[], [], [], [], [], [], [], [], [], [], [], [], [], [], [], [], [], [], [], [], [k668]] [(false, []), (false, []), (false, []), (false, []), (false, []), (false, []), (false, []), (false, []), (false, []), (false, []), (false, []), (false, []), (false, []), (false, []), (false, []), (false, []), (false, []), (false, []), (false, []), (false, []), (false, [])] [[], [], [], [], [], [], [], [], [12, 13, 14, 15], [12, 13, 14, 15], [12, 13, 14, 15], [12, 13, 14, 15], [8, 9, 10, 11], [8, 9, 10, 11], [8, 9, 10, 11], [8, 9, 10, 11], [], [], [], [], []] (by kernel_rfl) (by kernel_rfl) (by kernel_rfl) ?_ (fun bb669 hlt hnd => ?_)
 intro bb669 hlt hnd
 exact ⟨⟨djE, ⟨djE, ⟨djE, ⟨djE, ⟨djE, ⟨djE, ⟨djE, ⟨djE, ⟨djE, ⟨djE, ⟨djE, ⟨djE, ⟨djE, ⟨djE, ⟨djE, ⟨djE, ⟨djE, ⟨djE, ⟨djE, ⟨djE, ⟨djN, trivial⟩⟩⟩⟩⟩⟩⟩⟩⟩⟩⟩⟩⟩⟩⟩⟩⟩⟩⟩⟩⟩, (ltO_cons ltK_nil (ltO_cons ltK_nil (ltO_cons ltK_nil (ltO_cons ltK_nil (ltO_cons ltK_nil (ltO_cons ltK_nil (ltO_cons ltK_nil (ltO_cons ltK_nil (ltO_cons ltK_nil (ltO_cons ltK_nil (ltO_cons ltK_nil (ltO_cons ltK_nil (ltO_cons ltK_nil (ltO_cons ltK_nil (ltO_cons ltK_nil (ltO_cons ltK_nil (ltO_cons ltK_nil (ltO_cons ltK_nil (ltO_cons ltK_nil (ltO_cons ltK_nil (ltO_cons (ltK_cons (key_lt hlt 0 rfl) ltK_nil) ltO_nil)))))))))))))))))))))⟩
 have e_k567 : l564 = [] ∨ k567 < bb669 := key_ltM (r := r56) (w := 2) hlt 9 rfl
 refine tq [3] rfl (hm0 rfl) (ql (.one (.p fr566 (Sl.t r56 s563))) 0 sz23) ?_
 refine tq [] rfl (hm0 rfl) (q_lenS rfl ty23 rfl rfl rfl rfl) ?_
 refine tn_put rfl rfl rfl [] (by decide) rfl (hm0 rfl) rfl (qb (p_eql_fZ (gt0_ne c667))) ?_
 refine tq [] rfl (hm0 rfl) (qm bf) ?_
 refine tq [2] rfl (hm0 rfl) (ql (.one (.p fr565 (Sl.t r56 s562))) 0 sz23) ?_
 refine tq [] rfl (hm0 rfl) (q_lenS rfl ty23 rfl rfl rfl rfl) ?_
 refine tn_put rfl rfl rfl [] (by decide) rfl (hm0 rfl) rfl (qb (p_gtr_fZ c568)) ?_
 refine tq [] rfl (hm0 rfl) (qm bf) ?_
 refine tn_skip rfl rfl rfl rfl ?_
 refine tn_skip rfl rfl rfl rfl ?_
 refine tn_skip rfl rfl rfl rfl ?_
 refine tn_skip rfl rfl rfl rfl ?_
 refine tn_skip rfl rfl rfl rfl ?_
 refine tn_skip rfl rfl rfl rfl ?_
 refine tn_skip rfl rfl rfl rfl ?_
 refine tn_skip rfl rfl rfl rfl ?_
 refine tn_skip rfl rfl rfl rfl ?_
 refine tq [] rfl (hm0 rfl) (qpf bf) ?_
 refine tq [] rfl (hm0 rfl) (qpf bf) ?_
 refine tq [] rfl (hm0 rfl) (q_fieldP rfl fa64_3 rfl) ?_
 refine tn_wr rfl rfl [0] (by decide) rfl (hm0 rfl) rfl (q_store (es' := [[iI 0, iI 0, iI 0, bC false, bC false]]) 0 rfl rfl rfl sz4 rfl rfl rfl rfl rfl) (q := 0) rfl rfl ?_
 refine tn_end (eS (lS ?_))
 refine L_norm (L2 := ([[(k668, 5, [[iI 0, iI 0, iI 0, bC false, bC false]])], [(k34, 0, [])], [(k32, 1, [[.p fr565 (Sl.t r56 s562)]])], [(k33, 1, [[.p fr566 (Sl.t r56 s563)]])], [(k7, 2, [[iI 0, nC]])], [(k10, 1, [[.p true (.v (.func (.func 46) #[] #[]))]])], [(k11, 2, [[iI 0, nC]])], [(k12, 1, [[iI 0]])], [(k31, 2, [[iI n23, moC l564 k567]])], moL r56 2 l564 k567] : BL)) [0, 1, 2, 3, 4, 5, 6, 7, 8, 9] (by decide) rfl ?_
 refine L_turn 21 rfl [[], [], [], [], [], [], [], [], [], [], [], [], [], [], [], [], [], [], [], [], [k668]] [(false, []), (false, []), (false, []), (false, []), (false, []), (false, []), (false, []), (false, []), (false, []), (false, []), (false, []), (false, []), (false, []), (false, []), (false, []), (false, []), (false, []), (false, []), (false, []), (false, []), (false, [])] [[], [], [], [], [], [], [], [], [12, 13, 14, 15], [12, 13, 14, 15], [12, 13, 14, 15], [12, 13, 14, 15], [8, 9, 10, 11], [8, 9, 10, 11], [8, 9, 10, 11], [8, 9, 10, 11], [], [], [], [], []] (by kernel_rfl) (by kernel_rfl) (by kernel_rfl) ?_ (fun bb670 hlt hnd => ?_)
 intro bb670 hlt hnd
 exact ⟨⟨djE, ⟨djE, ⟨djE, ⟨djE, ⟨djE, ⟨djE, ⟨djE, ⟨djE, ⟨djE, ⟨djE, ⟨djE, ⟨djE, ⟨djE, ⟨djE, ⟨djE, ⟨djE, ⟨djE, ⟨djE, ⟨djE, ⟨djE, ⟨djN, trivial⟩⟩⟩⟩⟩⟩⟩⟩⟩⟩⟩⟩⟩⟩⟩⟩⟩⟩⟩⟩⟩, (ltO_cons ltK_nil (ltO_cons ltK_nil (ltO_cons ltK_nil (ltO_cons ltK_nil (ltO_cons ltK_nil (ltO_cons ltK_nil (ltO_cons ltK_nil (ltO_cons ltK_nil (ltO_cons ltK_nil (ltO_cons ltK_nil (ltO_cons ltK_nil (ltO_cons ltK_nil (ltO_cons ltK_nil (ltO_cons ltK_nil (ltO_cons ltK_nil (ltO_cons ltK_nil (ltO_cons ltK_nil (ltO_cons ltK_nil (ltO_cons ltK_nil (ltO_cons ltK_nil (ltO_cons (ltK_cons (key_lt hlt 0 rfl) ltK_nil) ltO_nil)))))))))))))))))))))⟩
 have e_k567 : l564 = [] ∨ k567 < bb670 := key_ltM (r := r56) (w := 2) hlt 9 rfl
 refine tq [2] rfl (hm0 rfl) (ql (.one (.p fr565 (Sl.t r56 s562))) 0 sz23) ?_
 refine tq [] rfl (hm0 rfl) (q_lenS rfl ty23 rfl rfl rfl rfl) ?_
 refine tn_put rfl rfl rfl [] (by decide) rfl (hm0 rfl) rfl (qb (p_eql_tZ (len0 c568))) ?_
 refine tq [] rfl (hm0 rfl) (qm bt) ?_
 refine tn_skip rfl rfl rfl rfl ?_
 refine tn_skip rfl rfl rfl rfl ?_
 refine tn_skip rfl rfl rfl rfl ?_
 refine tn_skip rfl rfl rfl rfl ?_
 refine tn_skip rfl rfl rfl rfl ?_
 refine tn_skip rfl rfl rfl rfl ?_
 refine tn_skip rfl rfl rfl rfl ?_
 refine tn_skip rfl rfl rfl rfl ?_
 refine tn_skip rfl rfl rfl rfl ?_
 refine tn_skip rfl rfl rfl rfl ?_
 refine tn_skip rfl rfl rfl rfl ?_
 refine tn_skip rfl rfl rfl rfl ?_
 refine tn_skip rfl rfl rfl rfl ?_
 refine tn_skip rfl rfl rfl rfl ?_
 refine tq [] rfl (hm0 rfl) (qpt bt) ?_
 refine tq [] rfl (hm0 rfl) (q_fieldP rfl fa64_4 rfl) ?_
 refine tn_wr rfl rfl [0] (by decide) rfl (hm0 rfl) rfl (q_store (es' := [[iI 0, iI 0, iI 0, bC false, bC true]]) 0 rfl rfl rfl sz4 rfl rfl rfl rfl rfl) (q := 0) rfl rfl ?_
 refine tn_end (eS (lS (lS (lO ?_))))
 refine pq (q_fieldP rfl fa64_3 rfl) ?_
 refine pq (ql bf 0 sz4) ?_
 refine oE (eS (cF rfl (lK (eS (lS (lS (lO ?_)))))))
 refine pq (q_fieldP rfl fa64_4 rfl) ?_
 refine pq (ql bt 0 sz4) ?_
 refine oE (eS (cT rfl (lS ?_)))
 refine L_norm (L2 := ([[(k668, 5, [[iI 0, iI 0, iI 0, bC false, bC true]])], [(k34, 0, [])], [(k32, 1, [[.p fr565 (Sl.t r56 s562)]])], [(k33, 1, [[.p fr566 (Sl.t r56 s563)]])], [(k7, 2, [[iI 0, nC]])], [(k10, 1, [[.p true (.v (.func (.func 46) #[] #[]))]])], [(k11, 2, [[iI 0, nC]])], [(k12, 1, [[iI 0]])], [(k31, 2, [[iI n23, moC l564 k567]])], moL r56 2 l564 k567] : BL)) [0, 1, 2, 3, 4, 5, 6, 7, 8, 9] (by decide) rfl ?_
 refine L_turn 12 rfl [[], [], [], [], [], [], [], [], [], [k668], [], [k668]] [(false, []), (false, []), (false, []), (false, []), (false, []), (false, []), (false, []), (false, []), (false, []), (false, []), (false, []), (false, [])] [[4, 5, 6, 7], [4, 5, 6, 7], [4, 5, 6, 7], [4, 5, 6, 7], [0, 1, 2, 3, 8, 9], [0, 1, 2, 3, 8, 9], [0, 1, 2, 3, 8, 9], [0, 1, 2, 3, 8, 9], [4, 5, 6, 7], [4, 5, 6, 7], [], []] (by kernel_rfl) (by kernel_rfl) (by kernel_rfl) ?_ (fun bb671 hlt hnd => ?_)
 intro bb671 hlt hnd
 exact ⟨⟨djE, ⟨djE, ⟨djE, ⟨djE, ⟨djE, ⟨djE, ⟨djE, ⟨djE, ⟨djE, ⟨(djC nin_nil (djC nin_nil (djC nin_nil (djC nin_nil djN)))), ⟨djE, ⟨djN, trivial⟩⟩⟩⟩⟩⟩⟩⟩⟩⟩⟩⟩, (ltO_cons ltK_nil (ltO_cons ltK_nil (ltO_cons ltK_nil (ltO_cons ltK_nil (ltO_cons ltK_nil (ltO_cons ltK_nil (ltO_cons ltK_nil (ltO_cons ltK_nil (ltO_cons ltK_nil (ltO_cons (ltK_cons (key_lt hlt 0 rfl) ltK_nil) (ltO_cons ltK_nil (ltO_cons (ltK_cons (key_lt hlt 0 rfl) ltK_nil) ltO_nil))))))))))))⟩
 have e_k567 : l564 = [] ∨ k567 < bb671 := key_ltM (r := r56) (w := 2) hlt 9 rfl
 refine tq [3] rfl (hm0 rfl) (ql (.one (.p fr566 (Sl.t r56 s563))) 0 sz23) ?_
 obtain ⟨⟨n678, n679⟩, h677, h⟩ := bindS h
 obtain ⟨h677a, h677b, h677⟩ := atS_some h677
 refine tq [] rfl (hm0 rfl) (q_ixS rfl rfl h677a h677 (el23.trans (congrArg some h677b.symm))) ?_
 refine tq [] rfl (hm0 rfl) (q_fieldI rfl fa57_0 rfl) ?_
 refine tq [] rfl (hm0 rfl) (q_loadI (v := iO n678) rfl sz3 (map_get h677) rfl rfl) ?_
 refine tq [3] rfl (hmc (nin_cons (key_ne hnd 3 0 rfl rfl rfl) nin_nil) hmn) (ql (.one (.p fr566 (Sl.t r56 s563))) 0 sz23) ?_
 refine tq [] rfl hmn (q_ixS rfl rfl h677a h677 (el23.trans (congrArg some h677b.symm))) ?_
 refine tq [] rfl hmn (q_fieldI rfl fa57_1 rfl) ?_
 refine tq [] rfl hmn (q_loadI (v := iO n679) rfl sz2 (map_get h677) rfl rfl) ?_
 refine tq [] rfl (hm0 rfl) (q_fieldP rfl fa64_0 rfl) ?_
 refine tn_wr rfl rfl [0] (by decide) rfl (hm0 rfl) rfl (q_store (es' := [[iI n678, iI 0, iI 0, bC false, bC true]]) 0 rfl rfl rfl sz3 rfl rfl rfl rfl rfl) (q := 0) rfl rfl ?_
 refine tq [] rfl (hm0 rfl) (q_fieldP rfl fa64_2 rfl) ?_
 refine tn_wr rfl rfl [0] (by decide) rfl (hm0 rfl) rfl (q_store (es' := [[iI n678, iI 0, iI n679, bC false, bC true]]) 0 rfl rfl rfl sz2 rfl rfl rfl rfl rfl) (q := 0) rfl rfl ?_
 refine tn_end (eS (lO ?_))
 refine pq (ql (.one (.p fr566 (Sl.t r56 s563))) 3 sz23) ?_
 obtain ⟨s680, h681, h⟩ := bindS h
 refine pq (q_sliceS (r := r56) h681 rfl ty23 rfl ty57 (no_some rfl (cutS_some h681).1.1 _) (no_none _)) ?_
 refine ow [[.p fr566 (Sl.t r56 s680)]] 3 sz23 ?_
 refine oN ?_
 refine pq (qm (.one (.yld k34))) ?_
 refine pq (ql (.agg [iI n678, iI 0, iI n679, bC false, bC true]) 0 sz64) ?_
 refine ol_yield (args := [.agg [iI n678, iI 0, iI n679, bC false, bC true]]) (p := 1) rfl rfl rfl rfl rfl rfl rfl rfl rfl ?_
 refine lO ?_
 refine ol_new rfl rfl rfl (q_alloc ty64 (row := [iI 0, iI 0, iI 0, bC false, bC false]) rfl rfl) (fun k682 => ?_)
 refine ow [[iI n678, iI 0, iI n679, bC false, bC true]] 0 sz64 ?_
 refine oE ?_
 refine E_asg ?_
 refine lB (lS (lO ?_))
 refine pq (ql (.one (.p true (.v (.func (.func 46) #[] #[])))) 6 sz69) ?_
 refine pq (ql (.agg [iI n678, iI 0, iI n679, bC false, bC true]) 0 sz64) ?_
 obtain ⟨⟨⟨n684, n685⟩, b686⟩, h683, h⟩ := bindS h
 refine pq (qc (.tup [.agg [iI n684, uI n685], bO b686]) [.agg [iI n678, iI 0, iI n679, bC false, bC true]] (blend_Over_c1_r (m + 1) h683) (vw_cons (vd_agg (vc_cons vc_v (vc_cons vc_v (vc_cons vc_v (vc_cons vc_v (vc_cons vc_v vc_nil)))))) vw_nil)) ?_
 refine pq (qm (.tup [.agg [iI n684, uI n685], bO b686])) ?_
 refine pq (q_ext (v := .agg [iI n684, uI n685]) rfl rfl) ?_
 refine pq (q_ext (v := bO b686) rfl rfl) ?_
 refine ol_new rfl rfl rfl (q_alloc ty66 (row := [iI 0, uI 0]) rfl rfl) (fun k687 => ?_)
 refine ow [[iI n684, uI n685]] 0 sz66 ?_
 refine pq (qa (bO b686)) ?_
 refine oE (eS (lS (lS (lO ?_))))
 refine pq (qm (bO b686)) ?_
 rcases b686 with _ | _
 replace h := wF h
 refine pq (q_not rfl) ?_
 refine oE (eS (cT rfl (L_exit ?_)))
 refine E_seqX ?_
 refine bH ?_
 refine E_roundN (p := 3) rfl ?_
 refine pq (q_not rfl) ?_
 refine oE (eS (cF rfl (lK (bN ?_))))
 obtain rfl := sj h
 exact E_next (fr565, fr566, k567) (ups_self ⟨rfl, rfl, rfl, trivial⟩) [3, 4, 5, 6, 7, 8, 9, 10, 11] (by decide) rfl
 replace h := wT h
 refine pq (q_not rfl) ?_
 refine oE (eS (cF rfl (lK (eS (lS (lO ?_))))))
 refine pq (ql (.agg [iI n684, uI n685]) 0 sz66) ?_
 obtain ⟨⟨n689, b690⟩, h688, h⟩ := bindS h
 refine pq (qc (.tup [iO n689, bO b690]) [.agg [iI n684, uI n685]] (wide_Narrow_r (m + 1) h688) (vw_cons (vd_agg (vc_cons vc_v (vc_cons vc_v vc_nil))) vw_nil)) ?_
 refine pq (qm (.tup [iO n689, bO b690])) ?_
 refine pq (q_ext (v := iO n689) rfl rfl) ?_
 refine pq (q_ext (v := bO b690) rfl rfl) ?_
 refine pq (qa (iO n689)) ?_
 refine pq (qa (bO b690)) ?_
 refine oE (eS (lS (lS (lO ?_))))
 refine pq (qm (bO b690)) ?_
 rcases b690 with _ | _
 replace h := wF h
 refine pq (q_not rfl) ?_
 refine oE (eS (cT rfl (lS (lO ?_))))
 refine pq (q_build (cs := [iI 0, nC]) ty25 rfl pl25 rfl) ?_
 refine ow [[iI 0, nC]] 8 sz25 ?_
 refine ow [[iI 12]] 9 sz28 ?_
 refine oE (eS (lR (eR (bR ?_))))
 refine E_roundX (p := 3) (es := [[]]) rfl rfl rfl rfl ?_
 refine pq (q_not rfl) ?_
 refine oE (eS (cT rfl (lR (bR ?_))))
 obtain rfl := sj h
 refine E_out ?_
 exact (E_je k567 (ups_self trivial) [6, 7, 8, 9, 10, 3, 11] (by decide) rfl)
 replace h := wT h
 refine pq (q_not rfl) ?_
 refine oE (eS (cF rfl (lK (eS (lO ?_)))))
 refine pq (q_fieldP rfl fa25_1 rfl) ?_
 refine pq (ql (.one (moC l564 k567)) 10 sz23) ?_
 refine pq (q_fieldP rfl fa64_0 rfl) ?_
 refine pq (ql (iO n678) 1 sz3) ?_
 refine pq (qm (iO n689)) ?_
 refine pq (q_build (cs := [iI n678, iI n689]) ty57 rfl pl57 rfl) ?_
 refine ol_new rfl rfl rfl (q_bslice (cs := [iI n678, iI n689]) (es := (([(n678, n689)] : List (Int × Int))).map (rowC r56)) ty23 rfl ty57 rfl rfl rfl rfl rfl) (fun k691 => ?_)
 obtain ⟨_, h692, h⟩ := bindS h
 obtain ⟨h692b, rfl⟩ := app_some h692
 refine ol_appM (r := r56) (l := l564) (ys := ([(n678, n689)] : List (Int × Int))) 12 rfl rfl rfl rfl rfl rfl (el_ownM (l := ([(n678, n689)] : List (Int × Int))) 0 rfl) rfl h692 (fun y => rfl) el23 ty23 rfl rfl rfl rfl rfl (fun k693 => ?_)
 refine pq (q_fieldP rfl fa25_1 rfl) ?_
 refine ow [[iI n23, moC (l564 ++ ([(n678, n689)] : List (Int × Int))) k693]] 12 sz23 ?_
 refine oE (bN ?_)
 refine E_roundN (p := 5) rfl ?_
 refine pq (q_not rfl) ?_
 refine oE (eS (cF rfl (lK (bN ?_))))
 obtain rfl := sj h
 exact E_next (fr565, fr566, k693) (ups_self ⟨rfl, rfl, rfl, trivial⟩) [5, 6, 7, 8, 9, 10, 11, 12, 0] (by decide) rfl
 replace h := ifF c667 h
 refine pq (qb (p_gtr_fZ c667)) ?_
 refine pq (qpf bf) ?_
 refine oE (eS (cF rfl (L_exit ?_)))
 refine E_seqX ?_
 obtain rfl := sj h
 refine E_out ?_
 exact E_js ((E_je k567 (ups_self trivial) [3, 4, 5, 6, 7, 0, 8] (by decide) rfl))
 rintro (l694 | l696 | u) h
 refine J_e (fun k695 g => ?_)
 replace h := elimL h
 refine bR ?_
 refine E_range (p := 5) (.inr rfl) rfl ?_
 refine bR (eR ?_)
 refine E_call (v := .tup [.agg [iI 0, nC], iO 12]) (.inr rfl) (res_cell (d := .agg [iI 0, nC]) 2 rfl sz25 rfl rfl rfl rfl (res_cell (d := iO 12) 3 rfl sz28 rfl rfl rfl rfl res_nil)) rfl ?_
 refine pq (q_ext (v := .agg [iI 0, nC]) rfl rfl) ?_
 refine pq (q_ext (v := iO 12) rfl rfl) ?_
 refine ow [[iI 0, nC]] 0 sz25 ?_
 refine pq (qa (iO 12)) ?_
 refine oE (eS (lR ?_))
 obtain rfl := sj h
 exact E_endF (.inr rfl) (res_cell (d := .agg [iI 0, nC]) 0 rfl sz25 rfl rfl rfl rfl (res_tmp rfl res_nil)) (vw_cons (vd_agg (vc_cons vc_v (vc_cons vc_s vc_nil))) (vw_cons (vd_one vc_v) vw_nil)) oW rfl rfl
 refine J_s (J_e (fun k697 g => ?_))
 replace h := elimL (elimR h)
 refine bH ?_
 refine E_range (p := 5) (.inl rfl) rfl ?_
 refine bN (eS (lS (lO ?_)))
 refine pq (ql (.agg [iI n23, moC l696 k697]) 4 sz25) ?_
 refine ow [[iI n23, moC l696 k697]] 2 sz25 ?_
 refine ow [[iI 0]] 3 sz28 ?_
 refine oE (eS (lR ?_))
 refine E_call (v := .tup [.agg [iI n23, moC l696 k697], iO 0]) (.inr rfl) (res_cell (d := .agg [iI n23, moC l696 k697]) 2 rfl sz25 rfl rfl rfl rfl (res_cell (d := iO 0) 3 rfl sz28 rfl rfl rfl rfl res_nil)) rfl ?_
 refine pq (q_ext (v := .agg [iI n23, moC l696 k697]) rfl rfl) ?_
 refine pq (q_ext (v := iO 0) rfl rfl) ?_
 refine ow [[iI n23, moC l696 k697]] 0 sz25 ?_
 refine pq (qa (iO 0)) ?_
 refine oE (eS (lR ?_))
 obtain rfl := sj h
 exact E_endF (.inr rfl) (res_cell (d := .agg [iI n23, moC l696 k697]) 0 rfl sz25 rfl rfl rfl rfl (res_tmp rfl res_nil)) (vw_cons (vd_agg (vc_cons vc_v (vc_cons (vc_M (r := r56) 6 rfl (fun x h m => rfl)) vc_nil))) (vw_cons (vd_one vc_v) vw_nil)) oW rfl rfl
 exact u.elim
end Ev
end Go.Proofs.Ytlcfdmjkbaegpaa
