/- Functions of the program as functions on data, and that they are. -/
import Derived.Test.YtlcfdmjkbaegpaaLf1
import Derived.Test.YtlcfdmjkbaegpaaLy1
namespace Go.Proofs.Ytlcfdmjkbaegpaa
namespace Ev
open Go
set_option linter.unusedVariables false
set_option linter.unusedSimpArgs false
set_option maxRecDepth 100000
set_option maxHeartbeats 1000000
attribute [local irreducible] OpsL StL TnL WpL EndL
noncomputable def blend_Over_c1 (a0 : Int × Int × Int × Bool × Bool) : Option ((Int × Int) × Bool) :=
  match a0 with
  | (n1, n2, n3, b4, b5) => (if b5 = true then ((wide_Of n3).bind fun (n12, n13) => some ((n12, n13), true)) else ((wide_Of n2).bind fun (n9, n10) => some ((n9, n10), true)))
theorem blend_Over_c1_r (m : Nat) {a0 : Int × Int × Int × Bool × Bool} {out : (Int × Int) × Bool} (h : blend_Over_c1 a0 = some out) : RunsP E1 (m + 2) 46 [.agg (r63 a0)] (.fresh, [.agg (r65 out.1), .one (bT out.2)]) := by
  obtain ⟨n1, n2, n3, b4, b5⟩ := a0
  refine fn_F rfl (by rw [E1_fn]; exact show fiOf Try.prog 46 = _ by unfold fiOf; rw [Try.func46]; unfold Try.f46; rfl) rfl ?_
  dsimp only
  unfold blend_Over_c1 at h
  refine L_seq ?_
  refine L_ops ?_
  refine ol_new rfl rfl rfl (q_box ty64 rfl (cs := [iC .i64 n1, iC .i64 n2, iC .i64 n3, bC b4, bC b5]) rfl rfl) (fun k6 => ?_)
  refine ol_new rfl rfl rfl (q_alloc ty66 (row := [iC .i64 0, iC .u64 0]) rfl rfl) (fun k7 => ?_)
  refine ol_put rfl rfl rfl (q_assign (v := .one (bC false)) rfl) ?_
  refine ol_end ?_
  refine E_seq ?_
  refine L_seq ?_
  refine L_seq ?_
  refine L_ops ?_
  refine ol_put rfl rfl rfl (q_fieldP rfl fa64_4 rfl) ?_
  refine ol_put rfl rfl rfl (q_loadP (v := .one (bC b5)) 1 rfl sz4 rfl rfl rfl rfl) ?_
  refine ol_end ?_
  refine E_seq ?_
  rcases b5 with _ | _
  · replace h := ifF (by decide) h
    refine L_condF rfl ?_
    refine L_skip ?_
    refine E_seq ?_
    refine L_seq ?_
    refine L_ops ?_
    refine ol_put rfl rfl rfl (q_fieldP rfl fa64_1 rfl) ?_
    refine ol_put rfl rfl rfl (q_loadP (v := .one (iC .i64 n2)) 1 rfl sz2 rfl rfl rfl rfl) ?_
    obtain ⟨⟨n9, n10⟩, h8, h⟩ := bindS h
    refine ol_put rfl rfl rfl (q_callF (v := .agg [iC .i64 n9, iC .u64 n10]) (args := [.one (iC .i64 n2)]) (wide_Of_r (m + 0) h8) rfl rfl (vw_cons (vd_one vc_v) vw_nil) rfl rfl) ?_
    refine ol_wr rfl rfl (q_store (es' := [[iC .i64 n9, iC .u64 n10]]) 0 rfl rfl rfl sz66 rfl rfl rfl rfl rfl) rfl ?_
    refine ol_put rfl rfl rfl (q_assign (v := .one (bC true)) rfl) ?_
    refine ol_end ?_
    refine E_seq ?_
    refine L_ret ?_
    obtain rfl := Option.some.inj h
    exact E_endF (.inr rfl) (res_cell (d := .agg [iC .i64 n9, iC .u64 n10]) 0 rfl sz66 rfl rfl rfl rfl (res_tmp rfl res_nil)) (vw_cons (vd_agg (vc_cons vc_v (vc_cons vc_v vc_nil))) (vw_cons (vd_one vc_v) vw_nil)) (fun h hb => own_no2) rfl rfl
  · replace h := ifT (by decide) h
    refine L_condT rfl ?_
    refine L_seq ?_
    refine L_ops ?_
    refine ol_put rfl rfl rfl (q_fieldP rfl fa64_2 rfl) ?_
    refine ol_put rfl rfl rfl (q_loadP (v := .one (iC .i64 n3)) 1 rfl sz2 rfl rfl rfl rfl) ?_
    obtain ⟨⟨n12, n13⟩, h11, h⟩ := bindS h
    refine ol_put rfl rfl rfl (q_callF (v := .agg [iC .i64 n12, iC .u64 n13]) (args := [.one (iC .i64 n3)]) (wide_Of_r (m + 0) h11) rfl rfl (vw_cons (vd_one vc_v) vw_nil) rfl rfl) ?_
    refine ol_wr rfl rfl (q_store (es' := [[iC .i64 n12, iC .u64 n13]]) 0 rfl rfl rfl sz66 rfl rfl rfl rfl rfl) rfl ?_
    refine ol_put rfl rfl rfl (q_assign (v := .one (bC true)) rfl) ?_
    refine ol_end ?_
    refine E_seq ?_
    refine L_ret ?_
    refine E_seqR ?_
    obtain rfl := Option.some.inj h
    exact E_endF (.inr rfl) (res_cell (d := .agg [iC .i64 n12, iC .u64 n13]) 0 rfl sz66 rfl rfl rfl rfl (res_tmp rfl res_nil)) (vw_cons (vd_agg (vc_cons vc_v (vc_cons vc_v vc_nil))) (vw_cons (vd_one vc_v) vw_nil)) (fun h hb => own_no2) rfl rfl

noncomputable def blend_Over_b1 (a : (Sl (Int × Int)) × (Sl (Int × Int)) × (List (Int × Int))) : Option (((Sl (Int × Int)) × (Sl (Int × Int)) × (List (Int × Int))) ⊕ ((List (Int × Int)) ⊕ ((List (Int × Int)) ⊕ Empty))) :=
  match a with
  | (s562, s563, l564) => (if ((s562.l.length : Nat) : Int) > 0 then (if ((s563.l.length : Nat) : Int) = 0 then ((atS 2 s562 0).bind fun (n590, n591) => ((cutS 2 s562 1 ((s562.l.length : Nat) : Int)).bind fun s592 => ((blend_Over_c1 (n590, n591, 0, true, false)).bind fun ((n596, n597), b598) => (if b598 = true then ((wide_Narrow (n596, n597)).bind fun (n601, b602) => (if b602 = true then ((app l564 ([(n590, n601)] : List (Int × Int))).bind fun _ => some (.inl (s592, s563, (l564 ++ ([(n590, n601)] : List (Int × Int)))))) else some (.inr (.inl l564)))) else some (.inl (s592, s563, l564)))))) else ((atS 2 s562 0).bind fun (n608, n609) => ((atS 2 s563 0).bind fun (n612, n613) => (if n608 ≤ n612 then (if n612 ≤ n608 then ((cutS 2 s562 1 ((s562.l.length : Nat) : Int)).bind fun s619 => ((cutS 2 s563 1 ((s563.l.length : Nat) : Int)).bind fun s622 => ((blend_Over_c1 (n612, n609, n613, true, true)).bind fun ((n626, n627), b628) => (if b628 = true then ((wide_Narrow (n626, n627)).bind fun (n631, b632) => (if b632 = true then ((app l564 ([(n612, n631)] : List (Int × Int))).bind fun _ => some (.inl (s619, s622, (l564 ++ ([(n612, n631)] : List (Int × Int)))))) else some (.inr (.inl l564)))) else some (.inl (s619, s622, l564)))))) else ((cutS 2 s562 1 ((s562.l.length : Nat) : Int)).bind fun s637 => ((blend_Over_c1 (n608, n609, 0, true, false)).bind fun ((n641, n642), b643) => (if b643 = true then ((wide_Narrow (n641, n642)).bind fun (n646, b647) => (if b647 = true then ((app l564 ([(n608, n646)] : List (Int × Int))).bind fun _ => some (.inl (s637, s563, (l564 ++ ([(n608, n646)] : List (Int × Int)))))) else some (.inr (.inl l564)))) else some (.inl (s637, s563, l564)))))) else ((cutS 2 s563 1 ((s563.l.length : Nat) : Int)).bind fun s653 => ((blend_Over_c1 (n612, 0, n613, false, true)).bind fun ((n657, n658), b659) => (if b659 = true then ((wide_Narrow (n657, n658)).bind fun (n662, b663) => (if b663 = true then ((app l564 ([(n612, n662)] : List (Int × Int))).bind fun _ => some (.inl (s562, s653, (l564 ++ ([(n612, n662)] : List (Int × Int)))))) else some (.inr (.inl l564)))) else some (.inl (s562, s653, l564))))))))) else (if ((s563.l.length : Nat) : Int) > 0 then ((atS 2 s563 0).bind fun (n678, n679) => ((cutS 2 s563 1 ((s563.l.length : Nat) : Int)).bind fun s680 => ((blend_Over_c1 (n678, 0, n679, false, true)).bind fun ((n684, n685), b686) => (if b686 = true then ((wide_Narrow (n684, n685)).bind fun (n689, b690) => (if b690 = true then ((app l564 ([(n678, n689)] : List (Int × Int))).bind fun _ => some (.inl (s562, s680, (l564 ++ ([(n678, n689)] : List (Int × Int)))))) else some (.inr (.inl l564)))) else some (.inl (s562, s680, l564)))))) else some (.inr (.inr (.inl l564)))))
noncomputable def blend_Over (a0 : Int × (Sl (Int × Int))) (a1 : Int × (Sl (Int × Int))) : Option ((Int × (Sl (Int × Int))) × Int) :=
  match a0, a1 with
  | (n1, s2), (n3, s4) => ((blend_sure (n1, s2)).bind fun (n23, s24) => ((blend_sure (n3, s4)).bind fun (n27, s28) => (if n23 ≠ n27 then some ((0, (⟨false, 0, []⟩ : Sl (Int × Int))), 4) else ((loopO (blend_Over_b1) (s24, s28, ([] : List (Int × Int)))).bind ((Sum.elim (fun l694 => some ((0, (⟨false, 0, []⟩ : Sl (Int × Int))), 12)) (Sum.elim (fun l696 => some ((n23, (mo 2 l696)), 0)) (fun u => u.elim))))))))
theorem blend_Over_r (m : Nat) {a0 : Int × (Sl (Int × Int))} {a1 : Int × (Sl (Int × Int))} {out : (Int × (Sl (Int × Int))) × Int} (h : blend_Over a0 a1 = some out) : RunsP E1 (m + 5) 17 [.agg (r24 a0), .agg (r24 a1)] (.fresh, [.agg (r24 out.1), .one (iT .i64 out.2)]) := by
  obtain ⟨n1, s2⟩ := a0
  obtain ⟨n3, s4⟩ := a1
  refine fn_F rfl (by rw [E1_fn]; exact show fiOf Try.prog 17 = _ by unfold fiOf; rw [Try.func17]; unfold Try.f17; rfl) rfl ?_
  dsimp only
  unfold blend_Over at h
  refine L_seq ?_
  refine L_ops ?_
  refine ol_new rfl rfl rfl (q_box ty25 rfl (cs := [iC .i64 n1, .p false (Sl.t r56 s2)]) rfl rfl) (fun k5 => ?_)
  refine ol_new rfl rfl rfl (q_box ty25 rfl (cs := [iC .i64 n3, .p false (Sl.t r56 s4)]) rfl rfl) (fun k6 => ?_)
  refine ol_new rfl rfl rfl (q_alloc ty25 (row := [iC .i64 0, .p true (Sl.t r56 (⟨false, 0, []⟩ : Sl (Int × Int)))]) rfl rfl) (fun k7 => ?_)
  refine ol_put rfl rfl rfl (q_assign (v := .one (iC .i64 0)) rfl) ?_
  refine ol_end ?_
  refine E_seq ?_
  refine L_seq ?_
  refine L_ops ?_
  refine ol_put rfl rfl rfl (q_loadP (v := .agg [iC .i64 n1, .p false (Sl.t r56 s2)]) 2 rfl sz25 rfl rfl rfl rfl) ?_
  refine ol_put rfl rfl rfl (q_loadP (v := .agg [iC .i64 n3, .p false (Sl.t r56 s4)]) 1 rfl sz25 rfl rfl rfl rfl) ?_
  refine ol_scallN (args := [.agg [iC .i64 n1, .p false (Sl.t r56 s2)], .agg [iC .i64 n3, .p false (Sl.t r56 s4)], .one (.p true (.v (.func (.func 46) #[] #[])))]) rfl rfl rfl ax33 (by rw [E1_fn]; exact show fiOf Try.prog 33 = _ by unfold fiOf; rw [Try.func33]; unfold Try.f33; rfl) rfl rfl rfl ?_
  dsimp only
  refine L_seq ?_
  refine L_ops ?_
  refine ol_new rfl rfl rfl (q_box ty25 rfl (cs := [iC .i64 n1, .p false (Sl.t r56 s2)]) rfl rfl) (fun k8 => ?_)
  refine ol_new rfl rfl rfl (q_box ty25 rfl (cs := [iC .i64 n3, .p false (Sl.t r56 s4)]) rfl rfl) (fun k9 => ?_)
  refine ol_new rfl rfl rfl (q_box ty69 rfl (cs := [.p true (.v (.func (.func 46) #[] #[]))]) rfl rfl) (fun k10 => ?_)
  refine ol_new rfl rfl rfl (q_alloc ty25 (row := [iC .i64 0, .p true (Sl.t r56 (⟨false, 0, []⟩ : Sl (Int × Int)))]) rfl rfl) (fun k11 => ?_)
  refine ol_new rfl rfl rfl (q_alloc ty28 (row := [iC .i64 0]) rfl rfl) (fun k12 => ?_)
  refine ol_end ?_
  refine E_seq ?_
  refine L_seq ?_
  refine L_norm (L2 := ([[(k12, 1, [[iC .i64 0]])], [(k11, 2, [[iC .i64 0, .p true (Sl.t r56 (⟨false, 0, []⟩ : Sl (Int × Int)))]])], [(k10, 1, [[.p true (.v (.func (.func 46) #[] #[]))]])], [(k9, 2, [[iC .i64 n3, .p false (Sl.t r56 s4)]])], [(k8, 2, [[iC .i64 n1, .p false (Sl.t r56 s2)]])], [(k7, 2, [[iC .i64 0, .p true (Sl.t r56 (⟨false, 0, []⟩ : Sl (Int × Int)))]])]] : BL)) [0, 1, 2, 3, 4, 5] (by decide) rfl ?_
  refine L_turn 6 rfl [[], [], [], [], [k8], [k9]] [(false, []), (false, []), (false, []), (false, []), (false, []), (false, [])] [[2], [2], [0, 1], [], [], []] (by kernel_rfl) (by kernel_rfl) (by kernel_rfl) ?_ (fun bb13 hlt hnd => ?_)
  · intro bb13 hlt hnd
    exact ⟨⟨djE, ⟨djE, ⟨djE, ⟨djE, ⟨djN, ⟨djN, trivial⟩⟩⟩⟩⟩⟩, (ltO_cons ltK_nil (ltO_cons ltK_nil (ltO_cons ltK_nil (ltO_cons ltK_nil (ltO_cons (ltK_cons (key_lt hlt 4 rfl) ltK_nil) (ltO_cons (ltK_cons (key_lt hlt 3 rfl) ltK_nil) ltO_nil))))))⟩
  refine tn_put rfl rfl rfl [4] (by decide) rfl (hm0 rfl) rfl (q_loadP (v := .agg [iC .i64 n1, .p false (Sl.t r56 s2)]) 0 rfl sz25 rfl rfl rfl rfl) ?_
  obtain ⟨⟨n23, s24⟩, h22, h⟩ := bindS h
  refine tn_putX rfl rfl rfl [] (by decide) rfl (hm0 rfl) rfl (q_callX (v := fun fr25 => .agg [iC .i64 n23, .p fr25 (Sl.t r56 s24)]) (args := [.agg [iC .i64 n1, .p false (Sl.t r56 s2)]]) (blend_sure_r (m + 0) h22) rfl rfl (vw_cons (vd_agg (vc_cons vc_v (vc_cons vc_s vc_nil))) vw_nil) rfl rfl (fun fr => rfl)) (fun fr25 => ?_)
  refine tn_put rfl rfl rfl [3] (by decide) rfl (hm0 rfl) rfl (q_loadP (v := .agg [iC .i64 n3, .p false (Sl.t r56 s4)]) 0 rfl sz25 rfl rfl rfl rfl) ?_
  obtain ⟨⟨n27, s28⟩, h26, h⟩ := bindS h
  refine tn_putX rfl rfl rfl [] (by decide) rfl (hm0 rfl) rfl (q_callX (v := fun fr29 => .agg [iC .i64 n27, .p fr29 (Sl.t r56 s28)]) (args := [.agg [iC .i64 n3, .p false (Sl.t r56 s4)]]) (blend_sure_r (m + 0) h26) rfl rfl (vw_cons (vd_agg (vc_cons vc_v (vc_cons vc_s vc_nil))) vw_nil) rfl rfl (fun fr => rfl)) (fun fr29 => ?_)
  refine tn_wr rfl rfl [4] (by decide) rfl (hm0 rfl) rfl (q_store (es' := [[iC .i64 n23, .p fr25 (Sl.t r56 s24)]]) 0 rfl rfl rfl sz25 rfl rfl rfl rfl rfl) (q := 4) rfl rfl ?_
  refine tn_wr rfl rfl [3] (by decide) rfl (hm0 rfl) rfl (q_store (es' := [[iC .i64 n27, .p fr29 (Sl.t r56 s28)]]) 0 rfl rfl rfl sz25 rfl rfl rfl rfl rfl) (q := 3) rfl rfl ?_
  refine tn_end ?_
  refine E_seq ?_
  refine L_seq ?_
  refine L_seq ?_
  refine L_ops ?_
  refine ol_put rfl rfl rfl (q_fieldP rfl fa25_0 rfl) ?_
  refine ol_put rfl rfl rfl (q_loadP (v := .one (iC .i64 n23)) 4 rfl sz3 rfl rfl rfl rfl) ?_
  refine ol_put rfl rfl rfl (q_fieldP rfl fa25_0 rfl) ?_
  refine ol_put rfl rfl rfl (q_loadP (v := .one (iC .i64 n27)) 3 rfl sz3 rfl rfl rfl rfl) ?_
  by_cases c30 : n23 ≠ n27
  · replace h := ifT c30 h
    refine ol_put rfl rfl rfl (q_bin rfl rfl (p_neq_t _ _ _ _ _ c30) rfl) ?_
    refine ol_end ?_
    refine E_seq ?_
    refine L_condT rfl ?_
    refine L_seq ?_
    refine L_ops ?_
    refine ol_put rfl rfl rfl (q_build (cs := [iC .i64 0, .p true (Sl.t r56 (⟨false, 0, []⟩ : Sl (Int × Int)))]) ty25 rfl pl25 rfl) ?_
    refine ol_wr rfl rfl (q_store (es' := [[iC .i64 0, .p true (Sl.t r56 (⟨false, 0, []⟩ : Sl (Int × Int)))]]) 1 rfl rfl rfl sz25 rfl rfl rfl rfl rfl) rfl ?_
    refine ol_wr rfl rfl (q_store (es' := [[iC .i64 4]]) 0 rfl rfl rfl sz28 rfl rfl rfl rfl rfl) rfl ?_
    refine ol_end ?_
    refine E_seq ?_
    refine L_ret ?_
    refine E_seqR ?_
    refine E_call (v := .tup [.agg [iC .i64 0, .p true (Sl.t r56 (⟨false, 0, []⟩ : Sl (Int × Int)))], .one (iC .i64 4)]) (.inr rfl) (res_cell (d := .agg [iC .i64 0, .p true (Sl.t r56 (⟨false, 0, []⟩ : Sl (Int × Int)))]) 1 rfl sz25 rfl rfl rfl rfl (res_cell (d := .one (iC .i64 4)) 0 rfl sz28 rfl rfl rfl rfl res_nil)) rfl ?_
    refine ol_put rfl rfl rfl (q_ext (v := .agg [iC .i64 0, .p true (Sl.t r56 (⟨false, 0, []⟩ : Sl (Int × Int)))]) rfl rfl) ?_
    refine ol_put rfl rfl rfl (q_ext (v := .one (iC .i64 4)) rfl rfl) ?_
    refine ol_wr rfl rfl (q_store (es' := [[iC .i64 0, .p true (Sl.t r56 (⟨false, 0, []⟩ : Sl (Int × Int)))]]) 5 rfl rfl rfl sz25 rfl rfl rfl rfl rfl) rfl ?_
    refine ol_put rfl rfl rfl (q_assign (v := .one (iC .i64 4)) rfl) ?_
    refine ol_end ?_
    refine E_seq ?_
    refine L_ret ?_
    obtain rfl := Option.some.inj h
    exact E_endF (.inr rfl) (res_cell (d := .agg [iC .i64 0, .p true (Sl.t r56 (⟨false, 0, []⟩ : Sl (Int × Int)))]) 5 rfl sz25 rfl rfl rfl rfl (res_tmp rfl res_nil)) (vw_cons (vd_agg (vc_cons vc_v (vc_cons vc_s vc_nil))) (vw_cons (vd_one vc_v) vw_nil)) (fun h hb => own_no2) rfl rfl
  · replace h := ifF c30 h
    refine ol_put rfl rfl rfl (q_bin rfl rfl (p_neq_f _ _ _ _ _ c30) rfl) ?_
    refine ol_end ?_
    refine E_seq ?_
    refine L_condF rfl ?_
    refine L_skip ?_
    refine E_seq ?_
    refine L_seq ?_
    refine L_ops ?_
    refine ol_put rfl rfl rfl (q_fieldP rfl fa25_0 rfl) ?_
    refine ol_put rfl rfl rfl (q_loadP (v := .one (iC .i64 n23)) 4 rfl sz3 rfl rfl rfl rfl) ?_
    refine ol_put rfl rfl rfl (q_build (cs := [iC .i64 n23, .p true (Sl.t r56 (⟨false, 0, []⟩ : Sl (Int × Int)))]) ty25 rfl pl25 rfl) ?_
    refine ol_new rfl rfl rfl (q_alloc ty25 (row := [iC .i64 0, .p true (Sl.t r56 (⟨false, 0, []⟩ : Sl (Int × Int)))]) rfl rfl) (fun k31 => ?_)
    refine ol_wr rfl rfl (q_store (es' := [[iC .i64 n23, .p true (Sl.t r56 (⟨false, 0, []⟩ : Sl (Int × Int)))]]) 0 rfl rfl rfl sz25 rfl rfl rfl rfl rfl) rfl ?_
    refine ol_end ?_
    refine E_seq ?_
    refine L_seq ?_
    refine L_seq ?_
    refine L_ops ?_
    refine ol_put rfl rfl rfl (q_fieldP rfl fa25_1 rfl) ?_
    refine ol_put rfl rfl rfl (q_loadP (v := .one (.p fr25 (Sl.t r56 s24))) 5 rfl sz23 rfl rfl rfl rfl) ?_
    refine ol_put rfl rfl rfl (q_fieldP rfl fa25_1 rfl) ?_
    refine ol_put rfl rfl rfl (q_loadP (v := .one (.p fr29 (Sl.t r56 s28))) 4 rfl sz23 rfl rfl rfl rfl) ?_
    refine ol_scallN (args := [.one (.p fr25 (Sl.t r56 s24)), .one (.p fr29 (Sl.t r56 s28))]) rfl rfl rfl ax60 (by rw [E1_fn]; exact show fiOf Try.prog 60 = _ by unfold fiOf; rw [Try.func60]; unfold Try.f60; rfl) rfl rfl rfl ?_
    dsimp only
    refine L_seq ?_
    refine L_ops ?_
    refine ol_new rfl rfl rfl (q_box ty23 rfl (cs := [.p fr25 (Sl.t r56 s24)]) rfl rfl) (fun k32 => ?_)
    refine ol_new rfl rfl rfl (q_box ty23 rfl (cs := [.p fr29 (Sl.t r56 s28)]) rfl rfl) (fun k33 => ?_)
    refine ol_put rfl rfl rfl (q_assign (v := .one (.p true (.v .nilFunc))) rfl) ?_
    refine ol_end ?_
    refine E_seq ?_
    refine L_seq ?_
    refine L_ops ?_
    refine ol_put rfl rfl rfl (q_mkfun rfl rfl) ?_
    refine ol_put rfl rfl rfl (q_assign (v := .one (.clo (.func 77) [] [.ptr k32 0 0, .ptr k33 0 0])) rfl) ?_
    refine ol_end ?_
    refine E_seq ?_
    refine L_ret ?_
    refine E_call (v := .one (.clo (.func 77) [] [.ptr k32 0 0, .ptr k33 0 0])) (.inr rfl) (res_tmp (d := .one (.clo (.func 77) [] [.ptr k32 0 0, .ptr k33 0 0])) rfl res_nil) rfl ?_
    refine ol_end ?_
    refine E_seq ?_
    refine L_block ?_
    refine L_range rfl (by rw [E1_fn]; exact show fiOf Try.prog 77 = _ by unfold fiOf; rw [Try.func77]; unfold Try.f77; rfl) rfl rfl (fun k34 => ?_)
    dsimp only
    refine L_block ?_
    refine L_addM (α := Int × Int) r56 2 ?_
    let S1 : ((Sl (Int × Int)) × (Sl (Int × Int)) × (List (Int × Int))) → (Bool × Bool × Nat) → (Nat → D) → Nat → D := fun a kt g => ups g [(0, .one (.yld k34)), (1, .one (.ptr k32 0 0)), (2, .one (.ptr k33 0 0))]
    let SL1 : ((Sl (Int × Int)) × (Sl (Int × Int)) × (List (Int × Int))) → (Bool × Bool × Nat) → BL := fun a kt => ([[(k34, 0, [])], [(k32, 1, [[.p kt.1 (Sl.t r56 a.1)]])], [(k33, 1, [[.p kt.2.1 (Sl.t r56 a.2.1)]])], [(k7, 2, [[iC .i64 0, .p true (Sl.t r56 (⟨false, 0, []⟩ : Sl (Int × Int)))]])], [(k10, 1, [[.p true (.v (.func (.func 46) #[] #[]))]])], [(k11, 2, [[iC .i64 0, .p true (Sl.t r56 (⟨false, 0, []⟩ : Sl (Int × Int)))]])], [(k12, 1, [[iC .i64 0]])], [(k31, 2, [[iC .i64 n23, moC a.2.2 kt.2.2]])], moL r56 2 a.2.2 kt.2.2] : BL)
    let G1 : Empty → Ex → St → Prop := fun u => u.elim
    let Sx1_1 : (List (Int × Int)) → Nat → (Nat → D) → Nat → D := fun a kt g => ups g []
    let SLx1_1 : (List (Int × Int)) → Nat → BL := fun a kt => ([[(k7, 2, [[iC .i64 0, .p true (Sl.t r56 (⟨false, 0, []⟩ : Sl (Int × Int)))]])], [(k10, 1, [[.p true (.v (.func (.func 46) #[] #[]))]])], [(k11, 2, [[iC .i64 0, .p true (Sl.t r56 (⟨false, 0, []⟩ : Sl (Int × Int)))]])], [(k12, 1, [[iC .i64 0]])], [(k31, 2, [[iC .i64 n23, moC a kt]])], [(k34, 0, [])], moL r56 2 a kt] : BL)
    let Sx1_0 : (List (Int × Int)) → Nat → (Nat → D) → Nat → D := fun a kt g => ups g []
    let SLx1_0 : (List (Int × Int)) → Nat → BL := fun a kt => ([[(k7, 2, [[iC .i64 0, .p true (Sl.t r56 (⟨false, 0, []⟩ : Sl (Int × Int)))]])], [(k10, 1, [[.p true (.v (.func (.func 46) #[] #[]))]])], [(k11, 2, [[iC .i64 0, .p true (Sl.t r56 (⟨false, 0, []⟩ : Sl (Int × Int)))]])], [(k12, 1, [[iC .i64 12]])], [(k31, 2, [[iC .i64 n23, moC a kt]])], [(k34, 0, [[]])], moL r56 2 a kt] : BL)
    let J1 : ((List (Int × Int)) ⊕ ((List (Int × Int)) ⊕ Empty)) → Ex → St → Prop := JE 85 .ret Sx1_0 SLx1_0 (JE 85 (.exit 0) Sx1_1 SLx1_1 (JU G1))
    refine L_loopS (blend_Over_b1) S1 SL1 J1 (JE_n rfl (JE_n rfl (JU_n))) (s24, s28, ([] : List (Int × Int))) h (fr25, fr29, 1560) (ups_self ⟨rfl, rfl, rfl, trivial⟩) [1, 3, 2, 10, 7, 6, 5, 4, 0] (by decide) rfl ?_ ?_
    · rintro ⟨s562, s563, l564⟩ ⟨fr565, fr566, k567⟩ g out h
      change blend_Over_b1 (s562, s563, l564) = some out at h
      unfold blend_Over_b1 at h
      refine L_seq ?_
      refine L_seq ?_
      refine L_ops ?_
      refine ol_put rfl rfl rfl (q_loadP (v := .one (.p fr565 (Sl.t r56 s562))) 1 rfl sz23 rfl rfl rfl rfl) ?_
      refine ol_put rfl rfl rfl (q_lenS rfl ty23 rfl rfl rfl rfl) ?_
      by_cases c568 : ((s562.l.length : Nat) : Int) > 0
      · replace h := ifT c568 h
        refine ol_put rfl rfl rfl (q_bin rfl rfl (p_gtr_t _ _ _ _ _ c568) rfl) ?_
        refine ol_put rfl rfl rfl (q_move (v := .one (bC true)) rfl) ?_
        refine ol_skip rfl rfl rfl ?_
        refine ol_skip rfl rfl rfl ?_
        refine ol_skip rfl rfl rfl ?_
        refine ol_put rfl rfl rfl (q_pickT (v := .one (bC true)) rfl rfl) ?_
        refine ol_end ?_
        refine E_seq ?_
        refine L_condT rfl ?_
        refine L_skip ?_
        refine E_seq ?_
        refine L_block ?_
        refine L_seq ?_
        refine L_ops ?_
        refine ol_new rfl rfl rfl (q_alloc ty64 (row := [iC .i64 0, iC .i64 0, iC .i64 0, bC false, bC false]) rfl rfl) (fun k569 => ?_)
        refine ol_end ?_
        refine E_seq ?_
        refine L_seq ?_
        refine L_norm (L2 := ([[(k569, 5, [[iC .i64 0, iC .i64 0, iC .i64 0, bC false, bC false]])], [(k34, 0, [])], [(k32, 1, [[.p fr565 (Sl.t r56 s562)]])], [(k33, 1, [[.p fr566 (Sl.t r56 s563)]])], [(k7, 2, [[iC .i64 0, .p true (Sl.t r56 (⟨false, 0, []⟩ : Sl (Int × Int)))]])], [(k10, 1, [[.p true (.v (.func (.func 46) #[] #[]))]])], [(k11, 2, [[iC .i64 0, .p true (Sl.t r56 (⟨false, 0, []⟩ : Sl (Int × Int)))]])], [(k12, 1, [[iC .i64 0]])], [(k31, 2, [[iC .i64 n23, moC l564 k567]])], moL r56 2 l564 k567] : BL)) [0, 1, 2, 3, 4, 5, 6, 7, 8, 9] (by decide) rfl ?_
        refine L_turn 21 rfl [[], [], [], [], [], [], [], [], [], [], [], [], [], [], [], [], [], [], [], [], [k569]] [(false, []), (false, []), (false, []), (false, []), (false, []), (false, []), (false, []), (false, []), (false, []), (false, []), (false, []), (false, []), (false, []), (false, []), (false, []), (false, []), (false, []), (false, []), (false, []), (false, []), (false, [])] [[], [], [], [], [], [], [], [], [12, 13, 14, 15], [12, 13, 14, 15], [12, 13, 14, 15], [12, 13, 14, 15], [8, 9, 10, 11], [8, 9, 10, 11], [8, 9, 10, 11], [8, 9, 10, 11], [], [], [], [], []] (by kernel_rfl) (by kernel_rfl) (by kernel_rfl) ?_ (fun bb570 hlt hnd => ?_)
        · intro bb570 hlt hnd
          exact ⟨⟨djE, ⟨djE, ⟨djE, ⟨djE, ⟨djE, ⟨djE, ⟨djE, ⟨djE, ⟨djE, ⟨djE, ⟨djE, ⟨djE, ⟨djE, ⟨djE, ⟨djE, ⟨djE, ⟨djE, ⟨djE, ⟨djE, ⟨djE, ⟨djN, trivial⟩⟩⟩⟩⟩⟩⟩⟩⟩⟩⟩⟩⟩⟩⟩⟩⟩⟩⟩⟩⟩, (ltO_cons ltK_nil (ltO_cons ltK_nil (ltO_cons ltK_nil (ltO_cons ltK_nil (ltO_cons ltK_nil (ltO_cons ltK_nil (ltO_cons ltK_nil (ltO_cons ltK_nil (ltO_cons ltK_nil (ltO_cons ltK_nil (ltO_cons ltK_nil (ltO_cons ltK_nil (ltO_cons ltK_nil (ltO_cons ltK_nil (ltO_cons ltK_nil (ltO_cons ltK_nil (ltO_cons ltK_nil (ltO_cons ltK_nil (ltO_cons ltK_nil (ltO_cons ltK_nil (ltO_cons (ltK_cons (key_lt hlt 0 rfl) ltK_nil) ltO_nil)))))))))))))))))))))⟩
        have e_k567 : l564 = [] ∨ k567 < bb570 := key_ltM (r := r56) (w := 2) hlt 9 rfl
        refine tn_put rfl rfl rfl [3] (by decide) rfl (hm0 rfl) rfl (q_loadP (v := .one (.p fr566 (Sl.t r56 s563))) 0 rfl sz23 rfl rfl rfl rfl) ?_
        refine tn_put rfl rfl rfl [] (by decide) rfl (hm0 rfl) rfl (q_lenS rfl ty23 rfl rfl rfl rfl) ?_
        by_cases c581 : ((s563.l.length : Nat) : Int) = 0
        · replace h := ifT c581 h
          refine tn_put rfl rfl rfl [] (by decide) rfl (hm0 rfl) rfl (q_bin rfl rfl (p_eql_t _ _ _ _ _ c581) rfl) ?_
          refine tn_put rfl rfl rfl [] (by decide) rfl (hm0 rfl) rfl (q_move (v := .one (bC true)) rfl) ?_
          refine tn_skip rfl rfl rfl rfl ?_
          refine tn_skip rfl rfl rfl rfl ?_
          refine tn_skip rfl rfl rfl rfl ?_
          refine tn_skip rfl rfl rfl rfl ?_
          refine tn_skip rfl rfl rfl rfl ?_
          refine tn_skip rfl rfl rfl rfl ?_
          refine tn_skip rfl rfl rfl rfl ?_
          refine tn_skip rfl rfl rfl rfl ?_
          refine tn_skip rfl rfl rfl rfl ?_
          refine tn_skip rfl rfl rfl rfl ?_
          refine tn_skip rfl rfl rfl rfl ?_
          refine tn_skip rfl rfl rfl rfl ?_
          refine tn_skip rfl rfl rfl rfl ?_
          refine tn_skip rfl rfl rfl rfl ?_
          refine tn_put rfl rfl rfl [] (by decide) rfl (hm0 rfl) rfl (q_pickT (v := .one (bC true)) rfl rfl) ?_
          refine tn_put rfl rfl rfl [] (by decide) rfl (hm0 rfl) rfl (q_fieldP rfl fa64_3 rfl) ?_
          refine tn_wr rfl rfl [0] (by decide) rfl (hm0 rfl) rfl (q_store (es' := [[iC .i64 0, iC .i64 0, iC .i64 0, bC true, bC false]]) 0 rfl rfl rfl sz4 rfl rfl rfl rfl rfl) (q := 0) rfl rfl ?_
          refine tn_end ?_
          refine E_seq ?_
          refine L_seq ?_
          refine L_norm (L2 := ([[(k569, 5, [[iC .i64 0, iC .i64 0, iC .i64 0, bC true, bC false]])], [(k34, 0, [])], [(k32, 1, [[.p fr565 (Sl.t r56 s562)]])], [(k33, 1, [[.p fr566 (Sl.t r56 s563)]])], [(k7, 2, [[iC .i64 0, .p true (Sl.t r56 (⟨false, 0, []⟩ : Sl (Int × Int)))]])], [(k10, 1, [[.p true (.v (.func (.func 46) #[] #[]))]])], [(k11, 2, [[iC .i64 0, .p true (Sl.t r56 (⟨false, 0, []⟩ : Sl (Int × Int)))]])], [(k12, 1, [[iC .i64 0]])], [(k31, 2, [[iC .i64 n23, moC l564 k567]])], moL r56 2 l564 k567] : BL)) [0, 1, 2, 3, 4, 5, 6, 7, 8, 9] (by decide) rfl ?_
          refine L_turn 21 rfl [[], [], [], [], [], [], [], [], [], [], [], [], [], [], [], [], [], [], [], [], [k569]] [(false, []), (false, []), (false, []), (false, []), (false, []), (false, []), (false, []), (false, []), (false, []), (false, []), (false, []), (false, []), (false, []), (false, []), (false, []), (false, []), (false, []), (false, []), (false, []), (false, []), (false, [])] [[], [], [], [], [], [], [], [], [12, 13, 14, 15], [12, 13, 14, 15], [12, 13, 14, 15], [12, 13, 14, 15], [8, 9, 10, 11], [8, 9, 10, 11], [8, 9, 10, 11], [8, 9, 10, 11], [], [], [], [], []] (by kernel_rfl) (by kernel_rfl) (by kernel_rfl) ?_ (fun bb582 hlt hnd => ?_)
          · intro bb582 hlt hnd
            exact ⟨⟨djE, ⟨djE, ⟨djE, ⟨djE, ⟨djE, ⟨djE, ⟨djE, ⟨djE, ⟨djE, ⟨djE, ⟨djE, ⟨djE, ⟨djE, ⟨djE, ⟨djE, ⟨djE, ⟨djE, ⟨djE, ⟨djE, ⟨djE, ⟨djN, trivial⟩⟩⟩⟩⟩⟩⟩⟩⟩⟩⟩⟩⟩⟩⟩⟩⟩⟩⟩⟩⟩, (ltO_cons ltK_nil (ltO_cons ltK_nil (ltO_cons ltK_nil (ltO_cons ltK_nil (ltO_cons ltK_nil (ltO_cons ltK_nil (ltO_cons ltK_nil (ltO_cons ltK_nil (ltO_cons ltK_nil (ltO_cons ltK_nil (ltO_cons ltK_nil (ltO_cons ltK_nil (ltO_cons ltK_nil (ltO_cons ltK_nil (ltO_cons ltK_nil (ltO_cons ltK_nil (ltO_cons ltK_nil (ltO_cons ltK_nil (ltO_cons ltK_nil (ltO_cons ltK_nil (ltO_cons (ltK_cons (key_lt hlt 0 rfl) ltK_nil) ltO_nil)))))))))))))))))))))⟩
          have e_k567 : l564 = [] ∨ k567 < bb582 := key_ltM (r := r56) (w := 2) hlt 9 rfl
          refine tn_put rfl rfl rfl [2] (by decide) rfl (hm0 rfl) rfl (q_loadP (v := .one (.p fr565 (Sl.t r56 s562))) 0 rfl sz23 rfl rfl rfl rfl) ?_
          refine tn_put rfl rfl rfl [] (by decide) rfl (hm0 rfl) rfl (q_lenS rfl ty23 rfl rfl rfl rfl) ?_
          refine tn_put rfl rfl rfl [] (by decide) rfl (hm0 rfl) rfl (q_bin rfl rfl (p_eql_f _ _ _ _ _ (gt0_ne c568)) rfl) ?_
          refine tn_put rfl rfl rfl [] (by decide) rfl (hm0 rfl) rfl (q_move (v := .one (bC false)) rfl) ?_
          refine tn_put rfl rfl rfl [3] (by decide) rfl (hm0 rfl) rfl (q_loadP (v := .one (.p fr566 (Sl.t r56 s563))) 0 rfl sz23 rfl rfl rfl rfl) ?_
          refine tn_put rfl rfl rfl [] (by decide) rfl (hm0 rfl) rfl (q_lenS rfl ty23 rfl rfl rfl rfl) ?_
          refine tn_put rfl rfl rfl [] (by decide) rfl (hm0 rfl) rfl (q_bin rfl rfl (p_gtr_f _ _ _ _ _ (eq0_ng c581)) rfl) ?_
          refine tn_put rfl rfl rfl [] (by decide) rfl (hm0 rfl) rfl (q_move (v := .one (bC false)) rfl) ?_
          refine tn_skip rfl rfl rfl rfl ?_
          refine tn_skip rfl rfl rfl rfl ?_
          refine tn_skip rfl rfl rfl rfl ?_
          refine tn_skip rfl rfl rfl rfl ?_
          refine tn_skip rfl rfl rfl rfl ?_
          refine tn_skip rfl rfl rfl rfl ?_
          refine tn_skip rfl rfl rfl rfl ?_
          refine tn_skip rfl rfl rfl rfl ?_
          refine tn_skip rfl rfl rfl rfl ?_
          refine tn_put rfl rfl rfl [] (by decide) rfl (hm0 rfl) rfl (q_pickF (v := .one (bC false)) rfl rfl) ?_
          refine tn_put rfl rfl rfl [] (by decide) rfl (hm0 rfl) rfl (q_pickF (v := .one (bC false)) rfl rfl) ?_
          refine tn_put rfl rfl rfl [] (by decide) rfl (hm0 rfl) rfl (q_fieldP rfl fa64_4 rfl) ?_
          refine tn_wr rfl rfl [0] (by decide) rfl (hm0 rfl) rfl (q_store (es' := [[iC .i64 0, iC .i64 0, iC .i64 0, bC true, bC false]]) 0 rfl rfl rfl sz4 rfl rfl rfl rfl rfl) (q := 0) rfl rfl ?_
          refine tn_end ?_
          refine E_seq ?_
          refine L_seq ?_
          refine L_seq ?_
          refine L_ops ?_
          refine ol_put rfl rfl rfl (q_fieldP rfl fa64_3 rfl) ?_
          refine ol_put rfl rfl rfl (q_loadP (v := .one (bC true)) 0 rfl sz4 rfl rfl rfl rfl) ?_
          refine ol_end ?_
          refine E_seq ?_
          refine L_condT rfl ?_
          refine L_seq ?_
          refine L_norm (L2 := ([[(k569, 5, [[iC .i64 0, iC .i64 0, iC .i64 0, bC true, bC false]])], [(k34, 0, [])], [(k32, 1, [[.p fr565 (Sl.t r56 s562)]])], [(k33, 1, [[.p fr566 (Sl.t r56 s563)]])], [(k7, 2, [[iC .i64 0, .p true (Sl.t r56 (⟨false, 0, []⟩ : Sl (Int × Int)))]])], [(k10, 1, [[.p true (.v (.func (.func 46) #[] #[]))]])], [(k11, 2, [[iC .i64 0, .p true (Sl.t r56 (⟨false, 0, []⟩ : Sl (Int × Int)))]])], [(k12, 1, [[iC .i64 0]])], [(k31, 2, [[iC .i64 n23, moC l564 k567]])], moL r56 2 l564 k567] : BL)) [0, 1, 2, 3, 4, 5, 6, 7, 8, 9] (by decide) rfl ?_
          refine L_turn 12 rfl [[], [], [], [], [], [], [], [], [], [k569], [], [k569]] [(false, []), (false, []), (false, []), (false, []), (false, []), (false, []), (false, []), (false, []), (false, []), (false, []), (false, []), (false, [])] [[4, 5, 6, 7], [4, 5, 6, 7], [4, 5, 6, 7], [4, 5, 6, 7], [0, 1, 2, 3, 8, 9], [0, 1, 2, 3, 8, 9], [0, 1, 2, 3, 8, 9], [0, 1, 2, 3, 8, 9], [4, 5, 6, 7], [4, 5, 6, 7], [], []] (by kernel_rfl) (by kernel_rfl) (by kernel_rfl) ?_ (fun bb583 hlt hnd => ?_)
          · intro bb583 hlt hnd
            exact ⟨⟨djE, ⟨djE, ⟨djE, ⟨djE, ⟨djE, ⟨djE, ⟨djE, ⟨djE, ⟨djE, ⟨(djC nin_nil (djC nin_nil (djC nin_nil (djC nin_nil djN)))), ⟨djE, ⟨djN, trivial⟩⟩⟩⟩⟩⟩⟩⟩⟩⟩⟩⟩, (ltO_cons ltK_nil (ltO_cons ltK_nil (ltO_cons ltK_nil (ltO_cons ltK_nil (ltO_cons ltK_nil (ltO_cons ltK_nil (ltO_cons ltK_nil (ltO_cons ltK_nil (ltO_cons ltK_nil (ltO_cons (ltK_cons (key_lt hlt 0 rfl) ltK_nil) (ltO_cons ltK_nil (ltO_cons (ltK_cons (key_lt hlt 0 rfl) ltK_nil) ltO_nil))))))))))))⟩
          have e_k567 : l564 = [] ∨ k567 < bb583 := key_ltM (r := r56) (w := 2) hlt 9 rfl
          refine tn_put rfl rfl rfl [2] (by decide) rfl (hm0 rfl) rfl (q_loadP (v := .one (.p fr565 (Sl.t r56 s562))) 0 rfl sz23 rfl rfl rfl rfl) ?_
          obtain ⟨⟨n590, n591⟩, h589, h⟩ := bindS h
          obtain ⟨h589a, h589b, h589⟩ := atS_some h589
          refine tn_put rfl rfl rfl [] (by decide) rfl (hm0 rfl) rfl (q_ixS rfl rfl h589a h589 (el23.trans (congrArg some h589b.symm))) ?_
          refine tn_put rfl rfl rfl [] (by decide) rfl (hm0 rfl) rfl (q_fieldI rfl fa57_0 rfl) ?_
          refine tn_put rfl rfl rfl [] (by decide) rfl (hm0 rfl) rfl (q_loadI (v := .one (iC .i64 n590)) rfl sz3 (map_get h589) rfl rfl) ?_
          refine tn_put rfl rfl rfl [2] (by decide) rfl (hmc (nin_cons (key_ne hnd 2 0 rfl rfl rfl) nin_nil) hmn) rfl (q_loadP (v := .one (.p fr565 (Sl.t r56 s562))) 0 rfl sz23 rfl rfl rfl rfl) ?_
          refine tn_put rfl rfl rfl [] (by decide) rfl hmn rfl (q_ixS rfl rfl h589a h589 (el23.trans (congrArg some h589b.symm))) ?_
          refine tn_put rfl rfl rfl [] (by decide) rfl hmn rfl (q_fieldI rfl fa57_1 rfl) ?_
          refine tn_put rfl rfl rfl [] (by decide) rfl hmn rfl (q_loadI (v := .one (iC .i64 n591)) rfl sz2 (map_get h589) rfl rfl) ?_
          refine tn_put rfl rfl rfl [] (by decide) rfl (hm0 rfl) rfl (q_fieldP rfl fa64_0 rfl) ?_
          refine tn_wr rfl rfl [0] (by decide) rfl (hm0 rfl) rfl (q_store (es' := [[iC .i64 n590, iC .i64 0, iC .i64 0, bC true, bC false]]) 0 rfl rfl rfl sz3 rfl rfl rfl rfl rfl) (q := 0) rfl rfl ?_
          refine tn_put rfl rfl rfl [] (by decide) rfl (hm0 rfl) rfl (q_fieldP rfl fa64_1 rfl) ?_
          refine tn_wr rfl rfl [0] (by decide) rfl (hm0 rfl) rfl (q_store (es' := [[iC .i64 n590, iC .i64 n591, iC .i64 0, bC true, bC false]]) 0 rfl rfl rfl sz2 rfl rfl rfl rfl rfl) (q := 0) rfl rfl ?_
          refine tn_end ?_
          refine E_seq ?_
          refine L_ops ?_
          refine ol_put rfl rfl rfl (q_loadP (v := .one (.p fr565 (Sl.t r56 s562))) 2 rfl sz23 rfl rfl rfl rfl) ?_
          obtain ⟨s592, h593, h⟩ := bindS h
          refine ol_put rfl rfl rfl (q_sliceS (r := r56) h593 rfl ty23 rfl ty57 (no_some rfl (cutS_some h593).1.1 _) (no_none _)) ?_
          refine ol_wr rfl rfl (q_store (es' := [[.p fr565 (Sl.t r56 s592)]]) 2 rfl rfl rfl sz23 rfl rfl rfl rfl rfl) rfl ?_
          refine ol_end ?_
          refine E_seq ?_
          refine L_seq ?_
          refine L_seq ?_
          refine L_ops ?_
          refine ol_put rfl rfl rfl (q_fieldP rfl fa64_4 rfl) ?_
          refine ol_put rfl rfl rfl (q_loadP (v := .one (bC false)) 0 rfl sz4 rfl rfl rfl rfl) ?_
          refine ol_end ?_
          refine E_seq ?_
          refine L_condF rfl ?_
          refine L_skip ?_
          refine E_seq ?_
          refine L_seq ?_
          refine L_ops ?_
          refine ol_put rfl rfl rfl (q_move (v := .one (.yld k34)) rfl) ?_
          refine ol_put rfl rfl rfl (q_loadP (v := .agg [iC .i64 n590, iC .i64 n591, iC .i64 0, bC true, bC false]) 0 rfl sz64 rfl rfl rfl rfl) ?_
          refine ol_yield (args := [.agg [iC .i64 n590, iC .i64 n591, iC .i64 0, bC true, bC false]]) (p := 1) rfl rfl rfl rfl rfl rfl rfl rfl rfl ?_
          refine L_ops ?_
          refine ol_new rfl rfl rfl (q_alloc ty64 (row := [iC .i64 0, iC .i64 0, iC .i64 0, bC false, bC false]) rfl rfl) (fun k594 => ?_)
          refine ol_wr rfl rfl (q_store (es' := [[iC .i64 n590, iC .i64 n591, iC .i64 0, bC true, bC false]]) 0 rfl rfl rfl sz64 rfl rfl rfl rfl rfl) rfl ?_
          refine ol_end ?_
          refine E_asg ?_
          refine L_block ?_
          refine L_seq ?_
          refine L_ops ?_
          refine ol_put rfl rfl rfl (q_loadP (v := .one (.p true (.v (.func (.func 46) #[] #[])))) 6 rfl sz69 rfl rfl rfl rfl) ?_
          refine ol_put rfl rfl rfl (q_loadP (v := .agg [iC .i64 n590, iC .i64 n591, iC .i64 0, bC true, bC false]) 0 rfl sz64 rfl rfl rfl rfl) ?_
          obtain ⟨⟨⟨n596, n597⟩, b598⟩, h595, h⟩ := bindS h
          refine ol_put rfl rfl rfl (q_callF (v := .tup [.agg [iC .i64 n596, iC .u64 n597], .one (bC b598)]) (args := [.agg [iC .i64 n590, iC .i64 n591, iC .i64 0, bC true, bC false]]) (blend_Over_c1_r (m + 1) h595) rfl rfl (vw_cons (vd_agg (vc_cons vc_v (vc_cons vc_v (vc_cons vc_v (vc_cons vc_v (vc_cons vc_v vc_nil)))))) vw_nil) rfl rfl) ?_
          refine ol_put rfl rfl rfl (q_move (v := .tup [.agg [iC .i64 n596, iC .u64 n597], .one (bC b598)]) rfl) ?_
          refine ol_put rfl rfl rfl (q_ext (v := .agg [iC .i64 n596, iC .u64 n597]) rfl rfl) ?_
          refine ol_put rfl rfl rfl (q_ext (v := .one (bC b598)) rfl rfl) ?_
          refine ol_new rfl rfl rfl (q_alloc ty66 (row := [iC .i64 0, iC .u64 0]) rfl rfl) (fun k599 => ?_)
          refine ol_wr rfl rfl (q_store (es' := [[iC .i64 n596, iC .u64 n597]]) 0 rfl rfl rfl sz66 rfl rfl rfl rfl rfl) rfl ?_
          refine ol_put rfl rfl rfl (q_assign (v := .one (bC b598)) rfl) ?_
          refine ol_end ?_
          refine E_seq ?_
          refine L_seq ?_
          refine L_seq ?_
          refine L_ops ?_
          refine ol_put rfl rfl rfl (q_move (v := .one (bC b598)) rfl) ?_
          rcases b598 with _ | _
          · replace h := ifF (by decide) h
            refine ol_put rfl rfl rfl (q_not rfl) ?_
            refine ol_end ?_
            refine E_seq ?_
            refine L_condT rfl ?_
            refine L_exit ?_
            refine E_seqX ?_
            refine E_blkH ?_
            refine E_roundN (p := 3) rfl ?_
            refine ol_put rfl rfl rfl (q_not rfl) ?_
            refine ol_end ?_
            refine E_seq ?_
            refine L_condF rfl ?_
            refine L_skip ?_
            refine E_blkN ?_
            obtain rfl := Option.some.inj h
            exact E_next (fr565, fr566, k567) (ups_self ⟨rfl, rfl, rfl, trivial⟩) [3, 4, 5, 6, 7, 8, 9, 10, 11] (by decide) rfl
          · replace h := ifT (by decide) h
            refine ol_put rfl rfl rfl (q_not rfl) ?_
            refine ol_end ?_
            refine E_seq ?_
            refine L_condF rfl ?_
            refine L_skip ?_
            refine E_seq ?_
            refine L_seq ?_
            refine L_ops ?_
            refine ol_put rfl rfl rfl (q_loadP (v := .agg [iC .i64 n596, iC .u64 n597]) 0 rfl sz66 rfl rfl rfl rfl) ?_
            obtain ⟨⟨n601, b602⟩, h600, h⟩ := bindS h
            refine ol_put rfl rfl rfl (q_callF (v := .tup [.one (iC .i64 n601), .one (bC b602)]) (args := [.agg [iC .i64 n596, iC .u64 n597]]) (wide_Narrow_r (m + 1) h600) rfl rfl (vw_cons (vd_agg (vc_cons vc_v (vc_cons vc_v vc_nil))) vw_nil) rfl rfl) ?_
            refine ol_put rfl rfl rfl (q_move (v := .tup [.one (iC .i64 n601), .one (bC b602)]) rfl) ?_
            refine ol_put rfl rfl rfl (q_ext (v := .one (iC .i64 n601)) rfl rfl) ?_
            refine ol_put rfl rfl rfl (q_ext (v := .one (bC b602)) rfl rfl) ?_
            refine ol_put rfl rfl rfl (q_assign (v := .one (iC .i64 n601)) rfl) ?_
            refine ol_put rfl rfl rfl (q_assign (v := .one (bC b602)) rfl) ?_
            refine ol_end ?_
            refine E_seq ?_
            refine L_seq ?_
            refine L_seq ?_
            refine L_ops ?_
            refine ol_put rfl rfl rfl (q_move (v := .one (bC b602)) rfl) ?_
            rcases b602 with _ | _
            · replace h := ifF (by decide) h
              refine ol_put rfl rfl rfl (q_not rfl) ?_
              refine ol_end ?_
              refine E_seq ?_
              refine L_condT rfl ?_
              refine L_seq ?_
              refine L_ops ?_
              refine ol_put rfl rfl rfl (q_build (cs := [iC .i64 0, .p true (Sl.t r56 (⟨false, 0, []⟩ : Sl (Int × Int)))]) ty25 rfl pl25 rfl) ?_
              refine ol_wr rfl rfl (q_store (es' := [[iC .i64 0, .p true (Sl.t r56 (⟨false, 0, []⟩ : Sl (Int × Int)))]]) 8 rfl rfl rfl sz25 rfl rfl rfl rfl rfl) rfl ?_
              refine ol_wr rfl rfl (q_store (es' := [[iC .i64 12]]) 9 rfl rfl rfl sz28 rfl rfl rfl rfl rfl) rfl ?_
              refine ol_end ?_
              refine E_seq ?_
              refine L_ret ?_
              refine E_seqR ?_
              refine E_blkR ?_
              refine E_roundX (p := 3) (es := [[]]) rfl rfl rfl rfl ?_
              refine ol_put rfl rfl rfl (q_not rfl) ?_
              refine ol_end ?_
              refine E_seq ?_
              refine L_condT rfl ?_
              refine L_ret ?_
              refine E_blkR ?_
              obtain rfl := Option.some.inj h
              refine E_out ?_
              exact (E_je k567 (ups_self trivial) [6, 7, 8, 9, 10, 3, 11] (by decide) rfl)
            · replace h := ifT (by decide) h
              refine ol_put rfl rfl rfl (q_not rfl) ?_
              refine ol_end ?_
              refine E_seq ?_
              refine L_condF rfl ?_
              refine L_skip ?_
              refine E_seq ?_
              refine L_ops ?_
              refine ol_put rfl rfl rfl (q_fieldP rfl fa25_1 rfl) ?_
              refine ol_put rfl rfl rfl (q_loadP (v := .one (moC l564 k567)) 10 rfl sz23 rfl rfl rfl rfl) ?_
              refine ol_put rfl rfl rfl (q_fieldP rfl fa64_0 rfl) ?_
              refine ol_put rfl rfl rfl (q_loadP (v := .one (iC .i64 n590)) 1 rfl sz3 rfl rfl rfl rfl) ?_
              refine ol_put rfl rfl rfl (q_move (v := .one (iC .i64 n601)) rfl) ?_
              refine ol_put rfl rfl rfl (q_build (cs := [iC .i64 n590, iC .i64 n601]) ty57 rfl pl57 rfl) ?_
              refine ol_new rfl rfl rfl (q_bslice (cs := [iC .i64 n590, iC .i64 n601]) (es := (([(n590, n601)] : List (Int × Int))).map (rowC r56)) ty23 rfl ty57 rfl rfl rfl rfl rfl) (fun k603 => ?_)
              obtain ⟨_, h604, h⟩ := bindS h
              obtain ⟨h604b, rfl⟩ := app_some h604
              refine ol_appM (r := r56) (l := l564) (ys := ([(n590, n601)] : List (Int × Int))) 12 rfl rfl rfl rfl rfl rfl (el_ownM (l := ([(n590, n601)] : List (Int × Int))) 0 rfl) rfl h604 (fun y => rfl) el23 ty23 rfl rfl rfl rfl rfl (fun k605 => ?_)
              refine ol_put rfl rfl rfl (q_fieldP rfl fa25_1 rfl) ?_
              refine ol_wr rfl rfl (q_store (es' := [[iC .i64 n23, moC (l564 ++ ([(n590, n601)] : List (Int × Int))) k605]]) 12 rfl rfl rfl sz23 rfl rfl rfl rfl rfl) rfl ?_
              refine ol_end ?_
              refine E_blkN ?_
              refine E_roundN (p := 5) rfl ?_
              refine ol_put rfl rfl rfl (q_not rfl) ?_
              refine ol_end ?_
              refine E_seq ?_
              refine L_condF rfl ?_
              refine L_skip ?_
              refine E_blkN ?_
              obtain rfl := Option.some.inj h
              exact E_next (fr565, fr566, k605) (ups_self ⟨rfl, rfl, rfl, trivial⟩) [5, 6, 7, 8, 9, 10, 11, 12, 0] (by decide) rfl
        · replace h := ifF c581 h
          refine tn_put rfl rfl rfl [0] (by decide) rfl (hm0 rfl) rfl (q_bin rfl rfl (p_eql_f _ _ _ _ _ c581) rfl) ?_
          refine tn_put rfl rfl rfl [] (by decide) rfl (hm0 rfl) rfl (q_move (v := .one (bC false)) rfl) ?_
          refine tn_put rfl rfl rfl [2] (by decide) rfl (hm0 rfl) rfl (q_loadP (v := .one (.p fr565 (Sl.t r56 s562))) 0 rfl sz23 rfl rfl rfl rfl) ?_
          refine tn_put rfl rfl rfl [] (by decide) rfl (hm0 rfl) rfl (q_lenS rfl ty23 rfl rfl rfl rfl) ?_
          refine tn_put rfl rfl rfl [] (by decide) rfl (hm0 rfl) rfl (q_bin rfl rfl (p_gtr_t _ _ _ _ _ c568) rfl) ?_
          refine tn_put rfl rfl rfl [] (by decide) rfl (hm0 rfl) rfl (q_move (v := .one (bC true)) rfl) ?_
          refine tn_put rfl rfl rfl [2] (by decide) rfl (hm0 rfl) rfl (q_loadP (v := .one (.p fr565 (Sl.t r56 s562))) 0 rfl sz23 rfl rfl rfl rfl) ?_
          obtain ⟨⟨n608, n609⟩, h607, h⟩ := bindS h
          obtain ⟨h607a, h607b, h607⟩ := atS_some h607
          refine tn_put rfl rfl rfl [] (by decide) rfl (hm0 rfl) rfl (q_ixS rfl rfl h607a h607 (el23.trans (congrArg some h607b.symm))) ?_
          refine tn_put rfl rfl rfl [] (by decide) rfl (hm0 rfl) rfl (q_fieldI rfl fa57_0 rfl) ?_
          refine tn_put rfl rfl rfl [] (by decide) rfl (hm0 rfl) rfl (q_loadI (v := .one (iC .i64 n608)) rfl sz3 (map_get h607) rfl rfl) ?_
          refine tn_put rfl rfl rfl [3] (by decide) rfl (hm0 rfl) rfl (q_loadP (v := .one (.p fr566 (Sl.t r56 s563))) 0 rfl sz23 rfl rfl rfl rfl) ?_
          obtain ⟨⟨n612, n613⟩, h611, h⟩ := bindS h
          obtain ⟨h611a, h611b, h611⟩ := atS_some h611
          refine tn_put rfl rfl rfl [] (by decide) rfl (hm0 rfl) rfl (q_ixS rfl rfl h611a h611 (el23.trans (congrArg some h611b.symm))) ?_
          refine tn_put rfl rfl rfl [] (by decide) rfl (hm0 rfl) rfl (q_fieldI rfl fa57_0 rfl) ?_
          refine tn_put rfl rfl rfl [] (by decide) rfl (hm0 rfl) rfl (q_loadI (v := .one (iC .i64 n612)) rfl sz3 (map_get h611) rfl rfl) ?_
          by_cases c614 : n608 ≤ n612
          · replace h := ifT c614 h
            refine tn_put rfl rfl rfl [] (by decide) rfl (hm0 rfl) rfl (q_bin rfl rfl (p_leq_t _ _ _ _ _ c614) rfl) ?_
            refine tn_put rfl rfl rfl [] (by decide) rfl (hm0 rfl) rfl (q_pickT (v := .one (bC true)) rfl rfl) ?_
            refine tn_put rfl rfl rfl [] (by decide) rfl (hm0 rfl) rfl (q_pickF (v := .one (bC true)) rfl rfl) ?_
            refine tn_put rfl rfl rfl [] (by decide) rfl (hm0 rfl) rfl (q_fieldP rfl fa64_3 rfl) ?_
            refine tn_wr rfl rfl [0] (by decide) rfl (hm0 rfl) rfl (q_store (es' := [[iC .i64 0, iC .i64 0, iC .i64 0, bC true, bC false]]) 0 rfl rfl rfl sz4 rfl rfl rfl rfl rfl) (q := 0) rfl rfl ?_
            refine tn_end ?_
            refine E_seq ?_
            refine L_seq ?_
            refine L_norm (L2 := ([[(k569, 5, [[iC .i64 0, iC .i64 0, iC .i64 0, bC true, bC false]])], [(k34, 0, [])], [(k32, 1, [[.p fr565 (Sl.t r56 s562)]])], [(k33, 1, [[.p fr566 (Sl.t r56 s563)]])], [(k7, 2, [[iC .i64 0, .p true (Sl.t r56 (⟨false, 0, []⟩ : Sl (Int × Int)))]])], [(k10, 1, [[.p true (.v (.func (.func 46) #[] #[]))]])], [(k11, 2, [[iC .i64 0, .p true (Sl.t r56 (⟨false, 0, []⟩ : Sl (Int × Int)))]])], [(k12, 1, [[iC .i64 0]])], [(k31, 2, [[iC .i64 n23, moC l564 k567]])], moL r56 2 l564 k567] : BL)) [0, 1, 2, 3, 4, 5, 6, 7, 8, 9] (by decide) rfl ?_
            refine L_turn 21 rfl [[], [], [], [], [], [], [], [], [], [], [], [], [], [], [], [], [], [], [], [], [k569]] [(false, []), (false, []), (false, []), (false, []), (false, []), (false, []), (false, []), (false, []), (false, []), (false, []), (false, []), (false, []), (false, []), (false, []), (false, []), (false, []), (false, []), (false, []), (false, []), (false, []), (false, [])] [[], [], [], [], [], [], [], [], [12, 13, 14, 15], [12, 13, 14, 15], [12, 13, 14, 15], [12, 13, 14, 15], [8, 9, 10, 11], [8, 9, 10, 11], [8, 9, 10, 11], [8, 9, 10, 11], [], [], [], [], []] (by kernel_rfl) (by kernel_rfl) (by kernel_rfl) ?_ (fun bb615 hlt hnd => ?_)
            · intro bb615 hlt hnd
              exact ⟨⟨djE, ⟨djE, ⟨djE, ⟨djE, ⟨djE, ⟨djE, ⟨djE, ⟨djE, ⟨djE, ⟨djE, ⟨djE, ⟨djE, ⟨djE, ⟨djE, ⟨djE, ⟨djE, ⟨djE, ⟨djE, ⟨djE, ⟨djE, ⟨djN, trivial⟩⟩⟩⟩⟩⟩⟩⟩⟩⟩⟩⟩⟩⟩⟩⟩⟩⟩⟩⟩⟩, (ltO_cons ltK_nil (ltO_cons ltK_nil (ltO_cons ltK_nil (ltO_cons ltK_nil (ltO_cons ltK_nil (ltO_cons ltK_nil (ltO_cons ltK_nil (ltO_cons ltK_nil (ltO_cons ltK_nil (ltO_cons ltK_nil (ltO_cons ltK_nil (ltO_cons ltK_nil (ltO_cons ltK_nil (ltO_cons ltK_nil (ltO_cons ltK_nil (ltO_cons ltK_nil (ltO_cons ltK_nil (ltO_cons ltK_nil (ltO_cons ltK_nil (ltO_cons ltK_nil (ltO_cons (ltK_cons (key_lt hlt 0 rfl) ltK_nil) ltO_nil)))))))))))))))))))))⟩
            have e_k567 : l564 = [] ∨ k567 < bb615 := key_ltM (r := r56) (w := 2) hlt 9 rfl
            refine tn_put rfl rfl rfl [2] (by decide) rfl (hm0 rfl) rfl (q_loadP (v := .one (.p fr565 (Sl.t r56 s562))) 0 rfl sz23 rfl rfl rfl rfl) ?_
            refine tn_put rfl rfl rfl [] (by decide) rfl (hm0 rfl) rfl (q_lenS rfl ty23 rfl rfl rfl rfl) ?_
            refine tn_put rfl rfl rfl [] (by decide) rfl (hm0 rfl) rfl (q_bin rfl rfl (p_eql_f _ _ _ _ _ (gt0_ne c568)) rfl) ?_
            refine tn_put rfl rfl rfl [] (by decide) rfl (hm0 rfl) rfl (q_move (v := .one (bC false)) rfl) ?_
            refine tn_put rfl rfl rfl [3] (by decide) rfl (hm0 rfl) rfl (q_loadP (v := .one (.p fr566 (Sl.t r56 s563))) 0 rfl sz23 rfl rfl rfl rfl) ?_
            refine tn_put rfl rfl rfl [] (by decide) rfl (hm0 rfl) rfl (q_lenS rfl ty23 rfl rfl rfl rfl) ?_
            refine tn_put rfl rfl rfl [] (by decide) rfl (hm0 rfl) rfl (q_bin rfl rfl (p_gtr_t _ _ _ _ _ (len1 c581)) rfl) ?_
            refine tn_put rfl rfl rfl [] (by decide) rfl (hm0 rfl) rfl (q_move (v := .one (bC true)) rfl) ?_
            refine tn_put rfl rfl rfl [3] (by decide) rfl (hm0 rfl) rfl (q_loadP (v := .one (.p fr566 (Sl.t r56 s563))) 0 rfl sz23 rfl rfl rfl rfl) ?_
            refine tn_put rfl rfl rfl [] (by decide) rfl (hm0 rfl) rfl (q_ixS rfl rfl h611a h611 (el23.trans (congrArg some h611b.symm))) ?_
            refine tn_put rfl rfl rfl [] (by decide) rfl (hm0 rfl) rfl (q_fieldI rfl fa57_0 rfl) ?_
            refine tn_put rfl rfl rfl [] (by decide) rfl (hm0 rfl) rfl (q_loadI (v := .one (iC .i64 n612)) rfl sz3 (map_get h611) rfl rfl) ?_
            refine tn_put rfl rfl rfl [2] (by decide) rfl (hm0 rfl) rfl (q_loadP (v := .one (.p fr565 (Sl.t r56 s562))) 0 rfl sz23 rfl rfl rfl rfl) ?_
            refine tn_put rfl rfl rfl [] (by decide) rfl (hm0 rfl) rfl (q_ixS rfl rfl h607a h607 (el23.trans (congrArg some h607b.symm))) ?_
            refine tn_put rfl rfl rfl [] (by decide) rfl (hm0 rfl) rfl (q_fieldI rfl fa57_0 rfl) ?_
            refine tn_put rfl rfl rfl [] (by decide) rfl (hm0 rfl) rfl (q_loadI (v := .one (iC .i64 n608)) rfl sz3 (map_get h607) rfl rfl) ?_
            by_cases c617 : n612 ≤ n608
            · replace h := ifT c617 h
              refine tn_put rfl rfl rfl [] (by decide) rfl (hm0 rfl) rfl (q_bin rfl rfl (p_leq_t _ _ _ _ _ c617) rfl) ?_
              refine tn_put rfl rfl rfl [] (by decide) rfl (hm0 rfl) rfl (q_pickT (v := .one (bC true)) rfl rfl) ?_
              refine tn_put rfl rfl rfl [] (by decide) rfl (hm0 rfl) rfl (q_pickF (v := .one (bC true)) rfl rfl) ?_
              refine tn_put rfl rfl rfl [] (by decide) rfl (hm0 rfl) rfl (q_fieldP rfl fa64_4 rfl) ?_
              refine tn_wr rfl rfl [0] (by decide) rfl (hm0 rfl) rfl (q_store (es' := [[iC .i64 0, iC .i64 0, iC .i64 0, bC true, bC true]]) 0 rfl rfl rfl sz4 rfl rfl rfl rfl rfl) (q := 0) rfl rfl ?_
              refine tn_end ?_
              refine E_seq ?_
              refine L_seq ?_
              refine L_seq ?_
              refine L_ops ?_
              refine ol_put rfl rfl rfl (q_fieldP rfl fa64_3 rfl) ?_
              refine ol_put rfl rfl rfl (q_loadP (v := .one (bC true)) 0 rfl sz4 rfl rfl rfl rfl) ?_
              refine ol_end ?_
              refine E_seq ?_
              refine L_condT rfl ?_
              refine L_seq ?_
              refine L_norm (L2 := ([[(k569, 5, [[iC .i64 0, iC .i64 0, iC .i64 0, bC true, bC true]])], [(k34, 0, [])], [(k32, 1, [[.p fr565 (Sl.t r56 s562)]])], [(k33, 1, [[.p fr566 (Sl.t r56 s563)]])], [(k7, 2, [[iC .i64 0, .p true (Sl.t r56 (⟨false, 0, []⟩ : Sl (Int × Int)))]])], [(k10, 1, [[.p true (.v (.func (.func 46) #[] #[]))]])], [(k11, 2, [[iC .i64 0, .p true (Sl.t r56 (⟨false, 0, []⟩ : Sl (Int × Int)))]])], [(k12, 1, [[iC .i64 0]])], [(k31, 2, [[iC .i64 n23, moC l564 k567]])], moL r56 2 l564 k567] : BL)) [0, 1, 2, 3, 4, 5, 6, 7, 8, 9] (by decide) rfl ?_
              refine L_turn 12 rfl [[], [], [], [], [], [], [], [], [], [k569], [], [k569]] [(false, []), (false, []), (false, []), (false, []), (false, []), (false, []), (false, []), (false, []), (false, []), (false, []), (false, []), (false, [])] [[4, 5, 6, 7], [4, 5, 6, 7], [4, 5, 6, 7], [4, 5, 6, 7], [0, 1, 2, 3, 8, 9], [0, 1, 2, 3, 8, 9], [0, 1, 2, 3, 8, 9], [0, 1, 2, 3, 8, 9], [4, 5, 6, 7], [4, 5, 6, 7], [], []] (by kernel_rfl) (by kernel_rfl) (by kernel_rfl) ?_ (fun bb618 hlt hnd => ?_)
              · intro bb618 hlt hnd
                exact ⟨⟨djE, ⟨djE, ⟨djE, ⟨djE, ⟨djE, ⟨djE, ⟨djE, ⟨djE, ⟨djE, ⟨(djC nin_nil (djC nin_nil (djC nin_nil (djC nin_nil djN)))), ⟨djE, ⟨djN, trivial⟩⟩⟩⟩⟩⟩⟩⟩⟩⟩⟩⟩, (ltO_cons ltK_nil (ltO_cons ltK_nil (ltO_cons ltK_nil (ltO_cons ltK_nil (ltO_cons ltK_nil (ltO_cons ltK_nil (ltO_cons ltK_nil (ltO_cons ltK_nil (ltO_cons ltK_nil (ltO_cons (ltK_cons (key_lt hlt 0 rfl) ltK_nil) (ltO_cons ltK_nil (ltO_cons (ltK_cons (key_lt hlt 0 rfl) ltK_nil) ltO_nil))))))))))))⟩
              have e_k567 : l564 = [] ∨ k567 < bb618 := key_ltM (r := r56) (w := 2) hlt 9 rfl
              refine tn_put rfl rfl rfl [2] (by decide) rfl (hm0 rfl) rfl (q_loadP (v := .one (.p fr565 (Sl.t r56 s562))) 0 rfl sz23 rfl rfl rfl rfl) ?_
              refine tn_put rfl rfl rfl [] (by decide) rfl (hm0 rfl) rfl (q_ixS rfl rfl h607a h607 (el23.trans (congrArg some h607b.symm))) ?_
              refine tn_put rfl rfl rfl [] (by decide) rfl (hm0 rfl) rfl (q_fieldI rfl fa57_0 rfl) ?_
              refine tn_put rfl rfl rfl [] (by decide) rfl (hm0 rfl) rfl (q_loadI (v := .one (iC .i64 n608)) rfl sz3 (map_get h607) rfl rfl) ?_
              refine tn_put rfl rfl rfl [2] (by decide) rfl (hmc (nin_cons (key_ne hnd 2 0 rfl rfl rfl) nin_nil) hmn) rfl (q_loadP (v := .one (.p fr565 (Sl.t r56 s562))) 0 rfl sz23 rfl rfl rfl rfl) ?_
              refine tn_put rfl rfl rfl [] (by decide) rfl hmn rfl (q_ixS rfl rfl h607a h607 (el23.trans (congrArg some h607b.symm))) ?_
              refine tn_put rfl rfl rfl [] (by decide) rfl hmn rfl (q_fieldI rfl fa57_1 rfl) ?_
              refine tn_put rfl rfl rfl [] (by decide) rfl hmn rfl (q_loadI (v := .one (iC .i64 n609)) rfl sz2 (map_get h607) rfl rfl) ?_
              refine tn_put rfl rfl rfl [] (by decide) rfl (hm0 rfl) rfl (q_fieldP rfl fa64_0 rfl) ?_
              refine tn_wr rfl rfl [0] (by decide) rfl (hm0 rfl) rfl (q_store (es' := [[iC .i64 n608, iC .i64 0, iC .i64 0, bC true, bC true]]) 0 rfl rfl rfl sz3 rfl rfl rfl rfl rfl) (q := 0) rfl rfl ?_
              refine tn_put rfl rfl rfl [] (by decide) rfl (hm0 rfl) rfl (q_fieldP rfl fa64_1 rfl) ?_
              refine tn_wr rfl rfl [0] (by decide) rfl (hm0 rfl) rfl (q_store (es' := [[iC .i64 n608, iC .i64 n609, iC .i64 0, bC true, bC true]]) 0 rfl rfl rfl sz2 rfl rfl rfl rfl rfl) (q := 0) rfl rfl ?_
              refine tn_end ?_
              refine E_seq ?_
              refine L_ops ?_
              refine ol_put rfl rfl rfl (q_loadP (v := .one (.p fr565 (Sl.t r56 s562))) 2 rfl sz23 rfl rfl rfl rfl) ?_
              obtain ⟨s619, h620, h⟩ := bindS h
              refine ol_put rfl rfl rfl (q_sliceS (r := r56) h620 rfl ty23 rfl ty57 (no_some rfl (cutS_some h620).1.1 _) (no_none _)) ?_
              refine ol_wr rfl rfl (q_store (es' := [[.p fr565 (Sl.t r56 s619)]]) 2 rfl rfl rfl sz23 rfl rfl rfl rfl rfl) rfl ?_
              refine ol_end ?_
              refine E_seq ?_
              refine L_seq ?_
              refine L_seq ?_
              refine L_ops ?_
              refine ol_put rfl rfl rfl (q_fieldP rfl fa64_4 rfl) ?_
              refine ol_put rfl rfl rfl (q_loadP (v := .one (bC true)) 0 rfl sz4 rfl rfl rfl rfl) ?_
              refine ol_end ?_
              refine E_seq ?_
              refine L_condT rfl ?_
              refine L_seq ?_
              refine L_norm (L2 := ([[(k569, 5, [[iC .i64 n608, iC .i64 n609, iC .i64 0, bC true, bC true]])], [(k34, 0, [])], [(k32, 1, [[.p fr565 (Sl.t r56 s619)]])], [(k33, 1, [[.p fr566 (Sl.t r56 s563)]])], [(k7, 2, [[iC .i64 0, .p true (Sl.t r56 (⟨false, 0, []⟩ : Sl (Int × Int)))]])], [(k10, 1, [[.p true (.v (.func (.func 46) #[] #[]))]])], [(k11, 2, [[iC .i64 0, .p true (Sl.t r56 (⟨false, 0, []⟩ : Sl (Int × Int)))]])], [(k12, 1, [[iC .i64 0]])], [(k31, 2, [[iC .i64 n23, moC l564 k567]])], moL r56 2 l564 k567] : BL)) [0, 1, 2, 3, 4, 5, 6, 7, 8, 9] (by decide) rfl ?_
              refine L_turn 12 rfl [[], [], [], [], [], [], [], [], [], [k569], [], [k569]] [(false, []), (false, []), (false, []), (false, []), (false, []), (false, []), (false, []), (false, []), (false, []), (false, []), (false, []), (false, [])] [[4, 5, 6, 7], [4, 5, 6, 7], [4, 5, 6, 7], [4, 5, 6, 7], [0, 1, 2, 3, 8, 9], [0, 1, 2, 3, 8, 9], [0, 1, 2, 3, 8, 9], [0, 1, 2, 3, 8, 9], [4, 5, 6, 7], [4, 5, 6, 7], [], []] (by kernel_rfl) (by kernel_rfl) (by kernel_rfl) ?_ (fun bb621 hlt hnd => ?_)
              · intro bb621 hlt hnd
                exact ⟨⟨djE, ⟨djE, ⟨djE, ⟨djE, ⟨djE, ⟨djE, ⟨djE, ⟨djE, ⟨djE, ⟨(djC nin_nil (djC nin_nil (djC nin_nil (djC nin_nil djN)))), ⟨djE, ⟨djN, trivial⟩⟩⟩⟩⟩⟩⟩⟩⟩⟩⟩⟩, (ltO_cons ltK_nil (ltO_cons ltK_nil (ltO_cons ltK_nil (ltO_cons ltK_nil (ltO_cons ltK_nil (ltO_cons ltK_nil (ltO_cons ltK_nil (ltO_cons ltK_nil (ltO_cons ltK_nil (ltO_cons (ltK_cons (key_lt hlt 0 rfl) ltK_nil) (ltO_cons ltK_nil (ltO_cons (ltK_cons (key_lt hlt 0 rfl) ltK_nil) ltO_nil))))))))))))⟩
              have e_k567 : l564 = [] ∨ k567 < bb621 := key_ltM (r := r56) (w := 2) hlt 9 rfl
              refine tn_put rfl rfl rfl [3] (by decide) rfl (hm0 rfl) rfl (q_loadP (v := .one (.p fr566 (Sl.t r56 s563))) 0 rfl sz23 rfl rfl rfl rfl) ?_
              refine tn_put rfl rfl rfl [] (by decide) rfl (hm0 rfl) rfl (q_ixS rfl rfl h611a h611 (el23.trans (congrArg some h611b.symm))) ?_
              refine tn_put rfl rfl rfl [] (by decide) rfl (hm0 rfl) rfl (q_fieldI rfl fa57_0 rfl) ?_
              refine tn_put rfl rfl rfl [] (by decide) rfl (hm0 rfl) rfl (q_loadI (v := .one (iC .i64 n612)) rfl sz3 (map_get h611) rfl rfl) ?_
              refine tn_put rfl rfl rfl [3] (by decide) rfl (hmc (nin_cons (key_ne hnd 3 0 rfl rfl rfl) nin_nil) hmn) rfl (q_loadP (v := .one (.p fr566 (Sl.t r56 s563))) 0 rfl sz23 rfl rfl rfl rfl) ?_
              refine tn_put rfl rfl rfl [] (by decide) rfl hmn rfl (q_ixS rfl rfl h611a h611 (el23.trans (congrArg some h611b.symm))) ?_
              refine tn_put rfl rfl rfl [] (by decide) rfl hmn rfl (q_fieldI rfl fa57_1 rfl) ?_
              refine tn_put rfl rfl rfl [] (by decide) rfl hmn rfl (q_loadI (v := .one (iC .i64 n613)) rfl sz2 (map_get h611) rfl rfl) ?_
              refine tn_put rfl rfl rfl [] (by decide) rfl (hm0 rfl) rfl (q_fieldP rfl fa64_0 rfl) ?_
              refine tn_wr rfl rfl [0] (by decide) rfl (hm0 rfl) rfl (q_store (es' := [[iC .i64 n612, iC .i64 n609, iC .i64 0, bC true, bC true]]) 0 rfl rfl rfl sz3 rfl rfl rfl rfl rfl) (q := 0) rfl rfl ?_
              refine tn_put rfl rfl rfl [] (by decide) rfl (hm0 rfl) rfl (q_fieldP rfl fa64_2 rfl) ?_
              refine tn_wr rfl rfl [0] (by decide) rfl (hm0 rfl) rfl (q_store (es' := [[iC .i64 n612, iC .i64 n609, iC .i64 n613, bC true, bC true]]) 0 rfl rfl rfl sz2 rfl rfl rfl rfl rfl) (q := 0) rfl rfl ?_
              refine tn_end ?_
              refine E_seq ?_
              refine L_ops ?_
              refine ol_put rfl rfl rfl (q_loadP (v := .one (.p fr566 (Sl.t r56 s563))) 3 rfl sz23 rfl rfl rfl rfl) ?_
              obtain ⟨s622, h623, h⟩ := bindS h
              refine ol_put rfl rfl rfl (q_sliceS (r := r56) h623 rfl ty23 rfl ty57 (no_some rfl (cutS_some h623).1.1 _) (no_none _)) ?_
              refine ol_wr rfl rfl (q_store (es' := [[.p fr566 (Sl.t r56 s622)]]) 3 rfl rfl rfl sz23 rfl rfl rfl rfl rfl) rfl ?_
              refine ol_end ?_
              refine E_seq ?_
              refine L_seq ?_
              refine L_ops ?_
              refine ol_put rfl rfl rfl (q_move (v := .one (.yld k34)) rfl) ?_
              refine ol_put rfl rfl rfl (q_loadP (v := .agg [iC .i64 n612, iC .i64 n609, iC .i64 n613, bC true, bC true]) 0 rfl sz64 rfl rfl rfl rfl) ?_
              refine ol_yield (args := [.agg [iC .i64 n612, iC .i64 n609, iC .i64 n613, bC true, bC true]]) (p := 1) rfl rfl rfl rfl rfl rfl rfl rfl rfl ?_
              refine L_ops ?_
              refine ol_new rfl rfl rfl (q_alloc ty64 (row := [iC .i64 0, iC .i64 0, iC .i64 0, bC false, bC false]) rfl rfl) (fun k624 => ?_)
              refine ol_wr rfl rfl (q_store (es' := [[iC .i64 n612, iC .i64 n609, iC .i64 n613, bC true, bC true]]) 0 rfl rfl rfl sz64 rfl rfl rfl rfl rfl) rfl ?_
              refine ol_end ?_
              refine E_asg ?_
              refine L_block ?_
              refine L_seq ?_
              refine L_ops ?_
              refine ol_put rfl rfl rfl (q_loadP (v := .one (.p true (.v (.func (.func 46) #[] #[])))) 6 rfl sz69 rfl rfl rfl rfl) ?_
              refine ol_put rfl rfl rfl (q_loadP (v := .agg [iC .i64 n612, iC .i64 n609, iC .i64 n613, bC true, bC true]) 0 rfl sz64 rfl rfl rfl rfl) ?_
              obtain ⟨⟨⟨n626, n627⟩, b628⟩, h625, h⟩ := bindS h
              refine ol_put rfl rfl rfl (q_callF (v := .tup [.agg [iC .i64 n626, iC .u64 n627], .one (bC b628)]) (args := [.agg [iC .i64 n612, iC .i64 n609, iC .i64 n613, bC true, bC true]]) (blend_Over_c1_r (m + 1) h625) rfl rfl (vw_cons (vd_agg (vc_cons vc_v (vc_cons vc_v (vc_cons vc_v (vc_cons vc_v (vc_cons vc_v vc_nil)))))) vw_nil) rfl rfl) ?_
              refine ol_put rfl rfl rfl (q_move (v := .tup [.agg [iC .i64 n626, iC .u64 n627], .one (bC b628)]) rfl) ?_
              refine ol_put rfl rfl rfl (q_ext (v := .agg [iC .i64 n626, iC .u64 n627]) rfl rfl) ?_
              refine ol_put rfl rfl rfl (q_ext (v := .one (bC b628)) rfl rfl) ?_
              refine ol_new rfl rfl rfl (q_alloc ty66 (row := [iC .i64 0, iC .u64 0]) rfl rfl) (fun k629 => ?_)
              refine ol_wr rfl rfl (q_store (es' := [[iC .i64 n626, iC .u64 n627]]) 0 rfl rfl rfl sz66 rfl rfl rfl rfl rfl) rfl ?_
              refine ol_put rfl rfl rfl (q_assign (v := .one (bC b628)) rfl) ?_
              refine ol_end ?_
              refine E_seq ?_
              refine L_seq ?_
              refine L_seq ?_
              refine L_ops ?_
              refine ol_put rfl rfl rfl (q_move (v := .one (bC b628)) rfl) ?_
              rcases b628 with _ | _
              · replace h := ifF (by decide) h
                refine ol_put rfl rfl rfl (q_not rfl) ?_
                refine ol_end ?_
                refine E_seq ?_
                refine L_condT rfl ?_
                refine L_exit ?_
                refine E_seqX ?_
                refine E_blkH ?_
                refine E_roundN (p := 3) rfl ?_
                refine ol_put rfl rfl rfl (q_not rfl) ?_
                refine ol_end ?_
                refine E_seq ?_
                refine L_condF rfl ?_
                refine L_skip ?_
                refine E_blkN ?_
                obtain rfl := Option.some.inj h
                exact E_next (fr565, fr566, k567) (ups_self ⟨rfl, rfl, rfl, trivial⟩) [3, 4, 5, 6, 7, 8, 9, 10, 11] (by decide) rfl
              · replace h := ifT (by decide) h
                refine ol_put rfl rfl rfl (q_not rfl) ?_
                refine ol_end ?_
                refine E_seq ?_
                refine L_condF rfl ?_
                refine L_skip ?_
                refine E_seq ?_
                refine L_seq ?_
                refine L_ops ?_
                refine ol_put rfl rfl rfl (q_loadP (v := .agg [iC .i64 n626, iC .u64 n627]) 0 rfl sz66 rfl rfl rfl rfl) ?_
                obtain ⟨⟨n631, b632⟩, h630, h⟩ := bindS h
                refine ol_put rfl rfl rfl (q_callF (v := .tup [.one (iC .i64 n631), .one (bC b632)]) (args := [.agg [iC .i64 n626, iC .u64 n627]]) (wide_Narrow_r (m + 1) h630) rfl rfl (vw_cons (vd_agg (vc_cons vc_v (vc_cons vc_v vc_nil))) vw_nil) rfl rfl) ?_
                refine ol_put rfl rfl rfl (q_move (v := .tup [.one (iC .i64 n631), .one (bC b632)]) rfl) ?_
                refine ol_put rfl rfl rfl (q_ext (v := .one (iC .i64 n631)) rfl rfl) ?_
                refine ol_put rfl rfl rfl (q_ext (v := .one (bC b632)) rfl rfl) ?_
                refine ol_put rfl rfl rfl (q_assign (v := .one (iC .i64 n631)) rfl) ?_
                refine ol_put rfl rfl rfl (q_assign (v := .one (bC b632)) rfl) ?_
                refine ol_end ?_
                refine E_seq ?_
                refine L_seq ?_
                refine L_seq ?_
                refine L_ops ?_
                refine ol_put rfl rfl rfl (q_move (v := .one (bC b632)) rfl) ?_
                rcases b632 with _ | _
                · replace h := ifF (by decide) h
                  refine ol_put rfl rfl rfl (q_not rfl) ?_
                  refine ol_end ?_
                  refine E_seq ?_
                  refine L_condT rfl ?_
                  refine L_seq ?_
                  refine L_ops ?_
                  refine ol_put rfl rfl rfl (q_build (cs := [iC .i64 0, .p true (Sl.t r56 (⟨false, 0, []⟩ : Sl (Int × Int)))]) ty25 rfl pl25 rfl) ?_
                  refine ol_wr rfl rfl (q_store (es' := [[iC .i64 0, .p true (Sl.t r56 (⟨false, 0, []⟩ : Sl (Int × Int)))]]) 8 rfl rfl rfl sz25 rfl rfl rfl rfl rfl) rfl ?_
                  refine ol_wr rfl rfl (q_store (es' := [[iC .i64 12]]) 9 rfl rfl rfl sz28 rfl rfl rfl rfl rfl) rfl ?_
                  refine ol_end ?_
                  refine E_seq ?_
                  refine L_ret ?_
                  refine E_seqR ?_
                  refine E_blkR ?_
                  refine E_roundX (p := 3) (es := [[]]) rfl rfl rfl rfl ?_
                  refine ol_put rfl rfl rfl (q_not rfl) ?_
                  refine ol_end ?_
                  refine E_seq ?_
                  refine L_condT rfl ?_
                  refine L_ret ?_
                  refine E_blkR ?_
                  obtain rfl := Option.some.inj h
                  refine E_out ?_
                  exact (E_je k567 (ups_self trivial) [6, 7, 8, 9, 10, 3, 11] (by decide) rfl)
                · replace h := ifT (by decide) h
                  refine ol_put rfl rfl rfl (q_not rfl) ?_
                  refine ol_end ?_
                  refine E_seq ?_
                  refine L_condF rfl ?_
                  refine L_skip ?_
                  refine E_seq ?_
                  refine L_ops ?_
                  refine ol_put rfl rfl rfl (q_fieldP rfl fa25_1 rfl) ?_
                  refine ol_put rfl rfl rfl (q_loadP (v := .one (moC l564 k567)) 10 rfl sz23 rfl rfl rfl rfl) ?_
                  refine ol_put rfl rfl rfl (q_fieldP rfl fa64_0 rfl) ?_
                  refine ol_put rfl rfl rfl (q_loadP (v := .one (iC .i64 n612)) 1 rfl sz3 rfl rfl rfl rfl) ?_
                  refine ol_put rfl rfl rfl (q_move (v := .one (iC .i64 n631)) rfl) ?_
                  refine ol_put rfl rfl rfl (q_build (cs := [iC .i64 n612, iC .i64 n631]) ty57 rfl pl57 rfl) ?_
                  refine ol_new rfl rfl rfl (q_bslice (cs := [iC .i64 n612, iC .i64 n631]) (es := (([(n612, n631)] : List (Int × Int))).map (rowC r56)) ty23 rfl ty57 rfl rfl rfl rfl rfl) (fun k633 => ?_)
                  obtain ⟨_, h634, h⟩ := bindS h
                  obtain ⟨h634b, rfl⟩ := app_some h634
                  refine ol_appM (r := r56) (l := l564) (ys := ([(n612, n631)] : List (Int × Int))) 12 rfl rfl rfl rfl rfl rfl (el_ownM (l := ([(n612, n631)] : List (Int × Int))) 0 rfl) rfl h634 (fun y => rfl) el23 ty23 rfl rfl rfl rfl rfl (fun k635 => ?_)
                  refine ol_put rfl rfl rfl (q_fieldP rfl fa25_1 rfl) ?_
                  refine ol_wr rfl rfl (q_store (es' := [[iC .i64 n23, moC (l564 ++ ([(n612, n631)] : List (Int × Int))) k635]]) 12 rfl rfl rfl sz23 rfl rfl rfl rfl rfl) rfl ?_
                  refine ol_end ?_
                  refine E_blkN ?_
                  refine E_roundN (p := 5) rfl ?_
                  refine ol_put rfl rfl rfl (q_not rfl) ?_
                  refine ol_end ?_
                  refine E_seq ?_
                  refine L_condF rfl ?_
                  refine L_skip ?_
                  refine E_blkN ?_
                  obtain rfl := Option.some.inj h
                  exact E_next (fr565, fr566, k635) (ups_self ⟨rfl, rfl, rfl, trivial⟩) [5, 6, 7, 8, 9, 10, 11, 12, 0] (by decide) rfl
            · replace h := ifF c617 h
              refine tn_put rfl rfl rfl [0] (by decide) rfl (hm0 rfl) rfl (q_bin rfl rfl (p_leq_f _ _ _ _ _ c617) rfl) ?_
              refine tn_put rfl rfl rfl [] (by decide) rfl (hm0 rfl) rfl (q_pickT (v := .one (bC false)) rfl rfl) ?_
              refine tn_put rfl rfl rfl [] (by decide) rfl (hm0 rfl) rfl (q_pickF (v := .one (bC false)) rfl rfl) ?_
              refine tn_put rfl rfl rfl [] (by decide) rfl (hm0 rfl) rfl (q_fieldP rfl fa64_4 rfl) ?_
              refine tn_wr rfl rfl [0] (by decide) rfl (hm0 rfl) rfl (q_store (es' := [[iC .i64 0, iC .i64 0, iC .i64 0, bC true, bC false]]) 0 rfl rfl rfl sz4 rfl rfl rfl rfl rfl) (q := 0) rfl rfl ?_
              refine tn_end ?_
              refine E_seq ?_
              refine L_seq ?_
              refine L_seq ?_
              refine L_ops ?_
              refine ol_put rfl rfl rfl (q_fieldP rfl fa64_3 rfl) ?_
              refine ol_put rfl rfl rfl (q_loadP (v := .one (bC true)) 0 rfl sz4 rfl rfl rfl rfl) ?_
              refine ol_end ?_
              refine E_seq ?_
              refine L_condT rfl ?_
              refine L_seq ?_
              refine L_norm (L2 := ([[(k569, 5, [[iC .i64 0, iC .i64 0, iC .i64 0, bC true, bC false]])], [(k34, 0, [])], [(k32, 1, [[.p fr565 (Sl.t r56 s562)]])], [(k33, 1, [[.p fr566 (Sl.t r56 s563)]])], [(k7, 2, [[iC .i64 0, .p true (Sl.t r56 (⟨false, 0, []⟩ : Sl (Int × Int)))]])], [(k10, 1, [[.p true (.v (.func (.func 46) #[] #[]))]])], [(k11, 2, [[iC .i64 0, .p true (Sl.t r56 (⟨false, 0, []⟩ : Sl (Int × Int)))]])], [(k12, 1, [[iC .i64 0]])], [(k31, 2, [[iC .i64 n23, moC l564 k567]])], moL r56 2 l564 k567] : BL)) [0, 1, 2, 3, 4, 5, 6, 7, 8, 9] (by decide) rfl ?_
              refine L_turn 12 rfl [[], [], [], [], [], [], [], [], [], [k569], [], [k569]] [(false, []), (false, []), (false, []), (false, []), (false, []), (false, []), (false, []), (false, []), (false, []), (false, []), (false, []), (false, [])] [[4, 5, 6, 7], [4, 5, 6, 7], [4, 5, 6, 7], [4, 5, 6, 7], [0, 1, 2, 3, 8, 9], [0, 1, 2, 3, 8, 9], [0, 1, 2, 3, 8, 9], [0, 1, 2, 3, 8, 9], [4, 5, 6, 7], [4, 5, 6, 7], [], []] (by kernel_rfl) (by kernel_rfl) (by kernel_rfl) ?_ (fun bb636 hlt hnd => ?_)
              · intro bb636 hlt hnd
                exact ⟨⟨djE, ⟨djE, ⟨djE, ⟨djE, ⟨djE, ⟨djE, ⟨djE, ⟨djE, ⟨djE, ⟨(djC nin_nil (djC nin_nil (djC nin_nil (djC nin_nil djN)))), ⟨djE, ⟨djN, trivial⟩⟩⟩⟩⟩⟩⟩⟩⟩⟩⟩⟩, (ltO_cons ltK_nil (ltO_cons ltK_nil (ltO_cons ltK_nil (ltO_cons ltK_nil (ltO_cons ltK_nil (ltO_cons ltK_nil (ltO_cons ltK_nil (ltO_cons ltK_nil (ltO_cons ltK_nil (ltO_cons (ltK_cons (key_lt hlt 0 rfl) ltK_nil) (ltO_cons ltK_nil (ltO_cons (ltK_cons (key_lt hlt 0 rfl) ltK_nil) ltO_nil))))))))))))⟩
              have e_k567 : l564 = [] ∨ k567 < bb636 := key_ltM (r := r56) (w := 2) hlt 9 rfl
              refine tn_put rfl rfl rfl [2] (by decide) rfl (hm0 rfl) rfl (q_loadP (v := .one (.p fr565 (Sl.t r56 s562))) 0 rfl sz23 rfl rfl rfl rfl) ?_
              refine tn_put rfl rfl rfl [] (by decide) rfl (hm0 rfl) rfl (q_ixS rfl rfl h607a h607 (el23.trans (congrArg some h607b.symm))) ?_
              refine tn_put rfl rfl rfl [] (by decide) rfl (hm0 rfl) rfl (q_fieldI rfl fa57_0 rfl) ?_
              refine tn_put rfl rfl rfl [] (by decide) rfl (hm0 rfl) rfl (q_loadI (v := .one (iC .i64 n608)) rfl sz3 (map_get h607) rfl rfl) ?_
              refine tn_put rfl rfl rfl [2] (by decide) rfl (hmc (nin_cons (key_ne hnd 2 0 rfl rfl rfl) nin_nil) hmn) rfl (q_loadP (v := .one (.p fr565 (Sl.t r56 s562))) 0 rfl sz23 rfl rfl rfl rfl) ?_
              refine tn_put rfl rfl rfl [] (by decide) rfl hmn rfl (q_ixS rfl rfl h607a h607 (el23.trans (congrArg some h607b.symm))) ?_
              refine tn_put rfl rfl rfl [] (by decide) rfl hmn rfl (q_fieldI rfl fa57_1 rfl) ?_
              refine tn_put rfl rfl rfl [] (by decide) rfl hmn rfl (q_loadI (v := .one (iC .i64 n609)) rfl sz2 (map_get h607) rfl rfl) ?_
              refine tn_put rfl rfl rfl [] (by decide) rfl (hm0 rfl) rfl (q_fieldP rfl fa64_0 rfl) ?_
              refine tn_wr rfl rfl [0] (by decide) rfl (hm0 rfl) rfl (q_store (es' := [[iC .i64 n608, iC .i64 0, iC .i64 0, bC true, bC false]]) 0 rfl rfl rfl sz3 rfl rfl rfl rfl rfl) (q := 0) rfl rfl ?_
              refine tn_put rfl rfl rfl [] (by decide) rfl (hm0 rfl) rfl (q_fieldP rfl fa64_1 rfl) ?_
              refine tn_wr rfl rfl [0] (by decide) rfl (hm0 rfl) rfl (q_store (es' := [[iC .i64 n608, iC .i64 n609, iC .i64 0, bC true, bC false]]) 0 rfl rfl rfl sz2 rfl rfl rfl rfl rfl) (q := 0) rfl rfl ?_
              refine tn_end ?_
              refine E_seq ?_
              refine L_ops ?_
              refine ol_put rfl rfl rfl (q_loadP (v := .one (.p fr565 (Sl.t r56 s562))) 2 rfl sz23 rfl rfl rfl rfl) ?_
              obtain ⟨s637, h638, h⟩ := bindS h
              refine ol_put rfl rfl rfl (q_sliceS (r := r56) h638 rfl ty23 rfl ty57 (no_some rfl (cutS_some h638).1.1 _) (no_none _)) ?_
              refine ol_wr rfl rfl (q_store (es' := [[.p fr565 (Sl.t r56 s637)]]) 2 rfl rfl rfl sz23 rfl rfl rfl rfl rfl) rfl ?_
              refine ol_end ?_
              refine E_seq ?_
              refine L_seq ?_
              refine L_seq ?_
              refine L_ops ?_
              refine ol_put rfl rfl rfl (q_fieldP rfl fa64_4 rfl) ?_
              refine ol_put rfl rfl rfl (q_loadP (v := .one (bC false)) 0 rfl sz4 rfl rfl rfl rfl) ?_
              refine ol_end ?_
              refine E_seq ?_
              refine L_condF rfl ?_
              refine L_skip ?_
              refine E_seq ?_
              refine L_seq ?_
              refine L_ops ?_
              refine ol_put rfl rfl rfl (q_move (v := .one (.yld k34)) rfl) ?_
              refine ol_put rfl rfl rfl (q_loadP (v := .agg [iC .i64 n608, iC .i64 n609, iC .i64 0, bC true, bC false]) 0 rfl sz64 rfl rfl rfl rfl) ?_
              refine ol_yield (args := [.agg [iC .i64 n608, iC .i64 n609, iC .i64 0, bC true, bC false]]) (p := 1) rfl rfl rfl rfl rfl rfl rfl rfl rfl ?_
              refine L_ops ?_
              refine ol_new rfl rfl rfl (q_alloc ty64 (row := [iC .i64 0, iC .i64 0, iC .i64 0, bC false, bC false]) rfl rfl) (fun k639 => ?_)
              refine ol_wr rfl rfl (q_store (es' := [[iC .i64 n608, iC .i64 n609, iC .i64 0, bC true, bC false]]) 0 rfl rfl rfl sz64 rfl rfl rfl rfl rfl) rfl ?_
              refine ol_end ?_
              refine E_asg ?_
              refine L_block ?_
              refine L_seq ?_
              refine L_ops ?_
              refine ol_put rfl rfl rfl (q_loadP (v := .one (.p true (.v (.func (.func 46) #[] #[])))) 6 rfl sz69 rfl rfl rfl rfl) ?_
              refine ol_put rfl rfl rfl (q_loadP (v := .agg [iC .i64 n608, iC .i64 n609, iC .i64 0, bC true, bC false]) 0 rfl sz64 rfl rfl rfl rfl) ?_
              obtain ⟨⟨⟨n641, n642⟩, b643⟩, h640, h⟩ := bindS h
              refine ol_put rfl rfl rfl (q_callF (v := .tup [.agg [iC .i64 n641, iC .u64 n642], .one (bC b643)]) (args := [.agg [iC .i64 n608, iC .i64 n609, iC .i64 0, bC true, bC false]]) (blend_Over_c1_r (m + 1) h640) rfl rfl (vw_cons (vd_agg (vc_cons vc_v (vc_cons vc_v (vc_cons vc_v (vc_cons vc_v (vc_cons vc_v vc_nil)))))) vw_nil) rfl rfl) ?_
              refine ol_put rfl rfl rfl (q_move (v := .tup [.agg [iC .i64 n641, iC .u64 n642], .one (bC b643)]) rfl) ?_
              refine ol_put rfl rfl rfl (q_ext (v := .agg [iC .i64 n641, iC .u64 n642]) rfl rfl) ?_
              refine ol_put rfl rfl rfl (q_ext (v := .one (bC b643)) rfl rfl) ?_
              refine ol_new rfl rfl rfl (q_alloc ty66 (row := [iC .i64 0, iC .u64 0]) rfl rfl) (fun k644 => ?_)
              refine ol_wr rfl rfl (q_store (es' := [[iC .i64 n641, iC .u64 n642]]) 0 rfl rfl rfl sz66 rfl rfl rfl rfl rfl) rfl ?_
              refine ol_put rfl rfl rfl (q_assign (v := .one (bC b643)) rfl) ?_
              refine ol_end ?_
              refine E_seq ?_
              refine L_seq ?_
              refine L_seq ?_
              refine L_ops ?_
              refine ol_put rfl rfl rfl (q_move (v := .one (bC b643)) rfl) ?_
              rcases b643 with _ | _
              · replace h := ifF (by decide) h
                refine ol_put rfl rfl rfl (q_not rfl) ?_
                refine ol_end ?_
                refine E_seq ?_
                refine L_condT rfl ?_
                refine L_exit ?_
                refine E_seqX ?_
                refine E_blkH ?_
                refine E_roundN (p := 3) rfl ?_
                refine ol_put rfl rfl rfl (q_not rfl) ?_
                refine ol_end ?_
                refine E_seq ?_
                refine L_condF rfl ?_
                refine L_skip ?_
                refine E_blkN ?_
                obtain rfl := Option.some.inj h
                exact E_next (fr565, fr566, k567) (ups_self ⟨rfl, rfl, rfl, trivial⟩) [3, 4, 5, 6, 7, 8, 9, 10, 11] (by decide) rfl
              · replace h := ifT (by decide) h
                refine ol_put rfl rfl rfl (q_not rfl) ?_
                refine ol_end ?_
                refine E_seq ?_
                refine L_condF rfl ?_
                refine L_skip ?_
                refine E_seq ?_
                refine L_seq ?_
                refine L_ops ?_
                refine ol_put rfl rfl rfl (q_loadP (v := .agg [iC .i64 n641, iC .u64 n642]) 0 rfl sz66 rfl rfl rfl rfl) ?_
                obtain ⟨⟨n646, b647⟩, h645, h⟩ := bindS h
                refine ol_put rfl rfl rfl (q_callF (v := .tup [.one (iC .i64 n646), .one (bC b647)]) (args := [.agg [iC .i64 n641, iC .u64 n642]]) (wide_Narrow_r (m + 1) h645) rfl rfl (vw_cons (vd_agg (vc_cons vc_v (vc_cons vc_v vc_nil))) vw_nil) rfl rfl) ?_
                refine ol_put rfl rfl rfl (q_move (v := .tup [.one (iC .i64 n646), .one (bC b647)]) rfl) ?_
                refine ol_put rfl rfl rfl (q_ext (v := .one (iC .i64 n646)) rfl rfl) ?_
                refine ol_put rfl rfl rfl (q_ext (v := .one (bC b647)) rfl rfl) ?_
                refine ol_put rfl rfl rfl (q_assign (v := .one (iC .i64 n646)) rfl) ?_
                refine ol_put rfl rfl rfl (q_assign (v := .one (bC b647)) rfl) ?_
                refine ol_end ?_
                refine E_seq ?_
                refine L_seq ?_
                refine L_seq ?_
                refine L_ops ?_
                refine ol_put rfl rfl rfl (q_move (v := .one (bC b647)) rfl) ?_
                rcases b647 with _ | _
                · replace h := ifF (by decide) h
                  refine ol_put rfl rfl rfl (q_not rfl) ?_
                  refine ol_end ?_
                  refine E_seq ?_
                  refine L_condT rfl ?_
                  refine L_seq ?_
                  refine L_ops ?_
                  refine ol_put rfl rfl rfl (q_build (cs := [iC .i64 0, .p true (Sl.t r56 (⟨false, 0, []⟩ : Sl (Int × Int)))]) ty25 rfl pl25 rfl) ?_
                  refine ol_wr rfl rfl (q_store (es' := [[iC .i64 0, .p true (Sl.t r56 (⟨false, 0, []⟩ : Sl (Int × Int)))]]) 8 rfl rfl rfl sz25 rfl rfl rfl rfl rfl) rfl ?_
                  refine ol_wr rfl rfl (q_store (es' := [[iC .i64 12]]) 9 rfl rfl rfl sz28 rfl rfl rfl rfl rfl) rfl ?_
                  refine ol_end ?_
                  refine E_seq ?_
                  refine L_ret ?_
                  refine E_seqR ?_
                  refine E_blkR ?_
                  refine E_roundX (p := 3) (es := [[]]) rfl rfl rfl rfl ?_
                  refine ol_put rfl rfl rfl (q_not rfl) ?_
                  refine ol_end ?_
                  refine E_seq ?_
                  refine L_condT rfl ?_
                  refine L_ret ?_
                  refine E_blkR ?_
                  obtain rfl := Option.some.inj h
                  refine E_out ?_
                  exact (E_je k567 (ups_self trivial) [6, 7, 8, 9, 10, 3, 11] (by decide) rfl)
                · replace h := ifT (by decide) h
                  refine ol_put rfl rfl rfl (q_not rfl) ?_
                  refine ol_end ?_
                  refine E_seq ?_
                  refine L_condF rfl ?_
                  refine L_skip ?_
                  refine E_seq ?_
                  refine L_ops ?_
                  refine ol_put rfl rfl rfl (q_fieldP rfl fa25_1 rfl) ?_
                  refine ol_put rfl rfl rfl (q_loadP (v := .one (moC l564 k567)) 10 rfl sz23 rfl rfl rfl rfl) ?_
                  refine ol_put rfl rfl rfl (q_fieldP rfl fa64_0 rfl) ?_
                  refine ol_put rfl rfl rfl (q_loadP (v := .one (iC .i64 n608)) 1 rfl sz3 rfl rfl rfl rfl) ?_
                  refine ol_put rfl rfl rfl (q_move (v := .one (iC .i64 n646)) rfl) ?_
                  refine ol_put rfl rfl rfl (q_build (cs := [iC .i64 n608, iC .i64 n646]) ty57 rfl pl57 rfl) ?_
                  refine ol_new rfl rfl rfl (q_bslice (cs := [iC .i64 n608, iC .i64 n646]) (es := (([(n608, n646)] : List (Int × Int))).map (rowC r56)) ty23 rfl ty57 rfl rfl rfl rfl rfl) (fun k648 => ?_)
                  obtain ⟨_, h649, h⟩ := bindS h
                  obtain ⟨h649b, rfl⟩ := app_some h649
                  refine ol_appM (r := r56) (l := l564) (ys := ([(n608, n646)] : List (Int × Int))) 12 rfl rfl rfl rfl rfl rfl (el_ownM (l := ([(n608, n646)] : List (Int × Int))) 0 rfl) rfl h649 (fun y => rfl) el23 ty23 rfl rfl rfl rfl rfl (fun k650 => ?_)
                  refine ol_put rfl rfl rfl (q_fieldP rfl fa25_1 rfl) ?_
                  refine ol_wr rfl rfl (q_store (es' := [[iC .i64 n23, moC (l564 ++ ([(n608, n646)] : List (Int × Int))) k650]]) 12 rfl rfl rfl sz23 rfl rfl rfl rfl rfl) rfl ?_
                  refine ol_end ?_
                  refine E_blkN ?_
                  refine E_roundN (p := 5) rfl ?_
                  refine ol_put rfl rfl rfl (q_not rfl) ?_
                  refine ol_end ?_
                  refine E_seq ?_
                  refine L_condF rfl ?_
                  refine L_skip ?_
                  refine E_blkN ?_
                  obtain rfl := Option.some.inj h
                  exact E_next (fr565, fr566, k650) (ups_self ⟨rfl, rfl, rfl, trivial⟩) [5, 6, 7, 8, 9, 10, 11, 12, 0] (by decide) rfl
          · replace h := ifF c614 h
            refine tn_put rfl rfl rfl [0] (by decide) rfl (hm0 rfl) rfl (q_bin rfl rfl (p_leq_f _ _ _ _ _ c614) rfl) ?_
            refine tn_put rfl rfl rfl [] (by decide) rfl (hm0 rfl) rfl (q_pickT (v := .one (bC false)) rfl rfl) ?_
            refine tn_put rfl rfl rfl [] (by decide) rfl (hm0 rfl) rfl (q_pickF (v := .one (bC false)) rfl rfl) ?_
            refine tn_put rfl rfl rfl [] (by decide) rfl (hm0 rfl) rfl (q_fieldP rfl fa64_3 rfl) ?_
            refine tn_wr rfl rfl [0] (by decide) rfl (hm0 rfl) rfl (q_store (es' := [[iC .i64 0, iC .i64 0, iC .i64 0, bC false, bC false]]) 0 rfl rfl rfl sz4 rfl rfl rfl rfl rfl) (q := 0) rfl rfl ?_
            refine tn_end ?_
            refine E_seq ?_
            refine L_seq ?_
            refine L_norm (L2 := ([[(k569, 5, [[iC .i64 0, iC .i64 0, iC .i64 0, bC false, bC false]])], [(k34, 0, [])], [(k32, 1, [[.p fr565 (Sl.t r56 s562)]])], [(k33, 1, [[.p fr566 (Sl.t r56 s563)]])], [(k7, 2, [[iC .i64 0, .p true (Sl.t r56 (⟨false, 0, []⟩ : Sl (Int × Int)))]])], [(k10, 1, [[.p true (.v (.func (.func 46) #[] #[]))]])], [(k11, 2, [[iC .i64 0, .p true (Sl.t r56 (⟨false, 0, []⟩ : Sl (Int × Int)))]])], [(k12, 1, [[iC .i64 0]])], [(k31, 2, [[iC .i64 n23, moC l564 k567]])], moL r56 2 l564 k567] : BL)) [0, 1, 2, 3, 4, 5, 6, 7, 8, 9] (by decide) rfl ?_
            refine L_turn 21 rfl [[], [], [], [], [], [], [], [], [], [], [], [], [], [], [], [], [], [], [], [], [k569]] [(false, []), (false, []), (false, []), (false, []), (false, []), (false, []), (false, []), (false, []), (false, []), (false, []), (false, []), (false, []), (false, []), (false, []), (false, []), (false, []), (false, []), (false, []), (false, []), (false, []), (false, [])] [[], [], [], [], [], [], [], [], [12, 13, 14, 15], [12, 13, 14, 15], [12, 13, 14, 15], [12, 13, 14, 15], [8, 9, 10, 11], [8, 9, 10, 11], [8, 9, 10, 11], [8, 9, 10, 11], [], [], [], [], []] (by kernel_rfl) (by kernel_rfl) (by kernel_rfl) ?_ (fun bb651 hlt hnd => ?_)
            · intro bb651 hlt hnd
              exact ⟨⟨djE, ⟨djE, ⟨djE, ⟨djE, ⟨djE, ⟨djE, ⟨djE, ⟨djE, ⟨djE, ⟨djE, ⟨djE, ⟨djE, ⟨djE, ⟨djE, ⟨djE, ⟨djE, ⟨djE, ⟨djE, ⟨djE, ⟨djE, ⟨djN, trivial⟩⟩⟩⟩⟩⟩⟩⟩⟩⟩⟩⟩⟩⟩⟩⟩⟩⟩⟩⟩⟩, (ltO_cons ltK_nil (ltO_cons ltK_nil (ltO_cons ltK_nil (ltO_cons ltK_nil (ltO_cons ltK_nil (ltO_cons ltK_nil (ltO_cons ltK_nil (ltO_cons ltK_nil (ltO_cons ltK_nil (ltO_cons ltK_nil (ltO_cons ltK_nil (ltO_cons ltK_nil (ltO_cons ltK_nil (ltO_cons ltK_nil (ltO_cons ltK_nil (ltO_cons ltK_nil (ltO_cons ltK_nil (ltO_cons ltK_nil (ltO_cons ltK_nil (ltO_cons ltK_nil (ltO_cons (ltK_cons (key_lt hlt 0 rfl) ltK_nil) ltO_nil)))))))))))))))))))))⟩
            have e_k567 : l564 = [] ∨ k567 < bb651 := key_ltM (r := r56) (w := 2) hlt 9 rfl
            refine tn_put rfl rfl rfl [2] (by decide) rfl (hm0 rfl) rfl (q_loadP (v := .one (.p fr565 (Sl.t r56 s562))) 0 rfl sz23 rfl rfl rfl rfl) ?_
            refine tn_put rfl rfl rfl [] (by decide) rfl (hm0 rfl) rfl (q_lenS rfl ty23 rfl rfl rfl rfl) ?_
            refine tn_put rfl rfl rfl [] (by decide) rfl (hm0 rfl) rfl (q_bin rfl rfl (p_eql_f _ _ _ _ _ (gt0_ne c568)) rfl) ?_
            refine tn_put rfl rfl rfl [] (by decide) rfl (hm0 rfl) rfl (q_move (v := .one (bC false)) rfl) ?_
            refine tn_put rfl rfl rfl [3] (by decide) rfl (hm0 rfl) rfl (q_loadP (v := .one (.p fr566 (Sl.t r56 s563))) 0 rfl sz23 rfl rfl rfl rfl) ?_
            refine tn_put rfl rfl rfl [] (by decide) rfl (hm0 rfl) rfl (q_lenS rfl ty23 rfl rfl rfl rfl) ?_
            refine tn_put rfl rfl rfl [] (by decide) rfl (hm0 rfl) rfl (q_bin rfl rfl (p_gtr_t _ _ _ _ _ (len1 c581)) rfl) ?_
            refine tn_put rfl rfl rfl [] (by decide) rfl (hm0 rfl) rfl (q_move (v := .one (bC true)) rfl) ?_
            refine tn_put rfl rfl rfl [3] (by decide) rfl (hm0 rfl) rfl (q_loadP (v := .one (.p fr566 (Sl.t r56 s563))) 0 rfl sz23 rfl rfl rfl rfl) ?_
            refine tn_put rfl rfl rfl [] (by decide) rfl (hm0 rfl) rfl (q_ixS rfl rfl h611a h611 (el23.trans (congrArg some h611b.symm))) ?_
            refine tn_put rfl rfl rfl [] (by decide) rfl (hm0 rfl) rfl (q_fieldI rfl fa57_0 rfl) ?_
            refine tn_put rfl rfl rfl [] (by decide) rfl (hm0 rfl) rfl (q_loadI (v := .one (iC .i64 n612)) rfl sz3 (map_get h611) rfl rfl) ?_
            refine tn_put rfl rfl rfl [2] (by decide) rfl (hm0 rfl) rfl (q_loadP (v := .one (.p fr565 (Sl.t r56 s562))) 0 rfl sz23 rfl rfl rfl rfl) ?_
            refine tn_put rfl rfl rfl [] (by decide) rfl (hm0 rfl) rfl (q_ixS rfl rfl h607a h607 (el23.trans (congrArg some h607b.symm))) ?_
            refine tn_put rfl rfl rfl [] (by decide) rfl (hm0 rfl) rfl (q_fieldI rfl fa57_0 rfl) ?_
            refine tn_put rfl rfl rfl [] (by decide) rfl (hm0 rfl) rfl (q_loadI (v := .one (iC .i64 n608)) rfl sz3 (map_get h607) rfl rfl) ?_
            refine tn_put rfl rfl rfl [] (by decide) rfl (hm0 rfl) rfl (q_bin rfl rfl (p_leq_t _ _ _ _ _ (notle c614)) rfl) ?_
            refine tn_put rfl rfl rfl [] (by decide) rfl (hm0 rfl) rfl (q_pickT (v := .one (bC true)) rfl rfl) ?_
            refine tn_put rfl rfl rfl [] (by decide) rfl (hm0 rfl) rfl (q_pickF (v := .one (bC true)) rfl rfl) ?_
            refine tn_put rfl rfl rfl [] (by decide) rfl (hm0 rfl) rfl (q_fieldP rfl fa64_4 rfl) ?_
            refine tn_wr rfl rfl [0] (by decide) rfl (hm0 rfl) rfl (q_store (es' := [[iC .i64 0, iC .i64 0, iC .i64 0, bC false, bC true]]) 0 rfl rfl rfl sz4 rfl rfl rfl rfl rfl) (q := 0) rfl rfl ?_
            refine tn_end ?_
            refine E_seq ?_
            refine L_seq ?_
            refine L_seq ?_
            refine L_ops ?_
            refine ol_put rfl rfl rfl (q_fieldP rfl fa64_3 rfl) ?_
            refine ol_put rfl rfl rfl (q_loadP (v := .one (bC false)) 0 rfl sz4 rfl rfl rfl rfl) ?_
            refine ol_end ?_
            refine E_seq ?_
            refine L_condF rfl ?_
            refine L_skip ?_
            refine E_seq ?_
            refine L_seq ?_
            refine L_seq ?_
            refine L_ops ?_
            refine ol_put rfl rfl rfl (q_fieldP rfl fa64_4 rfl) ?_
            refine ol_put rfl rfl rfl (q_loadP (v := .one (bC true)) 0 rfl sz4 rfl rfl rfl rfl) ?_
            refine ol_end ?_
            refine E_seq ?_
            refine L_condT rfl ?_
            refine L_seq ?_
            refine L_norm (L2 := ([[(k569, 5, [[iC .i64 0, iC .i64 0, iC .i64 0, bC false, bC true]])], [(k34, 0, [])], [(k32, 1, [[.p fr565 (Sl.t r56 s562)]])], [(k33, 1, [[.p fr566 (Sl.t r56 s563)]])], [(k7, 2, [[iC .i64 0, .p true (Sl.t r56 (⟨false, 0, []⟩ : Sl (Int × Int)))]])], [(k10, 1, [[.p true (.v (.func (.func 46) #[] #[]))]])], [(k11, 2, [[iC .i64 0, .p true (Sl.t r56 (⟨false, 0, []⟩ : Sl (Int × Int)))]])], [(k12, 1, [[iC .i64 0]])], [(k31, 2, [[iC .i64 n23, moC l564 k567]])], moL r56 2 l564 k567] : BL)) [0, 1, 2, 3, 4, 5, 6, 7, 8, 9] (by decide) rfl ?_
            refine L_turn 12 rfl [[], [], [], [], [], [], [], [], [], [k569], [], [k569]] [(false, []), (false, []), (false, []), (false, []), (false, []), (false, []), (false, []), (false, []), (false, []), (false, []), (false, []), (false, [])] [[4, 5, 6, 7], [4, 5, 6, 7], [4, 5, 6, 7], [4, 5, 6, 7], [0, 1, 2, 3, 8, 9], [0, 1, 2, 3, 8, 9], [0, 1, 2, 3, 8, 9], [0, 1, 2, 3, 8, 9], [4, 5, 6, 7], [4, 5, 6, 7], [], []] (by kernel_rfl) (by kernel_rfl) (by kernel_rfl) ?_ (fun bb652 hlt hnd => ?_)
            · intro bb652 hlt hnd
              exact ⟨⟨djE, ⟨djE, ⟨djE, ⟨djE, ⟨djE, ⟨djE, ⟨djE, ⟨djE, ⟨djE, ⟨(djC nin_nil (djC nin_nil (djC nin_nil (djC nin_nil djN)))), ⟨djE, ⟨djN, trivial⟩⟩⟩⟩⟩⟩⟩⟩⟩⟩⟩⟩, (ltO_cons ltK_nil (ltO_cons ltK_nil (ltO_cons ltK_nil (ltO_cons ltK_nil (ltO_cons ltK_nil (ltO_cons ltK_nil (ltO_cons ltK_nil (ltO_cons ltK_nil (ltO_cons ltK_nil (ltO_cons (ltK_cons (key_lt hlt 0 rfl) ltK_nil) (ltO_cons ltK_nil (ltO_cons (ltK_cons (key_lt hlt 0 rfl) ltK_nil) ltO_nil))))))))))))⟩
            have e_k567 : l564 = [] ∨ k567 < bb652 := key_ltM (r := r56) (w := 2) hlt 9 rfl
            refine tn_put rfl rfl rfl [3] (by decide) rfl (hm0 rfl) rfl (q_loadP (v := .one (.p fr566 (Sl.t r56 s563))) 0 rfl sz23 rfl rfl rfl rfl) ?_
            refine tn_put rfl rfl rfl [] (by decide) rfl (hm0 rfl) rfl (q_ixS rfl rfl h611a h611 (el23.trans (congrArg some h611b.symm))) ?_
            refine tn_put rfl rfl rfl [] (by decide) rfl (hm0 rfl) rfl (q_fieldI rfl fa57_0 rfl) ?_
            refine tn_put rfl rfl rfl [] (by decide) rfl (hm0 rfl) rfl (q_loadI (v := .one (iC .i64 n612)) rfl sz3 (map_get h611) rfl rfl) ?_
            refine tn_put rfl rfl rfl [3] (by decide) rfl (hmc (nin_cons (key_ne hnd 3 0 rfl rfl rfl) nin_nil) hmn) rfl (q_loadP (v := .one (.p fr566 (Sl.t r56 s563))) 0 rfl sz23 rfl rfl rfl rfl) ?_
            refine tn_put rfl rfl rfl [] (by decide) rfl hmn rfl (q_ixS rfl rfl h611a h611 (el23.trans (congrArg some h611b.symm))) ?_
            refine tn_put rfl rfl rfl [] (by decide) rfl hmn rfl (q_fieldI rfl fa57_1 rfl) ?_
            refine tn_put rfl rfl rfl [] (by decide) rfl hmn rfl (q_loadI (v := .one (iC .i64 n613)) rfl sz2 (map_get h611) rfl rfl) ?_
            refine tn_put rfl rfl rfl [] (by decide) rfl (hm0 rfl) rfl (q_fieldP rfl fa64_0 rfl) ?_
            refine tn_wr rfl rfl [0] (by decide) rfl (hm0 rfl) rfl (q_store (es' := [[iC .i64 n612, iC .i64 0, iC .i64 0, bC false, bC true]]) 0 rfl rfl rfl sz3 rfl rfl rfl rfl rfl) (q := 0) rfl rfl ?_
            refine tn_put rfl rfl rfl [] (by decide) rfl (hm0 rfl) rfl (q_fieldP rfl fa64_2 rfl) ?_
            refine tn_wr rfl rfl [0] (by decide) rfl (hm0 rfl) rfl (q_store (es' := [[iC .i64 n612, iC .i64 0, iC .i64 n613, bC false, bC true]]) 0 rfl rfl rfl sz2 rfl rfl rfl rfl rfl) (q := 0) rfl rfl ?_
            refine tn_end ?_
            refine E_seq ?_
            refine L_ops ?_
            refine ol_put rfl rfl rfl (q_loadP (v := .one (.p fr566 (Sl.t r56 s563))) 3 rfl sz23 rfl rfl rfl rfl) ?_
            obtain ⟨s653, h654, h⟩ := bindS h
            refine ol_put rfl rfl rfl (q_sliceS (r := r56) h654 rfl ty23 rfl ty57 (no_some rfl (cutS_some h654).1.1 _) (no_none _)) ?_
            refine ol_wr rfl rfl (q_store (es' := [[.p fr566 (Sl.t r56 s653)]]) 3 rfl rfl rfl sz23 rfl rfl rfl rfl rfl) rfl ?_
            refine ol_end ?_
            refine E_seq ?_
            refine L_seq ?_
            refine L_ops ?_
            refine ol_put rfl rfl rfl (q_move (v := .one (.yld k34)) rfl) ?_
            refine ol_put rfl rfl rfl (q_loadP (v := .agg [iC .i64 n612, iC .i64 0, iC .i64 n613, bC false, bC true]) 0 rfl sz64 rfl rfl rfl rfl) ?_
            refine ol_yield (args := [.agg [iC .i64 n612, iC .i64 0, iC .i64 n613, bC false, bC true]]) (p := 1) rfl rfl rfl rfl rfl rfl rfl rfl rfl ?_
            refine L_ops ?_
            refine ol_new rfl rfl rfl (q_alloc ty64 (row := [iC .i64 0, iC .i64 0, iC .i64 0, bC false, bC false]) rfl rfl) (fun k655 => ?_)
            refine ol_wr rfl rfl (q_store (es' := [[iC .i64 n612, iC .i64 0, iC .i64 n613, bC false, bC true]]) 0 rfl rfl rfl sz64 rfl rfl rfl rfl rfl) rfl ?_
            refine ol_end ?_
            refine E_asg ?_
            refine L_block ?_
            refine L_seq ?_
            refine L_ops ?_
            refine ol_put rfl rfl rfl (q_loadP (v := .one (.p true (.v (.func (.func 46) #[] #[])))) 6 rfl sz69 rfl rfl rfl rfl) ?_
            refine ol_put rfl rfl rfl (q_loadP (v := .agg [iC .i64 n612, iC .i64 0, iC .i64 n613, bC false, bC true]) 0 rfl sz64 rfl rfl rfl rfl) ?_
            obtain ⟨⟨⟨n657, n658⟩, b659⟩, h656, h⟩ := bindS h
            refine ol_put rfl rfl rfl (q_callF (v := .tup [.agg [iC .i64 n657, iC .u64 n658], .one (bC b659)]) (args := [.agg [iC .i64 n612, iC .i64 0, iC .i64 n613, bC false, bC true]]) (blend_Over_c1_r (m + 1) h656) rfl rfl (vw_cons (vd_agg (vc_cons vc_v (vc_cons vc_v (vc_cons vc_v (vc_cons vc_v (vc_cons vc_v vc_nil)))))) vw_nil) rfl rfl) ?_
            refine ol_put rfl rfl rfl (q_move (v := .tup [.agg [iC .i64 n657, iC .u64 n658], .one (bC b659)]) rfl) ?_
            refine ol_put rfl rfl rfl (q_ext (v := .agg [iC .i64 n657, iC .u64 n658]) rfl rfl) ?_
            refine ol_put rfl rfl rfl (q_ext (v := .one (bC b659)) rfl rfl) ?_
            refine ol_new rfl rfl rfl (q_alloc ty66 (row := [iC .i64 0, iC .u64 0]) rfl rfl) (fun k660 => ?_)
            refine ol_wr rfl rfl (q_store (es' := [[iC .i64 n657, iC .u64 n658]]) 0 rfl rfl rfl sz66 rfl rfl rfl rfl rfl) rfl ?_
            refine ol_put rfl rfl rfl (q_assign (v := .one (bC b659)) rfl) ?_
            refine ol_end ?_
            refine E_seq ?_
            refine L_seq ?_
            refine L_seq ?_
            refine L_ops ?_
            refine ol_put rfl rfl rfl (q_move (v := .one (bC b659)) rfl) ?_
            rcases b659 with _ | _
            · replace h := ifF (by decide) h
              refine ol_put rfl rfl rfl (q_not rfl) ?_
              refine ol_end ?_
              refine E_seq ?_
              refine L_condT rfl ?_
              refine L_exit ?_
              refine E_seqX ?_
              refine E_blkH ?_
              refine E_roundN (p := 3) rfl ?_
              refine ol_put rfl rfl rfl (q_not rfl) ?_
              refine ol_end ?_
              refine E_seq ?_
              refine L_condF rfl ?_
              refine L_skip ?_
              refine E_blkN ?_
              obtain rfl := Option.some.inj h
              exact E_next (fr565, fr566, k567) (ups_self ⟨rfl, rfl, rfl, trivial⟩) [3, 4, 5, 6, 7, 8, 9, 10, 11] (by decide) rfl
            · replace h := ifT (by decide) h
              refine ol_put rfl rfl rfl (q_not rfl) ?_
              refine ol_end ?_
              refine E_seq ?_
              refine L_condF rfl ?_
              refine L_skip ?_
              refine E_seq ?_
              refine L_seq ?_
              refine L_ops ?_
              refine ol_put rfl rfl rfl (q_loadP (v := .agg [iC .i64 n657, iC .u64 n658]) 0 rfl sz66 rfl rfl rfl rfl) ?_
              obtain ⟨⟨n662, b663⟩, h661, h⟩ := bindS h
              refine ol_put rfl rfl rfl (q_callF (v := .tup [.one (iC .i64 n662), .one (bC b663)]) (args := [.agg [iC .i64 n657, iC .u64 n658]]) (wide_Narrow_r (m + 1) h661) rfl rfl (vw_cons (vd_agg (vc_cons vc_v (vc_cons vc_v vc_nil))) vw_nil) rfl rfl) ?_
              refine ol_put rfl rfl rfl (q_move (v := .tup [.one (iC .i64 n662), .one (bC b663)]) rfl) ?_
              refine ol_put rfl rfl rfl (q_ext (v := .one (iC .i64 n662)) rfl rfl) ?_
              refine ol_put rfl rfl rfl (q_ext (v := .one (bC b663)) rfl rfl) ?_
              refine ol_put rfl rfl rfl (q_assign (v := .one (iC .i64 n662)) rfl) ?_
              refine ol_put rfl rfl rfl (q_assign (v := .one (bC b663)) rfl) ?_
              refine ol_end ?_
              refine E_seq ?_
              refine L_seq ?_
              refine L_seq ?_
              refine L_ops ?_
              refine ol_put rfl rfl rfl (q_move (v := .one (bC b663)) rfl) ?_
              rcases b663 with _ | _
              · replace h := ifF (by decide) h
                refine ol_put rfl rfl rfl (q_not rfl) ?_
                refine ol_end ?_
                refine E_seq ?_
                refine L_condT rfl ?_
                refine L_seq ?_
                refine L_ops ?_
                refine ol_put rfl rfl rfl (q_build (cs := [iC .i64 0, .p true (Sl.t r56 (⟨false, 0, []⟩ : Sl (Int × Int)))]) ty25 rfl pl25 rfl) ?_
                refine ol_wr rfl rfl (q_store (es' := [[iC .i64 0, .p true (Sl.t r56 (⟨false, 0, []⟩ : Sl (Int × Int)))]]) 8 rfl rfl rfl sz25 rfl rfl rfl rfl rfl) rfl ?_
                refine ol_wr rfl rfl (q_store (es' := [[iC .i64 12]]) 9 rfl rfl rfl sz28 rfl rfl rfl rfl rfl) rfl ?_
                refine ol_end ?_
                refine E_seq ?_
                refine L_ret ?_
                refine E_seqR ?_
                refine E_blkR ?_
                refine E_roundX (p := 3) (es := [[]]) rfl rfl rfl rfl ?_
                refine ol_put rfl rfl rfl (q_not rfl) ?_
                refine ol_end ?_
                refine E_seq ?_
                refine L_condT rfl ?_
                refine L_ret ?_
                refine E_blkR ?_
                obtain rfl := Option.some.inj h
                refine E_out ?_
                exact (E_je k567 (ups_self trivial) [6, 7, 8, 9, 10, 3, 11] (by decide) rfl)
              · replace h := ifT (by decide) h
                refine ol_put rfl rfl rfl (q_not rfl) ?_
                refine ol_end ?_
                refine E_seq ?_
                refine L_condF rfl ?_
                refine L_skip ?_
                refine E_seq ?_
                refine L_ops ?_
                refine ol_put rfl rfl rfl (q_fieldP rfl fa25_1 rfl) ?_
                refine ol_put rfl rfl rfl (q_loadP (v := .one (moC l564 k567)) 10 rfl sz23 rfl rfl rfl rfl) ?_
                refine ol_put rfl rfl rfl (q_fieldP rfl fa64_0 rfl) ?_
                refine ol_put rfl rfl rfl (q_loadP (v := .one (iC .i64 n612)) 1 rfl sz3 rfl rfl rfl rfl) ?_
                refine ol_put rfl rfl rfl (q_move (v := .one (iC .i64 n662)) rfl) ?_
                refine ol_put rfl rfl rfl (q_build (cs := [iC .i64 n612, iC .i64 n662]) ty57 rfl pl57 rfl) ?_
                refine ol_new rfl rfl rfl (q_bslice (cs := [iC .i64 n612, iC .i64 n662]) (es := (([(n612, n662)] : List (Int × Int))).map (rowC r56)) ty23 rfl ty57 rfl rfl rfl rfl rfl) (fun k664 => ?_)
                obtain ⟨_, h665, h⟩ := bindS h
                obtain ⟨h665b, rfl⟩ := app_some h665
                refine ol_appM (r := r56) (l := l564) (ys := ([(n612, n662)] : List (Int × Int))) 12 rfl rfl rfl rfl rfl rfl (el_ownM (l := ([(n612, n662)] : List (Int × Int))) 0 rfl) rfl h665 (fun y => rfl) el23 ty23 rfl rfl rfl rfl rfl (fun k666 => ?_)
                refine ol_put rfl rfl rfl (q_fieldP rfl fa25_1 rfl) ?_
                refine ol_wr rfl rfl (q_store (es' := [[iC .i64 n23, moC (l564 ++ ([(n612, n662)] : List (Int × Int))) k666]]) 12 rfl rfl rfl sz23 rfl rfl rfl rfl rfl) rfl ?_
                refine ol_end ?_
                refine E_blkN ?_
                refine E_roundN (p := 5) rfl ?_
                refine ol_put rfl rfl rfl (q_not rfl) ?_
                refine ol_end ?_
                refine E_seq ?_
                refine L_condF rfl ?_
                refine L_skip ?_
                refine E_blkN ?_
                obtain rfl := Option.some.inj h
                exact E_next (fr565, fr566, k666) (ups_self ⟨rfl, rfl, rfl, trivial⟩) [5, 6, 7, 8, 9, 10, 11, 12, 0] (by decide) rfl
      · replace h := ifF c568 h
        refine ol_put rfl rfl rfl (q_bin rfl rfl (p_gtr_f _ _ _ _ _ c568) rfl) ?_
        refine ol_put rfl rfl rfl (q_move (v := .one (bC false)) rfl) ?_
        refine ol_put rfl rfl rfl (q_loadP (v := .one (.p fr566 (Sl.t r56 s563))) 2 rfl sz23 rfl rfl rfl rfl) ?_
        refine ol_put rfl rfl rfl (q_lenS rfl ty23 rfl rfl rfl rfl) ?_
        by_cases c667 : ((s563.l.length : Nat) : Int) > 0
        · replace h := ifT c667 h
          refine ol_put rfl rfl rfl (q_bin rfl rfl (p_gtr_t _ _ _ _ _ c667) rfl) ?_
          refine ol_put rfl rfl rfl (q_pickF (v := .one (bC true)) rfl rfl) ?_
          refine ol_end ?_
          refine E_seq ?_
          refine L_condT rfl ?_
          refine L_skip ?_
          refine E_seq ?_
          refine L_block ?_
          refine L_seq ?_
          refine L_ops ?_
          refine ol_new rfl rfl rfl (q_alloc ty64 (row := [iC .i64 0, iC .i64 0, iC .i64 0, bC false, bC false]) rfl rfl) (fun k668 => ?_)
          refine ol_end ?_
          refine E_seq ?_
          refine L_seq ?_
          refine L_norm (L2 := ([[(k668, 5, [[iC .i64 0, iC .i64 0, iC .i64 0, bC false, bC false]])], [(k34, 0, [])], [(k32, 1, [[.p fr565 (Sl.t r56 s562)]])], [(k33, 1, [[.p fr566 (Sl.t r56 s563)]])], [(k7, 2, [[iC .i64 0, .p true (Sl.t r56 (⟨false, 0, []⟩ : Sl (Int × Int)))]])], [(k10, 1, [[.p true (.v (.func (.func 46) #[] #[]))]])], [(k11, 2, [[iC .i64 0, .p true (Sl.t r56 (⟨false, 0, []⟩ : Sl (Int × Int)))]])], [(k12, 1, [[iC .i64 0]])], [(k31, 2, [[iC .i64 n23, moC l564 k567]])], moL r56 2 l564 k567] : BL)) [0, 1, 2, 3, 4, 5, 6, 7, 8, 9] (by decide) rfl ?_
          refine L_turn 21 rfl [[], [], [], [], [], [], [], [], [], [], [], [], [], [], [], [], [], [], [], [], [k668]] [(false, []), (false, []), (false, []), (false, []), (false, []), (false, []), (false, []), (false, []), (false, []), (false, []), (false, []), (false, []), (false, []), (false, []), (false, []), (false, []), (false, []), (false, []), (false, []), (false, []), (false, [])] [[], [], [], [], [], [], [], [], [12, 13, 14, 15], [12, 13, 14, 15], [12, 13, 14, 15], [12, 13, 14, 15], [8, 9, 10, 11], [8, 9, 10, 11], [8, 9, 10, 11], [8, 9, 10, 11], [], [], [], [], []] (by kernel_rfl) (by kernel_rfl) (by kernel_rfl) ?_ (fun bb669 hlt hnd => ?_)
          · intro bb669 hlt hnd
            exact ⟨⟨djE, ⟨djE, ⟨djE, ⟨djE, ⟨djE, ⟨djE, ⟨djE, ⟨djE, ⟨djE, ⟨djE, ⟨djE, ⟨djE, ⟨djE, ⟨djE, ⟨djE, ⟨djE, ⟨djE, ⟨djE, ⟨djE, ⟨djE, ⟨djN, trivial⟩⟩⟩⟩⟩⟩⟩⟩⟩⟩⟩⟩⟩⟩⟩⟩⟩⟩⟩⟩⟩, (ltO_cons ltK_nil (ltO_cons ltK_nil (ltO_cons ltK_nil (ltO_cons ltK_nil (ltO_cons ltK_nil (ltO_cons ltK_nil (ltO_cons ltK_nil (ltO_cons ltK_nil (ltO_cons ltK_nil (ltO_cons ltK_nil (ltO_cons ltK_nil (ltO_cons ltK_nil (ltO_cons ltK_nil (ltO_cons ltK_nil (ltO_cons ltK_nil (ltO_cons ltK_nil (ltO_cons ltK_nil (ltO_cons ltK_nil (ltO_cons ltK_nil (ltO_cons ltK_nil (ltO_cons (ltK_cons (key_lt hlt 0 rfl) ltK_nil) ltO_nil)))))))))))))))))))))⟩
          have e_k567 : l564 = [] ∨ k567 < bb669 := key_ltM (r := r56) (w := 2) hlt 9 rfl
          refine tn_put rfl rfl rfl [3] (by decide) rfl (hm0 rfl) rfl (q_loadP (v := .one (.p fr566 (Sl.t r56 s563))) 0 rfl sz23 rfl rfl rfl rfl) ?_
          refine tn_put rfl rfl rfl [] (by decide) rfl (hm0 rfl) rfl (q_lenS rfl ty23 rfl rfl rfl rfl) ?_
          refine tn_put rfl rfl rfl [] (by decide) rfl (hm0 rfl) rfl (q_bin rfl rfl (p_eql_f _ _ _ _ _ (gt0_ne c667)) rfl) ?_
          refine tn_put rfl rfl rfl [] (by decide) rfl (hm0 rfl) rfl (q_move (v := .one (bC false)) rfl) ?_
          refine tn_put rfl rfl rfl [2] (by decide) rfl (hm0 rfl) rfl (q_loadP (v := .one (.p fr565 (Sl.t r56 s562))) 0 rfl sz23 rfl rfl rfl rfl) ?_
          refine tn_put rfl rfl rfl [] (by decide) rfl (hm0 rfl) rfl (q_lenS rfl ty23 rfl rfl rfl rfl) ?_
          refine tn_put rfl rfl rfl [] (by decide) rfl (hm0 rfl) rfl (q_bin rfl rfl (p_gtr_f _ _ _ _ _ c568) rfl) ?_
          refine tn_put rfl rfl rfl [] (by decide) rfl (hm0 rfl) rfl (q_move (v := .one (bC false)) rfl) ?_
          refine tn_skip rfl rfl rfl rfl ?_
          refine tn_skip rfl rfl rfl rfl ?_
          refine tn_skip rfl rfl rfl rfl ?_
          refine tn_skip rfl rfl rfl rfl ?_
          refine tn_skip rfl rfl rfl rfl ?_
          refine tn_skip rfl rfl rfl rfl ?_
          refine tn_skip rfl rfl rfl rfl ?_
          refine tn_skip rfl rfl rfl rfl ?_
          refine tn_skip rfl rfl rfl rfl ?_
          refine tn_put rfl rfl rfl [] (by decide) rfl (hm0 rfl) rfl (q_pickF (v := .one (bC false)) rfl rfl) ?_
          refine tn_put rfl rfl rfl [] (by decide) rfl (hm0 rfl) rfl (q_pickF (v := .one (bC false)) rfl rfl) ?_
          refine tn_put rfl rfl rfl [] (by decide) rfl (hm0 rfl) rfl (q_fieldP rfl fa64_3 rfl) ?_
          refine tn_wr rfl rfl [0] (by decide) rfl (hm0 rfl) rfl (q_store (es' := [[iC .i64 0, iC .i64 0, iC .i64 0, bC false, bC false]]) 0 rfl rfl rfl sz4 rfl rfl rfl rfl rfl) (q := 0) rfl rfl ?_
          refine tn_end ?_
          refine E_seq ?_
          refine L_seq ?_
          refine L_norm (L2 := ([[(k668, 5, [[iC .i64 0, iC .i64 0, iC .i64 0, bC false, bC false]])], [(k34, 0, [])], [(k32, 1, [[.p fr565 (Sl.t r56 s562)]])], [(k33, 1, [[.p fr566 (Sl.t r56 s563)]])], [(k7, 2, [[iC .i64 0, .p true (Sl.t r56 (⟨false, 0, []⟩ : Sl (Int × Int)))]])], [(k10, 1, [[.p true (.v (.func (.func 46) #[] #[]))]])], [(k11, 2, [[iC .i64 0, .p true (Sl.t r56 (⟨false, 0, []⟩ : Sl (Int × Int)))]])], [(k12, 1, [[iC .i64 0]])], [(k31, 2, [[iC .i64 n23, moC l564 k567]])], moL r56 2 l564 k567] : BL)) [0, 1, 2, 3, 4, 5, 6, 7, 8, 9] (by decide) rfl ?_
          refine L_turn 21 rfl [[], [], [], [], [], [], [], [], [], [], [], [], [], [], [], [], [], [], [], [], [k668]] [(false, []), (false, []), (false, []), (false, []), (false, []), (false, []), (false, []), (false, []), (false, []), (false, []), (false, []), (false, []), (false, []), (false, []), (false, []), (false, []), (false, []), (false, []), (false, []), (false, []), (false, [])] [[], [], [], [], [], [], [], [], [12, 13, 14, 15], [12, 13, 14, 15], [12, 13, 14, 15], [12, 13, 14, 15], [8, 9, 10, 11], [8, 9, 10, 11], [8, 9, 10, 11], [8, 9, 10, 11], [], [], [], [], []] (by kernel_rfl) (by kernel_rfl) (by kernel_rfl) ?_ (fun bb670 hlt hnd => ?_)
          · intro bb670 hlt hnd
            exact ⟨⟨djE, ⟨djE, ⟨djE, ⟨djE, ⟨djE, ⟨djE, ⟨djE, ⟨djE, ⟨djE, ⟨djE, ⟨djE, ⟨djE, ⟨djE, ⟨djE, ⟨djE, ⟨djE, ⟨djE, ⟨djE, ⟨djE, ⟨djE, ⟨djN, trivial⟩⟩⟩⟩⟩⟩⟩⟩⟩⟩⟩⟩⟩⟩⟩⟩⟩⟩⟩⟩⟩, (ltO_cons ltK_nil (ltO_cons ltK_nil (ltO_cons ltK_nil (ltO_cons ltK_nil (ltO_cons ltK_nil (ltO_cons ltK_nil (ltO_cons ltK_nil (ltO_cons ltK_nil (ltO_cons ltK_nil (ltO_cons ltK_nil (ltO_cons ltK_nil (ltO_cons ltK_nil (ltO_cons ltK_nil (ltO_cons ltK_nil (ltO_cons ltK_nil (ltO_cons ltK_nil (ltO_cons ltK_nil (ltO_cons ltK_nil (ltO_cons ltK_nil (ltO_cons ltK_nil (ltO_cons (ltK_cons (key_lt hlt 0 rfl) ltK_nil) ltO_nil)))))))))))))))))))))⟩
          have e_k567 : l564 = [] ∨ k567 < bb670 := key_ltM (r := r56) (w := 2) hlt 9 rfl
          refine tn_put rfl rfl rfl [2] (by decide) rfl (hm0 rfl) rfl (q_loadP (v := .one (.p fr565 (Sl.t r56 s562))) 0 rfl sz23 rfl rfl rfl rfl) ?_
          refine tn_put rfl rfl rfl [] (by decide) rfl (hm0 rfl) rfl (q_lenS rfl ty23 rfl rfl rfl rfl) ?_
          refine tn_put rfl rfl rfl [] (by decide) rfl (hm0 rfl) rfl (q_bin rfl rfl (p_eql_t _ _ _ _ _ (len0 c568)) rfl) ?_
          refine tn_put rfl rfl rfl [] (by decide) rfl (hm0 rfl) rfl (q_move (v := .one (bC true)) rfl) ?_
          refine tn_skip rfl rfl rfl rfl ?_
          refine tn_skip rfl rfl rfl rfl ?_
          refine tn_skip rfl rfl rfl rfl ?_
          refine tn_skip rfl rfl rfl rfl ?_
          refine tn_skip rfl rfl rfl rfl ?_
          refine tn_skip rfl rfl rfl rfl ?_
          refine tn_skip rfl rfl rfl rfl ?_
          refine tn_skip rfl rfl rfl rfl ?_
          refine tn_skip rfl rfl rfl rfl ?_
          refine tn_skip rfl rfl rfl rfl ?_
          refine tn_skip rfl rfl rfl rfl ?_
          refine tn_skip rfl rfl rfl rfl ?_
          refine tn_skip rfl rfl rfl rfl ?_
          refine tn_skip rfl rfl rfl rfl ?_
          refine tn_put rfl rfl rfl [] (by decide) rfl (hm0 rfl) rfl (q_pickT (v := .one (bC true)) rfl rfl) ?_
          refine tn_put rfl rfl rfl [] (by decide) rfl (hm0 rfl) rfl (q_fieldP rfl fa64_4 rfl) ?_
          refine tn_wr rfl rfl [0] (by decide) rfl (hm0 rfl) rfl (q_store (es' := [[iC .i64 0, iC .i64 0, iC .i64 0, bC false, bC true]]) 0 rfl rfl rfl sz4 rfl rfl rfl rfl rfl) (q := 0) rfl rfl ?_
          refine tn_end ?_
          refine E_seq ?_
          refine L_seq ?_
          refine L_seq ?_
          refine L_ops ?_
          refine ol_put rfl rfl rfl (q_fieldP rfl fa64_3 rfl) ?_
          refine ol_put rfl rfl rfl (q_loadP (v := .one (bC false)) 0 rfl sz4 rfl rfl rfl rfl) ?_
          refine ol_end ?_
          refine E_seq ?_
          refine L_condF rfl ?_
          refine L_skip ?_
          refine E_seq ?_
          refine L_seq ?_
          refine L_seq ?_
          refine L_ops ?_
          refine ol_put rfl rfl rfl (q_fieldP rfl fa64_4 rfl) ?_
          refine ol_put rfl rfl rfl (q_loadP (v := .one (bC true)) 0 rfl sz4 rfl rfl rfl rfl) ?_
          refine ol_end ?_
          refine E_seq ?_
          refine L_condT rfl ?_
          refine L_seq ?_
          refine L_norm (L2 := ([[(k668, 5, [[iC .i64 0, iC .i64 0, iC .i64 0, bC false, bC true]])], [(k34, 0, [])], [(k32, 1, [[.p fr565 (Sl.t r56 s562)]])], [(k33, 1, [[.p fr566 (Sl.t r56 s563)]])], [(k7, 2, [[iC .i64 0, .p true (Sl.t r56 (⟨false, 0, []⟩ : Sl (Int × Int)))]])], [(k10, 1, [[.p true (.v (.func (.func 46) #[] #[]))]])], [(k11, 2, [[iC .i64 0, .p true (Sl.t r56 (⟨false, 0, []⟩ : Sl (Int × Int)))]])], [(k12, 1, [[iC .i64 0]])], [(k31, 2, [[iC .i64 n23, moC l564 k567]])], moL r56 2 l564 k567] : BL)) [0, 1, 2, 3, 4, 5, 6, 7, 8, 9] (by decide) rfl ?_
          refine L_turn 12 rfl [[], [], [], [], [], [], [], [], [], [k668], [], [k668]] [(false, []), (false, []), (false, []), (false, []), (false, []), (false, []), (false, []), (false, []), (false, []), (false, []), (false, []), (false, [])] [[4, 5, 6, 7], [4, 5, 6, 7], [4, 5, 6, 7], [4, 5, 6, 7], [0, 1, 2, 3, 8, 9], [0, 1, 2, 3, 8, 9], [0, 1, 2, 3, 8, 9], [0, 1, 2, 3, 8, 9], [4, 5, 6, 7], [4, 5, 6, 7], [], []] (by kernel_rfl) (by kernel_rfl) (by kernel_rfl) ?_ (fun bb671 hlt hnd => ?_)
          · intro bb671 hlt hnd
            exact ⟨⟨djE, ⟨djE, ⟨djE, ⟨djE, ⟨djE, ⟨djE, ⟨djE, ⟨djE, ⟨djE, ⟨(djC nin_nil (djC nin_nil (djC nin_nil (djC nin_nil djN)))), ⟨djE, ⟨djN, trivial⟩⟩⟩⟩⟩⟩⟩⟩⟩⟩⟩⟩, (ltO_cons ltK_nil (ltO_cons ltK_nil (ltO_cons ltK_nil (ltO_cons ltK_nil (ltO_cons ltK_nil (ltO_cons ltK_nil (ltO_cons ltK_nil (ltO_cons ltK_nil (ltO_cons ltK_nil (ltO_cons (ltK_cons (key_lt hlt 0 rfl) ltK_nil) (ltO_cons ltK_nil (ltO_cons (ltK_cons (key_lt hlt 0 rfl) ltK_nil) ltO_nil))))))))))))⟩
          have e_k567 : l564 = [] ∨ k567 < bb671 := key_ltM (r := r56) (w := 2) hlt 9 rfl
          refine tn_put rfl rfl rfl [3] (by decide) rfl (hm0 rfl) rfl (q_loadP (v := .one (.p fr566 (Sl.t r56 s563))) 0 rfl sz23 rfl rfl rfl rfl) ?_
          obtain ⟨⟨n678, n679⟩, h677, h⟩ := bindS h
          obtain ⟨h677a, h677b, h677⟩ := atS_some h677
          refine tn_put rfl rfl rfl [] (by decide) rfl (hm0 rfl) rfl (q_ixS rfl rfl h677a h677 (el23.trans (congrArg some h677b.symm))) ?_
          refine tn_put rfl rfl rfl [] (by decide) rfl (hm0 rfl) rfl (q_fieldI rfl fa57_0 rfl) ?_
          refine tn_put rfl rfl rfl [] (by decide) rfl (hm0 rfl) rfl (q_loadI (v := .one (iC .i64 n678)) rfl sz3 (map_get h677) rfl rfl) ?_
          refine tn_put rfl rfl rfl [3] (by decide) rfl (hmc (nin_cons (key_ne hnd 3 0 rfl rfl rfl) nin_nil) hmn) rfl (q_loadP (v := .one (.p fr566 (Sl.t r56 s563))) 0 rfl sz23 rfl rfl rfl rfl) ?_
          refine tn_put rfl rfl rfl [] (by decide) rfl hmn rfl (q_ixS rfl rfl h677a h677 (el23.trans (congrArg some h677b.symm))) ?_
          refine tn_put rfl rfl rfl [] (by decide) rfl hmn rfl (q_fieldI rfl fa57_1 rfl) ?_
          refine tn_put rfl rfl rfl [] (by decide) rfl hmn rfl (q_loadI (v := .one (iC .i64 n679)) rfl sz2 (map_get h677) rfl rfl) ?_
          refine tn_put rfl rfl rfl [] (by decide) rfl (hm0 rfl) rfl (q_fieldP rfl fa64_0 rfl) ?_
          refine tn_wr rfl rfl [0] (by decide) rfl (hm0 rfl) rfl (q_store (es' := [[iC .i64 n678, iC .i64 0, iC .i64 0, bC false, bC true]]) 0 rfl rfl rfl sz3 rfl rfl rfl rfl rfl) (q := 0) rfl rfl ?_
          refine tn_put rfl rfl rfl [] (by decide) rfl (hm0 rfl) rfl (q_fieldP rfl fa64_2 rfl) ?_
          refine tn_wr rfl rfl [0] (by decide) rfl (hm0 rfl) rfl (q_store (es' := [[iC .i64 n678, iC .i64 0, iC .i64 n679, bC false, bC true]]) 0 rfl rfl rfl sz2 rfl rfl rfl rfl rfl) (q := 0) rfl rfl ?_
          refine tn_end ?_
          refine E_seq ?_
          refine L_ops ?_
          refine ol_put rfl rfl rfl (q_loadP (v := .one (.p fr566 (Sl.t r56 s563))) 3 rfl sz23 rfl rfl rfl rfl) ?_
          obtain ⟨s680, h681, h⟩ := bindS h
          refine ol_put rfl rfl rfl (q_sliceS (r := r56) h681 rfl ty23 rfl ty57 (no_some rfl (cutS_some h681).1.1 _) (no_none _)) ?_
          refine ol_wr rfl rfl (q_store (es' := [[.p fr566 (Sl.t r56 s680)]]) 3 rfl rfl rfl sz23 rfl rfl rfl rfl rfl) rfl ?_
          refine ol_end ?_
          refine E_seq ?_
          refine L_seq ?_
          refine L_ops ?_
          refine ol_put rfl rfl rfl (q_move (v := .one (.yld k34)) rfl) ?_
          refine ol_put rfl rfl rfl (q_loadP (v := .agg [iC .i64 n678, iC .i64 0, iC .i64 n679, bC false, bC true]) 0 rfl sz64 rfl rfl rfl rfl) ?_
          refine ol_yield (args := [.agg [iC .i64 n678, iC .i64 0, iC .i64 n679, bC false, bC true]]) (p := 1) rfl rfl rfl rfl rfl rfl rfl rfl rfl ?_
          refine L_ops ?_
          refine ol_new rfl rfl rfl (q_alloc ty64 (row := [iC .i64 0, iC .i64 0, iC .i64 0, bC false, bC false]) rfl rfl) (fun k682 => ?_)
          refine ol_wr rfl rfl (q_store (es' := [[iC .i64 n678, iC .i64 0, iC .i64 n679, bC false, bC true]]) 0 rfl rfl rfl sz64 rfl rfl rfl rfl rfl) rfl ?_
          refine ol_end ?_
          refine E_asg ?_
          refine L_block ?_
          refine L_seq ?_
          refine L_ops ?_
          refine ol_put rfl rfl rfl (q_loadP (v := .one (.p true (.v (.func (.func 46) #[] #[])))) 6 rfl sz69 rfl rfl rfl rfl) ?_
          refine ol_put rfl rfl rfl (q_loadP (v := .agg [iC .i64 n678, iC .i64 0, iC .i64 n679, bC false, bC true]) 0 rfl sz64 rfl rfl rfl rfl) ?_
          obtain ⟨⟨⟨n684, n685⟩, b686⟩, h683, h⟩ := bindS h
          refine ol_put rfl rfl rfl (q_callF (v := .tup [.agg [iC .i64 n684, iC .u64 n685], .one (bC b686)]) (args := [.agg [iC .i64 n678, iC .i64 0, iC .i64 n679, bC false, bC true]]) (blend_Over_c1_r (m + 1) h683) rfl rfl (vw_cons (vd_agg (vc_cons vc_v (vc_cons vc_v (vc_cons vc_v (vc_cons vc_v (vc_cons vc_v vc_nil)))))) vw_nil) rfl rfl) ?_
          refine ol_put rfl rfl rfl (q_move (v := .tup [.agg [iC .i64 n684, iC .u64 n685], .one (bC b686)]) rfl) ?_
          refine ol_put rfl rfl rfl (q_ext (v := .agg [iC .i64 n684, iC .u64 n685]) rfl rfl) ?_
          refine ol_put rfl rfl rfl (q_ext (v := .one (bC b686)) rfl rfl) ?_
          refine ol_new rfl rfl rfl (q_alloc ty66 (row := [iC .i64 0, iC .u64 0]) rfl rfl) (fun k687 => ?_)
          refine ol_wr rfl rfl (q_store (es' := [[iC .i64 n684, iC .u64 n685]]) 0 rfl rfl rfl sz66 rfl rfl rfl rfl rfl) rfl ?_
          refine ol_put rfl rfl rfl (q_assign (v := .one (bC b686)) rfl) ?_
          refine ol_end ?_
          refine E_seq ?_
          refine L_seq ?_
          refine L_seq ?_
          refine L_ops ?_
          refine ol_put rfl rfl rfl (q_move (v := .one (bC b686)) rfl) ?_
          rcases b686 with _ | _
          · replace h := ifF (by decide) h
            refine ol_put rfl rfl rfl (q_not rfl) ?_
            refine ol_end ?_
            refine E_seq ?_
            refine L_condT rfl ?_
            refine L_exit ?_
            refine E_seqX ?_
            refine E_blkH ?_
            refine E_roundN (p := 3) rfl ?_
            refine ol_put rfl rfl rfl (q_not rfl) ?_
            refine ol_end ?_
            refine E_seq ?_
            refine L_condF rfl ?_
            refine L_skip ?_
            refine E_blkN ?_
            obtain rfl := Option.some.inj h
            exact E_next (fr565, fr566, k567) (ups_self ⟨rfl, rfl, rfl, trivial⟩) [3, 4, 5, 6, 7, 8, 9, 10, 11] (by decide) rfl
          · replace h := ifT (by decide) h
            refine ol_put rfl rfl rfl (q_not rfl) ?_
            refine ol_end ?_
            refine E_seq ?_
            refine L_condF rfl ?_
            refine L_skip ?_
            refine E_seq ?_
            refine L_seq ?_
            refine L_ops ?_
            refine ol_put rfl rfl rfl (q_loadP (v := .agg [iC .i64 n684, iC .u64 n685]) 0 rfl sz66 rfl rfl rfl rfl) ?_
            obtain ⟨⟨n689, b690⟩, h688, h⟩ := bindS h
            refine ol_put rfl rfl rfl (q_callF (v := .tup [.one (iC .i64 n689), .one (bC b690)]) (args := [.agg [iC .i64 n684, iC .u64 n685]]) (wide_Narrow_r (m + 1) h688) rfl rfl (vw_cons (vd_agg (vc_cons vc_v (vc_cons vc_v vc_nil))) vw_nil) rfl rfl) ?_
            refine ol_put rfl rfl rfl (q_move (v := .tup [.one (iC .i64 n689), .one (bC b690)]) rfl) ?_
            refine ol_put rfl rfl rfl (q_ext (v := .one (iC .i64 n689)) rfl rfl) ?_
            refine ol_put rfl rfl rfl (q_ext (v := .one (bC b690)) rfl rfl) ?_
            refine ol_put rfl rfl rfl (q_assign (v := .one (iC .i64 n689)) rfl) ?_
            refine ol_put rfl rfl rfl (q_assign (v := .one (bC b690)) rfl) ?_
            refine ol_end ?_
            refine E_seq ?_
            refine L_seq ?_
            refine L_seq ?_
            refine L_ops ?_
            refine ol_put rfl rfl rfl (q_move (v := .one (bC b690)) rfl) ?_
            rcases b690 with _ | _
            · replace h := ifF (by decide) h
              refine ol_put rfl rfl rfl (q_not rfl) ?_
              refine ol_end ?_
              refine E_seq ?_
              refine L_condT rfl ?_
              refine L_seq ?_
              refine L_ops ?_
              refine ol_put rfl rfl rfl (q_build (cs := [iC .i64 0, .p true (Sl.t r56 (⟨false, 0, []⟩ : Sl (Int × Int)))]) ty25 rfl pl25 rfl) ?_
              refine ol_wr rfl rfl (q_store (es' := [[iC .i64 0, .p true (Sl.t r56 (⟨false, 0, []⟩ : Sl (Int × Int)))]]) 8 rfl rfl rfl sz25 rfl rfl rfl rfl rfl) rfl ?_
              refine ol_wr rfl rfl (q_store (es' := [[iC .i64 12]]) 9 rfl rfl rfl sz28 rfl rfl rfl rfl rfl) rfl ?_
              refine ol_end ?_
              refine E_seq ?_
              refine L_ret ?_
              refine E_seqR ?_
              refine E_blkR ?_
              refine E_roundX (p := 3) (es := [[]]) rfl rfl rfl rfl ?_
              refine ol_put rfl rfl rfl (q_not rfl) ?_
              refine ol_end ?_
              refine E_seq ?_
              refine L_condT rfl ?_
              refine L_ret ?_
              refine E_blkR ?_
              obtain rfl := Option.some.inj h
              refine E_out ?_
              exact (E_je k567 (ups_self trivial) [6, 7, 8, 9, 10, 3, 11] (by decide) rfl)
            · replace h := ifT (by decide) h
              refine ol_put rfl rfl rfl (q_not rfl) ?_
              refine ol_end ?_
              refine E_seq ?_
              refine L_condF rfl ?_
              refine L_skip ?_
              refine E_seq ?_
              refine L_ops ?_
              refine ol_put rfl rfl rfl (q_fieldP rfl fa25_1 rfl) ?_
              refine ol_put rfl rfl rfl (q_loadP (v := .one (moC l564 k567)) 10 rfl sz23 rfl rfl rfl rfl) ?_
              refine ol_put rfl rfl rfl (q_fieldP rfl fa64_0 rfl) ?_
              refine ol_put rfl rfl rfl (q_loadP (v := .one (iC .i64 n678)) 1 rfl sz3 rfl rfl rfl rfl) ?_
              refine ol_put rfl rfl rfl (q_move (v := .one (iC .i64 n689)) rfl) ?_
              refine ol_put rfl rfl rfl (q_build (cs := [iC .i64 n678, iC .i64 n689]) ty57 rfl pl57 rfl) ?_
              refine ol_new rfl rfl rfl (q_bslice (cs := [iC .i64 n678, iC .i64 n689]) (es := (([(n678, n689)] : List (Int × Int))).map (rowC r56)) ty23 rfl ty57 rfl rfl rfl rfl rfl) (fun k691 => ?_)
              obtain ⟨_, h692, h⟩ := bindS h
              obtain ⟨h692b, rfl⟩ := app_some h692
              refine ol_appM (r := r56) (l := l564) (ys := ([(n678, n689)] : List (Int × Int))) 12 rfl rfl rfl rfl rfl rfl (el_ownM (l := ([(n678, n689)] : List (Int × Int))) 0 rfl) rfl h692 (fun y => rfl) el23 ty23 rfl rfl rfl rfl rfl (fun k693 => ?_)
              refine ol_put rfl rfl rfl (q_fieldP rfl fa25_1 rfl) ?_
              refine ol_wr rfl rfl (q_store (es' := [[iC .i64 n23, moC (l564 ++ ([(n678, n689)] : List (Int × Int))) k693]]) 12 rfl rfl rfl sz23 rfl rfl rfl rfl rfl) rfl ?_
              refine ol_end ?_
              refine E_blkN ?_
              refine E_roundN (p := 5) rfl ?_
              refine ol_put rfl rfl rfl (q_not rfl) ?_
              refine ol_end ?_
              refine E_seq ?_
              refine L_condF rfl ?_
              refine L_skip ?_
              refine E_blkN ?_
              obtain rfl := Option.some.inj h
              exact E_next (fr565, fr566, k693) (ups_self ⟨rfl, rfl, rfl, trivial⟩) [5, 6, 7, 8, 9, 10, 11, 12, 0] (by decide) rfl
        · replace h := ifF c667 h
          refine ol_put rfl rfl rfl (q_bin rfl rfl (p_gtr_f _ _ _ _ _ c667) rfl) ?_
          refine ol_put rfl rfl rfl (q_pickF (v := .one (bC false)) rfl rfl) ?_
          refine ol_end ?_
          refine E_seq ?_
          refine L_condF rfl ?_
          refine L_exit ?_
          refine E_seqX ?_
          obtain rfl := Option.some.inj h
          refine E_out ?_
          exact E_js ((E_je k567 (ups_self trivial) [3, 4, 5, 6, 7, 0, 8] (by decide) rfl))
    · rintro (l694 | l696 | u) h
      · refine J_e (fun k695 g => ?_)
        replace h := elimL h
        refine E_blkR ?_
        refine E_range (p := 5) (.inr rfl) rfl ?_
        refine E_blkR ?_
        refine E_seqR ?_
        refine E_call (v := .tup [.agg [iC .i64 0, .p true (Sl.t r56 (⟨false, 0, []⟩ : Sl (Int × Int)))], .one (iC .i64 12)]) (.inr rfl) (res_cell (d := .agg [iC .i64 0, .p true (Sl.t r56 (⟨false, 0, []⟩ : Sl (Int × Int)))]) 2 rfl sz25 rfl rfl rfl rfl (res_cell (d := .one (iC .i64 12)) 3 rfl sz28 rfl rfl rfl rfl res_nil)) rfl ?_
        refine ol_put rfl rfl rfl (q_ext (v := .agg [iC .i64 0, .p true (Sl.t r56 (⟨false, 0, []⟩ : Sl (Int × Int)))]) rfl rfl) ?_
        refine ol_put rfl rfl rfl (q_ext (v := .one (iC .i64 12)) rfl rfl) ?_
        refine ol_wr rfl rfl (q_store (es' := [[iC .i64 0, .p true (Sl.t r56 (⟨false, 0, []⟩ : Sl (Int × Int)))]]) 0 rfl rfl rfl sz25 rfl rfl rfl rfl rfl) rfl ?_
        refine ol_put rfl rfl rfl (q_assign (v := .one (iC .i64 12)) rfl) ?_
        refine ol_end ?_
        refine E_seq ?_
        refine L_ret ?_
        obtain rfl := Option.some.inj h
        exact E_endF (.inr rfl) (res_cell (d := .agg [iC .i64 0, .p true (Sl.t r56 (⟨false, 0, []⟩ : Sl (Int × Int)))]) 0 rfl sz25 rfl rfl rfl rfl (res_tmp rfl res_nil)) (vw_cons (vd_agg (vc_cons vc_v (vc_cons vc_s vc_nil))) (vw_cons (vd_one vc_v) vw_nil)) (fun h hb => own_no2) rfl rfl
      · refine J_s (J_e (fun k697 g => ?_))
        replace h := elimL (elimR h)
        refine E_blkH ?_
        refine E_range (p := 5) (.inl rfl) rfl ?_
        refine E_blkN ?_
        refine E_seq ?_
        refine L_seq ?_
        refine L_ops ?_
        refine ol_put rfl rfl rfl (q_loadP (v := .agg [iC .i64 n23, moC l696 k697]) 4 rfl sz25 rfl rfl rfl rfl) ?_
        refine ol_wr rfl rfl (q_store (es' := [[iC .i64 n23, moC l696 k697]]) 2 rfl rfl rfl sz25 rfl rfl rfl rfl rfl) rfl ?_
        refine ol_wr rfl rfl (q_store (es' := [[iC .i64 0]]) 3 rfl rfl rfl sz28 rfl rfl rfl rfl rfl) rfl ?_
        refine ol_end ?_
        refine E_seq ?_
        refine L_ret ?_
        refine E_call (v := .tup [.agg [iC .i64 n23, moC l696 k697], .one (iC .i64 0)]) (.inr rfl) (res_cell (d := .agg [iC .i64 n23, moC l696 k697]) 2 rfl sz25 rfl rfl rfl rfl (res_cell (d := .one (iC .i64 0)) 3 rfl sz28 rfl rfl rfl rfl res_nil)) rfl ?_
        refine ol_put rfl rfl rfl (q_ext (v := .agg [iC .i64 n23, moC l696 k697]) rfl rfl) ?_
        refine ol_put rfl rfl rfl (q_ext (v := .one (iC .i64 0)) rfl rfl) ?_
        refine ol_wr rfl rfl (q_store (es' := [[iC .i64 n23, moC l696 k697]]) 0 rfl rfl rfl sz25 rfl rfl rfl rfl rfl) rfl ?_
        refine ol_put rfl rfl rfl (q_assign (v := .one (iC .i64 0)) rfl) ?_
        refine ol_end ?_
        refine E_seq ?_
        refine L_ret ?_
        obtain rfl := Option.some.inj h
        exact E_endF (.inr rfl) (res_cell (d := .agg [iC .i64 n23, moC l696 k697]) 0 rfl sz25 rfl rfl rfl rfl (res_tmp rfl res_nil)) (vw_cons (vd_agg (vc_cons vc_v (vc_cons (vc_M (r := r56) 6 rfl (fun x h m => rfl)) vc_nil))) (vw_cons (vd_one vc_v) vw_nil)) (fun h hb => own_no2) rfl rfl
      · exact u.elim
end Ev
end Go.Proofs.Ytlcfdmjkbaegpaa
