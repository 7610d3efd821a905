/- Functions of the program as functions on data, and that they are. -/
import Derived.Test.YtlcfdmjkbaegpaaLf1
import Derived.Test.YtlcfdmjkbaegpaaLf10
import Derived.Test.YtlcfdmjkbaegpaaLf2
import Derived.Test.YtlcfdmjkbaegpaaLf5
import Derived.Test.YtlcfdmjkbaegpaaLy1
namespace Go.Proofs.Ytlcfdmjkbaegpaa
namespace Ev
open Go
set_option linter.unusedVariables false
set_option linter.unusedSimpArgs false
set_option maxRecDepth 100000
set_option maxHeartbeats 1000000
attribute [local irreducible] OpsL StL TnL WpL EndL
noncomputable def blend_Meet_b1 (n1 : Int) (a : (Sl (Int × Int)) × (Sl (Int × Int)) × (List (Int × Int))) : Option (((Sl (Int × Int)) × (Sl (Int × Int)) × (List (Int × Int))) ⊕ ((List (Int × Int)) ⊕ ((List (Int × Int)) ⊕ Empty))) :=
  match a with
  | (s431, s432, l433) => (if ((s431.l.length : Nat) : Int) > 0 then (if ((s432.l.length : Nat) : Int) = 0 then ((atS 2 s431 0).bind fun (n459, n460) => ((cutS 2 s431 1 ((s431.l.length : Nat) : Int)).bind fun s461 => ((ring_Mul n1 n460 0).bind fun (n471, n472) => some (.inl (s461, s432, l433))))) else ((atS 2 s431 0).bind fun (n476, n477) => ((atS 2 s432 0).bind fun (n480, n481) => (if n476 ≤ n480 then (if n480 ≤ n476 then ((cutS 2 s431 1 ((s431.l.length : Nat) : Int)).bind fun s487 => ((cutS 2 s432 1 ((s432.l.length : Nat) : Int)).bind fun s490 => ((ring_Mul n1 n477 n481).bind fun (n500, n501) => ((wide_Narrow (n500, n501)).bind fun (n504, b505) => (if b505 = true then ((app l433 ([(n480, n504)] : List (Int × Int))).bind fun _ => some (.inl (s487, s490, (l433 ++ ([(n480, n504)] : List (Int × Int)))))) else some (.inr (.inl l433))))))) else ((cutS 2 s431 1 ((s431.l.length : Nat) : Int)).bind fun s510 => ((ring_Mul n1 n477 0).bind fun (n520, n521) => some (.inl (s510, s432, l433))))) else ((cutS 2 s432 1 ((s432.l.length : Nat) : Int)).bind fun s525 => ((ring_Mul n1 0 n481).bind fun (n535, n536) => some (.inl (s431, s525, l433)))))))) else (if ((s432.l.length : Nat) : Int) > 0 then ((atS 2 s432 0).bind fun (n549, n550) => ((cutS 2 s432 1 ((s432.l.length : Nat) : Int)).bind fun s551 => ((ring_Mul n1 0 n550).bind fun (n561, n562) => some (.inl (s431, s551, l433))))) else some (.inr (.inr (.inl l433)))))
noncomputable def blend_Meet (n1 : Int) (a1 : Int × (Sl (Int × Int))) (a2 : Int × (Sl (Int × Int))) : Option ((Int × (Sl (Int × Int))) × Int) :=
  match a1, a2 with
  | (n2, s3), (n4, s5) => ((ring_Is n1).bind fun b11 => (if b11 = true then ((blend_sure (n2, s3)).bind fun (n27, s28) => ((blend_sure (n4, s5)).bind fun (n31, s32) => (if n27 ≠ n31 then some ((0, (⟨false, 0, []⟩ : Sl (Int × Int))), 4) else ((loopO (blend_Meet_b1 n1) (s28, s32, ([] : List (Int × Int)))).bind ((Sum.elim (fun l564 => some ((0, (⟨false, 0, []⟩ : Sl (Int × Int))), 12)) (Sum.elim (fun l566 => some ((n27, (mo 2 l566)), 0)) (fun u => u.elim)))))))) else some ((0, (⟨false, 0, []⟩ : Sl (Int × Int))), 8)))
theorem blend_Meet_r (m : Nat) {n1 : Int} {a1 : Int × (Sl (Int × Int))} {a2 : Int × (Sl (Int × Int))} {out : (Int × (Sl (Int × Int))) × Int} (h : blend_Meet n1 a1 a2 = some out) : RunsP E1 (m + 6) 14 [.one (iT .i64 n1), .agg (r24 a1), .agg (r24 a2)] (.fresh, [.agg (r24 out.1), .one (iT .i64 out.2)]) := by
  obtain ⟨n2, s3⟩ := a1
  obtain ⟨n4, s5⟩ := a2
  refine fn_F rfl (by rw [E1_fn]; exact show fiOf Try.prog 14 = _ by unfold fiOf; rw [Try.func14]; unfold Try.f14; rfl) rfl ?_
  dsimp only
  unfold blend_Meet at h
  refine L_seq ?_
  refine L_ops ?_
  refine ol_new rfl rfl rfl (q_box ty22 rfl (cs := [iC .i64 n1]) rfl rfl) (fun k6 => ?_)
  refine ol_new rfl rfl rfl (q_box ty25 rfl (cs := [iC .i64 n2, .p false (Sl.t r56 s3)]) rfl rfl) (fun k7 => ?_)
  refine ol_new rfl rfl rfl (q_box ty25 rfl (cs := [iC .i64 n4, .p false (Sl.t r56 s5)]) rfl rfl) (fun k8 => ?_)
  refine ol_new rfl rfl rfl (q_alloc ty25 (row := [iC .i64 0, .p true (Sl.t r56 (⟨false, 0, []⟩ : Sl (Int × Int)))]) rfl rfl) (fun k9 => ?_)
  refine ol_put rfl rfl rfl (q_assign (v := .one (iC .i64 0)) rfl) ?_
  refine ol_end ?_
  refine E_seq ?_
  refine L_seq ?_
  refine L_seq ?_
  refine L_ops ?_
  refine ol_put rfl rfl rfl (q_loadP (v := .one (iC .i64 n1)) 3 rfl sz22 rfl rfl rfl rfl) ?_
  obtain ⟨b11, h10, h⟩ := bindS h
  refine ol_put rfl rfl rfl (q_callF (v := .one (bC b11)) (args := [.one (iC .i64 n1)]) (ring_Is_r (m + 4) h10) rfl rfl (vw_cons (vd_one vc_v) vw_nil) rfl rfl) ?_
  rcases b11 with _ | _
  · replace h := ifF (by decide) h
    refine ol_put rfl rfl rfl (q_not rfl) ?_
    refine ol_end ?_
    refine E_seq ?_
    refine L_condT rfl ?_
    refine L_seq ?_
    refine L_ops ?_
    refine ol_put rfl rfl rfl (q_build (cs := [iC .i64 0, .p true (Sl.t r56 (⟨false, 0, []⟩ : Sl (Int × Int)))]) ty25 rfl pl25 rfl) ?_
    refine ol_wr rfl rfl (q_store (es' := [[iC .i64 0, .p true (Sl.t r56 (⟨false, 0, []⟩ : Sl (Int × Int)))]]) 0 rfl rfl rfl sz25 rfl rfl rfl rfl rfl) rfl ?_
    refine ol_put rfl rfl rfl (q_assign (v := .one (iC .i64 8)) rfl) ?_
    refine ol_end ?_
    refine E_seq ?_
    refine L_ret ?_
    refine E_seqR ?_
    obtain rfl := Option.some.inj h
    exact E_endF (.inr rfl) (res_cell (d := .agg [iC .i64 0, .p true (Sl.t r56 (⟨false, 0, []⟩ : Sl (Int × Int)))]) 0 rfl sz25 rfl rfl rfl rfl (res_tmp rfl res_nil)) (vw_cons (vd_agg (vc_cons vc_v (vc_cons vc_s vc_nil))) (vw_cons (vd_one vc_v) vw_nil)) (fun h hb => own_no2) rfl rfl
  · replace h := ifT (by decide) h
    refine ol_put rfl rfl rfl (q_not rfl) ?_
    refine ol_end ?_
    refine E_seq ?_
    refine L_condF rfl ?_
    refine L_skip ?_
    refine E_seq ?_
    refine L_seq ?_
    refine L_ops ?_
    refine ol_put rfl rfl rfl (q_loadP (v := .agg [iC .i64 n2, .p false (Sl.t r56 s3)]) 2 rfl sz25 rfl rfl rfl rfl) ?_
    refine ol_put rfl rfl rfl (q_loadP (v := .agg [iC .i64 n4, .p false (Sl.t r56 s5)]) 1 rfl sz25 rfl rfl rfl rfl) ?_
    refine ol_put rfl rfl rfl (q_mkfun rfl rfl) ?_
    refine ol_scallN (args := [.agg [iC .i64 n2, .p false (Sl.t r56 s3)], .agg [iC .i64 n4, .p false (Sl.t r56 s5)], .one (.clo (.func 42) [] [.ptr k6 0 0])]) rfl rfl rfl ax33 (by rw [E1_fn]; exact show fiOf Try.prog 33 = _ by unfold fiOf; rw [Try.func33]; unfold Try.f33; rfl) rfl rfl rfl ?_
    dsimp only
    refine L_seq ?_
    refine L_ops ?_
    refine ol_new rfl rfl rfl (q_box ty25 rfl (cs := [iC .i64 n2, .p false (Sl.t r56 s3)]) rfl rfl) (fun k12 => ?_)
    refine ol_new rfl rfl rfl (q_box ty25 rfl (cs := [iC .i64 n4, .p false (Sl.t r56 s5)]) rfl rfl) (fun k13 => ?_)
    refine ol_new rfl rfl rfl (q_box ty69 rfl (cs := [.clo (.func 42) [] [.ptr k6 0 0]]) rfl rfl) (fun k14 => ?_)
    refine ol_new rfl rfl rfl (q_alloc ty25 (row := [iC .i64 0, .p true (Sl.t r56 (⟨false, 0, []⟩ : Sl (Int × Int)))]) rfl rfl) (fun k15 => ?_)
    refine ol_new rfl rfl rfl (q_alloc ty28 (row := [iC .i64 0]) rfl rfl) (fun k16 => ?_)
    refine ol_end ?_
    refine E_seq ?_
    refine L_seq ?_
    refine L_norm (L2 := ([[(k16, 1, [[iC .i64 0]])], [(k15, 2, [[iC .i64 0, .p true (Sl.t r56 (⟨false, 0, []⟩ : Sl (Int × Int)))]])], [(k14, 1, [[.clo (.func 42) [] [.ptr k6 0 0]]])], [(k13, 2, [[iC .i64 n4, .p false (Sl.t r56 s5)]])], [(k12, 2, [[iC .i64 n2, .p false (Sl.t r56 s3)]])], [(k9, 2, [[iC .i64 0, .p true (Sl.t r56 (⟨false, 0, []⟩ : Sl (Int × Int)))]])], [(k6, 1, [[iC .i64 n1]])]] : BL)) [0, 1, 2, 3, 4, 5, 8] (by decide) rfl ?_
    refine L_turn 6 rfl [[], [], [], [], [k12], [k13]] [(false, []), (false, []), (false, []), (false, []), (false, []), (false, [])] [[2], [2], [0, 1], [], [], []] (by kernel_rfl) (by kernel_rfl) (by kernel_rfl) ?_ (fun bb17 hlt hnd => ?_)
    · intro bb17 hlt hnd
      exact ⟨⟨djE, ⟨djE, ⟨djE, ⟨djE, ⟨djN, ⟨djN, trivial⟩⟩⟩⟩⟩⟩, (ltO_cons ltK_nil (ltO_cons ltK_nil (ltO_cons ltK_nil (ltO_cons ltK_nil (ltO_cons (ltK_cons (key_lt hlt 4 rfl) ltK_nil) (ltO_cons (ltK_cons (key_lt hlt 3 rfl) ltK_nil) ltO_nil))))))⟩
    refine tn_put rfl rfl rfl [4] (by decide) rfl (hm0 rfl) rfl (q_loadP (v := .agg [iC .i64 n2, .p false (Sl.t r56 s3)]) 0 rfl sz25 rfl rfl rfl rfl) ?_
    obtain ⟨⟨n27, s28⟩, h26, h⟩ := bindS h
    refine tn_putX rfl rfl rfl [] (by decide) rfl (hm0 rfl) rfl (q_callX (v := fun fr29 => .agg [iC .i64 n27, .p fr29 (Sl.t r56 s28)]) (args := [.agg [iC .i64 n2, .p false (Sl.t r56 s3)]]) (blend_sure_r (m + 1) h26) rfl rfl (vw_cons (vd_agg (vc_cons vc_v (vc_cons vc_s vc_nil))) vw_nil) rfl rfl (fun fr => rfl)) (fun fr29 => ?_)
    refine tn_put rfl rfl rfl [3] (by decide) rfl (hm0 rfl) rfl (q_loadP (v := .agg [iC .i64 n4, .p false (Sl.t r56 s5)]) 0 rfl sz25 rfl rfl rfl rfl) ?_
    obtain ⟨⟨n31, s32⟩, h30, h⟩ := bindS h
    refine tn_putX rfl rfl rfl [] (by decide) rfl (hm0 rfl) rfl (q_callX (v := fun fr33 => .agg [iC .i64 n31, .p fr33 (Sl.t r56 s32)]) (args := [.agg [iC .i64 n4, .p false (Sl.t r56 s5)]]) (blend_sure_r (m + 1) h30) rfl rfl (vw_cons (vd_agg (vc_cons vc_v (vc_cons vc_s vc_nil))) vw_nil) rfl rfl (fun fr => rfl)) (fun fr33 => ?_)
    refine tn_wr rfl rfl [4] (by decide) rfl (hm0 rfl) rfl (q_store (es' := [[iC .i64 n27, .p fr29 (Sl.t r56 s28)]]) 0 rfl rfl rfl sz25 rfl rfl rfl rfl rfl) (q := 4) rfl rfl ?_
    refine tn_wr rfl rfl [3] (by decide) rfl (hm0 rfl) rfl (q_store (es' := [[iC .i64 n31, .p fr33 (Sl.t r56 s32)]]) 0 rfl rfl rfl sz25 rfl rfl rfl rfl rfl) (q := 3) rfl rfl ?_
    refine tn_end ?_
    refine E_seq ?_
    refine L_seq ?_
    refine L_seq ?_
    refine L_ops ?_
    refine ol_put rfl rfl rfl (q_fieldP rfl fa25_0 rfl) ?_
    refine ol_put rfl rfl rfl (q_loadP (v := .one (iC .i64 n27)) 4 rfl sz3 rfl rfl rfl rfl) ?_
    refine ol_put rfl rfl rfl (q_fieldP rfl fa25_0 rfl) ?_
    refine ol_put rfl rfl rfl (q_loadP (v := .one (iC .i64 n31)) 3 rfl sz3 rfl rfl rfl rfl) ?_
    by_cases c34 : n27 ≠ n31
    · replace h := ifT c34 h
      refine ol_put rfl rfl rfl (q_bin rfl rfl (p_neq_t _ _ _ _ _ c34) rfl) ?_
      refine ol_end ?_
      refine E_seq ?_
      refine L_condT rfl ?_
      refine L_seq ?_
      refine L_ops ?_
      refine ol_put rfl rfl rfl (q_build (cs := [iC .i64 0, .p true (Sl.t r56 (⟨false, 0, []⟩ : Sl (Int × Int)))]) ty25 rfl pl25 rfl) ?_
      refine ol_wr rfl rfl (q_store (es' := [[iC .i64 0, .p true (Sl.t r56 (⟨false, 0, []⟩ : Sl (Int × Int)))]]) 1 rfl rfl rfl sz25 rfl rfl rfl rfl rfl) rfl ?_
      refine ol_wr rfl rfl (q_store (es' := [[iC .i64 4]]) 0 rfl rfl rfl sz28 rfl rfl rfl rfl rfl) rfl ?_
      refine ol_end ?_
      refine E_seq ?_
      refine L_ret ?_
      refine E_seqR ?_
      refine E_call (v := .tup [.agg [iC .i64 0, .p true (Sl.t r56 (⟨false, 0, []⟩ : Sl (Int × Int)))], .one (iC .i64 4)]) (.inr rfl) (res_cell (d := .agg [iC .i64 0, .p true (Sl.t r56 (⟨false, 0, []⟩ : Sl (Int × Int)))]) 1 rfl sz25 rfl rfl rfl rfl (res_cell (d := .one (iC .i64 4)) 0 rfl sz28 rfl rfl rfl rfl res_nil)) rfl ?_
      refine ol_put rfl rfl rfl (q_ext (v := .agg [iC .i64 0, .p true (Sl.t r56 (⟨false, 0, []⟩ : Sl (Int × Int)))]) rfl rfl) ?_
      refine ol_put rfl rfl rfl (q_ext (v := .one (iC .i64 4)) rfl rfl) ?_
      refine ol_wr rfl rfl (q_store (es' := [[iC .i64 0, .p true (Sl.t r56 (⟨false, 0, []⟩ : Sl (Int × Int)))]]) 5 rfl rfl rfl sz25 rfl rfl rfl rfl rfl) rfl ?_
      refine ol_put rfl rfl rfl (q_assign (v := .one (iC .i64 4)) rfl) ?_
      refine ol_end ?_
      refine E_seq ?_
      refine L_ret ?_
      obtain rfl := Option.some.inj h
      exact E_endF (.inr rfl) (res_cell (d := .agg [iC .i64 0, .p true (Sl.t r56 (⟨false, 0, []⟩ : Sl (Int × Int)))]) 5 rfl sz25 rfl rfl rfl rfl (res_tmp rfl res_nil)) (vw_cons (vd_agg (vc_cons vc_v (vc_cons vc_s vc_nil))) (vw_cons (vd_one vc_v) vw_nil)) (fun h hb => own_no2) rfl rfl
    · replace h := ifF c34 h
      refine ol_put rfl rfl rfl (q_bin rfl rfl (p_neq_f _ _ _ _ _ c34) rfl) ?_
      refine ol_end ?_
      refine E_seq ?_
      refine L_condF rfl ?_
      refine L_skip ?_
      refine E_seq ?_
      refine L_seq ?_
      refine L_ops ?_
      refine ol_put rfl rfl rfl (q_fieldP rfl fa25_0 rfl) ?_
      refine ol_put rfl rfl rfl (q_loadP (v := .one (iC .i64 n27)) 4 rfl sz3 rfl rfl rfl rfl) ?_
      refine ol_put rfl rfl rfl (q_build (cs := [iC .i64 n27, .p true (Sl.t r56 (⟨false, 0, []⟩ : Sl (Int × Int)))]) ty25 rfl pl25 rfl) ?_
      refine ol_new rfl rfl rfl (q_alloc ty25 (row := [iC .i64 0, .p true (Sl.t r56 (⟨false, 0, []⟩ : Sl (Int × Int)))]) rfl rfl) (fun k35 => ?_)
      refine ol_wr rfl rfl (q_store (es' := [[iC .i64 n27, .p true (Sl.t r56 (⟨false, 0, []⟩ : Sl (Int × Int)))]]) 0 rfl rfl rfl sz25 rfl rfl rfl rfl rfl) rfl ?_
      refine ol_end ?_
      refine E_seq ?_
      refine L_seq ?_
      refine L_seq ?_
      refine L_ops ?_
      refine ol_put rfl rfl rfl (q_fieldP rfl fa25_1 rfl) ?_
      refine ol_put rfl rfl rfl (q_loadP (v := .one (.p fr29 (Sl.t r56 s28))) 5 rfl sz23 rfl rfl rfl rfl) ?_
      refine ol_put rfl rfl rfl (q_fieldP rfl fa25_1 rfl) ?_
      refine ol_put rfl rfl rfl (q_loadP (v := .one (.p fr33 (Sl.t r56 s32))) 4 rfl sz23 rfl rfl rfl rfl) ?_
      refine ol_scallN (args := [.one (.p fr29 (Sl.t r56 s28)), .one (.p fr33 (Sl.t r56 s32))]) rfl rfl rfl ax60 (by rw [E1_fn]; exact show fiOf Try.prog 60 = _ by unfold fiOf; rw [Try.func60]; unfold Try.f60; rfl) rfl rfl rfl ?_
      dsimp only
      refine L_seq ?_
      refine L_ops ?_
      refine ol_new rfl rfl rfl (q_box ty23 rfl (cs := [.p fr29 (Sl.t r56 s28)]) rfl rfl) (fun k36 => ?_)
      refine ol_new rfl rfl rfl (q_box ty23 rfl (cs := [.p fr33 (Sl.t r56 s32)]) rfl rfl) (fun k37 => ?_)
      refine ol_put rfl rfl rfl (q_assign (v := .one (.p true (.v .nilFunc))) rfl) ?_
      refine ol_end ?_
      refine E_seq ?_
      refine L_seq ?_
      refine L_ops ?_
      refine ol_put rfl rfl rfl (q_mkfun rfl rfl) ?_
      refine ol_put rfl rfl rfl (q_assign (v := .one (.clo (.func 77) [] [.ptr k36 0 0, .ptr k37 0 0])) rfl) ?_
      refine ol_end ?_
      refine E_seq ?_
      refine L_ret ?_
      refine E_call (v := .one (.clo (.func 77) [] [.ptr k36 0 0, .ptr k37 0 0])) (.inr rfl) (res_tmp (d := .one (.clo (.func 77) [] [.ptr k36 0 0, .ptr k37 0 0])) rfl res_nil) rfl ?_
      refine ol_end ?_
      refine E_seq ?_
      refine L_block ?_
      refine L_range rfl (by rw [E1_fn]; exact show fiOf Try.prog 77 = _ by unfold fiOf; rw [Try.func77]; unfold Try.f77; rfl) rfl rfl (fun k38 => ?_)
      dsimp only
      refine L_block ?_
      refine L_addM (α := Int × Int) r56 2 ?_
      let S1 : ((Sl (Int × Int)) × (Sl (Int × Int)) × (List (Int × Int))) → (Bool × Bool × Nat) → (Nat → D) → Nat → D := fun a kt g => ups g [(0, .one (.yld k38)), (1, .one (.ptr k36 0 0)), (2, .one (.ptr k37 0 0))]
      let SL1 : ((Sl (Int × Int)) × (Sl (Int × Int)) × (List (Int × Int))) → (Bool × Bool × Nat) → BL := fun a kt => ([[(k38, 0, [])], [(k36, 1, [[.p kt.1 (Sl.t r56 a.1)]])], [(k37, 1, [[.p kt.2.1 (Sl.t r56 a.2.1)]])], [(k9, 2, [[iC .i64 0, .p true (Sl.t r56 (⟨false, 0, []⟩ : Sl (Int × Int)))]])], [(k14, 1, [[.clo (.func 42) [] [.ptr k6 0 0]]])], [(k15, 2, [[iC .i64 0, .p true (Sl.t r56 (⟨false, 0, []⟩ : Sl (Int × Int)))]])], [(k16, 1, [[iC .i64 0]])], [(k35, 2, [[iC .i64 n27, moC a.2.2 kt.2.2]])], [(k6, 1, [[iC .i64 n1]])], moL r56 2 a.2.2 kt.2.2] : BL)
      let G1 : Empty → Ex → St → Prop := fun u => u.elim
      let Sx1_1 : (List (Int × Int)) → Nat → (Nat → D) → Nat → D := fun a kt g => ups g []
      let SLx1_1 : (List (Int × Int)) → Nat → BL := fun a kt => ([[(k9, 2, [[iC .i64 0, .p true (Sl.t r56 (⟨false, 0, []⟩ : Sl (Int × Int)))]])], [(k14, 1, [[.clo (.func 42) [] [.ptr k6 0 0]]])], [(k15, 2, [[iC .i64 0, .p true (Sl.t r56 (⟨false, 0, []⟩ : Sl (Int × Int)))]])], [(k16, 1, [[iC .i64 0]])], [(k35, 2, [[iC .i64 n27, moC a kt]])], [(k38, 0, [])], [(k6, 1, [[iC .i64 n1]])], moL r56 2 a kt] : BL)
      let Sx1_0 : (List (Int × Int)) → Nat → (Nat → D) → Nat → D := fun a kt g => ups g []
      let SLx1_0 : (List (Int × Int)) → Nat → BL := fun a kt => ([[(k9, 2, [[iC .i64 0, .p true (Sl.t r56 (⟨false, 0, []⟩ : Sl (Int × Int)))]])], [(k14, 1, [[.clo (.func 42) [] [.ptr k6 0 0]]])], [(k15, 2, [[iC .i64 0, .p true (Sl.t r56 (⟨false, 0, []⟩ : Sl (Int × Int)))]])], [(k16, 1, [[iC .i64 12]])], [(k35, 2, [[iC .i64 n27, moC a kt]])], [(k38, 0, [[]])], [(k6, 1, [[iC .i64 n1]])], moL r56 2 a kt] : BL)
      let J1 : ((List (Int × Int)) ⊕ ((List (Int × Int)) ⊕ Empty)) → Ex → St → Prop := JE 85 .ret Sx1_0 SLx1_0 (JE 85 (.exit 0) Sx1_1 SLx1_1 (JU G1))
      refine L_loopS (blend_Meet_b1 n1) S1 SL1 J1 (JE_n rfl (JE_n rfl (JU_n))) (s28, s32, ([] : List (Int × Int))) h (fr29, fr33, 1429) (ups_self ⟨rfl, rfl, rfl, trivial⟩) [1, 3, 2, 10, 7, 6, 5, 4, 11, 0] (by decide) rfl ?_ ?_
      · rintro ⟨s431, s432, l433⟩ ⟨fr434, fr435, k436⟩ g out h
        change blend_Meet_b1 n1 (s431, s432, l433) = some out at h
        unfold blend_Meet_b1 at h
        refine L_seq ?_
        refine L_seq ?_
        refine L_ops ?_
        refine ol_put rfl rfl rfl (q_loadP (v := .one (.p fr434 (Sl.t r56 s431))) 1 rfl sz23 rfl rfl rfl rfl) ?_
        refine ol_put rfl rfl rfl (q_lenS rfl ty23 rfl rfl rfl rfl) ?_
        by_cases c437 : ((s431.l.length : Nat) : Int) > 0
        · replace h := ifT c437 h
          refine ol_put rfl rfl rfl (q_bin rfl rfl (p_gtr_t _ _ _ _ _ c437) rfl) ?_
          refine ol_put rfl rfl rfl (q_move (v := .one (bC true)) rfl) ?_
          refine ol_skip rfl rfl rfl ?_
          refine ol_skip rfl rfl rfl ?_
          refine ol_skip rfl rfl rfl ?_
          refine ol_put rfl rfl rfl (q_pickT (v := .one (bC true)) rfl rfl) ?_
          refine ol_end ?_
          refine E_seq ?_
          refine L_condT rfl ?_
          refine L_skip ?_
          refine E_seq ?_
          refine L_block ?_
          refine L_seq ?_
          refine L_ops ?_
          refine ol_new rfl rfl rfl (q_alloc ty64 (row := [iC .i64 0, iC .i64 0, iC .i64 0, bC false, bC false]) rfl rfl) (fun k438 => ?_)
          refine ol_end ?_
          refine E_seq ?_
          refine L_seq ?_
          refine L_norm (L2 := ([[(k438, 5, [[iC .i64 0, iC .i64 0, iC .i64 0, bC false, bC false]])], [(k38, 0, [])], [(k36, 1, [[.p fr434 (Sl.t r56 s431)]])], [(k37, 1, [[.p fr435 (Sl.t r56 s432)]])], [(k9, 2, [[iC .i64 0, .p true (Sl.t r56 (⟨false, 0, []⟩ : Sl (Int × Int)))]])], [(k14, 1, [[.clo (.func 42) [] [.ptr k6 0 0]]])], [(k15, 2, [[iC .i64 0, .p true (Sl.t r56 (⟨false, 0, []⟩ : Sl (Int × Int)))]])], [(k16, 1, [[iC .i64 0]])], [(k35, 2, [[iC .i64 n27, moC l433 k436]])], [(k6, 1, [[iC .i64 n1]])], moL r56 2 l433 k436] : BL)) [0, 1, 2, 3, 4, 5, 6, 7, 8, 9, 10] (by decide) rfl ?_
          refine L_turn 21 rfl [[], [], [], [], [], [], [], [], [], [], [], [], [], [], [], [], [], [], [], [], [k438]] [(false, []), (false, []), (false, []), (false, []), (false, []), (false, []), (false, []), (false, []), (false, []), (false, []), (false, []), (false, []), (false, []), (false, []), (false, []), (false, []), (false, []), (false, []), (false, []), (false, []), (false, [])] [[], [], [], [], [], [], [], [], [12, 13, 14, 15], [12, 13, 14, 15], [12, 13, 14, 15], [12, 13, 14, 15], [8, 9, 10, 11], [8, 9, 10, 11], [8, 9, 10, 11], [8, 9, 10, 11], [], [], [], [], []] (by kernel_rfl) (by kernel_rfl) (by kernel_rfl) ?_ (fun bb439 hlt hnd => ?_)
          · intro bb439 hlt hnd
            exact ⟨⟨djE, ⟨djE, ⟨djE, ⟨djE, ⟨djE, ⟨djE, ⟨djE, ⟨djE, ⟨djE, ⟨djE, ⟨djE, ⟨djE, ⟨djE, ⟨djE, ⟨djE, ⟨djE, ⟨djE, ⟨djE, ⟨djE, ⟨djE, ⟨djN, trivial⟩⟩⟩⟩⟩⟩⟩⟩⟩⟩⟩⟩⟩⟩⟩⟩⟩⟩⟩⟩⟩, (ltO_cons ltK_nil (ltO_cons ltK_nil (ltO_cons ltK_nil (ltO_cons ltK_nil (ltO_cons ltK_nil (ltO_cons ltK_nil (ltO_cons ltK_nil (ltO_cons ltK_nil (ltO_cons ltK_nil (ltO_cons ltK_nil (ltO_cons ltK_nil (ltO_cons ltK_nil (ltO_cons ltK_nil (ltO_cons ltK_nil (ltO_cons ltK_nil (ltO_cons ltK_nil (ltO_cons ltK_nil (ltO_cons ltK_nil (ltO_cons ltK_nil (ltO_cons ltK_nil (ltO_cons (ltK_cons (key_lt hlt 0 rfl) ltK_nil) ltO_nil)))))))))))))))))))))⟩
          have e_k436 : l433 = [] ∨ k436 < bb439 := key_ltM (r := r56) (w := 2) hlt 10 rfl
          refine tn_put rfl rfl rfl [3] (by decide) rfl (hm0 rfl) rfl (q_loadP (v := .one (.p fr435 (Sl.t r56 s432))) 0 rfl sz23 rfl rfl rfl rfl) ?_
          refine tn_put rfl rfl rfl [] (by decide) rfl (hm0 rfl) rfl (q_lenS rfl ty23 rfl rfl rfl rfl) ?_
          by_cases c450 : ((s432.l.length : Nat) : Int) = 0
          · replace h := ifT c450 h
            refine tn_put rfl rfl rfl [] (by decide) rfl (hm0 rfl) rfl (q_bin rfl rfl (p_eql_t _ _ _ _ _ c450) rfl) ?_
            refine tn_put rfl rfl rfl [] (by decide) rfl (hm0 rfl) rfl (q_move (v := .one (bC true)) rfl) ?_
            refine tn_skip rfl rfl rfl rfl ?_
            refine tn_skip rfl rfl rfl rfl ?_
            refine tn_skip rfl rfl rfl rfl ?_
            refine tn_skip rfl rfl rfl rfl ?_
            refine tn_skip rfl rfl rfl rfl ?_
            refine tn_skip rfl rfl rfl rfl ?_
            refine tn_skip rfl rfl rfl rfl ?_
            refine tn_skip rfl rfl rfl rfl ?_
            refine tn_skip rfl rfl rfl rfl ?_
            refine tn_skip rfl rfl rfl rfl ?_
            refine tn_skip rfl rfl rfl rfl ?_
            refine tn_skip rfl rfl rfl rfl ?_
            refine tn_skip rfl rfl rfl rfl ?_
            refine tn_skip rfl rfl rfl rfl ?_
            refine tn_put rfl rfl rfl [] (by decide) rfl (hm0 rfl) rfl (q_pickT (v := .one (bC true)) rfl rfl) ?_
            refine tn_put rfl rfl rfl [] (by decide) rfl (hm0 rfl) rfl (q_fieldP rfl fa64_3 rfl) ?_
            refine tn_wr rfl rfl [0] (by decide) rfl (hm0 rfl) rfl (q_store (es' := [[iC .i64 0, iC .i64 0, iC .i64 0, bC true, bC false]]) 0 rfl rfl rfl sz4 rfl rfl rfl rfl rfl) (q := 0) rfl rfl ?_
            refine tn_end ?_
            refine E_seq ?_
            refine L_seq ?_
            refine L_norm (L2 := ([[(k438, 5, [[iC .i64 0, iC .i64 0, iC .i64 0, bC true, bC false]])], [(k38, 0, [])], [(k36, 1, [[.p fr434 (Sl.t r56 s431)]])], [(k37, 1, [[.p fr435 (Sl.t r56 s432)]])], [(k9, 2, [[iC .i64 0, .p true (Sl.t r56 (⟨false, 0, []⟩ : Sl (Int × Int)))]])], [(k14, 1, [[.clo (.func 42) [] [.ptr k6 0 0]]])], [(k15, 2, [[iC .i64 0, .p true (Sl.t r56 (⟨false, 0, []⟩ : Sl (Int × Int)))]])], [(k16, 1, [[iC .i64 0]])], [(k35, 2, [[iC .i64 n27, moC l433 k436]])], [(k6, 1, [[iC .i64 n1]])], moL r56 2 l433 k436] : BL)) [0, 1, 2, 3, 4, 5, 6, 7, 8, 9, 10] (by decide) rfl ?_
            refine L_turn 21 rfl [[], [], [], [], [], [], [], [], [], [], [], [], [], [], [], [], [], [], [], [], [k438]] [(false, []), (false, []), (false, []), (false, []), (false, []), (false, []), (false, []), (false, []), (false, []), (false, []), (false, []), (false, []), (false, []), (false, []), (false, []), (false, []), (false, []), (false, []), (false, []), (false, []), (false, [])] [[], [], [], [], [], [], [], [], [12, 13, 14, 15], [12, 13, 14, 15], [12, 13, 14, 15], [12, 13, 14, 15], [8, 9, 10, 11], [8, 9, 10, 11], [8, 9, 10, 11], [8, 9, 10, 11], [], [], [], [], []] (by kernel_rfl) (by kernel_rfl) (by kernel_rfl) ?_ (fun bb451 hlt hnd => ?_)
            · intro bb451 hlt hnd
              exact ⟨⟨djE, ⟨djE, ⟨djE, ⟨djE, ⟨djE, ⟨djE, ⟨djE, ⟨djE, ⟨djE, ⟨djE, ⟨djE, ⟨djE, ⟨djE, ⟨djE, ⟨djE, ⟨djE, ⟨djE, ⟨djE, ⟨djE, ⟨djE, ⟨djN, trivial⟩⟩⟩⟩⟩⟩⟩⟩⟩⟩⟩⟩⟩⟩⟩⟩⟩⟩⟩⟩⟩, (ltO_cons ltK_nil (ltO_cons ltK_nil (ltO_cons ltK_nil (ltO_cons ltK_nil (ltO_cons ltK_nil (ltO_cons ltK_nil (ltO_cons ltK_nil (ltO_cons ltK_nil (ltO_cons ltK_nil (ltO_cons ltK_nil (ltO_cons ltK_nil (ltO_cons ltK_nil (ltO_cons ltK_nil (ltO_cons ltK_nil (ltO_cons ltK_nil (ltO_cons ltK_nil (ltO_cons ltK_nil (ltO_cons ltK_nil (ltO_cons ltK_nil (ltO_cons ltK_nil (ltO_cons (ltK_cons (key_lt hlt 0 rfl) ltK_nil) ltO_nil)))))))))))))))))))))⟩
            have e_k436 : l433 = [] ∨ k436 < bb451 := key_ltM (r := r56) (w := 2) hlt 10 rfl
            refine tn_put rfl rfl rfl [2] (by decide) rfl (hm0 rfl) rfl (q_loadP (v := .one (.p fr434 (Sl.t r56 s431))) 0 rfl sz23 rfl rfl rfl rfl) ?_
            refine tn_put rfl rfl rfl [] (by decide) rfl (hm0 rfl) rfl (q_lenS rfl ty23 rfl rfl rfl rfl) ?_
            refine tn_put rfl rfl rfl [] (by decide) rfl (hm0 rfl) rfl (q_bin rfl rfl (p_eql_f _ _ _ _ _ (gt0_ne c437)) rfl) ?_
            refine tn_put rfl rfl rfl [] (by decide) rfl (hm0 rfl) rfl (q_move (v := .one (bC false)) rfl) ?_
            refine tn_put rfl rfl rfl [3] (by decide) rfl (hm0 rfl) rfl (q_loadP (v := .one (.p fr435 (Sl.t r56 s432))) 0 rfl sz23 rfl rfl rfl rfl) ?_
            refine tn_put rfl rfl rfl [] (by decide) rfl (hm0 rfl) rfl (q_lenS rfl ty23 rfl rfl rfl rfl) ?_
            refine tn_put rfl rfl rfl [] (by decide) rfl (hm0 rfl) rfl (q_bin rfl rfl (p_gtr_f _ _ _ _ _ (eq0_ng c450)) rfl) ?_
            refine tn_put rfl rfl rfl [] (by decide) rfl (hm0 rfl) rfl (q_move (v := .one (bC false)) rfl) ?_
            refine tn_skip rfl rfl rfl rfl ?_
            refine tn_skip rfl rfl rfl rfl ?_
            refine tn_skip rfl rfl rfl rfl ?_
            refine tn_skip rfl rfl rfl rfl ?_
            refine tn_skip rfl rfl rfl rfl ?_
            refine tn_skip rfl rfl rfl rfl ?_
            refine tn_skip rfl rfl rfl rfl ?_
            refine tn_skip rfl rfl rfl rfl ?_
            refine tn_skip rfl rfl rfl rfl ?_
            refine tn_put rfl rfl rfl [] (by decide) rfl (hm0 rfl) rfl (q_pickF (v := .one (bC false)) rfl rfl) ?_
            refine tn_put rfl rfl rfl [] (by decide) rfl (hm0 rfl) rfl (q_pickF (v := .one (bC false)) rfl rfl) ?_
            refine tn_put rfl rfl rfl [] (by decide) rfl (hm0 rfl) rfl (q_fieldP rfl fa64_4 rfl) ?_
            refine tn_wr rfl rfl [0] (by decide) rfl (hm0 rfl) rfl (q_store (es' := [[iC .i64 0, iC .i64 0, iC .i64 0, bC true, bC false]]) 0 rfl rfl rfl sz4 rfl rfl rfl rfl rfl) (q := 0) rfl rfl ?_
            refine tn_end ?_
            refine E_seq ?_
            refine L_seq ?_
            refine L_seq ?_
            refine L_ops ?_
            refine ol_put rfl rfl rfl (q_fieldP rfl fa64_3 rfl) ?_
            refine ol_put rfl rfl rfl (q_loadP (v := .one (bC true)) 0 rfl sz4 rfl rfl rfl rfl) ?_
            refine ol_end ?_
            refine E_seq ?_
            refine L_condT rfl ?_
            refine L_seq ?_
            refine L_norm (L2 := ([[(k438, 5, [[iC .i64 0, iC .i64 0, iC .i64 0, bC true, bC false]])], [(k38, 0, [])], [(k36, 1, [[.p fr434 (Sl.t r56 s431)]])], [(k37, 1, [[.p fr435 (Sl.t r56 s432)]])], [(k9, 2, [[iC .i64 0, .p true (Sl.t r56 (⟨false, 0, []⟩ : Sl (Int × Int)))]])], [(k14, 1, [[.clo (.func 42) [] [.ptr k6 0 0]]])], [(k15, 2, [[iC .i64 0, .p true (Sl.t r56 (⟨false, 0, []⟩ : Sl (Int × Int)))]])], [(k16, 1, [[iC .i64 0]])], [(k35, 2, [[iC .i64 n27, moC l433 k436]])], [(k6, 1, [[iC .i64 n1]])], moL r56 2 l433 k436] : BL)) [0, 1, 2, 3, 4, 5, 6, 7, 8, 9, 10] (by decide) rfl ?_
            refine L_turn 12 rfl [[], [], [], [], [], [], [], [], [], [k438], [], [k438]] [(false, []), (false, []), (false, []), (false, []), (false, []), (false, []), (false, []), (false, []), (false, []), (false, []), (false, []), (false, [])] [[4, 5, 6, 7], [4, 5, 6, 7], [4, 5, 6, 7], [4, 5, 6, 7], [0, 1, 2, 3, 8, 9], [0, 1, 2, 3, 8, 9], [0, 1, 2, 3, 8, 9], [0, 1, 2, 3, 8, 9], [4, 5, 6, 7], [4, 5, 6, 7], [], []] (by kernel_rfl) (by kernel_rfl) (by kernel_rfl) ?_ (fun bb452 hlt hnd => ?_)
            · intro bb452 hlt hnd
              exact ⟨⟨djE, ⟨djE, ⟨djE, ⟨djE, ⟨djE, ⟨djE, ⟨djE, ⟨djE, ⟨djE, ⟨(djC nin_nil (djC nin_nil (djC nin_nil (djC nin_nil djN)))), ⟨djE, ⟨djN, trivial⟩⟩⟩⟩⟩⟩⟩⟩⟩⟩⟩⟩, (ltO_cons ltK_nil (ltO_cons ltK_nil (ltO_cons ltK_nil (ltO_cons ltK_nil (ltO_cons ltK_nil (ltO_cons ltK_nil (ltO_cons ltK_nil (ltO_cons ltK_nil (ltO_cons ltK_nil (ltO_cons (ltK_cons (key_lt hlt 0 rfl) ltK_nil) (ltO_cons ltK_nil (ltO_cons (ltK_cons (key_lt hlt 0 rfl) ltK_nil) ltO_nil))))))))))))⟩
            have e_k436 : l433 = [] ∨ k436 < bb452 := key_ltM (r := r56) (w := 2) hlt 10 rfl
            refine tn_put rfl rfl rfl [2] (by decide) rfl (hm0 rfl) rfl (q_loadP (v := .one (.p fr434 (Sl.t r56 s431))) 0 rfl sz23 rfl rfl rfl rfl) ?_
            obtain ⟨⟨n459, n460⟩, h458, h⟩ := bindS h
            obtain ⟨h458a, h458b, h458⟩ := atS_some h458
            refine tn_put rfl rfl rfl [] (by decide) rfl (hm0 rfl) rfl (q_ixS rfl rfl h458a h458 (el23.trans (congrArg some h458b.symm))) ?_
            refine tn_put rfl rfl rfl [] (by decide) rfl (hm0 rfl) rfl (q_fieldI rfl fa57_0 rfl) ?_
            refine tn_put rfl rfl rfl [] (by decide) rfl (hm0 rfl) rfl (q_loadI (v := .one (iC .i64 n459)) rfl sz3 (map_get h458) rfl rfl) ?_
            refine tn_put rfl rfl rfl [2] (by decide) rfl (hmc (nin_cons (key_ne hnd 2 0 rfl rfl rfl) nin_nil) hmn) rfl (q_loadP (v := .one (.p fr434 (Sl.t r56 s431))) 0 rfl sz23 rfl rfl rfl rfl) ?_
            refine tn_put rfl rfl rfl [] (by decide) rfl hmn rfl (q_ixS rfl rfl h458a h458 (el23.trans (congrArg some h458b.symm))) ?_
            refine tn_put rfl rfl rfl [] (by decide) rfl hmn rfl (q_fieldI rfl fa57_1 rfl) ?_
            refine tn_put rfl rfl rfl [] (by decide) rfl hmn rfl (q_loadI (v := .one (iC .i64 n460)) rfl sz2 (map_get h458) rfl rfl) ?_
            refine tn_put rfl rfl rfl [] (by decide) rfl (hm0 rfl) rfl (q_fieldP rfl fa64_0 rfl) ?_
            refine tn_wr rfl rfl [0] (by decide) rfl (hm0 rfl) rfl (q_store (es' := [[iC .i64 n459, iC .i64 0, iC .i64 0, bC true, bC false]]) 0 rfl rfl rfl sz3 rfl rfl rfl rfl rfl) (q := 0) rfl rfl ?_
            refine tn_put rfl rfl rfl [] (by decide) rfl (hm0 rfl) rfl (q_fieldP rfl fa64_1 rfl) ?_
            refine tn_wr rfl rfl [0] (by decide) rfl (hm0 rfl) rfl (q_store (es' := [[iC .i64 n459, iC .i64 n460, iC .i64 0, bC true, bC false]]) 0 rfl rfl rfl sz2 rfl rfl rfl rfl rfl) (q := 0) rfl rfl ?_
            refine tn_end ?_
            refine E_seq ?_
            refine L_ops ?_
            refine ol_put rfl rfl rfl (q_loadP (v := .one (.p fr434 (Sl.t r56 s431))) 2 rfl sz23 rfl rfl rfl rfl) ?_
            obtain ⟨s461, h462, h⟩ := bindS h
            refine ol_put rfl rfl rfl (q_sliceS (r := r56) h462 rfl ty23 rfl ty57 (no_some rfl (cutS_some h462).1.1 _) (no_none _)) ?_
            refine ol_wr rfl rfl (q_store (es' := [[.p fr434 (Sl.t r56 s461)]]) 2 rfl rfl rfl sz23 rfl rfl rfl rfl rfl) rfl ?_
            refine ol_end ?_
            refine E_seq ?_
            refine L_seq ?_
            refine L_seq ?_
            refine L_ops ?_
            refine ol_put rfl rfl rfl (q_fieldP rfl fa64_4 rfl) ?_
            refine ol_put rfl rfl rfl (q_loadP (v := .one (bC false)) 0 rfl sz4 rfl rfl rfl rfl) ?_
            refine ol_end ?_
            refine E_seq ?_
            refine L_condF rfl ?_
            refine L_skip ?_
            refine E_seq ?_
            refine L_seq ?_
            refine L_ops ?_
            refine ol_put rfl rfl rfl (q_move (v := .one (.yld k38)) rfl) ?_
            refine ol_put rfl rfl rfl (q_loadP (v := .agg [iC .i64 n459, iC .i64 n460, iC .i64 0, bC true, bC false]) 0 rfl sz64 rfl rfl rfl rfl) ?_
            refine ol_yield (args := [.agg [iC .i64 n459, iC .i64 n460, iC .i64 0, bC true, bC false]]) (p := 1) rfl rfl rfl rfl rfl rfl rfl rfl rfl ?_
            refine L_ops ?_
            refine ol_new rfl rfl rfl (q_alloc ty64 (row := [iC .i64 0, iC .i64 0, iC .i64 0, bC false, bC false]) rfl rfl) (fun k463 => ?_)
            refine ol_wr rfl rfl (q_store (es' := [[iC .i64 n459, iC .i64 n460, iC .i64 0, bC true, bC false]]) 0 rfl rfl rfl sz64 rfl rfl rfl rfl rfl) rfl ?_
            refine ol_end ?_
            refine E_asg ?_
            refine L_block ?_
            refine L_seq ?_
            refine L_ops ?_
            refine ol_put rfl rfl rfl (q_loadP (v := .one (.clo (.func 42) [] [.ptr k6 0 0])) 6 rfl sz69 rfl rfl rfl rfl) ?_
            refine ol_put rfl rfl rfl (q_loadP (v := .agg [iC .i64 n459, iC .i64 n460, iC .i64 0, bC true, bC false]) 0 rfl sz64 rfl rfl rfl rfl) ?_
            refine ol_scall (args := [.agg [iC .i64 n459, iC .i64 n460, iC .i64 0, bC true, bC false], .one (.ptr k6 0 0)]) rfl rfl rfl rfl (by rw [E1_fn]; exact show fiOf Try.prog 42 = _ by unfold fiOf; rw [Try.func42]; unfold Try.f42; rfl) rfl rfl rfl ?_
            dsimp only
            refine L_seq ?_
            refine L_ops ?_
            refine ol_new rfl rfl rfl (q_box ty64 rfl (cs := [iC .i64 n459, iC .i64 n460, iC .i64 0, bC true, bC false]) rfl rfl) (fun k464 => ?_)
            refine ol_new rfl rfl rfl (q_alloc ty66 (row := [iC .i64 0, iC .u64 0]) rfl rfl) (fun k465 => ?_)
            refine ol_put rfl rfl rfl (q_assign (v := .one (bC false)) rfl) ?_
            refine ol_end ?_
            refine E_seq ?_
            refine L_seq ?_
            refine L_norm (L2 := ([[(k465, 2, [[iC .i64 0, iC .u64 0]])], [(k464, 5, [[iC .i64 n459, iC .i64 n460, iC .i64 0, bC true, bC false]])], [(k463, 5, [[iC .i64 n459, iC .i64 n460, iC .i64 0, bC true, bC false]])], [(k38, 0, [])], [(k36, 1, [[.p fr434 (Sl.t r56 s461)]])], [(k37, 1, [[.p fr435 (Sl.t r56 s432)]])], [(k9, 2, [[iC .i64 0, .p true (Sl.t r56 (⟨false, 0, []⟩ : Sl (Int × Int)))]])], [(k14, 1, [[.clo (.func 42) [] [.ptr k6 0 0]]])], [(k15, 2, [[iC .i64 0, .p true (Sl.t r56 (⟨false, 0, []⟩ : Sl (Int × Int)))]])], [(k16, 1, [[iC .i64 0]])], [(k35, 2, [[iC .i64 n27, moC l433 k436]])], [(k6, 1, [[iC .i64 n1]])], moL r56 2 l433 k436] : BL)) [0, 1, 2, 4, 5, 6, 7, 8, 9, 10, 11, 12, 13] (by decide) rfl ?_
            refine L_turn 14 rfl [[], [], [], [], [], [], [], [], [], [], [], [], [k465], []] [(false, []), (false, []), (false, []), (false, []), (false, []), (false, []), (false, []), (false, []), (false, []), (false, []), (false, []), (false, []), (false, []), (false, [])] [[1, 2, 3, 4, 6, 7], [0, 3, 4, 6, 7], [0, 3, 4, 6, 7], [0, 1, 2, 6, 7], [0, 1, 2, 6, 7], [6, 7], [0, 1, 2, 3, 4, 5], [0, 1, 2, 3, 4, 5], [], [12], [12], [12], [9, 10, 11], []] (by kernel_rfl) (by kernel_rfl) (by kernel_rfl) ?_ (fun bb466 hlt hnd => ?_)
            · intro bb466 hlt hnd
              exact ⟨⟨djE, ⟨djE, ⟨djE, ⟨djE, ⟨djE, ⟨djE, ⟨djE, ⟨djE, ⟨djE, ⟨djE, ⟨djE, ⟨djE, ⟨(djC nin_nil (djC nin_nil (djC nin_nil djN))), ⟨djE, trivial⟩⟩⟩⟩⟩⟩⟩⟩⟩⟩⟩⟩⟩⟩, (ltO_cons ltK_nil (ltO_cons ltK_nil (ltO_cons ltK_nil (ltO_cons ltK_nil (ltO_cons ltK_nil (ltO_cons ltK_nil (ltO_cons ltK_nil (ltO_cons ltK_nil (ltO_cons ltK_nil (ltO_cons ltK_nil (ltO_cons ltK_nil (ltO_cons ltK_nil (ltO_cons (ltK_cons (key_lt hlt 0 rfl) ltK_nil) (ltO_cons ltK_nil ltO_nil))))))))))))))⟩
            have e_k436 : l433 = [] ∨ k436 < bb466 := key_ltM (r := r56) (w := 2) hlt 12 rfl
            refine tn_put rfl rfl rfl [11] (by decide) rfl (hm0 rfl) rfl (q_loadP (v := .one (iC .i64 n1)) 0 rfl sz22 rfl rfl rfl rfl) ?_
            refine tn_put rfl rfl rfl [] (by decide) rfl (hm0 rfl) rfl (q_fieldP rfl fa64_1 rfl) ?_
            refine tn_put rfl rfl rfl [1] (by decide) rfl (hm0 rfl) rfl (q_loadP (v := .one (iC .i64 n460)) 0 rfl sz2 rfl rfl rfl rfl) ?_
            refine tn_put rfl rfl rfl [] (by decide) rfl (hm0 rfl) rfl (q_fieldP rfl fa64_2 rfl) ?_
            refine tn_put rfl rfl rfl [1] (by decide) rfl (hm0 rfl) rfl (q_loadP (v := .one (iC .i64 0)) 0 rfl sz2 rfl rfl rfl rfl) ?_
            obtain ⟨⟨n471, n472⟩, h470, h⟩ := bindS h
            refine tn_put rfl rfl rfl [] (by decide) rfl (hm0 rfl) rfl (q_callF (v := .agg [iC .i64 n471, iC .u64 n472]) (args := [.one (iC .i64 n1), .one (iC .i64 n460), .one (iC .i64 0)]) (ring_Mul_r (m + 0) h470) rfl rfl (vw_cons (vd_one vc_v) (vw_cons (vd_one vc_v) (vw_cons (vd_one vc_v) vw_nil))) rfl rfl) ?_
            refine tn_put rfl rfl rfl [] (by decide) rfl (hm0 rfl) rfl (q_fieldP rfl fa64_3 rfl) ?_
            refine tn_put rfl rfl rfl [1] (by decide) rfl (hm0 rfl) rfl (q_loadP (v := .one (bC true)) 0 rfl sz4 rfl rfl rfl rfl) ?_
            refine tn_put rfl rfl rfl [] (by decide) rfl (hm0 rfl) rfl (q_move (v := .one (bC true)) rfl) ?_
            refine tn_put rfl rfl rfl [] (by decide) rfl hmn rfl (q_fieldP rfl fa64_4 rfl) ?_
            refine tn_put rfl rfl rfl [1] (by decide) rfl (hmc (nin_cons (key_ne hnd 1 0 rfl rfl rfl) nin_nil) hmn) rfl (q_loadP (v := .one (bC false)) 0 rfl sz4 rfl rfl rfl rfl) ?_
            refine tn_put rfl rfl rfl [] (by decide) rfl hmn rfl (q_pickT (v := .one (bC false)) rfl rfl) ?_
            refine tn_wr rfl rfl [0] (by decide) rfl (hm0 rfl) rfl (q_store (es' := [[iC .i64 n471, iC .u64 n472]]) 0 rfl rfl rfl sz66 rfl rfl rfl rfl rfl) (q := 0) rfl rfl ?_
            refine tn_put rfl rfl rfl [] (by decide) rfl (hm0 rfl) rfl (q_assign (v := .one (bC false)) rfl) ?_
            refine tn_end ?_
            refine E_seq ?_
            refine L_ret ?_
            refine E_call (v := .tup [.agg [iC .i64 n471, iC .u64 n472], .one (bC false)]) (.inr rfl) (res_cell (d := .agg [iC .i64 n471, iC .u64 n472]) 0 rfl sz66 rfl rfl rfl rfl (res_tmp (d := .one (bC false)) rfl res_nil)) rfl ?_
            refine ol_put rfl rfl rfl (q_move (v := .tup [.agg [iC .i64 n471, iC .u64 n472], .one (bC false)]) rfl) ?_
            refine ol_put rfl rfl rfl (q_ext (v := .agg [iC .i64 n471, iC .u64 n472]) rfl rfl) ?_
            refine ol_put rfl rfl rfl (q_ext (v := .one (bC false)) rfl rfl) ?_
            refine ol_new rfl rfl rfl (q_alloc ty66 (row := [iC .i64 0, iC .u64 0]) rfl rfl) (fun k473 => ?_)
            refine ol_wr rfl rfl (q_store (es' := [[iC .i64 n471, iC .u64 n472]]) 0 rfl rfl rfl sz66 rfl rfl rfl rfl rfl) rfl ?_
            refine ol_put rfl rfl rfl (q_assign (v := .one (bC false)) rfl) ?_
            refine ol_end ?_
            refine E_seq ?_
            refine L_seq ?_
            refine L_seq ?_
            refine L_ops ?_
            refine ol_put rfl rfl rfl (q_move (v := .one (bC false)) rfl) ?_
            refine ol_put rfl rfl rfl (q_not rfl) ?_
            refine ol_end ?_
            refine E_seq ?_
            refine L_condT rfl ?_
            refine L_exit ?_
            refine E_seqX ?_
            refine E_blkH ?_
            refine E_roundN (p := 4) rfl ?_
            refine ol_put rfl rfl rfl (q_not rfl) ?_
            refine ol_end ?_
            refine E_seq ?_
            refine L_condF rfl ?_
            refine L_skip ?_
            refine E_blkN ?_
            obtain rfl := Option.some.inj h
            exact E_next (fr434, fr435, k436) (ups_self ⟨rfl, rfl, rfl, trivial⟩) [4, 5, 6, 7, 8, 9, 10, 11, 12, 13] (by decide) rfl
          · replace h := ifF c450 h
            refine tn_put rfl rfl rfl [0] (by decide) rfl (hm0 rfl) rfl (q_bin rfl rfl (p_eql_f _ _ _ _ _ c450) rfl) ?_
            refine tn_put rfl rfl rfl [] (by decide) rfl (hm0 rfl) rfl (q_move (v := .one (bC false)) rfl) ?_
            refine tn_put rfl rfl rfl [2] (by decide) rfl (hm0 rfl) rfl (q_loadP (v := .one (.p fr434 (Sl.t r56 s431))) 0 rfl sz23 rfl rfl rfl rfl) ?_
            refine tn_put rfl rfl rfl [] (by decide) rfl (hm0 rfl) rfl (q_lenS rfl ty23 rfl rfl rfl rfl) ?_
            refine tn_put rfl rfl rfl [] (by decide) rfl (hm0 rfl) rfl (q_bin rfl rfl (p_gtr_t _ _ _ _ _ c437) rfl) ?_
            refine tn_put rfl rfl rfl [] (by decide) rfl (hm0 rfl) rfl (q_move (v := .one (bC true)) rfl) ?_
            refine tn_put rfl rfl rfl [2] (by decide) rfl (hm0 rfl) rfl (q_loadP (v := .one (.p fr434 (Sl.t r56 s431))) 0 rfl sz23 rfl rfl rfl rfl) ?_
            obtain ⟨⟨n476, n477⟩, h475, h⟩ := bindS h
            obtain ⟨h475a, h475b, h475⟩ := atS_some h475
            refine tn_put rfl rfl rfl [] (by decide) rfl (hm0 rfl) rfl (q_ixS rfl rfl h475a h475 (el23.trans (congrArg some h475b.symm))) ?_
            refine tn_put rfl rfl rfl [] (by decide) rfl (hm0 rfl) rfl (q_fieldI rfl fa57_0 rfl) ?_
            refine tn_put rfl rfl rfl [] (by decide) rfl (hm0 rfl) rfl (q_loadI (v := .one (iC .i64 n476)) rfl sz3 (map_get h475) rfl rfl) ?_
            refine tn_put rfl rfl rfl [3] (by decide) rfl (hm0 rfl) rfl (q_loadP (v := .one (.p fr435 (Sl.t r56 s432))) 0 rfl sz23 rfl rfl rfl rfl) ?_
            obtain ⟨⟨n480, n481⟩, h479, h⟩ := bindS h
            obtain ⟨h479a, h479b, h479⟩ := atS_some h479
            refine tn_put rfl rfl rfl [] (by decide) rfl (hm0 rfl) rfl (q_ixS rfl rfl h479a h479 (el23.trans (congrArg some h479b.symm))) ?_
            refine tn_put rfl rfl rfl [] (by decide) rfl (hm0 rfl) rfl (q_fieldI rfl fa57_0 rfl) ?_
            refine tn_put rfl rfl rfl [] (by decide) rfl (hm0 rfl) rfl (q_loadI (v := .one (iC .i64 n480)) rfl sz3 (map_get h479) rfl rfl) ?_
            by_cases c482 : n476 ≤ n480
            · replace h := ifT c482 h
              refine tn_put rfl rfl rfl [] (by decide) rfl (hm0 rfl) rfl (q_bin rfl rfl (p_leq_t _ _ _ _ _ c482) rfl) ?_
              refine tn_put rfl rfl rfl [] (by decide) rfl (hm0 rfl) rfl (q_pickT (v := .one (bC true)) rfl rfl) ?_
              refine tn_put rfl rfl rfl [] (by decide) rfl (hm0 rfl) rfl (q_pickF (v := .one (bC true)) rfl rfl) ?_
              refine tn_put rfl rfl rfl [] (by decide) rfl (hm0 rfl) rfl (q_fieldP rfl fa64_3 rfl) ?_
              refine tn_wr rfl rfl [0] (by decide) rfl (hm0 rfl) rfl (q_store (es' := [[iC .i64 0, iC .i64 0, iC .i64 0, bC true, bC false]]) 0 rfl rfl rfl sz4 rfl rfl rfl rfl rfl) (q := 0) rfl rfl ?_
              refine tn_end ?_
              refine E_seq ?_
              refine L_seq ?_
              refine L_norm (L2 := ([[(k438, 5, [[iC .i64 0, iC .i64 0, iC .i64 0, bC true, bC false]])], [(k38, 0, [])], [(k36, 1, [[.p fr434 (Sl.t r56 s431)]])], [(k37, 1, [[.p fr435 (Sl.t r56 s432)]])], [(k9, 2, [[iC .i64 0, .p true (Sl.t r56 (⟨false, 0, []⟩ : Sl (Int × Int)))]])], [(k14, 1, [[.clo (.func 42) [] [.ptr k6 0 0]]])], [(k15, 2, [[iC .i64 0, .p true (Sl.t r56 (⟨false, 0, []⟩ : Sl (Int × Int)))]])], [(k16, 1, [[iC .i64 0]])], [(k35, 2, [[iC .i64 n27, moC l433 k436]])], [(k6, 1, [[iC .i64 n1]])], moL r56 2 l433 k436] : BL)) [0, 1, 2, 3, 4, 5, 6, 7, 8, 9, 10] (by decide) rfl ?_
              refine L_turn 21 rfl [[], [], [], [], [], [], [], [], [], [], [], [], [], [], [], [], [], [], [], [], [k438]] [(false, []), (false, []), (false, []), (false, []), (false, []), (false, []), (false, []), (false, []), (false, []), (false, []), (false, []), (false, []), (false, []), (false, []), (false, []), (false, []), (false, []), (false, []), (false, []), (false, []), (false, [])] [[], [], [], [], [], [], [], [], [12, 13, 14, 15], [12, 13, 14, 15], [12, 13, 14, 15], [12, 13, 14, 15], [8, 9, 10, 11], [8, 9, 10, 11], [8, 9, 10, 11], [8, 9, 10, 11], [], [], [], [], []] (by kernel_rfl) (by kernel_rfl) (by kernel_rfl) ?_ (fun bb483 hlt hnd => ?_)
              · intro bb483 hlt hnd
                exact ⟨⟨djE, ⟨djE, ⟨djE, ⟨djE, ⟨djE, ⟨djE, ⟨djE, ⟨djE, ⟨djE, ⟨djE, ⟨djE, ⟨djE, ⟨djE, ⟨djE, ⟨djE, ⟨djE, ⟨djE, ⟨djE, ⟨djE, ⟨djE, ⟨djN, trivial⟩⟩⟩⟩⟩⟩⟩⟩⟩⟩⟩⟩⟩⟩⟩⟩⟩⟩⟩⟩⟩, (ltO_cons ltK_nil (ltO_cons ltK_nil (ltO_cons ltK_nil (ltO_cons ltK_nil (ltO_cons ltK_nil (ltO_cons ltK_nil (ltO_cons ltK_nil (ltO_cons ltK_nil (ltO_cons ltK_nil (ltO_cons ltK_nil (ltO_cons ltK_nil (ltO_cons ltK_nil (ltO_cons ltK_nil (ltO_cons ltK_nil (ltO_cons ltK_nil (ltO_cons ltK_nil (ltO_cons ltK_nil (ltO_cons ltK_nil (ltO_cons ltK_nil (ltO_cons ltK_nil (ltO_cons (ltK_cons (key_lt hlt 0 rfl) ltK_nil) ltO_nil)))))))))))))))))))))⟩
              have e_k436 : l433 = [] ∨ k436 < bb483 := key_ltM (r := r56) (w := 2) hlt 10 rfl
              refine tn_put rfl rfl rfl [2] (by decide) rfl (hm0 rfl) rfl (q_loadP (v := .one (.p fr434 (Sl.t r56 s431))) 0 rfl sz23 rfl rfl rfl rfl) ?_
              refine tn_put rfl rfl rfl [] (by decide) rfl (hm0 rfl) rfl (q_lenS rfl ty23 rfl rfl rfl rfl) ?_
              refine tn_put rfl rfl rfl [] (by decide) rfl (hm0 rfl) rfl (q_bin rfl rfl (p_eql_f _ _ _ _ _ (gt0_ne c437)) rfl) ?_
              refine tn_put rfl rfl rfl [] (by decide) rfl (hm0 rfl) rfl (q_move (v := .one (bC false)) rfl) ?_
              refine tn_put rfl rfl rfl [3] (by decide) rfl (hm0 rfl) rfl (q_loadP (v := .one (.p fr435 (Sl.t r56 s432))) 0 rfl sz23 rfl rfl rfl rfl) ?_
              refine tn_put rfl rfl rfl [] (by decide) rfl (hm0 rfl) rfl (q_lenS rfl ty23 rfl rfl rfl rfl) ?_
              refine tn_put rfl rfl rfl [] (by decide) rfl (hm0 rfl) rfl (q_bin rfl rfl (p_gtr_t _ _ _ _ _ (len1 c450)) rfl) ?_
              refine tn_put rfl rfl rfl [] (by decide) rfl (hm0 rfl) rfl (q_move (v := .one (bC true)) rfl) ?_
              refine tn_put rfl rfl rfl [3] (by decide) rfl (hm0 rfl) rfl (q_loadP (v := .one (.p fr435 (Sl.t r56 s432))) 0 rfl sz23 rfl rfl rfl rfl) ?_
              refine tn_put rfl rfl rfl [] (by decide) rfl (hm0 rfl) rfl (q_ixS rfl rfl h479a h479 (el23.trans (congrArg some h479b.symm))) ?_
              refine tn_put rfl rfl rfl [] (by decide) rfl (hm0 rfl) rfl (q_fieldI rfl fa57_0 rfl) ?_
              refine tn_put rfl rfl rfl [] (by decide) rfl (hm0 rfl) rfl (q_loadI (v := .one (iC .i64 n480)) rfl sz3 (map_get h479) rfl rfl) ?_
              refine tn_put rfl rfl rfl [2] (by decide) rfl (hm0 rfl) rfl (q_loadP (v := .one (.p fr434 (Sl.t r56 s431))) 0 rfl sz23 rfl rfl rfl rfl) ?_
              refine tn_put rfl rfl rfl [] (by decide) rfl (hm0 rfl) rfl (q_ixS rfl rfl h475a h475 (el23.trans (congrArg some h475b.symm))) ?_
              refine tn_put rfl rfl rfl [] (by decide) rfl (hm0 rfl) rfl (q_fieldI rfl fa57_0 rfl) ?_
              refine tn_put rfl rfl rfl [] (by decide) rfl (hm0 rfl) rfl (q_loadI (v := .one (iC .i64 n476)) rfl sz3 (map_get h475) rfl rfl) ?_
              by_cases c485 : n480 ≤ n476
              · replace h := ifT c485 h
                refine tn_put rfl rfl rfl [] (by decide) rfl (hm0 rfl) rfl (q_bin rfl rfl (p_leq_t _ _ _ _ _ c485) rfl) ?_
                refine tn_put rfl rfl rfl [] (by decide) rfl (hm0 rfl) rfl (q_pickT (v := .one (bC true)) rfl rfl) ?_
                refine tn_put rfl rfl rfl [] (by decide) rfl (hm0 rfl) rfl (q_pickF (v := .one (bC true)) rfl rfl) ?_
                refine tn_put rfl rfl rfl [] (by decide) rfl (hm0 rfl) rfl (q_fieldP rfl fa64_4 rfl) ?_
                refine tn_wr rfl rfl [0] (by decide) rfl (hm0 rfl) rfl (q_store (es' := [[iC .i64 0, iC .i64 0, iC .i64 0, bC true, bC true]]) 0 rfl rfl rfl sz4 rfl rfl rfl rfl rfl) (q := 0) rfl rfl ?_
                refine tn_end ?_
                refine E_seq ?_
                refine L_seq ?_
                refine L_seq ?_
                refine L_ops ?_
                refine ol_put rfl rfl rfl (q_fieldP rfl fa64_3 rfl) ?_
                refine ol_put rfl rfl rfl (q_loadP (v := .one (bC true)) 0 rfl sz4 rfl rfl rfl rfl) ?_
                refine ol_end ?_
                refine E_seq ?_
                refine L_condT rfl ?_
                refine L_seq ?_
                refine L_norm (L2 := ([[(k438, 5, [[iC .i64 0, iC .i64 0, iC .i64 0, bC true, bC true]])], [(k38, 0, [])], [(k36, 1, [[.p fr434 (Sl.t r56 s431)]])], [(k37, 1, [[.p fr435 (Sl.t r56 s432)]])], [(k9, 2, [[iC .i64 0, .p true (Sl.t r56 (⟨false, 0, []⟩ : Sl (Int × Int)))]])], [(k14, 1, [[.clo (.func 42) [] [.ptr k6 0 0]]])], [(k15, 2, [[iC .i64 0, .p true (Sl.t r56 (⟨false, 0, []⟩ : Sl (Int × Int)))]])], [(k16, 1, [[iC .i64 0]])], [(k35, 2, [[iC .i64 n27, moC l433 k436]])], [(k6, 1, [[iC .i64 n1]])], moL r56 2 l433 k436] : BL)) [0, 1, 2, 3, 4, 5, 6, 7, 8, 9, 10] (by decide) rfl ?_
                refine L_turn 12 rfl [[], [], [], [], [], [], [], [], [], [k438], [], [k438]] [(false, []), (false, []), (false, []), (false, []), (false, []), (false, []), (false, []), (false, []), (false, []), (false, []), (false, []), (false, [])] [[4, 5, 6, 7], [4, 5, 6, 7], [4, 5, 6, 7], [4, 5, 6, 7], [0, 1, 2, 3, 8, 9], [0, 1, 2, 3, 8, 9], [0, 1, 2, 3, 8, 9], [0, 1, 2, 3, 8, 9], [4, 5, 6, 7], [4, 5, 6, 7], [], []] (by kernel_rfl) (by kernel_rfl) (by kernel_rfl) ?_ (fun bb486 hlt hnd => ?_)
                · intro bb486 hlt hnd
                  exact ⟨⟨djE, ⟨djE, ⟨djE, ⟨djE, ⟨djE, ⟨djE, ⟨djE, ⟨djE, ⟨djE, ⟨(djC nin_nil (djC nin_nil (djC nin_nil (djC nin_nil djN)))), ⟨djE, ⟨djN, trivial⟩⟩⟩⟩⟩⟩⟩⟩⟩⟩⟩⟩, (ltO_cons ltK_nil (ltO_cons ltK_nil (ltO_cons ltK_nil (ltO_cons ltK_nil (ltO_cons ltK_nil (ltO_cons ltK_nil (ltO_cons ltK_nil (ltO_cons ltK_nil (ltO_cons ltK_nil (ltO_cons (ltK_cons (key_lt hlt 0 rfl) ltK_nil) (ltO_cons ltK_nil (ltO_cons (ltK_cons (key_lt hlt 0 rfl) ltK_nil) ltO_nil))))))))))))⟩
                have e_k436 : l433 = [] ∨ k436 < bb486 := key_ltM (r := r56) (w := 2) hlt 10 rfl
                refine tn_put rfl rfl rfl [2] (by decide) rfl (hm0 rfl) rfl (q_loadP (v := .one (.p fr434 (Sl.t r56 s431))) 0 rfl sz23 rfl rfl rfl rfl) ?_
                refine tn_put rfl rfl rfl [] (by decide) rfl (hm0 rfl) rfl (q_ixS rfl rfl h475a h475 (el23.trans (congrArg some h475b.symm))) ?_
                refine tn_put rfl rfl rfl [] (by decide) rfl (hm0 rfl) rfl (q_fieldI rfl fa57_0 rfl) ?_
                refine tn_put rfl rfl rfl [] (by decide) rfl (hm0 rfl) rfl (q_loadI (v := .one (iC .i64 n476)) rfl sz3 (map_get h475) rfl rfl) ?_
                refine tn_put rfl rfl rfl [2] (by decide) rfl (hmc (nin_cons (key_ne hnd 2 0 rfl rfl rfl) nin_nil) hmn) rfl (q_loadP (v := .one (.p fr434 (Sl.t r56 s431))) 0 rfl sz23 rfl rfl rfl rfl) ?_
                refine tn_put rfl rfl rfl [] (by decide) rfl hmn rfl (q_ixS rfl rfl h475a h475 (el23.trans (congrArg some h475b.symm))) ?_
                refine tn_put rfl rfl rfl [] (by decide) rfl hmn rfl (q_fieldI rfl fa57_1 rfl) ?_
                refine tn_put rfl rfl rfl [] (by decide) rfl hmn rfl (q_loadI (v := .one (iC .i64 n477)) rfl sz2 (map_get h475) rfl rfl) ?_
                refine tn_put rfl rfl rfl [] (by decide) rfl (hm0 rfl) rfl (q_fieldP rfl fa64_0 rfl) ?_
                refine tn_wr rfl rfl [0] (by decide) rfl (hm0 rfl) rfl (q_store (es' := [[iC .i64 n476, iC .i64 0, iC .i64 0, bC true, bC true]]) 0 rfl rfl rfl sz3 rfl rfl rfl rfl rfl) (q := 0) rfl rfl ?_
                refine tn_put rfl rfl rfl [] (by decide) rfl (hm0 rfl) rfl (q_fieldP rfl fa64_1 rfl) ?_
                refine tn_wr rfl rfl [0] (by decide) rfl (hm0 rfl) rfl (q_store (es' := [[iC .i64 n476, iC .i64 n477, iC .i64 0, bC true, bC true]]) 0 rfl rfl rfl sz2 rfl rfl rfl rfl rfl) (q := 0) rfl rfl ?_
                refine tn_end ?_
                refine E_seq ?_
                refine L_ops ?_
                refine ol_put rfl rfl rfl (q_loadP (v := .one (.p fr434 (Sl.t r56 s431))) 2 rfl sz23 rfl rfl rfl rfl) ?_
                obtain ⟨s487, h488, h⟩ := bindS h
                refine ol_put rfl rfl rfl (q_sliceS (r := r56) h488 rfl ty23 rfl ty57 (no_some rfl (cutS_some h488).1.1 _) (no_none _)) ?_
                refine ol_wr rfl rfl (q_store (es' := [[.p fr434 (Sl.t r56 s487)]]) 2 rfl rfl rfl sz23 rfl rfl rfl rfl rfl) rfl ?_
                refine ol_end ?_
                refine E_seq ?_
                refine L_seq ?_
                refine L_seq ?_
                refine L_ops ?_
                refine ol_put rfl rfl rfl (q_fieldP rfl fa64_4 rfl) ?_
                refine ol_put rfl rfl rfl (q_loadP (v := .one (bC true)) 0 rfl sz4 rfl rfl rfl rfl) ?_
                refine ol_end ?_
                refine E_seq ?_
                refine L_condT rfl ?_
                refine L_seq ?_
                refine L_norm (L2 := ([[(k438, 5, [[iC .i64 n476, iC .i64 n477, iC .i64 0, bC true, bC true]])], [(k38, 0, [])], [(k36, 1, [[.p fr434 (Sl.t r56 s487)]])], [(k37, 1, [[.p fr435 (Sl.t r56 s432)]])], [(k9, 2, [[iC .i64 0, .p true (Sl.t r56 (⟨false, 0, []⟩ : Sl (Int × Int)))]])], [(k14, 1, [[.clo (.func 42) [] [.ptr k6 0 0]]])], [(k15, 2, [[iC .i64 0, .p true (Sl.t r56 (⟨false, 0, []⟩ : Sl (Int × Int)))]])], [(k16, 1, [[iC .i64 0]])], [(k35, 2, [[iC .i64 n27, moC l433 k436]])], [(k6, 1, [[iC .i64 n1]])], moL r56 2 l433 k436] : BL)) [0, 1, 2, 3, 4, 5, 6, 7, 8, 9, 10] (by decide) rfl ?_
                refine L_turn 12 rfl [[], [], [], [], [], [], [], [], [], [k438], [], [k438]] [(false, []), (false, []), (false, []), (false, []), (false, []), (false, []), (false, []), (false, []), (false, []), (false, []), (false, []), (false, [])] [[4, 5, 6, 7], [4, 5, 6, 7], [4, 5, 6, 7], [4, 5, 6, 7], [0, 1, 2, 3, 8, 9], [0, 1, 2, 3, 8, 9], [0, 1, 2, 3, 8, 9], [0, 1, 2, 3, 8, 9], [4, 5, 6, 7], [4, 5, 6, 7], [], []] (by kernel_rfl) (by kernel_rfl) (by kernel_rfl) ?_ (fun bb489 hlt hnd => ?_)
                · intro bb489 hlt hnd
                  exact ⟨⟨djE, ⟨djE, ⟨djE, ⟨djE, ⟨djE, ⟨djE, ⟨djE, ⟨djE, ⟨djE, ⟨(djC nin_nil (djC nin_nil (djC nin_nil (djC nin_nil djN)))), ⟨djE, ⟨djN, trivial⟩⟩⟩⟩⟩⟩⟩⟩⟩⟩⟩⟩, (ltO_cons ltK_nil (ltO_cons ltK_nil (ltO_cons ltK_nil (ltO_cons ltK_nil (ltO_cons ltK_nil (ltO_cons ltK_nil (ltO_cons ltK_nil (ltO_cons ltK_nil (ltO_cons ltK_nil (ltO_cons (ltK_cons (key_lt hlt 0 rfl) ltK_nil) (ltO_cons ltK_nil (ltO_cons (ltK_cons (key_lt hlt 0 rfl) ltK_nil) ltO_nil))))))))))))⟩
                have e_k436 : l433 = [] ∨ k436 < bb489 := key_ltM (r := r56) (w := 2) hlt 10 rfl
                refine tn_put rfl rfl rfl [3] (by decide) rfl (hm0 rfl) rfl (q_loadP (v := .one (.p fr435 (Sl.t r56 s432))) 0 rfl sz23 rfl rfl rfl rfl) ?_
                refine tn_put rfl rfl rfl [] (by decide) rfl (hm0 rfl) rfl (q_ixS rfl rfl h479a h479 (el23.trans (congrArg some h479b.symm))) ?_
                refine tn_put rfl rfl rfl [] (by decide) rfl (hm0 rfl) rfl (q_fieldI rfl fa57_0 rfl) ?_
                refine tn_put rfl rfl rfl [] (by decide) rfl (hm0 rfl) rfl (q_loadI (v := .one (iC .i64 n480)) rfl sz3 (map_get h479) rfl rfl) ?_
                refine tn_put rfl rfl rfl [3] (by decide) rfl (hmc (nin_cons (key_ne hnd 3 0 rfl rfl rfl) nin_nil) hmn) rfl (q_loadP (v := .one (.p fr435 (Sl.t r56 s432))) 0 rfl sz23 rfl rfl rfl rfl) ?_
                refine tn_put rfl rfl rfl [] (by decide) rfl hmn rfl (q_ixS rfl rfl h479a h479 (el23.trans (congrArg some h479b.symm))) ?_
                refine tn_put rfl rfl rfl [] (by decide) rfl hmn rfl (q_fieldI rfl fa57_1 rfl) ?_
                refine tn_put rfl rfl rfl [] (by decide) rfl hmn rfl (q_loadI (v := .one (iC .i64 n481)) rfl sz2 (map_get h479) rfl rfl) ?_
                refine tn_put rfl rfl rfl [] (by decide) rfl (hm0 rfl) rfl (q_fieldP rfl fa64_0 rfl) ?_
                refine tn_wr rfl rfl [0] (by decide) rfl (hm0 rfl) rfl (q_store (es' := [[iC .i64 n480, iC .i64 n477, iC .i64 0, bC true, bC true]]) 0 rfl rfl rfl sz3 rfl rfl rfl rfl rfl) (q := 0) rfl rfl ?_
                refine tn_put rfl rfl rfl [] (by decide) rfl (hm0 rfl) rfl (q_fieldP rfl fa64_2 rfl) ?_
                refine tn_wr rfl rfl [0] (by decide) rfl (hm0 rfl) rfl (q_store (es' := [[iC .i64 n480, iC .i64 n477, iC .i64 n481, bC true, bC true]]) 0 rfl rfl rfl sz2 rfl rfl rfl rfl rfl) (q := 0) rfl rfl ?_
                refine tn_end ?_
                refine E_seq ?_
                refine L_ops ?_
                refine ol_put rfl rfl rfl (q_loadP (v := .one (.p fr435 (Sl.t r56 s432))) 3 rfl sz23 rfl rfl rfl rfl) ?_
                obtain ⟨s490, h491, h⟩ := bindS h
                refine ol_put rfl rfl rfl (q_sliceS (r := r56) h491 rfl ty23 rfl ty57 (no_some rfl (cutS_some h491).1.1 _) (no_none _)) ?_
                refine ol_wr rfl rfl (q_store (es' := [[.p fr435 (Sl.t r56 s490)]]) 3 rfl rfl rfl sz23 rfl rfl rfl rfl rfl) rfl ?_
                refine ol_end ?_
                refine E_seq ?_
                refine L_seq ?_
                refine L_ops ?_
                refine ol_put rfl rfl rfl (q_move (v := .one (.yld k38)) rfl) ?_
                refine ol_put rfl rfl rfl (q_loadP (v := .agg [iC .i64 n480, iC .i64 n477, iC .i64 n481, bC true, bC true]) 0 rfl sz64 rfl rfl rfl rfl) ?_
                refine ol_yield (args := [.agg [iC .i64 n480, iC .i64 n477, iC .i64 n481, bC true, bC true]]) (p := 1) rfl rfl rfl rfl rfl rfl rfl rfl rfl ?_
                refine L_ops ?_
                refine ol_new rfl rfl rfl (q_alloc ty64 (row := [iC .i64 0, iC .i64 0, iC .i64 0, bC false, bC false]) rfl rfl) (fun k492 => ?_)
                refine ol_wr rfl rfl (q_store (es' := [[iC .i64 n480, iC .i64 n477, iC .i64 n481, bC true, bC true]]) 0 rfl rfl rfl sz64 rfl rfl rfl rfl rfl) rfl ?_
                refine ol_end ?_
                refine E_asg ?_
                refine L_block ?_
                refine L_seq ?_
                refine L_ops ?_
                refine ol_put rfl rfl rfl (q_loadP (v := .one (.clo (.func 42) [] [.ptr k6 0 0])) 6 rfl sz69 rfl rfl rfl rfl) ?_
                refine ol_put rfl rfl rfl (q_loadP (v := .agg [iC .i64 n480, iC .i64 n477, iC .i64 n481, bC true, bC true]) 0 rfl sz64 rfl rfl rfl rfl) ?_
                refine ol_scall (args := [.agg [iC .i64 n480, iC .i64 n477, iC .i64 n481, bC true, bC true], .one (.ptr k6 0 0)]) rfl rfl rfl rfl (by rw [E1_fn]; exact show fiOf Try.prog 42 = _ by unfold fiOf; rw [Try.func42]; unfold Try.f42; rfl) rfl rfl rfl ?_
                dsimp only
                refine L_seq ?_
                refine L_ops ?_
                refine ol_new rfl rfl rfl (q_box ty64 rfl (cs := [iC .i64 n480, iC .i64 n477, iC .i64 n481, bC true, bC true]) rfl rfl) (fun k493 => ?_)
                refine ol_new rfl rfl rfl (q_alloc ty66 (row := [iC .i64 0, iC .u64 0]) rfl rfl) (fun k494 => ?_)
                refine ol_put rfl rfl rfl (q_assign (v := .one (bC false)) rfl) ?_
                refine ol_end ?_
                refine E_seq ?_
                refine L_seq ?_
                refine L_norm (L2 := ([[(k494, 2, [[iC .i64 0, iC .u64 0]])], [(k493, 5, [[iC .i64 n480, iC .i64 n477, iC .i64 n481, bC true, bC true]])], [(k492, 5, [[iC .i64 n480, iC .i64 n477, iC .i64 n481, bC true, bC true]])], [(k38, 0, [])], [(k36, 1, [[.p fr434 (Sl.t r56 s487)]])], [(k37, 1, [[.p fr435 (Sl.t r56 s490)]])], [(k9, 2, [[iC .i64 0, .p true (Sl.t r56 (⟨false, 0, []⟩ : Sl (Int × Int)))]])], [(k14, 1, [[.clo (.func 42) [] [.ptr k6 0 0]]])], [(k15, 2, [[iC .i64 0, .p true (Sl.t r56 (⟨false, 0, []⟩ : Sl (Int × Int)))]])], [(k16, 1, [[iC .i64 0]])], [(k35, 2, [[iC .i64 n27, moC l433 k436]])], [(k6, 1, [[iC .i64 n1]])], moL r56 2 l433 k436] : BL)) [0, 1, 2, 4, 5, 6, 7, 8, 9, 10, 11, 12, 13] (by decide) rfl ?_
                refine L_turn 14 rfl [[], [], [], [], [], [], [], [], [], [], [], [], [k494], []] [(false, []), (false, []), (false, []), (false, []), (false, []), (false, []), (false, []), (false, []), (false, []), (false, []), (false, []), (false, []), (false, []), (false, [])] [[1, 2, 3, 4, 6, 7], [0, 3, 4, 6, 7], [0, 3, 4, 6, 7], [0, 1, 2, 6, 7], [0, 1, 2, 6, 7], [6, 7], [0, 1, 2, 3, 4, 5], [0, 1, 2, 3, 4, 5], [], [12], [12], [12], [9, 10, 11], []] (by kernel_rfl) (by kernel_rfl) (by kernel_rfl) ?_ (fun bb495 hlt hnd => ?_)
                · intro bb495 hlt hnd
                  exact ⟨⟨djE, ⟨djE, ⟨djE, ⟨djE, ⟨djE, ⟨djE, ⟨djE, ⟨djE, ⟨djE, ⟨djE, ⟨djE, ⟨djE, ⟨(djC nin_nil (djC nin_nil (djC nin_nil djN))), ⟨djE, trivial⟩⟩⟩⟩⟩⟩⟩⟩⟩⟩⟩⟩⟩⟩, (ltO_cons ltK_nil (ltO_cons ltK_nil (ltO_cons ltK_nil (ltO_cons ltK_nil (ltO_cons ltK_nil (ltO_cons ltK_nil (ltO_cons ltK_nil (ltO_cons ltK_nil (ltO_cons ltK_nil (ltO_cons ltK_nil (ltO_cons ltK_nil (ltO_cons ltK_nil (ltO_cons (ltK_cons (key_lt hlt 0 rfl) ltK_nil) (ltO_cons ltK_nil ltO_nil))))))))))))))⟩
                have e_k436 : l433 = [] ∨ k436 < bb495 := key_ltM (r := r56) (w := 2) hlt 12 rfl
                refine tn_put rfl rfl rfl [11] (by decide) rfl (hm0 rfl) rfl (q_loadP (v := .one (iC .i64 n1)) 0 rfl sz22 rfl rfl rfl rfl) ?_
                refine tn_put rfl rfl rfl [] (by decide) rfl (hm0 rfl) rfl (q_fieldP rfl fa64_1 rfl) ?_
                refine tn_put rfl rfl rfl [1] (by decide) rfl (hm0 rfl) rfl (q_loadP (v := .one (iC .i64 n477)) 0 rfl sz2 rfl rfl rfl rfl) ?_
                refine tn_put rfl rfl rfl [] (by decide) rfl (hm0 rfl) rfl (q_fieldP rfl fa64_2 rfl) ?_
                refine tn_put rfl rfl rfl [1] (by decide) rfl (hm0 rfl) rfl (q_loadP (v := .one (iC .i64 n481)) 0 rfl sz2 rfl rfl rfl rfl) ?_
                obtain ⟨⟨n500, n501⟩, h499, h⟩ := bindS h
                refine tn_put rfl rfl rfl [] (by decide) rfl (hm0 rfl) rfl (q_callF (v := .agg [iC .i64 n500, iC .u64 n501]) (args := [.one (iC .i64 n1), .one (iC .i64 n477), .one (iC .i64 n481)]) (ring_Mul_r (m + 0) h499) rfl rfl (vw_cons (vd_one vc_v) (vw_cons (vd_one vc_v) (vw_cons (vd_one vc_v) vw_nil))) rfl rfl) ?_
                refine tn_put rfl rfl rfl [] (by decide) rfl (hm0 rfl) rfl (q_fieldP rfl fa64_3 rfl) ?_
                refine tn_put rfl rfl rfl [1] (by decide) rfl (hm0 rfl) rfl (q_loadP (v := .one (bC true)) 0 rfl sz4 rfl rfl rfl rfl) ?_
                refine tn_put rfl rfl rfl [] (by decide) rfl (hm0 rfl) rfl (q_move (v := .one (bC true)) rfl) ?_
                refine tn_put rfl rfl rfl [] (by decide) rfl hmn rfl (q_fieldP rfl fa64_4 rfl) ?_
                refine tn_put rfl rfl rfl [1] (by decide) rfl (hmc (nin_cons (key_ne hnd 1 0 rfl rfl rfl) nin_nil) hmn) rfl (q_loadP (v := .one (bC true)) 0 rfl sz4 rfl rfl rfl rfl) ?_
                refine tn_put rfl rfl rfl [] (by decide) rfl hmn rfl (q_pickT (v := .one (bC true)) rfl rfl) ?_
                refine tn_wr rfl rfl [0] (by decide) rfl (hm0 rfl) rfl (q_store (es' := [[iC .i64 n500, iC .u64 n501]]) 0 rfl rfl rfl sz66 rfl rfl rfl rfl rfl) (q := 0) rfl rfl ?_
                refine tn_put rfl rfl rfl [] (by decide) rfl (hm0 rfl) rfl (q_assign (v := .one (bC true)) rfl) ?_
                refine tn_end ?_
                refine E_seq ?_
                refine L_ret ?_
                refine E_call (v := .tup [.agg [iC .i64 n500, iC .u64 n501], .one (bC true)]) (.inr rfl) (res_cell (d := .agg [iC .i64 n500, iC .u64 n501]) 0 rfl sz66 rfl rfl rfl rfl (res_tmp (d := .one (bC true)) rfl res_nil)) rfl ?_
                refine ol_put rfl rfl rfl (q_move (v := .tup [.agg [iC .i64 n500, iC .u64 n501], .one (bC true)]) rfl) ?_
                refine ol_put rfl rfl rfl (q_ext (v := .agg [iC .i64 n500, iC .u64 n501]) rfl rfl) ?_
                refine ol_put rfl rfl rfl (q_ext (v := .one (bC true)) rfl rfl) ?_
                refine ol_new rfl rfl rfl (q_alloc ty66 (row := [iC .i64 0, iC .u64 0]) rfl rfl) (fun k502 => ?_)
                refine ol_wr rfl rfl (q_store (es' := [[iC .i64 n500, iC .u64 n501]]) 0 rfl rfl rfl sz66 rfl rfl rfl rfl rfl) rfl ?_
                refine ol_put rfl rfl rfl (q_assign (v := .one (bC true)) rfl) ?_
                refine ol_end ?_
                refine E_seq ?_
                refine L_seq ?_
                refine L_seq ?_
                refine L_ops ?_
                refine ol_put rfl rfl rfl (q_move (v := .one (bC true)) rfl) ?_
                refine ol_put rfl rfl rfl (q_not rfl) ?_
                refine ol_end ?_
                refine E_seq ?_
                refine L_condF rfl ?_
                refine L_skip ?_
                refine E_seq ?_
                refine L_seq ?_
                refine L_ops ?_
                refine ol_put rfl rfl rfl (q_loadP (v := .agg [iC .i64 n500, iC .u64 n501]) 0 rfl sz66 rfl rfl rfl rfl) ?_
                obtain ⟨⟨n504, b505⟩, h503, h⟩ := bindS h
                refine ol_put rfl rfl rfl (q_callF (v := .tup [.one (iC .i64 n504), .one (bC b505)]) (args := [.agg [iC .i64 n500, iC .u64 n501]]) (wide_Narrow_r (m + 2) h503) rfl rfl (vw_cons (vd_agg (vc_cons vc_v (vc_cons vc_v vc_nil))) vw_nil) rfl rfl) ?_
                refine ol_put rfl rfl rfl (q_move (v := .tup [.one (iC .i64 n504), .one (bC b505)]) rfl) ?_
                refine ol_put rfl rfl rfl (q_ext (v := .one (iC .i64 n504)) rfl rfl) ?_
                refine ol_put rfl rfl rfl (q_ext (v := .one (bC b505)) rfl rfl) ?_
                refine ol_put rfl rfl rfl (q_assign (v := .one (iC .i64 n504)) rfl) ?_
                refine ol_put rfl rfl rfl (q_assign (v := .one (bC b505)) rfl) ?_
                refine ol_end ?_
                refine E_seq ?_
                refine L_seq ?_
                refine L_seq ?_
                refine L_ops ?_
                refine ol_put rfl rfl rfl (q_move (v := .one (bC b505)) rfl) ?_
                rcases b505 with _ | _
                · replace h := ifF (by decide) h
                  refine ol_put rfl rfl rfl (q_not rfl) ?_
                  refine ol_end ?_
                  refine E_seq ?_
                  refine L_condT rfl ?_
                  refine L_seq ?_
                  refine L_ops ?_
                  refine ol_put rfl rfl rfl (q_build (cs := [iC .i64 0, .p true (Sl.t r56 (⟨false, 0, []⟩ : Sl (Int × Int)))]) ty25 rfl pl25 rfl) ?_
                  refine ol_wr rfl rfl (q_store (es' := [[iC .i64 0, .p true (Sl.t r56 (⟨false, 0, []⟩ : Sl (Int × Int)))]]) 9 rfl rfl rfl sz25 rfl rfl rfl rfl rfl) rfl ?_
                  refine ol_wr rfl rfl (q_store (es' := [[iC .i64 12]]) 10 rfl rfl rfl sz28 rfl rfl rfl rfl rfl) rfl ?_
                  refine ol_end ?_
                  refine E_seq ?_
                  refine L_ret ?_
                  refine E_seqR ?_
                  refine E_blkR ?_
                  refine E_roundX (p := 4) (es := [[]]) rfl rfl rfl rfl ?_
                  refine ol_put rfl rfl rfl (q_not rfl) ?_
                  refine ol_end ?_
                  refine E_seq ?_
                  refine L_condT rfl ?_
                  refine L_ret ?_
                  refine E_blkR ?_
                  obtain rfl := Option.some.inj h
                  refine E_out ?_
                  exact (E_je k436 (ups_self trivial) [7, 8, 9, 10, 11, 4, 12, 13] (by decide) rfl)
                · replace h := ifT (by decide) h
                  refine ol_put rfl rfl rfl (q_not rfl) ?_
                  refine ol_end ?_
                  refine E_seq ?_
                  refine L_condF rfl ?_
                  refine L_skip ?_
                  refine E_seq ?_
                  refine L_ops ?_
                  refine ol_put rfl rfl rfl (q_fieldP rfl fa25_1 rfl) ?_
                  refine ol_put rfl rfl rfl (q_loadP (v := .one (moC l433 k436)) 11 rfl sz23 rfl rfl rfl rfl) ?_
                  refine ol_put rfl rfl rfl (q_fieldP rfl fa64_0 rfl) ?_
                  refine ol_put rfl rfl rfl (q_loadP (v := .one (iC .i64 n480)) 3 rfl sz3 rfl rfl rfl rfl) ?_
                  refine ol_put rfl rfl rfl (q_move (v := .one (iC .i64 n504)) rfl) ?_
                  refine ol_put rfl rfl rfl (q_build (cs := [iC .i64 n480, iC .i64 n504]) ty57 rfl pl57 rfl) ?_
                  refine ol_new rfl rfl rfl (q_bslice (cs := [iC .i64 n480, iC .i64 n504]) (es := (([(n480, n504)] : List (Int × Int))).map (rowC r56)) ty23 rfl ty57 rfl rfl rfl rfl rfl) (fun k506 => ?_)
                  obtain ⟨_, h507, h⟩ := bindS h
                  obtain ⟨h507b, rfl⟩ := app_some h507
                  refine ol_appM (r := r56) (l := l433) (ys := ([(n480, n504)] : List (Int × Int))) 14 rfl rfl rfl rfl rfl rfl (el_ownM (l := ([(n480, n504)] : List (Int × Int))) 0 rfl) rfl h507 (fun y => rfl) el23 ty23 rfl rfl rfl rfl rfl (fun k508 => ?_)
                  refine ol_put rfl rfl rfl (q_fieldP rfl fa25_1 rfl) ?_
                  refine ol_wr rfl rfl (q_store (es' := [[iC .i64 n27, moC (l433 ++ ([(n480, n504)] : List (Int × Int))) k508]]) 13 rfl rfl rfl sz23 rfl rfl rfl rfl rfl) rfl ?_
                  refine ol_end ?_
                  refine E_blkN ?_
                  refine E_roundN (p := 6) rfl ?_
                  refine ol_put rfl rfl rfl (q_not rfl) ?_
                  refine ol_end ?_
                  refine E_seq ?_
                  refine L_condF rfl ?_
                  refine L_skip ?_
                  refine E_blkN ?_
                  obtain rfl := Option.some.inj h
                  exact E_next (fr434, fr435, k508) (ups_self ⟨rfl, rfl, rfl, trivial⟩) [6, 7, 8, 9, 10, 11, 12, 13, 14, 0] (by decide) rfl
              · replace h := ifF c485 h
                refine tn_put rfl rfl rfl [0] (by decide) rfl (hm0 rfl) rfl (q_bin rfl rfl (p_leq_f _ _ _ _ _ c485) rfl) ?_
                refine tn_put rfl rfl rfl [] (by decide) rfl (hm0 rfl) rfl (q_pickT (v := .one (bC false)) rfl rfl) ?_
                refine tn_put rfl rfl rfl [] (by decide) rfl (hm0 rfl) rfl (q_pickF (v := .one (bC false)) rfl rfl) ?_
                refine tn_put rfl rfl rfl [] (by decide) rfl (hm0 rfl) rfl (q_fieldP rfl fa64_4 rfl) ?_
                refine tn_wr rfl rfl [0] (by decide) rfl (hm0 rfl) rfl (q_store (es' := [[iC .i64 0, iC .i64 0, iC .i64 0, bC true, bC false]]) 0 rfl rfl rfl sz4 rfl rfl rfl rfl rfl) (q := 0) rfl rfl ?_
                refine tn_end ?_
                refine E_seq ?_
                refine L_seq ?_
                refine L_seq ?_
                refine L_ops ?_
                refine ol_put rfl rfl rfl (q_fieldP rfl fa64_3 rfl) ?_
                refine ol_put rfl rfl rfl (q_loadP (v := .one (bC true)) 0 rfl sz4 rfl rfl rfl rfl) ?_
                refine ol_end ?_
                refine E_seq ?_
                refine L_condT rfl ?_
                refine L_seq ?_
                refine L_norm (L2 := ([[(k438, 5, [[iC .i64 0, iC .i64 0, iC .i64 0, bC true, bC false]])], [(k38, 0, [])], [(k36, 1, [[.p fr434 (Sl.t r56 s431)]])], [(k37, 1, [[.p fr435 (Sl.t r56 s432)]])], [(k9, 2, [[iC .i64 0, .p true (Sl.t r56 (⟨false, 0, []⟩ : Sl (Int × Int)))]])], [(k14, 1, [[.clo (.func 42) [] [.ptr k6 0 0]]])], [(k15, 2, [[iC .i64 0, .p true (Sl.t r56 (⟨false, 0, []⟩ : Sl (Int × Int)))]])], [(k16, 1, [[iC .i64 0]])], [(k35, 2, [[iC .i64 n27, moC l433 k436]])], [(k6, 1, [[iC .i64 n1]])], moL r56 2 l433 k436] : BL)) [0, 1, 2, 3, 4, 5, 6, 7, 8, 9, 10] (by decide) rfl ?_
                refine L_turn 12 rfl [[], [], [], [], [], [], [], [], [], [k438], [], [k438]] [(false, []), (false, []), (false, []), (false, []), (false, []), (false, []), (false, []), (false, []), (false, []), (false, []), (false, []), (false, [])] [[4, 5, 6, 7], [4, 5, 6, 7], [4, 5, 6, 7], [4, 5, 6, 7], [0, 1, 2, 3, 8, 9], [0, 1, 2, 3, 8, 9], [0, 1, 2, 3, 8, 9], [0, 1, 2, 3, 8, 9], [4, 5, 6, 7], [4, 5, 6, 7], [], []] (by kernel_rfl) (by kernel_rfl) (by kernel_rfl) ?_ (fun bb509 hlt hnd => ?_)
                · intro bb509 hlt hnd
                  exact ⟨⟨djE, ⟨djE, ⟨djE, ⟨djE, ⟨djE, ⟨djE, ⟨djE, ⟨djE, ⟨djE, ⟨(djC nin_nil (djC nin_nil (djC nin_nil (djC nin_nil djN)))), ⟨djE, ⟨djN, trivial⟩⟩⟩⟩⟩⟩⟩⟩⟩⟩⟩⟩, (ltO_cons ltK_nil (ltO_cons ltK_nil (ltO_cons ltK_nil (ltO_cons ltK_nil (ltO_cons ltK_nil (ltO_cons ltK_nil (ltO_cons ltK_nil (ltO_cons ltK_nil (ltO_cons ltK_nil (ltO_cons (ltK_cons (key_lt hlt 0 rfl) ltK_nil) (ltO_cons ltK_nil (ltO_cons (ltK_cons (key_lt hlt 0 rfl) ltK_nil) ltO_nil))))))))))))⟩
                have e_k436 : l433 = [] ∨ k436 < bb509 := key_ltM (r := r56) (w := 2) hlt 10 rfl
                refine tn_put rfl rfl rfl [2] (by decide) rfl (hm0 rfl) rfl (q_loadP (v := .one (.p fr434 (Sl.t r56 s431))) 0 rfl sz23 rfl rfl rfl rfl) ?_
                refine tn_put rfl rfl rfl [] (by decide) rfl (hm0 rfl) rfl (q_ixS rfl rfl h475a h475 (el23.trans (congrArg some h475b.symm))) ?_
                refine tn_put rfl rfl rfl [] (by decide) rfl (hm0 rfl) rfl (q_fieldI rfl fa57_0 rfl) ?_
                refine tn_put rfl rfl rfl [] (by decide) rfl (hm0 rfl) rfl (q_loadI (v := .one (iC .i64 n476)) rfl sz3 (map_get h475) rfl rfl) ?_
                refine tn_put rfl rfl rfl [2] (by decide) rfl (hmc (nin_cons (key_ne hnd 2 0 rfl rfl rfl) nin_nil) hmn) rfl (q_loadP (v := .one (.p fr434 (Sl.t r56 s431))) 0 rfl sz23 rfl rfl rfl rfl) ?_
                refine tn_put rfl rfl rfl [] (by decide) rfl hmn rfl (q_ixS rfl rfl h475a h475 (el23.trans (congrArg some h475b.symm))) ?_
                refine tn_put rfl rfl rfl [] (by decide) rfl hmn rfl (q_fieldI rfl fa57_1 rfl) ?_
                refine tn_put rfl rfl rfl [] (by decide) rfl hmn rfl (q_loadI (v := .one (iC .i64 n477)) rfl sz2 (map_get h475) rfl rfl) ?_
                refine tn_put rfl rfl rfl [] (by decide) rfl (hm0 rfl) rfl (q_fieldP rfl fa64_0 rfl) ?_
                refine tn_wr rfl rfl [0] (by decide) rfl (hm0 rfl) rfl (q_store (es' := [[iC .i64 n476, iC .i64 0, iC .i64 0, bC true, bC false]]) 0 rfl rfl rfl sz3 rfl rfl rfl rfl rfl) (q := 0) rfl rfl ?_
                refine tn_put rfl rfl rfl [] (by decide) rfl (hm0 rfl) rfl (q_fieldP rfl fa64_1 rfl) ?_
                refine tn_wr rfl rfl [0] (by decide) rfl (hm0 rfl) rfl (q_store (es' := [[iC .i64 n476, iC .i64 n477, iC .i64 0, bC true, bC false]]) 0 rfl rfl rfl sz2 rfl rfl rfl rfl rfl) (q := 0) rfl rfl ?_
                refine tn_end ?_
                refine E_seq ?_
                refine L_ops ?_
                refine ol_put rfl rfl rfl (q_loadP (v := .one (.p fr434 (Sl.t r56 s431))) 2 rfl sz23 rfl rfl rfl rfl) ?_
                obtain ⟨s510, h511, h⟩ := bindS h
                refine ol_put rfl rfl rfl (q_sliceS (r := r56) h511 rfl ty23 rfl ty57 (no_some rfl (cutS_some h511).1.1 _) (no_none _)) ?_
                refine ol_wr rfl rfl (q_store (es' := [[.p fr434 (Sl.t r56 s510)]]) 2 rfl rfl rfl sz23 rfl rfl rfl rfl rfl) rfl ?_
                refine ol_end ?_
                refine E_seq ?_
                refine L_seq ?_
                refine L_seq ?_
                refine L_ops ?_
                refine ol_put rfl rfl rfl (q_fieldP rfl fa64_4 rfl) ?_
                refine ol_put rfl rfl rfl (q_loadP (v := .one (bC false)) 0 rfl sz4 rfl rfl rfl rfl) ?_
                refine ol_end ?_
                refine E_seq ?_
                refine L_condF rfl ?_
                refine L_skip ?_
                refine E_seq ?_
                refine L_seq ?_
                refine L_ops ?_
                refine ol_put rfl rfl rfl (q_move (v := .one (.yld k38)) rfl) ?_
                refine ol_put rfl rfl rfl (q_loadP (v := .agg [iC .i64 n476, iC .i64 n477, iC .i64 0, bC true, bC false]) 0 rfl sz64 rfl rfl rfl rfl) ?_
                refine ol_yield (args := [.agg [iC .i64 n476, iC .i64 n477, iC .i64 0, bC true, bC false]]) (p := 1) rfl rfl rfl rfl rfl rfl rfl rfl rfl ?_
                refine L_ops ?_
                refine ol_new rfl rfl rfl (q_alloc ty64 (row := [iC .i64 0, iC .i64 0, iC .i64 0, bC false, bC false]) rfl rfl) (fun k512 => ?_)
                refine ol_wr rfl rfl (q_store (es' := [[iC .i64 n476, iC .i64 n477, iC .i64 0, bC true, bC false]]) 0 rfl rfl rfl sz64 rfl rfl rfl rfl rfl) rfl ?_
                refine ol_end ?_
                refine E_asg ?_
                refine L_block ?_
                refine L_seq ?_
                refine L_ops ?_
                refine ol_put rfl rfl rfl (q_loadP (v := .one (.clo (.func 42) [] [.ptr k6 0 0])) 6 rfl sz69 rfl rfl rfl rfl) ?_
                refine ol_put rfl rfl rfl (q_loadP (v := .agg [iC .i64 n476, iC .i64 n477, iC .i64 0, bC true, bC false]) 0 rfl sz64 rfl rfl rfl rfl) ?_
                refine ol_scall (args := [.agg [iC .i64 n476, iC .i64 n477, iC .i64 0, bC true, bC false], .one (.ptr k6 0 0)]) rfl rfl rfl rfl (by rw [E1_fn]; exact show fiOf Try.prog 42 = _ by unfold fiOf; rw [Try.func42]; unfold Try.f42; rfl) rfl rfl rfl ?_
                dsimp only
                refine L_seq ?_
                refine L_ops ?_
                refine ol_new rfl rfl rfl (q_box ty64 rfl (cs := [iC .i64 n476, iC .i64 n477, iC .i64 0, bC true, bC false]) rfl rfl) (fun k513 => ?_)
                refine ol_new rfl rfl rfl (q_alloc ty66 (row := [iC .i64 0, iC .u64 0]) rfl rfl) (fun k514 => ?_)
                refine ol_put rfl rfl rfl (q_assign (v := .one (bC false)) rfl) ?_
                refine ol_end ?_
                refine E_seq ?_
                refine L_seq ?_
                refine L_norm (L2 := ([[(k514, 2, [[iC .i64 0, iC .u64 0]])], [(k513, 5, [[iC .i64 n476, iC .i64 n477, iC .i64 0, bC true, bC false]])], [(k512, 5, [[iC .i64 n476, iC .i64 n477, iC .i64 0, bC true, bC false]])], [(k38, 0, [])], [(k36, 1, [[.p fr434 (Sl.t r56 s510)]])], [(k37, 1, [[.p fr435 (Sl.t r56 s432)]])], [(k9, 2, [[iC .i64 0, .p true (Sl.t r56 (⟨false, 0, []⟩ : Sl (Int × Int)))]])], [(k14, 1, [[.clo (.func 42) [] [.ptr k6 0 0]]])], [(k15, 2, [[iC .i64 0, .p true (Sl.t r56 (⟨false, 0, []⟩ : Sl (Int × Int)))]])], [(k16, 1, [[iC .i64 0]])], [(k35, 2, [[iC .i64 n27, moC l433 k436]])], [(k6, 1, [[iC .i64 n1]])], moL r56 2 l433 k436] : BL)) [0, 1, 2, 4, 5, 6, 7, 8, 9, 10, 11, 12, 13] (by decide) rfl ?_
                refine L_turn 14 rfl [[], [], [], [], [], [], [], [], [], [], [], [], [k514], []] [(false, []), (false, []), (false, []), (false, []), (false, []), (false, []), (false, []), (false, []), (false, []), (false, []), (false, []), (false, []), (false, []), (false, [])] [[1, 2, 3, 4, 6, 7], [0, 3, 4, 6, 7], [0, 3, 4, 6, 7], [0, 1, 2, 6, 7], [0, 1, 2, 6, 7], [6, 7], [0, 1, 2, 3, 4, 5], [0, 1, 2, 3, 4, 5], [], [12], [12], [12], [9, 10, 11], []] (by kernel_rfl) (by kernel_rfl) (by kernel_rfl) ?_ (fun bb515 hlt hnd => ?_)
                · intro bb515 hlt hnd
                  exact ⟨⟨djE, ⟨djE, ⟨djE, ⟨djE, ⟨djE, ⟨djE, ⟨djE, ⟨djE, ⟨djE, ⟨djE, ⟨djE, ⟨djE, ⟨(djC nin_nil (djC nin_nil (djC nin_nil djN))), ⟨djE, trivial⟩⟩⟩⟩⟩⟩⟩⟩⟩⟩⟩⟩⟩⟩, (ltO_cons ltK_nil (ltO_cons ltK_nil (ltO_cons ltK_nil (ltO_cons ltK_nil (ltO_cons ltK_nil (ltO_cons ltK_nil (ltO_cons ltK_nil (ltO_cons ltK_nil (ltO_cons ltK_nil (ltO_cons ltK_nil (ltO_cons ltK_nil (ltO_cons ltK_nil (ltO_cons (ltK_cons (key_lt hlt 0 rfl) ltK_nil) (ltO_cons ltK_nil ltO_nil))))))))))))))⟩
                have e_k436 : l433 = [] ∨ k436 < bb515 := key_ltM (r := r56) (w := 2) hlt 12 rfl
                refine tn_put rfl rfl rfl [11] (by decide) rfl (hm0 rfl) rfl (q_loadP (v := .one (iC .i64 n1)) 0 rfl sz22 rfl rfl rfl rfl) ?_
                refine tn_put rfl rfl rfl [] (by decide) rfl (hm0 rfl) rfl (q_fieldP rfl fa64_1 rfl) ?_
                refine tn_put rfl rfl rfl [1] (by decide) rfl (hm0 rfl) rfl (q_loadP (v := .one (iC .i64 n477)) 0 rfl sz2 rfl rfl rfl rfl) ?_
                refine tn_put rfl rfl rfl [] (by decide) rfl (hm0 rfl) rfl (q_fieldP rfl fa64_2 rfl) ?_
                refine tn_put rfl rfl rfl [1] (by decide) rfl (hm0 rfl) rfl (q_loadP (v := .one (iC .i64 0)) 0 rfl sz2 rfl rfl rfl rfl) ?_
                obtain ⟨⟨n520, n521⟩, h519, h⟩ := bindS h
                refine tn_put rfl rfl rfl [] (by decide) rfl (hm0 rfl) rfl (q_callF (v := .agg [iC .i64 n520, iC .u64 n521]) (args := [.one (iC .i64 n1), .one (iC .i64 n477), .one (iC .i64 0)]) (ring_Mul_r (m + 0) h519) rfl rfl (vw_cons (vd_one vc_v) (vw_cons (vd_one vc_v) (vw_cons (vd_one vc_v) vw_nil))) rfl rfl) ?_
                refine tn_put rfl rfl rfl [] (by decide) rfl (hm0 rfl) rfl (q_fieldP rfl fa64_3 rfl) ?_
                refine tn_put rfl rfl rfl [1] (by decide) rfl (hm0 rfl) rfl (q_loadP (v := .one (bC true)) 0 rfl sz4 rfl rfl rfl rfl) ?_
                refine tn_put rfl rfl rfl [] (by decide) rfl (hm0 rfl) rfl (q_move (v := .one (bC true)) rfl) ?_
                refine tn_put rfl rfl rfl [] (by decide) rfl hmn rfl (q_fieldP rfl fa64_4 rfl) ?_
                refine tn_put rfl rfl rfl [1] (by decide) rfl (hmc (nin_cons (key_ne hnd 1 0 rfl rfl rfl) nin_nil) hmn) rfl (q_loadP (v := .one (bC false)) 0 rfl sz4 rfl rfl rfl rfl) ?_
                refine tn_put rfl rfl rfl [] (by decide) rfl hmn rfl (q_pickT (v := .one (bC false)) rfl rfl) ?_
                refine tn_wr rfl rfl [0] (by decide) rfl (hm0 rfl) rfl (q_store (es' := [[iC .i64 n520, iC .u64 n521]]) 0 rfl rfl rfl sz66 rfl rfl rfl rfl rfl) (q := 0) rfl rfl ?_
                refine tn_put rfl rfl rfl [] (by decide) rfl (hm0 rfl) rfl (q_assign (v := .one (bC false)) rfl) ?_
                refine tn_end ?_
                refine E_seq ?_
                refine L_ret ?_
                refine E_call (v := .tup [.agg [iC .i64 n520, iC .u64 n521], .one (bC false)]) (.inr rfl) (res_cell (d := .agg [iC .i64 n520, iC .u64 n521]) 0 rfl sz66 rfl rfl rfl rfl (res_tmp (d := .one (bC false)) rfl res_nil)) rfl ?_
                refine ol_put rfl rfl rfl (q_move (v := .tup [.agg [iC .i64 n520, iC .u64 n521], .one (bC false)]) rfl) ?_
                refine ol_put rfl rfl rfl (q_ext (v := .agg [iC .i64 n520, iC .u64 n521]) rfl rfl) ?_
                refine ol_put rfl rfl rfl (q_ext (v := .one (bC false)) rfl rfl) ?_
                refine ol_new rfl rfl rfl (q_alloc ty66 (row := [iC .i64 0, iC .u64 0]) rfl rfl) (fun k522 => ?_)
                refine ol_wr rfl rfl (q_store (es' := [[iC .i64 n520, iC .u64 n521]]) 0 rfl rfl rfl sz66 rfl rfl rfl rfl rfl) rfl ?_
                refine ol_put rfl rfl rfl (q_assign (v := .one (bC false)) rfl) ?_
                refine ol_end ?_
                refine E_seq ?_
                refine L_seq ?_
                refine L_seq ?_
                refine L_ops ?_
                refine ol_put rfl rfl rfl (q_move (v := .one (bC false)) rfl) ?_
                refine ol_put rfl rfl rfl (q_not rfl) ?_
                refine ol_end ?_
                refine E_seq ?_
                refine L_condT rfl ?_
                refine L_exit ?_
                refine E_seqX ?_
                refine E_blkH ?_
                refine E_roundN (p := 4) rfl ?_
                refine ol_put rfl rfl rfl (q_not rfl) ?_
                refine ol_end ?_
                refine E_seq ?_
                refine L_condF rfl ?_
                refine L_skip ?_
                refine E_blkN ?_
                obtain rfl := Option.some.inj h
                exact E_next (fr434, fr435, k436) (ups_self ⟨rfl, rfl, rfl, trivial⟩) [4, 5, 6, 7, 8, 9, 10, 11, 12, 13] (by decide) rfl
            · replace h := ifF c482 h
              refine tn_put rfl rfl rfl [0] (by decide) rfl (hm0 rfl) rfl (q_bin rfl rfl (p_leq_f _ _ _ _ _ c482) rfl) ?_
              refine tn_put rfl rfl rfl [] (by decide) rfl (hm0 rfl) rfl (q_pickT (v := .one (bC false)) rfl rfl) ?_
              refine tn_put rfl rfl rfl [] (by decide) rfl (hm0 rfl) rfl (q_pickF (v := .one (bC false)) rfl rfl) ?_
              refine tn_put rfl rfl rfl [] (by decide) rfl (hm0 rfl) rfl (q_fieldP rfl fa64_3 rfl) ?_
              refine tn_wr rfl rfl [0] (by decide) rfl (hm0 rfl) rfl (q_store (es' := [[iC .i64 0, iC .i64 0, iC .i64 0, bC false, bC false]]) 0 rfl rfl rfl sz4 rfl rfl rfl rfl rfl) (q := 0) rfl rfl ?_
              refine tn_end ?_
              refine E_seq ?_
              refine L_seq ?_
              refine L_norm (L2 := ([[(k438, 5, [[iC .i64 0, iC .i64 0, iC .i64 0, bC false, bC false]])], [(k38, 0, [])], [(k36, 1, [[.p fr434 (Sl.t r56 s431)]])], [(k37, 1, [[.p fr435 (Sl.t r56 s432)]])], [(k9, 2, [[iC .i64 0, .p true (Sl.t r56 (⟨false, 0, []⟩ : Sl (Int × Int)))]])], [(k14, 1, [[.clo (.func 42) [] [.ptr k6 0 0]]])], [(k15, 2, [[iC .i64 0, .p true (Sl.t r56 (⟨false, 0, []⟩ : Sl (Int × Int)))]])], [(k16, 1, [[iC .i64 0]])], [(k35, 2, [[iC .i64 n27, moC l433 k436]])], [(k6, 1, [[iC .i64 n1]])], moL r56 2 l433 k436] : BL)) [0, 1, 2, 3, 4, 5, 6, 7, 8, 9, 10] (by decide) rfl ?_
              refine L_turn 21 rfl [[], [], [], [], [], [], [], [], [], [], [], [], [], [], [], [], [], [], [], [], [k438]] [(false, []), (false, []), (false, []), (false, []), (false, []), (false, []), (false, []), (false, []), (false, []), (false, []), (false, []), (false, []), (false, []), (false, []), (false, []), (false, []), (false, []), (false, []), (false, []), (false, []), (false, [])] [[], [], [], [], [], [], [], [], [12, 13, 14, 15], [12, 13, 14, 15], [12, 13, 14, 15], [12, 13, 14, 15], [8, 9, 10, 11], [8, 9, 10, 11], [8, 9, 10, 11], [8, 9, 10, 11], [], [], [], [], []] (by kernel_rfl) (by kernel_rfl) (by kernel_rfl) ?_ (fun bb523 hlt hnd => ?_)
              · intro bb523 hlt hnd
                exact ⟨⟨djE, ⟨djE, ⟨djE, ⟨djE, ⟨djE, ⟨djE, ⟨djE, ⟨djE, ⟨djE, ⟨djE, ⟨djE, ⟨djE, ⟨djE, ⟨djE, ⟨djE, ⟨djE, ⟨djE, ⟨djE, ⟨djE, ⟨djE, ⟨djN, trivial⟩⟩⟩⟩⟩⟩⟩⟩⟩⟩⟩⟩⟩⟩⟩⟩⟩⟩⟩⟩⟩, (ltO_cons ltK_nil (ltO_cons ltK_nil (ltO_cons ltK_nil (ltO_cons ltK_nil (ltO_cons ltK_nil (ltO_cons ltK_nil (ltO_cons ltK_nil (ltO_cons ltK_nil (ltO_cons ltK_nil (ltO_cons ltK_nil (ltO_cons ltK_nil (ltO_cons ltK_nil (ltO_cons ltK_nil (ltO_cons ltK_nil (ltO_cons ltK_nil (ltO_cons ltK_nil (ltO_cons ltK_nil (ltO_cons ltK_nil (ltO_cons ltK_nil (ltO_cons ltK_nil (ltO_cons (ltK_cons (key_lt hlt 0 rfl) ltK_nil) ltO_nil)))))))))))))))))))))⟩
              have e_k436 : l433 = [] ∨ k436 < bb523 := key_ltM (r := r56) (w := 2) hlt 10 rfl
              refine tn_put rfl rfl rfl [2] (by decide) rfl (hm0 rfl) rfl (q_loadP (v := .one (.p fr434 (Sl.t r56 s431))) 0 rfl sz23 rfl rfl rfl rfl) ?_
              refine tn_put rfl rfl rfl [] (by decide) rfl (hm0 rfl) rfl (q_lenS rfl ty23 rfl rfl rfl rfl) ?_
              refine tn_put rfl rfl rfl [] (by decide) rfl (hm0 rfl) rfl (q_bin rfl rfl (p_eql_f _ _ _ _ _ (gt0_ne c437)) rfl) ?_
              refine tn_put rfl rfl rfl [] (by decide) rfl (hm0 rfl) rfl (q_move (v := .one (bC false)) rfl) ?_
              refine tn_put rfl rfl rfl [3] (by decide) rfl (hm0 rfl) rfl (q_loadP (v := .one (.p fr435 (Sl.t r56 s432))) 0 rfl sz23 rfl rfl rfl rfl) ?_
              refine tn_put rfl rfl rfl [] (by decide) rfl (hm0 rfl) rfl (q_lenS rfl ty23 rfl rfl rfl rfl) ?_
              refine tn_put rfl rfl rfl [] (by decide) rfl (hm0 rfl) rfl (q_bin rfl rfl (p_gtr_t _ _ _ _ _ (len1 c450)) rfl) ?_
              refine tn_put rfl rfl rfl [] (by decide) rfl (hm0 rfl) rfl (q_move (v := .one (bC true)) rfl) ?_
              refine tn_put rfl rfl rfl [3] (by decide) rfl (hm0 rfl) rfl (q_loadP (v := .one (.p fr435 (Sl.t r56 s432))) 0 rfl sz23 rfl rfl rfl rfl) ?_
              refine tn_put rfl rfl rfl [] (by decide) rfl (hm0 rfl) rfl (q_ixS rfl rfl h479a h479 (el23.trans (congrArg some h479b.symm))) ?_
              refine tn_put rfl rfl rfl [] (by decide) rfl (hm0 rfl) rfl (q_fieldI rfl fa57_0 rfl) ?_
              refine tn_put rfl rfl rfl [] (by decide) rfl (hm0 rfl) rfl (q_loadI (v := .one (iC .i64 n480)) rfl sz3 (map_get h479) rfl rfl) ?_
              refine tn_put rfl rfl rfl [2] (by decide) rfl (hm0 rfl) rfl (q_loadP (v := .one (.p fr434 (Sl.t r56 s431))) 0 rfl sz23 rfl rfl rfl rfl) ?_
              refine tn_put rfl rfl rfl [] (by decide) rfl (hm0 rfl) rfl (q_ixS rfl rfl h475a h475 (el23.trans (congrArg some h475b.symm))) ?_
              refine tn_put rfl rfl rfl [] (by decide) rfl (hm0 rfl) rfl (q_fieldI rfl fa57_0 rfl) ?_
              refine tn_put rfl rfl rfl [] (by decide) rfl (hm0 rfl) rfl (q_loadI (v := .one (iC .i64 n476)) rfl sz3 (map_get h475) rfl rfl) ?_
              refine tn_put rfl rfl rfl [] (by decide) rfl (hm0 rfl) rfl (q_bin rfl rfl (p_leq_t _ _ _ _ _ (notle c482)) rfl) ?_
              refine tn_put rfl rfl rfl [] (by decide) rfl (hm0 rfl) rfl (q_pickT (v := .one (bC true)) rfl rfl) ?_
              refine tn_put rfl rfl rfl [] (by decide) rfl (hm0 rfl) rfl (q_pickF (v := .one (bC true)) rfl rfl) ?_
              refine tn_put rfl rfl rfl [] (by decide) rfl (hm0 rfl) rfl (q_fieldP rfl fa64_4 rfl) ?_
              refine tn_wr rfl rfl [0] (by decide) rfl (hm0 rfl) rfl (q_store (es' := [[iC .i64 0, iC .i64 0, iC .i64 0, bC false, bC true]]) 0 rfl rfl rfl sz4 rfl rfl rfl rfl rfl) (q := 0) rfl rfl ?_
              refine tn_end ?_
              refine E_seq ?_
              refine L_seq ?_
              refine L_seq ?_
              refine L_ops ?_
              refine ol_put rfl rfl rfl (q_fieldP rfl fa64_3 rfl) ?_
              refine ol_put rfl rfl rfl (q_loadP (v := .one (bC false)) 0 rfl sz4 rfl rfl rfl rfl) ?_
              refine ol_end ?_
              refine E_seq ?_
              refine L_condF rfl ?_
              refine L_skip ?_
              refine E_seq ?_
              refine L_seq ?_
              refine L_seq ?_
              refine L_ops ?_
              refine ol_put rfl rfl rfl (q_fieldP rfl fa64_4 rfl) ?_
              refine ol_put rfl rfl rfl (q_loadP (v := .one (bC true)) 0 rfl sz4 rfl rfl rfl rfl) ?_
              refine ol_end ?_
              refine E_seq ?_
              refine L_condT rfl ?_
              refine L_seq ?_
              refine L_norm (L2 := ([[(k438, 5, [[iC .i64 0, iC .i64 0, iC .i64 0, bC false, bC true]])], [(k38, 0, [])], [(k36, 1, [[.p fr434 (Sl.t r56 s431)]])], [(k37, 1, [[.p fr435 (Sl.t r56 s432)]])], [(k9, 2, [[iC .i64 0, .p true (Sl.t r56 (⟨false, 0, []⟩ : Sl (Int × Int)))]])], [(k14, 1, [[.clo (.func 42) [] [.ptr k6 0 0]]])], [(k15, 2, [[iC .i64 0, .p true (Sl.t r56 (⟨false, 0, []⟩ : Sl (Int × Int)))]])], [(k16, 1, [[iC .i64 0]])], [(k35, 2, [[iC .i64 n27, moC l433 k436]])], [(k6, 1, [[iC .i64 n1]])], moL r56 2 l433 k436] : BL)) [0, 1, 2, 3, 4, 5, 6, 7, 8, 9, 10] (by decide) rfl ?_
              refine L_turn 12 rfl [[], [], [], [], [], [], [], [], [], [k438], [], [k438]] [(false, []), (false, []), (false, []), (false, []), (false, []), (false, []), (false, []), (false, []), (false, []), (false, []), (false, []), (false, [])] [[4, 5, 6, 7], [4, 5, 6, 7], [4, 5, 6, 7], [4, 5, 6, 7], [0, 1, 2, 3, 8, 9], [0, 1, 2, 3, 8, 9], [0, 1, 2, 3, 8, 9], [0, 1, 2, 3, 8, 9], [4, 5, 6, 7], [4, 5, 6, 7], [], []] (by kernel_rfl) (by kernel_rfl) (by kernel_rfl) ?_ (fun bb524 hlt hnd => ?_)
              · intro bb524 hlt hnd
                exact ⟨⟨djE, ⟨djE, ⟨djE, ⟨djE, ⟨djE, ⟨djE, ⟨djE, ⟨djE, ⟨djE, ⟨(djC nin_nil (djC nin_nil (djC nin_nil (djC nin_nil djN)))), ⟨djE, ⟨djN, trivial⟩⟩⟩⟩⟩⟩⟩⟩⟩⟩⟩⟩, (ltO_cons ltK_nil (ltO_cons ltK_nil (ltO_cons ltK_nil (ltO_cons ltK_nil (ltO_cons ltK_nil (ltO_cons ltK_nil (ltO_cons ltK_nil (ltO_cons ltK_nil (ltO_cons ltK_nil (ltO_cons (ltK_cons (key_lt hlt 0 rfl) ltK_nil) (ltO_cons ltK_nil (ltO_cons (ltK_cons (key_lt hlt 0 rfl) ltK_nil) ltO_nil))))))))))))⟩
              have e_k436 : l433 = [] ∨ k436 < bb524 := key_ltM (r := r56) (w := 2) hlt 10 rfl
              refine tn_put rfl rfl rfl [3] (by decide) rfl (hm0 rfl) rfl (q_loadP (v := .one (.p fr435 (Sl.t r56 s432))) 0 rfl sz23 rfl rfl rfl rfl) ?_
              refine tn_put rfl rfl rfl [] (by decide) rfl (hm0 rfl) rfl (q_ixS rfl rfl h479a h479 (el23.trans (congrArg some h479b.symm))) ?_
              refine tn_put rfl rfl rfl [] (by decide) rfl (hm0 rfl) rfl (q_fieldI rfl fa57_0 rfl) ?_
              refine tn_put rfl rfl rfl [] (by decide) rfl (hm0 rfl) rfl (q_loadI (v := .one (iC .i64 n480)) rfl sz3 (map_get h479) rfl rfl) ?_
              refine tn_put rfl rfl rfl [3] (by decide) rfl (hmc (nin_cons (key_ne hnd 3 0 rfl rfl rfl) nin_nil) hmn) rfl (q_loadP (v := .one (.p fr435 (Sl.t r56 s432))) 0 rfl sz23 rfl rfl rfl rfl) ?_
              refine tn_put rfl rfl rfl [] (by decide) rfl hmn rfl (q_ixS rfl rfl h479a h479 (el23.trans (congrArg some h479b.symm))) ?_
              refine tn_put rfl rfl rfl [] (by decide) rfl hmn rfl (q_fieldI rfl fa57_1 rfl) ?_
              refine tn_put rfl rfl rfl [] (by decide) rfl hmn rfl (q_loadI (v := .one (iC .i64 n481)) rfl sz2 (map_get h479) rfl rfl) ?_
              refine tn_put rfl rfl rfl [] (by decide) rfl (hm0 rfl) rfl (q_fieldP rfl fa64_0 rfl) ?_
              refine tn_wr rfl rfl [0] (by decide) rfl (hm0 rfl) rfl (q_store (es' := [[iC .i64 n480, iC .i64 0, iC .i64 0, bC false, bC true]]) 0 rfl rfl rfl sz3 rfl rfl rfl rfl rfl) (q := 0) rfl rfl ?_
              refine tn_put rfl rfl rfl [] (by decide) rfl (hm0 rfl) rfl (q_fieldP rfl fa64_2 rfl) ?_
              refine tn_wr rfl rfl [0] (by decide) rfl (hm0 rfl) rfl (q_store (es' := [[iC .i64 n480, iC .i64 0, iC .i64 n481, bC false, bC true]]) 0 rfl rfl rfl sz2 rfl rfl rfl rfl rfl) (q := 0) rfl rfl ?_
              refine tn_end ?_
              refine E_seq ?_
              refine L_ops ?_
              refine ol_put rfl rfl rfl (q_loadP (v := .one (.p fr435 (Sl.t r56 s432))) 3 rfl sz23 rfl rfl rfl rfl) ?_
              obtain ⟨s525, h526, h⟩ := bindS h
              refine ol_put rfl rfl rfl (q_sliceS (r := r56) h526 rfl ty23 rfl ty57 (no_some rfl (cutS_some h526).1.1 _) (no_none _)) ?_
              refine ol_wr rfl rfl (q_store (es' := [[.p fr435 (Sl.t r56 s525)]]) 3 rfl rfl rfl sz23 rfl rfl rfl rfl rfl) rfl ?_
              refine ol_end ?_
              refine E_seq ?_
              refine L_seq ?_
              refine L_ops ?_
              refine ol_put rfl rfl rfl (q_move (v := .one (.yld k38)) rfl) ?_
              refine ol_put rfl rfl rfl (q_loadP (v := .agg [iC .i64 n480, iC .i64 0, iC .i64 n481, bC false, bC true]) 0 rfl sz64 rfl rfl rfl rfl) ?_
              refine ol_yield (args := [.agg [iC .i64 n480, iC .i64 0, iC .i64 n481, bC false, bC true]]) (p := 1) rfl rfl rfl rfl rfl rfl rfl rfl rfl ?_
              refine L_ops ?_
              refine ol_new rfl rfl rfl (q_alloc ty64 (row := [iC .i64 0, iC .i64 0, iC .i64 0, bC false, bC false]) rfl rfl) (fun k527 => ?_)
              refine ol_wr rfl rfl (q_store (es' := [[iC .i64 n480, iC .i64 0, iC .i64 n481, bC false, bC true]]) 0 rfl rfl rfl sz64 rfl rfl rfl rfl rfl) rfl ?_
              refine ol_end ?_
              refine E_asg ?_
              refine L_block ?_
              refine L_seq ?_
              refine L_ops ?_
              refine ol_put rfl rfl rfl (q_loadP (v := .one (.clo (.func 42) [] [.ptr k6 0 0])) 6 rfl sz69 rfl rfl rfl rfl) ?_
              refine ol_put rfl rfl rfl (q_loadP (v := .agg [iC .i64 n480, iC .i64 0, iC .i64 n481, bC false, bC true]) 0 rfl sz64 rfl rfl rfl rfl) ?_
              refine ol_scall (args := [.agg [iC .i64 n480, iC .i64 0, iC .i64 n481, bC false, bC true], .one (.ptr k6 0 0)]) rfl rfl rfl rfl (by rw [E1_fn]; exact show fiOf Try.prog 42 = _ by unfold fiOf; rw [Try.func42]; unfold Try.f42; rfl) rfl rfl rfl ?_
              dsimp only
              refine L_seq ?_
              refine L_ops ?_
              refine ol_new rfl rfl rfl (q_box ty64 rfl (cs := [iC .i64 n480, iC .i64 0, iC .i64 n481, bC false, bC true]) rfl rfl) (fun k528 => ?_)
              refine ol_new rfl rfl rfl (q_alloc ty66 (row := [iC .i64 0, iC .u64 0]) rfl rfl) (fun k529 => ?_)
              refine ol_put rfl rfl rfl (q_assign (v := .one (bC false)) rfl) ?_
              refine ol_end ?_
              refine E_seq ?_
              refine L_seq ?_
              refine L_norm (L2 := ([[(k529, 2, [[iC .i64 0, iC .u64 0]])], [(k528, 5, [[iC .i64 n480, iC .i64 0, iC .i64 n481, bC false, bC true]])], [(k527, 5, [[iC .i64 n480, iC .i64 0, iC .i64 n481, bC false, bC true]])], [(k38, 0, [])], [(k36, 1, [[.p fr434 (Sl.t r56 s431)]])], [(k37, 1, [[.p fr435 (Sl.t r56 s525)]])], [(k9, 2, [[iC .i64 0, .p true (Sl.t r56 (⟨false, 0, []⟩ : Sl (Int × Int)))]])], [(k14, 1, [[.clo (.func 42) [] [.ptr k6 0 0]]])], [(k15, 2, [[iC .i64 0, .p true (Sl.t r56 (⟨false, 0, []⟩ : Sl (Int × Int)))]])], [(k16, 1, [[iC .i64 0]])], [(k35, 2, [[iC .i64 n27, moC l433 k436]])], [(k6, 1, [[iC .i64 n1]])], moL r56 2 l433 k436] : BL)) [0, 1, 2, 4, 5, 6, 7, 8, 9, 10, 11, 12, 13] (by decide) rfl ?_
              refine L_turn 14 rfl [[], [], [], [], [], [], [], [], [], [], [], [], [k529], []] [(false, []), (false, []), (false, []), (false, []), (false, []), (false, []), (false, []), (false, []), (false, []), (false, []), (false, []), (false, []), (false, []), (false, [])] [[1, 2, 3, 4, 6, 7], [0, 3, 4, 6, 7], [0, 3, 4, 6, 7], [0, 1, 2, 6, 7], [0, 1, 2, 6, 7], [6, 7], [0, 1, 2, 3, 4, 5], [0, 1, 2, 3, 4, 5], [], [12], [12], [12], [9, 10, 11], []] (by kernel_rfl) (by kernel_rfl) (by kernel_rfl) ?_ (fun bb530 hlt hnd => ?_)
              · intro bb530 hlt hnd
                exact ⟨⟨djE, ⟨djE, ⟨djE, ⟨djE, ⟨djE, ⟨djE, ⟨djE, ⟨djE, ⟨djE, ⟨djE, ⟨djE, ⟨djE, ⟨(djC nin_nil (djC nin_nil (djC nin_nil djN))), ⟨djE, trivial⟩⟩⟩⟩⟩⟩⟩⟩⟩⟩⟩⟩⟩⟩, (ltO_cons ltK_nil (ltO_cons ltK_nil (ltO_cons ltK_nil (ltO_cons ltK_nil (ltO_cons ltK_nil (ltO_cons ltK_nil (ltO_cons ltK_nil (ltO_cons ltK_nil (ltO_cons ltK_nil (ltO_cons ltK_nil (ltO_cons ltK_nil (ltO_cons ltK_nil (ltO_cons (ltK_cons (key_lt hlt 0 rfl) ltK_nil) (ltO_cons ltK_nil ltO_nil))))))))))))))⟩
              have e_k436 : l433 = [] ∨ k436 < bb530 := key_ltM (r := r56) (w := 2) hlt 12 rfl
              refine tn_put rfl rfl rfl [11] (by decide) rfl (hm0 rfl) rfl (q_loadP (v := .one (iC .i64 n1)) 0 rfl sz22 rfl rfl rfl rfl) ?_
              refine tn_put rfl rfl rfl [] (by decide) rfl (hm0 rfl) rfl (q_fieldP rfl fa64_1 rfl) ?_
              refine tn_put rfl rfl rfl [1] (by decide) rfl (hm0 rfl) rfl (q_loadP (v := .one (iC .i64 0)) 0 rfl sz2 rfl rfl rfl rfl) ?_
              refine tn_put rfl rfl rfl [] (by decide) rfl (hm0 rfl) rfl (q_fieldP rfl fa64_2 rfl) ?_
              refine tn_put rfl rfl rfl [1] (by decide) rfl (hm0 rfl) rfl (q_loadP (v := .one (iC .i64 n481)) 0 rfl sz2 rfl rfl rfl rfl) ?_
              obtain ⟨⟨n535, n536⟩, h534, h⟩ := bindS h
              refine tn_put rfl rfl rfl [] (by decide) rfl (hm0 rfl) rfl (q_callF (v := .agg [iC .i64 n535, iC .u64 n536]) (args := [.one (iC .i64 n1), .one (iC .i64 0), .one (iC .i64 n481)]) (ring_Mul_r (m + 0) h534) rfl rfl (vw_cons (vd_one vc_v) (vw_cons (vd_one vc_v) (vw_cons (vd_one vc_v) vw_nil))) rfl rfl) ?_
              refine tn_put rfl rfl rfl [] (by decide) rfl (hm0 rfl) rfl (q_fieldP rfl fa64_3 rfl) ?_
              refine tn_put rfl rfl rfl [1] (by decide) rfl (hm0 rfl) rfl (q_loadP (v := .one (bC false)) 0 rfl sz4 rfl rfl rfl rfl) ?_
              refine tn_put rfl rfl rfl [] (by decide) rfl (hm0 rfl) rfl (q_move (v := .one (bC false)) rfl) ?_
              refine tn_skip rfl rfl rfl rfl ?_
              refine tn_skip rfl rfl rfl rfl ?_
              refine tn_put rfl rfl rfl [] (by decide) rfl hmn rfl (q_pickF (v := .one (bC false)) rfl rfl) ?_
              refine tn_wr rfl rfl [0] (by decide) rfl (hm0 rfl) rfl (q_store (es' := [[iC .i64 n535, iC .u64 n536]]) 0 rfl rfl rfl sz66 rfl rfl rfl rfl rfl) (q := 0) rfl rfl ?_
              refine tn_put rfl rfl rfl [] (by decide) rfl (hm0 rfl) rfl (q_assign (v := .one (bC false)) rfl) ?_
              refine tn_end ?_
              refine E_seq ?_
              refine L_ret ?_
              refine E_call (v := .tup [.agg [iC .i64 n535, iC .u64 n536], .one (bC false)]) (.inr rfl) (res_cell (d := .agg [iC .i64 n535, iC .u64 n536]) 0 rfl sz66 rfl rfl rfl rfl (res_tmp (d := .one (bC false)) rfl res_nil)) rfl ?_
              refine ol_put rfl rfl rfl (q_move (v := .tup [.agg [iC .i64 n535, iC .u64 n536], .one (bC false)]) rfl) ?_
              refine ol_put rfl rfl rfl (q_ext (v := .agg [iC .i64 n535, iC .u64 n536]) rfl rfl) ?_
              refine ol_put rfl rfl rfl (q_ext (v := .one (bC false)) rfl rfl) ?_
              refine ol_new rfl rfl rfl (q_alloc ty66 (row := [iC .i64 0, iC .u64 0]) rfl rfl) (fun k537 => ?_)
              refine ol_wr rfl rfl (q_store (es' := [[iC .i64 n535, iC .u64 n536]]) 0 rfl rfl rfl sz66 rfl rfl rfl rfl rfl) rfl ?_
              refine ol_put rfl rfl rfl (q_assign (v := .one (bC false)) rfl) ?_
              refine ol_end ?_
              refine E_seq ?_
              refine L_seq ?_
              refine L_seq ?_
              refine L_ops ?_
              refine ol_put rfl rfl rfl (q_move (v := .one (bC false)) rfl) ?_
              refine ol_put rfl rfl rfl (q_not rfl) ?_
              refine ol_end ?_
              refine E_seq ?_
              refine L_condT rfl ?_
              refine L_exit ?_
              refine E_seqX ?_
              refine E_blkH ?_
              refine E_roundN (p := 4) rfl ?_
              refine ol_put rfl rfl rfl (q_not rfl) ?_
              refine ol_end ?_
              refine E_seq ?_
              refine L_condF rfl ?_
              refine L_skip ?_
              refine E_blkN ?_
              obtain rfl := Option.some.inj h
              exact E_next (fr434, fr435, k436) (ups_self ⟨rfl, rfl, rfl, trivial⟩) [4, 5, 6, 7, 8, 9, 10, 11, 12, 13] (by decide) rfl
        · replace h := ifF c437 h
          refine ol_put rfl rfl rfl (q_bin rfl rfl (p_gtr_f _ _ _ _ _ c437) rfl) ?_
          refine ol_put rfl rfl rfl (q_move (v := .one (bC false)) rfl) ?_
          refine ol_put rfl rfl rfl (q_loadP (v := .one (.p fr435 (Sl.t r56 s432))) 2 rfl sz23 rfl rfl rfl rfl) ?_
          refine ol_put rfl rfl rfl (q_lenS rfl ty23 rfl rfl rfl rfl) ?_
          by_cases c538 : ((s432.l.length : Nat) : Int) > 0
          · replace h := ifT c538 h
            refine ol_put rfl rfl rfl (q_bin rfl rfl (p_gtr_t _ _ _ _ _ c538) rfl) ?_
            refine ol_put rfl rfl rfl (q_pickF (v := .one (bC true)) rfl rfl) ?_
            refine ol_end ?_
            refine E_seq ?_
            refine L_condT rfl ?_
            refine L_skip ?_
            refine E_seq ?_
            refine L_block ?_
            refine L_seq ?_
            refine L_ops ?_
            refine ol_new rfl rfl rfl (q_alloc ty64 (row := [iC .i64 0, iC .i64 0, iC .i64 0, bC false, bC false]) rfl rfl) (fun k539 => ?_)
            refine ol_end ?_
            refine E_seq ?_
            refine L_seq ?_
            refine L_norm (L2 := ([[(k539, 5, [[iC .i64 0, iC .i64 0, iC .i64 0, bC false, bC false]])], [(k38, 0, [])], [(k36, 1, [[.p fr434 (Sl.t r56 s431)]])], [(k37, 1, [[.p fr435 (Sl.t r56 s432)]])], [(k9, 2, [[iC .i64 0, .p true (Sl.t r56 (⟨false, 0, []⟩ : Sl (Int × Int)))]])], [(k14, 1, [[.clo (.func 42) [] [.ptr k6 0 0]]])], [(k15, 2, [[iC .i64 0, .p true (Sl.t r56 (⟨false, 0, []⟩ : Sl (Int × Int)))]])], [(k16, 1, [[iC .i64 0]])], [(k35, 2, [[iC .i64 n27, moC l433 k436]])], [(k6, 1, [[iC .i64 n1]])], moL r56 2 l433 k436] : BL)) [0, 1, 2, 3, 4, 5, 6, 7, 8, 9, 10] (by decide) rfl ?_
            refine L_turn 21 rfl [[], [], [], [], [], [], [], [], [], [], [], [], [], [], [], [], [], [], [], [], [k539]] [(false, []), (false, []), (false, []), (false, []), (false, []), (false, []), (false, []), (false, []), (false, []), (false, []), (false, []), (false, []), (false, []), (false, []), (false, []), (false, []), (false, []), (false, []), (false, []), (false, []), (false, [])] [[], [], [], [], [], [], [], [], [12, 13, 14, 15], [12, 13, 14, 15], [12, 13, 14, 15], [12, 13, 14, 15], [8, 9, 10, 11], [8, 9, 10, 11], [8, 9, 10, 11], [8, 9, 10, 11], [], [], [], [], []] (by kernel_rfl) (by kernel_rfl) (by kernel_rfl) ?_ (fun bb540 hlt hnd => ?_)
            · intro bb540 hlt hnd
              exact ⟨⟨djE, ⟨djE, ⟨djE, ⟨djE, ⟨djE, ⟨djE, ⟨djE, ⟨djE, ⟨djE, ⟨djE, ⟨djE, ⟨djE, ⟨djE, ⟨djE, ⟨djE, ⟨djE, ⟨djE, ⟨djE, ⟨djE, ⟨djE, ⟨djN, trivial⟩⟩⟩⟩⟩⟩⟩⟩⟩⟩⟩⟩⟩⟩⟩⟩⟩⟩⟩⟩⟩, (ltO_cons ltK_nil (ltO_cons ltK_nil (ltO_cons ltK_nil (ltO_cons ltK_nil (ltO_cons ltK_nil (ltO_cons ltK_nil (ltO_cons ltK_nil (ltO_cons ltK_nil (ltO_cons ltK_nil (ltO_cons ltK_nil (ltO_cons ltK_nil (ltO_cons ltK_nil (ltO_cons ltK_nil (ltO_cons ltK_nil (ltO_cons ltK_nil (ltO_cons ltK_nil (ltO_cons ltK_nil (ltO_cons ltK_nil (ltO_cons ltK_nil (ltO_cons ltK_nil (ltO_cons (ltK_cons (key_lt hlt 0 rfl) ltK_nil) ltO_nil)))))))))))))))))))))⟩
            have e_k436 : l433 = [] ∨ k436 < bb540 := key_ltM (r := r56) (w := 2) hlt 10 rfl
            refine tn_put rfl rfl rfl [3] (by decide) rfl (hm0 rfl) rfl (q_loadP (v := .one (.p fr435 (Sl.t r56 s432))) 0 rfl sz23 rfl rfl rfl rfl) ?_
            refine tn_put rfl rfl rfl [] (by decide) rfl (hm0 rfl) rfl (q_lenS rfl ty23 rfl rfl rfl rfl) ?_
            refine tn_put rfl rfl rfl [] (by decide) rfl (hm0 rfl) rfl (q_bin rfl rfl (p_eql_f _ _ _ _ _ (gt0_ne c538)) rfl) ?_
            refine tn_put rfl rfl rfl [] (by decide) rfl (hm0 rfl) rfl (q_move (v := .one (bC false)) rfl) ?_
            refine tn_put rfl rfl rfl [2] (by decide) rfl (hm0 rfl) rfl (q_loadP (v := .one (.p fr434 (Sl.t r56 s431))) 0 rfl sz23 rfl rfl rfl rfl) ?_
            refine tn_put rfl rfl rfl [] (by decide) rfl (hm0 rfl) rfl (q_lenS rfl ty23 rfl rfl rfl rfl) ?_
            refine tn_put rfl rfl rfl [] (by decide) rfl (hm0 rfl) rfl (q_bin rfl rfl (p_gtr_f _ _ _ _ _ c437) rfl) ?_
            refine tn_put rfl rfl rfl [] (by decide) rfl (hm0 rfl) rfl (q_move (v := .one (bC false)) rfl) ?_
            refine tn_skip rfl rfl rfl rfl ?_
            refine tn_skip rfl rfl rfl rfl ?_
            refine tn_skip rfl rfl rfl rfl ?_
            refine tn_skip rfl rfl rfl rfl ?_
            refine tn_skip rfl rfl rfl rfl ?_
            refine tn_skip rfl rfl rfl rfl ?_
            refine tn_skip rfl rfl rfl rfl ?_
            refine tn_skip rfl rfl rfl rfl ?_
            refine tn_skip rfl rfl rfl rfl ?_
            refine tn_put rfl rfl rfl [] (by decide) rfl (hm0 rfl) rfl (q_pickF (v := .one (bC false)) rfl rfl) ?_
            refine tn_put rfl rfl rfl [] (by decide) rfl (hm0 rfl) rfl (q_pickF (v := .one (bC false)) rfl rfl) ?_
            refine tn_put rfl rfl rfl [] (by decide) rfl (hm0 rfl) rfl (q_fieldP rfl fa64_3 rfl) ?_
            refine tn_wr rfl rfl [0] (by decide) rfl (hm0 rfl) rfl (q_store (es' := [[iC .i64 0, iC .i64 0, iC .i64 0, bC false, bC false]]) 0 rfl rfl rfl sz4 rfl rfl rfl rfl rfl) (q := 0) rfl rfl ?_
            refine tn_end ?_
            refine E_seq ?_
            refine L_seq ?_
            refine L_norm (L2 := ([[(k539, 5, [[iC .i64 0, iC .i64 0, iC .i64 0, bC false, bC false]])], [(k38, 0, [])], [(k36, 1, [[.p fr434 (Sl.t r56 s431)]])], [(k37, 1, [[.p fr435 (Sl.t r56 s432)]])], [(k9, 2, [[iC .i64 0, .p true (Sl.t r56 (⟨false, 0, []⟩ : Sl (Int × Int)))]])], [(k14, 1, [[.clo (.func 42) [] [.ptr k6 0 0]]])], [(k15, 2, [[iC .i64 0, .p true (Sl.t r56 (⟨false, 0, []⟩ : Sl (Int × Int)))]])], [(k16, 1, [[iC .i64 0]])], [(k35, 2, [[iC .i64 n27, moC l433 k436]])], [(k6, 1, [[iC .i64 n1]])], moL r56 2 l433 k436] : BL)) [0, 1, 2, 3, 4, 5, 6, 7, 8, 9, 10] (by decide) rfl ?_
            refine L_turn 21 rfl [[], [], [], [], [], [], [], [], [], [], [], [], [], [], [], [], [], [], [], [], [k539]] [(false, []), (false, []), (false, []), (false, []), (false, []), (false, []), (false, []), (false, []), (false, []), (false, []), (false, []), (false, []), (false, []), (false, []), (false, []), (false, []), (false, []), (false, []), (false, []), (false, []), (false, [])] [[], [], [], [], [], [], [], [], [12, 13, 14, 15], [12, 13, 14, 15], [12, 13, 14, 15], [12, 13, 14, 15], [8, 9, 10, 11], [8, 9, 10, 11], [8, 9, 10, 11], [8, 9, 10, 11], [], [], [], [], []] (by kernel_rfl) (by kernel_rfl) (by kernel_rfl) ?_ (fun bb541 hlt hnd => ?_)
            · intro bb541 hlt hnd
              exact ⟨⟨djE, ⟨djE, ⟨djE, ⟨djE, ⟨djE, ⟨djE, ⟨djE, ⟨djE, ⟨djE, ⟨djE, ⟨djE, ⟨djE, ⟨djE, ⟨djE, ⟨djE, ⟨djE, ⟨djE, ⟨djE, ⟨djE, ⟨djE, ⟨djN, trivial⟩⟩⟩⟩⟩⟩⟩⟩⟩⟩⟩⟩⟩⟩⟩⟩⟩⟩⟩⟩⟩, (ltO_cons ltK_nil (ltO_cons ltK_nil (ltO_cons ltK_nil (ltO_cons ltK_nil (ltO_cons ltK_nil (ltO_cons ltK_nil (ltO_cons ltK_nil (ltO_cons ltK_nil (ltO_cons ltK_nil (ltO_cons ltK_nil (ltO_cons ltK_nil (ltO_cons ltK_nil (ltO_cons ltK_nil (ltO_cons ltK_nil (ltO_cons ltK_nil (ltO_cons ltK_nil (ltO_cons ltK_nil (ltO_cons ltK_nil (ltO_cons ltK_nil (ltO_cons ltK_nil (ltO_cons (ltK_cons (key_lt hlt 0 rfl) ltK_nil) ltO_nil)))))))))))))))))))))⟩
            have e_k436 : l433 = [] ∨ k436 < bb541 := key_ltM (r := r56) (w := 2) hlt 10 rfl
            refine tn_put rfl rfl rfl [2] (by decide) rfl (hm0 rfl) rfl (q_loadP (v := .one (.p fr434 (Sl.t r56 s431))) 0 rfl sz23 rfl rfl rfl rfl) ?_
            refine tn_put rfl rfl rfl [] (by decide) rfl (hm0 rfl) rfl (q_lenS rfl ty23 rfl rfl rfl rfl) ?_
            refine tn_put rfl rfl rfl [] (by decide) rfl (hm0 rfl) rfl (q_bin rfl rfl (p_eql_t _ _ _ _ _ (len0 c437)) rfl) ?_
            refine tn_put rfl rfl rfl [] (by decide) rfl (hm0 rfl) rfl (q_move (v := .one (bC true)) rfl) ?_
            refine tn_skip rfl rfl rfl rfl ?_
            refine tn_skip rfl rfl rfl rfl ?_
            refine tn_skip rfl rfl rfl rfl ?_
            refine tn_skip rfl rfl rfl rfl ?_
            refine tn_skip rfl rfl rfl rfl ?_
            refine tn_skip rfl rfl rfl rfl ?_
            refine tn_skip rfl rfl rfl rfl ?_
            refine tn_skip rfl rfl rfl rfl ?_
            refine tn_skip rfl rfl rfl rfl ?_
            refine tn_skip rfl rfl rfl rfl ?_
            refine tn_skip rfl rfl rfl rfl ?_
            refine tn_skip rfl rfl rfl rfl ?_
            refine tn_skip rfl rfl rfl rfl ?_
            refine tn_skip rfl rfl rfl rfl ?_
            refine tn_put rfl rfl rfl [] (by decide) rfl (hm0 rfl) rfl (q_pickT (v := .one (bC true)) rfl rfl) ?_
            refine tn_put rfl rfl rfl [] (by decide) rfl (hm0 rfl) rfl (q_fieldP rfl fa64_4 rfl) ?_
            refine tn_wr rfl rfl [0] (by decide) rfl (hm0 rfl) rfl (q_store (es' := [[iC .i64 0, iC .i64 0, iC .i64 0, bC false, bC true]]) 0 rfl rfl rfl sz4 rfl rfl rfl rfl rfl) (q := 0) rfl rfl ?_
            refine tn_end ?_
            refine E_seq ?_
            refine L_seq ?_
            refine L_seq ?_
            refine L_ops ?_
            refine ol_put rfl rfl rfl (q_fieldP rfl fa64_3 rfl) ?_
            refine ol_put rfl rfl rfl (q_loadP (v := .one (bC false)) 0 rfl sz4 rfl rfl rfl rfl) ?_
            refine ol_end ?_
            refine E_seq ?_
            refine L_condF rfl ?_
            refine L_skip ?_
            refine E_seq ?_
            refine L_seq ?_
            refine L_seq ?_
            refine L_ops ?_
            refine ol_put rfl rfl rfl (q_fieldP rfl fa64_4 rfl) ?_
            refine ol_put rfl rfl rfl (q_loadP (v := .one (bC true)) 0 rfl sz4 rfl rfl rfl rfl) ?_
            refine ol_end ?_
            refine E_seq ?_
            refine L_condT rfl ?_
            refine L_seq ?_
            refine L_norm (L2 := ([[(k539, 5, [[iC .i64 0, iC .i64 0, iC .i64 0, bC false, bC true]])], [(k38, 0, [])], [(k36, 1, [[.p fr434 (Sl.t r56 s431)]])], [(k37, 1, [[.p fr435 (Sl.t r56 s432)]])], [(k9, 2, [[iC .i64 0, .p true (Sl.t r56 (⟨false, 0, []⟩ : Sl (Int × Int)))]])], [(k14, 1, [[.clo (.func 42) [] [.ptr k6 0 0]]])], [(k15, 2, [[iC .i64 0, .p true (Sl.t r56 (⟨false, 0, []⟩ : Sl (Int × Int)))]])], [(k16, 1, [[iC .i64 0]])], [(k35, 2, [[iC .i64 n27, moC l433 k436]])], [(k6, 1, [[iC .i64 n1]])], moL r56 2 l433 k436] : BL)) [0, 1, 2, 3, 4, 5, 6, 7, 8, 9, 10] (by decide) rfl ?_
            refine L_turn 12 rfl [[], [], [], [], [], [], [], [], [], [k539], [], [k539]] [(false, []), (false, []), (false, []), (false, []), (false, []), (false, []), (false, []), (false, []), (false, []), (false, []), (false, []), (false, [])] [[4, 5, 6, 7], [4, 5, 6, 7], [4, 5, 6, 7], [4, 5, 6, 7], [0, 1, 2, 3, 8, 9], [0, 1, 2, 3, 8, 9], [0, 1, 2, 3, 8, 9], [0, 1, 2, 3, 8, 9], [4, 5, 6, 7], [4, 5, 6, 7], [], []] (by kernel_rfl) (by kernel_rfl) (by kernel_rfl) ?_ (fun bb542 hlt hnd => ?_)
            · intro bb542 hlt hnd
              exact ⟨⟨djE, ⟨djE, ⟨djE, ⟨djE, ⟨djE, ⟨djE, ⟨djE, ⟨djE, ⟨djE, ⟨(djC nin_nil (djC nin_nil (djC nin_nil (djC nin_nil djN)))), ⟨djE, ⟨djN, trivial⟩⟩⟩⟩⟩⟩⟩⟩⟩⟩⟩⟩, (ltO_cons ltK_nil (ltO_cons ltK_nil (ltO_cons ltK_nil (ltO_cons ltK_nil (ltO_cons ltK_nil (ltO_cons ltK_nil (ltO_cons ltK_nil (ltO_cons ltK_nil (ltO_cons ltK_nil (ltO_cons (ltK_cons (key_lt hlt 0 rfl) ltK_nil) (ltO_cons ltK_nil (ltO_cons (ltK_cons (key_lt hlt 0 rfl) ltK_nil) ltO_nil))))))))))))⟩
            have e_k436 : l433 = [] ∨ k436 < bb542 := key_ltM (r := r56) (w := 2) hlt 10 rfl
            refine tn_put rfl rfl rfl [3] (by decide) rfl (hm0 rfl) rfl (q_loadP (v := .one (.p fr435 (Sl.t r56 s432))) 0 rfl sz23 rfl rfl rfl rfl) ?_
            obtain ⟨⟨n549, n550⟩, h548, h⟩ := bindS h
            obtain ⟨h548a, h548b, h548⟩ := atS_some h548
            refine tn_put rfl rfl rfl [] (by decide) rfl (hm0 rfl) rfl (q_ixS rfl rfl h548a h548 (el23.trans (congrArg some h548b.symm))) ?_
            refine tn_put rfl rfl rfl [] (by decide) rfl (hm0 rfl) rfl (q_fieldI rfl fa57_0 rfl) ?_
            refine tn_put rfl rfl rfl [] (by decide) rfl (hm0 rfl) rfl (q_loadI (v := .one (iC .i64 n549)) rfl sz3 (map_get h548) rfl rfl) ?_
            refine tn_put rfl rfl rfl [3] (by decide) rfl (hmc (nin_cons (key_ne hnd 3 0 rfl rfl rfl) nin_nil) hmn) rfl (q_loadP (v := .one (.p fr435 (Sl.t r56 s432))) 0 rfl sz23 rfl rfl rfl rfl) ?_
            refine tn_put rfl rfl rfl [] (by decide) rfl hmn rfl (q_ixS rfl rfl h548a h548 (el23.trans (congrArg some h548b.symm))) ?_
            refine tn_put rfl rfl rfl [] (by decide) rfl hmn rfl (q_fieldI rfl fa57_1 rfl) ?_
            refine tn_put rfl rfl rfl [] (by decide) rfl hmn rfl (q_loadI (v := .one (iC .i64 n550)) rfl sz2 (map_get h548) rfl rfl) ?_
            refine tn_put rfl rfl rfl [] (by decide) rfl (hm0 rfl) rfl (q_fieldP rfl fa64_0 rfl) ?_
            refine tn_wr rfl rfl [0] (by decide) rfl (hm0 rfl) rfl (q_store (es' := [[iC .i64 n549, iC .i64 0, iC .i64 0, bC false, bC true]]) 0 rfl rfl rfl sz3 rfl rfl rfl rfl rfl) (q := 0) rfl rfl ?_
            refine tn_put rfl rfl rfl [] (by decide) rfl (hm0 rfl) rfl (q_fieldP rfl fa64_2 rfl) ?_
            refine tn_wr rfl rfl [0] (by decide) rfl (hm0 rfl) rfl (q_store (es' := [[iC .i64 n549, iC .i64 0, iC .i64 n550, bC false, bC true]]) 0 rfl rfl rfl sz2 rfl rfl rfl rfl rfl) (q := 0) rfl rfl ?_
            refine tn_end ?_
            refine E_seq ?_
            refine L_ops ?_
            refine ol_put rfl rfl rfl (q_loadP (v := .one (.p fr435 (Sl.t r56 s432))) 3 rfl sz23 rfl rfl rfl rfl) ?_
            obtain ⟨s551, h552, h⟩ := bindS h
            refine ol_put rfl rfl rfl (q_sliceS (r := r56) h552 rfl ty23 rfl ty57 (no_some rfl (cutS_some h552).1.1 _) (no_none _)) ?_
            refine ol_wr rfl rfl (q_store (es' := [[.p fr435 (Sl.t r56 s551)]]) 3 rfl rfl rfl sz23 rfl rfl rfl rfl rfl) rfl ?_
            refine ol_end ?_
            refine E_seq ?_
            refine L_seq ?_
            refine L_ops ?_
            refine ol_put rfl rfl rfl (q_move (v := .one (.yld k38)) rfl) ?_
            refine ol_put rfl rfl rfl (q_loadP (v := .agg [iC .i64 n549, iC .i64 0, iC .i64 n550, bC false, bC true]) 0 rfl sz64 rfl rfl rfl rfl) ?_
            refine ol_yield (args := [.agg [iC .i64 n549, iC .i64 0, iC .i64 n550, bC false, bC true]]) (p := 1) rfl rfl rfl rfl rfl rfl rfl rfl rfl ?_
            refine L_ops ?_
            refine ol_new rfl rfl rfl (q_alloc ty64 (row := [iC .i64 0, iC .i64 0, iC .i64 0, bC false, bC false]) rfl rfl) (fun k553 => ?_)
            refine ol_wr rfl rfl (q_store (es' := [[iC .i64 n549, iC .i64 0, iC .i64 n550, bC false, bC true]]) 0 rfl rfl rfl sz64 rfl rfl rfl rfl rfl) rfl ?_
            refine ol_end ?_
            refine E_asg ?_
            refine L_block ?_
            refine L_seq ?_
            refine L_ops ?_
            refine ol_put rfl rfl rfl (q_loadP (v := .one (.clo (.func 42) [] [.ptr k6 0 0])) 6 rfl sz69 rfl rfl rfl rfl) ?_
            refine ol_put rfl rfl rfl (q_loadP (v := .agg [iC .i64 n549, iC .i64 0, iC .i64 n550, bC false, bC true]) 0 rfl sz64 rfl rfl rfl rfl) ?_
            refine ol_scall (args := [.agg [iC .i64 n549, iC .i64 0, iC .i64 n550, bC false, bC true], .one (.ptr k6 0 0)]) rfl rfl rfl rfl (by rw [E1_fn]; exact show fiOf Try.prog 42 = _ by unfold fiOf; rw [Try.func42]; unfold Try.f42; rfl) rfl rfl rfl ?_
            dsimp only
            refine L_seq ?_
            refine L_ops ?_
            refine ol_new rfl rfl rfl (q_box ty64 rfl (cs := [iC .i64 n549, iC .i64 0, iC .i64 n550, bC false, bC true]) rfl rfl) (fun k554 => ?_)
            refine ol_new rfl rfl rfl (q_alloc ty66 (row := [iC .i64 0, iC .u64 0]) rfl rfl) (fun k555 => ?_)
            refine ol_put rfl rfl rfl (q_assign (v := .one (bC false)) rfl) ?_
            refine ol_end ?_
            refine E_seq ?_
            refine L_seq ?_
            refine L_norm (L2 := ([[(k555, 2, [[iC .i64 0, iC .u64 0]])], [(k554, 5, [[iC .i64 n549, iC .i64 0, iC .i64 n550, bC false, bC true]])], [(k553, 5, [[iC .i64 n549, iC .i64 0, iC .i64 n550, bC false, bC true]])], [(k38, 0, [])], [(k36, 1, [[.p fr434 (Sl.t r56 s431)]])], [(k37, 1, [[.p fr435 (Sl.t r56 s551)]])], [(k9, 2, [[iC .i64 0, .p true (Sl.t r56 (⟨false, 0, []⟩ : Sl (Int × Int)))]])], [(k14, 1, [[.clo (.func 42) [] [.ptr k6 0 0]]])], [(k15, 2, [[iC .i64 0, .p true (Sl.t r56 (⟨false, 0, []⟩ : Sl (Int × Int)))]])], [(k16, 1, [[iC .i64 0]])], [(k35, 2, [[iC .i64 n27, moC l433 k436]])], [(k6, 1, [[iC .i64 n1]])], moL r56 2 l433 k436] : BL)) [0, 1, 2, 4, 5, 6, 7, 8, 9, 10, 11, 12, 13] (by decide) rfl ?_
            refine L_turn 14 rfl [[], [], [], [], [], [], [], [], [], [], [], [], [k555], []] [(false, []), (false, []), (false, []), (false, []), (false, []), (false, []), (false, []), (false, []), (false, []), (false, []), (false, []), (false, []), (false, []), (false, [])] [[1, 2, 3, 4, 6, 7], [0, 3, 4, 6, 7], [0, 3, 4, 6, 7], [0, 1, 2, 6, 7], [0, 1, 2, 6, 7], [6, 7], [0, 1, 2, 3, 4, 5], [0, 1, 2, 3, 4, 5], [], [12], [12], [12], [9, 10, 11], []] (by kernel_rfl) (by kernel_rfl) (by kernel_rfl) ?_ (fun bb556 hlt hnd => ?_)
            · intro bb556 hlt hnd
              exact ⟨⟨djE, ⟨djE, ⟨djE, ⟨djE, ⟨djE, ⟨djE, ⟨djE, ⟨djE, ⟨djE, ⟨djE, ⟨djE, ⟨djE, ⟨(djC nin_nil (djC nin_nil (djC nin_nil djN))), ⟨djE, trivial⟩⟩⟩⟩⟩⟩⟩⟩⟩⟩⟩⟩⟩⟩, (ltO_cons ltK_nil (ltO_cons ltK_nil (ltO_cons ltK_nil (ltO_cons ltK_nil (ltO_cons ltK_nil (ltO_cons ltK_nil (ltO_cons ltK_nil (ltO_cons ltK_nil (ltO_cons ltK_nil (ltO_cons ltK_nil (ltO_cons ltK_nil (ltO_cons ltK_nil (ltO_cons (ltK_cons (key_lt hlt 0 rfl) ltK_nil) (ltO_cons ltK_nil ltO_nil))))))))))))))⟩
            have e_k436 : l433 = [] ∨ k436 < bb556 := key_ltM (r := r56) (w := 2) hlt 12 rfl
            refine tn_put rfl rfl rfl [11] (by decide) rfl (hm0 rfl) rfl (q_loadP (v := .one (iC .i64 n1)) 0 rfl sz22 rfl rfl rfl rfl) ?_
            refine tn_put rfl rfl rfl [] (by decide) rfl (hm0 rfl) rfl (q_fieldP rfl fa64_1 rfl) ?_
            refine tn_put rfl rfl rfl [1] (by decide) rfl (hm0 rfl) rfl (q_loadP (v := .one (iC .i64 0)) 0 rfl sz2 rfl rfl rfl rfl) ?_
            refine tn_put rfl rfl rfl [] (by decide) rfl (hm0 rfl) rfl (q_fieldP rfl fa64_2 rfl) ?_
            refine tn_put rfl rfl rfl [1] (by decide) rfl (hm0 rfl) rfl (q_loadP (v := .one (iC .i64 n550)) 0 rfl sz2 rfl rfl rfl rfl) ?_
            obtain ⟨⟨n561, n562⟩, h560, h⟩ := bindS h
            refine tn_put rfl rfl rfl [] (by decide) rfl (hm0 rfl) rfl (q_callF (v := .agg [iC .i64 n561, iC .u64 n562]) (args := [.one (iC .i64 n1), .one (iC .i64 0), .one (iC .i64 n550)]) (ring_Mul_r (m + 0) h560) rfl rfl (vw_cons (vd_one vc_v) (vw_cons (vd_one vc_v) (vw_cons (vd_one vc_v) vw_nil))) rfl rfl) ?_
            refine tn_put rfl rfl rfl [] (by decide) rfl (hm0 rfl) rfl (q_fieldP rfl fa64_3 rfl) ?_
            refine tn_put rfl rfl rfl [1] (by decide) rfl (hm0 rfl) rfl (q_loadP (v := .one (bC false)) 0 rfl sz4 rfl rfl rfl rfl) ?_
            refine tn_put rfl rfl rfl [] (by decide) rfl (hm0 rfl) rfl (q_move (v := .one (bC false)) rfl) ?_
            refine tn_skip rfl rfl rfl rfl ?_
            refine tn_skip rfl rfl rfl rfl ?_
            refine tn_put rfl rfl rfl [] (by decide) rfl hmn rfl (q_pickF (v := .one (bC false)) rfl rfl) ?_
            refine tn_wr rfl rfl [0] (by decide) rfl (hm0 rfl) rfl (q_store (es' := [[iC .i64 n561, iC .u64 n562]]) 0 rfl rfl rfl sz66 rfl rfl rfl rfl rfl) (q := 0) rfl rfl ?_
            refine tn_put rfl rfl rfl [] (by decide) rfl (hm0 rfl) rfl (q_assign (v := .one (bC false)) rfl) ?_
            refine tn_end ?_
            refine E_seq ?_
            refine L_ret ?_
            refine E_call (v := .tup [.agg [iC .i64 n561, iC .u64 n562], .one (bC false)]) (.inr rfl) (res_cell (d := .agg [iC .i64 n561, iC .u64 n562]) 0 rfl sz66 rfl rfl rfl rfl (res_tmp (d := .one (bC false)) rfl res_nil)) rfl ?_
            refine ol_put rfl rfl rfl (q_move (v := .tup [.agg [iC .i64 n561, iC .u64 n562], .one (bC false)]) rfl) ?_
            refine ol_put rfl rfl rfl (q_ext (v := .agg [iC .i64 n561, iC .u64 n562]) rfl rfl) ?_
            refine ol_put rfl rfl rfl (q_ext (v := .one (bC false)) rfl rfl) ?_
            refine ol_new rfl rfl rfl (q_alloc ty66 (row := [iC .i64 0, iC .u64 0]) rfl rfl) (fun k563 => ?_)
            refine ol_wr rfl rfl (q_store (es' := [[iC .i64 n561, iC .u64 n562]]) 0 rfl rfl rfl sz66 rfl rfl rfl rfl rfl) rfl ?_
            refine ol_put rfl rfl rfl (q_assign (v := .one (bC false)) rfl) ?_
            refine ol_end ?_
            refine E_seq ?_
            refine L_seq ?_
            refine L_seq ?_
            refine L_ops ?_
            refine ol_put rfl rfl rfl (q_move (v := .one (bC false)) rfl) ?_
            refine ol_put rfl rfl rfl (q_not rfl) ?_
            refine ol_end ?_
            refine E_seq ?_
            refine L_condT rfl ?_
            refine L_exit ?_
            refine E_seqX ?_
            refine E_blkH ?_
            refine E_roundN (p := 4) rfl ?_
            refine ol_put rfl rfl rfl (q_not rfl) ?_
            refine ol_end ?_
            refine E_seq ?_
            refine L_condF rfl ?_
            refine L_skip ?_
            refine E_blkN ?_
            obtain rfl := Option.some.inj h
            exact E_next (fr434, fr435, k436) (ups_self ⟨rfl, rfl, rfl, trivial⟩) [4, 5, 6, 7, 8, 9, 10, 11, 12, 13] (by decide) rfl
          · replace h := ifF c538 h
            refine ol_put rfl rfl rfl (q_bin rfl rfl (p_gtr_f _ _ _ _ _ c538) rfl) ?_
            refine ol_put rfl rfl rfl (q_pickF (v := .one (bC false)) rfl rfl) ?_
            refine ol_end ?_
            refine E_seq ?_
            refine L_condF rfl ?_
            refine L_exit ?_
            refine E_seqX ?_
            obtain rfl := Option.some.inj h
            refine E_out ?_
            exact E_js ((E_je k436 (ups_self trivial) [3, 4, 5, 6, 7, 0, 8, 9] (by decide) rfl))
      · rintro (l564 | l566 | u) h
        · refine J_e (fun k565 g => ?_)
          replace h := elimL h
          refine E_blkR ?_
          refine E_range (p := 5) (.inr rfl) rfl ?_
          refine E_blkR ?_
          refine E_seqR ?_
          refine E_call (v := .tup [.agg [iC .i64 0, .p true (Sl.t r56 (⟨false, 0, []⟩ : Sl (Int × Int)))], .one (iC .i64 12)]) (.inr rfl) (res_cell (d := .agg [iC .i64 0, .p true (Sl.t r56 (⟨false, 0, []⟩ : Sl (Int × Int)))]) 2 rfl sz25 rfl rfl rfl rfl (res_cell (d := .one (iC .i64 12)) 3 rfl sz28 rfl rfl rfl rfl res_nil)) rfl ?_
          refine ol_put rfl rfl rfl (q_ext (v := .agg [iC .i64 0, .p true (Sl.t r56 (⟨false, 0, []⟩ : Sl (Int × Int)))]) rfl rfl) ?_
          refine ol_put rfl rfl rfl (q_ext (v := .one (iC .i64 12)) rfl rfl) ?_
          refine ol_wr rfl rfl (q_store (es' := [[iC .i64 0, .p true (Sl.t r56 (⟨false, 0, []⟩ : Sl (Int × Int)))]]) 0 rfl rfl rfl sz25 rfl rfl rfl rfl rfl) rfl ?_
          refine ol_put rfl rfl rfl (q_assign (v := .one (iC .i64 12)) rfl) ?_
          refine ol_end ?_
          refine E_seq ?_
          refine L_ret ?_
          obtain rfl := Option.some.inj h
          exact E_endF (.inr rfl) (res_cell (d := .agg [iC .i64 0, .p true (Sl.t r56 (⟨false, 0, []⟩ : Sl (Int × Int)))]) 0 rfl sz25 rfl rfl rfl rfl (res_tmp rfl res_nil)) (vw_cons (vd_agg (vc_cons vc_v (vc_cons vc_s vc_nil))) (vw_cons (vd_one vc_v) vw_nil)) (fun h hb => own_no2) rfl rfl
        · refine J_s (J_e (fun k567 g => ?_))
          replace h := elimL (elimR h)
          refine E_blkH ?_
          refine E_range (p := 5) (.inl rfl) rfl ?_
          refine E_blkN ?_
          refine E_seq ?_
          refine L_seq ?_
          refine L_ops ?_
          refine ol_put rfl rfl rfl (q_loadP (v := .agg [iC .i64 n27, moC l566 k567]) 4 rfl sz25 rfl rfl rfl rfl) ?_
          refine ol_wr rfl rfl (q_store (es' := [[iC .i64 n27, moC l566 k567]]) 2 rfl rfl rfl sz25 rfl rfl rfl rfl rfl) rfl ?_
          refine ol_wr rfl rfl (q_store (es' := [[iC .i64 0]]) 3 rfl rfl rfl sz28 rfl rfl rfl rfl rfl) rfl ?_
          refine ol_end ?_
          refine E_seq ?_
          refine L_ret ?_
          refine E_call (v := .tup [.agg [iC .i64 n27, moC l566 k567], .one (iC .i64 0)]) (.inr rfl) (res_cell (d := .agg [iC .i64 n27, moC l566 k567]) 2 rfl sz25 rfl rfl rfl rfl (res_cell (d := .one (iC .i64 0)) 3 rfl sz28 rfl rfl rfl rfl res_nil)) rfl ?_
          refine ol_put rfl rfl rfl (q_ext (v := .agg [iC .i64 n27, moC l566 k567]) rfl rfl) ?_
          refine ol_put rfl rfl rfl (q_ext (v := .one (iC .i64 0)) rfl rfl) ?_
          refine ol_wr rfl rfl (q_store (es' := [[iC .i64 n27, moC l566 k567]]) 0 rfl rfl rfl sz25 rfl rfl rfl rfl rfl) rfl ?_
          refine ol_put rfl rfl rfl (q_assign (v := .one (iC .i64 0)) rfl) ?_
          refine ol_end ?_
          refine E_seq ?_
          refine L_ret ?_
          obtain rfl := Option.some.inj h
          exact E_endF (.inr rfl) (res_cell (d := .agg [iC .i64 n27, moC l566 k567]) 0 rfl sz25 rfl rfl rfl rfl (res_tmp rfl res_nil)) (vw_cons (vd_agg (vc_cons vc_v (vc_cons (vc_M (r := r56) 7 rfl (fun x h m => rfl)) vc_nil))) (vw_cons (vd_one vc_v) vw_nil)) (fun h hb => own_no2) rfl rfl
        · exact u.elim

noncomputable def ref01_Minus (a0 : Int × Int) : Option ((Int × Int)) :=
  match a0 with
  | (n1, n2) => ((ref01_Add ((complI .i64 n1), (complI .u64 n2)) (0, 1)).bind fun (n6, n7) => some (n6, n7))
theorem ref01_Minus_r (m : Nat) {a0 : Int × Int} {out : (Int × Int)} (h : ref01_Minus a0 = some out) : RunsP E1 (m + 2) 81 [.agg (r65 a0)] (.fresh, [.agg (r65 out)]) := by
  obtain ⟨n1, n2⟩ := a0
  refine fn_F rfl (by rw [E1_fn]; exact show fiOf Try.prog 81 = _ by unfold fiOf; rw [Try.func81]; unfold Try.f81; rfl) rfl ?_
  dsimp only
  unfold ref01_Minus at h
  refine L_seq ?_
  refine L_ops ?_
  refine ol_new rfl rfl rfl (q_box ty66 rfl (cs := [iC .i64 n1, iC .u64 n2]) rfl rfl) (fun k3 => ?_)
  refine ol_new rfl rfl rfl (q_alloc ty66 (row := [iC .i64 0, iC .u64 0]) rfl rfl) (fun k4 => ?_)
  refine ol_end ?_
  refine E_seq ?_
  refine L_seq ?_
  refine L_ops ?_
  refine ol_put rfl rfl rfl (q_fieldP rfl fa66_0 rfl) ?_
  refine ol_put rfl rfl rfl (q_loadP (v := .one (iC .i64 n1)) 1 rfl sz2 rfl rfl rfl rfl) ?_
  refine ol_put rfl rfl rfl (q_compl rfl) ?_
  refine ol_put rfl rfl rfl (q_fieldP rfl fa66_1 rfl) ?_
  refine ol_put rfl rfl rfl (q_loadP (v := .one (iC .u64 n2)) 1 rfl sz61 rfl rfl rfl rfl) ?_
  refine ol_put rfl rfl rfl (q_compl rfl) ?_
  refine ol_put rfl rfl rfl (q_build (cs := [iC .i64 (complI .i64 n1), iC .u64 (complI .u64 n2)]) ty66 rfl pl66 rfl) ?_
  refine ol_put rfl rfl rfl (q_build (cs := [iC .i64 0, iC .u64 1]) ty66 rfl pl66 rfl) ?_
  obtain ⟨⟨n6, n7⟩, h5, h⟩ := bindS h
  refine ol_put rfl rfl rfl (q_callF (v := .agg [iC .i64 n6, iC .u64 n7]) (args := [.agg [iC .i64 (complI .i64 n1), iC .u64 (complI .u64 n2)], .agg [iC .i64 0, iC .u64 1]]) (ref01_Add_r (m + 0) h5) rfl rfl (vw_cons (vd_agg (vc_cons vc_v (vc_cons vc_v vc_nil))) (vw_cons (vd_agg (vc_cons vc_v (vc_cons vc_v vc_nil))) vw_nil)) rfl rfl) ?_
  refine ol_wr rfl rfl (q_store (es' := [[iC .i64 n6, iC .u64 n7]]) 0 rfl rfl rfl sz66 rfl rfl rfl rfl rfl) rfl ?_
  refine ol_end ?_
  refine E_seq ?_
  refine L_ret ?_
  obtain rfl := Option.some.inj h
  exact E_endF (.inr rfl) (res_cell (d := .agg [iC .i64 n6, iC .u64 n7]) 0 rfl sz66 rfl rfl rfl rfl res_nil) (vw_cons (vd_agg (vc_cons vc_v (vc_cons vc_v vc_nil))) vw_nil) (fun h hb => own_agg) rfl rfl

noncomputable def ref01_Mul_b1 (a : Int × Int × Int × Int × Int) : Option ((Int × Int × Int × Int × Int) ⊕ ((Int × Int) ⊕ (Int × Int))) :=
  match a with
  | (n49, n50, n51, n52, n53) => (if n49 > 0 then ((modO n49 2).bind fun n55 => (if n55 = 1 then ((ref01_Add (n52, n53) (n50, n51)).bind fun (n59, n60) => ((ref01_Add (n50, n51) (n50, n51)).bind fun (n62, n63) => ((divO .u64 n49 2).bind fun n64 => some (.inl (n64, n62, n63, n59, n60))))) else ((ref01_Add (n50, n51) (n50, n51)).bind fun (n67, n68) => ((divO .u64 n49 2).bind fun n69 => some (.inl (n69, n67, n68, n52, n53)))))) else some (.inr (.inl (n52, n53))))
noncomputable def ref01_Mul_b2 (a : Int × Int × Int × Int × Int) : Option ((Int × Int × Int × Int × Int) ⊕ ((Int × Int) ⊕ (Int × Int))) :=
  match a with
  | (n116, n117, n118, n119, n120) => (if n116 > 0 then ((modO n116 2).bind fun n122 => (if n122 = 1 then ((ref01_Add (n119, n120) (n117, n118)).bind fun (n126, n127) => ((ref01_Add (n117, n118) (n117, n118)).bind fun (n129, n130) => ((divO .u64 n116 2).bind fun n131 => some (.inl (n131, n129, n130, n126, n127))))) else ((ref01_Add (n117, n118) (n117, n118)).bind fun (n134, n135) => ((divO .u64 n116 2).bind fun n136 => some (.inl (n136, n134, n135, n119, n120)))))) else some (.inr (.inl (n119, n120))))
noncomputable def ref01_Mul (n1 : Int) (n2 : Int) : Option ((Int × Int)) :=
  ((ref01_Of n1).bind fun (n5, n6) => (if n2 < 0 then ((loopO (ref01_Mul_b1) ((IntKind.u64.wrap (0 - (IntKind.u64.wrap n2))), n5, n6, 0, 0)).bind (Sum.elim (fun ⟨n71, n72⟩ => ((ref01_Minus (n71, n72)).bind fun (n74, n75) => some (n74, n75))) (fun u => some u))) else ((loopO (ref01_Mul_b2) ((IntKind.u64.wrap n2), n5, n6, 0, 0)).bind (Sum.elim (fun ⟨n138, n139⟩ => some (n138, n139)) (fun u => some u)))))
theorem ref01_Mul_r (m : Nat) {n1 : Int} {n2 : Int} {out : (Int × Int)} (h : ref01_Mul n1 n2 = some out) : RunsP E1 (m + 3) 70 [.one (iT .i64 n1), .one (iT .i64 n2)] (.fresh, [.agg (r65 out)]) := by
  refine fn_F rfl (by rw [E1_fn]; exact show fiOf Try.prog 70 = _ by unfold fiOf; rw [Try.func70]; unfold Try.f70; rfl) rfl ?_
  dsimp only
  unfold ref01_Mul at h
  refine L_seq ?_
  refine L_ops ?_
  refine ol_new rfl rfl rfl (q_alloc ty66 (row := [iC .i64 0, iC .u64 0]) rfl rfl) (fun k3 => ?_)
  refine ol_end ?_
  refine E_seq ?_
  refine L_seq ?_
  refine L_ops ?_
  refine ol_put rfl rfl rfl (q_move (v := .one (iC .i64 n1)) rfl) ?_
  obtain ⟨⟨n5, n6⟩, h4, h⟩ := bindS h
  refine ol_put rfl rfl rfl (q_callF (v := .agg [iC .i64 n5, iC .u64 n6]) (args := [.one (iC .i64 n1)]) (ref01_Of_r (m + 1) h4) rfl rfl (vw_cons (vd_one vc_v) vw_nil) rfl rfl) ?_
  refine ol_new rfl rfl rfl (q_alloc ty66 (row := [iC .i64 0, iC .u64 0]) rfl rfl) (fun k7 => ?_)
  refine ol_wr rfl rfl (q_store (es' := [[iC .i64 n5, iC .u64 n6]]) 0 rfl rfl rfl sz66 rfl rfl rfl rfl rfl) rfl ?_
  refine ol_end ?_
  refine E_seq ?_
  refine L_seq ?_
  refine L_ops ?_
  refine ol_put rfl rfl rfl (q_move (v := .one (iC .i64 n2)) rfl) ?_
  by_cases c8 : n2 < 0
  · replace h := ifT c8 h
    refine ol_put rfl rfl rfl (q_bin rfl rfl (p_lss_t _ _ _ _ _ c8) rfl) ?_
    refine ol_put rfl rfl rfl (q_assign (v := .one (bC true)) rfl) ?_
    refine ol_end ?_
    refine E_seq ?_
    refine L_seq ?_
    refine L_ops ?_
    refine ol_put rfl rfl rfl (q_move (v := .one (iC .i64 n2)) rfl) ?_
    refine ol_put rfl rfl rfl (q_conv rfl (cv2_61_i64 _) rfl) ?_
    refine ol_put rfl rfl rfl (q_assign (v := .one (iC .u64 (IntKind.u64.wrap n2))) rfl) ?_
    refine ol_end ?_
    refine E_seq ?_
    refine L_seq ?_
    refine L_seq ?_
    refine L_ops ?_
    refine ol_put rfl rfl rfl (q_move (v := .one (bC true)) rfl) ?_
    refine ol_end ?_
    refine E_seq ?_
    refine L_condT rfl ?_
    refine L_ops ?_
    refine ol_put rfl rfl rfl (q_move (v := .one (iC .u64 (IntKind.u64.wrap n2))) rfl) ?_
    refine ol_put rfl rfl rfl (q_neg rfl) ?_
    refine ol_put rfl rfl rfl (q_assign (v := .one (iC .u64 (IntKind.u64.wrap (0 - (IntKind.u64.wrap n2))))) rfl) ?_
    refine ol_end ?_
    refine E_seq ?_
    refine L_seq ?_
    refine L_ops ?_
    refine ol_new rfl rfl rfl (q_alloc ty66 (row := [iC .i64 0, iC .u64 0]) rfl rfl) (fun k9 => ?_)
    refine ol_end ?_
    refine E_seq ?_
    refine L_seq ?_
    refine L_block ?_
    let S1 : (Int × Int × Int × Int × Int) → Unit → (Nat → D) → Nat → D := fun a kt g => ups g [(4, .one (.ptr k3 0 0)), (5, .one (.ptr k7 0 0)), (6, .one (bC true)), (7, .one (iC .u64 a.1)), (8, .one (.ptr k9 0 0))]
    let SL1 : (Int × Int × Int × Int × Int) → Unit → BL := fun a kt => ([[(k3, 2, [[iC .i64 0, iC .u64 0]])], [(k7, 2, [[iC .i64 a.2.1, iC .u64 a.2.2.1]])], [(k9, 2, [[iC .i64 a.2.2.2.1, iC .u64 a.2.2.2.2]])]] : BL)
    let G1 : (Int × Int) → Ex → St → Prop := fun u => endQ E1 [.cell 4 66] (.fresh, [.agg (r65 u)])
    let Sx1 : (Int × Int) → Unit → (Nat → D) → Nat → D := fun a kt g => ups g [(4, .one (.ptr k3 0 0)), (6, .one (bC true)), (8, .one (.ptr k9 0 0))]
    let SLx1 : (Int × Int) → Unit → BL := fun a kt => ([[(k3, 2, [[iC .i64 0, iC .u64 0]])], [(k9, 2, [[iC .i64 a.1, iC .u64 a.2]])]] : BL)
    let J1 : ((Int × Int) ⊕ (Int × Int)) → Ex → St → Prop := JX 35 0 Sx1 SLx1 G1
    refine L_loopS (ref01_Mul_b1) S1 SL1 J1 JX_n ((IntKind.u64.wrap (0 - (IntKind.u64.wrap n2))), n5, n6, 0, 0) h () (ups_self ⟨rfl, rfl, rfl, rfl, rfl, trivial⟩) [2, 1, 0] (by decide) rfl ?_ ?_
    · rintro ⟨n49, n50, n51, n52, n53⟩ _ g out h
      change ref01_Mul_b1 (n49, n50, n51, n52, n53) = some out at h
      unfold ref01_Mul_b1 at h
      refine L_seq ?_
      refine L_seq ?_
      refine L_ops ?_
      refine ol_put rfl rfl rfl (q_move (v := .one (iC .u64 n49)) rfl) ?_
      by_cases c54 : n49 > 0
      · replace h := ifT c54 h
        refine ol_put rfl rfl rfl (q_bin rfl rfl (p_gtr_t _ _ _ _ _ c54) rfl) ?_
        refine ol_end ?_
        refine E_seq ?_
        refine L_condT rfl ?_
        refine L_skip ?_
        refine E_seq ?_
        refine L_block ?_
        refine L_seq ?_
        refine L_seq ?_
        refine L_ops ?_
        refine ol_put rfl rfl rfl (q_move (v := .one (iC .u64 n49)) rfl) ?_
        obtain ⟨n55, h56, h⟩ := bindS h
        refine ol_put rfl rfl rfl (q_bin rfl rfl (modO_p h56) rfl) ?_
        by_cases c57 : n55 = 1
        · replace h := ifT c57 h
          refine ol_put rfl rfl rfl (q_bin rfl rfl (p_eql_t _ _ _ _ _ c57) rfl) ?_
          refine ol_end ?_
          refine E_seq ?_
          refine L_condT rfl ?_
          refine L_ops ?_
          refine ol_put rfl rfl rfl (q_loadP (v := .agg [iC .i64 n52, iC .u64 n53]) 2 rfl sz66 rfl rfl rfl rfl) ?_
          refine ol_put rfl rfl rfl (q_loadP (v := .agg [iC .i64 n50, iC .u64 n51]) 1 rfl sz66 rfl rfl rfl rfl) ?_
          obtain ⟨⟨n59, n60⟩, h58, h⟩ := bindS h
          refine ol_put rfl rfl rfl (q_callF (v := .agg [iC .i64 n59, iC .u64 n60]) (args := [.agg [iC .i64 n52, iC .u64 n53], .agg [iC .i64 n50, iC .u64 n51]]) (ref01_Add_r (m + 1) h58) rfl rfl (vw_cons (vd_agg (vc_cons vc_v (vc_cons vc_v vc_nil))) (vw_cons (vd_agg (vc_cons vc_v (vc_cons vc_v vc_nil))) vw_nil)) rfl rfl) ?_
          refine ol_wr rfl rfl (q_store (es' := [[iC .i64 n59, iC .u64 n60]]) 2 rfl rfl rfl sz66 rfl rfl rfl rfl rfl) rfl ?_
          refine ol_end ?_
          refine E_seq ?_
          refine L_seq ?_
          refine L_ops ?_
          refine ol_put rfl rfl rfl (q_loadP (v := .agg [iC .i64 n50, iC .u64 n51]) 1 rfl sz66 rfl rfl rfl rfl) ?_
          refine ol_put rfl rfl rfl (q_loadP (v := .agg [iC .i64 n50, iC .u64 n51]) 1 rfl sz66 rfl rfl rfl rfl) ?_
          obtain ⟨⟨n62, n63⟩, h61, h⟩ := bindS h
          refine ol_put rfl rfl rfl (q_callF (v := .agg [iC .i64 n62, iC .u64 n63]) (args := [.agg [iC .i64 n50, iC .u64 n51], .agg [iC .i64 n50, iC .u64 n51]]) (ref01_Add_r (m + 1) h61) rfl rfl (vw_cons (vd_agg (vc_cons vc_v (vc_cons vc_v vc_nil))) (vw_cons (vd_agg (vc_cons vc_v (vc_cons vc_v vc_nil))) vw_nil)) rfl rfl) ?_
          refine ol_wr rfl rfl (q_store (es' := [[iC .i64 n62, iC .u64 n63]]) 1 rfl rfl rfl sz66 rfl rfl rfl rfl rfl) rfl ?_
          refine ol_end ?_
          refine E_seq ?_
          refine L_ops ?_
          refine ol_put rfl rfl rfl (q_move (v := .one (iC .u64 n49)) rfl) ?_
          obtain ⟨n64, h65, h⟩ := bindS h
          refine ol_put rfl rfl rfl (q_bin rfl rfl (divO_p h65) rfl) ?_
          refine ol_put rfl rfl rfl (q_assign (v := .one (iC .u64 n64)) rfl) ?_
          refine ol_end ?_
          refine E_blkN ?_
          obtain rfl := Option.some.inj h
          exact E_next () (ups_self ⟨rfl, rfl, rfl, rfl, rfl, trivial⟩) [0, 1, 2] (by decide) rfl
        · replace h := ifF c57 h
          refine ol_put rfl rfl rfl (q_bin rfl rfl (p_eql_f _ _ _ _ _ c57) rfl) ?_
          refine ol_end ?_
          refine E_seq ?_
          refine L_condF rfl ?_
          refine L_skip ?_
          refine E_seq ?_
          refine L_seq ?_
          refine L_ops ?_
          refine ol_put rfl rfl rfl (q_loadP (v := .agg [iC .i64 n50, iC .u64 n51]) 1 rfl sz66 rfl rfl rfl rfl) ?_
          refine ol_put rfl rfl rfl (q_loadP (v := .agg [iC .i64 n50, iC .u64 n51]) 1 rfl sz66 rfl rfl rfl rfl) ?_
          obtain ⟨⟨n67, n68⟩, h66, h⟩ := bindS h
          refine ol_put rfl rfl rfl (q_callF (v := .agg [iC .i64 n67, iC .u64 n68]) (args := [.agg [iC .i64 n50, iC .u64 n51], .agg [iC .i64 n50, iC .u64 n51]]) (ref01_Add_r (m + 1) h66) rfl rfl (vw_cons (vd_agg (vc_cons vc_v (vc_cons vc_v vc_nil))) (vw_cons (vd_agg (vc_cons vc_v (vc_cons vc_v vc_nil))) vw_nil)) rfl rfl) ?_
          refine ol_wr rfl rfl (q_store (es' := [[iC .i64 n67, iC .u64 n68]]) 1 rfl rfl rfl sz66 rfl rfl rfl rfl rfl) rfl ?_
          refine ol_end ?_
          refine E_seq ?_
          refine L_ops ?_
          refine ol_put rfl rfl rfl (q_move (v := .one (iC .u64 n49)) rfl) ?_
          obtain ⟨n69, h70, h⟩ := bindS h
          refine ol_put rfl rfl rfl (q_bin rfl rfl (divO_p h70) rfl) ?_
          refine ol_put rfl rfl rfl (q_assign (v := .one (iC .u64 n69)) rfl) ?_
          refine ol_end ?_
          refine E_blkN ?_
          obtain rfl := Option.some.inj h
          exact E_next () (ups_self ⟨rfl, rfl, rfl, rfl, rfl, trivial⟩) [0, 1, 2] (by decide) rfl
      · replace h := ifF c54 h
        refine ol_put rfl rfl rfl (q_bin rfl rfl (p_gtr_f _ _ _ _ _ c54) rfl) ?_
        refine ol_end ?_
        refine E_seq ?_
        refine L_condF rfl ?_
        refine L_exit ?_
        refine E_seqX ?_
        obtain rfl := Option.some.inj h
        refine E_out ?_
        exact (E_exit () (ups_self ⟨rfl, rfl, rfl, trivial⟩) [0, 2] (by decide) rfl)
    · rintro (⟨n71, n72⟩ | u) h
      · refine J_x (fun kt g => ?_)
        replace h := elimL h
        refine E_blkH ?_
        refine E_seq ?_
        refine L_seq ?_
        refine L_seq ?_
        refine L_ops ?_
        refine ol_put rfl rfl rfl (q_move (v := .one (bC true)) rfl) ?_
        refine ol_end ?_
        refine E_seq ?_
        refine L_condT rfl ?_
        refine L_seq ?_
        refine L_ops ?_
        refine ol_put rfl rfl rfl (q_loadP (v := .agg [iC .i64 n71, iC .u64 n72]) 1 rfl sz66 rfl rfl rfl rfl) ?_
        obtain ⟨⟨n74, n75⟩, h73, h⟩ := bindS h
        refine ol_put rfl rfl rfl (q_callF (v := .agg [iC .i64 n74, iC .u64 n75]) (args := [.agg [iC .i64 n71, iC .u64 n72]]) (ref01_Minus_r (m + 0) h73) rfl rfl (vw_cons (vd_agg (vc_cons vc_v (vc_cons vc_v vc_nil))) vw_nil) rfl rfl) ?_
        refine ol_wr rfl rfl (q_store (es' := [[iC .i64 n74, iC .u64 n75]]) 0 rfl rfl rfl sz66 rfl rfl rfl rfl rfl) rfl ?_
        refine ol_end ?_
        refine E_seq ?_
        refine L_ret ?_
        refine E_seqR ?_
        obtain rfl := Option.some.inj h
        exact E_endF (.inr rfl) (res_cell (d := .agg [iC .i64 n74, iC .u64 n75]) 0 rfl sz66 rfl rfl rfl rfl res_nil) (vw_cons (vd_agg (vc_cons vc_v (vc_cons vc_v vc_nil))) vw_nil) (fun h hb => own_agg) rfl rfl
      · obtain rfl := Option.some.inj (elimR h)
        exact J_up (fun s hs => hs)
  · replace h := ifF c8 h
    refine ol_put rfl rfl rfl (q_bin rfl rfl (p_lss_f _ _ _ _ _ c8) rfl) ?_
    refine ol_put rfl rfl rfl (q_assign (v := .one (bC false)) rfl) ?_
    refine ol_end ?_
    refine E_seq ?_
    refine L_seq ?_
    refine L_ops ?_
    refine ol_put rfl rfl rfl (q_move (v := .one (iC .i64 n2)) rfl) ?_
    refine ol_put rfl rfl rfl (q_conv rfl (cv2_61_i64 _) rfl) ?_
    refine ol_put rfl rfl rfl (q_assign (v := .one (iC .u64 (IntKind.u64.wrap n2))) rfl) ?_
    refine ol_end ?_
    refine E_seq ?_
    refine L_seq ?_
    refine L_seq ?_
    refine L_ops ?_
    refine ol_put rfl rfl rfl (q_move (v := .one (bC false)) rfl) ?_
    refine ol_end ?_
    refine E_seq ?_
    refine L_condF rfl ?_
    refine L_skip ?_
    refine E_seq ?_
    refine L_seq ?_
    refine L_ops ?_
    refine ol_new rfl rfl rfl (q_alloc ty66 (row := [iC .i64 0, iC .u64 0]) rfl rfl) (fun k76 => ?_)
    refine ol_end ?_
    refine E_seq ?_
    refine L_seq ?_
    refine L_block ?_
    let S2 : (Int × Int × Int × Int × Int) → Unit → (Nat → D) → Nat → D := fun a kt g => ups g [(4, .one (.ptr k3 0 0)), (5, .one (.ptr k7 0 0)), (6, .one (bC false)), (7, .one (iC .u64 a.1)), (8, .one (.ptr k76 0 0))]
    let SL2 : (Int × Int × Int × Int × Int) → Unit → BL := fun a kt => ([[(k3, 2, [[iC .i64 0, iC .u64 0]])], [(k7, 2, [[iC .i64 a.2.1, iC .u64 a.2.2.1]])], [(k76, 2, [[iC .i64 a.2.2.2.1, iC .u64 a.2.2.2.2]])]] : BL)
    let G2 : (Int × Int) → Ex → St → Prop := fun u => endQ E1 [.cell 4 66] (.fresh, [.agg (r65 u)])
    let Sx2 : (Int × Int) → Unit → (Nat → D) → Nat → D := fun a kt g => ups g [(4, .one (.ptr k3 0 0)), (6, .one (bC false)), (8, .one (.ptr k76 0 0))]
    let SLx2 : (Int × Int) → Unit → BL := fun a kt => ([[(k3, 2, [[iC .i64 0, iC .u64 0]])], [(k76, 2, [[iC .i64 a.1, iC .u64 a.2]])]] : BL)
    let J2 : ((Int × Int) ⊕ (Int × Int)) → Ex → St → Prop := JX 35 0 Sx2 SLx2 G2
    refine L_loopS (ref01_Mul_b2) S2 SL2 J2 JX_n ((IntKind.u64.wrap n2), n5, n6, 0, 0) h () (ups_self ⟨rfl, rfl, rfl, rfl, rfl, trivial⟩) [2, 1, 0] (by decide) rfl ?_ ?_
    · rintro ⟨n116, n117, n118, n119, n120⟩ _ g out h
      change ref01_Mul_b2 (n116, n117, n118, n119, n120) = some out at h
      unfold ref01_Mul_b2 at h
      refine L_seq ?_
      refine L_seq ?_
      refine L_ops ?_
      refine ol_put rfl rfl rfl (q_move (v := .one (iC .u64 n116)) rfl) ?_
      by_cases c121 : n116 > 0
      · replace h := ifT c121 h
        refine ol_put rfl rfl rfl (q_bin rfl rfl (p_gtr_t _ _ _ _ _ c121) rfl) ?_
        refine ol_end ?_
        refine E_seq ?_
        refine L_condT rfl ?_
        refine L_skip ?_
        refine E_seq ?_
        refine L_block ?_
        refine L_seq ?_
        refine L_seq ?_
        refine L_ops ?_
        refine ol_put rfl rfl rfl (q_move (v := .one (iC .u64 n116)) rfl) ?_
        obtain ⟨n122, h123, h⟩ := bindS h
        refine ol_put rfl rfl rfl (q_bin rfl rfl (modO_p h123) rfl) ?_
        by_cases c124 : n122 = 1
        · replace h := ifT c124 h
          refine ol_put rfl rfl rfl (q_bin rfl rfl (p_eql_t _ _ _ _ _ c124) rfl) ?_
          refine ol_end ?_
          refine E_seq ?_
          refine L_condT rfl ?_
          refine L_ops ?_
          refine ol_put rfl rfl rfl (q_loadP (v := .agg [iC .i64 n119, iC .u64 n120]) 2 rfl sz66 rfl rfl rfl rfl) ?_
          refine ol_put rfl rfl rfl (q_loadP (v := .agg [iC .i64 n117, iC .u64 n118]) 1 rfl sz66 rfl rfl rfl rfl) ?_
          obtain ⟨⟨n126, n127⟩, h125, h⟩ := bindS h
          refine ol_put rfl rfl rfl (q_callF (v := .agg [iC .i64 n126, iC .u64 n127]) (args := [.agg [iC .i64 n119, iC .u64 n120], .agg [iC .i64 n117, iC .u64 n118]]) (ref01_Add_r (m + 1) h125) rfl rfl (vw_cons (vd_agg (vc_cons vc_v (vc_cons vc_v vc_nil))) (vw_cons (vd_agg (vc_cons vc_v (vc_cons vc_v vc_nil))) vw_nil)) rfl rfl) ?_
          refine ol_wr rfl rfl (q_store (es' := [[iC .i64 n126, iC .u64 n127]]) 2 rfl rfl rfl sz66 rfl rfl rfl rfl rfl) rfl ?_
          refine ol_end ?_
          refine E_seq ?_
          refine L_seq ?_
          refine L_ops ?_
          refine ol_put rfl rfl rfl (q_loadP (v := .agg [iC .i64 n117, iC .u64 n118]) 1 rfl sz66 rfl rfl rfl rfl) ?_
          refine ol_put rfl rfl rfl (q_loadP (v := .agg [iC .i64 n117, iC .u64 n118]) 1 rfl sz66 rfl rfl rfl rfl) ?_
          obtain ⟨⟨n129, n130⟩, h128, h⟩ := bindS h
          refine ol_put rfl rfl rfl (q_callF (v := .agg [iC .i64 n129, iC .u64 n130]) (args := [.agg [iC .i64 n117, iC .u64 n118], .agg [iC .i64 n117, iC .u64 n118]]) (ref01_Add_r (m + 1) h128) rfl rfl (vw_cons (vd_agg (vc_cons vc_v (vc_cons vc_v vc_nil))) (vw_cons (vd_agg (vc_cons vc_v (vc_cons vc_v vc_nil))) vw_nil)) rfl rfl) ?_
          refine ol_wr rfl rfl (q_store (es' := [[iC .i64 n129, iC .u64 n130]]) 1 rfl rfl rfl sz66 rfl rfl rfl rfl rfl) rfl ?_
          refine ol_end ?_
          refine E_seq ?_
          refine L_ops ?_
          refine ol_put rfl rfl rfl (q_move (v := .one (iC .u64 n116)) rfl) ?_
          obtain ⟨n131, h132, h⟩ := bindS h
          refine ol_put rfl rfl rfl (q_bin rfl rfl (divO_p h132) rfl) ?_
          refine ol_put rfl rfl rfl (q_assign (v := .one (iC .u64 n131)) rfl) ?_
          refine ol_end ?_
          refine E_blkN ?_
          obtain rfl := Option.some.inj h
          exact E_next () (ups_self ⟨rfl, rfl, rfl, rfl, rfl, trivial⟩) [0, 1, 2] (by decide) rfl
        · replace h := ifF c124 h
          refine ol_put rfl rfl rfl (q_bin rfl rfl (p_eql_f _ _ _ _ _ c124) rfl) ?_
          refine ol_end ?_
          refine E_seq ?_
          refine L_condF rfl ?_
          refine L_skip ?_
          refine E_seq ?_
          refine L_seq ?_
          refine L_ops ?_
          refine ol_put rfl rfl rfl (q_loadP (v := .agg [iC .i64 n117, iC .u64 n118]) 1 rfl sz66 rfl rfl rfl rfl) ?_
          refine ol_put rfl rfl rfl (q_loadP (v := .agg [iC .i64 n117, iC .u64 n118]) 1 rfl sz66 rfl rfl rfl rfl) ?_
          obtain ⟨⟨n134, n135⟩, h133, h⟩ := bindS h
          refine ol_put rfl rfl rfl (q_callF (v := .agg [iC .i64 n134, iC .u64 n135]) (args := [.agg [iC .i64 n117, iC .u64 n118], .agg [iC .i64 n117, iC .u64 n118]]) (ref01_Add_r (m + 1) h133) rfl rfl (vw_cons (vd_agg (vc_cons vc_v (vc_cons vc_v vc_nil))) (vw_cons (vd_agg (vc_cons vc_v (vc_cons vc_v vc_nil))) vw_nil)) rfl rfl) ?_
          refine ol_wr rfl rfl (q_store (es' := [[iC .i64 n134, iC .u64 n135]]) 1 rfl rfl rfl sz66 rfl rfl rfl rfl rfl) rfl ?_
          refine ol_end ?_
          refine E_seq ?_
          refine L_ops ?_
          refine ol_put rfl rfl rfl (q_move (v := .one (iC .u64 n116)) rfl) ?_
          obtain ⟨n136, h137, h⟩ := bindS h
          refine ol_put rfl rfl rfl (q_bin rfl rfl (divO_p h137) rfl) ?_
          refine ol_put rfl rfl rfl (q_assign (v := .one (iC .u64 n136)) rfl) ?_
          refine ol_end ?_
          refine E_blkN ?_
          obtain rfl := Option.some.inj h
          exact E_next () (ups_self ⟨rfl, rfl, rfl, rfl, rfl, trivial⟩) [0, 1, 2] (by decide) rfl
      · replace h := ifF c121 h
        refine ol_put rfl rfl rfl (q_bin rfl rfl (p_gtr_f _ _ _ _ _ c121) rfl) ?_
        refine ol_end ?_
        refine E_seq ?_
        refine L_condF rfl ?_
        refine L_exit ?_
        refine E_seqX ?_
        obtain rfl := Option.some.inj h
        refine E_out ?_
        exact (E_exit () (ups_self ⟨rfl, rfl, rfl, trivial⟩) [0, 2] (by decide) rfl)
    · rintro (⟨n138, n139⟩ | u) h
      · refine J_x (fun kt g => ?_)
        replace h := elimL h
        refine E_blkH ?_
        refine E_seq ?_
        refine L_seq ?_
        refine L_seq ?_
        refine L_ops ?_
        refine ol_put rfl rfl rfl (q_move (v := .one (bC false)) rfl) ?_
        refine ol_end ?_
        refine E_seq ?_
        refine L_condF rfl ?_
        refine L_skip ?_
        refine E_seq ?_
        refine L_seq ?_
        refine L_ops ?_
        refine ol_put rfl rfl rfl (q_loadP (v := .agg [iC .i64 n138, iC .u64 n139]) 1 rfl sz66 rfl rfl rfl rfl) ?_
        refine ol_wr rfl rfl (q_store (es' := [[iC .i64 n138, iC .u64 n139]]) 0 rfl rfl rfl sz66 rfl rfl rfl rfl rfl) rfl ?_
        refine ol_end ?_
        refine E_seq ?_
        refine L_ret ?_
        obtain rfl := Option.some.inj h
        exact E_endF (.inr rfl) (res_cell (d := .agg [iC .i64 n138, iC .u64 n139]) 0 rfl sz66 rfl rfl rfl rfl res_nil) (vw_cons (vd_agg (vc_cons vc_v (vc_cons vc_v vc_nil))) vw_nil) (fun h hb => own_agg) rfl rfl
      · obtain rfl := Option.some.inj (elimR h)
        exact J_up (fun s hs => hs)

noncomputable def ref02_Mul (n1 : Int) (n2 : Int) (n3 : Int) : Option ((Int × Int)) :=
  (if n2 ≥ 4611686018427387904 then (if n1 = 1 then ((ref01_Of n2).bind fun (n8, n9) => ((ref01_Of n3).bind fun (n11, n12) => ((ref01_Add (n8, n9) (n11, n12)).bind fun (n14, n15) => ((ref01_Of 4611686018427387904).bind fun (n18, n19) => some (n18, n19))))) else (if n1 = 3 then ((ref01_Of 4611686018427387904).bind fun (n22, n23) => some (n22, n23)) else (if n1 = 4 then ((ref01_Of 4611686018427387904).bind fun (n26, n27) => some (n26, n27)) else (if n1 = 2 then (if n2 ≠ 0 then (if n3 ≠ 0 then ((ref02_truth true).bind fun (n32, n33) => some (n32, n33)) else ((ref02_truth false).bind fun (n35, n36) => some (n35, n36))) else ((ref02_truth false).bind fun (n38, n39) => some (n38, n39))) else (if n1 = 5 then ((ref01_Mul n2 n3).bind fun (n42, n43) => some (n42, n43)) else some (0, 0)))))) else (if n3 ≥ 4611686018427387904 then (if n1 = 1 then ((ref01_Of n2).bind fun (n47, n48) => ((ref01_Of n3).bind fun (n50, n51) => ((ref01_Add (n47, n48) (n50, n51)).bind fun (n53, n54) => ((ref01_Of 4611686018427387904).bind fun (n57, n58) => some (n57, n58))))) else (if n1 = 3 then ((ref01_Of 4611686018427387904).bind fun (n61, n62) => some (n61, n62)) else (if n1 = 4 then ((ref01_Of 4611686018427387904).bind fun (n65, n66) => some (n65, n66)) else (if n1 = 2 then (if n2 ≠ 0 then (if n3 ≠ 0 then ((ref02_truth true).bind fun (n71, n72) => some (n71, n72)) else ((ref02_truth false).bind fun (n74, n75) => some (n74, n75))) else ((ref02_truth false).bind fun (n77, n78) => some (n77, n78))) else (if n1 = 5 then ((ref01_Mul n2 n3).bind fun (n81, n82) => some (n81, n82)) else some (0, 0)))))) else (if n1 = 1 then ((ref01_Of n2).bind fun (n85, n86) => ((ref01_Of n3).bind fun (n88, n89) => ((ref01_Add (n85, n86) (n88, n89)).bind fun (n91, n92) => ((ref01_Of 4611686018427387904).bind fun (n95, n96) => ((ref01_Compare (n91, n92) (n95, n96)).bind fun n98 => (if n98 > 0 then some (n95, n96) else some (n91, n92))))))) else (if n1 = 3 then ((ref01_Of n2).bind fun (n102, n103) => some (n102, n103)) else (if n1 = 4 then ((ref01_Of n3).bind fun (n106, n107) => some (n106, n107)) else (if n1 = 2 then (if n2 ≠ 0 then (if n3 ≠ 0 then ((ref02_truth true).bind fun (n112, n113) => some (n112, n113)) else ((ref02_truth false).bind fun (n115, n116) => some (n115, n116))) else ((ref02_truth false).bind fun (n118, n119) => some (n118, n119))) else (if n1 = 5 then ((ref01_Mul n2 n3).bind fun (n122, n123) => some (n122, n123)) else some (0, 0))))))))
theorem ref02_Mul_r (m : Nat) {n1 : Int} {n2 : Int} {n3 : Int} {out : (Int × Int)} (h : ref02_Mul n1 n2 n3 = some out) : RunsP E1 (m + 4) 44 [.one (iT .i64 n1), .one (iT .i64 n2), .one (iT .i64 n3)] (.fresh, [.agg (r65 out)]) := by
  refine fn_F rfl (by rw [E1_fn]; exact show fiOf Try.prog 44 = _ by unfold fiOf; rw [Try.func44]; unfold Try.f44; rfl) rfl ?_
  dsimp only
  unfold ref02_Mul at h
  refine L_seq ?_
  refine L_ops ?_
  refine ol_new rfl rfl rfl (q_alloc ty66 (row := [iC .i64 0, iC .u64 0]) rfl rfl) (fun k4 => ?_)
  refine ol_end ?_
  refine E_seq ?_
  refine L_seq ?_
  refine L_ops ?_
  refine ol_put rfl rfl rfl (q_move (v := .one (iC .i64 n2)) rfl) ?_
  by_cases c5 : n2 ≥ 4611686018427387904
  · replace h := ifT c5 h
    refine ol_put rfl rfl rfl (q_bin rfl rfl (p_geq_t _ _ _ _ _ c5) rfl) ?_
    refine ol_put rfl rfl rfl (q_move (v := .one (bC true)) rfl) ?_
    refine ol_skip rfl rfl rfl ?_
    refine ol_skip rfl rfl rfl ?_
    refine ol_put rfl rfl rfl (q_pickT (v := .one (bC true)) rfl rfl) ?_
    refine ol_put rfl rfl rfl (q_assign (v := .one (bC true)) rfl) ?_
    refine ol_end ?_
    refine E_seq ?_
    refine L_seq ?_
    refine L_ops ?_
    refine ol_put rfl rfl rfl (q_move (v := .one (iC .i64 n1)) rfl) ?_
    refine ol_end ?_
    refine E_seq ?_
    refine L_block ?_
    refine L_seq ?_
    refine L_ops ?_
    by_cases c6 : n1 = 1
    · replace h := ifT c6 h
      refine ol_put rfl rfl rfl (q_bin rfl rfl (p_eql_t _ _ _ _ _ c6) rfl) ?_
      refine ol_put rfl rfl rfl (q_assign (v := .one (bC true)) rfl) ?_
      refine ol_end ?_
      refine E_seq ?_
      refine L_condT rfl ?_
      refine L_seq ?_
      refine L_ops ?_
      refine ol_put rfl rfl rfl (q_move (v := .one (iC .i64 n2)) rfl) ?_
      obtain ⟨⟨n8, n9⟩, h7, h⟩ := bindS h
      refine ol_put rfl rfl rfl (q_callF (v := .agg [iC .i64 n8, iC .u64 n9]) (args := [.one (iC .i64 n2)]) (ref01_Of_r (m + 2) h7) rfl rfl (vw_cons (vd_one vc_v) vw_nil) rfl rfl) ?_
      refine ol_put rfl rfl rfl (q_move (v := .one (iC .i64 n3)) rfl) ?_
      obtain ⟨⟨n11, n12⟩, h10, h⟩ := bindS h
      refine ol_put rfl rfl rfl (q_callF (v := .agg [iC .i64 n11, iC .u64 n12]) (args := [.one (iC .i64 n3)]) (ref01_Of_r (m + 2) h10) rfl rfl (vw_cons (vd_one vc_v) vw_nil) rfl rfl) ?_
      obtain ⟨⟨n14, n15⟩, h13, h⟩ := bindS h
      refine ol_put rfl rfl rfl (q_callF (v := .agg [iC .i64 n14, iC .u64 n15]) (args := [.agg [iC .i64 n8, iC .u64 n9], .agg [iC .i64 n11, iC .u64 n12]]) (ref01_Add_r (m + 2) h13) rfl rfl (vw_cons (vd_agg (vc_cons vc_v (vc_cons vc_v vc_nil))) (vw_cons (vd_agg (vc_cons vc_v (vc_cons vc_v vc_nil))) vw_nil)) rfl rfl) ?_
      refine ol_new rfl rfl rfl (q_alloc ty66 (row := [iC .i64 0, iC .u64 0]) rfl rfl) (fun k16 => ?_)
      refine ol_wr rfl rfl (q_store (es' := [[iC .i64 n14, iC .u64 n15]]) 0 rfl rfl rfl sz66 rfl rfl rfl rfl rfl) rfl ?_
      refine ol_end ?_
      refine E_seq ?_
      refine L_seq ?_
      refine L_seq ?_
      refine L_still (by kernel_rfl) ?_
      refine st_put rfl rfl rfl (q_move (v := .one (bC true)) rfl) ?_
      refine st_put rfl rfl rfl (q_move (v := .one (bC true)) rfl) ?_
      refine st_skip rfl rfl rfl ?_
      refine st_skip rfl rfl rfl ?_
      refine st_skip rfl rfl rfl ?_
      refine st_skip rfl rfl rfl ?_
      refine st_put rfl rfl rfl (q_pickT (v := .one (bC true)) rfl rfl) ?_
      refine st_end ?_
      refine E_seq ?_
      refine L_condT rfl ?_
      refine L_seq ?_
      refine L_ops ?_
      obtain ⟨⟨n18, n19⟩, h17, h⟩ := bindS h
      refine ol_put rfl rfl rfl (q_callF (v := .agg [iC .i64 n18, iC .u64 n19]) (args := [.one (iC .i64 4611686018427387904)]) (ref01_Of_r (m + 2) h17) rfl rfl (vw_cons (vd_one vc_v) vw_nil) rfl rfl) ?_
      refine ol_wr rfl rfl (q_store (es' := [[iC .i64 n18, iC .u64 n19]]) 1 rfl rfl rfl sz66 rfl rfl rfl rfl rfl) rfl ?_
      refine ol_end ?_
      refine E_seq ?_
      refine L_ret ?_
      refine E_seqR ?_
      refine E_blkR ?_
      obtain rfl := Option.some.inj h
      exact E_endF (.inr rfl) (res_cell (d := .agg [iC .i64 n18, iC .u64 n19]) 1 rfl sz66 rfl rfl rfl rfl res_nil) (vw_cons (vd_agg (vc_cons vc_v (vc_cons vc_v vc_nil))) vw_nil) (fun h hb => own_agg) rfl rfl
    · replace h := ifF c6 h
      refine ol_put rfl rfl rfl (q_bin rfl rfl (p_eql_f _ _ _ _ _ c6) rfl) ?_
      refine ol_put rfl rfl rfl (q_assign (v := .one (bC false)) rfl) ?_
      refine ol_end ?_
      refine E_seq ?_
      refine L_condF rfl ?_
      refine L_seq ?_
      refine L_ops ?_
      by_cases c20 : n1 = 3
      · replace h := ifT c20 h
        refine ol_put rfl rfl rfl (q_bin rfl rfl (p_eql_t _ _ _ _ _ c20) rfl) ?_
        refine ol_put rfl rfl rfl (q_assign (v := .one (bC true)) rfl) ?_
        refine ol_end ?_
        refine E_seq ?_
        refine L_condT rfl ?_
        refine L_seq ?_
        refine L_seq ?_
        refine L_ops ?_
        refine ol_put rfl rfl rfl (q_move (v := .one (bC true)) rfl) ?_
        refine ol_end ?_
        refine E_seq ?_
        refine L_condT rfl ?_
        refine L_seq ?_
        refine L_ops ?_
        obtain ⟨⟨n22, n23⟩, h21, h⟩ := bindS h
        refine ol_put rfl rfl rfl (q_callF (v := .agg [iC .i64 n22, iC .u64 n23]) (args := [.one (iC .i64 4611686018427387904)]) (ref01_Of_r (m + 2) h21) rfl rfl (vw_cons (vd_one vc_v) vw_nil) rfl rfl) ?_
        refine ol_wr rfl rfl (q_store (es' := [[iC .i64 n22, iC .u64 n23]]) 0 rfl rfl rfl sz66 rfl rfl rfl rfl rfl) rfl ?_
        refine ol_end ?_
        refine E_seq ?_
        refine L_ret ?_
        refine E_seqR ?_
        refine E_blkR ?_
        obtain rfl := Option.some.inj h
        exact E_endF (.inr rfl) (res_cell (d := .agg [iC .i64 n22, iC .u64 n23]) 0 rfl sz66 rfl rfl rfl rfl res_nil) (vw_cons (vd_agg (vc_cons vc_v (vc_cons vc_v vc_nil))) vw_nil) (fun h hb => own_agg) rfl rfl
      · replace h := ifF c20 h
        refine ol_put rfl rfl rfl (q_bin rfl rfl (p_eql_f _ _ _ _ _ c20) rfl) ?_
        refine ol_put rfl rfl rfl (q_assign (v := .one (bC false)) rfl) ?_
        refine ol_end ?_
        refine E_seq ?_
        refine L_condF rfl ?_
        refine L_seq ?_
        refine L_ops ?_
        by_cases c24 : n1 = 4
        · replace h := ifT c24 h
          refine ol_put rfl rfl rfl (q_bin rfl rfl (p_eql_t _ _ _ _ _ c24) rfl) ?_
          refine ol_put rfl rfl rfl (q_assign (v := .one (bC true)) rfl) ?_
          refine ol_end ?_
          refine E_seq ?_
          refine L_condT rfl ?_
          refine L_seq ?_
          refine L_seq ?_
          refine L_ops ?_
          refine ol_put rfl rfl rfl (q_move (v := .one (bC true)) rfl) ?_
          refine ol_end ?_
          refine E_seq ?_
          refine L_condT rfl ?_
          refine L_seq ?_
          refine L_ops ?_
          obtain ⟨⟨n26, n27⟩, h25, h⟩ := bindS h
          refine ol_put rfl rfl rfl (q_callF (v := .agg [iC .i64 n26, iC .u64 n27]) (args := [.one (iC .i64 4611686018427387904)]) (ref01_Of_r (m + 2) h25) rfl rfl (vw_cons (vd_one vc_v) vw_nil) rfl rfl) ?_
          refine ol_wr rfl rfl (q_store (es' := [[iC .i64 n26, iC .u64 n27]]) 0 rfl rfl rfl sz66 rfl rfl rfl rfl rfl) rfl ?_
          refine ol_end ?_
          refine E_seq ?_
          refine L_ret ?_
          refine E_seqR ?_
          refine E_blkR ?_
          obtain rfl := Option.some.inj h
          exact E_endF (.inr rfl) (res_cell (d := .agg [iC .i64 n26, iC .u64 n27]) 0 rfl sz66 rfl rfl rfl rfl res_nil) (vw_cons (vd_agg (vc_cons vc_v (vc_cons vc_v vc_nil))) vw_nil) (fun h hb => own_agg) rfl rfl
        · replace h := ifF c24 h
          refine ol_put rfl rfl rfl (q_bin rfl rfl (p_eql_f _ _ _ _ _ c24) rfl) ?_
          refine ol_put rfl rfl rfl (q_assign (v := .one (bC false)) rfl) ?_
          refine ol_end ?_
          refine E_seq ?_
          refine L_condF rfl ?_
          refine L_seq ?_
          refine L_ops ?_
          by_cases c28 : n1 = 2
          · replace h := ifT c28 h
            refine ol_put rfl rfl rfl (q_bin rfl rfl (p_eql_t _ _ _ _ _ c28) rfl) ?_
            refine ol_put rfl rfl rfl (q_assign (v := .one (bC true)) rfl) ?_
            refine ol_end ?_
            refine E_seq ?_
            refine L_condT rfl ?_
            refine L_seq ?_
            refine L_ops ?_
            refine ol_put rfl rfl rfl (q_move (v := .one (iC .i64 n2)) rfl) ?_
            by_cases c29 : n2 ≠ 0
            · replace h := ifT c29 h
              refine ol_put rfl rfl rfl (q_bin rfl rfl (p_neq_t _ _ _ _ _ c29) rfl) ?_
              refine ol_put rfl rfl rfl (q_move (v := .one (bC true)) rfl) ?_
              refine ol_put rfl rfl rfl (q_move (v := .one (iC .i64 n3)) rfl) ?_
              by_cases c30 : n3 ≠ 0
              · replace h := ifT c30 h
                refine ol_put rfl rfl rfl (q_bin rfl rfl (p_neq_t _ _ _ _ _ c30) rfl) ?_
                refine ol_put rfl rfl rfl (q_pickT (v := .one (bC true)) rfl rfl) ?_
                obtain ⟨⟨n32, n33⟩, h31, h⟩ := bindS h
                refine ol_put rfl rfl rfl (q_callF (v := .agg [iC .i64 n32, iC .u64 n33]) (args := [.one (bC true)]) (ref02_truth_r (m + 2) h31) rfl rfl (vw_cons (vd_one vc_v) vw_nil) rfl rfl) ?_
                refine ol_wr rfl rfl (q_store (es' := [[iC .i64 n32, iC .u64 n33]]) 0 rfl rfl rfl sz66 rfl rfl rfl rfl rfl) rfl ?_
                refine ol_end ?_
                refine E_seq ?_
                refine L_ret ?_
                refine E_blkR ?_
                obtain rfl := Option.some.inj h
                exact E_endF (.inr rfl) (res_cell (d := .agg [iC .i64 n32, iC .u64 n33]) 0 rfl sz66 rfl rfl rfl rfl res_nil) (vw_cons (vd_agg (vc_cons vc_v (vc_cons vc_v vc_nil))) vw_nil) (fun h hb => own_agg) rfl rfl
              · replace h := ifF c30 h
                refine ol_put rfl rfl rfl (q_bin rfl rfl (p_neq_f _ _ _ _ _ c30) rfl) ?_
                refine ol_put rfl rfl rfl (q_pickT (v := .one (bC false)) rfl rfl) ?_
                obtain ⟨⟨n35, n36⟩, h34, h⟩ := bindS h
                refine ol_put rfl rfl rfl (q_callF (v := .agg [iC .i64 n35, iC .u64 n36]) (args := [.one (bC false)]) (ref02_truth_r (m + 2) h34) rfl rfl (vw_cons (vd_one vc_v) vw_nil) rfl rfl) ?_
                refine ol_wr rfl rfl (q_store (es' := [[iC .i64 n35, iC .u64 n36]]) 0 rfl rfl rfl sz66 rfl rfl rfl rfl rfl) rfl ?_
                refine ol_end ?_
                refine E_seq ?_
                refine L_ret ?_
                refine E_blkR ?_
                obtain rfl := Option.some.inj h
                exact E_endF (.inr rfl) (res_cell (d := .agg [iC .i64 n35, iC .u64 n36]) 0 rfl sz66 rfl rfl rfl rfl res_nil) (vw_cons (vd_agg (vc_cons vc_v (vc_cons vc_v vc_nil))) vw_nil) (fun h hb => own_agg) rfl rfl
            · replace h := ifF c29 h
              refine ol_put rfl rfl rfl (q_bin rfl rfl (p_neq_f _ _ _ _ _ c29) rfl) ?_
              refine ol_put rfl rfl rfl (q_move (v := .one (bC false)) rfl) ?_
              refine ol_skip rfl rfl rfl ?_
              refine ol_skip rfl rfl rfl ?_
              refine ol_put rfl rfl rfl (q_pickF (v := .one (bC false)) rfl rfl) ?_
              obtain ⟨⟨n38, n39⟩, h37, h⟩ := bindS h
              refine ol_put rfl rfl rfl (q_callF (v := .agg [iC .i64 n38, iC .u64 n39]) (args := [.one (bC false)]) (ref02_truth_r (m + 2) h37) rfl rfl (vw_cons (vd_one vc_v) vw_nil) rfl rfl) ?_
              refine ol_wr rfl rfl (q_store (es' := [[iC .i64 n38, iC .u64 n39]]) 0 rfl rfl rfl sz66 rfl rfl rfl rfl rfl) rfl ?_
              refine ol_end ?_
              refine E_seq ?_
              refine L_ret ?_
              refine E_blkR ?_
              obtain rfl := Option.some.inj h
              exact E_endF (.inr rfl) (res_cell (d := .agg [iC .i64 n38, iC .u64 n39]) 0 rfl sz66 rfl rfl rfl rfl res_nil) (vw_cons (vd_agg (vc_cons vc_v (vc_cons vc_v vc_nil))) vw_nil) (fun h hb => own_agg) rfl rfl
          · replace h := ifF c28 h
            refine ol_put rfl rfl rfl (q_bin rfl rfl (p_eql_f _ _ _ _ _ c28) rfl) ?_
            refine ol_put rfl rfl rfl (q_assign (v := .one (bC false)) rfl) ?_
            refine ol_end ?_
            refine E_seq ?_
            refine L_condF rfl ?_
            refine L_seq ?_
            refine L_ops ?_
            by_cases c40 : n1 = 5
            · replace h := ifT c40 h
              refine ol_put rfl rfl rfl (q_bin rfl rfl (p_eql_t _ _ _ _ _ c40) rfl) ?_
              refine ol_put rfl rfl rfl (q_assign (v := .one (bC true)) rfl) ?_
              refine ol_end ?_
              refine E_seq ?_
              refine L_condT rfl ?_
              refine L_seq ?_
              refine L_ops ?_
              refine ol_put rfl rfl rfl (q_move (v := .one (iC .i64 n2)) rfl) ?_
              refine ol_put rfl rfl rfl (q_move (v := .one (iC .i64 n3)) rfl) ?_
              obtain ⟨⟨n42, n43⟩, h41, h⟩ := bindS h
              refine ol_put rfl rfl rfl (q_callF (v := .agg [iC .i64 n42, iC .u64 n43]) (args := [.one (iC .i64 n2), .one (iC .i64 n3)]) (ref01_Mul_r (m + 0) h41) rfl rfl (vw_cons (vd_one vc_v) (vw_cons (vd_one vc_v) vw_nil)) rfl rfl) ?_
              refine ol_wr rfl rfl (q_store (es' := [[iC .i64 n42, iC .u64 n43]]) 0 rfl rfl rfl sz66 rfl rfl rfl rfl rfl) rfl ?_
              refine ol_end ?_
              refine E_seq ?_
              refine L_ret ?_
              refine E_blkR ?_
              obtain rfl := Option.some.inj h
              exact E_endF (.inr rfl) (res_cell (d := .agg [iC .i64 n42, iC .u64 n43]) 0 rfl sz66 rfl rfl rfl rfl res_nil) (vw_cons (vd_agg (vc_cons vc_v (vc_cons vc_v vc_nil))) vw_nil) (fun h hb => own_agg) rfl rfl
            · replace h := ifF c40 h
              refine ol_put rfl rfl rfl (q_bin rfl rfl (p_eql_f _ _ _ _ _ c40) rfl) ?_
              refine ol_put rfl rfl rfl (q_assign (v := .one (bC false)) rfl) ?_
              refine ol_end ?_
              refine E_seq ?_
              refine L_condF rfl ?_
              refine L_seq ?_
              refine L_ops ?_
              refine ol_put rfl rfl rfl (q_build (cs := [iC .i64 0, iC .u64 0]) ty66 rfl pl66 rfl) ?_
              refine ol_wr rfl rfl (q_store (es' := [[iC .i64 0, iC .u64 0]]) 0 rfl rfl rfl sz66 rfl rfl rfl rfl rfl) rfl ?_
              refine ol_end ?_
              refine E_seq ?_
              refine L_ret ?_
              refine E_blkR ?_
              obtain rfl := Option.some.inj h
              exact E_endF (.inr rfl) (res_cell (d := .agg [iC .i64 0, iC .u64 0]) 0 rfl sz66 rfl rfl rfl rfl res_nil) (vw_cons (vd_agg (vc_cons vc_v (vc_cons vc_v vc_nil))) vw_nil) (fun h hb => own_agg) rfl rfl
  · replace h := ifF c5 h
    refine ol_put rfl rfl rfl (q_bin rfl rfl (p_geq_f _ _ _ _ _ c5) rfl) ?_
    refine ol_put rfl rfl rfl (q_move (v := .one (bC false)) rfl) ?_
    refine ol_put rfl rfl rfl (q_move (v := .one (iC .i64 n3)) rfl) ?_
    by_cases c44 : n3 ≥ 4611686018427387904
    · replace h := ifT c44 h
      refine ol_put rfl rfl rfl (q_bin rfl rfl (p_geq_t _ _ _ _ _ c44) rfl) ?_
      refine ol_put rfl rfl rfl (q_pickF (v := .one (bC true)) rfl rfl) ?_
      refine ol_put rfl rfl rfl (q_assign (v := .one (bC true)) rfl) ?_
      refine ol_end ?_
      refine E_seq ?_
      refine L_seq ?_
      refine L_ops ?_
      refine ol_put rfl rfl rfl (q_move (v := .one (iC .i64 n1)) rfl) ?_
      refine ol_end ?_
      refine E_seq ?_
      refine L_block ?_
      refine L_seq ?_
      refine L_ops ?_
      by_cases c45 : n1 = 1
      · replace h := ifT c45 h
        refine ol_put rfl rfl rfl (q_bin rfl rfl (p_eql_t _ _ _ _ _ c45) rfl) ?_
        refine ol_put rfl rfl rfl (q_assign (v := .one (bC true)) rfl) ?_
        refine ol_end ?_
        refine E_seq ?_
        refine L_condT rfl ?_
        refine L_seq ?_
        refine L_ops ?_
        refine ol_put rfl rfl rfl (q_move (v := .one (iC .i64 n2)) rfl) ?_
        obtain ⟨⟨n47, n48⟩, h46, h⟩ := bindS h
        refine ol_put rfl rfl rfl (q_callF (v := .agg [iC .i64 n47, iC .u64 n48]) (args := [.one (iC .i64 n2)]) (ref01_Of_r (m + 2) h46) rfl rfl (vw_cons (vd_one vc_v) vw_nil) rfl rfl) ?_
        refine ol_put rfl rfl rfl (q_move (v := .one (iC .i64 n3)) rfl) ?_
        obtain ⟨⟨n50, n51⟩, h49, h⟩ := bindS h
        refine ol_put rfl rfl rfl (q_callF (v := .agg [iC .i64 n50, iC .u64 n51]) (args := [.one (iC .i64 n3)]) (ref01_Of_r (m + 2) h49) rfl rfl (vw_cons (vd_one vc_v) vw_nil) rfl rfl) ?_
        obtain ⟨⟨n53, n54⟩, h52, h⟩ := bindS h
        refine ol_put rfl rfl rfl (q_callF (v := .agg [iC .i64 n53, iC .u64 n54]) (args := [.agg [iC .i64 n47, iC .u64 n48], .agg [iC .i64 n50, iC .u64 n51]]) (ref01_Add_r (m + 2) h52) rfl rfl (vw_cons (vd_agg (vc_cons vc_v (vc_cons vc_v vc_nil))) (vw_cons (vd_agg (vc_cons vc_v (vc_cons vc_v vc_nil))) vw_nil)) rfl rfl) ?_
        refine ol_new rfl rfl rfl (q_alloc ty66 (row := [iC .i64 0, iC .u64 0]) rfl rfl) (fun k55 => ?_)
        refine ol_wr rfl rfl (q_store (es' := [[iC .i64 n53, iC .u64 n54]]) 0 rfl rfl rfl sz66 rfl rfl rfl rfl rfl) rfl ?_
        refine ol_end ?_
        refine E_seq ?_
        refine L_seq ?_
        refine L_seq ?_
        refine L_still (by kernel_rfl) ?_
        refine st_put rfl rfl rfl (q_move (v := .one (bC true)) rfl) ?_
        refine st_put rfl rfl rfl (q_move (v := .one (bC true)) rfl) ?_
        refine st_skip rfl rfl rfl ?_
        refine st_skip rfl rfl rfl ?_
        refine st_skip rfl rfl rfl ?_
        refine st_skip rfl rfl rfl ?_
        refine st_put rfl rfl rfl (q_pickT (v := .one (bC true)) rfl rfl) ?_
        refine st_end ?_
        refine E_seq ?_
        refine L_condT rfl ?_
        refine L_seq ?_
        refine L_ops ?_
        obtain ⟨⟨n57, n58⟩, h56, h⟩ := bindS h
        refine ol_put rfl rfl rfl (q_callF (v := .agg [iC .i64 n57, iC .u64 n58]) (args := [.one (iC .i64 4611686018427387904)]) (ref01_Of_r (m + 2) h56) rfl rfl (vw_cons (vd_one vc_v) vw_nil) rfl rfl) ?_
        refine ol_wr rfl rfl (q_store (es' := [[iC .i64 n57, iC .u64 n58]]) 1 rfl rfl rfl sz66 rfl rfl rfl rfl rfl) rfl ?_
        refine ol_end ?_
        refine E_seq ?_
        refine L_ret ?_
        refine E_seqR ?_
        refine E_blkR ?_
        obtain rfl := Option.some.inj h
        exact E_endF (.inr rfl) (res_cell (d := .agg [iC .i64 n57, iC .u64 n58]) 1 rfl sz66 rfl rfl rfl rfl res_nil) (vw_cons (vd_agg (vc_cons vc_v (vc_cons vc_v vc_nil))) vw_nil) (fun h hb => own_agg) rfl rfl
      · replace h := ifF c45 h
        refine ol_put rfl rfl rfl (q_bin rfl rfl (p_eql_f _ _ _ _ _ c45) rfl) ?_
        refine ol_put rfl rfl rfl (q_assign (v := .one (bC false)) rfl) ?_
        refine ol_end ?_
        refine E_seq ?_
        refine L_condF rfl ?_
        refine L_seq ?_
        refine L_ops ?_
        by_cases c59 : n1 = 3
        · replace h := ifT c59 h
          refine ol_put rfl rfl rfl (q_bin rfl rfl (p_eql_t _ _ _ _ _ c59) rfl) ?_
          refine ol_put rfl rfl rfl (q_assign (v := .one (bC true)) rfl) ?_
          refine ol_end ?_
          refine E_seq ?_
          refine L_condT rfl ?_
          refine L_seq ?_
          refine L_seq ?_
          refine L_ops ?_
          refine ol_put rfl rfl rfl (q_move (v := .one (bC true)) rfl) ?_
          refine ol_end ?_
          refine E_seq ?_
          refine L_condT rfl ?_
          refine L_seq ?_
          refine L_ops ?_
          obtain ⟨⟨n61, n62⟩, h60, h⟩ := bindS h
          refine ol_put rfl rfl rfl (q_callF (v := .agg [iC .i64 n61, iC .u64 n62]) (args := [.one (iC .i64 4611686018427387904)]) (ref01_Of_r (m + 2) h60) rfl rfl (vw_cons (vd_one vc_v) vw_nil) rfl rfl) ?_
          refine ol_wr rfl rfl (q_store (es' := [[iC .i64 n61, iC .u64 n62]]) 0 rfl rfl rfl sz66 rfl rfl rfl rfl rfl) rfl ?_
          refine ol_end ?_
          refine E_seq ?_
          refine L_ret ?_
          refine E_seqR ?_
          refine E_blkR ?_
          obtain rfl := Option.some.inj h
          exact E_endF (.inr rfl) (res_cell (d := .agg [iC .i64 n61, iC .u64 n62]) 0 rfl sz66 rfl rfl rfl rfl res_nil) (vw_cons (vd_agg (vc_cons vc_v (vc_cons vc_v vc_nil))) vw_nil) (fun h hb => own_agg) rfl rfl
        · replace h := ifF c59 h
          refine ol_put rfl rfl rfl (q_bin rfl rfl (p_eql_f _ _ _ _ _ c59) rfl) ?_
          refine ol_put rfl rfl rfl (q_assign (v := .one (bC false)) rfl) ?_
          refine ol_end ?_
          refine E_seq ?_
          refine L_condF rfl ?_
          refine L_seq ?_
          refine L_ops ?_
          by_cases c63 : n1 = 4
          · replace h := ifT c63 h
            refine ol_put rfl rfl rfl (q_bin rfl rfl (p_eql_t _ _ _ _ _ c63) rfl) ?_
            refine ol_put rfl rfl rfl (q_assign (v := .one (bC true)) rfl) ?_
            refine ol_end ?_
            refine E_seq ?_
            refine L_condT rfl ?_
            refine L_seq ?_
            refine L_seq ?_
            refine L_ops ?_
            refine ol_put rfl rfl rfl (q_move (v := .one (bC true)) rfl) ?_
            refine ol_end ?_
            refine E_seq ?_
            refine L_condT rfl ?_
            refine L_seq ?_
            refine L_ops ?_
            obtain ⟨⟨n65, n66⟩, h64, h⟩ := bindS h
            refine ol_put rfl rfl rfl (q_callF (v := .agg [iC .i64 n65, iC .u64 n66]) (args := [.one (iC .i64 4611686018427387904)]) (ref01_Of_r (m + 2) h64) rfl rfl (vw_cons (vd_one vc_v) vw_nil) rfl rfl) ?_
            refine ol_wr rfl rfl (q_store (es' := [[iC .i64 n65, iC .u64 n66]]) 0 rfl rfl rfl sz66 rfl rfl rfl rfl rfl) rfl ?_
            refine ol_end ?_
            refine E_seq ?_
            refine L_ret ?_
            refine E_seqR ?_
            refine E_blkR ?_
            obtain rfl := Option.some.inj h
            exact E_endF (.inr rfl) (res_cell (d := .agg [iC .i64 n65, iC .u64 n66]) 0 rfl sz66 rfl rfl rfl rfl res_nil) (vw_cons (vd_agg (vc_cons vc_v (vc_cons vc_v vc_nil))) vw_nil) (fun h hb => own_agg) rfl rfl
          · replace h := ifF c63 h
            refine ol_put rfl rfl rfl (q_bin rfl rfl (p_eql_f _ _ _ _ _ c63) rfl) ?_
            refine ol_put rfl rfl rfl (q_assign (v := .one (bC false)) rfl) ?_
            refine ol_end ?_
            refine E_seq ?_
            refine L_condF rfl ?_
            refine L_seq ?_
            refine L_ops ?_
            by_cases c67 : n1 = 2
            · replace h := ifT c67 h
              refine ol_put rfl rfl rfl (q_bin rfl rfl (p_eql_t _ _ _ _ _ c67) rfl) ?_
              refine ol_put rfl rfl rfl (q_assign (v := .one (bC true)) rfl) ?_
              refine ol_end ?_
              refine E_seq ?_
              refine L_condT rfl ?_
              refine L_seq ?_
              refine L_ops ?_
              refine ol_put rfl rfl rfl (q_move (v := .one (iC .i64 n2)) rfl) ?_
              by_cases c68 : n2 ≠ 0
              · replace h := ifT c68 h
                refine ol_put rfl rfl rfl (q_bin rfl rfl (p_neq_t _ _ _ _ _ c68) rfl) ?_
                refine ol_put rfl rfl rfl (q_move (v := .one (bC true)) rfl) ?_
                refine ol_put rfl rfl rfl (q_move (v := .one (iC .i64 n3)) rfl) ?_
                by_cases c69 : n3 ≠ 0
                · replace h := ifT c69 h
                  refine ol_put rfl rfl rfl (q_bin rfl rfl (p_neq_t _ _ _ _ _ c69) rfl) ?_
                  refine ol_put rfl rfl rfl (q_pickT (v := .one (bC true)) rfl rfl) ?_
                  obtain ⟨⟨n71, n72⟩, h70, h⟩ := bindS h
                  refine ol_put rfl rfl rfl (q_callF (v := .agg [iC .i64 n71, iC .u64 n72]) (args := [.one (bC true)]) (ref02_truth_r (m + 2) h70) rfl rfl (vw_cons (vd_one vc_v) vw_nil) rfl rfl) ?_
                  refine ol_wr rfl rfl (q_store (es' := [[iC .i64 n71, iC .u64 n72]]) 0 rfl rfl rfl sz66 rfl rfl rfl rfl rfl) rfl ?_
                  refine ol_end ?_
                  refine E_seq ?_
                  refine L_ret ?_
                  refine E_blkR ?_
                  obtain rfl := Option.some.inj h
                  exact E_endF (.inr rfl) (res_cell (d := .agg [iC .i64 n71, iC .u64 n72]) 0 rfl sz66 rfl rfl rfl rfl res_nil) (vw_cons (vd_agg (vc_cons vc_v (vc_cons vc_v vc_nil))) vw_nil) (fun h hb => own_agg) rfl rfl
                · replace h := ifF c69 h
                  refine ol_put rfl rfl rfl (q_bin rfl rfl (p_neq_f _ _ _ _ _ c69) rfl) ?_
                  refine ol_put rfl rfl rfl (q_pickT (v := .one (bC false)) rfl rfl) ?_
                  obtain ⟨⟨n74, n75⟩, h73, h⟩ := bindS h
                  refine ol_put rfl rfl rfl (q_callF (v := .agg [iC .i64 n74, iC .u64 n75]) (args := [.one (bC false)]) (ref02_truth_r (m + 2) h73) rfl rfl (vw_cons (vd_one vc_v) vw_nil) rfl rfl) ?_
                  refine ol_wr rfl rfl (q_store (es' := [[iC .i64 n74, iC .u64 n75]]) 0 rfl rfl rfl sz66 rfl rfl rfl rfl rfl) rfl ?_
                  refine ol_end ?_
                  refine E_seq ?_
                  refine L_ret ?_
                  refine E_blkR ?_
                  obtain rfl := Option.some.inj h
                  exact E_endF (.inr rfl) (res_cell (d := .agg [iC .i64 n74, iC .u64 n75]) 0 rfl sz66 rfl rfl rfl rfl res_nil) (vw_cons (vd_agg (vc_cons vc_v (vc_cons vc_v vc_nil))) vw_nil) (fun h hb => own_agg) rfl rfl
              · replace h := ifF c68 h
                refine ol_put rfl rfl rfl (q_bin rfl rfl (p_neq_f _ _ _ _ _ c68) rfl) ?_
                refine ol_put rfl rfl rfl (q_move (v := .one (bC false)) rfl) ?_
                refine ol_skip rfl rfl rfl ?_
                refine ol_skip rfl rfl rfl ?_
                refine ol_put rfl rfl rfl (q_pickF (v := .one (bC false)) rfl rfl) ?_
                obtain ⟨⟨n77, n78⟩, h76, h⟩ := bindS h
                refine ol_put rfl rfl rfl (q_callF (v := .agg [iC .i64 n77, iC .u64 n78]) (args := [.one (bC false)]) (ref02_truth_r (m + 2) h76) rfl rfl (vw_cons (vd_one vc_v) vw_nil) rfl rfl) ?_
                refine ol_wr rfl rfl (q_store (es' := [[iC .i64 n77, iC .u64 n78]]) 0 rfl rfl rfl sz66 rfl rfl rfl rfl rfl) rfl ?_
                refine ol_end ?_
                refine E_seq ?_
                refine L_ret ?_
                refine E_blkR ?_
                obtain rfl := Option.some.inj h
                exact E_endF (.inr rfl) (res_cell (d := .agg [iC .i64 n77, iC .u64 n78]) 0 rfl sz66 rfl rfl rfl rfl res_nil) (vw_cons (vd_agg (vc_cons vc_v (vc_cons vc_v vc_nil))) vw_nil) (fun h hb => own_agg) rfl rfl
            · replace h := ifF c67 h
              refine ol_put rfl rfl rfl (q_bin rfl rfl (p_eql_f _ _ _ _ _ c67) rfl) ?_
              refine ol_put rfl rfl rfl (q_assign (v := .one (bC false)) rfl) ?_
              refine ol_end ?_
              refine E_seq ?_
              refine L_condF rfl ?_
              refine L_seq ?_
              refine L_ops ?_
              by_cases c79 : n1 = 5
              · replace h := ifT c79 h
                refine ol_put rfl rfl rfl (q_bin rfl rfl (p_eql_t _ _ _ _ _ c79) rfl) ?_
                refine ol_put rfl rfl rfl (q_assign (v := .one (bC true)) rfl) ?_
                refine ol_end ?_
                refine E_seq ?_
                refine L_condT rfl ?_
                refine L_seq ?_
                refine L_ops ?_
                refine ol_put rfl rfl rfl (q_move (v := .one (iC .i64 n2)) rfl) ?_
                refine ol_put rfl rfl rfl (q_move (v := .one (iC .i64 n3)) rfl) ?_
                obtain ⟨⟨n81, n82⟩, h80, h⟩ := bindS h
                refine ol_put rfl rfl rfl (q_callF (v := .agg [iC .i64 n81, iC .u64 n82]) (args := [.one (iC .i64 n2), .one (iC .i64 n3)]) (ref01_Mul_r (m + 0) h80) rfl rfl (vw_cons (vd_one vc_v) (vw_cons (vd_one vc_v) vw_nil)) rfl rfl) ?_
                refine ol_wr rfl rfl (q_store (es' := [[iC .i64 n81, iC .u64 n82]]) 0 rfl rfl rfl sz66 rfl rfl rfl rfl rfl) rfl ?_
                refine ol_end ?_
                refine E_seq ?_
                refine L_ret ?_
                refine E_blkR ?_
                obtain rfl := Option.some.inj h
                exact E_endF (.inr rfl) (res_cell (d := .agg [iC .i64 n81, iC .u64 n82]) 0 rfl sz66 rfl rfl rfl rfl res_nil) (vw_cons (vd_agg (vc_cons vc_v (vc_cons vc_v vc_nil))) vw_nil) (fun h hb => own_agg) rfl rfl
              · replace h := ifF c79 h
                refine ol_put rfl rfl rfl (q_bin rfl rfl (p_eql_f _ _ _ _ _ c79) rfl) ?_
                refine ol_put rfl rfl rfl (q_assign (v := .one (bC false)) rfl) ?_
                refine ol_end ?_
                refine E_seq ?_
                refine L_condF rfl ?_
                refine L_seq ?_
                refine L_ops ?_
                refine ol_put rfl rfl rfl (q_build (cs := [iC .i64 0, iC .u64 0]) ty66 rfl pl66 rfl) ?_
                refine ol_wr rfl rfl (q_store (es' := [[iC .i64 0, iC .u64 0]]) 0 rfl rfl rfl sz66 rfl rfl rfl rfl rfl) rfl ?_
                refine ol_end ?_
                refine E_seq ?_
                refine L_ret ?_
                refine E_blkR ?_
                obtain rfl := Option.some.inj h
                exact E_endF (.inr rfl) (res_cell (d := .agg [iC .i64 0, iC .u64 0]) 0 rfl sz66 rfl rfl rfl rfl res_nil) (vw_cons (vd_agg (vc_cons vc_v (vc_cons vc_v vc_nil))) vw_nil) (fun h hb => own_agg) rfl rfl
    · replace h := ifF c44 h
      refine ol_put rfl rfl rfl (q_bin rfl rfl (p_geq_f _ _ _ _ _ c44) rfl) ?_
      refine ol_put rfl rfl rfl (q_pickF (v := .one (bC false)) rfl rfl) ?_
      refine ol_put rfl rfl rfl (q_assign (v := .one (bC false)) rfl) ?_
      refine ol_end ?_
      refine E_seq ?_
      refine L_seq ?_
      refine L_ops ?_
      refine ol_put rfl rfl rfl (q_move (v := .one (iC .i64 n1)) rfl) ?_
      refine ol_end ?_
      refine E_seq ?_
      refine L_block ?_
      refine L_seq ?_
      refine L_ops ?_
      by_cases c83 : n1 = 1
      · replace h := ifT c83 h
        refine ol_put rfl rfl rfl (q_bin rfl rfl (p_eql_t _ _ _ _ _ c83) rfl) ?_
        refine ol_put rfl rfl rfl (q_assign (v := .one (bC true)) rfl) ?_
        refine ol_end ?_
        refine E_seq ?_
        refine L_condT rfl ?_
        refine L_seq ?_
        refine L_ops ?_
        refine ol_put rfl rfl rfl (q_move (v := .one (iC .i64 n2)) rfl) ?_
        obtain ⟨⟨n85, n86⟩, h84, h⟩ := bindS h
        refine ol_put rfl rfl rfl (q_callF (v := .agg [iC .i64 n85, iC .u64 n86]) (args := [.one (iC .i64 n2)]) (ref01_Of_r (m + 2) h84) rfl rfl (vw_cons (vd_one vc_v) vw_nil) rfl rfl) ?_
        refine ol_put rfl rfl rfl (q_move (v := .one (iC .i64 n3)) rfl) ?_
        obtain ⟨⟨n88, n89⟩, h87, h⟩ := bindS h
        refine ol_put rfl rfl rfl (q_callF (v := .agg [iC .i64 n88, iC .u64 n89]) (args := [.one (iC .i64 n3)]) (ref01_Of_r (m + 2) h87) rfl rfl (vw_cons (vd_one vc_v) vw_nil) rfl rfl) ?_
        obtain ⟨⟨n91, n92⟩, h90, h⟩ := bindS h
        refine ol_put rfl rfl rfl (q_callF (v := .agg [iC .i64 n91, iC .u64 n92]) (args := [.agg [iC .i64 n85, iC .u64 n86], .agg [iC .i64 n88, iC .u64 n89]]) (ref01_Add_r (m + 2) h90) rfl rfl (vw_cons (vd_agg (vc_cons vc_v (vc_cons vc_v vc_nil))) (vw_cons (vd_agg (vc_cons vc_v (vc_cons vc_v vc_nil))) vw_nil)) rfl rfl) ?_
        refine ol_new rfl rfl rfl (q_alloc ty66 (row := [iC .i64 0, iC .u64 0]) rfl rfl) (fun k93 => ?_)
        refine ol_wr rfl rfl (q_store (es' := [[iC .i64 n91, iC .u64 n92]]) 0 rfl rfl rfl sz66 rfl rfl rfl rfl rfl) rfl ?_
        refine ol_end ?_
        refine E_seq ?_
        refine L_seq ?_
        refine L_seq ?_
        refine L_still (by kernel_rfl) ?_
        refine st_put rfl rfl rfl (q_move (v := .one (bC false)) rfl) ?_
        refine st_put rfl rfl rfl (q_move (v := .one (bC false)) rfl) ?_
        refine st_put rfl rfl rfl (q_loadP (v := .agg [iC .i64 n91, iC .u64 n92]) 0 rfl sz66 rfl rfl rfl rfl) ?_
        obtain ⟨⟨n95, n96⟩, h94, h⟩ := bindS h
        refine st_put rfl rfl rfl (q_callF (v := .agg [iC .i64 n95, iC .u64 n96]) (args := [.one (iC .i64 4611686018427387904)]) (ref01_Of_r (m + 2) h94) rfl rfl (vw_cons (vd_one vc_v) vw_nil) rfl rfl) ?_
        obtain ⟨n98, h97, h⟩ := bindS h
        refine st_put rfl rfl rfl (q_callF (v := .one (iC .i64 n98)) (args := [.agg [iC .i64 n91, iC .u64 n92], .agg [iC .i64 n95, iC .u64 n96]]) (ref01_Compare_r (m + 2) h97) rfl rfl (vw_cons (vd_agg (vc_cons vc_v (vc_cons vc_v vc_nil))) (vw_cons (vd_agg (vc_cons vc_v (vc_cons vc_v vc_nil))) vw_nil)) rfl rfl) ?_
        by_cases c99 : n98 > 0
        · replace h := ifT c99 h
          refine st_put rfl rfl rfl (q_bin rfl rfl (p_gtr_t _ _ _ _ _ c99) rfl) ?_
          refine st_put rfl rfl rfl (q_pickF (v := .one (bC true)) rfl rfl) ?_
          refine st_end ?_
          refine E_seq ?_
          refine L_condT rfl ?_
          refine L_seq ?_
          refine L_ops ?_
          refine ol_put rfl rfl rfl (q_callF (v := .agg [iC .i64 n95, iC .u64 n96]) (args := [.one (iC .i64 4611686018427387904)]) (ref01_Of_r (m + 2) h94) rfl rfl (vw_cons (vd_one vc_v) vw_nil) rfl rfl) ?_
          refine ol_wr rfl rfl (q_store (es' := [[iC .i64 n95, iC .u64 n96]]) 1 rfl rfl rfl sz66 rfl rfl rfl rfl rfl) rfl ?_
          refine ol_end ?_
          refine E_seq ?_
          refine L_ret ?_
          refine E_seqR ?_
          refine E_blkR ?_
          obtain rfl := Option.some.inj h
          exact E_endF (.inr rfl) (res_cell (d := .agg [iC .i64 n95, iC .u64 n96]) 1 rfl sz66 rfl rfl rfl rfl res_nil) (vw_cons (vd_agg (vc_cons vc_v (vc_cons vc_v vc_nil))) vw_nil) (fun h hb => own_agg) rfl rfl
        · replace h := ifF c99 h
          refine st_put rfl rfl rfl (q_bin rfl rfl (p_gtr_f _ _ _ _ _ c99) rfl) ?_
          refine st_put rfl rfl rfl (q_pickF (v := .one (bC false)) rfl rfl) ?_
          refine st_end ?_
          refine E_seq ?_
          refine L_condF rfl ?_
          refine L_skip ?_
          refine E_seq ?_
          refine L_seq ?_
          refine L_ops ?_
          refine ol_put rfl rfl rfl (q_loadP (v := .agg [iC .i64 n91, iC .u64 n92]) 0 rfl sz66 rfl rfl rfl rfl) ?_
          refine ol_wr rfl rfl (q_store (es' := [[iC .i64 n91, iC .u64 n92]]) 1 rfl rfl rfl sz66 rfl rfl rfl rfl rfl) rfl ?_
          refine ol_end ?_
          refine E_seq ?_
          refine L_ret ?_
          refine E_blkR ?_
          obtain rfl := Option.some.inj h
          exact E_endF (.inr rfl) (res_cell (d := .agg [iC .i64 n91, iC .u64 n92]) 1 rfl sz66 rfl rfl rfl rfl res_nil) (vw_cons (vd_agg (vc_cons vc_v (vc_cons vc_v vc_nil))) vw_nil) (fun h hb => own_agg) rfl rfl
      · replace h := ifF c83 h
        refine ol_put rfl rfl rfl (q_bin rfl rfl (p_eql_f _ _ _ _ _ c83) rfl) ?_
        refine ol_put rfl rfl rfl (q_assign (v := .one (bC false)) rfl) ?_
        refine ol_end ?_
        refine E_seq ?_
        refine L_condF rfl ?_
        refine L_seq ?_
        refine L_ops ?_
        by_cases c100 : n1 = 3
        · replace h := ifT c100 h
          refine ol_put rfl rfl rfl (q_bin rfl rfl (p_eql_t _ _ _ _ _ c100) rfl) ?_
          refine ol_put rfl rfl rfl (q_assign (v := .one (bC true)) rfl) ?_
          refine ol_end ?_
          refine E_seq ?_
          refine L_condT rfl ?_
          refine L_seq ?_
          refine L_seq ?_
          refine L_ops ?_
          refine ol_put rfl rfl rfl (q_move (v := .one (bC false)) rfl) ?_
          refine ol_end ?_
          refine E_seq ?_
          refine L_condF rfl ?_
          refine L_skip ?_
          refine E_seq ?_
          refine L_seq ?_
          refine L_ops ?_
          refine ol_put rfl rfl rfl (q_move (v := .one (iC .i64 n2)) rfl) ?_
          obtain ⟨⟨n102, n103⟩, h101, h⟩ := bindS h
          refine ol_put rfl rfl rfl (q_callF (v := .agg [iC .i64 n102, iC .u64 n103]) (args := [.one (iC .i64 n2)]) (ref01_Of_r (m + 2) h101) rfl rfl (vw_cons (vd_one vc_v) vw_nil) rfl rfl) ?_
          refine ol_wr rfl rfl (q_store (es' := [[iC .i64 n102, iC .u64 n103]]) 0 rfl rfl rfl sz66 rfl rfl rfl rfl rfl) rfl ?_
          refine ol_end ?_
          refine E_seq ?_
          refine L_ret ?_
          refine E_blkR ?_
          obtain rfl := Option.some.inj h
          exact E_endF (.inr rfl) (res_cell (d := .agg [iC .i64 n102, iC .u64 n103]) 0 rfl sz66 rfl rfl rfl rfl res_nil) (vw_cons (vd_agg (vc_cons vc_v (vc_cons vc_v vc_nil))) vw_nil) (fun h hb => own_agg) rfl rfl
        · replace h := ifF c100 h
          refine ol_put rfl rfl rfl (q_bin rfl rfl (p_eql_f _ _ _ _ _ c100) rfl) ?_
          refine ol_put rfl rfl rfl (q_assign (v := .one (bC false)) rfl) ?_
          refine ol_end ?_
          refine E_seq ?_
          refine L_condF rfl ?_
          refine L_seq ?_
          refine L_ops ?_
          by_cases c104 : n1 = 4
          · replace h := ifT c104 h
            refine ol_put rfl rfl rfl (q_bin rfl rfl (p_eql_t _ _ _ _ _ c104) rfl) ?_
            refine ol_put rfl rfl rfl (q_assign (v := .one (bC true)) rfl) ?_
            refine ol_end ?_
            refine E_seq ?_
            refine L_condT rfl ?_
            refine L_seq ?_
            refine L_seq ?_
            refine L_ops ?_
            refine ol_put rfl rfl rfl (q_move (v := .one (bC false)) rfl) ?_
            refine ol_end ?_
            refine E_seq ?_
            refine L_condF rfl ?_
            refine L_skip ?_
            refine E_seq ?_
            refine L_seq ?_
            refine L_ops ?_
            refine ol_put rfl rfl rfl (q_move (v := .one (iC .i64 n3)) rfl) ?_
            obtain ⟨⟨n106, n107⟩, h105, h⟩ := bindS h
            refine ol_put rfl rfl rfl (q_callF (v := .agg [iC .i64 n106, iC .u64 n107]) (args := [.one (iC .i64 n3)]) (ref01_Of_r (m + 2) h105) rfl rfl (vw_cons (vd_one vc_v) vw_nil) rfl rfl) ?_
            refine ol_wr rfl rfl (q_store (es' := [[iC .i64 n106, iC .u64 n107]]) 0 rfl rfl rfl sz66 rfl rfl rfl rfl rfl) rfl ?_
            refine ol_end ?_
            refine E_seq ?_
            refine L_ret ?_
            refine E_blkR ?_
            obtain rfl := Option.some.inj h
            exact E_endF (.inr rfl) (res_cell (d := .agg [iC .i64 n106, iC .u64 n107]) 0 rfl sz66 rfl rfl rfl rfl res_nil) (vw_cons (vd_agg (vc_cons vc_v (vc_cons vc_v vc_nil))) vw_nil) (fun h hb => own_agg) rfl rfl
          · replace h := ifF c104 h
            refine ol_put rfl rfl rfl (q_bin rfl rfl (p_eql_f _ _ _ _ _ c104) rfl) ?_
            refine ol_put rfl rfl rfl (q_assign (v := .one (bC false)) rfl) ?_
            refine ol_end ?_
            refine E_seq ?_
            refine L_condF rfl ?_
            refine L_seq ?_
            refine L_ops ?_
            by_cases c108 : n1 = 2
            · replace h := ifT c108 h
              refine ol_put rfl rfl rfl (q_bin rfl rfl (p_eql_t _ _ _ _ _ c108) rfl) ?_
              refine ol_put rfl rfl rfl (q_assign (v := .one (bC true)) rfl) ?_
              refine ol_end ?_
              refine E_seq ?_
              refine L_condT rfl ?_
              refine L_seq ?_
              refine L_ops ?_
              refine ol_put rfl rfl rfl (q_move (v := .one (iC .i64 n2)) rfl) ?_
              by_cases c109 : n2 ≠ 0
              · replace h := ifT c109 h
                refine ol_put rfl rfl rfl (q_bin rfl rfl (p_neq_t _ _ _ _ _ c109) rfl) ?_
                refine ol_put rfl rfl rfl (q_move (v := .one (bC true)) rfl) ?_
                refine ol_put rfl rfl rfl (q_move (v := .one (iC .i64 n3)) rfl) ?_
                by_cases c110 : n3 ≠ 0
                · replace h := ifT c110 h
                  refine ol_put rfl rfl rfl (q_bin rfl rfl (p_neq_t _ _ _ _ _ c110) rfl) ?_
                  refine ol_put rfl rfl rfl (q_pickT (v := .one (bC true)) rfl rfl) ?_
                  obtain ⟨⟨n112, n113⟩, h111, h⟩ := bindS h
                  refine ol_put rfl rfl rfl (q_callF (v := .agg [iC .i64 n112, iC .u64 n113]) (args := [.one (bC true)]) (ref02_truth_r (m + 2) h111) rfl rfl (vw_cons (vd_one vc_v) vw_nil) rfl rfl) ?_
                  refine ol_wr rfl rfl (q_store (es' := [[iC .i64 n112, iC .u64 n113]]) 0 rfl rfl rfl sz66 rfl rfl rfl rfl rfl) rfl ?_
                  refine ol_end ?_
                  refine E_seq ?_
                  refine L_ret ?_
                  refine E_blkR ?_
                  obtain rfl := Option.some.inj h
                  exact E_endF (.inr rfl) (res_cell (d := .agg [iC .i64 n112, iC .u64 n113]) 0 rfl sz66 rfl rfl rfl rfl res_nil) (vw_cons (vd_agg (vc_cons vc_v (vc_cons vc_v vc_nil))) vw_nil) (fun h hb => own_agg) rfl rfl
                · replace h := ifF c110 h
                  refine ol_put rfl rfl rfl (q_bin rfl rfl (p_neq_f _ _ _ _ _ c110) rfl) ?_
                  refine ol_put rfl rfl rfl (q_pickT (v := .one (bC false)) rfl rfl) ?_
                  obtain ⟨⟨n115, n116⟩, h114, h⟩ := bindS h
                  refine ol_put rfl rfl rfl (q_callF (v := .agg [iC .i64 n115, iC .u64 n116]) (args := [.one (bC false)]) (ref02_truth_r (m + 2) h114) rfl rfl (vw_cons (vd_one vc_v) vw_nil) rfl rfl) ?_
                  refine ol_wr rfl rfl (q_store (es' := [[iC .i64 n115, iC .u64 n116]]) 0 rfl rfl rfl sz66 rfl rfl rfl rfl rfl) rfl ?_
                  refine ol_end ?_
                  refine E_seq ?_
                  refine L_ret ?_
                  refine E_blkR ?_
                  obtain rfl := Option.some.inj h
                  exact E_endF (.inr rfl) (res_cell (d := .agg [iC .i64 n115, iC .u64 n116]) 0 rfl sz66 rfl rfl rfl rfl res_nil) (vw_cons (vd_agg (vc_cons vc_v (vc_cons vc_v vc_nil))) vw_nil) (fun h hb => own_agg) rfl rfl
              · replace h := ifF c109 h
                refine ol_put rfl rfl rfl (q_bin rfl rfl (p_neq_f _ _ _ _ _ c109) rfl) ?_
                refine ol_put rfl rfl rfl (q_move (v := .one (bC false)) rfl) ?_
                refine ol_skip rfl rfl rfl ?_
                refine ol_skip rfl rfl rfl ?_
                refine ol_put rfl rfl rfl (q_pickF (v := .one (bC false)) rfl rfl) ?_
                obtain ⟨⟨n118, n119⟩, h117, h⟩ := bindS h
                refine ol_put rfl rfl rfl (q_callF (v := .agg [iC .i64 n118, iC .u64 n119]) (args := [.one (bC false)]) (ref02_truth_r (m + 2) h117) rfl rfl (vw_cons (vd_one vc_v) vw_nil) rfl rfl) ?_
                refine ol_wr rfl rfl (q_store (es' := [[iC .i64 n118, iC .u64 n119]]) 0 rfl rfl rfl sz66 rfl rfl rfl rfl rfl) rfl ?_
                refine ol_end ?_
                refine E_seq ?_
                refine L_ret ?_
                refine E_blkR ?_
                obtain rfl := Option.some.inj h
                exact E_endF (.inr rfl) (res_cell (d := .agg [iC .i64 n118, iC .u64 n119]) 0 rfl sz66 rfl rfl rfl rfl res_nil) (vw_cons (vd_agg (vc_cons vc_v (vc_cons vc_v vc_nil))) vw_nil) (fun h hb => own_agg) rfl rfl
            · replace h := ifF c108 h
              refine ol_put rfl rfl rfl (q_bin rfl rfl (p_eql_f _ _ _ _ _ c108) rfl) ?_
              refine ol_put rfl rfl rfl (q_assign (v := .one (bC false)) rfl) ?_
              refine ol_end ?_
              refine E_seq ?_
              refine L_condF rfl ?_
              refine L_seq ?_
              refine L_ops ?_
              by_cases c120 : n1 = 5
              · replace h := ifT c120 h
                refine ol_put rfl rfl rfl (q_bin rfl rfl (p_eql_t _ _ _ _ _ c120) rfl) ?_
                refine ol_put rfl rfl rfl (q_assign (v := .one (bC true)) rfl) ?_
                refine ol_end ?_
                refine E_seq ?_
                refine L_condT rfl ?_
                refine L_seq ?_
                refine L_ops ?_
                refine ol_put rfl rfl rfl (q_move (v := .one (iC .i64 n2)) rfl) ?_
                refine ol_put rfl rfl rfl (q_move (v := .one (iC .i64 n3)) rfl) ?_
                obtain ⟨⟨n122, n123⟩, h121, h⟩ := bindS h
                refine ol_put rfl rfl rfl (q_callF (v := .agg [iC .i64 n122, iC .u64 n123]) (args := [.one (iC .i64 n2), .one (iC .i64 n3)]) (ref01_Mul_r (m + 0) h121) rfl rfl (vw_cons (vd_one vc_v) (vw_cons (vd_one vc_v) vw_nil)) rfl rfl) ?_
                refine ol_wr rfl rfl (q_store (es' := [[iC .i64 n122, iC .u64 n123]]) 0 rfl rfl rfl sz66 rfl rfl rfl rfl rfl) rfl ?_
                refine ol_end ?_
                refine E_seq ?_
                refine L_ret ?_
                refine E_blkR ?_
                obtain rfl := Option.some.inj h
                exact E_endF (.inr rfl) (res_cell (d := .agg [iC .i64 n122, iC .u64 n123]) 0 rfl sz66 rfl rfl rfl rfl res_nil) (vw_cons (vd_agg (vc_cons vc_v (vc_cons vc_v vc_nil))) vw_nil) (fun h hb => own_agg) rfl rfl
              · replace h := ifF c120 h
                refine ol_put rfl rfl rfl (q_bin rfl rfl (p_eql_f _ _ _ _ _ c120) rfl) ?_
                refine ol_put rfl rfl rfl (q_assign (v := .one (bC false)) rfl) ?_
                refine ol_end ?_
                refine E_seq ?_
                refine L_condF rfl ?_
                refine L_seq ?_
                refine L_ops ?_
                refine ol_put rfl rfl rfl (q_build (cs := [iC .i64 0, iC .u64 0]) ty66 rfl pl66 rfl) ?_
                refine ol_wr rfl rfl (q_store (es' := [[iC .i64 0, iC .u64 0]]) 0 rfl rfl rfl sz66 rfl rfl rfl rfl rfl) rfl ?_
                refine ol_end ?_
                refine E_seq ?_
                refine L_ret ?_
                refine E_blkR ?_
                obtain rfl := Option.some.inj h
                exact E_endF (.inr rfl) (res_cell (d := .agg [iC .i64 0, iC .u64 0]) 0 rfl sz66 rfl rfl rfl rfl res_nil) (vw_cons (vd_agg (vc_cons vc_v (vc_cons vc_v vc_nil))) vw_nil) (fun h hb => own_agg) rfl rfl
end Ev
end Go.Proofs.Ytlcfdmjkbaegpaa
