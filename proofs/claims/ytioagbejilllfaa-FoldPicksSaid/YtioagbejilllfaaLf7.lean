/- Functions of the program as functions on data, and that they are. -/
import Derived.Test.YtioagbejilllfaaLf1
import Derived.Test.YtioagbejilllfaaLf3
import Derived.Test.YtioagbejilllfaaLf5
import Derived.Test.YtioagbejilllfaaLf6
import Derived.Test.YtioagbejilllfaaLy1
namespace Go.Proofs.Ytioagbejilllfaa
namespace Ev
open Go
set_option linter.unusedVariables false
set_option linter.unusedSimpArgs false
set_option maxRecDepth 100000
set_option maxHeartbeats 1000000
attribute [local irreducible] OpsL StL TnL WpL EndL
noncomputable def ref09_Drop_b1 (n3 : Int) (s8 : Sl (Int × Int)) (a : Int × (List (Int × Int))) : Option ((Int × (List (Int × Int))) ⊕ ((List (Int × Int)) ⊕ (Int × (Sl (Int × Int))))) :=
  match a with
  | (n50, l51) => (if n50 < ((s8.l.length : Nat) : Int) then ((atS 2 s8 n50).bind fun (n58, n59) => (if n58 ≠ n3 then ((atS 2 s8 n50).bind fun (n69, n70) => ((app l51 ([(n69, n70)] : List (Int × Int))).bind fun _ => some (.inl ((IntKind.i64.wrap (n50 + 1)), (l51 ++ ([(n69, n70)] : List (Int × Int))))))) else some (.inl ((IntKind.i64.wrap (n50 + 1)), l51)))) else some (.inr (.inl l51)))
noncomputable def ref09_Drop (a0 : Int × (Sl (Int × Int))) (n3 : Int) : Option ((Int × (Sl (Int × Int)))) :=
  match a0 with
  | (n1, s2) => ((ref09_Sure (n1, s2)).bind fun (n7, s8) => ((loopO (ref09_Drop_b1 n3 s8) (0, ([] : List (Int × Int)))).bind (Sum.elim (fun l72 => some (n7, (mo 2 l72))) (fun u => some u))))
theorem ref09_Drop_r (m : Nat) {a0 : Int × (Sl (Int × Int))} {n3 : Int} {out : (Int × (Sl (Int × Int)))} (h : ref09_Drop a0 n3 = some out) : RunsP E1 (m + 3) 52 [.agg (r24 a0), .one (iT .i64 n3)] (.fresh, [.agg (r24 out)]) := by
  obtain ⟨n1, s2⟩ := a0
  refine fn_F rfl (by rw [E1_fn]; exact show fiOf Try.prog 52 = _ by unfold fiOf; rw [Try.func52]; unfold Try.f52; rfl) rfl ?_
  dsimp only
  unfold ref09_Drop at h
  refine L_seq ?_
  refine L_ops ?_
  refine ol_new rfl rfl rfl (q_box ty25 rfl (cs := [iC .i64 n1, .p false (Sl.t r33 s2)]) rfl rfl) (fun k4 => ?_)
  refine ol_new rfl rfl rfl (q_alloc ty25 (row := [iC .i64 0, .p true (Sl.t r33 (⟨false, 0, []⟩ : Sl (Int × Int)))]) rfl rfl) (fun k5 => ?_)
  refine ol_end ?_
  refine E_seq ?_
  refine L_seq ?_
  refine L_ops ?_
  refine ol_put rfl rfl rfl (q_loadP (v := .agg [iC .i64 n1, .p false (Sl.t r33 s2)]) 1 rfl sz25 rfl rfl rfl rfl) ?_
  obtain ⟨⟨n7, s8⟩, h6, h⟩ := bindS h
  refine ol_putX rfl rfl rfl (q_callX (v := fun fr9 => .agg [iC .i64 n7, .p fr9 (Sl.t r33 s8)]) (args := [.agg [iC .i64 n1, .p false (Sl.t r33 s2)]]) (ref09_Sure_r (m + 0) h6) rfl rfl (vw_cons (vd_agg (vc_cons vc_v (vc_cons vc_s vc_nil))) vw_nil) rfl rfl (fun fr => rfl)) (fun fr9 => ?_)
  refine ol_wr rfl rfl (q_store (es' := [[iC .i64 n7, .p fr9 (Sl.t r33 s8)]]) 1 rfl rfl rfl sz25 rfl rfl rfl rfl rfl) rfl ?_
  refine ol_end ?_
  refine E_seq ?_
  refine L_seq ?_
  refine L_ops ?_
  refine ol_put rfl rfl rfl (q_fieldP rfl fa25_0 rfl) ?_
  refine ol_put rfl rfl rfl (q_loadP (v := .one (iC .i64 n7)) 1 rfl sz3 rfl rfl rfl rfl) ?_
  refine ol_put rfl rfl rfl (q_build (cs := [iC .i64 n7, .p true (Sl.t r33 (⟨false, 0, []⟩ : Sl (Int × Int)))]) ty25 rfl pl25 rfl) ?_
  refine ol_new rfl rfl rfl (q_alloc ty25 (row := [iC .i64 0, .p true (Sl.t r33 (⟨false, 0, []⟩ : Sl (Int × Int)))]) rfl rfl) (fun k10 => ?_)
  refine ol_wr rfl rfl (q_store (es' := [[iC .i64 n7, .p true (Sl.t r33 (⟨false, 0, []⟩ : Sl (Int × Int)))]]) 0 rfl rfl rfl sz25 rfl rfl rfl rfl rfl) rfl ?_
  refine ol_end ?_
  refine E_seq ?_
  refine L_seq ?_
  refine L_seq ?_
  refine L_ops ?_
  refine ol_put rfl rfl rfl (q_assign (v := .one (iC .i64 0)) rfl) ?_
  refine ol_end ?_
  refine E_seq ?_
  refine L_block ?_
  let S1 : (Int × (List (Int × Int))) → Nat → (Nat → D) → Nat → D := fun a kt g => ups g [(1, .one (iC .i64 n3)), (2, .one (.ptr k4 0 0)), (4, .one (.ptr k5 0 0)), (5, .one (.ptr k10 0 0)), (6, .one (iC .i64 a.1))]
  let SL1 : (Int × (List (Int × Int))) → Nat → BL := fun a kt => ([(k4, 2, [[iC .i64 n7, .p fr9 (Sl.t r33 s8)]]), (k5, 2, [[iC .i64 0, .p true (Sl.t r33 (⟨false, 0, []⟩ : Sl (Int × Int)))]]), (k10, 2, [[iC .i64 n7, moC a.2 kt]])] ++ moL r33 2 a.2 kt : BL)
  let Sx1 : (List (Int × Int)) → Nat → (Nat → D) → Nat → D := fun a kt g => ups g [(4, .one (.ptr k5 0 0)), (5, .one (.ptr k10 0 0))]
  let SLx1 : (List (Int × Int)) → Nat → BL := fun a kt => ([(k5, 2, [[iC .i64 0, .p true (Sl.t r33 (⟨false, 0, []⟩ : Sl (Int × Int)))]]), (k10, 2, [[iC .i64 n7, moC a kt]])] ++ moL r33 2 a kt : BL)
  let G1 : (Int × (Sl (Int × Int))) → Ex → St → Prop := fun u => endQ E1 [.cell 4 25] (.fresh, [.agg (r24 u)])
  let J1 : ((List (Int × Int)) ⊕ (Int × (Sl (Int × Int)))) → Ex → St → Prop := JX 38 0 Sx1 SLx1 G1
  refine L_loopS (ref09_Drop_b1 n3 s8) S1 SL1 J1 JX_n (0, ([] : List (Int × Int))) h 0 (ups_self ⟨rfl, rfl, rfl, rfl, rfl, trivial⟩) [2, 1, 0] (by decide) rfl ?_ ?_
  · rintro ⟨n50, l51⟩ k52 g out h
    change ref09_Drop_b1 n3 s8 (n50, l51) = some out at h
    unfold ref09_Drop_b1 at h
    rcases l51 with _ | ⟨y53, t54⟩
    · skip
      refine L_seq ?_
      refine L_seq ?_
      refine L_ops ?_
      refine ol_put rfl rfl rfl (q_move (v := .one (iC .i64 n50)) rfl) ?_
      refine ol_put rfl rfl rfl (q_fieldP rfl fa25_1 rfl) ?_
      refine ol_put rfl rfl rfl (q_loadP (v := .one (.p fr9 (Sl.t r33 s8))) 0 rfl sz23 rfl rfl rfl rfl) ?_
      refine ol_put rfl rfl rfl (q_lenS rfl ty23 rfl rfl rfl rfl) ?_
      by_cases c55 : n50 < ((s8.l.length : Nat) : Int)
      · replace h := ifT c55 h
        refine ol_put rfl rfl rfl (q_bin rfl rfl (p_lss_t _ _ _ _ _ c55) rfl) ?_
        refine ol_end ?_
        refine E_seq ?_
        refine L_condT rfl ?_
        refine L_skip ?_
        refine E_seq ?_
        refine L_seq ?_
        refine L_block ?_
        refine L_seq ?_
        refine L_ops ?_
        refine ol_put rfl rfl rfl (q_fieldP rfl fa25_1 rfl) ?_
        refine ol_put rfl rfl rfl (q_loadP (v := .one (.p fr9 (Sl.t r33 s8))) 0 rfl sz23 rfl rfl rfl rfl) ?_
        refine ol_put rfl rfl rfl (q_move (v := .one (iC .i64 n50)) rfl) ?_
        obtain ⟨⟨n58, n59⟩, h57, h⟩ := bindS h
        obtain ⟨h57a, h57b, h57⟩ := atS_some h57
        refine ol_put rfl rfl rfl (q_ixS rfl rfl h57a h57 (el23.trans (congrArg some h57b.symm))) ?_
        refine ol_put rfl rfl rfl (q_fieldI rfl fa34_0 rfl) ?_
        refine ol_put rfl rfl rfl (q_loadI (v := .one (iC .i64 n58)) rfl sz3 (map_get h57) rfl rfl) ?_
        refine ol_put rfl rfl rfl (q_move (v := .one (iC .i64 n3)) rfl) ?_
        by_cases c60 : n58 ≠ n3
        · replace h := ifT c60 h
          refine ol_put rfl rfl rfl (q_bin rfl rfl (p_neq_t _ _ _ _ _ c60) rfl) ?_
          refine ol_end ?_
          refine E_seq ?_
          refine L_condT rfl ?_
          refine L_norm (L2 := ([(k4, 2, [[iC .i64 n7, .p fr9 (Sl.t r33 s8)]]), (k5, 2, [[iC .i64 0, .p true (Sl.t r33 (⟨false, 0, []⟩ : Sl (Int × Int)))]]), (k10, 2, [[iC .i64 n7, .p true (Sl.t r33 (mo 2 ([] : List (Int × Int))))]])] : BL)) [0, 1, 2] (by decide) rfl ?_
          refine L_turn 11 rfl [[], [], [], [], [], [], [], [], [], [], [k10]] [false, false, false, false, false, false, false, true, true, false, false] [[2, 3, 4, 5, 6, 7], [2, 3, 4, 5, 6, 7], [0, 1, 4], [0, 1, 4], [0, 1, 2, 3], [0, 1], [0, 1], [0, 1], [], [], []] (by kernel_rfl) (by kernel_rfl) ?_ (fun bb61 hlt hnd => ?_)
          · intro bb61 hlt hnd
            have e0_bb61 : k4 < bb61 := key_lt hlt 0 rfl
            have e1_bb61 : k5 < bb61 := key_lt hlt 1 rfl
            have e2_bb61 : k10 < bb61 := key_lt hlt 2 rfl
            have d2_0_bb61 : k10 ≠ k4 := key_ne hnd 2 0 rfl rfl rfl
            have d2_1_bb61 : k10 ≠ k5 := key_ne hnd 2 1 rfl rfl rfl
            exact ⟨by simp <;> omega, by simp <;> omega⟩
          have e0_bb61 : k4 < bb61 := key_lt hlt 0 rfl
          have e1_bb61 : k5 < bb61 := key_lt hlt 1 rfl
          have e2_bb61 : k10 < bb61 := key_lt hlt 2 rfl
          have d2_0_bb61 : k10 ≠ k4 := key_ne hnd 2 0 rfl rfl rfl
          have d2_1_bb61 : k10 ≠ k5 := key_ne hnd 2 1 rfl rfl rfl
          clear hlt hnd
          refine tn_put rfl rfl rfl [0, 1, 2] (by decide) rfl (hmc (by simp [turnsOf] <;> omega) (hmc (by simp [turnsOf] <;> omega) (hmc (by simp [turnsOf] <;> omega) hmn))) rfl (q_fieldP rfl fa25_1 rfl) ?_
          refine tn_put rfl rfl rfl [0, 1, 2] (by decide) rfl (hmc (by simp [turnsOf] <;> omega) (hmc (by simp [turnsOf] <;> omega) (hmc (by simp [turnsOf] <;> omega) hmn))) rfl (q_loadP (v := .one (.p true (Sl.t r33 (mo 2 ([] : List (Int × Int)))))) 2 rfl sz23 rfl rfl rfl rfl) ?_
          refine tn_put rfl rfl rfl [0, 1, 2] (by decide) rfl (hm0 rfl) rfl (q_fieldP rfl fa25_1 rfl) ?_
          refine tn_put rfl rfl rfl [0, 1, 2] (by decide) rfl (hm0 rfl) rfl (q_loadP (v := .one (.p fr9 (Sl.t r33 s8))) 0 rfl sz23 rfl rfl rfl rfl) ?_
          refine tn_put rfl rfl rfl [0, 1, 2] (by decide) rfl (hm0 rfl) rfl (q_move (v := .one (iC .i64 n50)) rfl) ?_
          obtain ⟨⟨n69, n70⟩, h68, h⟩ := bindS h
          obtain ⟨h68a, h68b, h68⟩ := atS_some h68
          refine tn_put rfl rfl rfl [0, 1, 2] (by decide) rfl (hm0 rfl) rfl (q_ixS rfl rfl h68a h68 (el23.trans (congrArg some h68b.symm))) ?_
          refine tn_put rfl rfl rfl [0, 1, 2] (by decide) rfl (hm0 rfl) rfl (q_loadI (v := .agg [iC .i64 n69, iC .i64 n70]) rfl sz34 (map_get h68) rfl rfl) ?_
          refine tn_new rfl rfl rfl [0, 1, 2] (by decide) rfl (hm0 rfl) rfl rfl (hkc (by omega) (hkc (by omega) (hkc (by omega) hkn))) (q_bslice (cs := [iC .i64 n69, iC .i64 n70]) (es := (([(n69, n70)] : List (Int × Int))).map (rowC r33)) ty23 rfl ty34 rfl rfl rfl rfl rfl) ?_
          obtain ⟨_, h71, h⟩ := bindS h
          obtain ⟨h71b, rfl⟩ := app_some h71
          refine tn_new rfl rfl rfl [0, 1, 2, 3] (by decide) rfl (hm0 rfl) rfl rfl (hkc (by omega) (hkc (by omega) (hkc (by omega) (hkc (by omega) hkn)))) (q_app0 (xs := ((([] : List (Int × Int)) ++ ([(n69, n70)] : List (Int × Int)))).map (rowC r33)) rfl rfl (el_ownM 0 rfl) ⟨_, _, rfl⟩ (by simp [bound]) rfl el23 ty23 rfl rfl rfl rfl rfl) ?_
          refine tn_put rfl rfl rfl [0, 1, 2, 3, 4] (by decide) rfl (hm0 rfl) rfl (q_fieldP rfl fa25_1 rfl) ?_
          refine tn_wr rfl rfl [0, 1, 2, 3, 4] (by decide) rfl (hm0 rfl) rfl (q_store (es' := [[iC .i64 n7, .own (bb61 + 8) 0 ((([] : List (Int × Int)) ++ ([(n69, n70)] : List (Int × Int)))).length]]) 4 rfl rfl rfl sz23 rfl rfl rfl rfl rfl) (q := 4) rfl rfl ?_
          refine tn_end ?_
          refine E_blkN ?_
          refine E_seq ?_
          refine L_ops ?_
          refine ol_put rfl rfl rfl (q_move (v := .one (iC .i64 n50)) rfl) ?_
          refine ol_put rfl rfl rfl (q_bin rfl rfl (p_add _ _ _ _ _ _ _) rfl) ?_
          refine ol_put rfl rfl rfl (q_assign (v := .one (iC .i64 (IntKind.i64.wrap (n50 + 1)))) rfl) ?_
          refine ol_end ?_
          obtain rfl := Option.some.inj h
          exact E_next (bb61 + 8) (ups_self ⟨rfl, rfl, rfl, rfl, rfl, trivial⟩) [2, 3, 4, 0] (by decide) rfl
        · replace h := ifF c60 h
          refine ol_put rfl rfl rfl (q_bin rfl rfl (p_neq_f _ _ _ _ _ c60) rfl) ?_
          refine ol_end ?_
          refine E_seq ?_
          refine L_condF rfl ?_
          refine L_skip ?_
          refine E_blkN ?_
          refine E_seq ?_
          refine L_ops ?_
          refine ol_put rfl rfl rfl (q_move (v := .one (iC .i64 n50)) rfl) ?_
          refine ol_put rfl rfl rfl (q_bin rfl rfl (p_add _ _ _ _ _ _ _) rfl) ?_
          refine ol_put rfl rfl rfl (q_assign (v := .one (iC .i64 (IntKind.i64.wrap (n50 + 1)))) rfl) ?_
          refine ol_end ?_
          obtain rfl := Option.some.inj h
          exact E_next 0 (ups_self ⟨rfl, rfl, rfl, rfl, rfl, trivial⟩) [0, 1, 2] (by decide) rfl
      · replace h := ifF c55 h
        refine ol_put rfl rfl rfl (q_bin rfl rfl (p_lss_f _ _ _ _ _ c55) rfl) ?_
        refine ol_end ?_
        refine E_seq ?_
        refine L_condF rfl ?_
        refine L_exit ?_
        refine E_seqX ?_
        obtain rfl := Option.some.inj h
        exact E_out (E_exit 0 (ups_self ⟨rfl, rfl, trivial⟩) [1, 2] (by decide) rfl)
    · skip
      refine L_seq ?_
      refine L_seq ?_
      refine L_ops ?_
      refine ol_put rfl rfl rfl (q_move (v := .one (iC .i64 n50)) rfl) ?_
      refine ol_put rfl rfl rfl (q_fieldP rfl fa25_1 rfl) ?_
      refine ol_put rfl rfl rfl (q_loadP (v := .one (.p fr9 (Sl.t r33 s8))) 0 rfl sz23 rfl rfl rfl rfl) ?_
      refine ol_put rfl rfl rfl (q_lenS rfl ty23 rfl rfl rfl rfl) ?_
      by_cases c55 : n50 < ((s8.l.length : Nat) : Int)
      · replace h := ifT c55 h
        refine ol_put rfl rfl rfl (q_bin rfl rfl (p_lss_t _ _ _ _ _ c55) rfl) ?_
        refine ol_end ?_
        refine E_seq ?_
        refine L_condT rfl ?_
        refine L_skip ?_
        refine E_seq ?_
        refine L_seq ?_
        refine L_block ?_
        refine L_seq ?_
        refine L_ops ?_
        refine ol_put rfl rfl rfl (q_fieldP rfl fa25_1 rfl) ?_
        refine ol_put rfl rfl rfl (q_loadP (v := .one (.p fr9 (Sl.t r33 s8))) 0 rfl sz23 rfl rfl rfl rfl) ?_
        refine ol_put rfl rfl rfl (q_move (v := .one (iC .i64 n50)) rfl) ?_
        obtain ⟨⟨n58, n59⟩, h57, h⟩ := bindS h
        obtain ⟨h57a, h57b, h57⟩ := atS_some h57
        refine ol_put rfl rfl rfl (q_ixS rfl rfl h57a h57 (el23.trans (congrArg some h57b.symm))) ?_
        refine ol_put rfl rfl rfl (q_fieldI rfl fa34_0 rfl) ?_
        refine ol_put rfl rfl rfl (q_loadI (v := .one (iC .i64 n58)) rfl sz3 (map_get h57) rfl rfl) ?_
        refine ol_put rfl rfl rfl (q_move (v := .one (iC .i64 n3)) rfl) ?_
        by_cases c60 : n58 ≠ n3
        · replace h := ifT c60 h
          refine ol_put rfl rfl rfl (q_bin rfl rfl (p_neq_t _ _ _ _ _ c60) rfl) ?_
          refine ol_end ?_
          refine E_seq ?_
          refine L_condT rfl ?_
          refine L_norm (L2 := ([(k4, 2, [[iC .i64 n7, .p fr9 (Sl.t r33 s8)]]), (k5, 2, [[iC .i64 0, .p true (Sl.t r33 (⟨false, 0, []⟩ : Sl (Int × Int)))]]), (k10, 2, [[iC .i64 n7, .own k52 0 ((y53 :: t54)).length]]), (k52, 2, ((y53 :: t54)).map (rowC r33))] : BL)) [0, 1, 2, 3] (by decide) rfl ?_
          refine L_turn 11 rfl [[], [], [], [], [], [], [], [], [k52], [], [k10]] [false, false, false, false, false, false, false, true, true, false, false] [[2, 3, 4, 5, 6, 7], [2, 3, 4, 5, 6, 7], [0, 1, 4], [0, 1, 4], [0, 1, 2, 3], [0, 1], [0, 1], [0, 1], [], [], []] (by kernel_rfl) (by kernel_rfl) ?_ (fun bb61 hlt hnd => ?_)
          · intro bb61 hlt hnd
            have e0_bb61 : k4 < bb61 := key_lt hlt 0 rfl
            have e1_bb61 : k5 < bb61 := key_lt hlt 1 rfl
            have e2_bb61 : k10 < bb61 := key_lt hlt 2 rfl
            have e3_bb61 : k52 < bb61 := key_lt hlt 3 rfl
            have d2_0_bb61 : k10 ≠ k4 := key_ne hnd 2 0 rfl rfl rfl
            have d2_1_bb61 : k10 ≠ k5 := key_ne hnd 2 1 rfl rfl rfl
            have d2_3_bb61 : k10 ≠ k52 := key_ne hnd 2 3 rfl rfl rfl
            have d3_0_bb61 : k52 ≠ k4 := key_ne hnd 3 0 rfl rfl rfl
            have d3_1_bb61 : k52 ≠ k5 := key_ne hnd 3 1 rfl rfl rfl
            have d3_2_bb61 : k52 ≠ k10 := key_ne hnd 3 2 rfl rfl rfl
            exact ⟨by simp <;> omega, by simp <;> omega⟩
          have e0_bb61 : k4 < bb61 := key_lt hlt 0 rfl
          have e1_bb61 : k5 < bb61 := key_lt hlt 1 rfl
          have e2_bb61 : k10 < bb61 := key_lt hlt 2 rfl
          have e3_bb61 : k52 < bb61 := key_lt hlt 3 rfl
          have d2_0_bb61 : k10 ≠ k4 := key_ne hnd 2 0 rfl rfl rfl
          have d2_1_bb61 : k10 ≠ k5 := key_ne hnd 2 1 rfl rfl rfl
          have d2_3_bb61 : k10 ≠ k52 := key_ne hnd 2 3 rfl rfl rfl
          have d3_0_bb61 : k52 ≠ k4 := key_ne hnd 3 0 rfl rfl rfl
          have d3_1_bb61 : k52 ≠ k5 := key_ne hnd 3 1 rfl rfl rfl
          have d3_2_bb61 : k52 ≠ k10 := key_ne hnd 3 2 rfl rfl rfl
          clear hlt hnd
          refine tn_put rfl rfl rfl [0, 1, 2, 3] (by decide) rfl (hmc (by simp [turnsOf] <;> omega) (hmc (by simp [turnsOf] <;> omega) (hmc (by simp [turnsOf] <;> omega) (hmc (by simp [turnsOf] <;> omega) hmn)))) rfl (q_fieldP rfl fa25_1 rfl) ?_
          refine tn_put rfl rfl rfl [0, 1, 2, 3] (by decide) rfl (hmc (by simp [turnsOf] <;> omega) (hmc (by simp [turnsOf] <;> omega) (hmc (by simp [turnsOf] <;> omega) (hmc (by simp [turnsOf] <;> omega) hmn)))) rfl (q_loadP (v := .one (.own k52 0 ((y53 :: t54)).length)) 2 rfl sz23 rfl rfl rfl rfl) ?_
          refine tn_put rfl rfl rfl [0, 1, 2, 3] (by decide) rfl (hm0 rfl) rfl (q_fieldP rfl fa25_1 rfl) ?_
          refine tn_put rfl rfl rfl [0, 1, 2, 3] (by decide) rfl (hm0 rfl) rfl (q_loadP (v := .one (.p fr9 (Sl.t r33 s8))) 0 rfl sz23 rfl rfl rfl rfl) ?_
          refine tn_put rfl rfl rfl [0, 1, 2, 3] (by decide) rfl (hm0 rfl) rfl (q_move (v := .one (iC .i64 n50)) rfl) ?_
          obtain ⟨⟨n69, n70⟩, h68, h⟩ := bindS h
          obtain ⟨h68a, h68b, h68⟩ := atS_some h68
          refine tn_put rfl rfl rfl [0, 1, 2, 3] (by decide) rfl (hm0 rfl) rfl (q_ixS rfl rfl h68a h68 (el23.trans (congrArg some h68b.symm))) ?_
          refine tn_put rfl rfl rfl [0, 1, 2, 3] (by decide) rfl (hm0 rfl) rfl (q_loadI (v := .agg [iC .i64 n69, iC .i64 n70]) rfl sz34 (map_get h68) rfl rfl) ?_
          refine tn_new rfl rfl rfl [0, 1, 2, 3] (by decide) rfl (hm0 rfl) rfl rfl (hkc (by omega) (hkc (by omega) (hkc (by omega) (hkc (by omega) hkn)))) (q_bslice (cs := [iC .i64 n69, iC .i64 n70]) (es := (([(n69, n70)] : List (Int × Int))).map (rowC r33)) ty23 rfl ty34 rfl rfl rfl rfl rfl) ?_
          obtain ⟨_, h71, h⟩ := bindS h
          obtain ⟨h71b, rfl⟩ := app_some h71
          refine tn_app rfl rfl rfl [0, 1, 2, 3, 4] (by decide) rfl (hm0 rfl) rfl rfl (hkc (by omega) (hkc (by omega) (hkc (by omega) (hkc (by omega) (hkc (by omega) hkn))))) (q_app 4 rfl rfl (el_ownM 0 rfl) rfl rfl h71 (fun y => rfl) el23 ty23 rfl rfl rfl rfl rfl) (q := 4) rfl rfl ?_
          refine tn_put rfl rfl rfl [0, 1, 2, 3, 4] (by decide) rfl (hm0 rfl) rfl (q_fieldP rfl fa25_1 rfl) ?_
          refine tn_wr rfl rfl [0, 1, 2, 3, 4] (by decide) rfl (hm0 rfl) rfl (q_store (es' := [[iC .i64 n7, .own (bb61 + 8) 0 (((y53 :: t54) ++ ([(n69, n70)] : List (Int × Int)))).length]]) 4 rfl rfl rfl sz23 rfl rfl rfl rfl rfl) (q := 4) rfl rfl ?_
          refine tn_end ?_
          refine E_blkN ?_
          refine E_seq ?_
          refine L_ops ?_
          refine ol_put rfl rfl rfl (q_move (v := .one (iC .i64 n50)) rfl) ?_
          refine ol_put rfl rfl rfl (q_bin rfl rfl (p_add _ _ _ _ _ _ _) rfl) ?_
          refine ol_put rfl rfl rfl (q_assign (v := .one (iC .i64 (IntKind.i64.wrap (n50 + 1)))) rfl) ?_
          refine ol_end ?_
          obtain rfl := Option.some.inj h
          exact E_next (bb61 + 8) (ups_self ⟨rfl, rfl, rfl, rfl, rfl, trivial⟩) [2, 3, 4, 0] (by decide) rfl
        · replace h := ifF c60 h
          refine ol_put rfl rfl rfl (q_bin rfl rfl (p_neq_f _ _ _ _ _ c60) rfl) ?_
          refine ol_end ?_
          refine E_seq ?_
          refine L_condF rfl ?_
          refine L_skip ?_
          refine E_blkN ?_
          refine E_seq ?_
          refine L_ops ?_
          refine ol_put rfl rfl rfl (q_move (v := .one (iC .i64 n50)) rfl) ?_
          refine ol_put rfl rfl rfl (q_bin rfl rfl (p_add _ _ _ _ _ _ _) rfl) ?_
          refine ol_put rfl rfl rfl (q_assign (v := .one (iC .i64 (IntKind.i64.wrap (n50 + 1)))) rfl) ?_
          refine ol_end ?_
          obtain rfl := Option.some.inj h
          exact E_next k52 (ups_self ⟨rfl, rfl, rfl, rfl, rfl, trivial⟩) [0, 1, 2, 3] (by decide) rfl
      · replace h := ifF c55 h
        refine ol_put rfl rfl rfl (q_bin rfl rfl (p_lss_f _ _ _ _ _ c55) rfl) ?_
        refine ol_end ?_
        refine E_seq ?_
        refine L_condF rfl ?_
        refine L_exit ?_
        refine E_seqX ?_
        obtain rfl := Option.some.inj h
        exact E_out (E_exit k52 (ups_self ⟨rfl, rfl, trivial⟩) [1, 2, 3] (by decide) rfl)
  · rintro (l72 | u) h
    · refine J_x (fun k73 g => ?_)
      replace h := elimL h
      rcases l72 with _ | ⟨y74, t75⟩
      · skip
        refine E_blkH ?_
        refine E_seq ?_
        refine L_seq ?_
        refine L_ops ?_
        refine ol_put rfl rfl rfl (q_loadP (v := .agg [iC .i64 n7, .p true (Sl.t r33 (mo 2 ([] : List (Int × Int))))]) 1 rfl sz25 rfl rfl rfl rfl) ?_
        refine ol_wr rfl rfl (q_store (es' := [[iC .i64 n7, .p true (Sl.t r33 (mo 2 ([] : List (Int × Int))))]]) 0 rfl rfl rfl sz25 rfl rfl rfl rfl rfl) rfl ?_
        refine ol_end ?_
        refine E_seq ?_
        refine L_ret ?_
        obtain rfl := Option.some.inj h
        exact E_endF (.inr rfl) (res_cell (d := .agg [iC .i64 n7, .p true (Sl.t r33 (mo 2 ([] : List (Int × Int))))]) 0 rfl sz25 rfl rfl rfl rfl res_nil) (vw_cons (vd_agg (vc_cons vc_v (vc_cons vc_s vc_nil))) vw_nil) (fun h hb => own_agg) rfl rfl
      · skip
        refine E_blkH ?_
        refine E_seq ?_
        refine L_seq ?_
        refine L_ops ?_
        refine ol_put rfl rfl rfl (q_loadP (v := .agg [iC .i64 n7, .own k73 0 ((y74 :: t75)).length]) 1 rfl sz25 rfl rfl rfl rfl) ?_
        refine ol_wr rfl rfl (q_store (es' := [[iC .i64 n7, .own k73 0 ((y74 :: t75)).length]]) 0 rfl rfl rfl sz25 rfl rfl rfl rfl rfl) rfl ?_
        refine ol_end ?_
        refine E_seq ?_
        refine L_ret ?_
        obtain rfl := Option.some.inj h
        exact E_endF (.inr rfl) (res_cell (d := .agg [iC .i64 n7, .own k73 0 ((y74 :: t75)).length]) 0 rfl sz25 rfl rfl rfl rfl res_nil) (vw_cons (vd_agg (vc_cons vc_v (vc_cons (vc_own (r := r33) 2 rfl (fun x h m => rfl)) vc_nil))) vw_nil) (fun h hb => own_agg) rfl rfl
    · obtain rfl := Option.some.inj (elimR h)
      exact J_up (fun s hs => hs)

noncomputable def ref12_Assign_b2 (s3 : Sl (Int)) (n23 : Int) (s24 : Sl (Int × Int)) (a : Int × Int × (Sl (Int × Int))) : Option ((Int × Int × (Sl (Int × Int))) ⊕ ((Int × (Sl (Int × Int))) ⊕ ((Int × (Sl (Int × Int))) × Int))) :=
  match a with
  | (n121, n122, s123) => (if n121 < ((s3.l.length : Nat) : Int) then ((ref09_Get (n23, s24) n121).bind fun (n127, b128) => (if b128 = true then ((atS 1 s3 n121).bind fun n151 => ((ref09_Put (n122, s123) n151 n127).bind fun (n153, s154) => some (.inl ((IntKind.i64.wrap (n121 + 1)), n153, s154)))) else ((atS 1 s3 n121).bind fun n138 => ((ref09_Drop (n122, s123) n138).bind fun (n140, s141) => some (.inl ((IntKind.i64.wrap (n121 + 1)), n140, s141)))))) else some (.inr (.inl (n122, s123))))
noncomputable def ref12_Assign_b1 (s3 : Sl (Int)) (n19 : Int) (n46 : Int) : Option (Int ⊕ (Unit ⊕ ((Int × (Sl (Int × Int))) × Int))) :=
  (if n46 < ((s3.l.length : Nat) : Int) then ((atS 1 s3 n46).bind fun n50 => (if n50 < 0 then some (.inr (.inr ((0, (⟨false, 0, []⟩ : Sl (Int × Int))), 3))) else ((atS 1 s3 n46).bind fun n54 => (if n54 ≥ n19 then some (.inr (.inr ((0, (⟨false, 0, []⟩ : Sl (Int × Int))), 3))) else some (.inl (IntKind.i64.wrap (n46 + 1))))))) else some (.inr (.inl ())))
noncomputable def ref12_Assign (a0 : Int × (Sl (Int × Int))) (s3 : Sl (Int)) (a2 : Int × (Sl (Int × Int))) : Option ((Int × (Sl (Int × Int))) × Int) :=
  match a0, a2 with
  | (n1, s2), (n4, s5) => ((ref09_Sure (n1, s2)).bind fun (n19, s20) => ((ref09_Sure (n4, s5)).bind fun (n23, s24) => (if n23 ≠ ((s3.l.length : Nat) : Int) then some ((0, (⟨false, 0, []⟩ : Sl (Int × Int))), 4) else ((loopO (ref12_Assign_b1 s3 n19) 0).bind (Sum.elim (fun _ => ((loopO (ref12_Assign_b2 s3 n23 s24) (0, n19, s20)).bind (Sum.elim (fun ⟨n155, s156⟩ => some ((n155, s156), 0)) (fun u => some u)))) (fun u => some u))))))
theorem ref12_Assign_r (m : Nat) {a0 : Int × (Sl (Int × Int))} {s3 : Sl (Int)} {a2 : Int × (Sl (Int × Int))} {out : (Int × (Sl (Int × Int))) × Int} (h : ref12_Assign a0 s3 a2 = some out) : RunsX E1 (m + 4) 24 [.agg (r24 a0), .one (Sl.t r3 s3), .agg (r24 a2)] [.agg (r24 out.1), .one (iT .i64 out.2)] := by
  obtain ⟨n1, s2⟩ := a0
  obtain ⟨n4, s5⟩ := a2
  refine fn_X rfl (by rw [E1_fn]; exact show fiOf Try.prog 24 = _ by unfold fiOf; rw [Try.func24]; unfold Try.f24; rfl) rfl ?_
  dsimp only
  unfold ref12_Assign at h
  refine L_seq ?_
  refine L_ops ?_
  refine ol_new rfl rfl rfl (q_box ty25 rfl (cs := [iC .i64 n1, .p false (Sl.t r33 s2)]) rfl rfl) (fun k6 => ?_)
  refine ol_new rfl rfl rfl (q_box ty25 rfl (cs := [iC .i64 n4, .p false (Sl.t r33 s5)]) rfl rfl) (fun k7 => ?_)
  refine ol_new rfl rfl rfl (q_alloc ty25 (row := [iC .i64 0, .p true (Sl.t r33 (⟨false, 0, []⟩ : Sl (Int × Int)))]) rfl rfl) (fun k8 => ?_)
  refine ol_put rfl rfl rfl (q_assign (v := .one (iC .i64 0)) rfl) ?_
  refine ol_end ?_
  refine E_seq ?_
  refine L_seq ?_
  refine L_norm (L2 := ([(k8, 2, [[iC .i64 0, .p true (Sl.t r33 (⟨false, 0, []⟩ : Sl (Int × Int)))]]), (k7, 2, [[iC .i64 n4, .p false (Sl.t r33 s5)]]), (k6, 2, [[iC .i64 n1, .p false (Sl.t r33 s2)]])] : BL)) [0, 1, 2] (by decide) rfl ?_
  refine L_turn 6 rfl [[], [], [], [], [k6], [k7]] [false, false, false, false, false, false] [[2], [2], [0, 1], [], [], []] (by kernel_rfl) (by kernel_rfl) ?_ (fun bb9 hlt hnd => ?_)
  · intro bb9 hlt hnd
    have e0_bb9 : k8 < bb9 := key_lt hlt 0 rfl
    have e1_bb9 : k7 < bb9 := key_lt hlt 1 rfl
    have e2_bb9 : k6 < bb9 := key_lt hlt 2 rfl
    have d1_0_bb9 : k7 ≠ k8 := key_ne hnd 1 0 rfl rfl rfl
    have d1_2_bb9 : k7 ≠ k6 := key_ne hnd 1 2 rfl rfl rfl
    have d2_0_bb9 : k6 ≠ k8 := key_ne hnd 2 0 rfl rfl rfl
    have d2_1_bb9 : k6 ≠ k7 := key_ne hnd 2 1 rfl rfl rfl
    exact ⟨by simp <;> omega, by simp <;> omega⟩
  have e0_bb9 : k8 < bb9 := key_lt hlt 0 rfl
  have e1_bb9 : k7 < bb9 := key_lt hlt 1 rfl
  have e2_bb9 : k6 < bb9 := key_lt hlt 2 rfl
  have d1_0_bb9 : k7 ≠ k8 := key_ne hnd 1 0 rfl rfl rfl
  have d1_2_bb9 : k7 ≠ k6 := key_ne hnd 1 2 rfl rfl rfl
  have d2_0_bb9 : k6 ≠ k8 := key_ne hnd 2 0 rfl rfl rfl
  have d2_1_bb9 : k6 ≠ k7 := key_ne hnd 2 1 rfl rfl rfl
  clear hlt hnd
  refine tn_put rfl rfl rfl [0, 1, 2] (by decide) rfl (hm0 rfl) rfl (q_loadP (v := .agg [iC .i64 n1, .p false (Sl.t r33 s2)]) 2 rfl sz25 rfl rfl rfl rfl) ?_
  obtain ⟨⟨n19, s20⟩, h18, h⟩ := bindS h
  refine tn_putX rfl rfl rfl [0, 1, 2] (by decide) rfl (hm0 rfl) rfl (q_callX (v := fun fr21 => .agg [iC .i64 n19, .p fr21 (Sl.t r33 s20)]) (args := [.agg [iC .i64 n1, .p false (Sl.t r33 s2)]]) (ref09_Sure_r (m + 1) h18) rfl rfl (vw_cons (vd_agg (vc_cons vc_v (vc_cons vc_s vc_nil))) vw_nil) rfl rfl (fun fr => rfl)) (fun fr21 => ?_)
  refine tn_put rfl rfl rfl [0, 1, 2] (by decide) rfl (hm0 rfl) rfl (q_loadP (v := .agg [iC .i64 n4, .p false (Sl.t r33 s5)]) 1 rfl sz25 rfl rfl rfl rfl) ?_
  obtain ⟨⟨n23, s24⟩, h22, h⟩ := bindS h
  refine tn_putX rfl rfl rfl [0, 1, 2] (by decide) rfl (hm0 rfl) rfl (q_callX (v := fun fr25 => .agg [iC .i64 n23, .p fr25 (Sl.t r33 s24)]) (args := [.agg [iC .i64 n4, .p false (Sl.t r33 s5)]]) (ref09_Sure_r (m + 1) h22) rfl rfl (vw_cons (vd_agg (vc_cons vc_v (vc_cons vc_s vc_nil))) vw_nil) rfl rfl (fun fr => rfl)) (fun fr25 => ?_)
  refine tn_wr rfl rfl [0, 1, 2] (by decide) rfl (hm0 rfl) rfl (q_store (es' := [[iC .i64 n19, .p fr21 (Sl.t r33 s20)]]) 2 rfl rfl rfl sz25 rfl rfl rfl rfl rfl) (q := 2) rfl rfl ?_
  refine tn_wr rfl rfl [0, 1, 2] (by decide) rfl (hm0 rfl) rfl (q_store (es' := [[iC .i64 n23, .p fr25 (Sl.t r33 s24)]]) 1 rfl rfl rfl sz25 rfl rfl rfl rfl rfl) (q := 1) rfl rfl ?_
  refine tn_end ?_
  refine E_seq ?_
  refine L_seq ?_
  refine L_seq ?_
  refine L_ops ?_
  refine ol_put rfl rfl rfl (q_fieldP rfl fa25_0 rfl) ?_
  refine ol_put rfl rfl rfl (q_loadP (v := .one (iC .i64 n23)) 1 rfl sz3 rfl rfl rfl rfl) ?_
  refine ol_put rfl rfl rfl (q_move (v := .one (.p false (Sl.t r3 s3))) rfl) ?_
  refine ol_put rfl rfl rfl (q_lenS rfl ty42 rfl rfl rfl rfl) ?_
  by_cases c26 : n23 ≠ ((s3.l.length : Nat) : Int)
  · replace h := ifT c26 h
    refine ol_put rfl rfl rfl (q_bin rfl rfl (p_neq_t _ _ _ _ _ c26) rfl) ?_
    refine ol_end ?_
    refine E_seq ?_
    refine L_condT rfl ?_
    refine L_seq ?_
    refine L_ops ?_
    refine ol_put rfl rfl rfl (q_build (cs := [iC .i64 0, .p true (Sl.t r33 (⟨false, 0, []⟩ : Sl (Int × Int)))]) ty25 rfl pl25 rfl) ?_
    refine ol_wr rfl rfl (q_store (es' := [[iC .i64 0, .p true (Sl.t r33 (⟨false, 0, []⟩ : Sl (Int × Int)))]]) 0 rfl rfl rfl sz25 rfl rfl rfl rfl rfl) rfl ?_
    refine ol_put rfl rfl rfl (q_assign (v := .one (iC .i64 4)) rfl) ?_
    refine ol_end ?_
    refine E_seq ?_
    refine L_ret ?_
    refine E_seqR ?_
    obtain rfl := Option.some.inj h
    exact E_endX (.inr rfl) (res_cell (d := .agg [iC .i64 0, .p true (Sl.t r33 (⟨false, 0, []⟩ : Sl (Int × Int)))]) 0 rfl sz25 rfl rfl rfl rfl (res_tmp rfl res_nil)) (vw_cons (vd_agg (vc_cons vc_v (vc_cons vc_s vc_nil))) (vw_cons (vd_one vc_v) vw_nil)) (fun h hb => own_no2) rfl
  · replace h := ifF c26 h
    refine ol_put rfl rfl rfl (q_bin rfl rfl (p_neq_f _ _ _ _ _ c26) rfl) ?_
    refine ol_end ?_
    refine E_seq ?_
    refine L_condF rfl ?_
    refine L_skip ?_
    refine E_seq ?_
    refine L_seq ?_
    refine L_seq ?_
    refine L_ops ?_
    refine ol_put rfl rfl rfl (q_assign (v := .one (iC .i64 0)) rfl) ?_
    refine ol_end ?_
    refine E_seq ?_
    refine L_block ?_
    let S1 : Int → Unit → (Nat → D) → Nat → D := fun a kt g => ups g [(1, .one (.p false (Sl.t r3 s3))), (3, .one (.ptr k6 0 0)), (5, .one (.ptr k7 0 0)), (6, .one (.ptr k8 0 0)), (8, .one (iC .i64 a))]
    let SL1 : Int → Unit → BL := fun a kt => ([(k6, 2, [[iC .i64 n19, .p fr21 (Sl.t r33 s20)]]), (k7, 2, [[iC .i64 n23, .p fr25 (Sl.t r33 s24)]]), (k8, 2, [[iC .i64 0, .p true (Sl.t r33 (⟨false, 0, []⟩ : Sl (Int × Int)))]])] : BL)
    let Sx1 : Unit → Unit → (Nat → D) → Nat → D := fun a kt g => ups g [(1, .one (.p false (Sl.t r3 s3))), (3, .one (.ptr k6 0 0)), (5, .one (.ptr k7 0 0)), (6, .one (.ptr k8 0 0))]
    let SLx1 : Unit → Unit → BL := fun a kt => ([(k6, 2, [[iC .i64 n19, .p fr21 (Sl.t r33 s20)]]), (k7, 2, [[iC .i64 n23, .p fr25 (Sl.t r33 s24)]]), (k8, 2, [[iC .i64 0, .p true (Sl.t r33 (⟨false, 0, []⟩ : Sl (Int × Int)))]])] : BL)
    let G1 : ((Int × (Sl (Int × Int))) × Int) → Ex → St → Prop := fun u => endX E1 [.cell 6 25, .tmp 7] [.agg (r24 u.1), .one (iT .i64 u.2)]
    let J1 : (Unit ⊕ ((Int × (Sl (Int × Int))) × Int)) → Ex → St → Prop := JX 72 0 Sx1 SLx1 G1
    refine L_loopS (ref12_Assign_b1 s3 n19) S1 SL1 J1 JX_n 0 h () (ups_self ⟨rfl, rfl, rfl, rfl, rfl, trivial⟩) [2, 1, 0] (by decide) rfl ?_ ?_
    · rintro n46 _ g out h
      change ref12_Assign_b1 s3 n19 n46 = some out at h
      unfold ref12_Assign_b1 at h
      refine L_seq ?_
      refine L_seq ?_
      refine L_ops ?_
      refine ol_put rfl rfl rfl (q_move (v := .one (iC .i64 n46)) rfl) ?_
      refine ol_put rfl rfl rfl (q_move (v := .one (.p false (Sl.t r3 s3))) rfl) ?_
      refine ol_put rfl rfl rfl (q_lenS rfl ty42 rfl rfl rfl rfl) ?_
      by_cases c47 : n46 < ((s3.l.length : Nat) : Int)
      · replace h := ifT c47 h
        refine ol_put rfl rfl rfl (q_bin rfl rfl (p_lss_t _ _ _ _ _ c47) rfl) ?_
        refine ol_end ?_
        refine E_seq ?_
        refine L_condT rfl ?_
        refine L_skip ?_
        refine E_seq ?_
        refine L_seq ?_
        refine L_block ?_
        refine L_seq ?_
        refine L_still (by kernel_rfl) ?_
        refine st_put rfl rfl rfl (q_move (v := .one (.p false (Sl.t r3 s3))) rfl) ?_
        refine st_put rfl rfl rfl (q_move (v := .one (iC .i64 n46)) rfl) ?_
        obtain ⟨n50, h49, h⟩ := bindS h
        obtain ⟨h49a, h49b, h49⟩ := atS_some h49
        refine st_put rfl rfl rfl (q_ixS rfl rfl h49a h49 (el42.trans (congrArg some h49b.symm))) ?_
        refine st_put rfl rfl rfl (q_loadI (v := .one (iC .i64 n50)) rfl sz3 (map_get h49) rfl rfl) ?_
        by_cases c51 : n50 < 0
        · replace h := ifT c51 h
          refine st_put rfl rfl rfl (q_bin rfl rfl (p_lss_t _ _ _ _ _ c51) rfl) ?_
          refine st_put rfl rfl rfl (q_move (v := .one (bC true)) rfl) ?_
          refine st_skip rfl rfl rfl ?_
          refine st_skip rfl rfl rfl ?_
          refine st_skip rfl rfl rfl ?_
          refine st_skip rfl rfl rfl ?_
          refine st_skip rfl rfl rfl ?_
          refine st_skip rfl rfl rfl ?_
          refine st_skip rfl rfl rfl ?_
          refine st_put rfl rfl rfl (q_pickT (v := .one (bC true)) rfl rfl) ?_
          refine st_end ?_
          refine E_seq ?_
          refine L_condT rfl ?_
          refine L_seq ?_
          refine L_ops ?_
          refine ol_put rfl rfl rfl (q_build (cs := [iC .i64 0, .p true (Sl.t r33 (⟨false, 0, []⟩ : Sl (Int × Int)))]) ty25 rfl pl25 rfl) ?_
          refine ol_wr rfl rfl (q_store (es' := [[iC .i64 0, .p true (Sl.t r33 (⟨false, 0, []⟩ : Sl (Int × Int)))]]) 2 rfl rfl rfl sz25 rfl rfl rfl rfl rfl) rfl ?_
          refine ol_put rfl rfl rfl (q_assign (v := .one (iC .i64 3)) rfl) ?_
          refine ol_end ?_
          refine E_seq ?_
          refine L_ret ?_
          refine E_blkR ?_
          refine E_seqR ?_
          obtain rfl := Option.some.inj h
          exact E_out (E_up (E_endX (.inr rfl) (res_cell (d := .agg [iC .i64 0, .p true (Sl.t r33 (⟨false, 0, []⟩ : Sl (Int × Int)))]) 2 rfl sz25 rfl rfl rfl rfl (res_tmp rfl res_nil)) (vw_cons (vd_agg (vc_cons vc_v (vc_cons vc_s vc_nil))) (vw_cons (vd_one vc_v) vw_nil)) (fun h hb => own_no2) rfl))
        · replace h := ifF c51 h
          refine st_put rfl rfl rfl (q_bin rfl rfl (p_lss_f _ _ _ _ _ c51) rfl) ?_
          refine st_put rfl rfl rfl (q_move (v := .one (bC false)) rfl) ?_
          refine st_put rfl rfl rfl (q_move (v := .one (.p false (Sl.t r3 s3))) rfl) ?_
          refine st_put rfl rfl rfl (q_move (v := .one (iC .i64 n46)) rfl) ?_
          obtain ⟨n54, h53, h⟩ := bindS h
          obtain ⟨h53a, h53b, h53⟩ := atS_some h53
          refine st_put rfl rfl rfl (q_ixS rfl rfl h53a h53 (el42.trans (congrArg some h53b.symm))) ?_
          refine st_put rfl rfl rfl (q_loadI (v := .one (iC .i64 n54)) rfl sz3 (map_get h53) rfl rfl) ?_
          refine st_put rfl rfl rfl (q_fieldP rfl fa25_0 rfl) ?_
          refine st_put rfl rfl rfl (q_loadP (v := .one (iC .i64 n19)) 0 rfl sz3 rfl rfl rfl rfl) ?_
          by_cases c55 : n54 ≥ n19
          · replace h := ifT c55 h
            refine st_put rfl rfl rfl (q_bin rfl rfl (p_geq_t _ _ _ _ _ c55) rfl) ?_
            refine st_put rfl rfl rfl (q_pickF (v := .one (bC true)) rfl rfl) ?_
            refine st_end ?_
            refine E_seq ?_
            refine L_condT rfl ?_
            refine L_seq ?_
            refine L_ops ?_
            refine ol_put rfl rfl rfl (q_build (cs := [iC .i64 0, .p true (Sl.t r33 (⟨false, 0, []⟩ : Sl (Int × Int)))]) ty25 rfl pl25 rfl) ?_
            refine ol_wr rfl rfl (q_store (es' := [[iC .i64 0, .p true (Sl.t r33 (⟨false, 0, []⟩ : Sl (Int × Int)))]]) 2 rfl rfl rfl sz25 rfl rfl rfl rfl rfl) rfl ?_
            refine ol_put rfl rfl rfl (q_assign (v := .one (iC .i64 3)) rfl) ?_
            refine ol_end ?_
            refine E_seq ?_
            refine L_ret ?_
            refine E_blkR ?_
            refine E_seqR ?_
            obtain rfl := Option.some.inj h
            exact E_out (E_up (E_endX (.inr rfl) (res_cell (d := .agg [iC .i64 0, .p true (Sl.t r33 (⟨false, 0, []⟩ : Sl (Int × Int)))]) 2 rfl sz25 rfl rfl rfl rfl (res_tmp rfl res_nil)) (vw_cons (vd_agg (vc_cons vc_v (vc_cons vc_s vc_nil))) (vw_cons (vd_one vc_v) vw_nil)) (fun h hb => own_no2) rfl))
          · replace h := ifF c55 h
            refine st_put rfl rfl rfl (q_bin rfl rfl (p_geq_f _ _ _ _ _ c55) rfl) ?_
            refine st_put rfl rfl rfl (q_pickF (v := .one (bC false)) rfl rfl) ?_
            refine st_end ?_
            refine E_seq ?_
            refine L_condF rfl ?_
            refine L_skip ?_
            refine E_blkN ?_
            refine E_seq ?_
            refine L_ops ?_
            refine ol_put rfl rfl rfl (q_move (v := .one (iC .i64 n46)) rfl) ?_
            refine ol_put rfl rfl rfl (q_bin rfl rfl (p_add _ _ _ _ _ _ _) rfl) ?_
            refine ol_put rfl rfl rfl (q_assign (v := .one (iC .i64 (IntKind.i64.wrap (n46 + 1)))) rfl) ?_
            refine ol_end ?_
            obtain rfl := Option.some.inj h
            exact E_next () (ups_self ⟨rfl, rfl, rfl, rfl, rfl, trivial⟩) [0, 1, 2] (by decide) rfl
      · replace h := ifF c47 h
        refine ol_put rfl rfl rfl (q_bin rfl rfl (p_lss_f _ _ _ _ _ c47) rfl) ?_
        refine ol_end ?_
        refine E_seq ?_
        refine L_condF rfl ?_
        refine L_exit ?_
        refine E_seqX ?_
        obtain rfl := Option.some.inj h
        exact E_out (E_exit () (ups_self ⟨rfl, rfl, rfl, rfl, trivial⟩) [0, 1, 2] (by decide) rfl)
    · rintro (_ | u) h
      · refine J_x (fun kt g => ?_)
        replace h := elimL h
        refine E_blkH ?_
        refine E_seq ?_
        refine L_seq ?_
        refine L_ops ?_
        refine ol_put rfl rfl rfl (q_loadP (v := .agg [iC .i64 n19, .p fr21 (Sl.t r33 s20)]) 0 rfl sz25 rfl rfl rfl rfl) ?_
        refine ol_new rfl rfl rfl (q_alloc ty25 (row := [iC .i64 0, .p true (Sl.t r33 (⟨false, 0, []⟩ : Sl (Int × Int)))]) rfl rfl) (fun k56 => ?_)
        refine ol_wr rfl rfl (q_store (es' := [[iC .i64 n19, .p fr21 (Sl.t r33 s20)]]) 0 rfl rfl rfl sz25 rfl rfl rfl rfl rfl) rfl ?_
        refine ol_end ?_
        refine E_seq ?_
        refine L_seq ?_
        refine L_seq ?_
        refine L_ops ?_
        refine ol_put rfl rfl rfl (q_assign (v := .one (iC .i64 0)) rfl) ?_
        refine ol_end ?_
        refine E_seq ?_
        refine L_block ?_
        let S2 : (Int × Int × (Sl (Int × Int))) → Bool → (Nat → D) → Nat → D := fun a kt g => ups g [(1, .one (.p false (Sl.t r3 s3))), (5, .one (.ptr k7 0 0)), (6, .one (.ptr k8 0 0)), (9, .one (.ptr k56 0 0)), (10, .one (iC .i64 a.1))]
        let SL2 : (Int × Int × (Sl (Int × Int))) → Bool → BL := fun a kt => ([(k7, 2, [[iC .i64 n23, .p fr25 (Sl.t r33 s24)]]), (k8, 2, [[iC .i64 0, .p true (Sl.t r33 (⟨false, 0, []⟩ : Sl (Int × Int)))]]), (k56, 2, [[iC .i64 a.2.1, .p kt (Sl.t r33 a.2.2)]])] : BL)
        let Sx2 : (Int × (Sl (Int × Int))) → Bool → (Nat → D) → Nat → D := fun a kt g => ups g [(6, .one (.ptr k8 0 0)), (9, .one (.ptr k56 0 0))]
        let SLx2 : (Int × (Sl (Int × Int))) → Bool → BL := fun a kt => ([(k8, 2, [[iC .i64 0, .p true (Sl.t r33 (⟨false, 0, []⟩ : Sl (Int × Int)))]]), (k56, 2, [[iC .i64 a.1, .p kt (Sl.t r33 a.2)]])] : BL)
        let G2 : ((Int × (Sl (Int × Int))) × Int) → Ex → St → Prop := fun u => endX E1 [.cell 6 25, .tmp 7] [.agg (r24 u.1), .one (iT .i64 u.2)]
        let J2 : ((Int × (Sl (Int × Int))) ⊕ ((Int × (Sl (Int × Int))) × Int)) → Ex → St → Prop := JX 72 2 Sx2 SLx2 G2
        refine L_loopS (ref12_Assign_b2 s3 n23 s24) S2 SL2 J2 JX_n (0, n19, s20) h fr21 (ups_self ⟨rfl, rfl, rfl, rfl, rfl, trivial⟩) [2, 3, 0] (by decide) rfl ?_ ?_
        · rintro ⟨n121, n122, s123⟩ fr124 g out h
          change ref12_Assign_b2 s3 n23 s24 (n121, n122, s123) = some out at h
          unfold ref12_Assign_b2 at h
          refine L_seq ?_
          refine L_seq ?_
          refine L_ops ?_
          refine ol_put rfl rfl rfl (q_move (v := .one (iC .i64 n121)) rfl) ?_
          refine ol_put rfl rfl rfl (q_move (v := .one (.p false (Sl.t r3 s3))) rfl) ?_
          refine ol_put rfl rfl rfl (q_lenS rfl ty42 rfl rfl rfl rfl) ?_
          by_cases c125 : n121 < ((s3.l.length : Nat) : Int)
          · replace h := ifT c125 h
            refine ol_put rfl rfl rfl (q_bin rfl rfl (p_lss_t _ _ _ _ _ c125) rfl) ?_
            refine ol_end ?_
            refine E_seq ?_
            refine L_condT rfl ?_
            refine L_skip ?_
            refine E_seq ?_
            refine L_seq ?_
            refine L_block ?_
            refine L_seq ?_
            refine L_ops ?_
            refine ol_put rfl rfl rfl (q_loadP (v := .agg [iC .i64 n23, .p fr25 (Sl.t r33 s24)]) 0 rfl sz25 rfl rfl rfl rfl) ?_
            refine ol_put rfl rfl rfl (q_move (v := .one (iC .i64 n121)) rfl) ?_
            obtain ⟨⟨n127, b128⟩, h126, h⟩ := bindS h
            refine ol_put rfl rfl rfl (q_callF (v := .tup [.one (iC .i64 n127), .one (bC b128)]) (args := [.agg [iC .i64 n23, .p fr25 (Sl.t r33 s24)], .one (iC .i64 n121)]) (ref09_Get_r (m + 0) h126) rfl rfl (vw_cons (vd_agg (vc_cons vc_v (vc_cons vc_s vc_nil))) (vw_cons (vd_one vc_v) vw_nil)) rfl rfl) ?_
            refine ol_put rfl rfl rfl (q_move (v := .tup [.one (iC .i64 n127), .one (bC b128)]) rfl) ?_
            refine ol_put rfl rfl rfl (q_ext (v := .one (iC .i64 n127)) rfl rfl) ?_
            refine ol_put rfl rfl rfl (q_ext (v := .one (bC b128)) rfl rfl) ?_
            refine ol_put rfl rfl rfl (q_assign (v := .one (iC .i64 n127)) rfl) ?_
            refine ol_put rfl rfl rfl (q_assign (v := .one (bC b128)) rfl) ?_
            refine ol_end ?_
            refine E_seq ?_
            refine L_seq ?_
            refine L_ops ?_
            refine ol_put rfl rfl rfl (q_move (v := .one (bC b128)) rfl) ?_
            refine ol_end ?_
            refine E_seq ?_
            rcases b128 with _ | _
            · replace h := ifF (by decide) h
              refine L_condF rfl ?_
              refine L_norm (L2 := ([(k7, 2, [[iC .i64 n23, .p fr25 (Sl.t r33 s24)]]), (k8, 2, [[iC .i64 0, .p true (Sl.t r33 (⟨false, 0, []⟩ : Sl (Int × Int)))]]), (k56, 2, [[iC .i64 n122, .p fr124 (Sl.t r33 s123)]])] : BL)) [0, 1, 2] (by decide) rfl ?_
              refine L_turn 7 rfl [[], [], [], [], [], [], [k56]] [false, false, false, false, false, false, false] [[1, 2, 3, 4], [0, 2], [0, 1], [0], [0], [], []] (by kernel_rfl) (by kernel_rfl) ?_ (fun bb129 hlt hnd => ?_)
              · intro bb129 hlt hnd
                have e0_bb129 : k7 < bb129 := key_lt hlt 0 rfl
                have e1_bb129 : k8 < bb129 := key_lt hlt 1 rfl
                have e2_bb129 : k56 < bb129 := key_lt hlt 2 rfl
                have d2_0_bb129 : k56 ≠ k7 := key_ne hnd 2 0 rfl rfl rfl
                have d2_1_bb129 : k56 ≠ k8 := key_ne hnd 2 1 rfl rfl rfl
                exact ⟨by simp <;> omega, by simp <;> omega⟩
              have e0_bb129 : k7 < bb129 := key_lt hlt 0 rfl
              have e1_bb129 : k8 < bb129 := key_lt hlt 1 rfl
              have e2_bb129 : k56 < bb129 := key_lt hlt 2 rfl
              have d2_0_bb129 : k56 ≠ k7 := key_ne hnd 2 0 rfl rfl rfl
              have d2_1_bb129 : k56 ≠ k8 := key_ne hnd 2 1 rfl rfl rfl
              clear hlt hnd
              refine tn_put rfl rfl rfl [0, 1, 2] (by decide) rfl (hm0 rfl) rfl (q_loadP (v := .agg [iC .i64 n122, .p fr124 (Sl.t r33 s123)]) 2 rfl sz25 rfl rfl rfl rfl) ?_
              refine tn_put rfl rfl rfl [0, 1, 2] (by decide) rfl (hm0 rfl) rfl (q_move (v := .one (.p false (Sl.t r3 s3))) rfl) ?_
              refine tn_put rfl rfl rfl [0, 1, 2] (by decide) rfl (hm0 rfl) rfl (q_move (v := .one (iC .i64 n121)) rfl) ?_
              obtain ⟨n138, h137, h⟩ := bindS h
              obtain ⟨h137a, h137b, h137⟩ := atS_some h137
              refine tn_put rfl rfl rfl [0, 1, 2] (by decide) rfl (hm0 rfl) rfl (q_ixS rfl rfl h137a h137 (el42.trans (congrArg some h137b.symm))) ?_
              refine tn_put rfl rfl rfl [0, 1, 2] (by decide) rfl (hm0 rfl) rfl (q_loadI (v := .one (iC .i64 n138)) rfl sz3 (map_get h137) rfl rfl) ?_
              obtain ⟨⟨n140, s141⟩, h139, h⟩ := bindS h
              refine tn_put rfl rfl rfl [0, 1, 2] (by decide) rfl (hm0 rfl) rfl (q_callF (v := .agg [iC .i64 n140, .p true (Sl.t r33 s141)]) (args := [.agg [iC .i64 n122, .p fr124 (Sl.t r33 s123)], .one (iC .i64 n138)]) (ref09_Drop_r (m + 0) h139) rfl rfl (vw_cons (vd_agg (vc_cons vc_v (vc_cons vc_s vc_nil))) (vw_cons (vd_one vc_v) vw_nil)) rfl rfl) ?_
              refine tn_wr rfl rfl [0, 1, 2] (by decide) rfl (hm0 rfl) rfl (q_store (es' := [[iC .i64 n140, .p true (Sl.t r33 s141)]]) 2 rfl rfl rfl sz25 rfl rfl rfl rfl rfl) (q := 2) rfl rfl ?_
              refine tn_end ?_
              refine E_blkN ?_
              refine E_seq ?_
              refine L_ops ?_
              refine ol_put rfl rfl rfl (q_move (v := .one (iC .i64 n121)) rfl) ?_
              refine ol_put rfl rfl rfl (q_bin rfl rfl (p_add _ _ _ _ _ _ _) rfl) ?_
              refine ol_put rfl rfl rfl (q_assign (v := .one (iC .i64 (IntKind.i64.wrap (n121 + 1)))) rfl) ?_
              refine ol_end ?_
              obtain rfl := Option.some.inj h
              exact E_next true (ups_self ⟨rfl, rfl, rfl, rfl, rfl, trivial⟩) [0, 1, 2] (by decide) rfl
            · replace h := ifT (by decide) h
              refine L_condT rfl ?_
              refine L_norm (L2 := ([(k7, 2, [[iC .i64 n23, .p fr25 (Sl.t r33 s24)]]), (k8, 2, [[iC .i64 0, .p true (Sl.t r33 (⟨false, 0, []⟩ : Sl (Int × Int)))]]), (k56, 2, [[iC .i64 n122, .p fr124 (Sl.t r33 s123)]])] : BL)) [0, 1, 2] (by decide) rfl ?_
              refine L_turn 8 rfl [[], [], [], [], [], [], [], [k56]] [false, false, false, false, false, false, false, false] [[1, 2, 3, 4, 5], [0, 2, 5], [0, 1, 5], [0, 5], [0, 5], [0, 1, 2, 3, 4], [], []] (by kernel_rfl) (by kernel_rfl) ?_ (fun bb142 hlt hnd => ?_)
              · intro bb142 hlt hnd
                have e0_bb142 : k7 < bb142 := key_lt hlt 0 rfl
                have e1_bb142 : k8 < bb142 := key_lt hlt 1 rfl
                have e2_bb142 : k56 < bb142 := key_lt hlt 2 rfl
                have d2_0_bb142 : k56 ≠ k7 := key_ne hnd 2 0 rfl rfl rfl
                have d2_1_bb142 : k56 ≠ k8 := key_ne hnd 2 1 rfl rfl rfl
                exact ⟨by simp <;> omega, by simp <;> omega⟩
              have e0_bb142 : k7 < bb142 := key_lt hlt 0 rfl
              have e1_bb142 : k8 < bb142 := key_lt hlt 1 rfl
              have e2_bb142 : k56 < bb142 := key_lt hlt 2 rfl
              have d2_0_bb142 : k56 ≠ k7 := key_ne hnd 2 0 rfl rfl rfl
              have d2_1_bb142 : k56 ≠ k8 := key_ne hnd 2 1 rfl rfl rfl
              clear hlt hnd
              refine tn_put rfl rfl rfl [0, 1, 2] (by decide) rfl (hm0 rfl) rfl (q_loadP (v := .agg [iC .i64 n122, .p fr124 (Sl.t r33 s123)]) 2 rfl sz25 rfl rfl rfl rfl) ?_
              refine tn_put rfl rfl rfl [0, 1, 2] (by decide) rfl (hm0 rfl) rfl (q_move (v := .one (.p false (Sl.t r3 s3))) rfl) ?_
              refine tn_put rfl rfl rfl [0, 1, 2] (by decide) rfl (hm0 rfl) rfl (q_move (v := .one (iC .i64 n121)) rfl) ?_
              obtain ⟨n151, h150, h⟩ := bindS h
              obtain ⟨h150a, h150b, h150⟩ := atS_some h150
              refine tn_put rfl rfl rfl [0, 1, 2] (by decide) rfl (hm0 rfl) rfl (q_ixS rfl rfl h150a h150 (el42.trans (congrArg some h150b.symm))) ?_
              refine tn_put rfl rfl rfl [0, 1, 2] (by decide) rfl (hm0 rfl) rfl (q_loadI (v := .one (iC .i64 n151)) rfl sz3 (map_get h150) rfl rfl) ?_
              refine tn_put rfl rfl rfl [0, 1, 2] (by decide) rfl (hm0 rfl) rfl (q_move (v := .one (iC .i64 n127)) rfl) ?_
              obtain ⟨⟨n153, s154⟩, h152, h⟩ := bindS h
              refine tn_put rfl rfl rfl [0, 1, 2] (by decide) rfl (hm0 rfl) rfl (q_callF (v := .agg [iC .i64 n153, .p true (Sl.t r33 s154)]) (args := [.agg [iC .i64 n122, .p fr124 (Sl.t r33 s123)], .one (iC .i64 n151), .one (iC .i64 n127)]) (ref09_Put_r (m + 0) h152) rfl rfl (vw_cons (vd_agg (vc_cons vc_v (vc_cons vc_s vc_nil))) (vw_cons (vd_one vc_v) (vw_cons (vd_one vc_v) vw_nil))) rfl rfl) ?_
              refine tn_wr rfl rfl [0, 1, 2] (by decide) rfl (hm0 rfl) rfl (q_store (es' := [[iC .i64 n153, .p true (Sl.t r33 s154)]]) 2 rfl rfl rfl sz25 rfl rfl rfl rfl rfl) (q := 2) rfl rfl ?_
              refine tn_end ?_
              refine E_blkN ?_
              refine E_seq ?_
              refine L_ops ?_
              refine ol_put rfl rfl rfl (q_move (v := .one (iC .i64 n121)) rfl) ?_
              refine ol_put rfl rfl rfl (q_bin rfl rfl (p_add _ _ _ _ _ _ _) rfl) ?_
              refine ol_put rfl rfl rfl (q_assign (v := .one (iC .i64 (IntKind.i64.wrap (n121 + 1)))) rfl) ?_
              refine ol_end ?_
              obtain rfl := Option.some.inj h
              exact E_next true (ups_self ⟨rfl, rfl, rfl, rfl, rfl, trivial⟩) [0, 1, 2] (by decide) rfl
          · replace h := ifF c125 h
            refine ol_put rfl rfl rfl (q_bin rfl rfl (p_lss_f _ _ _ _ _ c125) rfl) ?_
            refine ol_end ?_
            refine E_seq ?_
            refine L_condF rfl ?_
            refine L_exit ?_
            refine E_seqX ?_
            obtain rfl := Option.some.inj h
            exact E_out (E_exit fr124 (ups_self ⟨rfl, rfl, trivial⟩) [1, 2] (by decide) rfl)
        · rintro (⟨n155, s156⟩ | u) h
          · refine J_x (fun fr157 g => ?_)
            replace h := elimL h
            refine E_blkH ?_
            refine E_seq ?_
            refine L_seq ?_
            refine L_ops ?_
            refine ol_put rfl rfl rfl (q_loadP (v := .agg [iC .i64 n155, .p fr157 (Sl.t r33 s156)]) 1 rfl sz25 rfl rfl rfl rfl) ?_
            refine ol_wr rfl rfl (q_store (es' := [[iC .i64 n155, .p fr157 (Sl.t r33 s156)]]) 0 rfl rfl rfl sz25 rfl rfl rfl rfl rfl) rfl ?_
            refine ol_put rfl rfl rfl (q_assign (v := .one (iC .i64 0)) rfl) ?_
            refine ol_end ?_
            refine E_seq ?_
            refine L_ret ?_
            obtain rfl := Option.some.inj h
            exact E_endX (.inr rfl) (res_cell (d := .agg [iC .i64 n155, .p fr157 (Sl.t r33 s156)]) 0 rfl sz25 rfl rfl rfl rfl (res_tmp rfl res_nil)) (vw_cons (vd_agg (vc_cons vc_v (vc_cons vc_s vc_nil))) (vw_cons (vd_one vc_v) vw_nil)) (fun h hb => own_no2) rfl
          · obtain rfl := Option.some.inj (elimR h)
            exact J_up (fun s hs => hs)
      · obtain rfl := Option.some.inj (elimR h)
        exact J_up (fun s hs => hs)

noncomputable def law12_FoldPicks (a0 : Int × (Sl (Int × Int))) (a1 : Int × (Sl (Int × Int))) (s5 : Sl (Int)) : Option (Bool) :=
  match a0, a1 with
  | (n1, s2), (n3, s4) => ((law09_Few (n1, s2)).bind fun (n18, s19) => ((law09_Few (n3, s4)).bind fun (n22, s23) => (if ((s5.l.length : Nat) : Int) > 30 then (if ((s5.l.length : Nat) : Int) ≤ 4096 then ((cutS 1 s5 0 30).bind fun s27 => ((fold_Select (n18, s19) s27).bind fun ((n30, s31), n32) => ((ref12_Select (n18, s19) s27).bind fun ((n35, s36), n37) => ((fold_Assign (n18, s19) s27 (n22, s23)).bind fun ((n40, s41), n42) => ((ref12_Assign (n18, s19) s27 (n22, s23)).bind fun ((n45, s46), n47) => ((FL).bind fun b51 => (if b51 = true then ((ref09_Same (n30, s31) (n35, s36)).bind fun b53 => (if b53 = true then (if n32 = n37 then ((ref09_Same (n40, s41) (n45, s46)).bind fun b56 => (if b56 = true then (if n42 = n47 then some true else some false) else some false)) else some false) else some false)) else some false))))))) else ((fold_Select (n18, s19) s5).bind fun ((n59, s60), n61) => ((ref12_Select (n18, s19) s5).bind fun ((n64, s65), n66) => ((fold_Assign (n18, s19) s5 (n22, s23)).bind fun ((n69, s70), n71) => ((ref12_Assign (n18, s19) s5 (n22, s23)).bind fun ((n74, s75), n76) => ((FL).bind fun b80 => (if b80 = true then ((ref09_Same (n59, s60) (n64, s65)).bind fun b82 => (if b82 = true then (if n61 = n66 then ((ref09_Same (n69, s70) (n74, s75)).bind fun b85 => (if b85 = true then (if n71 = n76 then some true else some false) else some false)) else some false) else some false)) else some false))))))) else ((fold_Select (n18, s19) s5).bind fun ((n88, s89), n90) => ((ref12_Select (n18, s19) s5).bind fun ((n93, s94), n95) => ((fold_Assign (n18, s19) s5 (n22, s23)).bind fun ((n98, s99), n100) => ((ref12_Assign (n18, s19) s5 (n22, s23)).bind fun ((n103, s104), n105) => ((FL).bind fun b109 => (if b109 = true then ((ref09_Same (n88, s89) (n93, s94)).bind fun b111 => (if b111 = true then (if n90 = n95 then ((ref09_Same (n98, s99) (n103, s104)).bind fun b114 => (if b114 = true then (if n100 = n105 then some true else some false) else some false)) else some false) else some false)) else some false)))))))))
theorem law12_FoldPicks_r (m : Nat) {a0 : Int × (Sl (Int × Int))} {a1 : Int × (Sl (Int × Int))} {s5 : Sl (Int)} {out : Bool} (h : law12_FoldPicks a0 a1 s5 = some out) : RunsP E1 (m + 5) 4 [.agg (r24 a0), .agg (r24 a1), .one (Sl.t r3 s5)] (.fresh, [.one (bT out)]) := by
  obtain ⟨n1, s2⟩ := a0
  obtain ⟨n3, s4⟩ := a1
  refine fn_F rfl (by rw [E1_fn]; exact show fiOf Try.prog 4 = _ by unfold fiOf; rw [Try.func4]; unfold Try.f4; rfl) rfl ?_
  dsimp only
  unfold law12_FoldPicks at h
  refine L_seq ?_
  refine L_ops ?_
  refine ol_new rfl rfl rfl (q_box ty25 rfl (cs := [iC .i64 n1, .p false (Sl.t r33 s2)]) rfl rfl) (fun k6 => ?_)
  refine ol_new rfl rfl rfl (q_box ty25 rfl (cs := [iC .i64 n3, .p false (Sl.t r33 s4)]) rfl rfl) (fun k7 => ?_)
  refine ol_put rfl rfl rfl (q_assign (v := .one (bC false)) rfl) ?_
  refine ol_end ?_
  refine E_seq ?_
  refine L_seq ?_
  refine L_norm (L2 := ([(k7, 2, [[iC .i64 n3, .p false (Sl.t r33 s4)]]), (k6, 2, [[iC .i64 n1, .p false (Sl.t r33 s2)]])] : BL)) [0, 1] (by decide) rfl ?_
  refine L_turn 6 rfl [[], [], [], [], [k6], [k7]] [false, false, false, false, false, false] [[2], [2], [0, 1], [], [], []] (by kernel_rfl) (by kernel_rfl) ?_ (fun bb8 hlt hnd => ?_)
  · intro bb8 hlt hnd
    have e0_bb8 : k7 < bb8 := key_lt hlt 0 rfl
    have e1_bb8 : k6 < bb8 := key_lt hlt 1 rfl
    have d0_1_bb8 : k7 ≠ k6 := key_ne hnd 0 1 rfl rfl rfl
    have d1_0_bb8 : k6 ≠ k7 := key_ne hnd 1 0 rfl rfl rfl
    exact ⟨by simp <;> omega, by simp <;> omega⟩
  have e0_bb8 : k7 < bb8 := key_lt hlt 0 rfl
  have e1_bb8 : k6 < bb8 := key_lt hlt 1 rfl
  have d0_1_bb8 : k7 ≠ k6 := key_ne hnd 0 1 rfl rfl rfl
  have d1_0_bb8 : k6 ≠ k7 := key_ne hnd 1 0 rfl rfl rfl
  clear hlt hnd
  refine tn_put rfl rfl rfl [0, 1] (by decide) rfl (hm0 rfl) rfl (q_loadP (v := .agg [iC .i64 n1, .p false (Sl.t r33 s2)]) 1 rfl sz25 rfl rfl rfl rfl) ?_
  obtain ⟨⟨n18, s19⟩, h17, h⟩ := bindS h
  refine tn_putX rfl rfl rfl [0, 1] (by decide) rfl (hm0 rfl) rfl (q_callX (v := fun fr20 => .agg [iC .i64 n18, .p fr20 (Sl.t r33 s19)]) (args := [.agg [iC .i64 n1, .p false (Sl.t r33 s2)]]) (law09_Few_r (m + 3) h17) rfl rfl (vw_cons (vd_agg (vc_cons vc_v (vc_cons vc_s vc_nil))) vw_nil) rfl rfl (fun fr => rfl)) (fun fr20 => ?_)
  refine tn_put rfl rfl rfl [0, 1] (by decide) rfl (hm0 rfl) rfl (q_loadP (v := .agg [iC .i64 n3, .p false (Sl.t r33 s4)]) 0 rfl sz25 rfl rfl rfl rfl) ?_
  obtain ⟨⟨n22, s23⟩, h21, h⟩ := bindS h
  refine tn_putX rfl rfl rfl [0, 1] (by decide) rfl (hm0 rfl) rfl (q_callX (v := fun fr24 => .agg [iC .i64 n22, .p fr24 (Sl.t r33 s23)]) (args := [.agg [iC .i64 n3, .p false (Sl.t r33 s4)]]) (law09_Few_r (m + 3) h21) rfl rfl (vw_cons (vd_agg (vc_cons vc_v (vc_cons vc_s vc_nil))) vw_nil) rfl rfl (fun fr => rfl)) (fun fr24 => ?_)
  refine tn_wr rfl rfl [0, 1] (by decide) rfl (hm0 rfl) rfl (q_store (es' := [[iC .i64 n18, .p fr20 (Sl.t r33 s19)]]) 1 rfl rfl rfl sz25 rfl rfl rfl rfl rfl) (q := 1) rfl rfl ?_
  refine tn_wr rfl rfl [0, 1] (by decide) rfl (hm0 rfl) rfl (q_store (es' := [[iC .i64 n22, .p fr24 (Sl.t r33 s23)]]) 0 rfl rfl rfl sz25 rfl rfl rfl rfl rfl) (q := 0) rfl rfl ?_
  refine tn_end ?_
  refine E_seq ?_
  refine L_seq ?_
  refine L_seq ?_
  refine L_ops ?_
  refine ol_put rfl rfl rfl (q_move (v := .one (.p false (Sl.t r3 s5))) rfl) ?_
  refine ol_put rfl rfl rfl (q_lenS rfl ty42 rfl rfl rfl rfl) ?_
  by_cases c25 : ((s5.l.length : Nat) : Int) > 30
  · replace h := ifT c25 h
    refine ol_put rfl rfl rfl (q_bin rfl rfl (p_gtr_t _ _ _ _ _ c25) rfl) ?_
    refine ol_put rfl rfl rfl (q_move (v := .one (bC true)) rfl) ?_
    refine ol_put rfl rfl rfl (q_move (v := .one (.p false (Sl.t r3 s5))) rfl) ?_
    refine ol_put rfl rfl rfl (q_lenS rfl ty42 rfl rfl rfl rfl) ?_
    by_cases c26 : ((s5.l.length : Nat) : Int) ≤ 4096
    · replace h := ifT c26 h
      refine ol_put rfl rfl rfl (q_bin rfl rfl (p_leq_t _ _ _ _ _ c26) rfl) ?_
      refine ol_put rfl rfl rfl (q_pickT (v := .one (bC true)) rfl rfl) ?_
      refine ol_end ?_
      refine E_seq ?_
      refine L_condT rfl ?_
      refine L_ops ?_
      refine ol_put rfl rfl rfl (q_move (v := .one (.p false (Sl.t r3 s5))) rfl) ?_
      obtain ⟨s27, h28, h⟩ := bindS h
      refine ol_put rfl rfl rfl (q_sliceS (r := r3) h28 rfl ty42 rfl ty3 no_zero (no_some rfl (Int.le_trans (cutS_some h28).1.1 (cutS_some h28).1.2.1) _)) ?_
      refine ol_put rfl rfl rfl (q_assign (v := .one (.p false (Sl.t r3 s27))) rfl) ?_
      refine ol_end ?_
      refine E_seq ?_
      refine L_seq ?_
      refine L_ops ?_
      refine ol_put rfl rfl rfl (q_loadP (v := .agg [iC .i64 n18, .p fr20 (Sl.t r33 s19)]) 1 rfl sz25 rfl rfl rfl rfl) ?_
      refine ol_put rfl rfl rfl (q_move (v := .one (.p false (Sl.t r3 s27))) rfl) ?_
      obtain ⟨⟨⟨n30, s31⟩, n32⟩, h29, h⟩ := bindS h
      refine ol_put rfl rfl rfl (q_callF (v := .tup [.agg [iC .i64 n30, .p true (Sl.t r33 s31)], .one (iC .i64 n32)]) (args := [.agg [iC .i64 n18, .p fr20 (Sl.t r33 s19)], .one (.p false (Sl.t r3 s27))]) (fold_Select_r (m + 0) h29) rfl rfl (vw_cons (vd_agg (vc_cons vc_v (vc_cons vc_s vc_nil))) (vw_cons (vd_one vc_s) vw_nil)) rfl rfl) ?_
      refine ol_put rfl rfl rfl (q_move (v := .tup [.agg [iC .i64 n30, .p true (Sl.t r33 s31)], .one (iC .i64 n32)]) rfl) ?_
      refine ol_put rfl rfl rfl (q_ext (v := .agg [iC .i64 n30, .p true (Sl.t r33 s31)]) rfl rfl) ?_
      refine ol_put rfl rfl rfl (q_ext (v := .one (iC .i64 n32)) rfl rfl) ?_
      refine ol_new rfl rfl rfl (q_alloc ty25 (row := [iC .i64 0, .p true (Sl.t r33 (⟨false, 0, []⟩ : Sl (Int × Int)))]) rfl rfl) (fun k33 => ?_)
      refine ol_wr rfl rfl (q_store (es' := [[iC .i64 n30, .p true (Sl.t r33 s31)]]) 0 rfl rfl rfl sz25 rfl rfl rfl rfl rfl) rfl ?_
      refine ol_put rfl rfl rfl (q_assign (v := .one (iC .i64 n32)) rfl) ?_
      refine ol_end ?_
      refine E_seq ?_
      refine L_seq ?_
      refine L_ops ?_
      refine ol_put rfl rfl rfl (q_loadP (v := .agg [iC .i64 n18, .p fr20 (Sl.t r33 s19)]) 2 rfl sz25 rfl rfl rfl rfl) ?_
      refine ol_put rfl rfl rfl (q_move (v := .one (.p false (Sl.t r3 s27))) rfl) ?_
      obtain ⟨⟨⟨n35, s36⟩, n37⟩, h34, h⟩ := bindS h
      refine ol_put rfl rfl rfl (q_callF (v := .tup [.agg [iC .i64 n35, .p true (Sl.t r33 s36)], .one (iC .i64 n37)]) (args := [.agg [iC .i64 n18, .p fr20 (Sl.t r33 s19)], .one (.p false (Sl.t r3 s27))]) (ref12_Select_r (m + 0) h34) rfl rfl (vw_cons (vd_agg (vc_cons vc_v (vc_cons vc_s vc_nil))) (vw_cons (vd_one vc_s) vw_nil)) rfl rfl) ?_
      refine ol_put rfl rfl rfl (q_move (v := .tup [.agg [iC .i64 n35, .p true (Sl.t r33 s36)], .one (iC .i64 n37)]) rfl) ?_
      refine ol_put rfl rfl rfl (q_ext (v := .agg [iC .i64 n35, .p true (Sl.t r33 s36)]) rfl rfl) ?_
      refine ol_put rfl rfl rfl (q_ext (v := .one (iC .i64 n37)) rfl rfl) ?_
      refine ol_new rfl rfl rfl (q_alloc ty25 (row := [iC .i64 0, .p true (Sl.t r33 (⟨false, 0, []⟩ : Sl (Int × Int)))]) rfl rfl) (fun k38 => ?_)
      refine ol_wr rfl rfl (q_store (es' := [[iC .i64 n35, .p true (Sl.t r33 s36)]]) 0 rfl rfl rfl sz25 rfl rfl rfl rfl rfl) rfl ?_
      refine ol_put rfl rfl rfl (q_assign (v := .one (iC .i64 n37)) rfl) ?_
      refine ol_end ?_
      refine E_seq ?_
      refine L_seq ?_
      refine L_ops ?_
      refine ol_put rfl rfl rfl (q_loadP (v := .agg [iC .i64 n18, .p fr20 (Sl.t r33 s19)]) 3 rfl sz25 rfl rfl rfl rfl) ?_
      refine ol_put rfl rfl rfl (q_move (v := .one (.p false (Sl.t r3 s27))) rfl) ?_
      refine ol_put rfl rfl rfl (q_loadP (v := .agg [iC .i64 n22, .p fr24 (Sl.t r33 s23)]) 2 rfl sz25 rfl rfl rfl rfl) ?_
      obtain ⟨⟨⟨n40, s41⟩, n42⟩, h39, h⟩ := bindS h
      refine ol_put rfl rfl rfl (q_callF (v := .tup [.agg [iC .i64 n40, .p true (Sl.t r33 s41)], .one (iC .i64 n42)]) (args := [.agg [iC .i64 n18, .p fr20 (Sl.t r33 s19)], .one (.p false (Sl.t r3 s27)), .agg [iC .i64 n22, .p fr24 (Sl.t r33 s23)]]) (fold_Assign_r (m + 0) h39) rfl rfl (vw_cons (vd_agg (vc_cons vc_v (vc_cons vc_s vc_nil))) (vw_cons (vd_one vc_s) (vw_cons (vd_agg (vc_cons vc_v (vc_cons vc_s vc_nil))) vw_nil))) rfl rfl) ?_
      refine ol_put rfl rfl rfl (q_move (v := .tup [.agg [iC .i64 n40, .p true (Sl.t r33 s41)], .one (iC .i64 n42)]) rfl) ?_
      refine ol_put rfl rfl rfl (q_ext (v := .agg [iC .i64 n40, .p true (Sl.t r33 s41)]) rfl rfl) ?_
      refine ol_put rfl rfl rfl (q_ext (v := .one (iC .i64 n42)) rfl rfl) ?_
      refine ol_new rfl rfl rfl (q_alloc ty25 (row := [iC .i64 0, .p true (Sl.t r33 (⟨false, 0, []⟩ : Sl (Int × Int)))]) rfl rfl) (fun k43 => ?_)
      refine ol_wr rfl rfl (q_store (es' := [[iC .i64 n40, .p true (Sl.t r33 s41)]]) 0 rfl rfl rfl sz25 rfl rfl rfl rfl rfl) rfl ?_
      refine ol_put rfl rfl rfl (q_assign (v := .one (iC .i64 n42)) rfl) ?_
      refine ol_end ?_
      refine E_seq ?_
      refine L_seq ?_
      refine L_ops ?_
      refine ol_put rfl rfl rfl (q_loadP (v := .agg [iC .i64 n18, .p fr20 (Sl.t r33 s19)]) 4 rfl sz25 rfl rfl rfl rfl) ?_
      refine ol_put rfl rfl rfl (q_move (v := .one (.p false (Sl.t r3 s27))) rfl) ?_
      refine ol_put rfl rfl rfl (q_loadP (v := .agg [iC .i64 n22, .p fr24 (Sl.t r33 s23)]) 3 rfl sz25 rfl rfl rfl rfl) ?_
      obtain ⟨⟨⟨n45, s46⟩, n47⟩, h44, h⟩ := bindS h
      refine ol_putX rfl rfl rfl (q_callX (v := fun fr48 => .tup [.agg [iC .i64 n45, .p fr48 (Sl.t r33 s46)], .one (iC .i64 n47)]) (args := [.agg [iC .i64 n18, .p fr20 (Sl.t r33 s19)], .one (.p false (Sl.t r3 s27)), .agg [iC .i64 n22, .p fr24 (Sl.t r33 s23)]]) (ref12_Assign_r (m + 0) h44) rfl rfl (vw_cons (vd_agg (vc_cons vc_v (vc_cons vc_s vc_nil))) (vw_cons (vd_one vc_s) (vw_cons (vd_agg (vc_cons vc_v (vc_cons vc_s vc_nil))) vw_nil))) rfl rfl (fun fr => rfl)) (fun fr48 => ?_)
      refine ol_put rfl rfl rfl (q_move (v := .tup [.agg [iC .i64 n45, .p fr48 (Sl.t r33 s46)], .one (iC .i64 n47)]) rfl) ?_
      refine ol_put rfl rfl rfl (q_ext (v := .agg [iC .i64 n45, .p fr48 (Sl.t r33 s46)]) rfl rfl) ?_
      refine ol_put rfl rfl rfl (q_ext (v := .one (iC .i64 n47)) rfl rfl) ?_
      refine ol_new rfl rfl rfl (q_alloc ty25 (row := [iC .i64 0, .p true (Sl.t r33 (⟨false, 0, []⟩ : Sl (Int × Int)))]) rfl rfl) (fun k49 => ?_)
      refine ol_wr rfl rfl (q_store (es' := [[iC .i64 n45, .p fr48 (Sl.t r33 s46)]]) 0 rfl rfl rfl sz25 rfl rfl rfl rfl rfl) rfl ?_
      refine ol_put rfl rfl rfl (q_assign (v := .one (iC .i64 n47)) rfl) ?_
      refine ol_end ?_
      refine E_seq ?_
      refine L_seq ?_
      refine L_ops ?_
      obtain ⟨b51, h50, h⟩ := bindS h
      refine ol_put rfl rfl rfl (q_callF (v := .one (bC b51)) (args := []) (FL_r (m + 3) h50) rfl rfl vw_nil rfl rfl) ?_
      refine ol_put rfl rfl rfl (q_move (v := .one (bC b51)) rfl) ?_
      rcases b51 with _ | _
      · replace h := ifF (by decide) h
        refine ol_skip rfl rfl rfl ?_
        refine ol_skip rfl rfl rfl ?_
        refine ol_skip rfl rfl rfl ?_
        refine ol_put rfl rfl rfl (q_pickF (v := .one (bC false)) rfl rfl) ?_
        refine ol_put rfl rfl rfl (q_move (v := .one (bC false)) rfl) ?_
        refine ol_skip rfl rfl rfl ?_
        refine ol_skip rfl rfl rfl ?_
        refine ol_skip rfl rfl rfl ?_
        refine ol_put rfl rfl rfl (q_pickF (v := .one (bC false)) rfl rfl) ?_
        refine ol_put rfl rfl rfl (q_move (v := .one (bC false)) rfl) ?_
        refine ol_skip rfl rfl rfl ?_
        refine ol_skip rfl rfl rfl ?_
        refine ol_skip rfl rfl rfl ?_
        refine ol_put rfl rfl rfl (q_pickF (v := .one (bC false)) rfl rfl) ?_
        refine ol_put rfl rfl rfl (q_move (v := .one (bC false)) rfl) ?_
        refine ol_skip rfl rfl rfl ?_
        refine ol_skip rfl rfl rfl ?_
        refine ol_skip rfl rfl rfl ?_
        refine ol_put rfl rfl rfl (q_pickF (v := .one (bC false)) rfl rfl) ?_
        refine ol_put rfl rfl rfl (q_assign (v := .one (bC false)) rfl) ?_
        refine ol_end ?_
        refine E_seq ?_
        refine L_ret ?_
        obtain rfl := Option.some.inj h
        exact E_endF (.inr rfl) (res_tmp rfl res_nil) (vw_cons (vd_one vc_v) vw_nil) (fun h hb => own_p) rfl rfl
      · replace h := ifT (by decide) h
        refine ol_put rfl rfl rfl (q_loadP (v := .agg [iC .i64 n30, .p true (Sl.t r33 s31)]) 3 rfl sz25 rfl rfl rfl rfl) ?_
        refine ol_put rfl rfl rfl (q_loadP (v := .agg [iC .i64 n35, .p true (Sl.t r33 s36)]) 2 rfl sz25 rfl rfl rfl rfl) ?_
        obtain ⟨b53, h52, h⟩ := bindS h
        refine ol_put rfl rfl rfl (q_callF (v := .one (bC b53)) (args := [.agg [iC .i64 n30, .p true (Sl.t r33 s31)], .agg [iC .i64 n35, .p true (Sl.t r33 s36)]]) (ref09_Same_r (m + 2) h52) rfl rfl (vw_cons (vd_agg (vc_cons vc_v (vc_cons vc_s vc_nil))) (vw_cons (vd_agg (vc_cons vc_v (vc_cons vc_s vc_nil))) vw_nil)) rfl rfl) ?_
        refine ol_put rfl rfl rfl (q_pickT (v := .one (bC b53)) rfl rfl) ?_
        refine ol_put rfl rfl rfl (q_move (v := .one (bC b53)) rfl) ?_
        rcases b53 with _ | _
        · replace h := ifF (by decide) h
          refine ol_skip rfl rfl rfl ?_
          refine ol_skip rfl rfl rfl ?_
          refine ol_skip rfl rfl rfl ?_
          refine ol_put rfl rfl rfl (q_pickF (v := .one (bC false)) rfl rfl) ?_
          refine ol_put rfl rfl rfl (q_move (v := .one (bC false)) rfl) ?_
          refine ol_skip rfl rfl rfl ?_
          refine ol_skip rfl rfl rfl ?_
          refine ol_skip rfl rfl rfl ?_
          refine ol_put rfl rfl rfl (q_pickF (v := .one (bC false)) rfl rfl) ?_
          refine ol_put rfl rfl rfl (q_move (v := .one (bC false)) rfl) ?_
          refine ol_skip rfl rfl rfl ?_
          refine ol_skip rfl rfl rfl ?_
          refine ol_skip rfl rfl rfl ?_
          refine ol_put rfl rfl rfl (q_pickF (v := .one (bC false)) rfl rfl) ?_
          refine ol_put rfl rfl rfl (q_assign (v := .one (bC false)) rfl) ?_
          refine ol_end ?_
          refine E_seq ?_
          refine L_ret ?_
          obtain rfl := Option.some.inj h
          exact E_endF (.inr rfl) (res_tmp rfl res_nil) (vw_cons (vd_one vc_v) vw_nil) (fun h hb => own_p) rfl rfl
        · replace h := ifT (by decide) h
          refine ol_put rfl rfl rfl (q_move (v := .one (iC .i64 n32)) rfl) ?_
          refine ol_put rfl rfl rfl (q_move (v := .one (iC .i64 n37)) rfl) ?_
          by_cases c54 : n32 = n37
          · replace h := ifT c54 h
            refine ol_put rfl rfl rfl (q_bin rfl rfl (p_eql_t _ _ _ _ _ c54) rfl) ?_
            refine ol_put rfl rfl rfl (q_pickT (v := .one (bC true)) rfl rfl) ?_
            refine ol_put rfl rfl rfl (q_move (v := .one (bC true)) rfl) ?_
            refine ol_put rfl rfl rfl (q_loadP (v := .agg [iC .i64 n40, .p true (Sl.t r33 s41)]) 1 rfl sz25 rfl rfl rfl rfl) ?_
            refine ol_put rfl rfl rfl (q_loadP (v := .agg [iC .i64 n45, .p fr48 (Sl.t r33 s46)]) 0 rfl sz25 rfl rfl rfl rfl) ?_
            obtain ⟨b56, h55, h⟩ := bindS h
            refine ol_put rfl rfl rfl (q_callF (v := .one (bC b56)) (args := [.agg [iC .i64 n40, .p true (Sl.t r33 s41)], .agg [iC .i64 n45, .p fr48 (Sl.t r33 s46)]]) (ref09_Same_r (m + 2) h55) rfl rfl (vw_cons (vd_agg (vc_cons vc_v (vc_cons vc_s vc_nil))) (vw_cons (vd_agg (vc_cons vc_v (vc_cons vc_s vc_nil))) vw_nil)) rfl rfl) ?_
            refine ol_put rfl rfl rfl (q_pickT (v := .one (bC b56)) rfl rfl) ?_
            refine ol_put rfl rfl rfl (q_move (v := .one (bC b56)) rfl) ?_
            rcases b56 with _ | _
            · replace h := ifF (by decide) h
              refine ol_skip rfl rfl rfl ?_
              refine ol_skip rfl rfl rfl ?_
              refine ol_skip rfl rfl rfl ?_
              refine ol_put rfl rfl rfl (q_pickF (v := .one (bC false)) rfl rfl) ?_
              refine ol_put rfl rfl rfl (q_assign (v := .one (bC false)) rfl) ?_
              refine ol_end ?_
              refine E_seq ?_
              refine L_ret ?_
              obtain rfl := Option.some.inj h
              exact E_endF (.inr rfl) (res_tmp rfl res_nil) (vw_cons (vd_one vc_v) vw_nil) (fun h hb => own_p) rfl rfl
            · replace h := ifT (by decide) h
              refine ol_put rfl rfl rfl (q_move (v := .one (iC .i64 n42)) rfl) ?_
              refine ol_put rfl rfl rfl (q_move (v := .one (iC .i64 n47)) rfl) ?_
              by_cases c57 : n42 = n47
              · replace h := ifT c57 h
                refine ol_put rfl rfl rfl (q_bin rfl rfl (p_eql_t _ _ _ _ _ c57) rfl) ?_
                refine ol_put rfl rfl rfl (q_pickT (v := .one (bC true)) rfl rfl) ?_
                refine ol_put rfl rfl rfl (q_assign (v := .one (bC true)) rfl) ?_
                refine ol_end ?_
                refine E_seq ?_
                refine L_ret ?_
                obtain rfl := Option.some.inj h
                exact E_endF (.inr rfl) (res_tmp rfl res_nil) (vw_cons (vd_one vc_v) vw_nil) (fun h hb => own_p) rfl rfl
              · replace h := ifF c57 h
                refine ol_put rfl rfl rfl (q_bin rfl rfl (p_eql_f _ _ _ _ _ c57) rfl) ?_
                refine ol_put rfl rfl rfl (q_pickT (v := .one (bC false)) rfl rfl) ?_
                refine ol_put rfl rfl rfl (q_assign (v := .one (bC false)) rfl) ?_
                refine ol_end ?_
                refine E_seq ?_
                refine L_ret ?_
                obtain rfl := Option.some.inj h
                exact E_endF (.inr rfl) (res_tmp rfl res_nil) (vw_cons (vd_one vc_v) vw_nil) (fun h hb => own_p) rfl rfl
          · replace h := ifF c54 h
            refine ol_put rfl rfl rfl (q_bin rfl rfl (p_eql_f _ _ _ _ _ c54) rfl) ?_
            refine ol_put rfl rfl rfl (q_pickT (v := .one (bC false)) rfl rfl) ?_
            refine ol_put rfl rfl rfl (q_move (v := .one (bC false)) rfl) ?_
            refine ol_skip rfl rfl rfl ?_
            refine ol_skip rfl rfl rfl ?_
            refine ol_skip rfl rfl rfl ?_
            refine ol_put rfl rfl rfl (q_pickF (v := .one (bC false)) rfl rfl) ?_
            refine ol_put rfl rfl rfl (q_move (v := .one (bC false)) rfl) ?_
            refine ol_skip rfl rfl rfl ?_
            refine ol_skip rfl rfl rfl ?_
            refine ol_skip rfl rfl rfl ?_
            refine ol_put rfl rfl rfl (q_pickF (v := .one (bC false)) rfl rfl) ?_
            refine ol_put rfl rfl rfl (q_assign (v := .one (bC false)) rfl) ?_
            refine ol_end ?_
            refine E_seq ?_
            refine L_ret ?_
            obtain rfl := Option.some.inj h
            exact E_endF (.inr rfl) (res_tmp rfl res_nil) (vw_cons (vd_one vc_v) vw_nil) (fun h hb => own_p) rfl rfl
    · replace h := ifF c26 h
      refine ol_put rfl rfl rfl (q_bin rfl rfl (p_leq_f _ _ _ _ _ c26) rfl) ?_
      refine ol_put rfl rfl rfl (q_pickT (v := .one (bC false)) rfl rfl) ?_
      refine ol_end ?_
      refine E_seq ?_
      refine L_condF rfl ?_
      refine L_skip ?_
      refine E_seq ?_
      refine L_seq ?_
      refine L_ops ?_
      refine ol_put rfl rfl rfl (q_loadP (v := .agg [iC .i64 n18, .p fr20 (Sl.t r33 s19)]) 1 rfl sz25 rfl rfl rfl rfl) ?_
      refine ol_put rfl rfl rfl (q_move (v := .one (.p false (Sl.t r3 s5))) rfl) ?_
      obtain ⟨⟨⟨n59, s60⟩, n61⟩, h58, h⟩ := bindS h
      refine ol_put rfl rfl rfl (q_callF (v := .tup [.agg [iC .i64 n59, .p true (Sl.t r33 s60)], .one (iC .i64 n61)]) (args := [.agg [iC .i64 n18, .p fr20 (Sl.t r33 s19)], .one (.p false (Sl.t r3 s5))]) (fold_Select_r (m + 0) h58) rfl rfl (vw_cons (vd_agg (vc_cons vc_v (vc_cons vc_s vc_nil))) (vw_cons (vd_one vc_s) vw_nil)) rfl rfl) ?_
      refine ol_put rfl rfl rfl (q_move (v := .tup [.agg [iC .i64 n59, .p true (Sl.t r33 s60)], .one (iC .i64 n61)]) rfl) ?_
      refine ol_put rfl rfl rfl (q_ext (v := .agg [iC .i64 n59, .p true (Sl.t r33 s60)]) rfl rfl) ?_
      refine ol_put rfl rfl rfl (q_ext (v := .one (iC .i64 n61)) rfl rfl) ?_
      refine ol_new rfl rfl rfl (q_alloc ty25 (row := [iC .i64 0, .p true (Sl.t r33 (⟨false, 0, []⟩ : Sl (Int × Int)))]) rfl rfl) (fun k62 => ?_)
      refine ol_wr rfl rfl (q_store (es' := [[iC .i64 n59, .p true (Sl.t r33 s60)]]) 0 rfl rfl rfl sz25 rfl rfl rfl rfl rfl) rfl ?_
      refine ol_put rfl rfl rfl (q_assign (v := .one (iC .i64 n61)) rfl) ?_
      refine ol_end ?_
      refine E_seq ?_
      refine L_seq ?_
      refine L_ops ?_
      refine ol_put rfl rfl rfl (q_loadP (v := .agg [iC .i64 n18, .p fr20 (Sl.t r33 s19)]) 2 rfl sz25 rfl rfl rfl rfl) ?_
      refine ol_put rfl rfl rfl (q_move (v := .one (.p false (Sl.t r3 s5))) rfl) ?_
      obtain ⟨⟨⟨n64, s65⟩, n66⟩, h63, h⟩ := bindS h
      refine ol_put rfl rfl rfl (q_callF (v := .tup [.agg [iC .i64 n64, .p true (Sl.t r33 s65)], .one (iC .i64 n66)]) (args := [.agg [iC .i64 n18, .p fr20 (Sl.t r33 s19)], .one (.p false (Sl.t r3 s5))]) (ref12_Select_r (m + 0) h63) rfl rfl (vw_cons (vd_agg (vc_cons vc_v (vc_cons vc_s vc_nil))) (vw_cons (vd_one vc_s) vw_nil)) rfl rfl) ?_
      refine ol_put rfl rfl rfl (q_move (v := .tup [.agg [iC .i64 n64, .p true (Sl.t r33 s65)], .one (iC .i64 n66)]) rfl) ?_
      refine ol_put rfl rfl rfl (q_ext (v := .agg [iC .i64 n64, .p true (Sl.t r33 s65)]) rfl rfl) ?_
      refine ol_put rfl rfl rfl (q_ext (v := .one (iC .i64 n66)) rfl rfl) ?_
      refine ol_new rfl rfl rfl (q_alloc ty25 (row := [iC .i64 0, .p true (Sl.t r33 (⟨false, 0, []⟩ : Sl (Int × Int)))]) rfl rfl) (fun k67 => ?_)
      refine ol_wr rfl rfl (q_store (es' := [[iC .i64 n64, .p true (Sl.t r33 s65)]]) 0 rfl rfl rfl sz25 rfl rfl rfl rfl rfl) rfl ?_
      refine ol_put rfl rfl rfl (q_assign (v := .one (iC .i64 n66)) rfl) ?_
      refine ol_end ?_
      refine E_seq ?_
      refine L_seq ?_
      refine L_ops ?_
      refine ol_put rfl rfl rfl (q_loadP (v := .agg [iC .i64 n18, .p fr20 (Sl.t r33 s19)]) 3 rfl sz25 rfl rfl rfl rfl) ?_
      refine ol_put rfl rfl rfl (q_move (v := .one (.p false (Sl.t r3 s5))) rfl) ?_
      refine ol_put rfl rfl rfl (q_loadP (v := .agg [iC .i64 n22, .p fr24 (Sl.t r33 s23)]) 2 rfl sz25 rfl rfl rfl rfl) ?_
      obtain ⟨⟨⟨n69, s70⟩, n71⟩, h68, h⟩ := bindS h
      refine ol_put rfl rfl rfl (q_callF (v := .tup [.agg [iC .i64 n69, .p true (Sl.t r33 s70)], .one (iC .i64 n71)]) (args := [.agg [iC .i64 n18, .p fr20 (Sl.t r33 s19)], .one (.p false (Sl.t r3 s5)), .agg [iC .i64 n22, .p fr24 (Sl.t r33 s23)]]) (fold_Assign_r (m + 0) h68) rfl rfl (vw_cons (vd_agg (vc_cons vc_v (vc_cons vc_s vc_nil))) (vw_cons (vd_one vc_s) (vw_cons (vd_agg (vc_cons vc_v (vc_cons vc_s vc_nil))) vw_nil))) rfl rfl) ?_
      refine ol_put rfl rfl rfl (q_move (v := .tup [.agg [iC .i64 n69, .p true (Sl.t r33 s70)], .one (iC .i64 n71)]) rfl) ?_
      refine ol_put rfl rfl rfl (q_ext (v := .agg [iC .i64 n69, .p true (Sl.t r33 s70)]) rfl rfl) ?_
      refine ol_put rfl rfl rfl (q_ext (v := .one (iC .i64 n71)) rfl rfl) ?_
      refine ol_new rfl rfl rfl (q_alloc ty25 (row := [iC .i64 0, .p true (Sl.t r33 (⟨false, 0, []⟩ : Sl (Int × Int)))]) rfl rfl) (fun k72 => ?_)
      refine ol_wr rfl rfl (q_store (es' := [[iC .i64 n69, .p true (Sl.t r33 s70)]]) 0 rfl rfl rfl sz25 rfl rfl rfl rfl rfl) rfl ?_
      refine ol_put rfl rfl rfl (q_assign (v := .one (iC .i64 n71)) rfl) ?_
      refine ol_end ?_
      refine E_seq ?_
      refine L_seq ?_
      refine L_ops ?_
      refine ol_put rfl rfl rfl (q_loadP (v := .agg [iC .i64 n18, .p fr20 (Sl.t r33 s19)]) 4 rfl sz25 rfl rfl rfl rfl) ?_
      refine ol_put rfl rfl rfl (q_move (v := .one (.p false (Sl.t r3 s5))) rfl) ?_
      refine ol_put rfl rfl rfl (q_loadP (v := .agg [iC .i64 n22, .p fr24 (Sl.t r33 s23)]) 3 rfl sz25 rfl rfl rfl rfl) ?_
      obtain ⟨⟨⟨n74, s75⟩, n76⟩, h73, h⟩ := bindS h
      refine ol_putX rfl rfl rfl (q_callX (v := fun fr77 => .tup [.agg [iC .i64 n74, .p fr77 (Sl.t r33 s75)], .one (iC .i64 n76)]) (args := [.agg [iC .i64 n18, .p fr20 (Sl.t r33 s19)], .one (.p false (Sl.t r3 s5)), .agg [iC .i64 n22, .p fr24 (Sl.t r33 s23)]]) (ref12_Assign_r (m + 0) h73) rfl rfl (vw_cons (vd_agg (vc_cons vc_v (vc_cons vc_s vc_nil))) (vw_cons (vd_one vc_s) (vw_cons (vd_agg (vc_cons vc_v (vc_cons vc_s vc_nil))) vw_nil))) rfl rfl (fun fr => rfl)) (fun fr77 => ?_)
      refine ol_put rfl rfl rfl (q_move (v := .tup [.agg [iC .i64 n74, .p fr77 (Sl.t r33 s75)], .one (iC .i64 n76)]) rfl) ?_
      refine ol_put rfl rfl rfl (q_ext (v := .agg [iC .i64 n74, .p fr77 (Sl.t r33 s75)]) rfl rfl) ?_
      refine ol_put rfl rfl rfl (q_ext (v := .one (iC .i64 n76)) rfl rfl) ?_
      refine ol_new rfl rfl rfl (q_alloc ty25 (row := [iC .i64 0, .p true (Sl.t r33 (⟨false, 0, []⟩ : Sl (Int × Int)))]) rfl rfl) (fun k78 => ?_)
      refine ol_wr rfl rfl (q_store (es' := [[iC .i64 n74, .p fr77 (Sl.t r33 s75)]]) 0 rfl rfl rfl sz25 rfl rfl rfl rfl rfl) rfl ?_
      refine ol_put rfl rfl rfl (q_assign (v := .one (iC .i64 n76)) rfl) ?_
      refine ol_end ?_
      refine E_seq ?_
      refine L_seq ?_
      refine L_ops ?_
      obtain ⟨b80, h79, h⟩ := bindS h
      refine ol_put rfl rfl rfl (q_callF (v := .one (bC b80)) (args := []) (FL_r (m + 3) h79) rfl rfl vw_nil rfl rfl) ?_
      refine ol_put rfl rfl rfl (q_move (v := .one (bC b80)) rfl) ?_
      rcases b80 with _ | _
      · replace h := ifF (by decide) h
        refine ol_skip rfl rfl rfl ?_
        refine ol_skip rfl rfl rfl ?_
        refine ol_skip rfl rfl rfl ?_
        refine ol_put rfl rfl rfl (q_pickF (v := .one (bC false)) rfl rfl) ?_
        refine ol_put rfl rfl rfl (q_move (v := .one (bC false)) rfl) ?_
        refine ol_skip rfl rfl rfl ?_
        refine ol_skip rfl rfl rfl ?_
        refine ol_skip rfl rfl rfl ?_
        refine ol_put rfl rfl rfl (q_pickF (v := .one (bC false)) rfl rfl) ?_
        refine ol_put rfl rfl rfl (q_move (v := .one (bC false)) rfl) ?_
        refine ol_skip rfl rfl rfl ?_
        refine ol_skip rfl rfl rfl ?_
        refine ol_skip rfl rfl rfl ?_
        refine ol_put rfl rfl rfl (q_pickF (v := .one (bC false)) rfl rfl) ?_
        refine ol_put rfl rfl rfl (q_move (v := .one (bC false)) rfl) ?_
        refine ol_skip rfl rfl rfl ?_
        refine ol_skip rfl rfl rfl ?_
        refine ol_skip rfl rfl rfl ?_
        refine ol_put rfl rfl rfl (q_pickF (v := .one (bC false)) rfl rfl) ?_
        refine ol_put rfl rfl rfl (q_assign (v := .one (bC false)) rfl) ?_
        refine ol_end ?_
        refine E_seq ?_
        refine L_ret ?_
        obtain rfl := Option.some.inj h
        exact E_endF (.inr rfl) (res_tmp rfl res_nil) (vw_cons (vd_one vc_v) vw_nil) (fun h hb => own_p) rfl rfl
      · replace h := ifT (by decide) h
        refine ol_put rfl rfl rfl (q_loadP (v := .agg [iC .i64 n59, .p true (Sl.t r33 s60)]) 3 rfl sz25 rfl rfl rfl rfl) ?_
        refine ol_put rfl rfl rfl (q_loadP (v := .agg [iC .i64 n64, .p true (Sl.t r33 s65)]) 2 rfl sz25 rfl rfl rfl rfl) ?_
        obtain ⟨b82, h81, h⟩ := bindS h
        refine ol_put rfl rfl rfl (q_callF (v := .one (bC b82)) (args := [.agg [iC .i64 n59, .p true (Sl.t r33 s60)], .agg [iC .i64 n64, .p true (Sl.t r33 s65)]]) (ref09_Same_r (m + 2) h81) rfl rfl (vw_cons (vd_agg (vc_cons vc_v (vc_cons vc_s vc_nil))) (vw_cons (vd_agg (vc_cons vc_v (vc_cons vc_s vc_nil))) vw_nil)) rfl rfl) ?_
        refine ol_put rfl rfl rfl (q_pickT (v := .one (bC b82)) rfl rfl) ?_
        refine ol_put rfl rfl rfl (q_move (v := .one (bC b82)) rfl) ?_
        rcases b82 with _ | _
        · replace h := ifF (by decide) h
          refine ol_skip rfl rfl rfl ?_
          refine ol_skip rfl rfl rfl ?_
          refine ol_skip rfl rfl rfl ?_
          refine ol_put rfl rfl rfl (q_pickF (v := .one (bC false)) rfl rfl) ?_
          refine ol_put rfl rfl rfl (q_move (v := .one (bC false)) rfl) ?_
          refine ol_skip rfl rfl rfl ?_
          refine ol_skip rfl rfl rfl ?_
          refine ol_skip rfl rfl rfl ?_
          refine ol_put rfl rfl rfl (q_pickF (v := .one (bC false)) rfl rfl) ?_
          refine ol_put rfl rfl rfl (q_move (v := .one (bC false)) rfl) ?_
          refine ol_skip rfl rfl rfl ?_
          refine ol_skip rfl rfl rfl ?_
          refine ol_skip rfl rfl rfl ?_
          refine ol_put rfl rfl rfl (q_pickF (v := .one (bC false)) rfl rfl) ?_
          refine ol_put rfl rfl rfl (q_assign (v := .one (bC false)) rfl) ?_
          refine ol_end ?_
          refine E_seq ?_
          refine L_ret ?_
          obtain rfl := Option.some.inj h
          exact E_endF (.inr rfl) (res_tmp rfl res_nil) (vw_cons (vd_one vc_v) vw_nil) (fun h hb => own_p) rfl rfl
        · replace h := ifT (by decide) h
          refine ol_put rfl rfl rfl (q_move (v := .one (iC .i64 n61)) rfl) ?_
          refine ol_put rfl rfl rfl (q_move (v := .one (iC .i64 n66)) rfl) ?_
          by_cases c83 : n61 = n66
          · replace h := ifT c83 h
            refine ol_put rfl rfl rfl (q_bin rfl rfl (p_eql_t _ _ _ _ _ c83) rfl) ?_
            refine ol_put rfl rfl rfl (q_pickT (v := .one (bC true)) rfl rfl) ?_
            refine ol_put rfl rfl rfl (q_move (v := .one (bC true)) rfl) ?_
            refine ol_put rfl rfl rfl (q_loadP (v := .agg [iC .i64 n69, .p true (Sl.t r33 s70)]) 1 rfl sz25 rfl rfl rfl rfl) ?_
            refine ol_put rfl rfl rfl (q_loadP (v := .agg [iC .i64 n74, .p fr77 (Sl.t r33 s75)]) 0 rfl sz25 rfl rfl rfl rfl) ?_
            obtain ⟨b85, h84, h⟩ := bindS h
            refine ol_put rfl rfl rfl (q_callF (v := .one (bC b85)) (args := [.agg [iC .i64 n69, .p true (Sl.t r33 s70)], .agg [iC .i64 n74, .p fr77 (Sl.t r33 s75)]]) (ref09_Same_r (m + 2) h84) rfl rfl (vw_cons (vd_agg (vc_cons vc_v (vc_cons vc_s vc_nil))) (vw_cons (vd_agg (vc_cons vc_v (vc_cons vc_s vc_nil))) vw_nil)) rfl rfl) ?_
            refine ol_put rfl rfl rfl (q_pickT (v := .one (bC b85)) rfl rfl) ?_
            refine ol_put rfl rfl rfl (q_move (v := .one (bC b85)) rfl) ?_
            rcases b85 with _ | _
            · replace h := ifF (by decide) h
              refine ol_skip rfl rfl rfl ?_
              refine ol_skip rfl rfl rfl ?_
              refine ol_skip rfl rfl rfl ?_
              refine ol_put rfl rfl rfl (q_pickF (v := .one (bC false)) rfl rfl) ?_
              refine ol_put rfl rfl rfl (q_assign (v := .one (bC false)) rfl) ?_
              refine ol_end ?_
              refine E_seq ?_
              refine L_ret ?_
              obtain rfl := Option.some.inj h
              exact E_endF (.inr rfl) (res_tmp rfl res_nil) (vw_cons (vd_one vc_v) vw_nil) (fun h hb => own_p) rfl rfl
            · replace h := ifT (by decide) h
              refine ol_put rfl rfl rfl (q_move (v := .one (iC .i64 n71)) rfl) ?_
              refine ol_put rfl rfl rfl (q_move (v := .one (iC .i64 n76)) rfl) ?_
              by_cases c86 : n71 = n76
              · replace h := ifT c86 h
                refine ol_put rfl rfl rfl (q_bin rfl rfl (p_eql_t _ _ _ _ _ c86) rfl) ?_
                refine ol_put rfl rfl rfl (q_pickT (v := .one (bC true)) rfl rfl) ?_
                refine ol_put rfl rfl rfl (q_assign (v := .one (bC true)) rfl) ?_
                refine ol_end ?_
                refine E_seq ?_
                refine L_ret ?_
                obtain rfl := Option.some.inj h
                exact E_endF (.inr rfl) (res_tmp rfl res_nil) (vw_cons (vd_one vc_v) vw_nil) (fun h hb => own_p) rfl rfl
              · replace h := ifF c86 h
                refine ol_put rfl rfl rfl (q_bin rfl rfl (p_eql_f _ _ _ _ _ c86) rfl) ?_
                refine ol_put rfl rfl rfl (q_pickT (v := .one (bC false)) rfl rfl) ?_
                refine ol_put rfl rfl rfl (q_assign (v := .one (bC false)) rfl) ?_
                refine ol_end ?_
                refine E_seq ?_
                refine L_ret ?_
                obtain rfl := Option.some.inj h
                exact E_endF (.inr rfl) (res_tmp rfl res_nil) (vw_cons (vd_one vc_v) vw_nil) (fun h hb => own_p) rfl rfl
          · replace h := ifF c83 h
            refine ol_put rfl rfl rfl (q_bin rfl rfl (p_eql_f _ _ _ _ _ c83) rfl) ?_
            refine ol_put rfl rfl rfl (q_pickT (v := .one (bC false)) rfl rfl) ?_
            refine ol_put rfl rfl rfl (q_move (v := .one (bC false)) rfl) ?_
            refine ol_skip rfl rfl rfl ?_
            refine ol_skip rfl rfl rfl ?_
            refine ol_skip rfl rfl rfl ?_
            refine ol_put rfl rfl rfl (q_pickF (v := .one (bC false)) rfl rfl) ?_
            refine ol_put rfl rfl rfl (q_move (v := .one (bC false)) rfl) ?_
            refine ol_skip rfl rfl rfl ?_
            refine ol_skip rfl rfl rfl ?_
            refine ol_skip rfl rfl rfl ?_
            refine ol_put rfl rfl rfl (q_pickF (v := .one (bC false)) rfl rfl) ?_
            refine ol_put rfl rfl rfl (q_assign (v := .one (bC false)) rfl) ?_
            refine ol_end ?_
            refine E_seq ?_
            refine L_ret ?_
            obtain rfl := Option.some.inj h
            exact E_endF (.inr rfl) (res_tmp rfl res_nil) (vw_cons (vd_one vc_v) vw_nil) (fun h hb => own_p) rfl rfl
  · replace h := ifF c25 h
    refine ol_put rfl rfl rfl (q_bin rfl rfl (p_gtr_f _ _ _ _ _ c25) rfl) ?_
    refine ol_put rfl rfl rfl (q_move (v := .one (bC false)) rfl) ?_
    refine ol_skip rfl rfl rfl ?_
    refine ol_skip rfl rfl rfl ?_
    refine ol_skip rfl rfl rfl ?_
    refine ol_put rfl rfl rfl (q_pickF (v := .one (bC false)) rfl rfl) ?_
    refine ol_end ?_
    refine E_seq ?_
    refine L_condF rfl ?_
    refine L_skip ?_
    refine E_seq ?_
    refine L_seq ?_
    refine L_ops ?_
    refine ol_put rfl rfl rfl (q_loadP (v := .agg [iC .i64 n18, .p fr20 (Sl.t r33 s19)]) 1 rfl sz25 rfl rfl rfl rfl) ?_
    refine ol_put rfl rfl rfl (q_move (v := .one (.p false (Sl.t r3 s5))) rfl) ?_
    obtain ⟨⟨⟨n88, s89⟩, n90⟩, h87, h⟩ := bindS h
    refine ol_put rfl rfl rfl (q_callF (v := .tup [.agg [iC .i64 n88, .p true (Sl.t r33 s89)], .one (iC .i64 n90)]) (args := [.agg [iC .i64 n18, .p fr20 (Sl.t r33 s19)], .one (.p false (Sl.t r3 s5))]) (fold_Select_r (m + 0) h87) rfl rfl (vw_cons (vd_agg (vc_cons vc_v (vc_cons vc_s vc_nil))) (vw_cons (vd_one vc_s) vw_nil)) rfl rfl) ?_
    refine ol_put rfl rfl rfl (q_move (v := .tup [.agg [iC .i64 n88, .p true (Sl.t r33 s89)], .one (iC .i64 n90)]) rfl) ?_
    refine ol_put rfl rfl rfl (q_ext (v := .agg [iC .i64 n88, .p true (Sl.t r33 s89)]) rfl rfl) ?_
    refine ol_put rfl rfl rfl (q_ext (v := .one (iC .i64 n90)) rfl rfl) ?_
    refine ol_new rfl rfl rfl (q_alloc ty25 (row := [iC .i64 0, .p true (Sl.t r33 (⟨false, 0, []⟩ : Sl (Int × Int)))]) rfl rfl) (fun k91 => ?_)
    refine ol_wr rfl rfl (q_store (es' := [[iC .i64 n88, .p true (Sl.t r33 s89)]]) 0 rfl rfl rfl sz25 rfl rfl rfl rfl rfl) rfl ?_
    refine ol_put rfl rfl rfl (q_assign (v := .one (iC .i64 n90)) rfl) ?_
    refine ol_end ?_
    refine E_seq ?_
    refine L_seq ?_
    refine L_ops ?_
    refine ol_put rfl rfl rfl (q_loadP (v := .agg [iC .i64 n18, .p fr20 (Sl.t r33 s19)]) 2 rfl sz25 rfl rfl rfl rfl) ?_
    refine ol_put rfl rfl rfl (q_move (v := .one (.p false (Sl.t r3 s5))) rfl) ?_
    obtain ⟨⟨⟨n93, s94⟩, n95⟩, h92, h⟩ := bindS h
    refine ol_put rfl rfl rfl (q_callF (v := .tup [.agg [iC .i64 n93, .p true (Sl.t r33 s94)], .one (iC .i64 n95)]) (args := [.agg [iC .i64 n18, .p fr20 (Sl.t r33 s19)], .one (.p false (Sl.t r3 s5))]) (ref12_Select_r (m + 0) h92) rfl rfl (vw_cons (vd_agg (vc_cons vc_v (vc_cons vc_s vc_nil))) (vw_cons (vd_one vc_s) vw_nil)) rfl rfl) ?_
    refine ol_put rfl rfl rfl (q_move (v := .tup [.agg [iC .i64 n93, .p true (Sl.t r33 s94)], .one (iC .i64 n95)]) rfl) ?_
    refine ol_put rfl rfl rfl (q_ext (v := .agg [iC .i64 n93, .p true (Sl.t r33 s94)]) rfl rfl) ?_
    refine ol_put rfl rfl rfl (q_ext (v := .one (iC .i64 n95)) rfl rfl) ?_
    refine ol_new rfl rfl rfl (q_alloc ty25 (row := [iC .i64 0, .p true (Sl.t r33 (⟨false, 0, []⟩ : Sl (Int × Int)))]) rfl rfl) (fun k96 => ?_)
    refine ol_wr rfl rfl (q_store (es' := [[iC .i64 n93, .p true (Sl.t r33 s94)]]) 0 rfl rfl rfl sz25 rfl rfl rfl rfl rfl) rfl ?_
    refine ol_put rfl rfl rfl (q_assign (v := .one (iC .i64 n95)) rfl) ?_
    refine ol_end ?_
    refine E_seq ?_
    refine L_seq ?_
    refine L_ops ?_
    refine ol_put rfl rfl rfl (q_loadP (v := .agg [iC .i64 n18, .p fr20 (Sl.t r33 s19)]) 3 rfl sz25 rfl rfl rfl rfl) ?_
    refine ol_put rfl rfl rfl (q_move (v := .one (.p false (Sl.t r3 s5))) rfl) ?_
    refine ol_put rfl rfl rfl (q_loadP (v := .agg [iC .i64 n22, .p fr24 (Sl.t r33 s23)]) 2 rfl sz25 rfl rfl rfl rfl) ?_
    obtain ⟨⟨⟨n98, s99⟩, n100⟩, h97, h⟩ := bindS h
    refine ol_put rfl rfl rfl (q_callF (v := .tup [.agg [iC .i64 n98, .p true (Sl.t r33 s99)], .one (iC .i64 n100)]) (args := [.agg [iC .i64 n18, .p fr20 (Sl.t r33 s19)], .one (.p false (Sl.t r3 s5)), .agg [iC .i64 n22, .p fr24 (Sl.t r33 s23)]]) (fold_Assign_r (m + 0) h97) rfl rfl (vw_cons (vd_agg (vc_cons vc_v (vc_cons vc_s vc_nil))) (vw_cons (vd_one vc_s) (vw_cons (vd_agg (vc_cons vc_v (vc_cons vc_s vc_nil))) vw_nil))) rfl rfl) ?_
    refine ol_put rfl rfl rfl (q_move (v := .tup [.agg [iC .i64 n98, .p true (Sl.t r33 s99)], .one (iC .i64 n100)]) rfl) ?_
    refine ol_put rfl rfl rfl (q_ext (v := .agg [iC .i64 n98, .p true (Sl.t r33 s99)]) rfl rfl) ?_
    refine ol_put rfl rfl rfl (q_ext (v := .one (iC .i64 n100)) rfl rfl) ?_
    refine ol_new rfl rfl rfl (q_alloc ty25 (row := [iC .i64 0, .p true (Sl.t r33 (⟨false, 0, []⟩ : Sl (Int × Int)))]) rfl rfl) (fun k101 => ?_)
    refine ol_wr rfl rfl (q_store (es' := [[iC .i64 n98, .p true (Sl.t r33 s99)]]) 0 rfl rfl rfl sz25 rfl rfl rfl rfl rfl) rfl ?_
    refine ol_put rfl rfl rfl (q_assign (v := .one (iC .i64 n100)) rfl) ?_
    refine ol_end ?_
    refine E_seq ?_
    refine L_seq ?_
    refine L_ops ?_
    refine ol_put rfl rfl rfl (q_loadP (v := .agg [iC .i64 n18, .p fr20 (Sl.t r33 s19)]) 4 rfl sz25 rfl rfl rfl rfl) ?_
    refine ol_put rfl rfl rfl (q_move (v := .one (.p false (Sl.t r3 s5))) rfl) ?_
    refine ol_put rfl rfl rfl (q_loadP (v := .agg [iC .i64 n22, .p fr24 (Sl.t r33 s23)]) 3 rfl sz25 rfl rfl rfl rfl) ?_
    obtain ⟨⟨⟨n103, s104⟩, n105⟩, h102, h⟩ := bindS h
    refine ol_putX rfl rfl rfl (q_callX (v := fun fr106 => .tup [.agg [iC .i64 n103, .p fr106 (Sl.t r33 s104)], .one (iC .i64 n105)]) (args := [.agg [iC .i64 n18, .p fr20 (Sl.t r33 s19)], .one (.p false (Sl.t r3 s5)), .agg [iC .i64 n22, .p fr24 (Sl.t r33 s23)]]) (ref12_Assign_r (m + 0) h102) rfl rfl (vw_cons (vd_agg (vc_cons vc_v (vc_cons vc_s vc_nil))) (vw_cons (vd_one vc_s) (vw_cons (vd_agg (vc_cons vc_v (vc_cons vc_s vc_nil))) vw_nil))) rfl rfl (fun fr => rfl)) (fun fr106 => ?_)
    refine ol_put rfl rfl rfl (q_move (v := .tup [.agg [iC .i64 n103, .p fr106 (Sl.t r33 s104)], .one (iC .i64 n105)]) rfl) ?_
    refine ol_put rfl rfl rfl (q_ext (v := .agg [iC .i64 n103, .p fr106 (Sl.t r33 s104)]) rfl rfl) ?_
    refine ol_put rfl rfl rfl (q_ext (v := .one (iC .i64 n105)) rfl rfl) ?_
    refine ol_new rfl rfl rfl (q_alloc ty25 (row := [iC .i64 0, .p true (Sl.t r33 (⟨false, 0, []⟩ : Sl (Int × Int)))]) rfl rfl) (fun k107 => ?_)
    refine ol_wr rfl rfl (q_store (es' := [[iC .i64 n103, .p fr106 (Sl.t r33 s104)]]) 0 rfl rfl rfl sz25 rfl rfl rfl rfl rfl) rfl ?_
    refine ol_put rfl rfl rfl (q_assign (v := .one (iC .i64 n105)) rfl) ?_
    refine ol_end ?_
    refine E_seq ?_
    refine L_seq ?_
    refine L_ops ?_
    obtain ⟨b109, h108, h⟩ := bindS h
    refine ol_put rfl rfl rfl (q_callF (v := .one (bC b109)) (args := []) (FL_r (m + 3) h108) rfl rfl vw_nil rfl rfl) ?_
    refine ol_put rfl rfl rfl (q_move (v := .one (bC b109)) rfl) ?_
    rcases b109 with _ | _
    · replace h := ifF (by decide) h
      refine ol_skip rfl rfl rfl ?_
      refine ol_skip rfl rfl rfl ?_
      refine ol_skip rfl rfl rfl ?_
      refine ol_put rfl rfl rfl (q_pickF (v := .one (bC false)) rfl rfl) ?_
      refine ol_put rfl rfl rfl (q_move (v := .one (bC false)) rfl) ?_
      refine ol_skip rfl rfl rfl ?_
      refine ol_skip rfl rfl rfl ?_
      refine ol_skip rfl rfl rfl ?_
      refine ol_put rfl rfl rfl (q_pickF (v := .one (bC false)) rfl rfl) ?_
      refine ol_put rfl rfl rfl (q_move (v := .one (bC false)) rfl) ?_
      refine ol_skip rfl rfl rfl ?_
      refine ol_skip rfl rfl rfl ?_
      refine ol_skip rfl rfl rfl ?_
      refine ol_put rfl rfl rfl (q_pickF (v := .one (bC false)) rfl rfl) ?_
      refine ol_put rfl rfl rfl (q_move (v := .one (bC false)) rfl) ?_
      refine ol_skip rfl rfl rfl ?_
      refine ol_skip rfl rfl rfl ?_
      refine ol_skip rfl rfl rfl ?_
      refine ol_put rfl rfl rfl (q_pickF (v := .one (bC false)) rfl rfl) ?_
      refine ol_put rfl rfl rfl (q_assign (v := .one (bC false)) rfl) ?_
      refine ol_end ?_
      refine E_seq ?_
      refine L_ret ?_
      obtain rfl := Option.some.inj h
      exact E_endF (.inr rfl) (res_tmp rfl res_nil) (vw_cons (vd_one vc_v) vw_nil) (fun h hb => own_p) rfl rfl
    · replace h := ifT (by decide) h
      refine ol_put rfl rfl rfl (q_loadP (v := .agg [iC .i64 n88, .p true (Sl.t r33 s89)]) 3 rfl sz25 rfl rfl rfl rfl) ?_
      refine ol_put rfl rfl rfl (q_loadP (v := .agg [iC .i64 n93, .p true (Sl.t r33 s94)]) 2 rfl sz25 rfl rfl rfl rfl) ?_
      obtain ⟨b111, h110, h⟩ := bindS h
      refine ol_put rfl rfl rfl (q_callF (v := .one (bC b111)) (args := [.agg [iC .i64 n88, .p true (Sl.t r33 s89)], .agg [iC .i64 n93, .p true (Sl.t r33 s94)]]) (ref09_Same_r (m + 2) h110) rfl rfl (vw_cons (vd_agg (vc_cons vc_v (vc_cons vc_s vc_nil))) (vw_cons (vd_agg (vc_cons vc_v (vc_cons vc_s vc_nil))) vw_nil)) rfl rfl) ?_
      refine ol_put rfl rfl rfl (q_pickT (v := .one (bC b111)) rfl rfl) ?_
      refine ol_put rfl rfl rfl (q_move (v := .one (bC b111)) rfl) ?_
      rcases b111 with _ | _
      · replace h := ifF (by decide) h
        refine ol_skip rfl rfl rfl ?_
        refine ol_skip rfl rfl rfl ?_
        refine ol_skip rfl rfl rfl ?_
        refine ol_put rfl rfl rfl (q_pickF (v := .one (bC false)) rfl rfl) ?_
        refine ol_put rfl rfl rfl (q_move (v := .one (bC false)) rfl) ?_
        refine ol_skip rfl rfl rfl ?_
        refine ol_skip rfl rfl rfl ?_
        refine ol_skip rfl rfl rfl ?_
        refine ol_put rfl rfl rfl (q_pickF (v := .one (bC false)) rfl rfl) ?_
        refine ol_put rfl rfl rfl (q_move (v := .one (bC false)) rfl) ?_
        refine ol_skip rfl rfl rfl ?_
        refine ol_skip rfl rfl rfl ?_
        refine ol_skip rfl rfl rfl ?_
        refine ol_put rfl rfl rfl (q_pickF (v := .one (bC false)) rfl rfl) ?_
        refine ol_put rfl rfl rfl (q_assign (v := .one (bC false)) rfl) ?_
        refine ol_end ?_
        refine E_seq ?_
        refine L_ret ?_
        obtain rfl := Option.some.inj h
        exact E_endF (.inr rfl) (res_tmp rfl res_nil) (vw_cons (vd_one vc_v) vw_nil) (fun h hb => own_p) rfl rfl
      · replace h := ifT (by decide) h
        refine ol_put rfl rfl rfl (q_move (v := .one (iC .i64 n90)) rfl) ?_
        refine ol_put rfl rfl rfl (q_move (v := .one (iC .i64 n95)) rfl) ?_
        by_cases c112 : n90 = n95
        · replace h := ifT c112 h
          refine ol_put rfl rfl rfl (q_bin rfl rfl (p_eql_t _ _ _ _ _ c112) rfl) ?_
          refine ol_put rfl rfl rfl (q_pickT (v := .one (bC true)) rfl rfl) ?_
          refine ol_put rfl rfl rfl (q_move (v := .one (bC true)) rfl) ?_
          refine ol_put rfl rfl rfl (q_loadP (v := .agg [iC .i64 n98, .p true (Sl.t r33 s99)]) 1 rfl sz25 rfl rfl rfl rfl) ?_
          refine ol_put rfl rfl rfl (q_loadP (v := .agg [iC .i64 n103, .p fr106 (Sl.t r33 s104)]) 0 rfl sz25 rfl rfl rfl rfl) ?_
          obtain ⟨b114, h113, h⟩ := bindS h
          refine ol_put rfl rfl rfl (q_callF (v := .one (bC b114)) (args := [.agg [iC .i64 n98, .p true (Sl.t r33 s99)], .agg [iC .i64 n103, .p fr106 (Sl.t r33 s104)]]) (ref09_Same_r (m + 2) h113) rfl rfl (vw_cons (vd_agg (vc_cons vc_v (vc_cons vc_s vc_nil))) (vw_cons (vd_agg (vc_cons vc_v (vc_cons vc_s vc_nil))) vw_nil)) rfl rfl) ?_
          refine ol_put rfl rfl rfl (q_pickT (v := .one (bC b114)) rfl rfl) ?_
          refine ol_put rfl rfl rfl (q_move (v := .one (bC b114)) rfl) ?_
          rcases b114 with _ | _
          · replace h := ifF (by decide) h
            refine ol_skip rfl rfl rfl ?_
            refine ol_skip rfl rfl rfl ?_
            refine ol_skip rfl rfl rfl ?_
            refine ol_put rfl rfl rfl (q_pickF (v := .one (bC false)) rfl rfl) ?_
            refine ol_put rfl rfl rfl (q_assign (v := .one (bC false)) rfl) ?_
            refine ol_end ?_
            refine E_seq ?_
            refine L_ret ?_
            obtain rfl := Option.some.inj h
            exact E_endF (.inr rfl) (res_tmp rfl res_nil) (vw_cons (vd_one vc_v) vw_nil) (fun h hb => own_p) rfl rfl
          · replace h := ifT (by decide) h
            refine ol_put rfl rfl rfl (q_move (v := .one (iC .i64 n100)) rfl) ?_
            refine ol_put rfl rfl rfl (q_move (v := .one (iC .i64 n105)) rfl) ?_
            by_cases c115 : n100 = n105
            · replace h := ifT c115 h
              refine ol_put rfl rfl rfl (q_bin rfl rfl (p_eql_t _ _ _ _ _ c115) rfl) ?_
              refine ol_put rfl rfl rfl (q_pickT (v := .one (bC true)) rfl rfl) ?_
              refine ol_put rfl rfl rfl (q_assign (v := .one (bC true)) rfl) ?_
              refine ol_end ?_
              refine E_seq ?_
              refine L_ret ?_
              obtain rfl := Option.some.inj h
              exact E_endF (.inr rfl) (res_tmp rfl res_nil) (vw_cons (vd_one vc_v) vw_nil) (fun h hb => own_p) rfl rfl
            · replace h := ifF c115 h
              refine ol_put rfl rfl rfl (q_bin rfl rfl (p_eql_f _ _ _ _ _ c115) rfl) ?_
              refine ol_put rfl rfl rfl (q_pickT (v := .one (bC false)) rfl rfl) ?_
              refine ol_put rfl rfl rfl (q_assign (v := .one (bC false)) rfl) ?_
              refine ol_end ?_
              refine E_seq ?_
              refine L_ret ?_
              obtain rfl := Option.some.inj h
              exact E_endF (.inr rfl) (res_tmp rfl res_nil) (vw_cons (vd_one vc_v) vw_nil) (fun h hb => own_p) rfl rfl
        · replace h := ifF c112 h
          refine ol_put rfl rfl rfl (q_bin rfl rfl (p_eql_f _ _ _ _ _ c112) rfl) ?_
          refine ol_put rfl rfl rfl (q_pickT (v := .one (bC false)) rfl rfl) ?_
          refine ol_put rfl rfl rfl (q_move (v := .one (bC false)) rfl) ?_
          refine ol_skip rfl rfl rfl ?_
          refine ol_skip rfl rfl rfl ?_
          refine ol_skip rfl rfl rfl ?_
          refine ol_put rfl rfl rfl (q_pickF (v := .one (bC false)) rfl rfl) ?_
          refine ol_put rfl rfl rfl (q_move (v := .one (bC false)) rfl) ?_
          refine ol_skip rfl rfl rfl ?_
          refine ol_skip rfl rfl rfl ?_
          refine ol_skip rfl rfl rfl ?_
          refine ol_put rfl rfl rfl (q_pickF (v := .one (bC false)) rfl rfl) ?_
          refine ol_put rfl rfl rfl (q_assign (v := .one (bC false)) rfl) ?_
          refine ol_end ?_
          refine E_seq ?_
          refine L_ret ?_
          obtain rfl := Option.some.inj h
          exact E_endF (.inr rfl) (res_tmp rfl res_nil) (vw_cons (vd_one vc_v) vw_nil) (fun h hb => own_p) rfl rfl

noncomputable def ref05_below (a0 : Int × Int × Int) (a1 : Int × Int × Int) : Option (Bool) :=
  match a0, a1 with
  | (n1, n2, n3), (n4, n5, n6) => (if n1 < n4 then some true else (if n1 = n4 then (if n2 < n5 then some true else some false) else some false))
theorem ref05_below_r (m : Nat) {a0 : Int × Int × Int} {a1 : Int × Int × Int} {out : Bool} (h : ref05_below a0 a1 = some out) : RunsP E1 (m + 1) 80 [.agg (r98 a0), .agg (r98 a1)] (.fresh, [.one (bT out)]) := by
  obtain ⟨n1, n2, n3⟩ := a0
  obtain ⟨n4, n5, n6⟩ := a1
  refine fn_F rfl (by rw [E1_fn]; exact show fiOf Try.prog 80 = _ by unfold fiOf; rw [Try.func80]; unfold Try.f80; rfl) rfl ?_
  dsimp only
  unfold ref05_below at h
  refine L_seq ?_
  refine L_ops ?_
  refine ol_new rfl rfl rfl (q_box ty99 rfl (cs := [iC .i64 n1, iC .i64 n2, iC .i64 n3]) rfl rfl) (fun k7 => ?_)
  refine ol_new rfl rfl rfl (q_box ty99 rfl (cs := [iC .i64 n4, iC .i64 n5, iC .i64 n6]) rfl rfl) (fun k8 => ?_)
  refine ol_put rfl rfl rfl (q_assign (v := .one (bC false)) rfl) ?_
  refine ol_end ?_
  refine E_seq ?_
  refine L_seq ?_
  refine L_ops ?_
  refine ol_put rfl rfl rfl (q_fieldP rfl fa99_0 rfl) ?_
  refine ol_put rfl rfl rfl (q_loadP (v := .one (iC .i64 n1)) 1 rfl sz3 rfl rfl rfl rfl) ?_
  refine ol_put rfl rfl rfl (q_fieldP rfl fa99_0 rfl) ?_
  refine ol_put rfl rfl rfl (q_loadP (v := .one (iC .i64 n4)) 0 rfl sz3 rfl rfl rfl rfl) ?_
  by_cases c9 : n1 < n4
  · replace h := ifT c9 h
    refine ol_put rfl rfl rfl (q_bin rfl rfl (p_lss_t _ _ _ _ _ c9) rfl) ?_
    refine ol_put rfl rfl rfl (q_move (v := .one (bC true)) rfl) ?_
    refine ol_skip rfl rfl rfl ?_
    refine ol_skip rfl rfl rfl ?_
    refine ol_skip rfl rfl rfl ?_
    refine ol_skip rfl rfl rfl ?_
    refine ol_skip rfl rfl rfl ?_
    refine ol_skip rfl rfl rfl ?_
    refine ol_skip rfl rfl rfl ?_
    refine ol_skip rfl rfl rfl ?_
    refine ol_skip rfl rfl rfl ?_
    refine ol_skip rfl rfl rfl ?_
    refine ol_skip rfl rfl rfl ?_
    refine ol_skip rfl rfl rfl ?_
    refine ol_put rfl rfl rfl (q_pickT (v := .one (bC true)) rfl rfl) ?_
    refine ol_put rfl rfl rfl (q_assign (v := .one (bC true)) rfl) ?_
    refine ol_end ?_
    refine E_seq ?_
    refine L_ret ?_
    obtain rfl := Option.some.inj h
    exact E_endF (.inr rfl) (res_tmp rfl res_nil) (vw_cons (vd_one vc_v) vw_nil) (fun h hb => own_p) rfl rfl
  · replace h := ifF c9 h
    refine ol_put rfl rfl rfl (q_bin rfl rfl (p_lss_f _ _ _ _ _ c9) rfl) ?_
    refine ol_put rfl rfl rfl (q_move (v := .one (bC false)) rfl) ?_
    refine ol_put rfl rfl rfl (q_fieldP rfl fa99_0 rfl) ?_
    refine ol_put rfl rfl rfl (q_loadP (v := .one (iC .i64 n1)) 1 rfl sz3 rfl rfl rfl rfl) ?_
    refine ol_put rfl rfl rfl (q_fieldP rfl fa99_0 rfl) ?_
    refine ol_put rfl rfl rfl (q_loadP (v := .one (iC .i64 n4)) 0 rfl sz3 rfl rfl rfl rfl) ?_
    by_cases c10 : n1 = n4
    · replace h := ifT c10 h
      refine ol_put rfl rfl rfl (q_bin rfl rfl (p_eql_t _ _ _ _ _ c10) rfl) ?_
      refine ol_put rfl rfl rfl (q_move (v := .one (bC true)) rfl) ?_
      refine ol_put rfl rfl rfl (q_fieldP rfl fa99_1 rfl) ?_
      refine ol_put rfl rfl rfl (q_loadP (v := .one (iC .i64 n2)) 1 rfl sz3 rfl rfl rfl rfl) ?_
      refine ol_put rfl rfl rfl (q_fieldP rfl fa99_1 rfl) ?_
      refine ol_put rfl rfl rfl (q_loadP (v := .one (iC .i64 n5)) 0 rfl sz3 rfl rfl rfl rfl) ?_
      by_cases c11 : n2 < n5
      · replace h := ifT c11 h
        refine ol_put rfl rfl rfl (q_bin rfl rfl (p_lss_t _ _ _ _ _ c11) rfl) ?_
        refine ol_put rfl rfl rfl (q_pickT (v := .one (bC true)) rfl rfl) ?_
        refine ol_put rfl rfl rfl (q_pickF (v := .one (bC true)) rfl rfl) ?_
        refine ol_put rfl rfl rfl (q_assign (v := .one (bC true)) rfl) ?_
        refine ol_end ?_
        refine E_seq ?_
        refine L_ret ?_
        obtain rfl := Option.some.inj h
        exact E_endF (.inr rfl) (res_tmp rfl res_nil) (vw_cons (vd_one vc_v) vw_nil) (fun h hb => own_p) rfl rfl
      · replace h := ifF c11 h
        refine ol_put rfl rfl rfl (q_bin rfl rfl (p_lss_f _ _ _ _ _ c11) rfl) ?_
        refine ol_put rfl rfl rfl (q_pickT (v := .one (bC false)) rfl rfl) ?_
        refine ol_put rfl rfl rfl (q_pickF (v := .one (bC false)) rfl rfl) ?_
        refine ol_put rfl rfl rfl (q_assign (v := .one (bC false)) rfl) ?_
        refine ol_end ?_
        refine E_seq ?_
        refine L_ret ?_
        obtain rfl := Option.some.inj h
        exact E_endF (.inr rfl) (res_tmp rfl res_nil) (vw_cons (vd_one vc_v) vw_nil) (fun h hb => own_p) rfl rfl
    · replace h := ifF c10 h
      refine ol_put rfl rfl rfl (q_bin rfl rfl (p_eql_f _ _ _ _ _ c10) rfl) ?_
      refine ol_put rfl rfl rfl (q_move (v := .one (bC false)) rfl) ?_
      refine ol_skip rfl rfl rfl ?_
      refine ol_skip rfl rfl rfl ?_
      refine ol_skip rfl rfl rfl ?_
      refine ol_skip rfl rfl rfl ?_
      refine ol_skip rfl rfl rfl ?_
      refine ol_put rfl rfl rfl (q_pickF (v := .one (bC false)) rfl rfl) ?_
      refine ol_put rfl rfl rfl (q_pickF (v := .one (bC false)) rfl rfl) ?_
      refine ol_put rfl rfl rfl (q_assign (v := .one (bC false)) rfl) ?_
      refine ol_end ?_
      refine E_seq ?_
      refine L_ret ?_
      obtain rfl := Option.some.inj h
      exact E_endF (.inr rfl) (res_tmp rfl res_nil) (vw_cons (vd_one vc_v) vw_nil) (fun h hb => own_p) rfl rfl
end Ev
end Go.Proofs.Ytioagbejilllfaa
