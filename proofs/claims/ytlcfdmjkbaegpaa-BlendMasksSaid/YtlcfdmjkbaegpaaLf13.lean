/- Functions of the program as functions on data, and that they are. -/
import Derived.Test.YtlcfdmjkbaegpaaLf6
import Derived.Test.YtlcfdmjkbaegpaaLy1
import Derived.Test.YtlcfdmjkbaegpaaLy2
namespace Go.Proofs.Ytlcfdmjkbaegpaa
namespace Ev
open Go
set_option linter.unusedVariables false
set_option linter.unusedSimpArgs false
set_option maxRecDepth 100000
set_option maxHeartbeats 1000000
attribute [local irreducible] OpsL StL TnL WpL EndL
noncomputable def ref09_Put_b1 (n3 : Int) (s9 : Sl (Int × Int)) (a : Int × (List (Int × Int))) : Option ((Int × (List (Int × Int))) ⊕ ((List (Int × Int)) ⊕ (Int × (Sl (Int × Int))))) :=
  match a with
  | (n37, l38) => (if n37 < ((s9.l.length : Nat) : Int) then ((atS 2 s9 n37).bind fun (n43, n44) => (if n43 ≠ n3 then ((app l38 ([(n43, n44)] : List (Int × Int))).bind fun _ => some (.inl ((IntKind.i64.wrap (n37 + 1)), (l38 ++ ([(n43, n44)] : List (Int × Int)))))) else some (.inl ((IntKind.i64.wrap (n37 + 1)), l38)))) else some (.inr (.inl l38)))
noncomputable def ref09_Put_b2 (n3 : Int) (s9 : Sl (Int × Int)) (a : Int × (List (Int × Int))) : Option ((Int × (List (Int × Int))) ⊕ ((List (Int × Int)) ⊕ (Int × (Sl (Int × Int))))) :=
  match a with
  | (n76, l77) => (if n76 < ((s9.l.length : Nat) : Int) then ((atS 2 s9 n76).bind fun (n82, n83) => (if n82 ≠ n3 then ((app l77 ([(n82, n83)] : List (Int × Int))).bind fun _ => some (.inl ((IntKind.i64.wrap (n76 + 1)), (l77 ++ ([(n82, n83)] : List (Int × Int)))))) else some (.inl ((IntKind.i64.wrap (n76 + 1)), l77)))) else some (.inr (.inl l77)))
noncomputable def ref09_Put_b3 (n3 : Int) (n4 : Int) (s9 : Sl (Int × Int)) (a : Bool × Int × (List (Int × Int))) : Option ((Bool × Int × (List (Int × Int))) ⊕ ((Bool × (List (Int × Int))) ⊕ (Int × (Sl (Int × Int))))) :=
  match a with
  | (b140, n141, l142) => (if n141 < ((s9.l.length : Nat) : Int) then (if b140 = true then ((atS 2 s9 n141).bind fun (n163, n164) => (if n163 ≠ n3 then ((app l142 ([(n163, n164)] : List (Int × Int))).bind fun _ => some (.inl (true, (IntKind.i64.wrap (n141 + 1)), (l142 ++ ([(n163, n164)] : List (Int × Int)))))) else some (.inl (true, (IntKind.i64.wrap (n141 + 1)), l142)))) else ((atS 2 s9 n141).bind fun (n147, n148) => (if n147 ≥ n3 then ((app l142 ([(n3, n4)] : List (Int × Int))).bind fun _ => (if n147 ≠ n3 then ((app (l142 ++ ([(n3, n4)] : List (Int × Int))) ([(n147, n148)] : List (Int × Int))).bind fun _ => some (.inl (true, (IntKind.i64.wrap (n141 + 1)), ((l142 ++ ([(n3, n4)] : List (Int × Int))) ++ ([(n147, n148)] : List (Int × Int)))))) else some (.inl (true, (IntKind.i64.wrap (n141 + 1)), (l142 ++ ([(n3, n4)] : List (Int × Int))))))) else (if n147 ≠ n3 then ((app l142 ([(n147, n148)] : List (Int × Int))).bind fun _ => some (.inl (false, (IntKind.i64.wrap (n141 + 1)), (l142 ++ ([(n147, n148)] : List (Int × Int)))))) else some (.inl (false, (IntKind.i64.wrap (n141 + 1)), l142)))))) else some (.inr (.inl (b140, l142))))
noncomputable def ref09_Put (a0 : Int × (Sl (Int × Int))) (n3 : Int) (n4 : Int) : Option ((Int × (Sl (Int × Int)))) :=
  match a0 with
  | (n1, s2) => ((ref09_Sure (n1, s2)).bind fun (n8, s9) => (if n3 < 0 then ((loopO (ref09_Put_b1 n3 s9) (0, ([] : List (Int × Int)))).bind (Sum.elim (fun l49 => some (n8, (mo 2 l49))) (fun u => some u))) else (if n3 ≥ n8 then ((loopO (ref09_Put_b2 n3 s9) (0, ([] : List (Int × Int)))).bind (Sum.elim (fun l88 => some (n8, (mo 2 l88))) (fun u => some u))) else ((loopO (ref09_Put_b3 n3 n4 s9) (false, 0, ([] : List (Int × Int)))).bind (Sum.elim (fun ⟨b169, l170⟩ => (if b169 = true then some (n8, (mo 2 l170)) else ((app l170 ([(n3, n4)] : List (Int × Int))).bind fun _ => some (n8, (mo 2 (l170 ++ ([(n3, n4)] : List (Int × Int)))))))) (fun u => some u))))))
theorem ref09_Put_r (m : Nat) {a0 : Int × (Sl (Int × Int))} {n3 : Int} {n4 : Int} {out : (Int × (Sl (Int × Int)))} (h : ref09_Put a0 n3 n4 = some out) : RunsP E1 (m + 3) 47 [.agg (r24 a0), .one (iT .i64 n3), .one (iT .i64 n4)] (.fresh, [.agg (r24 out)]) := by
  obtain ⟨n1, s2⟩ := a0
  refine fn_F rfl (by rw [E1_fn]; exact show fiOf Try.prog 47 = _ by unfold fiOf; rw [Try.func47]; unfold Try.f47; rfl) rfl ?_
  dsimp only
  unfold ref09_Put at h
  refine L_seq ?_
  refine L_ops ?_
  refine ol_new rfl rfl rfl (q_box ty25 rfl (cs := [iC .i64 n1, .p false (Sl.t r56 s2)]) rfl rfl) (fun k5 => ?_)
  refine ol_new rfl rfl rfl (q_alloc ty25 (row := [iC .i64 0, .p true (Sl.t r56 (⟨false, 0, []⟩ : Sl (Int × Int)))]) rfl rfl) (fun k6 => ?_)
  refine ol_end ?_
  refine E_seq ?_
  refine L_seq ?_
  refine L_ops ?_
  refine ol_put rfl rfl rfl (q_loadP (v := .agg [iC .i64 n1, .p false (Sl.t r56 s2)]) 1 rfl sz25 rfl rfl rfl rfl) ?_
  obtain ⟨⟨n8, s9⟩, h7, h⟩ := bindS h
  refine ol_putX rfl rfl rfl (q_callX (v := fun fr10 => .agg [iC .i64 n8, .p fr10 (Sl.t r56 s9)]) (args := [.agg [iC .i64 n1, .p false (Sl.t r56 s2)]]) (ref09_Sure_r (m + 0) h7) rfl rfl (vw_cons (vd_agg (vc_cons vc_v (vc_cons vc_s vc_nil))) vw_nil) rfl rfl (fun fr => rfl)) (fun fr10 => ?_)
  refine ol_wr rfl rfl (q_store (es' := [[iC .i64 n8, .p fr10 (Sl.t r56 s9)]]) 1 rfl rfl rfl sz25 rfl rfl rfl rfl rfl) rfl ?_
  refine ol_end ?_
  refine E_seq ?_
  refine L_seq ?_
  refine L_ops ?_
  refine ol_put rfl rfl rfl (q_fieldP rfl fa25_0 rfl) ?_
  refine ol_put rfl rfl rfl (q_loadP (v := .one (iC .i64 n8)) 1 rfl sz3 rfl rfl rfl rfl) ?_
  refine ol_put rfl rfl rfl (q_build (cs := [iC .i64 n8, .p true (Sl.t r56 (⟨false, 0, []⟩ : Sl (Int × Int)))]) ty25 rfl pl25 rfl) ?_
  refine ol_new rfl rfl rfl (q_alloc ty25 (row := [iC .i64 0, .p true (Sl.t r56 (⟨false, 0, []⟩ : Sl (Int × Int)))]) rfl rfl) (fun k11 => ?_)
  refine ol_wr rfl rfl (q_store (es' := [[iC .i64 n8, .p true (Sl.t r56 (⟨false, 0, []⟩ : Sl (Int × Int)))]]) 0 rfl rfl rfl sz25 rfl rfl rfl rfl rfl) rfl ?_
  refine ol_end ?_
  refine E_seq ?_
  refine L_seq ?_
  refine L_ops ?_
  refine ol_put rfl rfl rfl (q_move (v := .one (iC .i64 n3)) rfl) ?_
  by_cases c12 : n3 < 0
  · replace h := ifT c12 h
    refine ol_put rfl rfl rfl (q_bin rfl rfl (p_lss_t _ _ _ _ _ c12) rfl) ?_
    refine ol_put rfl rfl rfl (q_move (v := .one (bC true)) rfl) ?_
    refine ol_skip rfl rfl rfl ?_
    refine ol_skip rfl rfl rfl ?_
    refine ol_skip rfl rfl rfl ?_
    refine ol_skip rfl rfl rfl ?_
    refine ol_put rfl rfl rfl (q_pickT (v := .one (bC true)) rfl rfl) ?_
    refine ol_put rfl rfl rfl (q_assign (v := .one (bC true)) rfl) ?_
    refine ol_end ?_
    refine E_seq ?_
    refine L_seq ?_
    refine L_seq ?_
    refine L_ops ?_
    refine ol_put rfl rfl rfl (q_assign (v := .one (iC .i64 0)) rfl) ?_
    refine ol_end ?_
    refine E_seq ?_
    refine L_block ?_
    refine L_addM (α := Int × Int) r56 2 ?_
    let S1 : (Int × (List (Int × Int))) → Nat → (Nat → D) → Nat → D := fun a kt g => ups g [(1, .one (iC .i64 n3)), (2, .one (iC .i64 n4)), (3, .one (.ptr k5 0 0)), (6, .one (.ptr k6 0 0)), (7, .one (.ptr k11 0 0)), (8, .one (bC true)), (9, .one (iC .i64 a.1))]
    let SL1 : (Int × (List (Int × Int))) → Nat → BL := fun a kt => ([[(k5, 2, [[iC .i64 n8, .p fr10 (Sl.t r56 s9)]])], [(k6, 2, [[iC .i64 0, .p true (Sl.t r56 (⟨false, 0, []⟩ : Sl (Int × Int)))]])], [(k11, 2, [[iC .i64 n8, moC a.2 kt]])], moL r56 2 a.2 kt] : BL)
    let G1 : (Int × (Sl (Int × Int))) → Ex → St → Prop := fun u => endQ E1 [.cell 6 25] (.fresh, [.agg (r24 u)])
    let Sx1 : (List (Int × Int)) → Nat → (Nat → D) → Nat → D := fun a kt g => ups g [(1, .one (iC .i64 n3)), (2, .one (iC .i64 n4)), (6, .one (.ptr k6 0 0)), (7, .one (.ptr k11 0 0)), (8, .one (bC true))]
    let SLx1 : (List (Int × Int)) → Nat → BL := fun a kt => ([[(k6, 2, [[iC .i64 0, .p true (Sl.t r56 (⟨false, 0, []⟩ : Sl (Int × Int)))]])], [(k11, 2, [[iC .i64 n8, moC a kt]])], moL r56 2 a kt] : BL)
    let J1 : ((List (Int × Int)) ⊕ (Int × (Sl (Int × Int)))) → Ex → St → Prop := JX 79 0 Sx1 SLx1 G1
    refine L_loopS (ref09_Put_b1 n3 s9) S1 SL1 J1 JX_n (0, ([] : List (Int × Int))) h 1035 (ups_self ⟨rfl, rfl, rfl, rfl, rfl, rfl, rfl, trivial⟩) [3, 2, 1, 0] (by decide) rfl ?_ ?_
    · rintro ⟨n37, l38⟩ k39 g out h
      change ref09_Put_b1 n3 s9 (n37, l38) = some out at h
      unfold ref09_Put_b1 at h
      refine L_seq ?_
      refine L_seq ?_
      refine L_ops ?_
      refine ol_put rfl rfl rfl (q_move (v := .one (iC .i64 n37)) rfl) ?_
      refine ol_put rfl rfl rfl (q_fieldP rfl fa25_1 rfl) ?_
      refine ol_put rfl rfl rfl (q_loadP (v := .one (.p fr10 (Sl.t r56 s9))) 0 rfl sz23 rfl rfl rfl rfl) ?_
      refine ol_put rfl rfl rfl (q_lenS rfl ty23 rfl rfl rfl rfl) ?_
      by_cases c40 : n37 < ((s9.l.length : Nat) : Int)
      · replace h := ifT c40 h
        refine ol_put rfl rfl rfl (q_bin rfl rfl (p_lss_t _ _ _ _ _ c40) rfl) ?_
        refine ol_end ?_
        refine E_seq ?_
        refine L_condT rfl ?_
        refine L_skip ?_
        refine E_seq ?_
        refine L_seq ?_
        refine L_block ?_
        refine L_seq ?_
        refine L_seq ?_
        refine L_ops ?_
        refine ol_put rfl rfl rfl (q_move (v := .one (bC true)) rfl) ?_
        refine ol_put rfl rfl rfl (q_not rfl) ?_
        refine ol_put rfl rfl rfl (q_move (v := .one (bC false)) rfl) ?_
        refine ol_skip rfl rfl rfl ?_
        refine ol_skip rfl rfl rfl ?_
        refine ol_skip rfl rfl rfl ?_
        refine ol_skip rfl rfl rfl ?_
        refine ol_skip rfl rfl rfl ?_
        refine ol_skip rfl rfl rfl ?_
        refine ol_skip rfl rfl rfl ?_
        refine ol_skip rfl rfl rfl ?_
        refine ol_put rfl rfl rfl (q_pickF (v := .one (bC false)) rfl rfl) ?_
        refine ol_end ?_
        refine E_seq ?_
        refine L_condF rfl ?_
        refine L_skip ?_
        refine E_seq ?_
        refine L_seq ?_
        refine L_ops ?_
        refine ol_put rfl rfl rfl (q_fieldP rfl fa25_1 rfl) ?_
        refine ol_put rfl rfl rfl (q_loadP (v := .one (.p fr10 (Sl.t r56 s9))) 0 rfl sz23 rfl rfl rfl rfl) ?_
        refine ol_put rfl rfl rfl (q_move (v := .one (iC .i64 n37)) rfl) ?_
        obtain ⟨⟨n43, n44⟩, h42, h⟩ := bindS h
        obtain ⟨h42a, h42b, h42⟩ := atS_some h42
        refine ol_put rfl rfl rfl (q_ixS rfl rfl h42a h42 (el23.trans (congrArg some h42b.symm))) ?_
        refine ol_put rfl rfl rfl (q_fieldI rfl fa57_0 rfl) ?_
        refine ol_put rfl rfl rfl (q_loadI (v := .one (iC .i64 n43)) rfl sz3 (map_get h42) rfl rfl) ?_
        refine ol_put rfl rfl rfl (q_move (v := .one (iC .i64 n3)) rfl) ?_
        by_cases c45 : n43 ≠ n3
        · replace h := ifT c45 h
          refine ol_put rfl rfl rfl (q_bin rfl rfl (p_neq_t _ _ _ _ _ c45) rfl) ?_
          refine ol_end ?_
          refine E_seq ?_
          refine L_condT rfl ?_
          refine L_norm (L2 := ([[(k5, 2, [[iC .i64 n8, .p fr10 (Sl.t r56 s9)]])], [(k6, 2, [[iC .i64 0, .p true (Sl.t r56 (⟨false, 0, []⟩ : Sl (Int × Int)))]])], [(k11, 2, [[iC .i64 n8, moC l38 k39]])], moL r56 2 l38 k39] : BL)) [0, 1, 2, 3] (by decide) rfl ?_
          refine L_turn 11 rfl [[], [], [], [], [], [], [], [], moK l38 k39, [], [k11]] [(false, []), (false, []), (false, []), (false, []), (false, []), (false, []), (false, []), (true, []), (true, []), (false, []), (false, [])] [[2, 3, 4, 5, 6, 7], [2, 3, 4, 5, 6, 7], [0, 1, 4], [0, 1, 4], [0, 1, 2, 3], [0, 1], [0, 1], [0, 1], [], [], []] (by kernel_rfl) (by kernel_rfl) (by kernel_rfl) ?_ (fun bb46 hlt hnd => ?_)
          · intro bb46 hlt hnd
            have e_k5 : k5 < bb46 := key_lt hlt 0 rfl
            have e_k6 : k6 < bb46 := key_lt hlt 1 rfl
            have e_k11 : k11 < bb46 := key_lt hlt 2 rfl
            have e_k39 : l38 = [] ∨ k39 < bb46 := key_ltM (r := r56) (w := 2) hlt 3 rfl
            have f_k39 := moK_lt e_k39
            have d_k11_k5 : k11 ≠ k5 := key_ne hnd 2 0 rfl rfl rfl
            have d_k11_k6 : k11 ≠ k6 := key_ne hnd 2 1 rfl rfl rfl
            have d_k39_k5 : k5 ∉ moK l38 k39 := key_neM (r := r56) (w := 2) hnd 3 0 rfl rfl rfl
            have g_k39_k5 := moK_ne d_k39_k5
            have d_k39_k6 : k6 ∉ moK l38 k39 := key_neM (r := r56) (w := 2) hnd 3 1 rfl rfl rfl
            have g_k39_k6 := moK_ne d_k39_k6
            have d_k39_k11 : k11 ∉ moK l38 k39 := key_neM (r := r56) (w := 2) hnd 3 2 rfl rfl rfl
            have g_k39_k11 := moK_ne d_k39_k11
            exact ⟨(by first | (simp [DJ]; done) | (simp [DJ]; omega) | (simp [DJ]; assumption) | (simp_all [DJ]; done) | (simp_all [DJ]; omega)), (by first | (simp [DJ]; done) | (simp [DJ]; omega) | (simp [DJ]; assumption) | (simp_all [DJ]; done) | (simp_all [DJ]; omega))⟩
          have e_k5 : k5 < bb46 := key_lt hlt 0 rfl
          have e_k6 : k6 < bb46 := key_lt hlt 1 rfl
          have e_k11 : k11 < bb46 := key_lt hlt 2 rfl
          have e_k39 : l38 = [] ∨ k39 < bb46 := key_ltM (r := r56) (w := 2) hlt 3 rfl
          have f_k39 := moK_lt e_k39
          have d_k11_k5 : k11 ≠ k5 := key_ne hnd 2 0 rfl rfl rfl
          have d_k11_k6 : k11 ≠ k6 := key_ne hnd 2 1 rfl rfl rfl
          have d_k39_k5 : k5 ∉ moK l38 k39 := key_neM (r := r56) (w := 2) hnd 3 0 rfl rfl rfl
          have g_k39_k5 := moK_ne d_k39_k5
          have d_k39_k6 : k6 ∉ moK l38 k39 := key_neM (r := r56) (w := 2) hnd 3 1 rfl rfl rfl
          have g_k39_k6 := moK_ne d_k39_k6
          have d_k39_k11 : k11 ∉ moK l38 k39 := key_neM (r := r56) (w := 2) hnd 3 2 rfl rfl rfl
          have g_k39_k11 := moK_ne d_k39_k11
          refine tn_put rfl rfl rfl [] (by decide) rfl hmn rfl (q_fieldP rfl fa25_1 rfl) ?_
          refine tn_put rfl rfl rfl [2] (by decide) rfl (hmc (nin_cons (ne_new (key_lt hlt 2 rfl)) nin_nil) hmn) rfl (q_loadP (v := .one (moC l38 k39)) 0 rfl sz23 rfl rfl rfl rfl) ?_
          refine tn_put rfl rfl rfl [] (by decide) rfl (hm0 rfl) rfl (q_fieldP rfl fa25_1 rfl) ?_
          refine tn_put rfl rfl rfl [0] (by decide) rfl (hm0 rfl) rfl (q_loadP (v := .one (.p fr10 (Sl.t r56 s9))) 0 rfl sz23 rfl rfl rfl rfl) ?_
          refine tn_put rfl rfl rfl [] (by decide) rfl (hm0 rfl) rfl (q_move (v := .one (iC .i64 n37)) rfl) ?_
          refine tn_put rfl rfl rfl [] (by decide) rfl (hm0 rfl) rfl (q_ixS rfl rfl h42a h42 (el23.trans (congrArg some h42b.symm))) ?_
          refine tn_put rfl rfl rfl [] (by decide) rfl (hm0 rfl) rfl (q_loadI (v := .agg [iC .i64 n43, iC .i64 n44]) rfl sz57 (map_get h42) rfl rfl) ?_
          refine tn_new rfl rfl rfl [] (by decide) rfl (hm0 rfl) rfl rfl (hkc (ne_new (key_lt hlt 0 rfl)) (hkc (ne_new (key_lt hlt 1 rfl)) (hkc (ne_new (key_lt hlt 2 rfl)) (hkM (e_k39.imp id fun h => by omega) hkn)))) (q_bslice (cs := [iC .i64 n43, iC .i64 n44]) (es := (([(n43, n44)] : List (Int × Int))).map (rowC r56)) ty23 rfl ty57 rfl rfl rfl rfl rfl) ?_
          obtain ⟨_, h48, h⟩ := bindS h
          obtain ⟨h48b, rfl⟩ := app_some h48
          refine tn_appM (r := r56) (l := l38) 0 4 rfl rfl rfl rfl [4, 0] (by decide) rfl (hm0 rfl) rfl rfl (hkc (ne_add rfl) (hkc (ne_new (key_lt hlt 0 rfl)) (hkc (ne_new (key_lt hlt 1 rfl)) (hkc (ne_new (key_lt hlt 2 rfl)) (hkM (e_k39.imp id fun h => by omega) hkn))))) rfl rfl (el_ownM (l := ([(n43, n44)] : List (Int × Int))) 1 rfl) rfl rfl h48 (fun y => rfl) el23 ty23 rfl rfl rfl rfl rfl ?_
          refine tn_put rfl rfl rfl [] (by decide) rfl (hm0 rfl) rfl (q_fieldP rfl fa25_1 rfl) ?_
          refine tn_wr rfl rfl [4] (by decide) rfl (hm0 rfl) rfl (q_store (es' := [[iC .i64 n8, moC (l38 ++ ([(n43, n44)] : List (Int × Int))) (bb46 + 8)]]) 0 rfl rfl rfl sz23 rfl rfl rfl rfl rfl) (q := 4) rfl rfl ?_
          refine tn_end ?_
          refine E_blkN ?_
          refine E_seq ?_
          refine L_ops ?_
          refine ol_put rfl rfl rfl (q_move (v := .one (iC .i64 n37)) rfl) ?_
          refine ol_put rfl rfl rfl (q_bin rfl rfl (p_add _ _ _ _ _ _ _) rfl) ?_
          refine ol_put rfl rfl rfl (q_assign (v := .one (iC .i64 (IntKind.i64.wrap (n37 + 1)))) rfl) ?_
          refine ol_end ?_
          obtain rfl := Option.some.inj h
          exact E_next (bb46 + 8) (ups_self ⟨rfl, rfl, rfl, rfl, rfl, rfl, rfl, trivial⟩) [2, 3, 4, 0] (by decide) rfl
        · replace h := ifF c45 h
          refine ol_put rfl rfl rfl (q_bin rfl rfl (p_neq_f _ _ _ _ _ c45) rfl) ?_
          refine ol_end ?_
          refine E_seq ?_
          refine L_condF rfl ?_
          refine L_skip ?_
          refine E_blkN ?_
          refine E_seq ?_
          refine L_ops ?_
          refine ol_put rfl rfl rfl (q_move (v := .one (iC .i64 n37)) rfl) ?_
          refine ol_put rfl rfl rfl (q_bin rfl rfl (p_add _ _ _ _ _ _ _) rfl) ?_
          refine ol_put rfl rfl rfl (q_assign (v := .one (iC .i64 (IntKind.i64.wrap (n37 + 1)))) rfl) ?_
          refine ol_end ?_
          obtain rfl := Option.some.inj h
          exact E_next k39 (ups_self ⟨rfl, rfl, rfl, rfl, rfl, rfl, rfl, trivial⟩) [0, 1, 2, 3] (by decide) rfl
      · replace h := ifF c40 h
        refine ol_put rfl rfl rfl (q_bin rfl rfl (p_lss_f _ _ _ _ _ c40) rfl) ?_
        refine ol_end ?_
        refine E_seq ?_
        refine L_condF rfl ?_
        refine L_exit ?_
        refine E_seqX ?_
        obtain rfl := Option.some.inj h
        refine E_out ?_
        exact (E_exit k39 (ups_self ⟨rfl, rfl, rfl, rfl, rfl, trivial⟩) [1, 2, 3] (by decide) rfl)
    · rintro (l49 | u) h
      · refine J_x (fun k50 g => ?_)
        replace h := elimL h
        refine E_blkH ?_
        refine E_seq ?_
        refine L_seq ?_
        refine L_seq ?_
        refine L_ops ?_
        refine ol_put rfl rfl rfl (q_move (v := .one (bC true)) rfl) ?_
        refine ol_put rfl rfl rfl (q_not rfl) ?_
        refine ol_end ?_
        refine E_seq ?_
        refine L_condF rfl ?_
        refine L_skip ?_
        refine E_seq ?_
        refine L_seq ?_
        refine L_ops ?_
        refine ol_put rfl rfl rfl (q_loadP (v := .agg [iC .i64 n8, moC l49 k50]) 1 rfl sz25 rfl rfl rfl rfl) ?_
        refine ol_wr rfl rfl (q_store (es' := [[iC .i64 n8, moC l49 k50]]) 0 rfl rfl rfl sz25 rfl rfl rfl rfl rfl) rfl ?_
        refine ol_end ?_
        refine E_seq ?_
        refine L_ret ?_
        obtain rfl := Option.some.inj h
        exact E_endF (.inr rfl) (res_cell (d := .agg [iC .i64 n8, moC l49 k50]) 0 rfl sz25 rfl rfl rfl rfl res_nil) (vw_cons (vd_agg (vc_cons vc_v (vc_cons (vc_M (r := r56) 2 rfl (fun x h m => rfl)) vc_nil))) vw_nil) (fun h hb => own_agg) rfl rfl
      · obtain rfl := Option.some.inj (elimR h)
        exact J_up (fun s hs => hs)
  · replace h := ifF c12 h
    refine ol_put rfl rfl rfl (q_bin rfl rfl (p_lss_f _ _ _ _ _ c12) rfl) ?_
    refine ol_put rfl rfl rfl (q_move (v := .one (bC false)) rfl) ?_
    refine ol_put rfl rfl rfl (q_move (v := .one (iC .i64 n3)) rfl) ?_
    refine ol_put rfl rfl rfl (q_fieldP rfl fa25_0 rfl) ?_
    refine ol_put rfl rfl rfl (q_loadP (v := .one (iC .i64 n8)) 2 rfl sz3 rfl rfl rfl rfl) ?_
    by_cases c51 : n3 ≥ n8
    · replace h := ifT c51 h
      refine ol_put rfl rfl rfl (q_bin rfl rfl (p_geq_t _ _ _ _ _ c51) rfl) ?_
      refine ol_put rfl rfl rfl (q_pickF (v := .one (bC true)) rfl rfl) ?_
      refine ol_put rfl rfl rfl (q_assign (v := .one (bC true)) rfl) ?_
      refine ol_end ?_
      refine E_seq ?_
      refine L_seq ?_
      refine L_seq ?_
      refine L_ops ?_
      refine ol_put rfl rfl rfl (q_assign (v := .one (iC .i64 0)) rfl) ?_
      refine ol_end ?_
      refine E_seq ?_
      refine L_block ?_
      refine L_addM (α := Int × Int) r56 2 ?_
      let S2 : (Int × (List (Int × Int))) → Nat → (Nat → D) → Nat → D := fun a kt g => ups g [(1, .one (iC .i64 n3)), (2, .one (iC .i64 n4)), (3, .one (.ptr k5 0 0)), (6, .one (.ptr k6 0 0)), (7, .one (.ptr k11 0 0)), (8, .one (bC true)), (9, .one (iC .i64 a.1))]
      let SL2 : (Int × (List (Int × Int))) → Nat → BL := fun a kt => ([[(k5, 2, [[iC .i64 n8, .p fr10 (Sl.t r56 s9)]])], [(k6, 2, [[iC .i64 0, .p true (Sl.t r56 (⟨false, 0, []⟩ : Sl (Int × Int)))]])], [(k11, 2, [[iC .i64 n8, moC a.2 kt]])], moL r56 2 a.2 kt] : BL)
      let G2 : (Int × (Sl (Int × Int))) → Ex → St → Prop := fun u => endQ E1 [.cell 6 25] (.fresh, [.agg (r24 u)])
      let Sx2 : (List (Int × Int)) → Nat → (Nat → D) → Nat → D := fun a kt g => ups g [(1, .one (iC .i64 n3)), (2, .one (iC .i64 n4)), (6, .one (.ptr k6 0 0)), (7, .one (.ptr k11 0 0)), (8, .one (bC true))]
      let SLx2 : (List (Int × Int)) → Nat → BL := fun a kt => ([[(k6, 2, [[iC .i64 0, .p true (Sl.t r56 (⟨false, 0, []⟩ : Sl (Int × Int)))]])], [(k11, 2, [[iC .i64 n8, moC a kt]])], moL r56 2 a kt] : BL)
      let J2 : ((List (Int × Int)) ⊕ (Int × (Sl (Int × Int)))) → Ex → St → Prop := JX 79 0 Sx2 SLx2 G2
      refine L_loopS (ref09_Put_b2 n3 s9) S2 SL2 J2 JX_n (0, ([] : List (Int × Int))) h 1074 (ups_self ⟨rfl, rfl, rfl, rfl, rfl, rfl, rfl, trivial⟩) [3, 2, 1, 0] (by decide) rfl ?_ ?_
      · rintro ⟨n76, l77⟩ k78 g out h
        change ref09_Put_b2 n3 s9 (n76, l77) = some out at h
        unfold ref09_Put_b2 at h
        refine L_seq ?_
        refine L_seq ?_
        refine L_ops ?_
        refine ol_put rfl rfl rfl (q_move (v := .one (iC .i64 n76)) rfl) ?_
        refine ol_put rfl rfl rfl (q_fieldP rfl fa25_1 rfl) ?_
        refine ol_put rfl rfl rfl (q_loadP (v := .one (.p fr10 (Sl.t r56 s9))) 0 rfl sz23 rfl rfl rfl rfl) ?_
        refine ol_put rfl rfl rfl (q_lenS rfl ty23 rfl rfl rfl rfl) ?_
        by_cases c79 : n76 < ((s9.l.length : Nat) : Int)
        · replace h := ifT c79 h
          refine ol_put rfl rfl rfl (q_bin rfl rfl (p_lss_t _ _ _ _ _ c79) rfl) ?_
          refine ol_end ?_
          refine E_seq ?_
          refine L_condT rfl ?_
          refine L_skip ?_
          refine E_seq ?_
          refine L_seq ?_
          refine L_block ?_
          refine L_seq ?_
          refine L_seq ?_
          refine L_ops ?_
          refine ol_put rfl rfl rfl (q_move (v := .one (bC true)) rfl) ?_
          refine ol_put rfl rfl rfl (q_not rfl) ?_
          refine ol_put rfl rfl rfl (q_move (v := .one (bC false)) rfl) ?_
          refine ol_skip rfl rfl rfl ?_
          refine ol_skip rfl rfl rfl ?_
          refine ol_skip rfl rfl rfl ?_
          refine ol_skip rfl rfl rfl ?_
          refine ol_skip rfl rfl rfl ?_
          refine ol_skip rfl rfl rfl ?_
          refine ol_skip rfl rfl rfl ?_
          refine ol_skip rfl rfl rfl ?_
          refine ol_put rfl rfl rfl (q_pickF (v := .one (bC false)) rfl rfl) ?_
          refine ol_end ?_
          refine E_seq ?_
          refine L_condF rfl ?_
          refine L_skip ?_
          refine E_seq ?_
          refine L_seq ?_
          refine L_ops ?_
          refine ol_put rfl rfl rfl (q_fieldP rfl fa25_1 rfl) ?_
          refine ol_put rfl rfl rfl (q_loadP (v := .one (.p fr10 (Sl.t r56 s9))) 0 rfl sz23 rfl rfl rfl rfl) ?_
          refine ol_put rfl rfl rfl (q_move (v := .one (iC .i64 n76)) rfl) ?_
          obtain ⟨⟨n82, n83⟩, h81, h⟩ := bindS h
          obtain ⟨h81a, h81b, h81⟩ := atS_some h81
          refine ol_put rfl rfl rfl (q_ixS rfl rfl h81a h81 (el23.trans (congrArg some h81b.symm))) ?_
          refine ol_put rfl rfl rfl (q_fieldI rfl fa57_0 rfl) ?_
          refine ol_put rfl rfl rfl (q_loadI (v := .one (iC .i64 n82)) rfl sz3 (map_get h81) rfl rfl) ?_
          refine ol_put rfl rfl rfl (q_move (v := .one (iC .i64 n3)) rfl) ?_
          by_cases c84 : n82 ≠ n3
          · replace h := ifT c84 h
            refine ol_put rfl rfl rfl (q_bin rfl rfl (p_neq_t _ _ _ _ _ c84) rfl) ?_
            refine ol_end ?_
            refine E_seq ?_
            refine L_condT rfl ?_
            refine L_norm (L2 := ([[(k5, 2, [[iC .i64 n8, .p fr10 (Sl.t r56 s9)]])], [(k6, 2, [[iC .i64 0, .p true (Sl.t r56 (⟨false, 0, []⟩ : Sl (Int × Int)))]])], [(k11, 2, [[iC .i64 n8, moC l77 k78]])], moL r56 2 l77 k78] : BL)) [0, 1, 2, 3] (by decide) rfl ?_
            refine L_turn 11 rfl [[], [], [], [], [], [], [], [], moK l77 k78, [], [k11]] [(false, []), (false, []), (false, []), (false, []), (false, []), (false, []), (false, []), (true, []), (true, []), (false, []), (false, [])] [[2, 3, 4, 5, 6, 7], [2, 3, 4, 5, 6, 7], [0, 1, 4], [0, 1, 4], [0, 1, 2, 3], [0, 1], [0, 1], [0, 1], [], [], []] (by kernel_rfl) (by kernel_rfl) (by kernel_rfl) ?_ (fun bb85 hlt hnd => ?_)
            · intro bb85 hlt hnd
              have e_k5 : k5 < bb85 := key_lt hlt 0 rfl
              have e_k6 : k6 < bb85 := key_lt hlt 1 rfl
              have e_k11 : k11 < bb85 := key_lt hlt 2 rfl
              have e_k78 : l77 = [] ∨ k78 < bb85 := key_ltM (r := r56) (w := 2) hlt 3 rfl
              have f_k78 := moK_lt e_k78
              have d_k11_k5 : k11 ≠ k5 := key_ne hnd 2 0 rfl rfl rfl
              have d_k11_k6 : k11 ≠ k6 := key_ne hnd 2 1 rfl rfl rfl
              have d_k78_k5 : k5 ∉ moK l77 k78 := key_neM (r := r56) (w := 2) hnd 3 0 rfl rfl rfl
              have g_k78_k5 := moK_ne d_k78_k5
              have d_k78_k6 : k6 ∉ moK l77 k78 := key_neM (r := r56) (w := 2) hnd 3 1 rfl rfl rfl
              have g_k78_k6 := moK_ne d_k78_k6
              have d_k78_k11 : k11 ∉ moK l77 k78 := key_neM (r := r56) (w := 2) hnd 3 2 rfl rfl rfl
              have g_k78_k11 := moK_ne d_k78_k11
              exact ⟨(by first | (simp [DJ]; done) | (simp [DJ]; omega) | (simp [DJ]; assumption) | (simp_all [DJ]; done) | (simp_all [DJ]; omega)), (by first | (simp [DJ]; done) | (simp [DJ]; omega) | (simp [DJ]; assumption) | (simp_all [DJ]; done) | (simp_all [DJ]; omega))⟩
            have e_k5 : k5 < bb85 := key_lt hlt 0 rfl
            have e_k6 : k6 < bb85 := key_lt hlt 1 rfl
            have e_k11 : k11 < bb85 := key_lt hlt 2 rfl
            have e_k78 : l77 = [] ∨ k78 < bb85 := key_ltM (r := r56) (w := 2) hlt 3 rfl
            have f_k78 := moK_lt e_k78
            have d_k11_k5 : k11 ≠ k5 := key_ne hnd 2 0 rfl rfl rfl
            have d_k11_k6 : k11 ≠ k6 := key_ne hnd 2 1 rfl rfl rfl
            have d_k78_k5 : k5 ∉ moK l77 k78 := key_neM (r := r56) (w := 2) hnd 3 0 rfl rfl rfl
            have g_k78_k5 := moK_ne d_k78_k5
            have d_k78_k6 : k6 ∉ moK l77 k78 := key_neM (r := r56) (w := 2) hnd 3 1 rfl rfl rfl
            have g_k78_k6 := moK_ne d_k78_k6
            have d_k78_k11 : k11 ∉ moK l77 k78 := key_neM (r := r56) (w := 2) hnd 3 2 rfl rfl rfl
            have g_k78_k11 := moK_ne d_k78_k11
            refine tn_put rfl rfl rfl [] (by decide) rfl hmn rfl (q_fieldP rfl fa25_1 rfl) ?_
            refine tn_put rfl rfl rfl [2] (by decide) rfl (hmc (nin_cons (ne_new (key_lt hlt 2 rfl)) nin_nil) hmn) rfl (q_loadP (v := .one (moC l77 k78)) 0 rfl sz23 rfl rfl rfl rfl) ?_
            refine tn_put rfl rfl rfl [] (by decide) rfl (hm0 rfl) rfl (q_fieldP rfl fa25_1 rfl) ?_
            refine tn_put rfl rfl rfl [0] (by decide) rfl (hm0 rfl) rfl (q_loadP (v := .one (.p fr10 (Sl.t r56 s9))) 0 rfl sz23 rfl rfl rfl rfl) ?_
            refine tn_put rfl rfl rfl [] (by decide) rfl (hm0 rfl) rfl (q_move (v := .one (iC .i64 n76)) rfl) ?_
            refine tn_put rfl rfl rfl [] (by decide) rfl (hm0 rfl) rfl (q_ixS rfl rfl h81a h81 (el23.trans (congrArg some h81b.symm))) ?_
            refine tn_put rfl rfl rfl [] (by decide) rfl (hm0 rfl) rfl (q_loadI (v := .agg [iC .i64 n82, iC .i64 n83]) rfl sz57 (map_get h81) rfl rfl) ?_
            refine tn_new rfl rfl rfl [] (by decide) rfl (hm0 rfl) rfl rfl (hkc (ne_new (key_lt hlt 0 rfl)) (hkc (ne_new (key_lt hlt 1 rfl)) (hkc (ne_new (key_lt hlt 2 rfl)) (hkM (e_k78.imp id fun h => by omega) hkn)))) (q_bslice (cs := [iC .i64 n82, iC .i64 n83]) (es := (([(n82, n83)] : List (Int × Int))).map (rowC r56)) ty23 rfl ty57 rfl rfl rfl rfl rfl) ?_
            obtain ⟨_, h87, h⟩ := bindS h
            obtain ⟨h87b, rfl⟩ := app_some h87
            refine tn_appM (r := r56) (l := l77) 0 4 rfl rfl rfl rfl [4, 0] (by decide) rfl (hm0 rfl) rfl rfl (hkc (ne_add rfl) (hkc (ne_new (key_lt hlt 0 rfl)) (hkc (ne_new (key_lt hlt 1 rfl)) (hkc (ne_new (key_lt hlt 2 rfl)) (hkM (e_k78.imp id fun h => by omega) hkn))))) rfl rfl (el_ownM (l := ([(n82, n83)] : List (Int × Int))) 1 rfl) rfl rfl h87 (fun y => rfl) el23 ty23 rfl rfl rfl rfl rfl ?_
            refine tn_put rfl rfl rfl [] (by decide) rfl (hm0 rfl) rfl (q_fieldP rfl fa25_1 rfl) ?_
            refine tn_wr rfl rfl [4] (by decide) rfl (hm0 rfl) rfl (q_store (es' := [[iC .i64 n8, moC (l77 ++ ([(n82, n83)] : List (Int × Int))) (bb85 + 8)]]) 0 rfl rfl rfl sz23 rfl rfl rfl rfl rfl) (q := 4) rfl rfl ?_
            refine tn_end ?_
            refine E_blkN ?_
            refine E_seq ?_
            refine L_ops ?_
            refine ol_put rfl rfl rfl (q_move (v := .one (iC .i64 n76)) rfl) ?_
            refine ol_put rfl rfl rfl (q_bin rfl rfl (p_add _ _ _ _ _ _ _) rfl) ?_
            refine ol_put rfl rfl rfl (q_assign (v := .one (iC .i64 (IntKind.i64.wrap (n76 + 1)))) rfl) ?_
            refine ol_end ?_
            obtain rfl := Option.some.inj h
            exact E_next (bb85 + 8) (ups_self ⟨rfl, rfl, rfl, rfl, rfl, rfl, rfl, trivial⟩) [2, 3, 4, 0] (by decide) rfl
          · replace h := ifF c84 h
            refine ol_put rfl rfl rfl (q_bin rfl rfl (p_neq_f _ _ _ _ _ c84) rfl) ?_
            refine ol_end ?_
            refine E_seq ?_
            refine L_condF rfl ?_
            refine L_skip ?_
            refine E_blkN ?_
            refine E_seq ?_
            refine L_ops ?_
            refine ol_put rfl rfl rfl (q_move (v := .one (iC .i64 n76)) rfl) ?_
            refine ol_put rfl rfl rfl (q_bin rfl rfl (p_add _ _ _ _ _ _ _) rfl) ?_
            refine ol_put rfl rfl rfl (q_assign (v := .one (iC .i64 (IntKind.i64.wrap (n76 + 1)))) rfl) ?_
            refine ol_end ?_
            obtain rfl := Option.some.inj h
            exact E_next k78 (ups_self ⟨rfl, rfl, rfl, rfl, rfl, rfl, rfl, trivial⟩) [0, 1, 2, 3] (by decide) rfl
        · replace h := ifF c79 h
          refine ol_put rfl rfl rfl (q_bin rfl rfl (p_lss_f _ _ _ _ _ c79) rfl) ?_
          refine ol_end ?_
          refine E_seq ?_
          refine L_condF rfl ?_
          refine L_exit ?_
          refine E_seqX ?_
          obtain rfl := Option.some.inj h
          refine E_out ?_
          exact (E_exit k78 (ups_self ⟨rfl, rfl, rfl, rfl, rfl, trivial⟩) [1, 2, 3] (by decide) rfl)
      · rintro (l88 | u) h
        · refine J_x (fun k89 g => ?_)
          replace h := elimL h
          refine E_blkH ?_
          refine E_seq ?_
          refine L_seq ?_
          refine L_seq ?_
          refine L_ops ?_
          refine ol_put rfl rfl rfl (q_move (v := .one (bC true)) rfl) ?_
          refine ol_put rfl rfl rfl (q_not rfl) ?_
          refine ol_end ?_
          refine E_seq ?_
          refine L_condF rfl ?_
          refine L_skip ?_
          refine E_seq ?_
          refine L_seq ?_
          refine L_ops ?_
          refine ol_put rfl rfl rfl (q_loadP (v := .agg [iC .i64 n8, moC l88 k89]) 1 rfl sz25 rfl rfl rfl rfl) ?_
          refine ol_wr rfl rfl (q_store (es' := [[iC .i64 n8, moC l88 k89]]) 0 rfl rfl rfl sz25 rfl rfl rfl rfl rfl) rfl ?_
          refine ol_end ?_
          refine E_seq ?_
          refine L_ret ?_
          obtain rfl := Option.some.inj h
          exact E_endF (.inr rfl) (res_cell (d := .agg [iC .i64 n8, moC l88 k89]) 0 rfl sz25 rfl rfl rfl rfl res_nil) (vw_cons (vd_agg (vc_cons vc_v (vc_cons (vc_M (r := r56) 2 rfl (fun x h m => rfl)) vc_nil))) vw_nil) (fun h hb => own_agg) rfl rfl
        · obtain rfl := Option.some.inj (elimR h)
          exact J_up (fun s hs => hs)
    · replace h := ifF c51 h
      refine ol_put rfl rfl rfl (q_bin rfl rfl (p_geq_f _ _ _ _ _ c51) rfl) ?_
      refine ol_put rfl rfl rfl (q_pickF (v := .one (bC false)) rfl rfl) ?_
      refine ol_put rfl rfl rfl (q_assign (v := .one (bC false)) rfl) ?_
      refine ol_end ?_
      refine E_seq ?_
      refine L_seq ?_
      refine L_seq ?_
      refine L_ops ?_
      refine ol_put rfl rfl rfl (q_assign (v := .one (iC .i64 0)) rfl) ?_
      refine ol_end ?_
      refine E_seq ?_
      refine L_block ?_
      refine L_addM (α := Int × Int) r56 2 ?_
      let S3 : (Bool × Int × (List (Int × Int))) → Nat → (Nat → D) → Nat → D := fun a kt g => ups g [(1, .one (iC .i64 n3)), (2, .one (iC .i64 n4)), (3, .one (.ptr k5 0 0)), (6, .one (.ptr k6 0 0)), (7, .one (.ptr k11 0 0)), (8, .one (bC a.1)), (9, .one (iC .i64 a.2.1))]
      let SL3 : (Bool × Int × (List (Int × Int))) → Nat → BL := fun a kt => ([[(k5, 2, [[iC .i64 n8, .p fr10 (Sl.t r56 s9)]])], [(k6, 2, [[iC .i64 0, .p true (Sl.t r56 (⟨false, 0, []⟩ : Sl (Int × Int)))]])], [(k11, 2, [[iC .i64 n8, moC a.2.2 kt]])], moL r56 2 a.2.2 kt] : BL)
      let G3 : (Int × (Sl (Int × Int))) → Ex → St → Prop := fun u => endQ E1 [.cell 6 25] (.fresh, [.agg (r24 u)])
      let Sx3 : (Bool × (List (Int × Int))) → Nat → (Nat → D) → Nat → D := fun a kt g => ups g [(1, .one (iC .i64 n3)), (2, .one (iC .i64 n4)), (6, .one (.ptr k6 0 0)), (7, .one (.ptr k11 0 0)), (8, .one (bC a.1))]
      let SLx3 : (Bool × (List (Int × Int))) → Nat → BL := fun a kt => ([[(k6, 2, [[iC .i64 0, .p true (Sl.t r56 (⟨false, 0, []⟩ : Sl (Int × Int)))]])], [(k11, 2, [[iC .i64 n8, moC a.2 kt]])], moL r56 2 a.2 kt] : BL)
      let J3 : ((Bool × (List (Int × Int))) ⊕ (Int × (Sl (Int × Int)))) → Ex → St → Prop := JX 79 0 Sx3 SLx3 G3
      refine L_loopS (ref09_Put_b3 n3 n4 s9) S3 SL3 J3 JX_n (false, 0, ([] : List (Int × Int))) h 1138 (ups_self ⟨rfl, rfl, rfl, rfl, rfl, rfl, rfl, trivial⟩) [3, 2, 1, 0] (by decide) rfl ?_ ?_
      · rintro ⟨b140, n141, l142⟩ k143 g out h
        change ref09_Put_b3 n3 n4 s9 (b140, n141, l142) = some out at h
        unfold ref09_Put_b3 at h
        refine L_seq ?_
        refine L_seq ?_
        refine L_ops ?_
        refine ol_put rfl rfl rfl (q_move (v := .one (iC .i64 n141)) rfl) ?_
        refine ol_put rfl rfl rfl (q_fieldP rfl fa25_1 rfl) ?_
        refine ol_put rfl rfl rfl (q_loadP (v := .one (.p fr10 (Sl.t r56 s9))) 0 rfl sz23 rfl rfl rfl rfl) ?_
        refine ol_put rfl rfl rfl (q_lenS rfl ty23 rfl rfl rfl rfl) ?_
        by_cases c144 : n141 < ((s9.l.length : Nat) : Int)
        · replace h := ifT c144 h
          refine ol_put rfl rfl rfl (q_bin rfl rfl (p_lss_t _ _ _ _ _ c144) rfl) ?_
          refine ol_end ?_
          refine E_seq ?_
          refine L_condT rfl ?_
          refine L_skip ?_
          refine E_seq ?_
          refine L_seq ?_
          refine L_block ?_
          refine L_seq ?_
          refine L_seq ?_
          refine L_ops ?_
          refine ol_put rfl rfl rfl (q_move (v := .one (bC b140)) rfl) ?_
          rcases b140 with _ | _
          · replace h := ifF (by decide) h
            refine ol_put rfl rfl rfl (q_not rfl) ?_
            refine ol_put rfl rfl rfl (q_move (v := .one (bC true)) rfl) ?_
            refine ol_put rfl rfl rfl (q_fieldP rfl fa25_1 rfl) ?_
            refine ol_put rfl rfl rfl (q_loadP (v := .one (.p fr10 (Sl.t r56 s9))) 0 rfl sz23 rfl rfl rfl rfl) ?_
            refine ol_put rfl rfl rfl (q_move (v := .one (iC .i64 n141)) rfl) ?_
            obtain ⟨⟨n147, n148⟩, h146, h⟩ := bindS h
            obtain ⟨h146a, h146b, h146⟩ := atS_some h146
            refine ol_put rfl rfl rfl (q_ixS rfl rfl h146a h146 (el23.trans (congrArg some h146b.symm))) ?_
            refine ol_put rfl rfl rfl (q_fieldI rfl fa57_0 rfl) ?_
            refine ol_put rfl rfl rfl (q_loadI (v := .one (iC .i64 n147)) rfl sz3 (map_get h146) rfl rfl) ?_
            refine ol_put rfl rfl rfl (q_move (v := .one (iC .i64 n3)) rfl) ?_
            by_cases c149 : n147 ≥ n3
            · replace h := ifT c149 h
              refine ol_put rfl rfl rfl (q_bin rfl rfl (p_geq_t _ _ _ _ _ c149) rfl) ?_
              refine ol_put rfl rfl rfl (q_pickT (v := .one (bC true)) rfl rfl) ?_
              refine ol_end ?_
              refine E_seq ?_
              refine L_condT rfl ?_
              refine L_seq ?_
              refine L_ops ?_
              refine ol_put rfl rfl rfl (q_fieldP rfl fa25_1 rfl) ?_
              refine ol_put rfl rfl rfl (q_loadP (v := .one (moC l142 k143)) 2 rfl sz23 rfl rfl rfl rfl) ?_
              refine ol_put rfl rfl rfl (q_move (v := .one (iC .i64 n3)) rfl) ?_
              refine ol_put rfl rfl rfl (q_move (v := .one (iC .i64 n4)) rfl) ?_
              refine ol_put rfl rfl rfl (q_build (cs := [iC .i64 n3, iC .i64 n4]) ty57 rfl pl57 rfl) ?_
              refine ol_new rfl rfl rfl (q_bslice (cs := [iC .i64 n3, iC .i64 n4]) (es := (([(n3, n4)] : List (Int × Int))).map (rowC r56)) ty23 rfl ty57 rfl rfl rfl rfl rfl) (fun k150 => ?_)
              obtain ⟨_, h151, h⟩ := bindS h
              obtain ⟨h151b, rfl⟩ := app_some h151
              refine ol_appM (r := r56) (l := l142) (ys := ([(n3, n4)] : List (Int × Int))) 4 rfl rfl rfl rfl rfl rfl (el_ownM (l := ([(n3, n4)] : List (Int × Int))) 0 rfl) rfl h151 (fun y => rfl) el23 ty23 rfl rfl rfl rfl rfl (fun k152 => ?_)
              refine ol_put rfl rfl rfl (q_fieldP rfl fa25_1 rfl) ?_
              refine ol_wr rfl rfl (q_store (es' := [[iC .i64 n8, moC (l142 ++ ([(n3, n4)] : List (Int × Int))) k152]]) 4 rfl rfl rfl sz23 rfl rfl rfl rfl rfl) rfl ?_
              refine ol_end ?_
              refine E_seq ?_
              refine L_ops ?_
              refine ol_put rfl rfl rfl (q_assign (v := .one (bC true)) rfl) ?_
              refine ol_end ?_
              refine E_seq ?_
              refine L_seq ?_
              refine L_ops ?_
              refine ol_put rfl rfl rfl (q_fieldP rfl fa25_1 rfl) ?_
              refine ol_put rfl rfl rfl (q_loadP (v := .one (.p fr10 (Sl.t r56 s9))) 2 rfl sz23 rfl rfl rfl rfl) ?_
              refine ol_put rfl rfl rfl (q_move (v := .one (iC .i64 n141)) rfl) ?_
              refine ol_put rfl rfl rfl (q_ixS rfl rfl h146a h146 (el23.trans (congrArg some h146b.symm))) ?_
              refine ol_put rfl rfl rfl (q_fieldI rfl fa57_0 rfl) ?_
              refine ol_put rfl rfl rfl (q_loadI (v := .one (iC .i64 n147)) rfl sz3 (map_get h146) rfl rfl) ?_
              refine ol_put rfl rfl rfl (q_move (v := .one (iC .i64 n3)) rfl) ?_
              by_cases c153 : n147 ≠ n3
              · replace h := ifT c153 h
                refine ol_put rfl rfl rfl (q_bin rfl rfl (p_neq_t _ _ _ _ _ c153) rfl) ?_
                refine ol_end ?_
                refine E_seq ?_
                refine L_condT rfl ?_
                refine L_norm (L2 := ([moL r56 2 (l142 ++ ([(n3, n4)] : List (Int × Int))) k152, [(k5, 2, [[iC .i64 n8, .p fr10 (Sl.t r56 s9)]])], [(k6, 2, [[iC .i64 0, .p true (Sl.t r56 (⟨false, 0, []⟩ : Sl (Int × Int)))]])], [(k11, 2, [[iC .i64 n8, moC (l142 ++ ([(n3, n4)] : List (Int × Int))) k152]])]] : BL)) [0, 2, 3, 4] (by decide) rfl ?_
                refine L_turn 11 rfl [[], [], [], [], [], [], [], [], moK (l142 ++ ([(n3, n4)] : List (Int × Int))) k152, [], [k11]] [(false, []), (false, []), (false, []), (false, []), (false, []), (false, []), (false, []), (true, []), (true, []), (false, []), (false, [])] [[2, 3, 4, 5, 6, 7], [2, 3, 4, 5, 6, 7], [0, 1, 4], [0, 1, 4], [0, 1, 2, 3], [0, 1], [0, 1], [0, 1], [], [], []] (by kernel_rfl) (by kernel_rfl) (by kernel_rfl) ?_ (fun bb154 hlt hnd => ?_)
                · intro bb154 hlt hnd
                  have e_k152 : (l142 ++ ([(n3, n4)] : List (Int × Int))) = [] ∨ k152 < bb154 := key_ltM (r := r56) (w := 2) hlt 0 rfl
                  have f_k152 := moK_lt e_k152
                  have e_k5 : k5 < bb154 := key_lt hlt 1 rfl
                  have e_k6 : k6 < bb154 := key_lt hlt 2 rfl
                  have e_k11 : k11 < bb154 := key_lt hlt 3 rfl
                  have d_k152_k5 : k5 ∉ moK (l142 ++ ([(n3, n4)] : List (Int × Int))) k152 := key_neM (r := r56) (w := 2) hnd 0 1 rfl rfl rfl
                  have g_k152_k5 := moK_ne d_k152_k5
                  have d_k152_k6 : k6 ∉ moK (l142 ++ ([(n3, n4)] : List (Int × Int))) k152 := key_neM (r := r56) (w := 2) hnd 0 2 rfl rfl rfl
                  have g_k152_k6 := moK_ne d_k152_k6
                  have d_k152_k11 : k11 ∉ moK (l142 ++ ([(n3, n4)] : List (Int × Int))) k152 := key_neM (r := r56) (w := 2) hnd 0 3 rfl rfl rfl
                  have g_k152_k11 := moK_ne d_k152_k11
                  have d_k11_k5 : k11 ≠ k5 := key_ne hnd 3 1 rfl rfl rfl
                  have d_k11_k6 : k11 ≠ k6 := key_ne hnd 3 2 rfl rfl rfl
                  exact ⟨(by first | (simp [DJ]; done) | (simp [DJ]; omega) | (simp [DJ]; assumption) | (simp_all [DJ]; done) | (simp_all [DJ]; omega)), (by first | (simp [DJ]; done) | (simp [DJ]; omega) | (simp [DJ]; assumption) | (simp_all [DJ]; done) | (simp_all [DJ]; omega))⟩
                have e_k152 : (l142 ++ ([(n3, n4)] : List (Int × Int))) = [] ∨ k152 < bb154 := key_ltM (r := r56) (w := 2) hlt 0 rfl
                have f_k152 := moK_lt e_k152
                have e_k5 : k5 < bb154 := key_lt hlt 1 rfl
                have e_k6 : k6 < bb154 := key_lt hlt 2 rfl
                have e_k11 : k11 < bb154 := key_lt hlt 3 rfl
                have d_k152_k5 : k5 ∉ moK (l142 ++ ([(n3, n4)] : List (Int × Int))) k152 := key_neM (r := r56) (w := 2) hnd 0 1 rfl rfl rfl
                have g_k152_k5 := moK_ne d_k152_k5
                have d_k152_k6 : k6 ∉ moK (l142 ++ ([(n3, n4)] : List (Int × Int))) k152 := key_neM (r := r56) (w := 2) hnd 0 2 rfl rfl rfl
                have g_k152_k6 := moK_ne d_k152_k6
                have d_k152_k11 : k11 ∉ moK (l142 ++ ([(n3, n4)] : List (Int × Int))) k152 := key_neM (r := r56) (w := 2) hnd 0 3 rfl rfl rfl
                have g_k152_k11 := moK_ne d_k152_k11
                have d_k11_k5 : k11 ≠ k5 := key_ne hnd 3 1 rfl rfl rfl
                have d_k11_k6 : k11 ≠ k6 := key_ne hnd 3 2 rfl rfl rfl
                refine tn_put rfl rfl rfl [] (by decide) rfl hmn rfl (q_fieldP rfl fa25_1 rfl) ?_
                refine tn_put rfl rfl rfl [3] (by decide) rfl (hmc (nin_cons (ne_new (key_lt hlt 3 rfl)) nin_nil) hmn) rfl (q_loadP (v := .one (moC (l142 ++ ([(n3, n4)] : List (Int × Int))) k152)) 0 rfl sz23 rfl rfl rfl rfl) ?_
                refine tn_put rfl rfl rfl [] (by decide) rfl (hm0 rfl) rfl (q_fieldP rfl fa25_1 rfl) ?_
                refine tn_put rfl rfl rfl [1] (by decide) rfl (hm0 rfl) rfl (q_loadP (v := .one (.p fr10 (Sl.t r56 s9))) 0 rfl sz23 rfl rfl rfl rfl) ?_
                refine tn_put rfl rfl rfl [] (by decide) rfl (hm0 rfl) rfl (q_move (v := .one (iC .i64 n141)) rfl) ?_
                refine tn_put rfl rfl rfl [] (by decide) rfl (hm0 rfl) rfl (q_ixS rfl rfl h146a h146 (el23.trans (congrArg some h146b.symm))) ?_
                refine tn_put rfl rfl rfl [] (by decide) rfl (hm0 rfl) rfl (q_loadI (v := .agg [iC .i64 n147, iC .i64 n148]) rfl sz57 (map_get h146) rfl rfl) ?_
                refine tn_new rfl rfl rfl [] (by decide) rfl (hm0 rfl) rfl rfl (hkM (e_k152.imp id fun h => by omega) (hkc (ne_new (key_lt hlt 1 rfl)) (hkc (ne_new (key_lt hlt 2 rfl)) (hkc (ne_new (key_lt hlt 3 rfl)) hkn)))) (q_bslice (cs := [iC .i64 n147, iC .i64 n148]) (es := (([(n147, n148)] : List (Int × Int))).map (rowC r56)) ty23 rfl ty57 rfl rfl rfl rfl rfl) ?_
                obtain ⟨_, h156, h⟩ := bindS h
                obtain ⟨h156b, rfl⟩ := app_some h156
                refine tn_appM (r := r56) (l := (l142 ++ ([(n3, n4)] : List (Int × Int)))) 0 1 rfl rfl rfl rfl [1, 0] (by decide) rfl (hm0 rfl) rfl rfl (hkc (ne_add rfl) (hkM (e_k152.imp id fun h => by omega) (hkc (ne_new (key_lt hlt 1 rfl)) (hkc (ne_new (key_lt hlt 2 rfl)) (hkc (ne_new (key_lt hlt 3 rfl)) hkn))))) rfl rfl (el_ownM (l := ([(n147, n148)] : List (Int × Int))) 1 rfl) rfl rfl h156 (fun y => rfl) el23 ty23 rfl rfl rfl rfl rfl ?_
                refine tn_put rfl rfl rfl [] (by decide) rfl (hm0 rfl) rfl (q_fieldP rfl fa25_1 rfl) ?_
                refine tn_wr rfl rfl [4] (by decide) rfl (hm0 rfl) rfl (q_store (es' := [[iC .i64 n8, moC ((l142 ++ ([(n3, n4)] : List (Int × Int))) ++ ([(n147, n148)] : List (Int × Int))) (bb154 + 8)]]) 0 rfl rfl rfl sz23 rfl rfl rfl rfl rfl) (q := 4) rfl rfl ?_
                refine tn_end ?_
                refine E_blkN ?_
                refine E_seq ?_
                refine L_ops ?_
                refine ol_put rfl rfl rfl (q_move (v := .one (iC .i64 n141)) rfl) ?_
                refine ol_put rfl rfl rfl (q_bin rfl rfl (p_add _ _ _ _ _ _ _) rfl) ?_
                refine ol_put rfl rfl rfl (q_assign (v := .one (iC .i64 (IntKind.i64.wrap (n141 + 1)))) rfl) ?_
                refine ol_end ?_
                obtain rfl := Option.some.inj h
                exact E_next (bb154 + 8) (ups_self ⟨rfl, rfl, rfl, rfl, rfl, rfl, rfl, trivial⟩) [2, 3, 4, 0] (by decide) rfl
              · replace h := ifF c153 h
                refine ol_put rfl rfl rfl (q_bin rfl rfl (p_neq_f _ _ _ _ _ c153) rfl) ?_
                refine ol_end ?_
                refine E_seq ?_
                refine L_condF rfl ?_
                refine L_skip ?_
                refine E_blkN ?_
                refine E_seq ?_
                refine L_ops ?_
                refine ol_put rfl rfl rfl (q_move (v := .one (iC .i64 n141)) rfl) ?_
                refine ol_put rfl rfl rfl (q_bin rfl rfl (p_add _ _ _ _ _ _ _) rfl) ?_
                refine ol_put rfl rfl rfl (q_assign (v := .one (iC .i64 (IntKind.i64.wrap (n141 + 1)))) rfl) ?_
                refine ol_end ?_
                obtain rfl := Option.some.inj h
                exact E_next k152 (ups_self ⟨rfl, rfl, rfl, rfl, rfl, rfl, rfl, trivial⟩) [2, 3, 4, 0] (by decide) rfl
            · replace h := ifF c149 h
              refine ol_put rfl rfl rfl (q_bin rfl rfl (p_geq_f _ _ _ _ _ c149) rfl) ?_
              refine ol_put rfl rfl rfl (q_pickT (v := .one (bC false)) rfl rfl) ?_
              refine ol_end ?_
              refine E_seq ?_
              refine L_condF rfl ?_
              refine L_skip ?_
              refine E_seq ?_
              refine L_seq ?_
              refine L_ops ?_
              refine ol_put rfl rfl rfl (q_fieldP rfl fa25_1 rfl) ?_
              refine ol_put rfl rfl rfl (q_loadP (v := .one (.p fr10 (Sl.t r56 s9))) 0 rfl sz23 rfl rfl rfl rfl) ?_
              refine ol_put rfl rfl rfl (q_move (v := .one (iC .i64 n141)) rfl) ?_
              refine ol_put rfl rfl rfl (q_ixS rfl rfl h146a h146 (el23.trans (congrArg some h146b.symm))) ?_
              refine ol_put rfl rfl rfl (q_fieldI rfl fa57_0 rfl) ?_
              refine ol_put rfl rfl rfl (q_loadI (v := .one (iC .i64 n147)) rfl sz3 (map_get h146) rfl rfl) ?_
              refine ol_put rfl rfl rfl (q_move (v := .one (iC .i64 n3)) rfl) ?_
              by_cases c157 : n147 ≠ n3
              · replace h := ifT c157 h
                refine ol_put rfl rfl rfl (q_bin rfl rfl (p_neq_t _ _ _ _ _ c157) rfl) ?_
                refine ol_end ?_
                refine E_seq ?_
                refine L_condT rfl ?_
                refine L_norm (L2 := ([[(k5, 2, [[iC .i64 n8, .p fr10 (Sl.t r56 s9)]])], [(k6, 2, [[iC .i64 0, .p true (Sl.t r56 (⟨false, 0, []⟩ : Sl (Int × Int)))]])], [(k11, 2, [[iC .i64 n8, moC l142 k143]])], moL r56 2 l142 k143] : BL)) [0, 1, 2, 3] (by decide) rfl ?_
                refine L_turn 11 rfl [[], [], [], [], [], [], [], [], moK l142 k143, [], [k11]] [(false, []), (false, []), (false, []), (false, []), (false, []), (false, []), (false, []), (true, []), (true, []), (false, []), (false, [])] [[2, 3, 4, 5, 6, 7], [2, 3, 4, 5, 6, 7], [0, 1, 4], [0, 1, 4], [0, 1, 2, 3], [0, 1], [0, 1], [0, 1], [], [], []] (by kernel_rfl) (by kernel_rfl) (by kernel_rfl) ?_ (fun bb158 hlt hnd => ?_)
                · intro bb158 hlt hnd
                  have e_k5 : k5 < bb158 := key_lt hlt 0 rfl
                  have e_k6 : k6 < bb158 := key_lt hlt 1 rfl
                  have e_k11 : k11 < bb158 := key_lt hlt 2 rfl
                  have e_k143 : l142 = [] ∨ k143 < bb158 := key_ltM (r := r56) (w := 2) hlt 3 rfl
                  have f_k143 := moK_lt e_k143
                  have d_k11_k5 : k11 ≠ k5 := key_ne hnd 2 0 rfl rfl rfl
                  have d_k11_k6 : k11 ≠ k6 := key_ne hnd 2 1 rfl rfl rfl
                  have d_k143_k5 : k5 ∉ moK l142 k143 := key_neM (r := r56) (w := 2) hnd 3 0 rfl rfl rfl
                  have g_k143_k5 := moK_ne d_k143_k5
                  have d_k143_k6 : k6 ∉ moK l142 k143 := key_neM (r := r56) (w := 2) hnd 3 1 rfl rfl rfl
                  have g_k143_k6 := moK_ne d_k143_k6
                  have d_k143_k11 : k11 ∉ moK l142 k143 := key_neM (r := r56) (w := 2) hnd 3 2 rfl rfl rfl
                  have g_k143_k11 := moK_ne d_k143_k11
                  exact ⟨(by first | (simp [DJ]; done) | (simp [DJ]; omega) | (simp [DJ]; assumption) | (simp_all [DJ]; done) | (simp_all [DJ]; omega)), (by first | (simp [DJ]; done) | (simp [DJ]; omega) | (simp [DJ]; assumption) | (simp_all [DJ]; done) | (simp_all [DJ]; omega))⟩
                have e_k5 : k5 < bb158 := key_lt hlt 0 rfl
                have e_k6 : k6 < bb158 := key_lt hlt 1 rfl
                have e_k11 : k11 < bb158 := key_lt hlt 2 rfl
                have e_k143 : l142 = [] ∨ k143 < bb158 := key_ltM (r := r56) (w := 2) hlt 3 rfl
                have f_k143 := moK_lt e_k143
                have d_k11_k5 : k11 ≠ k5 := key_ne hnd 2 0 rfl rfl rfl
                have d_k11_k6 : k11 ≠ k6 := key_ne hnd 2 1 rfl rfl rfl
                have d_k143_k5 : k5 ∉ moK l142 k143 := key_neM (r := r56) (w := 2) hnd 3 0 rfl rfl rfl
                have g_k143_k5 := moK_ne d_k143_k5
                have d_k143_k6 : k6 ∉ moK l142 k143 := key_neM (r := r56) (w := 2) hnd 3 1 rfl rfl rfl
                have g_k143_k6 := moK_ne d_k143_k6
                have d_k143_k11 : k11 ∉ moK l142 k143 := key_neM (r := r56) (w := 2) hnd 3 2 rfl rfl rfl
                have g_k143_k11 := moK_ne d_k143_k11
                refine tn_put rfl rfl rfl [] (by decide) rfl hmn rfl (q_fieldP rfl fa25_1 rfl) ?_
                refine tn_put rfl rfl rfl [2] (by decide) rfl (hmc (nin_cons (ne_new (key_lt hlt 2 rfl)) nin_nil) hmn) rfl (q_loadP (v := .one (moC l142 k143)) 0 rfl sz23 rfl rfl rfl rfl) ?_
                refine tn_put rfl rfl rfl [] (by decide) rfl (hm0 rfl) rfl (q_fieldP rfl fa25_1 rfl) ?_
                refine tn_put rfl rfl rfl [0] (by decide) rfl (hm0 rfl) rfl (q_loadP (v := .one (.p fr10 (Sl.t r56 s9))) 0 rfl sz23 rfl rfl rfl rfl) ?_
                refine tn_put rfl rfl rfl [] (by decide) rfl (hm0 rfl) rfl (q_move (v := .one (iC .i64 n141)) rfl) ?_
                refine tn_put rfl rfl rfl [] (by decide) rfl (hm0 rfl) rfl (q_ixS rfl rfl h146a h146 (el23.trans (congrArg some h146b.symm))) ?_
                refine tn_put rfl rfl rfl [] (by decide) rfl (hm0 rfl) rfl (q_loadI (v := .agg [iC .i64 n147, iC .i64 n148]) rfl sz57 (map_get h146) rfl rfl) ?_
                refine tn_new rfl rfl rfl [] (by decide) rfl (hm0 rfl) rfl rfl (hkc (ne_new (key_lt hlt 0 rfl)) (hkc (ne_new (key_lt hlt 1 rfl)) (hkc (ne_new (key_lt hlt 2 rfl)) (hkM (e_k143.imp id fun h => by omega) hkn)))) (q_bslice (cs := [iC .i64 n147, iC .i64 n148]) (es := (([(n147, n148)] : List (Int × Int))).map (rowC r56)) ty23 rfl ty57 rfl rfl rfl rfl rfl) ?_
                obtain ⟨_, h160, h⟩ := bindS h
                obtain ⟨h160b, rfl⟩ := app_some h160
                refine tn_appM (r := r56) (l := l142) 0 4 rfl rfl rfl rfl [4, 0] (by decide) rfl (hm0 rfl) rfl rfl (hkc (ne_add rfl) (hkc (ne_new (key_lt hlt 0 rfl)) (hkc (ne_new (key_lt hlt 1 rfl)) (hkc (ne_new (key_lt hlt 2 rfl)) (hkM (e_k143.imp id fun h => by omega) hkn))))) rfl rfl (el_ownM (l := ([(n147, n148)] : List (Int × Int))) 1 rfl) rfl rfl h160 (fun y => rfl) el23 ty23 rfl rfl rfl rfl rfl ?_
                refine tn_put rfl rfl rfl [] (by decide) rfl (hm0 rfl) rfl (q_fieldP rfl fa25_1 rfl) ?_
                refine tn_wr rfl rfl [4] (by decide) rfl (hm0 rfl) rfl (q_store (es' := [[iC .i64 n8, moC (l142 ++ ([(n147, n148)] : List (Int × Int))) (bb158 + 8)]]) 0 rfl rfl rfl sz23 rfl rfl rfl rfl rfl) (q := 4) rfl rfl ?_
                refine tn_end ?_
                refine E_blkN ?_
                refine E_seq ?_
                refine L_ops ?_
                refine ol_put rfl rfl rfl (q_move (v := .one (iC .i64 n141)) rfl) ?_
                refine ol_put rfl rfl rfl (q_bin rfl rfl (p_add _ _ _ _ _ _ _) rfl) ?_
                refine ol_put rfl rfl rfl (q_assign (v := .one (iC .i64 (IntKind.i64.wrap (n141 + 1)))) rfl) ?_
                refine ol_end ?_
                obtain rfl := Option.some.inj h
                exact E_next (bb158 + 8) (ups_self ⟨rfl, rfl, rfl, rfl, rfl, rfl, rfl, trivial⟩) [2, 3, 4, 0] (by decide) rfl
              · replace h := ifF c157 h
                refine ol_put rfl rfl rfl (q_bin rfl rfl (p_neq_f _ _ _ _ _ c157) rfl) ?_
                refine ol_end ?_
                refine E_seq ?_
                refine L_condF rfl ?_
                refine L_skip ?_
                refine E_blkN ?_
                refine E_seq ?_
                refine L_ops ?_
                refine ol_put rfl rfl rfl (q_move (v := .one (iC .i64 n141)) rfl) ?_
                refine ol_put rfl rfl rfl (q_bin rfl rfl (p_add _ _ _ _ _ _ _) rfl) ?_
                refine ol_put rfl rfl rfl (q_assign (v := .one (iC .i64 (IntKind.i64.wrap (n141 + 1)))) rfl) ?_
                refine ol_end ?_
                obtain rfl := Option.some.inj h
                exact E_next k143 (ups_self ⟨rfl, rfl, rfl, rfl, rfl, rfl, rfl, trivial⟩) [0, 1, 2, 3] (by decide) rfl
          · replace h := ifT (by decide) h
            refine ol_put rfl rfl rfl (q_not rfl) ?_
            refine ol_put rfl rfl rfl (q_move (v := .one (bC false)) rfl) ?_
            refine ol_skip rfl rfl rfl ?_
            refine ol_skip rfl rfl rfl ?_
            refine ol_skip rfl rfl rfl ?_
            refine ol_skip rfl rfl rfl ?_
            refine ol_skip rfl rfl rfl ?_
            refine ol_skip rfl rfl rfl ?_
            refine ol_skip rfl rfl rfl ?_
            refine ol_skip rfl rfl rfl ?_
            refine ol_put rfl rfl rfl (q_pickF (v := .one (bC false)) rfl rfl) ?_
            refine ol_end ?_
            refine E_seq ?_
            refine L_condF rfl ?_
            refine L_skip ?_
            refine E_seq ?_
            refine L_seq ?_
            refine L_ops ?_
            refine ol_put rfl rfl rfl (q_fieldP rfl fa25_1 rfl) ?_
            refine ol_put rfl rfl rfl (q_loadP (v := .one (.p fr10 (Sl.t r56 s9))) 0 rfl sz23 rfl rfl rfl rfl) ?_
            refine ol_put rfl rfl rfl (q_move (v := .one (iC .i64 n141)) rfl) ?_
            obtain ⟨⟨n163, n164⟩, h162, h⟩ := bindS h
            obtain ⟨h162a, h162b, h162⟩ := atS_some h162
            refine ol_put rfl rfl rfl (q_ixS rfl rfl h162a h162 (el23.trans (congrArg some h162b.symm))) ?_
            refine ol_put rfl rfl rfl (q_fieldI rfl fa57_0 rfl) ?_
            refine ol_put rfl rfl rfl (q_loadI (v := .one (iC .i64 n163)) rfl sz3 (map_get h162) rfl rfl) ?_
            refine ol_put rfl rfl rfl (q_move (v := .one (iC .i64 n3)) rfl) ?_
            by_cases c165 : n163 ≠ n3
            · replace h := ifT c165 h
              refine ol_put rfl rfl rfl (q_bin rfl rfl (p_neq_t _ _ _ _ _ c165) rfl) ?_
              refine ol_end ?_
              refine E_seq ?_
              refine L_condT rfl ?_
              refine L_norm (L2 := ([[(k5, 2, [[iC .i64 n8, .p fr10 (Sl.t r56 s9)]])], [(k6, 2, [[iC .i64 0, .p true (Sl.t r56 (⟨false, 0, []⟩ : Sl (Int × Int)))]])], [(k11, 2, [[iC .i64 n8, moC l142 k143]])], moL r56 2 l142 k143] : BL)) [0, 1, 2, 3] (by decide) rfl ?_
              refine L_turn 11 rfl [[], [], [], [], [], [], [], [], moK l142 k143, [], [k11]] [(false, []), (false, []), (false, []), (false, []), (false, []), (false, []), (false, []), (true, []), (true, []), (false, []), (false, [])] [[2, 3, 4, 5, 6, 7], [2, 3, 4, 5, 6, 7], [0, 1, 4], [0, 1, 4], [0, 1, 2, 3], [0, 1], [0, 1], [0, 1], [], [], []] (by kernel_rfl) (by kernel_rfl) (by kernel_rfl) ?_ (fun bb166 hlt hnd => ?_)
              · intro bb166 hlt hnd
                have e_k5 : k5 < bb166 := key_lt hlt 0 rfl
                have e_k6 : k6 < bb166 := key_lt hlt 1 rfl
                have e_k11 : k11 < bb166 := key_lt hlt 2 rfl
                have e_k143 : l142 = [] ∨ k143 < bb166 := key_ltM (r := r56) (w := 2) hlt 3 rfl
                have f_k143 := moK_lt e_k143
                have d_k11_k5 : k11 ≠ k5 := key_ne hnd 2 0 rfl rfl rfl
                have d_k11_k6 : k11 ≠ k6 := key_ne hnd 2 1 rfl rfl rfl
                have d_k143_k5 : k5 ∉ moK l142 k143 := key_neM (r := r56) (w := 2) hnd 3 0 rfl rfl rfl
                have g_k143_k5 := moK_ne d_k143_k5
                have d_k143_k6 : k6 ∉ moK l142 k143 := key_neM (r := r56) (w := 2) hnd 3 1 rfl rfl rfl
                have g_k143_k6 := moK_ne d_k143_k6
                have d_k143_k11 : k11 ∉ moK l142 k143 := key_neM (r := r56) (w := 2) hnd 3 2 rfl rfl rfl
                have g_k143_k11 := moK_ne d_k143_k11
                exact ⟨(by first | (simp [DJ]; done) | (simp [DJ]; omega) | (simp [DJ]; assumption) | (simp_all [DJ]; done) | (simp_all [DJ]; omega)), (by first | (simp [DJ]; done) | (simp [DJ]; omega) | (simp [DJ]; assumption) | (simp_all [DJ]; done) | (simp_all [DJ]; omega))⟩
              have e_k5 : k5 < bb166 := key_lt hlt 0 rfl
              have e_k6 : k6 < bb166 := key_lt hlt 1 rfl
              have e_k11 : k11 < bb166 := key_lt hlt 2 rfl
              have e_k143 : l142 = [] ∨ k143 < bb166 := key_ltM (r := r56) (w := 2) hlt 3 rfl
              have f_k143 := moK_lt e_k143
              have d_k11_k5 : k11 ≠ k5 := key_ne hnd 2 0 rfl rfl rfl
              have d_k11_k6 : k11 ≠ k6 := key_ne hnd 2 1 rfl rfl rfl
              have d_k143_k5 : k5 ∉ moK l142 k143 := key_neM (r := r56) (w := 2) hnd 3 0 rfl rfl rfl
              have g_k143_k5 := moK_ne d_k143_k5
              have d_k143_k6 : k6 ∉ moK l142 k143 := key_neM (r := r56) (w := 2) hnd 3 1 rfl rfl rfl
              have g_k143_k6 := moK_ne d_k143_k6
              have d_k143_k11 : k11 ∉ moK l142 k143 := key_neM (r := r56) (w := 2) hnd 3 2 rfl rfl rfl
              have g_k143_k11 := moK_ne d_k143_k11
              refine tn_put rfl rfl rfl [] (by decide) rfl hmn rfl (q_fieldP rfl fa25_1 rfl) ?_
              refine tn_put rfl rfl rfl [2] (by decide) rfl (hmc (nin_cons (ne_new (key_lt hlt 2 rfl)) nin_nil) hmn) rfl (q_loadP (v := .one (moC l142 k143)) 0 rfl sz23 rfl rfl rfl rfl) ?_
              refine tn_put rfl rfl rfl [] (by decide) rfl (hm0 rfl) rfl (q_fieldP rfl fa25_1 rfl) ?_
              refine tn_put rfl rfl rfl [0] (by decide) rfl (hm0 rfl) rfl (q_loadP (v := .one (.p fr10 (Sl.t r56 s9))) 0 rfl sz23 rfl rfl rfl rfl) ?_
              refine tn_put rfl rfl rfl [] (by decide) rfl (hm0 rfl) rfl (q_move (v := .one (iC .i64 n141)) rfl) ?_
              refine tn_put rfl rfl rfl [] (by decide) rfl (hm0 rfl) rfl (q_ixS rfl rfl h162a h162 (el23.trans (congrArg some h162b.symm))) ?_
              refine tn_put rfl rfl rfl [] (by decide) rfl (hm0 rfl) rfl (q_loadI (v := .agg [iC .i64 n163, iC .i64 n164]) rfl sz57 (map_get h162) rfl rfl) ?_
              refine tn_new rfl rfl rfl [] (by decide) rfl (hm0 rfl) rfl rfl (hkc (ne_new (key_lt hlt 0 rfl)) (hkc (ne_new (key_lt hlt 1 rfl)) (hkc (ne_new (key_lt hlt 2 rfl)) (hkM (e_k143.imp id fun h => by omega) hkn)))) (q_bslice (cs := [iC .i64 n163, iC .i64 n164]) (es := (([(n163, n164)] : List (Int × Int))).map (rowC r56)) ty23 rfl ty57 rfl rfl rfl rfl rfl) ?_
              obtain ⟨_, h168, h⟩ := bindS h
              obtain ⟨h168b, rfl⟩ := app_some h168
              refine tn_appM (r := r56) (l := l142) 0 4 rfl rfl rfl rfl [4, 0] (by decide) rfl (hm0 rfl) rfl rfl (hkc (ne_add rfl) (hkc (ne_new (key_lt hlt 0 rfl)) (hkc (ne_new (key_lt hlt 1 rfl)) (hkc (ne_new (key_lt hlt 2 rfl)) (hkM (e_k143.imp id fun h => by omega) hkn))))) rfl rfl (el_ownM (l := ([(n163, n164)] : List (Int × Int))) 1 rfl) rfl rfl h168 (fun y => rfl) el23 ty23 rfl rfl rfl rfl rfl ?_
              refine tn_put rfl rfl rfl [] (by decide) rfl (hm0 rfl) rfl (q_fieldP rfl fa25_1 rfl) ?_
              refine tn_wr rfl rfl [4] (by decide) rfl (hm0 rfl) rfl (q_store (es' := [[iC .i64 n8, moC (l142 ++ ([(n163, n164)] : List (Int × Int))) (bb166 + 8)]]) 0 rfl rfl rfl sz23 rfl rfl rfl rfl rfl) (q := 4) rfl rfl ?_
              refine tn_end ?_
              refine E_blkN ?_
              refine E_seq ?_
              refine L_ops ?_
              refine ol_put rfl rfl rfl (q_move (v := .one (iC .i64 n141)) rfl) ?_
              refine ol_put rfl rfl rfl (q_bin rfl rfl (p_add _ _ _ _ _ _ _) rfl) ?_
              refine ol_put rfl rfl rfl (q_assign (v := .one (iC .i64 (IntKind.i64.wrap (n141 + 1)))) rfl) ?_
              refine ol_end ?_
              obtain rfl := Option.some.inj h
              exact E_next (bb166 + 8) (ups_self ⟨rfl, rfl, rfl, rfl, rfl, rfl, rfl, trivial⟩) [2, 3, 4, 0] (by decide) rfl
            · replace h := ifF c165 h
              refine ol_put rfl rfl rfl (q_bin rfl rfl (p_neq_f _ _ _ _ _ c165) rfl) ?_
              refine ol_end ?_
              refine E_seq ?_
              refine L_condF rfl ?_
              refine L_skip ?_
              refine E_blkN ?_
              refine E_seq ?_
              refine L_ops ?_
              refine ol_put rfl rfl rfl (q_move (v := .one (iC .i64 n141)) rfl) ?_
              refine ol_put rfl rfl rfl (q_bin rfl rfl (p_add _ _ _ _ _ _ _) rfl) ?_
              refine ol_put rfl rfl rfl (q_assign (v := .one (iC .i64 (IntKind.i64.wrap (n141 + 1)))) rfl) ?_
              refine ol_end ?_
              obtain rfl := Option.some.inj h
              exact E_next k143 (ups_self ⟨rfl, rfl, rfl, rfl, rfl, rfl, rfl, trivial⟩) [0, 1, 2, 3] (by decide) rfl
        · replace h := ifF c144 h
          refine ol_put rfl rfl rfl (q_bin rfl rfl (p_lss_f _ _ _ _ _ c144) rfl) ?_
          refine ol_end ?_
          refine E_seq ?_
          refine L_condF rfl ?_
          refine L_exit ?_
          refine E_seqX ?_
          obtain rfl := Option.some.inj h
          refine E_out ?_
          exact (E_exit k143 (ups_self ⟨rfl, rfl, rfl, rfl, rfl, trivial⟩) [1, 2, 3] (by decide) rfl)
      · rintro (⟨b169, l170⟩ | u) h
        · refine J_x (fun k171 g => ?_)
          replace h := elimL h
          refine E_blkH ?_
          refine E_seq ?_
          refine L_seq ?_
          refine L_seq ?_
          refine L_ops ?_
          refine ol_put rfl rfl rfl (q_move (v := .one (bC b169)) rfl) ?_
          rcases b169 with _ | _
          · replace h := ifF (by decide) h
            refine ol_put rfl rfl rfl (q_not rfl) ?_
            refine ol_end ?_
            refine E_seq ?_
            refine L_condT rfl ?_
            refine L_ops ?_
            refine ol_put rfl rfl rfl (q_fieldP rfl fa25_1 rfl) ?_
            refine ol_put rfl rfl rfl (q_loadP (v := .one (moC l170 k171)) 1 rfl sz23 rfl rfl rfl rfl) ?_
            refine ol_put rfl rfl rfl (q_move (v := .one (iC .i64 n3)) rfl) ?_
            refine ol_put rfl rfl rfl (q_move (v := .one (iC .i64 n4)) rfl) ?_
            refine ol_put rfl rfl rfl (q_build (cs := [iC .i64 n3, iC .i64 n4]) ty57 rfl pl57 rfl) ?_
            refine ol_new rfl rfl rfl (q_bslice (cs := [iC .i64 n3, iC .i64 n4]) (es := (([(n3, n4)] : List (Int × Int))).map (rowC r56)) ty23 rfl ty57 rfl rfl rfl rfl rfl) (fun k172 => ?_)
            obtain ⟨_, h173, h⟩ := bindS h
            obtain ⟨h173b, rfl⟩ := app_some h173
            refine ol_appM (r := r56) (l := l170) (ys := ([(n3, n4)] : List (Int × Int))) 3 rfl rfl rfl rfl rfl rfl (el_ownM (l := ([(n3, n4)] : List (Int × Int))) 0 rfl) rfl h173 (fun y => rfl) el23 ty23 rfl rfl rfl rfl rfl (fun k174 => ?_)
            refine ol_put rfl rfl rfl (q_fieldP rfl fa25_1 rfl) ?_
            refine ol_wr rfl rfl (q_store (es' := [[iC .i64 n8, moC (l170 ++ ([(n3, n4)] : List (Int × Int))) k174]]) 3 rfl rfl rfl sz23 rfl rfl rfl rfl rfl) rfl ?_
            refine ol_end ?_
            refine E_seq ?_
            refine L_seq ?_
            refine L_ops ?_
            refine ol_put rfl rfl rfl (q_loadP (v := .agg [iC .i64 n8, moC (l170 ++ ([(n3, n4)] : List (Int × Int))) k174]) 3 rfl sz25 rfl rfl rfl rfl) ?_
            refine ol_wr rfl rfl (q_store (es' := [[iC .i64 n8, moC (l170 ++ ([(n3, n4)] : List (Int × Int))) k174]]) 2 rfl rfl rfl sz25 rfl rfl rfl rfl rfl) rfl ?_
            refine ol_end ?_
            refine E_seq ?_
            refine L_ret ?_
            obtain rfl := Option.some.inj h
            exact E_endF (.inr rfl) (res_cell (d := .agg [iC .i64 n8, moC (l170 ++ ([(n3, n4)] : List (Int × Int))) k174]) 2 rfl sz25 rfl rfl rfl rfl res_nil) (vw_cons (vd_agg (vc_cons vc_v (vc_cons (vc_M (r := r56) 0 rfl (fun x h m => rfl)) vc_nil))) vw_nil) (fun h hb => own_agg) rfl rfl
          · replace h := ifT (by decide) h
            refine ol_put rfl rfl rfl (q_not rfl) ?_
            refine ol_end ?_
            refine E_seq ?_
            refine L_condF rfl ?_
            refine L_skip ?_
            refine E_seq ?_
            refine L_seq ?_
            refine L_ops ?_
            refine ol_put rfl rfl rfl (q_loadP (v := .agg [iC .i64 n8, moC l170 k171]) 1 rfl sz25 rfl rfl rfl rfl) ?_
            refine ol_wr rfl rfl (q_store (es' := [[iC .i64 n8, moC l170 k171]]) 0 rfl rfl rfl sz25 rfl rfl rfl rfl rfl) rfl ?_
            refine ol_end ?_
            refine E_seq ?_
            refine L_ret ?_
            obtain rfl := Option.some.inj h
            exact E_endF (.inr rfl) (res_cell (d := .agg [iC .i64 n8, moC l170 k171]) 0 rfl sz25 rfl rfl rfl rfl res_nil) (vw_cons (vd_agg (vc_cons vc_v (vc_cons (vc_M (r := r56) 2 rfl (fun x h m => rfl)) vc_nil))) vw_nil) (fun h hb => own_agg) rfl rfl
        · obtain rfl := Option.some.inj (elimR h)
          exact J_up (fun s hs => hs)

noncomputable def ref11_Over_b1 (s23 : Sl (Int × Int)) (a : Int × Int × (Sl (Int × Int))) : Option ((Int × Int × (Sl (Int × Int))) ⊕ ((Int × (Sl (Int × Int))) ⊕ ((Int × (Sl (Int × Int))) × Int))) :=
  match a with
  | (n63, n64, s65) => (if n63 < ((s23.l.length : Nat) : Int) then ((atS 2 s23 n63).bind fun (n78, n79) => ((ref09_Put (n64, s65) n78 n79).bind fun (n81, s82) => some (.inl ((IntKind.i64.wrap (n63 + 1)), n81, s82)))) else some (.inr (.inl (n64, s65))))
noncomputable def ref11_Over (a0 : Int × (Sl (Int × Int))) (a1 : Int × (Sl (Int × Int))) : Option ((Int × (Sl (Int × Int))) × Int) :=
  match a0, a1 with
  | (n1, s2), (n3, s4) => ((ref09_Sure (n1, s2)).bind fun (n18, s19) => ((ref09_Sure (n3, s4)).bind fun (n22, s23) => (if n18 ≠ n22 then some ((0, (⟨false, 0, []⟩ : Sl (Int × Int))), 4) else ((loopO (ref11_Over_b1 s23) (0, n18, s19)).bind (Sum.elim (fun ⟨n83, s84⟩ => some ((n83, s84), 0)) (fun u => some u))))))
theorem ref11_Over_r (m : Nat) {a0 : Int × (Sl (Int × Int))} {a1 : Int × (Sl (Int × Int))} {out : (Int × (Sl (Int × Int))) × Int} (h : ref11_Over a0 a1 = some out) : RunsX E1 (m + 4) 18 [.agg (r24 a0), .agg (r24 a1)] [.agg (r24 out.1), .one (iT .i64 out.2)] := by
  obtain ⟨n1, s2⟩ := a0
  obtain ⟨n3, s4⟩ := a1
  refine fn_X rfl (by rw [E1_fn]; exact show fiOf Try.prog 18 = _ by unfold fiOf; rw [Try.func18]; unfold Try.f18; rfl) rfl ?_
  dsimp only
  unfold ref11_Over at h
  refine L_seq ?_
  refine L_ops ?_
  refine ol_new rfl rfl rfl (q_box ty25 rfl (cs := [iC .i64 n1, .p false (Sl.t r56 s2)]) rfl rfl) (fun k5 => ?_)
  refine ol_new rfl rfl rfl (q_box ty25 rfl (cs := [iC .i64 n3, .p false (Sl.t r56 s4)]) rfl rfl) (fun k6 => ?_)
  refine ol_new rfl rfl rfl (q_alloc ty25 (row := [iC .i64 0, .p true (Sl.t r56 (⟨false, 0, []⟩ : Sl (Int × Int)))]) rfl rfl) (fun k7 => ?_)
  refine ol_put rfl rfl rfl (q_assign (v := .one (iC .i64 0)) rfl) ?_
  refine ol_end ?_
  refine E_seq ?_
  refine L_seq ?_
  refine L_norm (L2 := ([[(k7, 2, [[iC .i64 0, .p true (Sl.t r56 (⟨false, 0, []⟩ : Sl (Int × Int)))]])], [(k6, 2, [[iC .i64 n3, .p false (Sl.t r56 s4)]])], [(k5, 2, [[iC .i64 n1, .p false (Sl.t r56 s2)]])]] : BL)) [0, 1, 2] (by decide) rfl ?_
  refine L_turn 6 rfl [[], [], [], [], [k5], [k6]] [(false, []), (false, []), (false, []), (false, []), (false, []), (false, [])] [[2], [2], [0, 1], [], [], []] (by kernel_rfl) (by kernel_rfl) (by kernel_rfl) ?_ (fun bb8 hlt hnd => ?_)
  · intro bb8 hlt hnd
    exact ⟨⟨djE, ⟨djE, ⟨djE, ⟨djE, ⟨djN, ⟨djN, trivial⟩⟩⟩⟩⟩⟩, (ltO_cons ltK_nil (ltO_cons ltK_nil (ltO_cons ltK_nil (ltO_cons ltK_nil (ltO_cons (ltK_cons (key_lt hlt 2 rfl) ltK_nil) (ltO_cons (ltK_cons (key_lt hlt 1 rfl) ltK_nil) ltO_nil))))))⟩
  refine tn_put rfl rfl rfl [2] (by decide) rfl (hm0 rfl) rfl (q_loadP (v := .agg [iC .i64 n1, .p false (Sl.t r56 s2)]) 0 rfl sz25 rfl rfl rfl rfl) ?_
  obtain ⟨⟨n18, s19⟩, h17, h⟩ := bindS h
  refine tn_putX rfl rfl rfl [] (by decide) rfl (hm0 rfl) rfl (q_callX (v := fun fr20 => .agg [iC .i64 n18, .p fr20 (Sl.t r56 s19)]) (args := [.agg [iC .i64 n1, .p false (Sl.t r56 s2)]]) (ref09_Sure_r (m + 1) h17) rfl rfl (vw_cons (vd_agg (vc_cons vc_v (vc_cons vc_s vc_nil))) vw_nil) rfl rfl (fun fr => rfl)) (fun fr20 => ?_)
  refine tn_put rfl rfl rfl [1] (by decide) rfl (hm0 rfl) rfl (q_loadP (v := .agg [iC .i64 n3, .p false (Sl.t r56 s4)]) 0 rfl sz25 rfl rfl rfl rfl) ?_
  obtain ⟨⟨n22, s23⟩, h21, h⟩ := bindS h
  refine tn_putX rfl rfl rfl [] (by decide) rfl (hm0 rfl) rfl (q_callX (v := fun fr24 => .agg [iC .i64 n22, .p fr24 (Sl.t r56 s23)]) (args := [.agg [iC .i64 n3, .p false (Sl.t r56 s4)]]) (ref09_Sure_r (m + 1) h21) rfl rfl (vw_cons (vd_agg (vc_cons vc_v (vc_cons vc_s vc_nil))) vw_nil) rfl rfl (fun fr => rfl)) (fun fr24 => ?_)
  refine tn_wr rfl rfl [2] (by decide) rfl (hm0 rfl) rfl (q_store (es' := [[iC .i64 n18, .p fr20 (Sl.t r56 s19)]]) 0 rfl rfl rfl sz25 rfl rfl rfl rfl rfl) (q := 2) rfl rfl ?_
  refine tn_wr rfl rfl [1] (by decide) rfl (hm0 rfl) rfl (q_store (es' := [[iC .i64 n22, .p fr24 (Sl.t r56 s23)]]) 0 rfl rfl rfl sz25 rfl rfl rfl rfl rfl) (q := 1) rfl rfl ?_
  refine tn_end ?_
  refine E_seq ?_
  refine L_seq ?_
  refine L_seq ?_
  refine L_ops ?_
  refine ol_put rfl rfl rfl (q_fieldP rfl fa25_0 rfl) ?_
  refine ol_put rfl rfl rfl (q_loadP (v := .one (iC .i64 n18)) 2 rfl sz3 rfl rfl rfl rfl) ?_
  refine ol_put rfl rfl rfl (q_fieldP rfl fa25_0 rfl) ?_
  refine ol_put rfl rfl rfl (q_loadP (v := .one (iC .i64 n22)) 1 rfl sz3 rfl rfl rfl rfl) ?_
  by_cases c25 : n18 ≠ n22
  · replace h := ifT c25 h
    refine ol_put rfl rfl rfl (q_bin rfl rfl (p_neq_t _ _ _ _ _ c25) rfl) ?_
    refine ol_end ?_
    refine E_seq ?_
    refine L_condT rfl ?_
    refine L_seq ?_
    refine L_ops ?_
    refine ol_put rfl rfl rfl (q_build (cs := [iC .i64 0, .p true (Sl.t r56 (⟨false, 0, []⟩ : Sl (Int × Int)))]) ty25 rfl pl25 rfl) ?_
    refine ol_wr rfl rfl (q_store (es' := [[iC .i64 0, .p true (Sl.t r56 (⟨false, 0, []⟩ : Sl (Int × Int)))]]) 0 rfl rfl rfl sz25 rfl rfl rfl rfl rfl) rfl ?_
    refine ol_put rfl rfl rfl (q_assign (v := .one (iC .i64 4)) rfl) ?_
    refine ol_end ?_
    refine E_seq ?_
    refine L_ret ?_
    refine E_seqR ?_
    obtain rfl := Option.some.inj h
    exact E_endX (.inr rfl) (res_cell (d := .agg [iC .i64 0, .p true (Sl.t r56 (⟨false, 0, []⟩ : Sl (Int × Int)))]) 0 rfl sz25 rfl rfl rfl rfl (res_tmp rfl res_nil)) (vw_cons (vd_agg (vc_cons vc_v (vc_cons vc_s vc_nil))) (vw_cons (vd_one vc_v) vw_nil)) (fun h hb => own_no2) rfl
  · replace h := ifF c25 h
    refine ol_put rfl rfl rfl (q_bin rfl rfl (p_neq_f _ _ _ _ _ c25) rfl) ?_
    refine ol_end ?_
    refine E_seq ?_
    refine L_condF rfl ?_
    refine L_skip ?_
    refine E_seq ?_
    refine L_seq ?_
    refine L_ops ?_
    refine ol_put rfl rfl rfl (q_loadP (v := .agg [iC .i64 n18, .p fr20 (Sl.t r56 s19)]) 2 rfl sz25 rfl rfl rfl rfl) ?_
    refine ol_new rfl rfl rfl (q_alloc ty25 (row := [iC .i64 0, .p true (Sl.t r56 (⟨false, 0, []⟩ : Sl (Int × Int)))]) rfl rfl) (fun k26 => ?_)
    refine ol_wr rfl rfl (q_store (es' := [[iC .i64 n18, .p fr20 (Sl.t r56 s19)]]) 0 rfl rfl rfl sz25 rfl rfl rfl rfl rfl) rfl ?_
    refine ol_end ?_
    refine E_seq ?_
    refine L_seq ?_
    refine L_seq ?_
    refine L_ops ?_
    refine ol_put rfl rfl rfl (q_assign (v := .one (iC .i64 0)) rfl) ?_
    refine ol_end ?_
    refine E_seq ?_
    refine L_block ?_
    let S1 : (Int × Int × (Sl (Int × Int))) → Bool → (Nat → D) → Nat → D := fun a kt g => ups g [(3, .one (.ptr k6 0 0)), (4, .one (.ptr k7 0 0)), (6, .one (.ptr k26 0 0)), (7, .one (iC .i64 a.1))]
    let SL1 : (Int × Int × (Sl (Int × Int))) → Bool → BL := fun a kt => ([[(k6, 2, [[iC .i64 n22, .p fr24 (Sl.t r56 s23)]])], [(k7, 2, [[iC .i64 0, .p true (Sl.t r56 (⟨false, 0, []⟩ : Sl (Int × Int)))]])], [(k26, 2, [[iC .i64 a.2.1, .p kt (Sl.t r56 a.2.2)]])]] : BL)
    let G1 : ((Int × (Sl (Int × Int))) × Int) → Ex → St → Prop := fun u => endX E1 [.cell 4 25, .tmp 5] [.agg (r24 u.1), .one (iT .i64 u.2)]
    let Sx1 : (Int × (Sl (Int × Int))) → Bool → (Nat → D) → Nat → D := fun a kt g => ups g [(4, .one (.ptr k7 0 0)), (6, .one (.ptr k26 0 0))]
    let SLx1 : (Int × (Sl (Int × Int))) → Bool → BL := fun a kt => ([[(k7, 2, [[iC .i64 0, .p true (Sl.t r56 (⟨false, 0, []⟩ : Sl (Int × Int)))]])], [(k26, 2, [[iC .i64 a.1, .p kt (Sl.t r56 a.2)]])]] : BL)
    let J1 : ((Int × (Sl (Int × Int))) ⊕ ((Int × (Sl (Int × Int))) × Int)) → Ex → St → Prop := JX 41 0 Sx1 SLx1 G1
    refine L_loopS (ref11_Over_b1 s23) S1 SL1 J1 JX_n (0, n18, s19) h fr20 (ups_self ⟨rfl, rfl, rfl, rfl, trivial⟩) [2, 1, 0] (by decide) rfl ?_ ?_
    · rintro ⟨n63, n64, s65⟩ fr66 g out h
      change ref11_Over_b1 s23 (n63, n64, s65) = some out at h
      unfold ref11_Over_b1 at h
      refine L_seq ?_
      refine L_seq ?_
      refine L_ops ?_
      refine ol_put rfl rfl rfl (q_move (v := .one (iC .i64 n63)) rfl) ?_
      refine ol_put rfl rfl rfl (q_fieldP rfl fa25_1 rfl) ?_
      refine ol_put rfl rfl rfl (q_loadP (v := .one (.p fr24 (Sl.t r56 s23))) 0 rfl sz23 rfl rfl rfl rfl) ?_
      refine ol_put rfl rfl rfl (q_lenS rfl ty23 rfl rfl rfl rfl) ?_
      by_cases c67 : n63 < ((s23.l.length : Nat) : Int)
      · replace h := ifT c67 h
        refine ol_put rfl rfl rfl (q_bin rfl rfl (p_lss_t _ _ _ _ _ c67) rfl) ?_
        refine ol_end ?_
        refine E_seq ?_
        refine L_condT rfl ?_
        refine L_skip ?_
        refine E_seq ?_
        refine L_seq ?_
        refine L_block ?_
        refine L_norm (L2 := ([[(k6, 2, [[iC .i64 n22, .p fr24 (Sl.t r56 s23)]])], [(k7, 2, [[iC .i64 0, .p true (Sl.t r56 (⟨false, 0, []⟩ : Sl (Int × Int)))]])], [(k26, 2, [[iC .i64 n64, .p fr66 (Sl.t r56 s65)]])]] : BL)) [0, 1, 2] (by decide) rfl ?_
        refine L_turn 15 rfl [[], [], [], [], [], [], [], [], [], [], [], [], [], [], [k26]] [(false, []), (false, []), (false, []), (false, []), (false, []), (false, []), (false, []), (false, []), (false, []), (false, []), (false, []), (false, []), (false, []), (false, []), (false, [])] [[1, 2, 3, 4, 5, 6, 7, 8, 9, 10, 11, 12], [0, 3, 7, 8, 9, 10, 11, 12], [0, 3, 7, 8, 9, 10, 11, 12], [0, 1, 2, 7, 8, 9, 10, 11, 12], [0, 7, 8, 9, 10, 11, 12], [0, 7, 8, 9, 10, 11, 12], [0, 7, 8, 9, 10, 11, 12], [0, 1, 2, 3, 4, 5, 6, 9], [0, 1, 2, 3, 4, 5, 6, 9], [0, 1, 2, 3, 4, 5, 6, 7, 8], [0, 1, 2, 3, 4, 5, 6], [0, 1, 2, 3, 4, 5, 6], [0, 1, 2, 3, 4, 5, 6], [], []] (by kernel_rfl) (by kernel_rfl) (by kernel_rfl) ?_ (fun bb68 hlt hnd => ?_)
        · intro bb68 hlt hnd
          exact ⟨⟨djE, ⟨djE, ⟨djE, ⟨djE, ⟨djE, ⟨djE, ⟨djE, ⟨djE, ⟨djE, ⟨djE, ⟨djE, ⟨djE, ⟨djE, ⟨djE, ⟨djN, trivial⟩⟩⟩⟩⟩⟩⟩⟩⟩⟩⟩⟩⟩⟩⟩, (ltO_cons ltK_nil (ltO_cons ltK_nil (ltO_cons ltK_nil (ltO_cons ltK_nil (ltO_cons ltK_nil (ltO_cons ltK_nil (ltO_cons ltK_nil (ltO_cons ltK_nil (ltO_cons ltK_nil (ltO_cons ltK_nil (ltO_cons ltK_nil (ltO_cons ltK_nil (ltO_cons ltK_nil (ltO_cons ltK_nil (ltO_cons (ltK_cons (key_lt hlt 2 rfl) ltK_nil) ltO_nil)))))))))))))))⟩
        refine tn_put rfl rfl rfl [2] (by decide) rfl (hm0 rfl) rfl (q_loadP (v := .agg [iC .i64 n64, .p fr66 (Sl.t r56 s65)]) 0 rfl sz25 rfl rfl rfl rfl) ?_
        refine tn_put rfl rfl rfl [] (by decide) rfl (hm0 rfl) rfl (q_fieldP rfl fa25_1 rfl) ?_
        refine tn_put rfl rfl rfl [0] (by decide) rfl (hm0 rfl) rfl (q_loadP (v := .one (.p fr24 (Sl.t r56 s23))) 0 rfl sz23 rfl rfl rfl rfl) ?_
        refine tn_put rfl rfl rfl [] (by decide) rfl (hm0 rfl) rfl (q_move (v := .one (iC .i64 n63)) rfl) ?_
        obtain ⟨⟨n78, n79⟩, h77, h⟩ := bindS h
        obtain ⟨h77a, h77b, h77⟩ := atS_some h77
        refine tn_put rfl rfl rfl [] (by decide) rfl (hm0 rfl) rfl (q_ixS rfl rfl h77a h77 (el23.trans (congrArg some h77b.symm))) ?_
        refine tn_put rfl rfl rfl [] (by decide) rfl (hm0 rfl) rfl (q_fieldI rfl fa57_0 rfl) ?_
        refine tn_put rfl rfl rfl [] (by decide) rfl (hm0 rfl) rfl (q_loadI (v := .one (iC .i64 n78)) rfl sz3 (map_get h77) rfl rfl) ?_
        refine tn_put rfl rfl rfl [] (by decide) rfl (hm0 rfl) rfl (q_fieldP rfl fa25_1 rfl) ?_
        refine tn_put rfl rfl rfl [0] (by decide) rfl (hm0 rfl) rfl (q_loadP (v := .one (.p fr24 (Sl.t r56 s23))) 0 rfl sz23 rfl rfl rfl rfl) ?_
        refine tn_put rfl rfl rfl [] (by decide) rfl (hm0 rfl) rfl (q_move (v := .one (iC .i64 n63)) rfl) ?_
        refine tn_put rfl rfl rfl [] (by decide) rfl (hm0 rfl) rfl (q_ixS rfl rfl h77a h77 (el23.trans (congrArg some h77b.symm))) ?_
        refine tn_put rfl rfl rfl [] (by decide) rfl (hm0 rfl) rfl (q_fieldI rfl fa57_1 rfl) ?_
        refine tn_put rfl rfl rfl [] (by decide) rfl (hm0 rfl) rfl (q_loadI (v := .one (iC .i64 n79)) rfl sz2 (map_get h77) rfl rfl) ?_
        obtain ⟨⟨n81, s82⟩, h80, h⟩ := bindS h
        refine tn_put rfl rfl rfl [] (by decide) rfl (hm0 rfl) rfl (q_callF (v := .agg [iC .i64 n81, .p true (Sl.t r56 s82)]) (args := [.agg [iC .i64 n64, .p fr66 (Sl.t r56 s65)], .one (iC .i64 n78), .one (iC .i64 n79)]) (ref09_Put_r (m + 0) h80) rfl rfl (vw_cons (vd_agg (vc_cons vc_v (vc_cons vc_s vc_nil))) (vw_cons (vd_one vc_v) (vw_cons (vd_one vc_v) vw_nil))) rfl rfl) ?_
        refine tn_wr rfl rfl [2] (by decide) rfl (hm0 rfl) rfl (q_store (es' := [[iC .i64 n81, .p true (Sl.t r56 s82)]]) 0 rfl rfl rfl sz25 rfl rfl rfl rfl rfl) (q := 2) rfl rfl ?_
        refine tn_end ?_
        refine E_blkN ?_
        refine E_seq ?_
        refine L_ops ?_
        refine ol_put rfl rfl rfl (q_move (v := .one (iC .i64 n63)) rfl) ?_
        refine ol_put rfl rfl rfl (q_bin rfl rfl (p_add _ _ _ _ _ _ _) rfl) ?_
        refine ol_put rfl rfl rfl (q_assign (v := .one (iC .i64 (IntKind.i64.wrap (n63 + 1)))) rfl) ?_
        refine ol_end ?_
        obtain rfl := Option.some.inj h
        exact E_next true (ups_self ⟨rfl, rfl, rfl, rfl, trivial⟩) [0, 1, 2] (by decide) rfl
      · replace h := ifF c67 h
        refine ol_put rfl rfl rfl (q_bin rfl rfl (p_lss_f _ _ _ _ _ c67) rfl) ?_
        refine ol_end ?_
        refine E_seq ?_
        refine L_condF rfl ?_
        refine L_exit ?_
        refine E_seqX ?_
        obtain rfl := Option.some.inj h
        refine E_out ?_
        exact (E_exit fr66 (ups_self ⟨rfl, rfl, trivial⟩) [1, 2] (by decide) rfl)
    · rintro (⟨n83, s84⟩ | u) h
      · refine J_x (fun fr85 g => ?_)
        replace h := elimL h
        refine E_blkH ?_
        refine E_seq ?_
        refine L_seq ?_
        refine L_ops ?_
        refine ol_put rfl rfl rfl (q_loadP (v := .agg [iC .i64 n83, .p fr85 (Sl.t r56 s84)]) 1 rfl sz25 rfl rfl rfl rfl) ?_
        refine ol_wr rfl rfl (q_store (es' := [[iC .i64 n83, .p fr85 (Sl.t r56 s84)]]) 0 rfl rfl rfl sz25 rfl rfl rfl rfl rfl) rfl ?_
        refine ol_put rfl rfl rfl (q_assign (v := .one (iC .i64 0)) rfl) ?_
        refine ol_end ?_
        refine E_seq ?_
        refine L_ret ?_
        obtain rfl := Option.some.inj h
        exact E_endX (.inr rfl) (res_cell (d := .agg [iC .i64 n83, .p fr85 (Sl.t r56 s84)]) 0 rfl sz25 rfl rfl rfl rfl (res_tmp rfl res_nil)) (vw_cons (vd_agg (vc_cons vc_v (vc_cons vc_s vc_nil))) (vw_cons (vd_one vc_v) vw_nil)) (fun h hb => own_no2) rfl
      · obtain rfl := Option.some.inj (elimR h)
        exact J_up (fun s hs => hs)

noncomputable def ref11_Better_b1 (s19 : Sl (Int × Int)) (n22 : Int) (s23 : Sl (Int × Int)) (a : Int × (List (Int × Int))) : Option ((Int × (List (Int × Int))) ⊕ ((List (Int × Int)) ⊕ ((Int × (Sl (Int × Int))) × Int))) :=
  match a with
  | (n65, l66) => (if n65 < ((s19.l.length : Nat) : Int) then ((atS 2 s19 n65).bind fun (n71, n72) => ((ref11_has (n22, s23) n71).bind fun (n74, b75) => (if b75 = true then (if n72 < n74 then ((app l66 ([(n71, n72)] : List (Int × Int))).bind fun _ => some (.inl ((IntKind.i64.wrap (n65 + 1)), (l66 ++ ([(n71, n72)] : List (Int × Int)))))) else some (.inl ((IntKind.i64.wrap (n65 + 1)), l66))) else ((app l66 ([(n71, n72)] : List (Int × Int))).bind fun _ => some (.inl ((IntKind.i64.wrap (n65 + 1)), (l66 ++ ([(n71, n72)] : List (Int × Int))))))))) else some (.inr (.inl l66)))
noncomputable def ref11_Better (a0 : Int × (Sl (Int × Int))) (a1 : Int × (Sl (Int × Int))) : Option ((Int × (Sl (Int × Int))) × Int) :=
  match a0, a1 with
  | (n1, s2), (n3, s4) => ((ref09_Sure (n1, s2)).bind fun (n18, s19) => ((ref09_Sure (n3, s4)).bind fun (n22, s23) => (if n18 ≠ n22 then some ((0, (⟨false, 0, []⟩ : Sl (Int × Int))), 4) else ((loopO (ref11_Better_b1 s19 n22 s23) (0, ([] : List (Int × Int)))).bind (Sum.elim (fun l83 => some ((n18, (mo 2 l83)), 0)) (fun u => some u))))))
theorem ref11_Better_r (m : Nat) {a0 : Int × (Sl (Int × Int))} {a1 : Int × (Sl (Int × Int))} {out : (Int × (Sl (Int × Int))) × Int} (h : ref11_Better a0 a1 = some out) : RunsP E1 (m + 3) 20 [.agg (r24 a0), .agg (r24 a1)] (.fresh, [.agg (r24 out.1), .one (iT .i64 out.2)]) := by
  obtain ⟨n1, s2⟩ := a0
  obtain ⟨n3, s4⟩ := a1
  refine fn_F rfl (by rw [E1_fn]; exact show fiOf Try.prog 20 = _ by unfold fiOf; rw [Try.func20]; unfold Try.f20; rfl) rfl ?_
  dsimp only
  unfold ref11_Better at h
  refine L_seq ?_
  refine L_ops ?_
  refine ol_new rfl rfl rfl (q_box ty25 rfl (cs := [iC .i64 n1, .p false (Sl.t r56 s2)]) rfl rfl) (fun k5 => ?_)
  refine ol_new rfl rfl rfl (q_box ty25 rfl (cs := [iC .i64 n3, .p false (Sl.t r56 s4)]) rfl rfl) (fun k6 => ?_)
  refine ol_new rfl rfl rfl (q_alloc ty25 (row := [iC .i64 0, .p true (Sl.t r56 (⟨false, 0, []⟩ : Sl (Int × Int)))]) rfl rfl) (fun k7 => ?_)
  refine ol_put rfl rfl rfl (q_assign (v := .one (iC .i64 0)) rfl) ?_
  refine ol_end ?_
  refine E_seq ?_
  refine L_seq ?_
  refine L_norm (L2 := ([[(k7, 2, [[iC .i64 0, .p true (Sl.t r56 (⟨false, 0, []⟩ : Sl (Int × Int)))]])], [(k6, 2, [[iC .i64 n3, .p false (Sl.t r56 s4)]])], [(k5, 2, [[iC .i64 n1, .p false (Sl.t r56 s2)]])]] : BL)) [0, 1, 2] (by decide) rfl ?_
  refine L_turn 6 rfl [[], [], [], [], [k5], [k6]] [(false, []), (false, []), (false, []), (false, []), (false, []), (false, [])] [[2], [2], [0, 1], [], [], []] (by kernel_rfl) (by kernel_rfl) (by kernel_rfl) ?_ (fun bb8 hlt hnd => ?_)
  · intro bb8 hlt hnd
    exact ⟨⟨djE, ⟨djE, ⟨djE, ⟨djE, ⟨djN, ⟨djN, trivial⟩⟩⟩⟩⟩⟩, (ltO_cons ltK_nil (ltO_cons ltK_nil (ltO_cons ltK_nil (ltO_cons ltK_nil (ltO_cons (ltK_cons (key_lt hlt 2 rfl) ltK_nil) (ltO_cons (ltK_cons (key_lt hlt 1 rfl) ltK_nil) ltO_nil))))))⟩
  refine tn_put rfl rfl rfl [2] (by decide) rfl (hm0 rfl) rfl (q_loadP (v := .agg [iC .i64 n1, .p false (Sl.t r56 s2)]) 0 rfl sz25 rfl rfl rfl rfl) ?_
  obtain ⟨⟨n18, s19⟩, h17, h⟩ := bindS h
  refine tn_putX rfl rfl rfl [] (by decide) rfl (hm0 rfl) rfl (q_callX (v := fun fr20 => .agg [iC .i64 n18, .p fr20 (Sl.t r56 s19)]) (args := [.agg [iC .i64 n1, .p false (Sl.t r56 s2)]]) (ref09_Sure_r (m + 0) h17) rfl rfl (vw_cons (vd_agg (vc_cons vc_v (vc_cons vc_s vc_nil))) vw_nil) rfl rfl (fun fr => rfl)) (fun fr20 => ?_)
  refine tn_put rfl rfl rfl [1] (by decide) rfl (hm0 rfl) rfl (q_loadP (v := .agg [iC .i64 n3, .p false (Sl.t r56 s4)]) 0 rfl sz25 rfl rfl rfl rfl) ?_
  obtain ⟨⟨n22, s23⟩, h21, h⟩ := bindS h
  refine tn_putX rfl rfl rfl [] (by decide) rfl (hm0 rfl) rfl (q_callX (v := fun fr24 => .agg [iC .i64 n22, .p fr24 (Sl.t r56 s23)]) (args := [.agg [iC .i64 n3, .p false (Sl.t r56 s4)]]) (ref09_Sure_r (m + 0) h21) rfl rfl (vw_cons (vd_agg (vc_cons vc_v (vc_cons vc_s vc_nil))) vw_nil) rfl rfl (fun fr => rfl)) (fun fr24 => ?_)
  refine tn_wr rfl rfl [2] (by decide) rfl (hm0 rfl) rfl (q_store (es' := [[iC .i64 n18, .p fr20 (Sl.t r56 s19)]]) 0 rfl rfl rfl sz25 rfl rfl rfl rfl rfl) (q := 2) rfl rfl ?_
  refine tn_wr rfl rfl [1] (by decide) rfl (hm0 rfl) rfl (q_store (es' := [[iC .i64 n22, .p fr24 (Sl.t r56 s23)]]) 0 rfl rfl rfl sz25 rfl rfl rfl rfl rfl) (q := 1) rfl rfl ?_
  refine tn_end ?_
  refine E_seq ?_
  refine L_seq ?_
  refine L_seq ?_
  refine L_ops ?_
  refine ol_put rfl rfl rfl (q_fieldP rfl fa25_0 rfl) ?_
  refine ol_put rfl rfl rfl (q_loadP (v := .one (iC .i64 n18)) 2 rfl sz3 rfl rfl rfl rfl) ?_
  refine ol_put rfl rfl rfl (q_fieldP rfl fa25_0 rfl) ?_
  refine ol_put rfl rfl rfl (q_loadP (v := .one (iC .i64 n22)) 1 rfl sz3 rfl rfl rfl rfl) ?_
  by_cases c25 : n18 ≠ n22
  · replace h := ifT c25 h
    refine ol_put rfl rfl rfl (q_bin rfl rfl (p_neq_t _ _ _ _ _ c25) rfl) ?_
    refine ol_end ?_
    refine E_seq ?_
    refine L_condT rfl ?_
    refine L_seq ?_
    refine L_ops ?_
    refine ol_put rfl rfl rfl (q_build (cs := [iC .i64 0, .p true (Sl.t r56 (⟨false, 0, []⟩ : Sl (Int × Int)))]) ty25 rfl pl25 rfl) ?_
    refine ol_wr rfl rfl (q_store (es' := [[iC .i64 0, .p true (Sl.t r56 (⟨false, 0, []⟩ : Sl (Int × Int)))]]) 0 rfl rfl rfl sz25 rfl rfl rfl rfl rfl) rfl ?_
    refine ol_put rfl rfl rfl (q_assign (v := .one (iC .i64 4)) rfl) ?_
    refine ol_end ?_
    refine E_seq ?_
    refine L_ret ?_
    refine E_seqR ?_
    obtain rfl := Option.some.inj h
    exact E_endF (.inr rfl) (res_cell (d := .agg [iC .i64 0, .p true (Sl.t r56 (⟨false, 0, []⟩ : Sl (Int × Int)))]) 0 rfl sz25 rfl rfl rfl rfl (res_tmp rfl res_nil)) (vw_cons (vd_agg (vc_cons vc_v (vc_cons vc_s vc_nil))) (vw_cons (vd_one vc_v) vw_nil)) (fun h hb => own_no2) rfl rfl
  · replace h := ifF c25 h
    refine ol_put rfl rfl rfl (q_bin rfl rfl (p_neq_f _ _ _ _ _ c25) rfl) ?_
    refine ol_end ?_
    refine E_seq ?_
    refine L_condF rfl ?_
    refine L_skip ?_
    refine E_seq ?_
    refine L_seq ?_
    refine L_ops ?_
    refine ol_put rfl rfl rfl (q_fieldP rfl fa25_0 rfl) ?_
    refine ol_put rfl rfl rfl (q_loadP (v := .one (iC .i64 n18)) 2 rfl sz3 rfl rfl rfl rfl) ?_
    refine ol_put rfl rfl rfl (q_build (cs := [iC .i64 n18, .p true (Sl.t r56 (⟨false, 0, []⟩ : Sl (Int × Int)))]) ty25 rfl pl25 rfl) ?_
    refine ol_new rfl rfl rfl (q_alloc ty25 (row := [iC .i64 0, .p true (Sl.t r56 (⟨false, 0, []⟩ : Sl (Int × Int)))]) rfl rfl) (fun k26 => ?_)
    refine ol_wr rfl rfl (q_store (es' := [[iC .i64 n18, .p true (Sl.t r56 (⟨false, 0, []⟩ : Sl (Int × Int)))]]) 0 rfl rfl rfl sz25 rfl rfl rfl rfl rfl) rfl ?_
    refine ol_end ?_
    refine E_seq ?_
    refine L_seq ?_
    refine L_seq ?_
    refine L_ops ?_
    refine ol_put rfl rfl rfl (q_assign (v := .one (iC .i64 0)) rfl) ?_
    refine ol_end ?_
    refine E_seq ?_
    refine L_block ?_
    refine L_addM (α := Int × Int) r56 2 ?_
    let S1 : (Int × (List (Int × Int))) → Nat → (Nat → D) → Nat → D := fun a kt g => ups g [(2, .one (.ptr k5 0 0)), (3, .one (.ptr k6 0 0)), (4, .one (.ptr k7 0 0)), (6, .one (.ptr k26 0 0)), (7, .one (iC .i64 a.1))]
    let SL1 : (Int × (List (Int × Int))) → Nat → BL := fun a kt => ([[(k5, 2, [[iC .i64 n18, .p fr20 (Sl.t r56 s19)]])], [(k6, 2, [[iC .i64 n22, .p fr24 (Sl.t r56 s23)]])], [(k7, 2, [[iC .i64 0, .p true (Sl.t r56 (⟨false, 0, []⟩ : Sl (Int × Int)))]])], [(k26, 2, [[iC .i64 n18, moC a.2 kt]])], moL r56 2 a.2 kt] : BL)
    let G1 : ((Int × (Sl (Int × Int))) × Int) → Ex → St → Prop := fun u => endQ E1 [.cell 4 25, .tmp 5] (.fresh, [.agg (r24 u.1), .one (iT .i64 u.2)])
    let Sx1 : (List (Int × Int)) → Nat → (Nat → D) → Nat → D := fun a kt g => ups g [(4, .one (.ptr k7 0 0)), (6, .one (.ptr k26 0 0))]
    let SLx1 : (List (Int × Int)) → Nat → BL := fun a kt => ([[(k7, 2, [[iC .i64 0, .p true (Sl.t r56 (⟨false, 0, []⟩ : Sl (Int × Int)))]])], [(k26, 2, [[iC .i64 n18, moC a kt]])], moL r56 2 a kt] : BL)
    let J1 : ((List (Int × Int)) ⊕ ((Int × (Sl (Int × Int))) × Int)) → Ex → St → Prop := JX 64 0 Sx1 SLx1 G1
    refine L_loopS (ref11_Better_b1 s19 n22 s23) S1 SL1 J1 JX_n (0, ([] : List (Int × Int))) h 1063 (ups_self ⟨rfl, rfl, rfl, rfl, rfl, trivial⟩) [4, 3, 2, 1, 0] (by decide) rfl ?_ ?_
    · rintro ⟨n65, l66⟩ k67 g out h
      change ref11_Better_b1 s19 n22 s23 (n65, l66) = some out at h
      unfold ref11_Better_b1 at h
      refine L_seq ?_
      refine L_seq ?_
      refine L_ops ?_
      refine ol_put rfl rfl rfl (q_move (v := .one (iC .i64 n65)) rfl) ?_
      refine ol_put rfl rfl rfl (q_fieldP rfl fa25_1 rfl) ?_
      refine ol_put rfl rfl rfl (q_loadP (v := .one (.p fr20 (Sl.t r56 s19))) 0 rfl sz23 rfl rfl rfl rfl) ?_
      refine ol_put rfl rfl rfl (q_lenS rfl ty23 rfl rfl rfl rfl) ?_
      by_cases c68 : n65 < ((s19.l.length : Nat) : Int)
      · replace h := ifT c68 h
        refine ol_put rfl rfl rfl (q_bin rfl rfl (p_lss_t _ _ _ _ _ c68) rfl) ?_
        refine ol_end ?_
        refine E_seq ?_
        refine L_condT rfl ?_
        refine L_skip ?_
        refine E_seq ?_
        refine L_seq ?_
        refine L_block ?_
        refine L_seq ?_
        refine L_still (by kernel_rfl) ?_
        refine st_put rfl rfl rfl (q_loadP (v := .agg [iC .i64 n22, .p fr24 (Sl.t r56 s23)]) 1 rfl sz25 rfl rfl rfl rfl) ?_
        refine st_put rfl rfl rfl (q_fieldP rfl fa25_1 rfl) ?_
        refine st_put rfl rfl rfl (q_loadP (v := .one (.p fr20 (Sl.t r56 s19))) 0 rfl sz23 rfl rfl rfl rfl) ?_
        refine st_put rfl rfl rfl (q_move (v := .one (iC .i64 n65)) rfl) ?_
        obtain ⟨⟨n71, n72⟩, h70, h⟩ := bindS h
        obtain ⟨h70a, h70b, h70⟩ := atS_some h70
        refine st_put rfl rfl rfl (q_ixS rfl rfl h70a h70 (el23.trans (congrArg some h70b.symm))) ?_
        refine st_put rfl rfl rfl (q_fieldI rfl fa57_0 rfl) ?_
        refine st_put rfl rfl rfl (q_loadI (v := .one (iC .i64 n71)) rfl sz3 (map_get h70) rfl rfl) ?_
        obtain ⟨⟨n74, b75⟩, h73, h⟩ := bindS h
        refine st_put rfl rfl rfl (q_callF (v := .tup [.one (iC .i64 n74), .one (bC b75)]) (args := [.agg [iC .i64 n22, .p fr24 (Sl.t r56 s23)], .one (iC .i64 n71)]) (ref11_has_r (m + 1) h73) rfl rfl (vw_cons (vd_agg (vc_cons vc_v (vc_cons vc_s vc_nil))) (vw_cons (vd_one vc_v) vw_nil)) rfl rfl) ?_
        refine st_put rfl rfl rfl (q_move (v := .tup [.one (iC .i64 n74), .one (bC b75)]) rfl) ?_
        refine st_put rfl rfl rfl (q_ext (v := .one (iC .i64 n74)) rfl rfl) ?_
        refine st_put rfl rfl rfl (q_ext (v := .one (bC b75)) rfl rfl) ?_
        refine st_put rfl rfl rfl (q_assign (v := .one (iC .i64 n74)) rfl) ?_
        refine st_put rfl rfl rfl (q_assign (v := .one (bC b75)) rfl) ?_
        refine st_end ?_
        refine E_seq ?_
        refine L_seq ?_
        refine L_ops ?_
        refine ol_put rfl rfl rfl (q_move (v := .one (bC b75)) rfl) ?_
        rcases b75 with _ | _
        · replace h := ifF (by decide) h
          refine ol_put rfl rfl rfl (q_not rfl) ?_
          refine ol_put rfl rfl rfl (q_move (v := .one (bC true)) rfl) ?_
          refine ol_skip rfl rfl rfl ?_
          refine ol_skip rfl rfl rfl ?_
          refine ol_skip rfl rfl rfl ?_
          refine ol_skip rfl rfl rfl ?_
          refine ol_skip rfl rfl rfl ?_
          refine ol_skip rfl rfl rfl ?_
          refine ol_skip rfl rfl rfl ?_
          refine ol_skip rfl rfl rfl ?_
          refine ol_put rfl rfl rfl (q_pickT (v := .one (bC true)) rfl rfl) ?_
          refine ol_end ?_
          refine E_seq ?_
          refine L_condT rfl ?_
          refine L_norm (L2 := ([[(k5, 2, [[iC .i64 n18, .p fr20 (Sl.t r56 s19)]])], [(k6, 2, [[iC .i64 n22, .p fr24 (Sl.t r56 s23)]])], [(k7, 2, [[iC .i64 0, .p true (Sl.t r56 (⟨false, 0, []⟩ : Sl (Int × Int)))]])], [(k26, 2, [[iC .i64 n18, moC l66 k67]])], moL r56 2 l66 k67] : BL)) [0, 1, 2, 3, 4] (by decide) rfl ?_
          refine L_turn 11 rfl [[], [], [], [], [], [], [], [], moK l66 k67, [], [k26]] [(false, []), (false, []), (false, []), (false, []), (false, []), (false, []), (false, []), (true, []), (true, []), (false, []), (false, [])] [[2, 3, 4, 5, 6, 7], [2, 3, 4, 5, 6, 7], [0, 1, 4], [0, 1, 4], [0, 1, 2, 3], [0, 1], [0, 1], [0, 1], [], [], []] (by kernel_rfl) (by kernel_rfl) (by kernel_rfl) ?_ (fun bb76 hlt hnd => ?_)
          · intro bb76 hlt hnd
            have e_k5 : k5 < bb76 := key_lt hlt 0 rfl
            have e_k6 : k6 < bb76 := key_lt hlt 1 rfl
            have e_k7 : k7 < bb76 := key_lt hlt 2 rfl
            have e_k26 : k26 < bb76 := key_lt hlt 3 rfl
            have e_k67 : l66 = [] ∨ k67 < bb76 := key_ltM (r := r56) (w := 2) hlt 4 rfl
            have f_k67 := moK_lt e_k67
            have d_k26_k5 : k26 ≠ k5 := key_ne hnd 3 0 rfl rfl rfl
            have d_k26_k6 : k26 ≠ k6 := key_ne hnd 3 1 rfl rfl rfl
            have d_k26_k7 : k26 ≠ k7 := key_ne hnd 3 2 rfl rfl rfl
            have d_k67_k5 : k5 ∉ moK l66 k67 := key_neM (r := r56) (w := 2) hnd 4 0 rfl rfl rfl
            have g_k67_k5 := moK_ne d_k67_k5
            have d_k67_k6 : k6 ∉ moK l66 k67 := key_neM (r := r56) (w := 2) hnd 4 1 rfl rfl rfl
            have g_k67_k6 := moK_ne d_k67_k6
            have d_k67_k7 : k7 ∉ moK l66 k67 := key_neM (r := r56) (w := 2) hnd 4 2 rfl rfl rfl
            have g_k67_k7 := moK_ne d_k67_k7
            have d_k67_k26 : k26 ∉ moK l66 k67 := key_neM (r := r56) (w := 2) hnd 4 3 rfl rfl rfl
            have g_k67_k26 := moK_ne d_k67_k26
            exact ⟨(by first | (simp [DJ]; done) | (simp [DJ]; omega) | (simp [DJ]; assumption) | (simp_all [DJ]; done) | (simp_all [DJ]; omega)), (by first | (simp [DJ]; done) | (simp [DJ]; omega) | (simp [DJ]; assumption) | (simp_all [DJ]; done) | (simp_all [DJ]; omega))⟩
          have e_k5 : k5 < bb76 := key_lt hlt 0 rfl
          have e_k6 : k6 < bb76 := key_lt hlt 1 rfl
          have e_k7 : k7 < bb76 := key_lt hlt 2 rfl
          have e_k26 : k26 < bb76 := key_lt hlt 3 rfl
          have e_k67 : l66 = [] ∨ k67 < bb76 := key_ltM (r := r56) (w := 2) hlt 4 rfl
          have f_k67 := moK_lt e_k67
          have d_k26_k5 : k26 ≠ k5 := key_ne hnd 3 0 rfl rfl rfl
          have d_k26_k6 : k26 ≠ k6 := key_ne hnd 3 1 rfl rfl rfl
          have d_k26_k7 : k26 ≠ k7 := key_ne hnd 3 2 rfl rfl rfl
          have d_k67_k5 : k5 ∉ moK l66 k67 := key_neM (r := r56) (w := 2) hnd 4 0 rfl rfl rfl
          have g_k67_k5 := moK_ne d_k67_k5
          have d_k67_k6 : k6 ∉ moK l66 k67 := key_neM (r := r56) (w := 2) hnd 4 1 rfl rfl rfl
          have g_k67_k6 := moK_ne d_k67_k6
          have d_k67_k7 : k7 ∉ moK l66 k67 := key_neM (r := r56) (w := 2) hnd 4 2 rfl rfl rfl
          have g_k67_k7 := moK_ne d_k67_k7
          have d_k67_k26 : k26 ∉ moK l66 k67 := key_neM (r := r56) (w := 2) hnd 4 3 rfl rfl rfl
          have g_k67_k26 := moK_ne d_k67_k26
          refine tn_put rfl rfl rfl [] (by decide) rfl hmn rfl (q_fieldP rfl fa25_1 rfl) ?_
          refine tn_put rfl rfl rfl [3] (by decide) rfl (hmc (nin_cons (ne_new (key_lt hlt 3 rfl)) nin_nil) hmn) rfl (q_loadP (v := .one (moC l66 k67)) 0 rfl sz23 rfl rfl rfl rfl) ?_
          refine tn_put rfl rfl rfl [] (by decide) rfl (hm0 rfl) rfl (q_fieldP rfl fa25_1 rfl) ?_
          refine tn_put rfl rfl rfl [0] (by decide) rfl (hm0 rfl) rfl (q_loadP (v := .one (.p fr20 (Sl.t r56 s19))) 0 rfl sz23 rfl rfl rfl rfl) ?_
          refine tn_put rfl rfl rfl [] (by decide) rfl (hm0 rfl) rfl (q_move (v := .one (iC .i64 n65)) rfl) ?_
          refine tn_put rfl rfl rfl [] (by decide) rfl (hm0 rfl) rfl (q_ixS rfl rfl h70a h70 (el23.trans (congrArg some h70b.symm))) ?_
          refine tn_put rfl rfl rfl [] (by decide) rfl (hm0 rfl) rfl (q_loadI (v := .agg [iC .i64 n71, iC .i64 n72]) rfl sz57 (map_get h70) rfl rfl) ?_
          refine tn_new rfl rfl rfl [] (by decide) rfl (hm0 rfl) rfl rfl (hkc (ne_new (key_lt hlt 0 rfl)) (hkc (ne_new (key_lt hlt 1 rfl)) (hkc (ne_new (key_lt hlt 2 rfl)) (hkc (ne_new (key_lt hlt 3 rfl)) (hkM (e_k67.imp id fun h => by omega) hkn))))) (q_bslice (cs := [iC .i64 n71, iC .i64 n72]) (es := (([(n71, n72)] : List (Int × Int))).map (rowC r56)) ty23 rfl ty57 rfl rfl rfl rfl rfl) ?_
          obtain ⟨_, h78, h⟩ := bindS h
          obtain ⟨h78b, rfl⟩ := app_some h78
          refine tn_appM (r := r56) (l := l66) 0 5 rfl rfl rfl rfl [5, 0] (by decide) rfl (hm0 rfl) rfl rfl (hkc (ne_add rfl) (hkc (ne_new (key_lt hlt 0 rfl)) (hkc (ne_new (key_lt hlt 1 rfl)) (hkc (ne_new (key_lt hlt 2 rfl)) (hkc (ne_new (key_lt hlt 3 rfl)) (hkM (e_k67.imp id fun h => by omega) hkn)))))) rfl rfl (el_ownM (l := ([(n71, n72)] : List (Int × Int))) 1 rfl) rfl rfl h78 (fun y => rfl) el23 ty23 rfl rfl rfl rfl rfl ?_
          refine tn_put rfl rfl rfl [] (by decide) rfl (hm0 rfl) rfl (q_fieldP rfl fa25_1 rfl) ?_
          refine tn_wr rfl rfl [5] (by decide) rfl (hm0 rfl) rfl (q_store (es' := [[iC .i64 n18, moC (l66 ++ ([(n71, n72)] : List (Int × Int))) (bb76 + 8)]]) 0 rfl rfl rfl sz23 rfl rfl rfl rfl rfl) (q := 5) rfl rfl ?_
          refine tn_end ?_
          refine E_blkN ?_
          refine E_seq ?_
          refine L_ops ?_
          refine ol_put rfl rfl rfl (q_move (v := .one (iC .i64 n65)) rfl) ?_
          refine ol_put rfl rfl rfl (q_bin rfl rfl (p_add _ _ _ _ _ _ _) rfl) ?_
          refine ol_put rfl rfl rfl (q_assign (v := .one (iC .i64 (IntKind.i64.wrap (n65 + 1)))) rfl) ?_
          refine ol_end ?_
          obtain rfl := Option.some.inj h
          exact E_next (bb76 + 8) (ups_self ⟨rfl, rfl, rfl, rfl, rfl, trivial⟩) [2, 3, 4, 5, 0] (by decide) rfl
        · replace h := ifT (by decide) h
          refine ol_put rfl rfl rfl (q_not rfl) ?_
          refine ol_put rfl rfl rfl (q_move (v := .one (bC false)) rfl) ?_
          refine ol_put rfl rfl rfl (q_fieldP rfl fa25_1 rfl) ?_
          refine ol_put rfl rfl rfl (q_loadP (v := .one (.p fr20 (Sl.t r56 s19))) 0 rfl sz23 rfl rfl rfl rfl) ?_
          refine ol_put rfl rfl rfl (q_move (v := .one (iC .i64 n65)) rfl) ?_
          refine ol_put rfl rfl rfl (q_ixS rfl rfl h70a h70 (el23.trans (congrArg some h70b.symm))) ?_
          refine ol_put rfl rfl rfl (q_fieldI rfl fa57_1 rfl) ?_
          refine ol_put rfl rfl rfl (q_loadI (v := .one (iC .i64 n72)) rfl sz2 (map_get h70) rfl rfl) ?_
          refine ol_put rfl rfl rfl (q_move (v := .one (iC .i64 n74)) rfl) ?_
          by_cases c79 : n72 < n74
          · replace h := ifT c79 h
            refine ol_put rfl rfl rfl (q_bin rfl rfl (p_lss_t _ _ _ _ _ c79) rfl) ?_
            refine ol_put rfl rfl rfl (q_pickF (v := .one (bC true)) rfl rfl) ?_
            refine ol_end ?_
            refine E_seq ?_
            refine L_condT rfl ?_
            refine L_norm (L2 := ([[(k5, 2, [[iC .i64 n18, .p fr20 (Sl.t r56 s19)]])], [(k6, 2, [[iC .i64 n22, .p fr24 (Sl.t r56 s23)]])], [(k7, 2, [[iC .i64 0, .p true (Sl.t r56 (⟨false, 0, []⟩ : Sl (Int × Int)))]])], [(k26, 2, [[iC .i64 n18, moC l66 k67]])], moL r56 2 l66 k67] : BL)) [0, 1, 2, 3, 4] (by decide) rfl ?_
            refine L_turn 11 rfl [[], [], [], [], [], [], [], [], moK l66 k67, [], [k26]] [(false, []), (false, []), (false, []), (false, []), (false, []), (false, []), (false, []), (true, []), (true, []), (false, []), (false, [])] [[2, 3, 4, 5, 6, 7], [2, 3, 4, 5, 6, 7], [0, 1, 4], [0, 1, 4], [0, 1, 2, 3], [0, 1], [0, 1], [0, 1], [], [], []] (by kernel_rfl) (by kernel_rfl) (by kernel_rfl) ?_ (fun bb80 hlt hnd => ?_)
            · intro bb80 hlt hnd
              have e_k5 : k5 < bb80 := key_lt hlt 0 rfl
              have e_k6 : k6 < bb80 := key_lt hlt 1 rfl
              have e_k7 : k7 < bb80 := key_lt hlt 2 rfl
              have e_k26 : k26 < bb80 := key_lt hlt 3 rfl
              have e_k67 : l66 = [] ∨ k67 < bb80 := key_ltM (r := r56) (w := 2) hlt 4 rfl
              have f_k67 := moK_lt e_k67
              have d_k26_k5 : k26 ≠ k5 := key_ne hnd 3 0 rfl rfl rfl
              have d_k26_k6 : k26 ≠ k6 := key_ne hnd 3 1 rfl rfl rfl
              have d_k26_k7 : k26 ≠ k7 := key_ne hnd 3 2 rfl rfl rfl
              have d_k67_k5 : k5 ∉ moK l66 k67 := key_neM (r := r56) (w := 2) hnd 4 0 rfl rfl rfl
              have g_k67_k5 := moK_ne d_k67_k5
              have d_k67_k6 : k6 ∉ moK l66 k67 := key_neM (r := r56) (w := 2) hnd 4 1 rfl rfl rfl
              have g_k67_k6 := moK_ne d_k67_k6
              have d_k67_k7 : k7 ∉ moK l66 k67 := key_neM (r := r56) (w := 2) hnd 4 2 rfl rfl rfl
              have g_k67_k7 := moK_ne d_k67_k7
              have d_k67_k26 : k26 ∉ moK l66 k67 := key_neM (r := r56) (w := 2) hnd 4 3 rfl rfl rfl
              have g_k67_k26 := moK_ne d_k67_k26
              exact ⟨(by first | (simp [DJ]; done) | (simp [DJ]; omega) | (simp [DJ]; assumption) | (simp_all [DJ]; done) | (simp_all [DJ]; omega)), (by first | (simp [DJ]; done) | (simp [DJ]; omega) | (simp [DJ]; assumption) | (simp_all [DJ]; done) | (simp_all [DJ]; omega))⟩
            have e_k5 : k5 < bb80 := key_lt hlt 0 rfl
            have e_k6 : k6 < bb80 := key_lt hlt 1 rfl
            have e_k7 : k7 < bb80 := key_lt hlt 2 rfl
            have e_k26 : k26 < bb80 := key_lt hlt 3 rfl
            have e_k67 : l66 = [] ∨ k67 < bb80 := key_ltM (r := r56) (w := 2) hlt 4 rfl
            have f_k67 := moK_lt e_k67
            have d_k26_k5 : k26 ≠ k5 := key_ne hnd 3 0 rfl rfl rfl
            have d_k26_k6 : k26 ≠ k6 := key_ne hnd 3 1 rfl rfl rfl
            have d_k26_k7 : k26 ≠ k7 := key_ne hnd 3 2 rfl rfl rfl
            have d_k67_k5 : k5 ∉ moK l66 k67 := key_neM (r := r56) (w := 2) hnd 4 0 rfl rfl rfl
            have g_k67_k5 := moK_ne d_k67_k5
            have d_k67_k6 : k6 ∉ moK l66 k67 := key_neM (r := r56) (w := 2) hnd 4 1 rfl rfl rfl
            have g_k67_k6 := moK_ne d_k67_k6
            have d_k67_k7 : k7 ∉ moK l66 k67 := key_neM (r := r56) (w := 2) hnd 4 2 rfl rfl rfl
            have g_k67_k7 := moK_ne d_k67_k7
            have d_k67_k26 : k26 ∉ moK l66 k67 := key_neM (r := r56) (w := 2) hnd 4 3 rfl rfl rfl
            have g_k67_k26 := moK_ne d_k67_k26
            refine tn_put rfl rfl rfl [] (by decide) rfl hmn rfl (q_fieldP rfl fa25_1 rfl) ?_
            refine tn_put rfl rfl rfl [3] (by decide) rfl (hmc (nin_cons (ne_new (key_lt hlt 3 rfl)) nin_nil) hmn) rfl (q_loadP (v := .one (moC l66 k67)) 0 rfl sz23 rfl rfl rfl rfl) ?_
            refine tn_put rfl rfl rfl [] (by decide) rfl (hm0 rfl) rfl (q_fieldP rfl fa25_1 rfl) ?_
            refine tn_put rfl rfl rfl [0] (by decide) rfl (hm0 rfl) rfl (q_loadP (v := .one (.p fr20 (Sl.t r56 s19))) 0 rfl sz23 rfl rfl rfl rfl) ?_
            refine tn_put rfl rfl rfl [] (by decide) rfl (hm0 rfl) rfl (q_move (v := .one (iC .i64 n65)) rfl) ?_
            refine tn_put rfl rfl rfl [] (by decide) rfl (hm0 rfl) rfl (q_ixS rfl rfl h70a h70 (el23.trans (congrArg some h70b.symm))) ?_
            refine tn_put rfl rfl rfl [] (by decide) rfl (hm0 rfl) rfl (q_loadI (v := .agg [iC .i64 n71, iC .i64 n72]) rfl sz57 (map_get h70) rfl rfl) ?_
            refine tn_new rfl rfl rfl [] (by decide) rfl (hm0 rfl) rfl rfl (hkc (ne_new (key_lt hlt 0 rfl)) (hkc (ne_new (key_lt hlt 1 rfl)) (hkc (ne_new (key_lt hlt 2 rfl)) (hkc (ne_new (key_lt hlt 3 rfl)) (hkM (e_k67.imp id fun h => by omega) hkn))))) (q_bslice (cs := [iC .i64 n71, iC .i64 n72]) (es := (([(n71, n72)] : List (Int × Int))).map (rowC r56)) ty23 rfl ty57 rfl rfl rfl rfl rfl) ?_
            obtain ⟨_, h82, h⟩ := bindS h
            obtain ⟨h82b, rfl⟩ := app_some h82
            refine tn_appM (r := r56) (l := l66) 0 5 rfl rfl rfl rfl [5, 0] (by decide) rfl (hm0 rfl) rfl rfl (hkc (ne_add rfl) (hkc (ne_new (key_lt hlt 0 rfl)) (hkc (ne_new (key_lt hlt 1 rfl)) (hkc (ne_new (key_lt hlt 2 rfl)) (hkc (ne_new (key_lt hlt 3 rfl)) (hkM (e_k67.imp id fun h => by omega) hkn)))))) rfl rfl (el_ownM (l := ([(n71, n72)] : List (Int × Int))) 1 rfl) rfl rfl h82 (fun y => rfl) el23 ty23 rfl rfl rfl rfl rfl ?_
            refine tn_put rfl rfl rfl [] (by decide) rfl (hm0 rfl) rfl (q_fieldP rfl fa25_1 rfl) ?_
            refine tn_wr rfl rfl [5] (by decide) rfl (hm0 rfl) rfl (q_store (es' := [[iC .i64 n18, moC (l66 ++ ([(n71, n72)] : List (Int × Int))) (bb80 + 8)]]) 0 rfl rfl rfl sz23 rfl rfl rfl rfl rfl) (q := 5) rfl rfl ?_
            refine tn_end ?_
            refine E_blkN ?_
            refine E_seq ?_
            refine L_ops ?_
            refine ol_put rfl rfl rfl (q_move (v := .one (iC .i64 n65)) rfl) ?_
            refine ol_put rfl rfl rfl (q_bin rfl rfl (p_add _ _ _ _ _ _ _) rfl) ?_
            refine ol_put rfl rfl rfl (q_assign (v := .one (iC .i64 (IntKind.i64.wrap (n65 + 1)))) rfl) ?_
            refine ol_end ?_
            obtain rfl := Option.some.inj h
            exact E_next (bb80 + 8) (ups_self ⟨rfl, rfl, rfl, rfl, rfl, trivial⟩) [2, 3, 4, 5, 0] (by decide) rfl
          · replace h := ifF c79 h
            refine ol_put rfl rfl rfl (q_bin rfl rfl (p_lss_f _ _ _ _ _ c79) rfl) ?_
            refine ol_put rfl rfl rfl (q_pickF (v := .one (bC false)) rfl rfl) ?_
            refine ol_end ?_
            refine E_seq ?_
            refine L_condF rfl ?_
            refine L_skip ?_
            refine E_blkN ?_
            refine E_seq ?_
            refine L_ops ?_
            refine ol_put rfl rfl rfl (q_move (v := .one (iC .i64 n65)) rfl) ?_
            refine ol_put rfl rfl rfl (q_bin rfl rfl (p_add _ _ _ _ _ _ _) rfl) ?_
            refine ol_put rfl rfl rfl (q_assign (v := .one (iC .i64 (IntKind.i64.wrap (n65 + 1)))) rfl) ?_
            refine ol_end ?_
            obtain rfl := Option.some.inj h
            exact E_next k67 (ups_self ⟨rfl, rfl, rfl, rfl, rfl, trivial⟩) [0, 1, 2, 3, 4] (by decide) rfl
      · replace h := ifF c68 h
        refine ol_put rfl rfl rfl (q_bin rfl rfl (p_lss_f _ _ _ _ _ c68) rfl) ?_
        refine ol_end ?_
        refine E_seq ?_
        refine L_condF rfl ?_
        refine L_exit ?_
        refine E_seqX ?_
        obtain rfl := Option.some.inj h
        refine E_out ?_
        exact (E_exit k67 (ups_self ⟨rfl, rfl, trivial⟩) [2, 3, 4] (by decide) rfl)
    · rintro (l83 | u) h
      · refine J_x (fun k84 g => ?_)
        replace h := elimL h
        refine E_blkH ?_
        refine E_seq ?_
        refine L_seq ?_
        refine L_ops ?_
        refine ol_put rfl rfl rfl (q_loadP (v := .agg [iC .i64 n18, moC l83 k84]) 1 rfl sz25 rfl rfl rfl rfl) ?_
        refine ol_wr rfl rfl (q_store (es' := [[iC .i64 n18, moC l83 k84]]) 0 rfl rfl rfl sz25 rfl rfl rfl rfl rfl) rfl ?_
        refine ol_put rfl rfl rfl (q_assign (v := .one (iC .i64 0)) rfl) ?_
        refine ol_end ?_
        refine E_seq ?_
        refine L_ret ?_
        obtain rfl := Option.some.inj h
        exact E_endF (.inr rfl) (res_cell (d := .agg [iC .i64 n18, moC l83 k84]) 0 rfl sz25 rfl rfl rfl rfl (res_tmp rfl res_nil)) (vw_cons (vd_agg (vc_cons vc_v (vc_cons (vc_M (r := r56) 2 rfl (fun x h m => rfl)) vc_nil))) (vw_cons (vd_one vc_v) vw_nil)) (fun h hb => own_no2) rfl rfl
      · obtain rfl := Option.some.inj (elimR h)
        exact J_up (fun s hs => hs)

noncomputable def ref03_Has (s1 : Sl (Int)) (n2 : Int) : Option (Bool) :=
  (if n2 ≥ 0 then ((divO .i64 n2 64).bind fun n4 => (if n4 < ((s1.l.length : Nat) : Int) then ((atS 1 s1 n4).bind fun n9 => ((modO n2 64).bind fun n10 => ((shr1 .u64 n9 (IntKind.u64.wrap n10)).bind fun n12 => (if (andI .u64 n12 1) = 1 then some true else some false)))) else some false)) else some false)
theorem ref03_Has_r (m : Nat) {s1 : Sl (Int)} {n2 : Int} {out : Bool} (h : ref03_Has s1 n2 = some out) : RunsP E1 (m + 1) 51 [.one (Sl.t r61 s1), .one (iT .i64 n2)] (.fresh, [.one (bT out)]) := by
  refine fn_F rfl (by rw [E1_fn]; exact show fiOf Try.prog 51 = _ by unfold fiOf; rw [Try.func51]; unfold Try.f51; rfl) rfl ?_
  dsimp only
  unfold ref03_Has at h
  refine L_seq ?_
  refine L_ops ?_
  refine ol_put rfl rfl rfl (q_assign (v := .one (bC false)) rfl) ?_
  refine ol_end ?_
  refine E_seq ?_
  refine L_seq ?_
  refine L_ops ?_
  refine ol_put rfl rfl rfl (q_move (v := .one (iC .i64 n2)) rfl) ?_
  by_cases c3 : n2 ≥ 0
  · replace h := ifT c3 h
    refine ol_put rfl rfl rfl (q_bin rfl rfl (p_geq_t _ _ _ _ _ c3) rfl) ?_
    refine ol_put rfl rfl rfl (q_move (v := .one (bC true)) rfl) ?_
    refine ol_put rfl rfl rfl (q_move (v := .one (iC .i64 n2)) rfl) ?_
    obtain ⟨n4, h5, h⟩ := bindS h
    refine ol_put rfl rfl rfl (q_bin rfl rfl (divO_p h5) rfl) ?_
    refine ol_put rfl rfl rfl (q_move (v := .one (.p false (Sl.t r61 s1))) rfl) ?_
    refine ol_put rfl rfl rfl (q_lenS rfl ty33 rfl rfl rfl rfl) ?_
    by_cases c6 : n4 < ((s1.l.length : Nat) : Int)
    · replace h := ifT c6 h
      refine ol_put rfl rfl rfl (q_bin rfl rfl (p_lss_t _ _ _ _ _ c6) rfl) ?_
      refine ol_put rfl rfl rfl (q_pickT (v := .one (bC true)) rfl rfl) ?_
      refine ol_put rfl rfl rfl (q_move (v := .one (bC true)) rfl) ?_
      refine ol_put rfl rfl rfl (q_move (v := .one (.p false (Sl.t r61 s1))) rfl) ?_
      refine ol_put rfl rfl rfl (q_move (v := .one (iC .i64 n2)) rfl) ?_
      refine ol_put rfl rfl rfl (q_bin rfl rfl (divO_p h5) rfl) ?_
      obtain ⟨n9, h8, h⟩ := bindS h
      obtain ⟨h8a, h8b, h8⟩ := atS_some h8
      refine ol_put rfl rfl rfl (q_ixS rfl rfl h8a h8 (el33.trans (congrArg some h8b.symm))) ?_
      refine ol_put rfl rfl rfl (q_loadI (v := .one (iC .u64 n9)) rfl sz61 (map_get h8) rfl rfl) ?_
      refine ol_put rfl rfl rfl (q_move (v := .one (iC .i64 n2)) rfl) ?_
      obtain ⟨n10, h11, h⟩ := bindS h
      refine ol_put rfl rfl rfl (q_bin rfl rfl (modO_p h11) rfl) ?_
      refine ol_put rfl rfl rfl (q_conv rfl (cv3_90_i64 _) rfl) ?_
      obtain ⟨n12, h13, h⟩ := bindS h
      refine ol_put rfl rfl rfl (q_bin rfl rfl (p_shr h13) rfl) ?_
      refine ol_put rfl rfl rfl (q_bin rfl rfl (p_and _ _ _ _ _ _ _) rfl) ?_
      by_cases c14 : (andI .u64 n12 1) = 1
      · replace h := ifT c14 h
        refine ol_put rfl rfl rfl (q_bin rfl rfl (p_eql_t _ _ _ _ _ c14) rfl) ?_
        refine ol_put rfl rfl rfl (q_pickT (v := .one (bC true)) rfl rfl) ?_
        refine ol_put rfl rfl rfl (q_assign (v := .one (bC true)) rfl) ?_
        refine ol_end ?_
        refine E_seq ?_
        refine L_ret ?_
        obtain rfl := Option.some.inj h
        exact E_endF (.inr rfl) (res_tmp rfl res_nil) (vw_cons (vd_one vc_v) vw_nil) (fun h hb => own_p) rfl rfl
      · replace h := ifF c14 h
        refine ol_put rfl rfl rfl (q_bin rfl rfl (p_eql_f _ _ _ _ _ c14) rfl) ?_
        refine ol_put rfl rfl rfl (q_pickT (v := .one (bC false)) rfl rfl) ?_
        refine ol_put rfl rfl rfl (q_assign (v := .one (bC false)) rfl) ?_
        refine ol_end ?_
        refine E_seq ?_
        refine L_ret ?_
        obtain rfl := Option.some.inj h
        exact E_endF (.inr rfl) (res_tmp rfl res_nil) (vw_cons (vd_one vc_v) vw_nil) (fun h hb => own_p) rfl rfl
    · replace h := ifF c6 h
      refine ol_put rfl rfl rfl (q_bin rfl rfl (p_lss_f _ _ _ _ _ c6) rfl) ?_
      refine ol_put rfl rfl rfl (q_pickT (v := .one (bC false)) rfl rfl) ?_
      refine ol_put rfl rfl rfl (q_move (v := .one (bC false)) rfl) ?_
      refine ol_skip rfl rfl rfl ?_
      refine ol_skip rfl rfl rfl ?_
      refine ol_skip rfl rfl rfl ?_
      refine ol_skip rfl rfl rfl ?_
      refine ol_skip rfl rfl rfl ?_
      refine ol_skip rfl rfl rfl ?_
      refine ol_skip rfl rfl rfl ?_
      refine ol_skip rfl rfl rfl ?_
      refine ol_skip rfl rfl rfl ?_
      refine ol_skip rfl rfl rfl ?_
      refine ol_skip rfl rfl rfl ?_
      refine ol_put rfl rfl rfl (q_pickF (v := .one (bC false)) rfl rfl) ?_
      refine ol_put rfl rfl rfl (q_assign (v := .one (bC false)) rfl) ?_
      refine ol_end ?_
      refine E_seq ?_
      refine L_ret ?_
      obtain rfl := Option.some.inj h
      exact E_endF (.inr rfl) (res_tmp rfl res_nil) (vw_cons (vd_one vc_v) vw_nil) (fun h hb => own_p) rfl rfl
  · replace h := ifF c3 h
    refine ol_put rfl rfl rfl (q_bin rfl rfl (p_geq_f _ _ _ _ _ c3) rfl) ?_
    refine ol_put rfl rfl rfl (q_move (v := .one (bC false)) rfl) ?_
    refine ol_skip rfl rfl rfl ?_
    refine ol_skip rfl rfl rfl ?_
    refine ol_skip rfl rfl rfl ?_
    refine ol_skip rfl rfl rfl ?_
    refine ol_skip rfl rfl rfl ?_
    refine ol_put rfl rfl rfl (q_pickF (v := .one (bC false)) rfl rfl) ?_
    refine ol_put rfl rfl rfl (q_move (v := .one (bC false)) rfl) ?_
    refine ol_skip rfl rfl rfl ?_
    refine ol_skip rfl rfl rfl ?_
    refine ol_skip rfl rfl rfl ?_
    refine ol_skip rfl rfl rfl ?_
    refine ol_skip rfl rfl rfl ?_
    refine ol_skip rfl rfl rfl ?_
    refine ol_skip rfl rfl rfl ?_
    refine ol_skip rfl rfl rfl ?_
    refine ol_skip rfl rfl rfl ?_
    refine ol_skip rfl rfl rfl ?_
    refine ol_skip rfl rfl rfl ?_
    refine ol_put rfl rfl rfl (q_pickF (v := .one (bC false)) rfl rfl) ?_
    refine ol_put rfl rfl rfl (q_assign (v := .one (bC false)) rfl) ?_
    refine ol_end ?_
    refine E_seq ?_
    refine L_ret ?_
    obtain rfl := Option.some.inj h
    exact E_endF (.inr rfl) (res_tmp rfl res_nil) (vw_cons (vd_one vc_v) vw_nil) (fun h hb => own_p) rfl rfl

noncomputable def ref11_Mask_b1 (s3 : Sl (Int)) (s9 : Sl (Int × Int)) (a : Bool × Int × (List (Int × Int))) : Option ((Bool × Int × (List (Int × Int))) ⊕ ((List (Int × Int)) ⊕ (Int × (Sl (Int × Int))))) :=
  match a with
  | (b66, n67, l68) => (if n67 < ((s9.l.length : Nat) : Int) then ((atS 2 s9 n67).bind fun (n73, n74) => ((ref03_Has s3 n73).bind fun b76 => (if b76 = true then (if b66 = true then some (.inl (true, (IntKind.i64.wrap (n67 + 1)), l68)) else ((app l68 ([(n73, n74)] : List (Int × Int))).bind fun _ => some (.inl (false, (IntKind.i64.wrap (n67 + 1)), (l68 ++ ([(n73, n74)] : List (Int × Int))))))) else (if b66 = true then ((app l68 ([(n73, n74)] : List (Int × Int))).bind fun _ => some (.inl (true, (IntKind.i64.wrap (n67 + 1)), (l68 ++ ([(n73, n74)] : List (Int × Int)))))) else some (.inl (false, (IntKind.i64.wrap (n67 + 1)), l68)))))) else some (.inr (.inl l68)))
noncomputable def ref11_Mask (a0 : Int × (Sl (Int × Int))) (s3 : Sl (Int)) (b4 : Bool) : Option ((Int × (Sl (Int × Int)))) :=
  match a0 with
  | (n1, s2) => ((ref09_Sure (n1, s2)).bind fun (n8, s9) => ((loopO (ref11_Mask_b1 s3 s9) (b4, 0, ([] : List (Int × Int)))).bind (Sum.elim (fun l83 => some (n8, (mo 2 l83))) (fun u => some u))))
theorem ref11_Mask_r (m : Nat) {a0 : Int × (Sl (Int × Int))} {s3 : Sl (Int)} {b4 : Bool} {out : (Int × (Sl (Int × Int)))} (h : ref11_Mask a0 s3 b4 = some out) : RunsP E1 (m + 3) 22 [.agg (r24 a0), .one (Sl.t r61 s3), .one (bT b4)] (.fresh, [.agg (r24 out)]) := by
  obtain ⟨n1, s2⟩ := a0
  refine fn_F rfl (by rw [E1_fn]; exact show fiOf Try.prog 22 = _ by unfold fiOf; rw [Try.func22]; unfold Try.f22; rfl) rfl ?_
  dsimp only
  unfold ref11_Mask at h
  refine L_seq ?_
  refine L_ops ?_
  refine ol_new rfl rfl rfl (q_box ty25 rfl (cs := [iC .i64 n1, .p false (Sl.t r56 s2)]) rfl rfl) (fun k5 => ?_)
  refine ol_new rfl rfl rfl (q_alloc ty25 (row := [iC .i64 0, .p true (Sl.t r56 (⟨false, 0, []⟩ : Sl (Int × Int)))]) rfl rfl) (fun k6 => ?_)
  refine ol_end ?_
  refine E_seq ?_
  refine L_seq ?_
  refine L_ops ?_
  refine ol_put rfl rfl rfl (q_loadP (v := .agg [iC .i64 n1, .p false (Sl.t r56 s2)]) 1 rfl sz25 rfl rfl rfl rfl) ?_
  obtain ⟨⟨n8, s9⟩, h7, h⟩ := bindS h
  refine ol_putX rfl rfl rfl (q_callX (v := fun fr10 => .agg [iC .i64 n8, .p fr10 (Sl.t r56 s9)]) (args := [.agg [iC .i64 n1, .p false (Sl.t r56 s2)]]) (ref09_Sure_r (m + 0) h7) rfl rfl (vw_cons (vd_agg (vc_cons vc_v (vc_cons vc_s vc_nil))) vw_nil) rfl rfl (fun fr => rfl)) (fun fr10 => ?_)
  refine ol_wr rfl rfl (q_store (es' := [[iC .i64 n8, .p fr10 (Sl.t r56 s9)]]) 1 rfl rfl rfl sz25 rfl rfl rfl rfl rfl) rfl ?_
  refine ol_end ?_
  refine E_seq ?_
  refine L_seq ?_
  refine L_ops ?_
  refine ol_put rfl rfl rfl (q_fieldP rfl fa25_0 rfl) ?_
  refine ol_put rfl rfl rfl (q_loadP (v := .one (iC .i64 n8)) 1 rfl sz3 rfl rfl rfl rfl) ?_
  refine ol_put rfl rfl rfl (q_build (cs := [iC .i64 n8, .p true (Sl.t r56 (⟨false, 0, []⟩ : Sl (Int × Int)))]) ty25 rfl pl25 rfl) ?_
  refine ol_new rfl rfl rfl (q_alloc ty25 (row := [iC .i64 0, .p true (Sl.t r56 (⟨false, 0, []⟩ : Sl (Int × Int)))]) rfl rfl) (fun k11 => ?_)
  refine ol_wr rfl rfl (q_store (es' := [[iC .i64 n8, .p true (Sl.t r56 (⟨false, 0, []⟩ : Sl (Int × Int)))]]) 0 rfl rfl rfl sz25 rfl rfl rfl rfl rfl) rfl ?_
  refine ol_end ?_
  refine E_seq ?_
  refine L_seq ?_
  refine L_seq ?_
  refine L_ops ?_
  refine ol_put rfl rfl rfl (q_assign (v := .one (iC .i64 0)) rfl) ?_
  refine ol_end ?_
  refine E_seq ?_
  refine L_block ?_
  refine L_addM (α := Int × Int) r56 2 ?_
  let S1 : (Bool × Int × (List (Int × Int))) → Nat → (Nat → D) → Nat → D := fun a kt g => ups g [(1, .one (.p false (Sl.t r61 s3))), (2, .one (bC a.1)), (3, .one (.ptr k5 0 0)), (6, .one (.ptr k6 0 0)), (7, .one (.ptr k11 0 0)), (8, .one (iC .i64 a.2.1))]
  let SL1 : (Bool × Int × (List (Int × Int))) → Nat → BL := fun a kt => ([[(k5, 2, [[iC .i64 n8, .p fr10 (Sl.t r56 s9)]])], [(k6, 2, [[iC .i64 0, .p true (Sl.t r56 (⟨false, 0, []⟩ : Sl (Int × Int)))]])], [(k11, 2, [[iC .i64 n8, moC a.2.2 kt]])], moL r56 2 a.2.2 kt] : BL)
  let G1 : (Int × (Sl (Int × Int))) → Ex → St → Prop := fun u => endQ E1 [.cell 6 25] (.fresh, [.agg (r24 u)])
  let Sx1 : (List (Int × Int)) → Nat → (Nat → D) → Nat → D := fun a kt g => ups g [(6, .one (.ptr k6 0 0)), (7, .one (.ptr k11 0 0))]
  let SLx1 : (List (Int × Int)) → Nat → BL := fun a kt => ([[(k6, 2, [[iC .i64 0, .p true (Sl.t r56 (⟨false, 0, []⟩ : Sl (Int × Int)))]])], [(k11, 2, [[iC .i64 n8, moC a kt]])], moL r56 2 a kt] : BL)
  let J1 : ((List (Int × Int)) ⊕ (Int × (Sl (Int × Int)))) → Ex → St → Prop := JX 42 0 Sx1 SLx1 G1
  refine L_loopS (ref11_Mask_b1 s3 s9) S1 SL1 J1 JX_n (b4, 0, ([] : List (Int × Int))) h 1064 (ups_self ⟨rfl, rfl, rfl, rfl, rfl, rfl, trivial⟩) [3, 2, 1, 0] (by decide) rfl ?_ ?_
  · rintro ⟨b66, n67, l68⟩ k69 g out h
    change ref11_Mask_b1 s3 s9 (b66, n67, l68) = some out at h
    unfold ref11_Mask_b1 at h
    refine L_seq ?_
    refine L_seq ?_
    refine L_ops ?_
    refine ol_put rfl rfl rfl (q_move (v := .one (iC .i64 n67)) rfl) ?_
    refine ol_put rfl rfl rfl (q_fieldP rfl fa25_1 rfl) ?_
    refine ol_put rfl rfl rfl (q_loadP (v := .one (.p fr10 (Sl.t r56 s9))) 0 rfl sz23 rfl rfl rfl rfl) ?_
    refine ol_put rfl rfl rfl (q_lenS rfl ty23 rfl rfl rfl rfl) ?_
    by_cases c70 : n67 < ((s9.l.length : Nat) : Int)
    · replace h := ifT c70 h
      refine ol_put rfl rfl rfl (q_bin rfl rfl (p_lss_t _ _ _ _ _ c70) rfl) ?_
      refine ol_end ?_
      refine E_seq ?_
      refine L_condT rfl ?_
      refine L_skip ?_
      refine E_seq ?_
      refine L_seq ?_
      refine L_block ?_
      refine L_seq ?_
      refine L_ops ?_
      refine ol_put rfl rfl rfl (q_move (v := .one (.p false (Sl.t r61 s3))) rfl) ?_
      refine ol_put rfl rfl rfl (q_fieldP rfl fa25_1 rfl) ?_
      refine ol_put rfl rfl rfl (q_loadP (v := .one (.p fr10 (Sl.t r56 s9))) 0 rfl sz23 rfl rfl rfl rfl) ?_
      refine ol_put rfl rfl rfl (q_move (v := .one (iC .i64 n67)) rfl) ?_
      obtain ⟨⟨n73, n74⟩, h72, h⟩ := bindS h
      obtain ⟨h72a, h72b, h72⟩ := atS_some h72
      refine ol_put rfl rfl rfl (q_ixS rfl rfl h72a h72 (el23.trans (congrArg some h72b.symm))) ?_
      refine ol_put rfl rfl rfl (q_fieldI rfl fa57_0 rfl) ?_
      refine ol_put rfl rfl rfl (q_loadI (v := .one (iC .i64 n73)) rfl sz3 (map_get h72) rfl rfl) ?_
      obtain ⟨b76, h75, h⟩ := bindS h
      refine ol_put rfl rfl rfl (q_callF (v := .one (bC b76)) (args := [.one (.p false (Sl.t r61 s3)), .one (iC .i64 n73)]) (ref03_Has_r (m + 1) h75) rfl rfl (vw_cons (vd_one vc_s) (vw_cons (vd_one vc_v) vw_nil)) rfl rfl) ?_
      refine ol_put rfl rfl rfl (q_move (v := .one (bC b66)) rfl) ?_
      rcases b76 with _ | _
      · replace h := ifF (by decide) h
        rcases b66 with _ | _
        · replace h := ifF (by decide) h
          refine ol_put rfl rfl rfl (q_binB rfl rfl (eqneqB4 _ _ _ _) rfl) ?_
          refine ol_end ?_
          refine E_seq ?_
          refine L_condF rfl ?_
          refine L_skip ?_
          refine E_blkN ?_
          refine E_seq ?_
          refine L_ops ?_
          refine ol_put rfl rfl rfl (q_move (v := .one (iC .i64 n67)) rfl) ?_
          refine ol_put rfl rfl rfl (q_bin rfl rfl (p_add _ _ _ _ _ _ _) rfl) ?_
          refine ol_put rfl rfl rfl (q_assign (v := .one (iC .i64 (IntKind.i64.wrap (n67 + 1)))) rfl) ?_
          refine ol_end ?_
          obtain rfl := Option.some.inj h
          exact E_next k69 (ups_self ⟨rfl, rfl, rfl, rfl, rfl, rfl, trivial⟩) [0, 1, 2, 3] (by decide) rfl
        · replace h := ifT (by decide) h
          refine ol_put rfl rfl rfl (q_binB rfl rfl (eqneqB4 _ _ _ _) rfl) ?_
          refine ol_end ?_
          refine E_seq ?_
          refine L_condT rfl ?_
          refine L_norm (L2 := ([[(k5, 2, [[iC .i64 n8, .p fr10 (Sl.t r56 s9)]])], [(k6, 2, [[iC .i64 0, .p true (Sl.t r56 (⟨false, 0, []⟩ : Sl (Int × Int)))]])], [(k11, 2, [[iC .i64 n8, moC l68 k69]])], moL r56 2 l68 k69] : BL)) [0, 1, 2, 3] (by decide) rfl ?_
          refine L_turn 11 rfl [[], [], [], [], [], [], [], [], moK l68 k69, [], [k11]] [(false, []), (false, []), (false, []), (false, []), (false, []), (false, []), (false, []), (true, []), (true, []), (false, []), (false, [])] [[2, 3, 4, 5, 6, 7], [2, 3, 4, 5, 6, 7], [0, 1, 4], [0, 1, 4], [0, 1, 2, 3], [0, 1], [0, 1], [0, 1], [], [], []] (by kernel_rfl) (by kernel_rfl) (by kernel_rfl) ?_ (fun bb77 hlt hnd => ?_)
          · intro bb77 hlt hnd
            have e_k5 : k5 < bb77 := key_lt hlt 0 rfl
            have e_k6 : k6 < bb77 := key_lt hlt 1 rfl
            have e_k11 : k11 < bb77 := key_lt hlt 2 rfl
            have e_k69 : l68 = [] ∨ k69 < bb77 := key_ltM (r := r56) (w := 2) hlt 3 rfl
            have f_k69 := moK_lt e_k69
            have d_k11_k5 : k11 ≠ k5 := key_ne hnd 2 0 rfl rfl rfl
            have d_k11_k6 : k11 ≠ k6 := key_ne hnd 2 1 rfl rfl rfl
            have d_k69_k5 : k5 ∉ moK l68 k69 := key_neM (r := r56) (w := 2) hnd 3 0 rfl rfl rfl
            have g_k69_k5 := moK_ne d_k69_k5
            have d_k69_k6 : k6 ∉ moK l68 k69 := key_neM (r := r56) (w := 2) hnd 3 1 rfl rfl rfl
            have g_k69_k6 := moK_ne d_k69_k6
            have d_k69_k11 : k11 ∉ moK l68 k69 := key_neM (r := r56) (w := 2) hnd 3 2 rfl rfl rfl
            have g_k69_k11 := moK_ne d_k69_k11
            exact ⟨(by first | (simp [DJ]; done) | (simp [DJ]; omega) | (simp [DJ]; assumption) | (simp_all [DJ]; done) | (simp_all [DJ]; omega)), (by first | (simp [DJ]; done) | (simp [DJ]; omega) | (simp [DJ]; assumption) | (simp_all [DJ]; done) | (simp_all [DJ]; omega))⟩
          have e_k5 : k5 < bb77 := key_lt hlt 0 rfl
          have e_k6 : k6 < bb77 := key_lt hlt 1 rfl
          have e_k11 : k11 < bb77 := key_lt hlt 2 rfl
          have e_k69 : l68 = [] ∨ k69 < bb77 := key_ltM (r := r56) (w := 2) hlt 3 rfl
          have f_k69 := moK_lt e_k69
          have d_k11_k5 : k11 ≠ k5 := key_ne hnd 2 0 rfl rfl rfl
          have d_k11_k6 : k11 ≠ k6 := key_ne hnd 2 1 rfl rfl rfl
          have d_k69_k5 : k5 ∉ moK l68 k69 := key_neM (r := r56) (w := 2) hnd 3 0 rfl rfl rfl
          have g_k69_k5 := moK_ne d_k69_k5
          have d_k69_k6 : k6 ∉ moK l68 k69 := key_neM (r := r56) (w := 2) hnd 3 1 rfl rfl rfl
          have g_k69_k6 := moK_ne d_k69_k6
          have d_k69_k11 : k11 ∉ moK l68 k69 := key_neM (r := r56) (w := 2) hnd 3 2 rfl rfl rfl
          have g_k69_k11 := moK_ne d_k69_k11
          refine tn_put rfl rfl rfl [] (by decide) rfl hmn rfl (q_fieldP rfl fa25_1 rfl) ?_
          refine tn_put rfl rfl rfl [2] (by decide) rfl (hmc (nin_cons (ne_new (key_lt hlt 2 rfl)) nin_nil) hmn) rfl (q_loadP (v := .one (moC l68 k69)) 0 rfl sz23 rfl rfl rfl rfl) ?_
          refine tn_put rfl rfl rfl [] (by decide) rfl (hm0 rfl) rfl (q_fieldP rfl fa25_1 rfl) ?_
          refine tn_put rfl rfl rfl [0] (by decide) rfl (hm0 rfl) rfl (q_loadP (v := .one (.p fr10 (Sl.t r56 s9))) 0 rfl sz23 rfl rfl rfl rfl) ?_
          refine tn_put rfl rfl rfl [] (by decide) rfl (hm0 rfl) rfl (q_move (v := .one (iC .i64 n67)) rfl) ?_
          refine tn_put rfl rfl rfl [] (by decide) rfl (hm0 rfl) rfl (q_ixS rfl rfl h72a h72 (el23.trans (congrArg some h72b.symm))) ?_
          refine tn_put rfl rfl rfl [] (by decide) rfl (hm0 rfl) rfl (q_loadI (v := .agg [iC .i64 n73, iC .i64 n74]) rfl sz57 (map_get h72) rfl rfl) ?_
          refine tn_new rfl rfl rfl [] (by decide) rfl (hm0 rfl) rfl rfl (hkc (ne_new (key_lt hlt 0 rfl)) (hkc (ne_new (key_lt hlt 1 rfl)) (hkc (ne_new (key_lt hlt 2 rfl)) (hkM (e_k69.imp id fun h => by omega) hkn)))) (q_bslice (cs := [iC .i64 n73, iC .i64 n74]) (es := (([(n73, n74)] : List (Int × Int))).map (rowC r56)) ty23 rfl ty57 rfl rfl rfl rfl rfl) ?_
          obtain ⟨_, h79, h⟩ := bindS h
          obtain ⟨h79b, rfl⟩ := app_some h79
          refine tn_appM (r := r56) (l := l68) 0 4 rfl rfl rfl rfl [4, 0] (by decide) rfl (hm0 rfl) rfl rfl (hkc (ne_add rfl) (hkc (ne_new (key_lt hlt 0 rfl)) (hkc (ne_new (key_lt hlt 1 rfl)) (hkc (ne_new (key_lt hlt 2 rfl)) (hkM (e_k69.imp id fun h => by omega) hkn))))) rfl rfl (el_ownM (l := ([(n73, n74)] : List (Int × Int))) 1 rfl) rfl rfl h79 (fun y => rfl) el23 ty23 rfl rfl rfl rfl rfl ?_
          refine tn_put rfl rfl rfl [] (by decide) rfl (hm0 rfl) rfl (q_fieldP rfl fa25_1 rfl) ?_
          refine tn_wr rfl rfl [4] (by decide) rfl (hm0 rfl) rfl (q_store (es' := [[iC .i64 n8, moC (l68 ++ ([(n73, n74)] : List (Int × Int))) (bb77 + 8)]]) 0 rfl rfl rfl sz23 rfl rfl rfl rfl rfl) (q := 4) rfl rfl ?_
          refine tn_end ?_
          refine E_blkN ?_
          refine E_seq ?_
          refine L_ops ?_
          refine ol_put rfl rfl rfl (q_move (v := .one (iC .i64 n67)) rfl) ?_
          refine ol_put rfl rfl rfl (q_bin rfl rfl (p_add _ _ _ _ _ _ _) rfl) ?_
          refine ol_put rfl rfl rfl (q_assign (v := .one (iC .i64 (IntKind.i64.wrap (n67 + 1)))) rfl) ?_
          refine ol_end ?_
          obtain rfl := Option.some.inj h
          exact E_next (bb77 + 8) (ups_self ⟨rfl, rfl, rfl, rfl, rfl, rfl, trivial⟩) [2, 3, 4, 0] (by decide) rfl
      · replace h := ifT (by decide) h
        rcases b66 with _ | _
        · replace h := ifF (by decide) h
          refine ol_put rfl rfl rfl (q_binB rfl rfl (eqneqB4 _ _ _ _) rfl) ?_
          refine ol_end ?_
          refine E_seq ?_
          refine L_condT rfl ?_
          refine L_norm (L2 := ([[(k5, 2, [[iC .i64 n8, .p fr10 (Sl.t r56 s9)]])], [(k6, 2, [[iC .i64 0, .p true (Sl.t r56 (⟨false, 0, []⟩ : Sl (Int × Int)))]])], [(k11, 2, [[iC .i64 n8, moC l68 k69]])], moL r56 2 l68 k69] : BL)) [0, 1, 2, 3] (by decide) rfl ?_
          refine L_turn 11 rfl [[], [], [], [], [], [], [], [], moK l68 k69, [], [k11]] [(false, []), (false, []), (false, []), (false, []), (false, []), (false, []), (false, []), (true, []), (true, []), (false, []), (false, [])] [[2, 3, 4, 5, 6, 7], [2, 3, 4, 5, 6, 7], [0, 1, 4], [0, 1, 4], [0, 1, 2, 3], [0, 1], [0, 1], [0, 1], [], [], []] (by kernel_rfl) (by kernel_rfl) (by kernel_rfl) ?_ (fun bb80 hlt hnd => ?_)
          · intro bb80 hlt hnd
            have e_k5 : k5 < bb80 := key_lt hlt 0 rfl
            have e_k6 : k6 < bb80 := key_lt hlt 1 rfl
            have e_k11 : k11 < bb80 := key_lt hlt 2 rfl
            have e_k69 : l68 = [] ∨ k69 < bb80 := key_ltM (r := r56) (w := 2) hlt 3 rfl
            have f_k69 := moK_lt e_k69
            have d_k11_k5 : k11 ≠ k5 := key_ne hnd 2 0 rfl rfl rfl
            have d_k11_k6 : k11 ≠ k6 := key_ne hnd 2 1 rfl rfl rfl
            have d_k69_k5 : k5 ∉ moK l68 k69 := key_neM (r := r56) (w := 2) hnd 3 0 rfl rfl rfl
            have g_k69_k5 := moK_ne d_k69_k5
            have d_k69_k6 : k6 ∉ moK l68 k69 := key_neM (r := r56) (w := 2) hnd 3 1 rfl rfl rfl
            have g_k69_k6 := moK_ne d_k69_k6
            have d_k69_k11 : k11 ∉ moK l68 k69 := key_neM (r := r56) (w := 2) hnd 3 2 rfl rfl rfl
            have g_k69_k11 := moK_ne d_k69_k11
            exact ⟨(by first | (simp [DJ]; done) | (simp [DJ]; omega) | (simp [DJ]; assumption) | (simp_all [DJ]; done) | (simp_all [DJ]; omega)), (by first | (simp [DJ]; done) | (simp [DJ]; omega) | (simp [DJ]; assumption) | (simp_all [DJ]; done) | (simp_all [DJ]; omega))⟩
          have e_k5 : k5 < bb80 := key_lt hlt 0 rfl
          have e_k6 : k6 < bb80 := key_lt hlt 1 rfl
          have e_k11 : k11 < bb80 := key_lt hlt 2 rfl
          have e_k69 : l68 = [] ∨ k69 < bb80 := key_ltM (r := r56) (w := 2) hlt 3 rfl
          have f_k69 := moK_lt e_k69
          have d_k11_k5 : k11 ≠ k5 := key_ne hnd 2 0 rfl rfl rfl
          have d_k11_k6 : k11 ≠ k6 := key_ne hnd 2 1 rfl rfl rfl
          have d_k69_k5 : k5 ∉ moK l68 k69 := key_neM (r := r56) (w := 2) hnd 3 0 rfl rfl rfl
          have g_k69_k5 := moK_ne d_k69_k5
          have d_k69_k6 : k6 ∉ moK l68 k69 := key_neM (r := r56) (w := 2) hnd 3 1 rfl rfl rfl
          have g_k69_k6 := moK_ne d_k69_k6
          have d_k69_k11 : k11 ∉ moK l68 k69 := key_neM (r := r56) (w := 2) hnd 3 2 rfl rfl rfl
          have g_k69_k11 := moK_ne d_k69_k11
          refine tn_put rfl rfl rfl [] (by decide) rfl hmn rfl (q_fieldP rfl fa25_1 rfl) ?_
          refine tn_put rfl rfl rfl [2] (by decide) rfl (hmc (nin_cons (ne_new (key_lt hlt 2 rfl)) nin_nil) hmn) rfl (q_loadP (v := .one (moC l68 k69)) 0 rfl sz23 rfl rfl rfl rfl) ?_
          refine tn_put rfl rfl rfl [] (by decide) rfl (hm0 rfl) rfl (q_fieldP rfl fa25_1 rfl) ?_
          refine tn_put rfl rfl rfl [0] (by decide) rfl (hm0 rfl) rfl (q_loadP (v := .one (.p fr10 (Sl.t r56 s9))) 0 rfl sz23 rfl rfl rfl rfl) ?_
          refine tn_put rfl rfl rfl [] (by decide) rfl (hm0 rfl) rfl (q_move (v := .one (iC .i64 n67)) rfl) ?_
          refine tn_put rfl rfl rfl [] (by decide) rfl (hm0 rfl) rfl (q_ixS rfl rfl h72a h72 (el23.trans (congrArg some h72b.symm))) ?_
          refine tn_put rfl rfl rfl [] (by decide) rfl (hm0 rfl) rfl (q_loadI (v := .agg [iC .i64 n73, iC .i64 n74]) rfl sz57 (map_get h72) rfl rfl) ?_
          refine tn_new rfl rfl rfl [] (by decide) rfl (hm0 rfl) rfl rfl (hkc (ne_new (key_lt hlt 0 rfl)) (hkc (ne_new (key_lt hlt 1 rfl)) (hkc (ne_new (key_lt hlt 2 rfl)) (hkM (e_k69.imp id fun h => by omega) hkn)))) (q_bslice (cs := [iC .i64 n73, iC .i64 n74]) (es := (([(n73, n74)] : List (Int × Int))).map (rowC r56)) ty23 rfl ty57 rfl rfl rfl rfl rfl) ?_
          obtain ⟨_, h82, h⟩ := bindS h
          obtain ⟨h82b, rfl⟩ := app_some h82
          refine tn_appM (r := r56) (l := l68) 0 4 rfl rfl rfl rfl [4, 0] (by decide) rfl (hm0 rfl) rfl rfl (hkc (ne_add rfl) (hkc (ne_new (key_lt hlt 0 rfl)) (hkc (ne_new (key_lt hlt 1 rfl)) (hkc (ne_new (key_lt hlt 2 rfl)) (hkM (e_k69.imp id fun h => by omega) hkn))))) rfl rfl (el_ownM (l := ([(n73, n74)] : List (Int × Int))) 1 rfl) rfl rfl h82 (fun y => rfl) el23 ty23 rfl rfl rfl rfl rfl ?_
          refine tn_put rfl rfl rfl [] (by decide) rfl (hm0 rfl) rfl (q_fieldP rfl fa25_1 rfl) ?_
          refine tn_wr rfl rfl [4] (by decide) rfl (hm0 rfl) rfl (q_store (es' := [[iC .i64 n8, moC (l68 ++ ([(n73, n74)] : List (Int × Int))) (bb80 + 8)]]) 0 rfl rfl rfl sz23 rfl rfl rfl rfl rfl) (q := 4) rfl rfl ?_
          refine tn_end ?_
          refine E_blkN ?_
          refine E_seq ?_
          refine L_ops ?_
          refine ol_put rfl rfl rfl (q_move (v := .one (iC .i64 n67)) rfl) ?_
          refine ol_put rfl rfl rfl (q_bin rfl rfl (p_add _ _ _ _ _ _ _) rfl) ?_
          refine ol_put rfl rfl rfl (q_assign (v := .one (iC .i64 (IntKind.i64.wrap (n67 + 1)))) rfl) ?_
          refine ol_end ?_
          obtain rfl := Option.some.inj h
          exact E_next (bb80 + 8) (ups_self ⟨rfl, rfl, rfl, rfl, rfl, rfl, trivial⟩) [2, 3, 4, 0] (by decide) rfl
        · replace h := ifT (by decide) h
          refine ol_put rfl rfl rfl (q_binB rfl rfl (eqneqB4 _ _ _ _) rfl) ?_
          refine ol_end ?_
          refine E_seq ?_
          refine L_condF rfl ?_
          refine L_skip ?_
          refine E_blkN ?_
          refine E_seq ?_
          refine L_ops ?_
          refine ol_put rfl rfl rfl (q_move (v := .one (iC .i64 n67)) rfl) ?_
          refine ol_put rfl rfl rfl (q_bin rfl rfl (p_add _ _ _ _ _ _ _) rfl) ?_
          refine ol_put rfl rfl rfl (q_assign (v := .one (iC .i64 (IntKind.i64.wrap (n67 + 1)))) rfl) ?_
          refine ol_end ?_
          obtain rfl := Option.some.inj h
          exact E_next k69 (ups_self ⟨rfl, rfl, rfl, rfl, rfl, rfl, trivial⟩) [0, 1, 2, 3] (by decide) rfl
    · replace h := ifF c70 h
      refine ol_put rfl rfl rfl (q_bin rfl rfl (p_lss_f _ _ _ _ _ c70) rfl) ?_
      refine ol_end ?_
      refine E_seq ?_
      refine L_condF rfl ?_
      refine L_exit ?_
      refine E_seqX ?_
      obtain rfl := Option.some.inj h
      refine E_out ?_
      exact (E_exit k69 (ups_self ⟨rfl, rfl, trivial⟩) [1, 2, 3] (by decide) rfl)
  · rintro (l83 | u) h
    · refine J_x (fun k84 g => ?_)
      replace h := elimL h
      refine E_blkH ?_
      refine E_seq ?_
      refine L_seq ?_
      refine L_ops ?_
      refine ol_put rfl rfl rfl (q_loadP (v := .agg [iC .i64 n8, moC l83 k84]) 1 rfl sz25 rfl rfl rfl rfl) ?_
      refine ol_wr rfl rfl (q_store (es' := [[iC .i64 n8, moC l83 k84]]) 0 rfl rfl rfl sz25 rfl rfl rfl rfl rfl) rfl ?_
      refine ol_end ?_
      refine E_seq ?_
      refine L_ret ?_
      obtain rfl := Option.some.inj h
      exact E_endF (.inr rfl) (res_cell (d := .agg [iC .i64 n8, moC l83 k84]) 0 rfl sz25 rfl rfl rfl rfl res_nil) (vw_cons (vd_agg (vc_cons vc_v (vc_cons (vc_M (r := r56) 2 rfl (fun x h m => rfl)) vc_nil))) vw_nil) (fun h hb => own_agg) rfl rfl
    · obtain rfl := Option.some.inj (elimR h)
      exact J_up (fun s hs => hs)
end Ev
end Go.Proofs.Ytlcfdmjkbaegpaa
