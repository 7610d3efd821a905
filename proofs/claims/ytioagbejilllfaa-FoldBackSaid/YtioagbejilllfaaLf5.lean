/- Functions of the program as functions on data, and that they are. -/
import Derived.Test.YtioagbejilllfaaLf1
import Derived.Test.YtioagbejilllfaaLf4
import Derived.Test.YtioagbejilllfaaLy1
namespace Go.Proofs.Ytioagbejilllfaa
namespace Ev
open Go
set_option linter.unusedVariables false
set_option linter.unusedSimpArgs false
set_option maxRecDepth 100000
set_option maxHeartbeats 1000000
attribute [local irreducible] OpsL StL TnL WpL EndL
noncomputable def ref09_Put_b1 (n3 : Int) (s9 : Sl (Int × Int)) (a : Int × (List (Int × Int))) : Option ((Int × (List (Int × Int))) ⊕ ((List (Int × Int)) ⊕ (Int × (Sl (Int × Int))))) :=
  match a with
  | (n53, l54) => (if n53 < ((s9.l.length : Nat) : Int) then ((atS 2 s9 n53).bind fun (n59, n60) => (if n59 ≠ n3 then ((atS 2 s9 n53).bind fun (n70, n71) => ((app l54 ([(n70, n71)] : List (Int × Int))).bind fun _ => some (.inl ((IntKind.i64.wrap (n53 + 1)), (l54 ++ ([(n70, n71)] : List (Int × Int))))))) else some (.inl ((IntKind.i64.wrap (n53 + 1)), l54)))) else some (.inr (.inl l54)))
noncomputable def ref09_Put_b2 (n3 : Int) (s9 : Sl (Int × Int)) (a : Int × (List (Int × Int))) : Option ((Int × (List (Int × Int))) ⊕ ((List (Int × Int)) ⊕ (Int × (Sl (Int × Int))))) :=
  match a with
  | (n116, l117) => (if n116 < ((s9.l.length : Nat) : Int) then ((atS 2 s9 n116).bind fun (n122, n123) => (if n122 ≠ n3 then ((atS 2 s9 n116).bind fun (n133, n134) => ((app l117 ([(n133, n134)] : List (Int × Int))).bind fun _ => some (.inl ((IntKind.i64.wrap (n116 + 1)), (l117 ++ ([(n133, n134)] : List (Int × Int))))))) else some (.inl ((IntKind.i64.wrap (n116 + 1)), l117)))) else some (.inr (.inl l117)))
noncomputable def ref09_Put_b3 (n3 : Int) (n4 : Int) (s9 : Sl (Int × Int)) (a : Bool × Int × (List (Int × Int))) : Option ((Bool × Int × (List (Int × Int))) ⊕ ((Bool × (List (Int × Int))) ⊕ (Int × (Sl (Int × Int))))) :=
  match a with
  | (b244, n245, l246) => (if n245 < ((s9.l.length : Nat) : Int) then (if b244 = true then ((atS 2 s9 n245).bind fun (n291, n292) => (if n291 ≠ n3 then ((atS 2 s9 n245).bind fun (n302, n303) => ((app l246 ([(n302, n303)] : List (Int × Int))).bind fun _ => some (.inl (true, (IntKind.i64.wrap (n245 + 1)), (l246 ++ ([(n302, n303)] : List (Int × Int))))))) else some (.inl (true, (IntKind.i64.wrap (n245 + 1)), l246)))) else ((atS 2 s9 n245).bind fun (n251, n252) => (if n251 ≥ n3 then ((app l246 ([(n3, n4)] : List (Int × Int))).bind fun _ => ((atS 2 s9 n245).bind fun (n259, n260) => (if n259 ≠ n3 then ((atS 2 s9 n245).bind fun (n270, n271) => ((app (l246 ++ ([(n3, n4)] : List (Int × Int))) ([(n270, n271)] : List (Int × Int))).bind fun _ => some (.inl (true, (IntKind.i64.wrap (n245 + 1)), ((l246 ++ ([(n3, n4)] : List (Int × Int))) ++ ([(n270, n271)] : List (Int × Int))))))) else some (.inl (true, (IntKind.i64.wrap (n245 + 1)), (l246 ++ ([(n3, n4)] : List (Int × Int)))))))) else ((atS 2 s9 n245).bind fun (n275, n276) => (if n275 ≠ n3 then ((atS 2 s9 n245).bind fun (n286, n287) => ((app l246 ([(n286, n287)] : List (Int × Int))).bind fun _ => some (.inl (false, (IntKind.i64.wrap (n245 + 1)), (l246 ++ ([(n286, n287)] : List (Int × Int))))))) else some (.inl (false, (IntKind.i64.wrap (n245 + 1)), l246))))))) else some (.inr (.inl (b244, l246))))
noncomputable def ref09_Put (a0 : Int × (Sl (Int × Int))) (n3 : Int) (n4 : Int) : Option ((Int × (Sl (Int × Int)))) :=
  match a0 with
  | (n1, s2) => ((ref09_Sure (n1, s2)).bind fun (n8, s9) => (if n3 < 0 then ((loopO (ref09_Put_b1 n3 s9) (0, ([] : List (Int × Int)))).bind (Sum.elim (fun l73 => some (n8, (mo 2 l73))) (fun u => some u))) else (if n3 ≥ n8 then ((loopO (ref09_Put_b2 n3 s9) (0, ([] : List (Int × Int)))).bind (Sum.elim (fun l136 => some (n8, (mo 2 l136))) (fun u => some u))) else ((loopO (ref09_Put_b3 n3 n4 s9) (false, 0, ([] : List (Int × Int)))).bind (Sum.elim (fun ⟨b305, l306⟩ => (if b305 = true then some (n8, (mo 2 l306)) else ((app l306 ([(n3, n4)] : List (Int × Int))).bind fun _ => some (n8, (mo 2 (l306 ++ ([(n3, n4)] : List (Int × Int)))))))) (fun u => some u))))))
theorem ref09_Put_r (m : Nat) {a0 : Int × (Sl (Int × Int))} {n3 : Int} {n4 : Int} {out : (Int × (Sl (Int × Int)))} (h : ref09_Put a0 n3 n4 = some out) : RunsP E1 (m + 3) 51 [.agg (r24 a0), .one (iT .i64 n3), .one (iT .i64 n4)] (.fresh, [.agg (r24 out)]) := by
  obtain ⟨n1, s2⟩ := a0
  refine fn_F rfl (by rw [E1_fn]; exact show fiOf Try.prog 51 = _ by unfold fiOf; rw [Try.func51]; unfold Try.f51; rfl) rfl ?_
  dsimp only
  unfold ref09_Put at h
  refine L_seq ?_
  refine L_ops ?_
  refine ol_new rfl rfl rfl (q_box ty25 rfl (cs := [iC .i64 n1, .p false (Sl.t r33 s2)]) rfl rfl) (fun k5 => ?_)
  refine ol_new rfl rfl rfl (q_alloc ty25 (row := [iC .i64 0, .p true (Sl.t r33 (⟨false, 0, []⟩ : Sl (Int × Int)))]) rfl rfl) (fun k6 => ?_)
  refine ol_end ?_
  refine E_seq ?_
  refine L_seq ?_
  refine L_ops ?_
  refine ol_put rfl rfl rfl (q_loadP (v := .agg [iC .i64 n1, .p false (Sl.t r33 s2)]) 1 rfl sz25 rfl rfl rfl rfl) ?_
  obtain ⟨⟨n8, s9⟩, h7, h⟩ := bindS h
  refine ol_putX rfl rfl rfl (q_callX (v := fun fr10 => .agg [iC .i64 n8, .p fr10 (Sl.t r33 s9)]) (args := [.agg [iC .i64 n1, .p false (Sl.t r33 s2)]]) (ref09_Sure_r (m + 0) h7) rfl rfl (vw_cons (vd_agg (vc_cons vc_v (vc_cons vc_s vc_nil))) vw_nil) rfl rfl (fun fr => rfl)) (fun fr10 => ?_)
  refine ol_wr rfl rfl (q_store (es' := [[iC .i64 n8, .p fr10 (Sl.t r33 s9)]]) 1 rfl rfl rfl sz25 rfl rfl rfl rfl rfl) rfl ?_
  refine ol_end ?_
  refine E_seq ?_
  refine L_seq ?_
  refine L_ops ?_
  refine ol_put rfl rfl rfl (q_fieldP rfl fa25_0 rfl) ?_
  refine ol_put rfl rfl rfl (q_loadP (v := .one (iC .i64 n8)) 1 rfl sz3 rfl rfl rfl rfl) ?_
  refine ol_put rfl rfl rfl (q_build (cs := [iC .i64 n8, .p true (Sl.t r33 (⟨false, 0, []⟩ : Sl (Int × Int)))]) ty25 rfl pl25 rfl) ?_
  refine ol_new rfl rfl rfl (q_alloc ty25 (row := [iC .i64 0, .p true (Sl.t r33 (⟨false, 0, []⟩ : Sl (Int × Int)))]) rfl rfl) (fun k11 => ?_)
  refine ol_wr rfl rfl (q_store (es' := [[iC .i64 n8, .p true (Sl.t r33 (⟨false, 0, []⟩ : Sl (Int × Int)))]]) 0 rfl rfl rfl sz25 rfl rfl rfl rfl rfl) rfl ?_
  refine ol_end ?_
  refine E_seq ?_
  refine L_seq ?_
  refine L_ops ?_
  refine ol_put rfl rfl rfl (q_move (v := .one (iC .i64 n3)) rfl) ?_
  by_cases c12 : n3 < 0
  · replace h := ifT c12 h
    refine ol_put rfl rfl rfl (q_bin rfl rfl (p_lss_t _ _ _ _ _ c12) rfl) ?_
    refine ol_put rfl rfl rfl (q_move (v := .one (bC true)) rfl) ?_
    refine ol_skip rfl rfl rfl ?_
    refine ol_skip rfl rfl rfl ?_
    refine ol_skip rfl rfl rfl ?_
    refine ol_skip rfl rfl rfl ?_
    refine ol_put rfl rfl rfl (q_pickT (v := .one (bC true)) rfl rfl) ?_
    refine ol_put rfl rfl rfl (q_assign (v := .one (bC true)) rfl) ?_
    refine ol_end ?_
    refine E_seq ?_
    refine L_seq ?_
    refine L_seq ?_
    refine L_ops ?_
    refine ol_put rfl rfl rfl (q_assign (v := .one (iC .i64 0)) rfl) ?_
    refine ol_end ?_
    refine E_seq ?_
    refine L_block ?_
    refine L_addM (α := Int × Int) r33 2 ?_
    let S1 : (Int × (List (Int × Int))) → Nat → (Nat → D) → Nat → D := fun a kt g => ups g [(1, .one (iC .i64 n3)), (2, .one (iC .i64 n4)), (3, .one (.ptr k5 0 0)), (6, .one (.ptr k6 0 0)), (7, .one (.ptr k11 0 0)), (8, .one (bC true)), (9, .one (iC .i64 a.1))]
    let SL1 : (Int × (List (Int × Int))) → Nat → BL := fun a kt => ([[(k5, 2, [[iC .i64 n8, .p fr10 (Sl.t r33 s9)]])], [(k6, 2, [[iC .i64 0, .p true (Sl.t r33 (⟨false, 0, []⟩ : Sl (Int × Int)))]])], [(k11, 2, [[iC .i64 n8, moC a.2 kt]])], moL r33 2 a.2 kt] : BL)
    let Sx1 : (List (Int × Int)) → Nat → (Nat → D) → Nat → D := fun a kt g => ups g [(1, .one (iC .i64 n3)), (2, .one (iC .i64 n4)), (6, .one (.ptr k6 0 0)), (7, .one (.ptr k11 0 0)), (8, .one (bC true))]
    let SLx1 : (List (Int × Int)) → Nat → BL := fun a kt => ([[(k6, 2, [[iC .i64 0, .p true (Sl.t r33 (⟨false, 0, []⟩ : Sl (Int × Int)))]])], [(k11, 2, [[iC .i64 n8, moC a kt]])], moL r33 2 a kt] : BL)
    let G1 : (Int × (Sl (Int × Int))) → Ex → St → Prop := fun u => endQ E1 [.cell 6 25] (.fresh, [.agg (r24 u)])
    let J1 : ((List (Int × Int)) ⊕ (Int × (Sl (Int × Int)))) → Ex → St → Prop := JX 79 0 Sx1 SLx1 G1
    refine L_loopS (ref09_Put_b1 n3 s9) S1 SL1 J1 JX_n (0, ([] : List (Int × Int))) h 1051 (ups_self ⟨rfl, rfl, rfl, rfl, rfl, rfl, rfl, trivial⟩) [3, 2, 1, 0] (by decide) rfl ?_ ?_
    · rintro ⟨n53, l54⟩ k55 g out h
      change ref09_Put_b1 n3 s9 (n53, l54) = some out at h
      unfold ref09_Put_b1 at h
      refine L_seq ?_
      refine L_seq ?_
      refine L_ops ?_
      refine ol_put rfl rfl rfl (q_move (v := .one (iC .i64 n53)) rfl) ?_
      refine ol_put rfl rfl rfl (q_fieldP rfl fa25_1 rfl) ?_
      refine ol_put rfl rfl rfl (q_loadP (v := .one (.p fr10 (Sl.t r33 s9))) 0 rfl sz23 rfl rfl rfl rfl) ?_
      refine ol_put rfl rfl rfl (q_lenS rfl ty23 rfl rfl rfl rfl) ?_
      by_cases c56 : n53 < ((s9.l.length : Nat) : Int)
      · replace h := ifT c56 h
        refine ol_put rfl rfl rfl (q_bin rfl rfl (p_lss_t _ _ _ _ _ c56) rfl) ?_
        refine ol_end ?_
        refine E_seq ?_
        refine L_condT rfl ?_
        refine L_skip ?_
        refine E_seq ?_
        refine L_seq ?_
        refine L_block ?_
        refine L_seq ?_
        refine L_seq ?_
        refine L_ops ?_
        refine ol_put rfl rfl rfl (q_move (v := .one (bC true)) rfl) ?_
        refine ol_put rfl rfl rfl (q_not rfl) ?_
        refine ol_put rfl rfl rfl (q_move (v := .one (bC false)) rfl) ?_
        refine ol_skip rfl rfl rfl ?_
        refine ol_skip rfl rfl rfl ?_
        refine ol_skip rfl rfl rfl ?_
        refine ol_skip rfl rfl rfl ?_
        refine ol_skip rfl rfl rfl ?_
        refine ol_skip rfl rfl rfl ?_
        refine ol_skip rfl rfl rfl ?_
        refine ol_skip rfl rfl rfl ?_
        refine ol_put rfl rfl rfl (q_pickF (v := .one (bC false)) rfl rfl) ?_
        refine ol_end ?_
        refine E_seq ?_
        refine L_condF rfl ?_
        refine L_skip ?_
        refine E_seq ?_
        refine L_seq ?_
        refine L_ops ?_
        refine ol_put rfl rfl rfl (q_fieldP rfl fa25_1 rfl) ?_
        refine ol_put rfl rfl rfl (q_loadP (v := .one (.p fr10 (Sl.t r33 s9))) 0 rfl sz23 rfl rfl rfl rfl) ?_
        refine ol_put rfl rfl rfl (q_move (v := .one (iC .i64 n53)) rfl) ?_
        obtain ⟨⟨n59, n60⟩, h58, h⟩ := bindS h
        obtain ⟨h58a, h58b, h58⟩ := atS_some h58
        refine ol_put rfl rfl rfl (q_ixS rfl rfl h58a h58 (el23.trans (congrArg some h58b.symm))) ?_
        refine ol_put rfl rfl rfl (q_fieldI rfl fa34_0 rfl) ?_
        refine ol_put rfl rfl rfl (q_loadI (v := .one (iC .i64 n59)) rfl sz3 (map_get h58) rfl rfl) ?_
        refine ol_put rfl rfl rfl (q_move (v := .one (iC .i64 n3)) rfl) ?_
        by_cases c61 : n59 ≠ n3
        · replace h := ifT c61 h
          refine ol_put rfl rfl rfl (q_bin rfl rfl (p_neq_t _ _ _ _ _ c61) rfl) ?_
          refine ol_end ?_
          refine E_seq ?_
          refine L_condT rfl ?_
          refine L_norm (L2 := ([[(k5, 2, [[iC .i64 n8, .p fr10 (Sl.t r33 s9)]])], [(k6, 2, [[iC .i64 0, .p true (Sl.t r33 (⟨false, 0, []⟩ : Sl (Int × Int)))]])], [(k11, 2, [[iC .i64 n8, moC l54 k55]])], moL r33 2 l54 k55] : BL)) [0, 1, 2, 3] (by decide) rfl ?_
          refine L_turn 11 rfl [[], [], [], [], [], [], [], [], moK l54 k55, [], [k11]] [(false, []), (false, []), (false, []), (false, []), (false, []), (false, []), (false, []), (true, []), (true, []), (false, []), (false, [])] [[2, 3, 4, 5, 6, 7], [2, 3, 4, 5, 6, 7], [0, 1, 4], [0, 1, 4], [0, 1, 2, 3], [0, 1], [0, 1], [0, 1], [], [], []] (by kernel_rfl) (by kernel_rfl) (by kernel_rfl) ?_ (fun bb62 hlt hnd => ?_)
          · intro bb62 hlt hnd
            have e_k5 : k5 < bb62 := key_lt hlt 0 rfl
            have e_k6 : k6 < bb62 := key_lt hlt 1 rfl
            have e_k11 : k11 < bb62 := key_lt hlt 2 rfl
            have e_k55 : l54 = [] ∨ k55 < bb62 := key_ltM (r := r33) (w := 2) hlt 3 rfl
            have f_k55 := moK_lt e_k55
            have d_k11_k5 : k11 ≠ k5 := key_ne hnd 2 0 rfl rfl rfl
            have d_k11_k6 : k11 ≠ k6 := key_ne hnd 2 1 rfl rfl rfl
            have d_k55_k5 : k5 ∉ moK l54 k55 := key_neM (r := r33) (w := 2) hnd 3 0 rfl rfl rfl
            have g_k55_k5 := moK_ne d_k55_k5
            have d_k55_k6 : k6 ∉ moK l54 k55 := key_neM (r := r33) (w := 2) hnd 3 1 rfl rfl rfl
            have g_k55_k6 := moK_ne d_k55_k6
            have d_k55_k11 : k11 ∉ moK l54 k55 := key_neM (r := r33) (w := 2) hnd 3 2 rfl rfl rfl
            have g_k55_k11 := moK_ne d_k55_k11
            exact ⟨(by first | (simp; done) | (simp; omega) | (simp; assumption) | (simp_all; done) | (simp_all; omega)), (by first | (simp; done) | (simp; omega) | (simp; assumption) | (simp_all; done) | (simp_all; omega))⟩
          have e_k5 : k5 < bb62 := key_lt hlt 0 rfl
          have e_k6 : k6 < bb62 := key_lt hlt 1 rfl
          have e_k11 : k11 < bb62 := key_lt hlt 2 rfl
          have e_k55 : l54 = [] ∨ k55 < bb62 := key_ltM (r := r33) (w := 2) hlt 3 rfl
          have f_k55 := moK_lt e_k55
          have d_k11_k5 : k11 ≠ k5 := key_ne hnd 2 0 rfl rfl rfl
          have d_k11_k6 : k11 ≠ k6 := key_ne hnd 2 1 rfl rfl rfl
          have d_k55_k5 : k5 ∉ moK l54 k55 := key_neM (r := r33) (w := 2) hnd 3 0 rfl rfl rfl
          have g_k55_k5 := moK_ne d_k55_k5
          have d_k55_k6 : k6 ∉ moK l54 k55 := key_neM (r := r33) (w := 2) hnd 3 1 rfl rfl rfl
          have g_k55_k6 := moK_ne d_k55_k6
          have d_k55_k11 : k11 ∉ moK l54 k55 := key_neM (r := r33) (w := 2) hnd 3 2 rfl rfl rfl
          have g_k55_k11 := moK_ne d_k55_k11
          clear hlt hnd
          refine tn_put rfl rfl rfl [] (by decide) rfl hmn rfl (q_fieldP rfl fa25_1 rfl) ?_
          refine tn_put rfl rfl rfl [2] (by decide) rfl (hmc (by first | (simp [turnsOf]; done) | (simp [turnsOf]; omega) | (simp [turnsOf]; assumption) | (simp_all [turnsOf]; done) | (simp_all [turnsOf]; omega)) hmn) rfl (q_loadP (v := .one (moC l54 k55)) 0 rfl sz23 rfl rfl rfl rfl) ?_
          refine tn_put rfl rfl rfl [] (by decide) rfl (hm0 rfl) rfl (q_fieldP rfl fa25_1 rfl) ?_
          refine tn_put rfl rfl rfl [0] (by decide) rfl (hm0 rfl) rfl (q_loadP (v := .one (.p fr10 (Sl.t r33 s9))) 0 rfl sz23 rfl rfl rfl rfl) ?_
          refine tn_put rfl rfl rfl [] (by decide) rfl (hm0 rfl) rfl (q_move (v := .one (iC .i64 n53)) rfl) ?_
          obtain ⟨⟨n70, n71⟩, h69, h⟩ := bindS h
          obtain ⟨h69a, h69b, h69⟩ := atS_some h69
          refine tn_put rfl rfl rfl [] (by decide) rfl (hm0 rfl) rfl (q_ixS rfl rfl h69a h69 (el23.trans (congrArg some h69b.symm))) ?_
          refine tn_put rfl rfl rfl [] (by decide) rfl (hm0 rfl) rfl (q_loadI (v := .agg [iC .i64 n70, iC .i64 n71]) rfl sz34 (map_get h69) rfl rfl) ?_
          refine tn_new rfl rfl rfl [] (by decide) rfl (hm0 rfl) rfl rfl (hkc (by omega) (hkc (by omega) (hkc (by omega) (hkM (e_k55.imp id fun h => by omega) hkn)))) (q_bslice (cs := [iC .i64 n70, iC .i64 n71]) (es := (([(n70, n71)] : List (Int × Int))).map (rowC r33)) ty23 rfl ty34 rfl rfl rfl rfl rfl) ?_
          obtain ⟨_, h72, h⟩ := bindS h
          obtain ⟨h72b, rfl⟩ := app_some h72
          refine tn_appM (r := r33) (l := l54) 0 4 rfl rfl rfl rfl [4, 0] (by decide) rfl (hm0 rfl) rfl rfl (hkc (by omega) (hkc (by omega) (hkc (by omega) (hkc (by omega) (hkM (e_k55.imp id fun h => by omega) hkn))))) rfl rfl (el_ownM (l := ([(n70, n71)] : List (Int × Int))) 1 rfl) rfl rfl h72 (fun y => rfl) el23 ty23 rfl rfl rfl rfl rfl ?_
          refine tn_put rfl rfl rfl [] (by decide) rfl (hm0 rfl) rfl (q_fieldP rfl fa25_1 rfl) ?_
          refine tn_wr rfl rfl [4] (by decide) rfl (hm0 rfl) rfl (q_store (es' := [[iC .i64 n8, moC (l54 ++ ([(n70, n71)] : List (Int × Int))) (bb62 + 8)]]) 0 rfl rfl rfl sz23 rfl rfl rfl rfl rfl) (q := 4) rfl rfl ?_
          refine tn_end ?_
          refine E_blkN ?_
          refine E_seq ?_
          refine L_ops ?_
          refine ol_put rfl rfl rfl (q_move (v := .one (iC .i64 n53)) rfl) ?_
          refine ol_put rfl rfl rfl (q_bin rfl rfl (p_add _ _ _ _ _ _ _) rfl) ?_
          refine ol_put rfl rfl rfl (q_assign (v := .one (iC .i64 (IntKind.i64.wrap (n53 + 1)))) rfl) ?_
          refine ol_end ?_
          obtain rfl := Option.some.inj h
          exact E_next (bb62 + 8) (ups_self ⟨rfl, rfl, rfl, rfl, rfl, rfl, rfl, trivial⟩) [2, 3, 4, 0] (by decide) rfl
        · replace h := ifF c61 h
          refine ol_put rfl rfl rfl (q_bin rfl rfl (p_neq_f _ _ _ _ _ c61) rfl) ?_
          refine ol_end ?_
          refine E_seq ?_
          refine L_condF rfl ?_
          refine L_skip ?_
          refine E_blkN ?_
          refine E_seq ?_
          refine L_ops ?_
          refine ol_put rfl rfl rfl (q_move (v := .one (iC .i64 n53)) rfl) ?_
          refine ol_put rfl rfl rfl (q_bin rfl rfl (p_add _ _ _ _ _ _ _) rfl) ?_
          refine ol_put rfl rfl rfl (q_assign (v := .one (iC .i64 (IntKind.i64.wrap (n53 + 1)))) rfl) ?_
          refine ol_end ?_
          obtain rfl := Option.some.inj h
          exact E_next k55 (ups_self ⟨rfl, rfl, rfl, rfl, rfl, rfl, rfl, trivial⟩) [0, 1, 2, 3] (by decide) rfl
      · replace h := ifF c56 h
        refine ol_put rfl rfl rfl (q_bin rfl rfl (p_lss_f _ _ _ _ _ c56) rfl) ?_
        refine ol_end ?_
        refine E_seq ?_
        refine L_condF rfl ?_
        refine L_exit ?_
        refine E_seqX ?_
        obtain rfl := Option.some.inj h
        refine E_out ?_
        exact (E_exit k55 (ups_self ⟨rfl, rfl, rfl, rfl, rfl, trivial⟩) [1, 2, 3] (by decide) rfl)
    · rintro (l73 | u) h
      · refine J_x (fun k74 g => ?_)
        replace h := elimL h
        refine E_blkH ?_
        refine E_seq ?_
        refine L_seq ?_
        refine L_seq ?_
        refine L_ops ?_
        refine ol_put rfl rfl rfl (q_move (v := .one (bC true)) rfl) ?_
        refine ol_put rfl rfl rfl (q_not rfl) ?_
        refine ol_end ?_
        refine E_seq ?_
        refine L_condF rfl ?_
        refine L_skip ?_
        refine E_seq ?_
        refine L_seq ?_
        refine L_ops ?_
        refine ol_put rfl rfl rfl (q_loadP (v := .agg [iC .i64 n8, moC l73 k74]) 1 rfl sz25 rfl rfl rfl rfl) ?_
        refine ol_wr rfl rfl (q_store (es' := [[iC .i64 n8, moC l73 k74]]) 0 rfl rfl rfl sz25 rfl rfl rfl rfl rfl) rfl ?_
        refine ol_end ?_
        refine E_seq ?_
        refine L_ret ?_
        obtain rfl := Option.some.inj h
        exact E_endF (.inr rfl) (res_cell (d := .agg [iC .i64 n8, moC l73 k74]) 0 rfl sz25 rfl rfl rfl rfl res_nil) (vw_cons (vd_agg (vc_cons vc_v (vc_cons (vc_M (r := r33) 2 rfl (fun x h m => rfl)) vc_nil))) vw_nil) (fun h hb => own_agg) rfl rfl
      · obtain rfl := Option.some.inj (elimR h)
        exact J_up (fun s hs => hs)
  · replace h := ifF c12 h
    refine ol_put rfl rfl rfl (q_bin rfl rfl (p_lss_f _ _ _ _ _ c12) rfl) ?_
    refine ol_put rfl rfl rfl (q_move (v := .one (bC false)) rfl) ?_
    refine ol_put rfl rfl rfl (q_move (v := .one (iC .i64 n3)) rfl) ?_
    refine ol_put rfl rfl rfl (q_fieldP rfl fa25_0 rfl) ?_
    refine ol_put rfl rfl rfl (q_loadP (v := .one (iC .i64 n8)) 2 rfl sz3 rfl rfl rfl rfl) ?_
    by_cases c75 : n3 ≥ n8
    · replace h := ifT c75 h
      refine ol_put rfl rfl rfl (q_bin rfl rfl (p_geq_t _ _ _ _ _ c75) rfl) ?_
      refine ol_put rfl rfl rfl (q_pickF (v := .one (bC true)) rfl rfl) ?_
      refine ol_put rfl rfl rfl (q_assign (v := .one (bC true)) rfl) ?_
      refine ol_end ?_
      refine E_seq ?_
      refine L_seq ?_
      refine L_seq ?_
      refine L_ops ?_
      refine ol_put rfl rfl rfl (q_assign (v := .one (iC .i64 0)) rfl) ?_
      refine ol_end ?_
      refine E_seq ?_
      refine L_block ?_
      refine L_addM (α := Int × Int) r33 2 ?_
      let S2 : (Int × (List (Int × Int))) → Nat → (Nat → D) → Nat → D := fun a kt g => ups g [(1, .one (iC .i64 n3)), (2, .one (iC .i64 n4)), (3, .one (.ptr k5 0 0)), (6, .one (.ptr k6 0 0)), (7, .one (.ptr k11 0 0)), (8, .one (bC true)), (9, .one (iC .i64 a.1))]
      let SL2 : (Int × (List (Int × Int))) → Nat → BL := fun a kt => ([[(k5, 2, [[iC .i64 n8, .p fr10 (Sl.t r33 s9)]])], [(k6, 2, [[iC .i64 0, .p true (Sl.t r33 (⟨false, 0, []⟩ : Sl (Int × Int)))]])], [(k11, 2, [[iC .i64 n8, moC a.2 kt]])], moL r33 2 a.2 kt] : BL)
      let Sx2 : (List (Int × Int)) → Nat → (Nat → D) → Nat → D := fun a kt g => ups g [(1, .one (iC .i64 n3)), (2, .one (iC .i64 n4)), (6, .one (.ptr k6 0 0)), (7, .one (.ptr k11 0 0)), (8, .one (bC true))]
      let SLx2 : (List (Int × Int)) → Nat → BL := fun a kt => ([[(k6, 2, [[iC .i64 0, .p true (Sl.t r33 (⟨false, 0, []⟩ : Sl (Int × Int)))]])], [(k11, 2, [[iC .i64 n8, moC a kt]])], moL r33 2 a kt] : BL)
      let G2 : (Int × (Sl (Int × Int))) → Ex → St → Prop := fun u => endQ E1 [.cell 6 25] (.fresh, [.agg (r24 u)])
      let J2 : ((List (Int × Int)) ⊕ (Int × (Sl (Int × Int)))) → Ex → St → Prop := JX 79 0 Sx2 SLx2 G2
      refine L_loopS (ref09_Put_b2 n3 s9) S2 SL2 J2 JX_n (0, ([] : List (Int × Int))) h 1114 (ups_self ⟨rfl, rfl, rfl, rfl, rfl, rfl, rfl, trivial⟩) [3, 2, 1, 0] (by decide) rfl ?_ ?_
      · rintro ⟨n116, l117⟩ k118 g out h
        change ref09_Put_b2 n3 s9 (n116, l117) = some out at h
        unfold ref09_Put_b2 at h
        refine L_seq ?_
        refine L_seq ?_
        refine L_ops ?_
        refine ol_put rfl rfl rfl (q_move (v := .one (iC .i64 n116)) rfl) ?_
        refine ol_put rfl rfl rfl (q_fieldP rfl fa25_1 rfl) ?_
        refine ol_put rfl rfl rfl (q_loadP (v := .one (.p fr10 (Sl.t r33 s9))) 0 rfl sz23 rfl rfl rfl rfl) ?_
        refine ol_put rfl rfl rfl (q_lenS rfl ty23 rfl rfl rfl rfl) ?_
        by_cases c119 : n116 < ((s9.l.length : Nat) : Int)
        · replace h := ifT c119 h
          refine ol_put rfl rfl rfl (q_bin rfl rfl (p_lss_t _ _ _ _ _ c119) rfl) ?_
          refine ol_end ?_
          refine E_seq ?_
          refine L_condT rfl ?_
          refine L_skip ?_
          refine E_seq ?_
          refine L_seq ?_
          refine L_block ?_
          refine L_seq ?_
          refine L_seq ?_
          refine L_ops ?_
          refine ol_put rfl rfl rfl (q_move (v := .one (bC true)) rfl) ?_
          refine ol_put rfl rfl rfl (q_not rfl) ?_
          refine ol_put rfl rfl rfl (q_move (v := .one (bC false)) rfl) ?_
          refine ol_skip rfl rfl rfl ?_
          refine ol_skip rfl rfl rfl ?_
          refine ol_skip rfl rfl rfl ?_
          refine ol_skip rfl rfl rfl ?_
          refine ol_skip rfl rfl rfl ?_
          refine ol_skip rfl rfl rfl ?_
          refine ol_skip rfl rfl rfl ?_
          refine ol_skip rfl rfl rfl ?_
          refine ol_put rfl rfl rfl (q_pickF (v := .one (bC false)) rfl rfl) ?_
          refine ol_end ?_
          refine E_seq ?_
          refine L_condF rfl ?_
          refine L_skip ?_
          refine E_seq ?_
          refine L_seq ?_
          refine L_ops ?_
          refine ol_put rfl rfl rfl (q_fieldP rfl fa25_1 rfl) ?_
          refine ol_put rfl rfl rfl (q_loadP (v := .one (.p fr10 (Sl.t r33 s9))) 0 rfl sz23 rfl rfl rfl rfl) ?_
          refine ol_put rfl rfl rfl (q_move (v := .one (iC .i64 n116)) rfl) ?_
          obtain ⟨⟨n122, n123⟩, h121, h⟩ := bindS h
          obtain ⟨h121a, h121b, h121⟩ := atS_some h121
          refine ol_put rfl rfl rfl (q_ixS rfl rfl h121a h121 (el23.trans (congrArg some h121b.symm))) ?_
          refine ol_put rfl rfl rfl (q_fieldI rfl fa34_0 rfl) ?_
          refine ol_put rfl rfl rfl (q_loadI (v := .one (iC .i64 n122)) rfl sz3 (map_get h121) rfl rfl) ?_
          refine ol_put rfl rfl rfl (q_move (v := .one (iC .i64 n3)) rfl) ?_
          by_cases c124 : n122 ≠ n3
          · replace h := ifT c124 h
            refine ol_put rfl rfl rfl (q_bin rfl rfl (p_neq_t _ _ _ _ _ c124) rfl) ?_
            refine ol_end ?_
            refine E_seq ?_
            refine L_condT rfl ?_
            refine L_norm (L2 := ([[(k5, 2, [[iC .i64 n8, .p fr10 (Sl.t r33 s9)]])], [(k6, 2, [[iC .i64 0, .p true (Sl.t r33 (⟨false, 0, []⟩ : Sl (Int × Int)))]])], [(k11, 2, [[iC .i64 n8, moC l117 k118]])], moL r33 2 l117 k118] : BL)) [0, 1, 2, 3] (by decide) rfl ?_
            refine L_turn 11 rfl [[], [], [], [], [], [], [], [], moK l117 k118, [], [k11]] [(false, []), (false, []), (false, []), (false, []), (false, []), (false, []), (false, []), (true, []), (true, []), (false, []), (false, [])] [[2, 3, 4, 5, 6, 7], [2, 3, 4, 5, 6, 7], [0, 1, 4], [0, 1, 4], [0, 1, 2, 3], [0, 1], [0, 1], [0, 1], [], [], []] (by kernel_rfl) (by kernel_rfl) (by kernel_rfl) ?_ (fun bb125 hlt hnd => ?_)
            · intro bb125 hlt hnd
              have e_k5 : k5 < bb125 := key_lt hlt 0 rfl
              have e_k6 : k6 < bb125 := key_lt hlt 1 rfl
              have e_k11 : k11 < bb125 := key_lt hlt 2 rfl
              have e_k118 : l117 = [] ∨ k118 < bb125 := key_ltM (r := r33) (w := 2) hlt 3 rfl
              have f_k118 := moK_lt e_k118
              have d_k11_k5 : k11 ≠ k5 := key_ne hnd 2 0 rfl rfl rfl
              have d_k11_k6 : k11 ≠ k6 := key_ne hnd 2 1 rfl rfl rfl
              have d_k118_k5 : k5 ∉ moK l117 k118 := key_neM (r := r33) (w := 2) hnd 3 0 rfl rfl rfl
              have g_k118_k5 := moK_ne d_k118_k5
              have d_k118_k6 : k6 ∉ moK l117 k118 := key_neM (r := r33) (w := 2) hnd 3 1 rfl rfl rfl
              have g_k118_k6 := moK_ne d_k118_k6
              have d_k118_k11 : k11 ∉ moK l117 k118 := key_neM (r := r33) (w := 2) hnd 3 2 rfl rfl rfl
              have g_k118_k11 := moK_ne d_k118_k11
              exact ⟨(by first | (simp; done) | (simp; omega) | (simp; assumption) | (simp_all; done) | (simp_all; omega)), (by first | (simp; done) | (simp; omega) | (simp; assumption) | (simp_all; done) | (simp_all; omega))⟩
            have e_k5 : k5 < bb125 := key_lt hlt 0 rfl
            have e_k6 : k6 < bb125 := key_lt hlt 1 rfl
            have e_k11 : k11 < bb125 := key_lt hlt 2 rfl
            have e_k118 : l117 = [] ∨ k118 < bb125 := key_ltM (r := r33) (w := 2) hlt 3 rfl
            have f_k118 := moK_lt e_k118
            have d_k11_k5 : k11 ≠ k5 := key_ne hnd 2 0 rfl rfl rfl
            have d_k11_k6 : k11 ≠ k6 := key_ne hnd 2 1 rfl rfl rfl
            have d_k118_k5 : k5 ∉ moK l117 k118 := key_neM (r := r33) (w := 2) hnd 3 0 rfl rfl rfl
            have g_k118_k5 := moK_ne d_k118_k5
            have d_k118_k6 : k6 ∉ moK l117 k118 := key_neM (r := r33) (w := 2) hnd 3 1 rfl rfl rfl
            have g_k118_k6 := moK_ne d_k118_k6
            have d_k118_k11 : k11 ∉ moK l117 k118 := key_neM (r := r33) (w := 2) hnd 3 2 rfl rfl rfl
            have g_k118_k11 := moK_ne d_k118_k11
            clear hlt hnd
            refine tn_put rfl rfl rfl [] (by decide) rfl hmn rfl (q_fieldP rfl fa25_1 rfl) ?_
            refine tn_put rfl rfl rfl [2] (by decide) rfl (hmc (by first | (simp [turnsOf]; done) | (simp [turnsOf]; omega) | (simp [turnsOf]; assumption) | (simp_all [turnsOf]; done) | (simp_all [turnsOf]; omega)) hmn) rfl (q_loadP (v := .one (moC l117 k118)) 0 rfl sz23 rfl rfl rfl rfl) ?_
            refine tn_put rfl rfl rfl [] (by decide) rfl (hm0 rfl) rfl (q_fieldP rfl fa25_1 rfl) ?_
            refine tn_put rfl rfl rfl [0] (by decide) rfl (hm0 rfl) rfl (q_loadP (v := .one (.p fr10 (Sl.t r33 s9))) 0 rfl sz23 rfl rfl rfl rfl) ?_
            refine tn_put rfl rfl rfl [] (by decide) rfl (hm0 rfl) rfl (q_move (v := .one (iC .i64 n116)) rfl) ?_
            obtain ⟨⟨n133, n134⟩, h132, h⟩ := bindS h
            obtain ⟨h132a, h132b, h132⟩ := atS_some h132
            refine tn_put rfl rfl rfl [] (by decide) rfl (hm0 rfl) rfl (q_ixS rfl rfl h132a h132 (el23.trans (congrArg some h132b.symm))) ?_
            refine tn_put rfl rfl rfl [] (by decide) rfl (hm0 rfl) rfl (q_loadI (v := .agg [iC .i64 n133, iC .i64 n134]) rfl sz34 (map_get h132) rfl rfl) ?_
            refine tn_new rfl rfl rfl [] (by decide) rfl (hm0 rfl) rfl rfl (hkc (by omega) (hkc (by omega) (hkc (by omega) (hkM (e_k118.imp id fun h => by omega) hkn)))) (q_bslice (cs := [iC .i64 n133, iC .i64 n134]) (es := (([(n133, n134)] : List (Int × Int))).map (rowC r33)) ty23 rfl ty34 rfl rfl rfl rfl rfl) ?_
            obtain ⟨_, h135, h⟩ := bindS h
            obtain ⟨h135b, rfl⟩ := app_some h135
            refine tn_appM (r := r33) (l := l117) 0 4 rfl rfl rfl rfl [4, 0] (by decide) rfl (hm0 rfl) rfl rfl (hkc (by omega) (hkc (by omega) (hkc (by omega) (hkc (by omega) (hkM (e_k118.imp id fun h => by omega) hkn))))) rfl rfl (el_ownM (l := ([(n133, n134)] : List (Int × Int))) 1 rfl) rfl rfl h135 (fun y => rfl) el23 ty23 rfl rfl rfl rfl rfl ?_
            refine tn_put rfl rfl rfl [] (by decide) rfl (hm0 rfl) rfl (q_fieldP rfl fa25_1 rfl) ?_
            refine tn_wr rfl rfl [4] (by decide) rfl (hm0 rfl) rfl (q_store (es' := [[iC .i64 n8, moC (l117 ++ ([(n133, n134)] : List (Int × Int))) (bb125 + 8)]]) 0 rfl rfl rfl sz23 rfl rfl rfl rfl rfl) (q := 4) rfl rfl ?_
            refine tn_end ?_
            refine E_blkN ?_
            refine E_seq ?_
            refine L_ops ?_
            refine ol_put rfl rfl rfl (q_move (v := .one (iC .i64 n116)) rfl) ?_
            refine ol_put rfl rfl rfl (q_bin rfl rfl (p_add _ _ _ _ _ _ _) rfl) ?_
            refine ol_put rfl rfl rfl (q_assign (v := .one (iC .i64 (IntKind.i64.wrap (n116 + 1)))) rfl) ?_
            refine ol_end ?_
            obtain rfl := Option.some.inj h
            exact E_next (bb125 + 8) (ups_self ⟨rfl, rfl, rfl, rfl, rfl, rfl, rfl, trivial⟩) [2, 3, 4, 0] (by decide) rfl
          · replace h := ifF c124 h
            refine ol_put rfl rfl rfl (q_bin rfl rfl (p_neq_f _ _ _ _ _ c124) rfl) ?_
            refine ol_end ?_
            refine E_seq ?_
            refine L_condF rfl ?_
            refine L_skip ?_
            refine E_blkN ?_
            refine E_seq ?_
            refine L_ops ?_
            refine ol_put rfl rfl rfl (q_move (v := .one (iC .i64 n116)) rfl) ?_
            refine ol_put rfl rfl rfl (q_bin rfl rfl (p_add _ _ _ _ _ _ _) rfl) ?_
            refine ol_put rfl rfl rfl (q_assign (v := .one (iC .i64 (IntKind.i64.wrap (n116 + 1)))) rfl) ?_
            refine ol_end ?_
            obtain rfl := Option.some.inj h
            exact E_next k118 (ups_self ⟨rfl, rfl, rfl, rfl, rfl, rfl, rfl, trivial⟩) [0, 1, 2, 3] (by decide) rfl
        · replace h := ifF c119 h
          refine ol_put rfl rfl rfl (q_bin rfl rfl (p_lss_f _ _ _ _ _ c119) rfl) ?_
          refine ol_end ?_
          refine E_seq ?_
          refine L_condF rfl ?_
          refine L_exit ?_
          refine E_seqX ?_
          obtain rfl := Option.some.inj h
          refine E_out ?_
          exact (E_exit k118 (ups_self ⟨rfl, rfl, rfl, rfl, rfl, trivial⟩) [1, 2, 3] (by decide) rfl)
      · rintro (l136 | u) h
        · refine J_x (fun k137 g => ?_)
          replace h := elimL h
          refine E_blkH ?_
          refine E_seq ?_
          refine L_seq ?_
          refine L_seq ?_
          refine L_ops ?_
          refine ol_put rfl rfl rfl (q_move (v := .one (bC true)) rfl) ?_
          refine ol_put rfl rfl rfl (q_not rfl) ?_
          refine ol_end ?_
          refine E_seq ?_
          refine L_condF rfl ?_
          refine L_skip ?_
          refine E_seq ?_
          refine L_seq ?_
          refine L_ops ?_
          refine ol_put rfl rfl rfl (q_loadP (v := .agg [iC .i64 n8, moC l136 k137]) 1 rfl sz25 rfl rfl rfl rfl) ?_
          refine ol_wr rfl rfl (q_store (es' := [[iC .i64 n8, moC l136 k137]]) 0 rfl rfl rfl sz25 rfl rfl rfl rfl rfl) rfl ?_
          refine ol_end ?_
          refine E_seq ?_
          refine L_ret ?_
          obtain rfl := Option.some.inj h
          exact E_endF (.inr rfl) (res_cell (d := .agg [iC .i64 n8, moC l136 k137]) 0 rfl sz25 rfl rfl rfl rfl res_nil) (vw_cons (vd_agg (vc_cons vc_v (vc_cons (vc_M (r := r33) 2 rfl (fun x h m => rfl)) vc_nil))) vw_nil) (fun h hb => own_agg) rfl rfl
        · obtain rfl := Option.some.inj (elimR h)
          exact J_up (fun s hs => hs)
    · replace h := ifF c75 h
      refine ol_put rfl rfl rfl (q_bin rfl rfl (p_geq_f _ _ _ _ _ c75) rfl) ?_
      refine ol_put rfl rfl rfl (q_pickF (v := .one (bC false)) rfl rfl) ?_
      refine ol_put rfl rfl rfl (q_assign (v := .one (bC false)) rfl) ?_
      refine ol_end ?_
      refine E_seq ?_
      refine L_seq ?_
      refine L_seq ?_
      refine L_ops ?_
      refine ol_put rfl rfl rfl (q_assign (v := .one (iC .i64 0)) rfl) ?_
      refine ol_end ?_
      refine E_seq ?_
      refine L_block ?_
      refine L_addM (α := Int × Int) r33 2 ?_
      let S3 : (Bool × Int × (List (Int × Int))) → Nat → (Nat → D) → Nat → D := fun a kt g => ups g [(1, .one (iC .i64 n3)), (2, .one (iC .i64 n4)), (3, .one (.ptr k5 0 0)), (6, .one (.ptr k6 0 0)), (7, .one (.ptr k11 0 0)), (8, .one (bC a.1)), (9, .one (iC .i64 a.2.1))]
      let SL3 : (Bool × Int × (List (Int × Int))) → Nat → BL := fun a kt => ([[(k5, 2, [[iC .i64 n8, .p fr10 (Sl.t r33 s9)]])], [(k6, 2, [[iC .i64 0, .p true (Sl.t r33 (⟨false, 0, []⟩ : Sl (Int × Int)))]])], [(k11, 2, [[iC .i64 n8, moC a.2.2 kt]])], moL r33 2 a.2.2 kt] : BL)
      let Sx3 : (Bool × (List (Int × Int))) → Nat → (Nat → D) → Nat → D := fun a kt g => ups g [(1, .one (iC .i64 n3)), (2, .one (iC .i64 n4)), (6, .one (.ptr k6 0 0)), (7, .one (.ptr k11 0 0)), (8, .one (bC a.1))]
      let SLx3 : (Bool × (List (Int × Int))) → Nat → BL := fun a kt => ([[(k6, 2, [[iC .i64 0, .p true (Sl.t r33 (⟨false, 0, []⟩ : Sl (Int × Int)))]])], [(k11, 2, [[iC .i64 n8, moC a.2 kt]])], moL r33 2 a.2 kt] : BL)
      let G3 : (Int × (Sl (Int × Int))) → Ex → St → Prop := fun u => endQ E1 [.cell 6 25] (.fresh, [.agg (r24 u)])
      let J3 : ((Bool × (List (Int × Int))) ⊕ (Int × (Sl (Int × Int)))) → Ex → St → Prop := JX 79 0 Sx3 SLx3 G3
      refine L_loopS (ref09_Put_b3 n3 n4 s9) S3 SL3 J3 JX_n (false, 0, ([] : List (Int × Int))) h 1242 (ups_self ⟨rfl, rfl, rfl, rfl, rfl, rfl, rfl, trivial⟩) [3, 2, 1, 0] (by decide) rfl ?_ ?_
      · rintro ⟨b244, n245, l246⟩ k247 g out h
        change ref09_Put_b3 n3 n4 s9 (b244, n245, l246) = some out at h
        unfold ref09_Put_b3 at h
        refine L_seq ?_
        refine L_seq ?_
        refine L_ops ?_
        refine ol_put rfl rfl rfl (q_move (v := .one (iC .i64 n245)) rfl) ?_
        refine ol_put rfl rfl rfl (q_fieldP rfl fa25_1 rfl) ?_
        refine ol_put rfl rfl rfl (q_loadP (v := .one (.p fr10 (Sl.t r33 s9))) 0 rfl sz23 rfl rfl rfl rfl) ?_
        refine ol_put rfl rfl rfl (q_lenS rfl ty23 rfl rfl rfl rfl) ?_
        by_cases c248 : n245 < ((s9.l.length : Nat) : Int)
        · replace h := ifT c248 h
          refine ol_put rfl rfl rfl (q_bin rfl rfl (p_lss_t _ _ _ _ _ c248) rfl) ?_
          refine ol_end ?_
          refine E_seq ?_
          refine L_condT rfl ?_
          refine L_skip ?_
          refine E_seq ?_
          refine L_seq ?_
          refine L_block ?_
          refine L_seq ?_
          refine L_seq ?_
          refine L_ops ?_
          refine ol_put rfl rfl rfl (q_move (v := .one (bC b244)) rfl) ?_
          rcases b244 with _ | _
          · replace h := ifF (by decide) h
            refine ol_put rfl rfl rfl (q_not rfl) ?_
            refine ol_put rfl rfl rfl (q_move (v := .one (bC true)) rfl) ?_
            refine ol_put rfl rfl rfl (q_fieldP rfl fa25_1 rfl) ?_
            refine ol_put rfl rfl rfl (q_loadP (v := .one (.p fr10 (Sl.t r33 s9))) 0 rfl sz23 rfl rfl rfl rfl) ?_
            refine ol_put rfl rfl rfl (q_move (v := .one (iC .i64 n245)) rfl) ?_
            obtain ⟨⟨n251, n252⟩, h250, h⟩ := bindS h
            obtain ⟨h250a, h250b, h250⟩ := atS_some h250
            refine ol_put rfl rfl rfl (q_ixS rfl rfl h250a h250 (el23.trans (congrArg some h250b.symm))) ?_
            refine ol_put rfl rfl rfl (q_fieldI rfl fa34_0 rfl) ?_
            refine ol_put rfl rfl rfl (q_loadI (v := .one (iC .i64 n251)) rfl sz3 (map_get h250) rfl rfl) ?_
            refine ol_put rfl rfl rfl (q_move (v := .one (iC .i64 n3)) rfl) ?_
            by_cases c253 : n251 ≥ n3
            · replace h := ifT c253 h
              refine ol_put rfl rfl rfl (q_bin rfl rfl (p_geq_t _ _ _ _ _ c253) rfl) ?_
              refine ol_put rfl rfl rfl (q_pickT (v := .one (bC true)) rfl rfl) ?_
              refine ol_end ?_
              refine E_seq ?_
              refine L_condT rfl ?_
              refine L_seq ?_
              refine L_ops ?_
              refine ol_put rfl rfl rfl (q_fieldP rfl fa25_1 rfl) ?_
              refine ol_put rfl rfl rfl (q_loadP (v := .one (moC l246 k247)) 2 rfl sz23 rfl rfl rfl rfl) ?_
              refine ol_put rfl rfl rfl (q_move (v := .one (iC .i64 n3)) rfl) ?_
              refine ol_put rfl rfl rfl (q_move (v := .one (iC .i64 n4)) rfl) ?_
              refine ol_put rfl rfl rfl (q_build (cs := [iC .i64 n3, iC .i64 n4]) ty34 rfl pl34 rfl) ?_
              refine ol_new rfl rfl rfl (q_bslice (cs := [iC .i64 n3, iC .i64 n4]) (es := (([(n3, n4)] : List (Int × Int))).map (rowC r33)) ty23 rfl ty34 rfl rfl rfl rfl rfl) (fun k254 => ?_)
              obtain ⟨_, h255, h⟩ := bindS h
              obtain ⟨h255b, rfl⟩ := app_some h255
              refine ol_appM (r := r33) (l := l246) (ys := ([(n3, n4)] : List (Int × Int))) 4 rfl rfl rfl rfl rfl rfl (el_ownM (l := ([(n3, n4)] : List (Int × Int))) 0 rfl) rfl h255 (fun y => rfl) el23 ty23 rfl rfl rfl rfl rfl (fun k256 => ?_)
              refine ol_put rfl rfl rfl (q_fieldP rfl fa25_1 rfl) ?_
              refine ol_wr rfl rfl (q_store (es' := [[iC .i64 n8, moC (l246 ++ ([(n3, n4)] : List (Int × Int))) k256]]) 4 rfl rfl rfl sz23 rfl rfl rfl rfl rfl) rfl ?_
              refine ol_end ?_
              refine E_seq ?_
              refine L_ops ?_
              refine ol_put rfl rfl rfl (q_assign (v := .one (bC true)) rfl) ?_
              refine ol_end ?_
              refine E_seq ?_
              refine L_seq ?_
              refine L_ops ?_
              refine ol_put rfl rfl rfl (q_fieldP rfl fa25_1 rfl) ?_
              refine ol_put rfl rfl rfl (q_loadP (v := .one (.p fr10 (Sl.t r33 s9))) 2 rfl sz23 rfl rfl rfl rfl) ?_
              refine ol_put rfl rfl rfl (q_move (v := .one (iC .i64 n245)) rfl) ?_
              obtain ⟨⟨n259, n260⟩, h258, h⟩ := bindS h
              obtain ⟨h258a, h258b, h258⟩ := atS_some h258
              refine ol_put rfl rfl rfl (q_ixS rfl rfl h258a h258 (el23.trans (congrArg some h258b.symm))) ?_
              refine ol_put rfl rfl rfl (q_fieldI rfl fa34_0 rfl) ?_
              refine ol_put rfl rfl rfl (q_loadI (v := .one (iC .i64 n259)) rfl sz3 (map_get h258) rfl rfl) ?_
              refine ol_put rfl rfl rfl (q_move (v := .one (iC .i64 n3)) rfl) ?_
              by_cases c261 : n259 ≠ n3
              · replace h := ifT c261 h
                refine ol_put rfl rfl rfl (q_bin rfl rfl (p_neq_t _ _ _ _ _ c261) rfl) ?_
                refine ol_end ?_
                refine E_seq ?_
                refine L_condT rfl ?_
                refine L_norm (L2 := ([moL r33 2 (l246 ++ ([(n3, n4)] : List (Int × Int))) k256, [(k5, 2, [[iC .i64 n8, .p fr10 (Sl.t r33 s9)]])], [(k6, 2, [[iC .i64 0, .p true (Sl.t r33 (⟨false, 0, []⟩ : Sl (Int × Int)))]])], [(k11, 2, [[iC .i64 n8, moC (l246 ++ ([(n3, n4)] : List (Int × Int))) k256]])]] : BL)) [0, 2, 3, 4] (by decide) rfl ?_
                refine L_turn 11 rfl [[], [], [], [], [], [], [], [], moK (l246 ++ ([(n3, n4)] : List (Int × Int))) k256, [], [k11]] [(false, []), (false, []), (false, []), (false, []), (false, []), (false, []), (false, []), (true, []), (true, []), (false, []), (false, [])] [[2, 3, 4, 5, 6, 7], [2, 3, 4, 5, 6, 7], [0, 1, 4], [0, 1, 4], [0, 1, 2, 3], [0, 1], [0, 1], [0, 1], [], [], []] (by kernel_rfl) (by kernel_rfl) (by kernel_rfl) ?_ (fun bb262 hlt hnd => ?_)
                · intro bb262 hlt hnd
                  have e_k256 : (l246 ++ ([(n3, n4)] : List (Int × Int))) = [] ∨ k256 < bb262 := key_ltM (r := r33) (w := 2) hlt 0 rfl
                  have f_k256 := moK_lt e_k256
                  have e_k5 : k5 < bb262 := key_lt hlt 1 rfl
                  have e_k6 : k6 < bb262 := key_lt hlt 2 rfl
                  have e_k11 : k11 < bb262 := key_lt hlt 3 rfl
                  have d_k256_k5 : k5 ∉ moK (l246 ++ ([(n3, n4)] : List (Int × Int))) k256 := key_neM (r := r33) (w := 2) hnd 0 1 rfl rfl rfl
                  have g_k256_k5 := moK_ne d_k256_k5
                  have d_k256_k6 : k6 ∉ moK (l246 ++ ([(n3, n4)] : List (Int × Int))) k256 := key_neM (r := r33) (w := 2) hnd 0 2 rfl rfl rfl
                  have g_k256_k6 := moK_ne d_k256_k6
                  have d_k256_k11 : k11 ∉ moK (l246 ++ ([(n3, n4)] : List (Int × Int))) k256 := key_neM (r := r33) (w := 2) hnd 0 3 rfl rfl rfl
                  have g_k256_k11 := moK_ne d_k256_k11
                  have d_k11_k5 : k11 ≠ k5 := key_ne hnd 3 1 rfl rfl rfl
                  have d_k11_k6 : k11 ≠ k6 := key_ne hnd 3 2 rfl rfl rfl
                  exact ⟨(by first | (simp; done) | (simp; omega) | (simp; assumption) | (simp_all; done) | (simp_all; omega)), (by first | (simp; done) | (simp; omega) | (simp; assumption) | (simp_all; done) | (simp_all; omega))⟩
                have e_k256 : (l246 ++ ([(n3, n4)] : List (Int × Int))) = [] ∨ k256 < bb262 := key_ltM (r := r33) (w := 2) hlt 0 rfl
                have f_k256 := moK_lt e_k256
                have e_k5 : k5 < bb262 := key_lt hlt 1 rfl
                have e_k6 : k6 < bb262 := key_lt hlt 2 rfl
                have e_k11 : k11 < bb262 := key_lt hlt 3 rfl
                have d_k256_k5 : k5 ∉ moK (l246 ++ ([(n3, n4)] : List (Int × Int))) k256 := key_neM (r := r33) (w := 2) hnd 0 1 rfl rfl rfl
                have g_k256_k5 := moK_ne d_k256_k5
                have d_k256_k6 : k6 ∉ moK (l246 ++ ([(n3, n4)] : List (Int × Int))) k256 := key_neM (r := r33) (w := 2) hnd 0 2 rfl rfl rfl
                have g_k256_k6 := moK_ne d_k256_k6
                have d_k256_k11 : k11 ∉ moK (l246 ++ ([(n3, n4)] : List (Int × Int))) k256 := key_neM (r := r33) (w := 2) hnd 0 3 rfl rfl rfl
                have g_k256_k11 := moK_ne d_k256_k11
                have d_k11_k5 : k11 ≠ k5 := key_ne hnd 3 1 rfl rfl rfl
                have d_k11_k6 : k11 ≠ k6 := key_ne hnd 3 2 rfl rfl rfl
                clear hlt hnd
                refine tn_put rfl rfl rfl [] (by decide) rfl hmn rfl (q_fieldP rfl fa25_1 rfl) ?_
                refine tn_put rfl rfl rfl [3] (by decide) rfl (hmc (by first | (simp [turnsOf]; done) | (simp [turnsOf]; omega) | (simp [turnsOf]; assumption) | (simp_all [turnsOf]; done) | (simp_all [turnsOf]; omega)) hmn) rfl (q_loadP (v := .one (moC (l246 ++ ([(n3, n4)] : List (Int × Int))) k256)) 0 rfl sz23 rfl rfl rfl rfl) ?_
                refine tn_put rfl rfl rfl [] (by decide) rfl (hm0 rfl) rfl (q_fieldP rfl fa25_1 rfl) ?_
                refine tn_put rfl rfl rfl [1] (by decide) rfl (hm0 rfl) rfl (q_loadP (v := .one (.p fr10 (Sl.t r33 s9))) 0 rfl sz23 rfl rfl rfl rfl) ?_
                refine tn_put rfl rfl rfl [] (by decide) rfl (hm0 rfl) rfl (q_move (v := .one (iC .i64 n245)) rfl) ?_
                obtain ⟨⟨n270, n271⟩, h269, h⟩ := bindS h
                obtain ⟨h269a, h269b, h269⟩ := atS_some h269
                refine tn_put rfl rfl rfl [] (by decide) rfl (hm0 rfl) rfl (q_ixS rfl rfl h269a h269 (el23.trans (congrArg some h269b.symm))) ?_
                refine tn_put rfl rfl rfl [] (by decide) rfl (hm0 rfl) rfl (q_loadI (v := .agg [iC .i64 n270, iC .i64 n271]) rfl sz34 (map_get h269) rfl rfl) ?_
                refine tn_new rfl rfl rfl [] (by decide) rfl (hm0 rfl) rfl rfl (hkM (e_k256.imp id fun h => by omega) (hkc (by omega) (hkc (by omega) (hkc (by omega) hkn)))) (q_bslice (cs := [iC .i64 n270, iC .i64 n271]) (es := (([(n270, n271)] : List (Int × Int))).map (rowC r33)) ty23 rfl ty34 rfl rfl rfl rfl rfl) ?_
                obtain ⟨_, h272, h⟩ := bindS h
                obtain ⟨h272b, rfl⟩ := app_some h272
                refine tn_appM (r := r33) (l := (l246 ++ ([(n3, n4)] : List (Int × Int)))) 0 1 rfl rfl rfl rfl [1, 0] (by decide) rfl (hm0 rfl) rfl rfl (hkc (by omega) (hkM (e_k256.imp id fun h => by omega) (hkc (by omega) (hkc (by omega) (hkc (by omega) hkn))))) rfl rfl (el_ownM (l := ([(n270, n271)] : List (Int × Int))) 1 rfl) rfl rfl h272 (fun y => rfl) el23 ty23 rfl rfl rfl rfl rfl ?_
                refine tn_put rfl rfl rfl [] (by decide) rfl (hm0 rfl) rfl (q_fieldP rfl fa25_1 rfl) ?_
                refine tn_wr rfl rfl [4] (by decide) rfl (hm0 rfl) rfl (q_store (es' := [[iC .i64 n8, moC ((l246 ++ ([(n3, n4)] : List (Int × Int))) ++ ([(n270, n271)] : List (Int × Int))) (bb262 + 8)]]) 0 rfl rfl rfl sz23 rfl rfl rfl rfl rfl) (q := 4) rfl rfl ?_
                refine tn_end ?_
                refine E_blkN ?_
                refine E_seq ?_
                refine L_ops ?_
                refine ol_put rfl rfl rfl (q_move (v := .one (iC .i64 n245)) rfl) ?_
                refine ol_put rfl rfl rfl (q_bin rfl rfl (p_add _ _ _ _ _ _ _) rfl) ?_
                refine ol_put rfl rfl rfl (q_assign (v := .one (iC .i64 (IntKind.i64.wrap (n245 + 1)))) rfl) ?_
                refine ol_end ?_
                obtain rfl := Option.some.inj h
                exact E_next (bb262 + 8) (ups_self ⟨rfl, rfl, rfl, rfl, rfl, rfl, rfl, trivial⟩) [2, 3, 4, 0] (by decide) rfl
              · replace h := ifF c261 h
                refine ol_put rfl rfl rfl (q_bin rfl rfl (p_neq_f _ _ _ _ _ c261) rfl) ?_
                refine ol_end ?_
                refine E_seq ?_
                refine L_condF rfl ?_
                refine L_skip ?_
                refine E_blkN ?_
                refine E_seq ?_
                refine L_ops ?_
                refine ol_put rfl rfl rfl (q_move (v := .one (iC .i64 n245)) rfl) ?_
                refine ol_put rfl rfl rfl (q_bin rfl rfl (p_add _ _ _ _ _ _ _) rfl) ?_
                refine ol_put rfl rfl rfl (q_assign (v := .one (iC .i64 (IntKind.i64.wrap (n245 + 1)))) rfl) ?_
                refine ol_end ?_
                obtain rfl := Option.some.inj h
                exact E_next k256 (ups_self ⟨rfl, rfl, rfl, rfl, rfl, rfl, rfl, trivial⟩) [2, 3, 4, 0] (by decide) rfl
            · replace h := ifF c253 h
              refine ol_put rfl rfl rfl (q_bin rfl rfl (p_geq_f _ _ _ _ _ c253) rfl) ?_
              refine ol_put rfl rfl rfl (q_pickT (v := .one (bC false)) rfl rfl) ?_
              refine ol_end ?_
              refine E_seq ?_
              refine L_condF rfl ?_
              refine L_skip ?_
              refine E_seq ?_
              refine L_seq ?_
              refine L_ops ?_
              refine ol_put rfl rfl rfl (q_fieldP rfl fa25_1 rfl) ?_
              refine ol_put rfl rfl rfl (q_loadP (v := .one (.p fr10 (Sl.t r33 s9))) 0 rfl sz23 rfl rfl rfl rfl) ?_
              refine ol_put rfl rfl rfl (q_move (v := .one (iC .i64 n245)) rfl) ?_
              obtain ⟨⟨n275, n276⟩, h274, h⟩ := bindS h
              obtain ⟨h274a, h274b, h274⟩ := atS_some h274
              refine ol_put rfl rfl rfl (q_ixS rfl rfl h274a h274 (el23.trans (congrArg some h274b.symm))) ?_
              refine ol_put rfl rfl rfl (q_fieldI rfl fa34_0 rfl) ?_
              refine ol_put rfl rfl rfl (q_loadI (v := .one (iC .i64 n275)) rfl sz3 (map_get h274) rfl rfl) ?_
              refine ol_put rfl rfl rfl (q_move (v := .one (iC .i64 n3)) rfl) ?_
              by_cases c277 : n275 ≠ n3
              · replace h := ifT c277 h
                refine ol_put rfl rfl rfl (q_bin rfl rfl (p_neq_t _ _ _ _ _ c277) rfl) ?_
                refine ol_end ?_
                refine E_seq ?_
                refine L_condT rfl ?_
                refine L_norm (L2 := ([[(k5, 2, [[iC .i64 n8, .p fr10 (Sl.t r33 s9)]])], [(k6, 2, [[iC .i64 0, .p true (Sl.t r33 (⟨false, 0, []⟩ : Sl (Int × Int)))]])], [(k11, 2, [[iC .i64 n8, moC l246 k247]])], moL r33 2 l246 k247] : BL)) [0, 1, 2, 3] (by decide) rfl ?_
                refine L_turn 11 rfl [[], [], [], [], [], [], [], [], moK l246 k247, [], [k11]] [(false, []), (false, []), (false, []), (false, []), (false, []), (false, []), (false, []), (true, []), (true, []), (false, []), (false, [])] [[2, 3, 4, 5, 6, 7], [2, 3, 4, 5, 6, 7], [0, 1, 4], [0, 1, 4], [0, 1, 2, 3], [0, 1], [0, 1], [0, 1], [], [], []] (by kernel_rfl) (by kernel_rfl) (by kernel_rfl) ?_ (fun bb278 hlt hnd => ?_)
                · intro bb278 hlt hnd
                  have e_k5 : k5 < bb278 := key_lt hlt 0 rfl
                  have e_k6 : k6 < bb278 := key_lt hlt 1 rfl
                  have e_k11 : k11 < bb278 := key_lt hlt 2 rfl
                  have e_k247 : l246 = [] ∨ k247 < bb278 := key_ltM (r := r33) (w := 2) hlt 3 rfl
                  have f_k247 := moK_lt e_k247
                  have d_k11_k5 : k11 ≠ k5 := key_ne hnd 2 0 rfl rfl rfl
                  have d_k11_k6 : k11 ≠ k6 := key_ne hnd 2 1 rfl rfl rfl
                  have d_k247_k5 : k5 ∉ moK l246 k247 := key_neM (r := r33) (w := 2) hnd 3 0 rfl rfl rfl
                  have g_k247_k5 := moK_ne d_k247_k5
                  have d_k247_k6 : k6 ∉ moK l246 k247 := key_neM (r := r33) (w := 2) hnd 3 1 rfl rfl rfl
                  have g_k247_k6 := moK_ne d_k247_k6
                  have d_k247_k11 : k11 ∉ moK l246 k247 := key_neM (r := r33) (w := 2) hnd 3 2 rfl rfl rfl
                  have g_k247_k11 := moK_ne d_k247_k11
                  exact ⟨(by first | (simp; done) | (simp; omega) | (simp; assumption) | (simp_all; done) | (simp_all; omega)), (by first | (simp; done) | (simp; omega) | (simp; assumption) | (simp_all; done) | (simp_all; omega))⟩
                have e_k5 : k5 < bb278 := key_lt hlt 0 rfl
                have e_k6 : k6 < bb278 := key_lt hlt 1 rfl
                have e_k11 : k11 < bb278 := key_lt hlt 2 rfl
                have e_k247 : l246 = [] ∨ k247 < bb278 := key_ltM (r := r33) (w := 2) hlt 3 rfl
                have f_k247 := moK_lt e_k247
                have d_k11_k5 : k11 ≠ k5 := key_ne hnd 2 0 rfl rfl rfl
                have d_k11_k6 : k11 ≠ k6 := key_ne hnd 2 1 rfl rfl rfl
                have d_k247_k5 : k5 ∉ moK l246 k247 := key_neM (r := r33) (w := 2) hnd 3 0 rfl rfl rfl
                have g_k247_k5 := moK_ne d_k247_k5
                have d_k247_k6 : k6 ∉ moK l246 k247 := key_neM (r := r33) (w := 2) hnd 3 1 rfl rfl rfl
                have g_k247_k6 := moK_ne d_k247_k6
                have d_k247_k11 : k11 ∉ moK l246 k247 := key_neM (r := r33) (w := 2) hnd 3 2 rfl rfl rfl
                have g_k247_k11 := moK_ne d_k247_k11
                clear hlt hnd
                refine tn_put rfl rfl rfl [] (by decide) rfl hmn rfl (q_fieldP rfl fa25_1 rfl) ?_
                refine tn_put rfl rfl rfl [2] (by decide) rfl (hmc (by first | (simp [turnsOf]; done) | (simp [turnsOf]; omega) | (simp [turnsOf]; assumption) | (simp_all [turnsOf]; done) | (simp_all [turnsOf]; omega)) hmn) rfl (q_loadP (v := .one (moC l246 k247)) 0 rfl sz23 rfl rfl rfl rfl) ?_
                refine tn_put rfl rfl rfl [] (by decide) rfl (hm0 rfl) rfl (q_fieldP rfl fa25_1 rfl) ?_
                refine tn_put rfl rfl rfl [0] (by decide) rfl (hm0 rfl) rfl (q_loadP (v := .one (.p fr10 (Sl.t r33 s9))) 0 rfl sz23 rfl rfl rfl rfl) ?_
                refine tn_put rfl rfl rfl [] (by decide) rfl (hm0 rfl) rfl (q_move (v := .one (iC .i64 n245)) rfl) ?_
                obtain ⟨⟨n286, n287⟩, h285, h⟩ := bindS h
                obtain ⟨h285a, h285b, h285⟩ := atS_some h285
                refine tn_put rfl rfl rfl [] (by decide) rfl (hm0 rfl) rfl (q_ixS rfl rfl h285a h285 (el23.trans (congrArg some h285b.symm))) ?_
                refine tn_put rfl rfl rfl [] (by decide) rfl (hm0 rfl) rfl (q_loadI (v := .agg [iC .i64 n286, iC .i64 n287]) rfl sz34 (map_get h285) rfl rfl) ?_
                refine tn_new rfl rfl rfl [] (by decide) rfl (hm0 rfl) rfl rfl (hkc (by omega) (hkc (by omega) (hkc (by omega) (hkM (e_k247.imp id fun h => by omega) hkn)))) (q_bslice (cs := [iC .i64 n286, iC .i64 n287]) (es := (([(n286, n287)] : List (Int × Int))).map (rowC r33)) ty23 rfl ty34 rfl rfl rfl rfl rfl) ?_
                obtain ⟨_, h288, h⟩ := bindS h
                obtain ⟨h288b, rfl⟩ := app_some h288
                refine tn_appM (r := r33) (l := l246) 0 4 rfl rfl rfl rfl [4, 0] (by decide) rfl (hm0 rfl) rfl rfl (hkc (by omega) (hkc (by omega) (hkc (by omega) (hkc (by omega) (hkM (e_k247.imp id fun h => by omega) hkn))))) rfl rfl (el_ownM (l := ([(n286, n287)] : List (Int × Int))) 1 rfl) rfl rfl h288 (fun y => rfl) el23 ty23 rfl rfl rfl rfl rfl ?_
                refine tn_put rfl rfl rfl [] (by decide) rfl (hm0 rfl) rfl (q_fieldP rfl fa25_1 rfl) ?_
                refine tn_wr rfl rfl [4] (by decide) rfl (hm0 rfl) rfl (q_store (es' := [[iC .i64 n8, moC (l246 ++ ([(n286, n287)] : List (Int × Int))) (bb278 + 8)]]) 0 rfl rfl rfl sz23 rfl rfl rfl rfl rfl) (q := 4) rfl rfl ?_
                refine tn_end ?_
                refine E_blkN ?_
                refine E_seq ?_
                refine L_ops ?_
                refine ol_put rfl rfl rfl (q_move (v := .one (iC .i64 n245)) rfl) ?_
                refine ol_put rfl rfl rfl (q_bin rfl rfl (p_add _ _ _ _ _ _ _) rfl) ?_
                refine ol_put rfl rfl rfl (q_assign (v := .one (iC .i64 (IntKind.i64.wrap (n245 + 1)))) rfl) ?_
                refine ol_end ?_
                obtain rfl := Option.some.inj h
                exact E_next (bb278 + 8) (ups_self ⟨rfl, rfl, rfl, rfl, rfl, rfl, rfl, trivial⟩) [2, 3, 4, 0] (by decide) rfl
              · replace h := ifF c277 h
                refine ol_put rfl rfl rfl (q_bin rfl rfl (p_neq_f _ _ _ _ _ c277) rfl) ?_
                refine ol_end ?_
                refine E_seq ?_
                refine L_condF rfl ?_
                refine L_skip ?_
                refine E_blkN ?_
                refine E_seq ?_
                refine L_ops ?_
                refine ol_put rfl rfl rfl (q_move (v := .one (iC .i64 n245)) rfl) ?_
                refine ol_put rfl rfl rfl (q_bin rfl rfl (p_add _ _ _ _ _ _ _) rfl) ?_
                refine ol_put rfl rfl rfl (q_assign (v := .one (iC .i64 (IntKind.i64.wrap (n245 + 1)))) rfl) ?_
                refine ol_end ?_
                obtain rfl := Option.some.inj h
                exact E_next k247 (ups_self ⟨rfl, rfl, rfl, rfl, rfl, rfl, rfl, trivial⟩) [0, 1, 2, 3] (by decide) rfl
          · replace h := ifT (by decide) h
            refine ol_put rfl rfl rfl (q_not rfl) ?_
            refine ol_put rfl rfl rfl (q_move (v := .one (bC false)) rfl) ?_
            refine ol_skip rfl rfl rfl ?_
            refine ol_skip rfl rfl rfl ?_
            refine ol_skip rfl rfl rfl ?_
            refine ol_skip rfl rfl rfl ?_
            refine ol_skip rfl rfl rfl ?_
            refine ol_skip rfl rfl rfl ?_
            refine ol_skip rfl rfl rfl ?_
            refine ol_skip rfl rfl rfl ?_
            refine ol_put rfl rfl rfl (q_pickF (v := .one (bC false)) rfl rfl) ?_
            refine ol_end ?_
            refine E_seq ?_
            refine L_condF rfl ?_
            refine L_skip ?_
            refine E_seq ?_
            refine L_seq ?_
            refine L_ops ?_
            refine ol_put rfl rfl rfl (q_fieldP rfl fa25_1 rfl) ?_
            refine ol_put rfl rfl rfl (q_loadP (v := .one (.p fr10 (Sl.t r33 s9))) 0 rfl sz23 rfl rfl rfl rfl) ?_
            refine ol_put rfl rfl rfl (q_move (v := .one (iC .i64 n245)) rfl) ?_
            obtain ⟨⟨n291, n292⟩, h290, h⟩ := bindS h
            obtain ⟨h290a, h290b, h290⟩ := atS_some h290
            refine ol_put rfl rfl rfl (q_ixS rfl rfl h290a h290 (el23.trans (congrArg some h290b.symm))) ?_
            refine ol_put rfl rfl rfl (q_fieldI rfl fa34_0 rfl) ?_
            refine ol_put rfl rfl rfl (q_loadI (v := .one (iC .i64 n291)) rfl sz3 (map_get h290) rfl rfl) ?_
            refine ol_put rfl rfl rfl (q_move (v := .one (iC .i64 n3)) rfl) ?_
            by_cases c293 : n291 ≠ n3
            · replace h := ifT c293 h
              refine ol_put rfl rfl rfl (q_bin rfl rfl (p_neq_t _ _ _ _ _ c293) rfl) ?_
              refine ol_end ?_
              refine E_seq ?_
              refine L_condT rfl ?_
              refine L_norm (L2 := ([[(k5, 2, [[iC .i64 n8, .p fr10 (Sl.t r33 s9)]])], [(k6, 2, [[iC .i64 0, .p true (Sl.t r33 (⟨false, 0, []⟩ : Sl (Int × Int)))]])], [(k11, 2, [[iC .i64 n8, moC l246 k247]])], moL r33 2 l246 k247] : BL)) [0, 1, 2, 3] (by decide) rfl ?_
              refine L_turn 11 rfl [[], [], [], [], [], [], [], [], moK l246 k247, [], [k11]] [(false, []), (false, []), (false, []), (false, []), (false, []), (false, []), (false, []), (true, []), (true, []), (false, []), (false, [])] [[2, 3, 4, 5, 6, 7], [2, 3, 4, 5, 6, 7], [0, 1, 4], [0, 1, 4], [0, 1, 2, 3], [0, 1], [0, 1], [0, 1], [], [], []] (by kernel_rfl) (by kernel_rfl) (by kernel_rfl) ?_ (fun bb294 hlt hnd => ?_)
              · intro bb294 hlt hnd
                have e_k5 : k5 < bb294 := key_lt hlt 0 rfl
                have e_k6 : k6 < bb294 := key_lt hlt 1 rfl
                have e_k11 : k11 < bb294 := key_lt hlt 2 rfl
                have e_k247 : l246 = [] ∨ k247 < bb294 := key_ltM (r := r33) (w := 2) hlt 3 rfl
                have f_k247 := moK_lt e_k247
                have d_k11_k5 : k11 ≠ k5 := key_ne hnd 2 0 rfl rfl rfl
                have d_k11_k6 : k11 ≠ k6 := key_ne hnd 2 1 rfl rfl rfl
                have d_k247_k5 : k5 ∉ moK l246 k247 := key_neM (r := r33) (w := 2) hnd 3 0 rfl rfl rfl
                have g_k247_k5 := moK_ne d_k247_k5
                have d_k247_k6 : k6 ∉ moK l246 k247 := key_neM (r := r33) (w := 2) hnd 3 1 rfl rfl rfl
                have g_k247_k6 := moK_ne d_k247_k6
                have d_k247_k11 : k11 ∉ moK l246 k247 := key_neM (r := r33) (w := 2) hnd 3 2 rfl rfl rfl
                have g_k247_k11 := moK_ne d_k247_k11
                exact ⟨(by first | (simp; done) | (simp; omega) | (simp; assumption) | (simp_all; done) | (simp_all; omega)), (by first | (simp; done) | (simp; omega) | (simp; assumption) | (simp_all; done) | (simp_all; omega))⟩
              have e_k5 : k5 < bb294 := key_lt hlt 0 rfl
              have e_k6 : k6 < bb294 := key_lt hlt 1 rfl
              have e_k11 : k11 < bb294 := key_lt hlt 2 rfl
              have e_k247 : l246 = [] ∨ k247 < bb294 := key_ltM (r := r33) (w := 2) hlt 3 rfl
              have f_k247 := moK_lt e_k247
              have d_k11_k5 : k11 ≠ k5 := key_ne hnd 2 0 rfl rfl rfl
              have d_k11_k6 : k11 ≠ k6 := key_ne hnd 2 1 rfl rfl rfl
              have d_k247_k5 : k5 ∉ moK l246 k247 := key_neM (r := r33) (w := 2) hnd 3 0 rfl rfl rfl
              have g_k247_k5 := moK_ne d_k247_k5
              have d_k247_k6 : k6 ∉ moK l246 k247 := key_neM (r := r33) (w := 2) hnd 3 1 rfl rfl rfl
              have g_k247_k6 := moK_ne d_k247_k6
              have d_k247_k11 : k11 ∉ moK l246 k247 := key_neM (r := r33) (w := 2) hnd 3 2 rfl rfl rfl
              have g_k247_k11 := moK_ne d_k247_k11
              clear hlt hnd
              refine tn_put rfl rfl rfl [] (by decide) rfl hmn rfl (q_fieldP rfl fa25_1 rfl) ?_
              refine tn_put rfl rfl rfl [2] (by decide) rfl (hmc (by first | (simp [turnsOf]; done) | (simp [turnsOf]; omega) | (simp [turnsOf]; assumption) | (simp_all [turnsOf]; done) | (simp_all [turnsOf]; omega)) hmn) rfl (q_loadP (v := .one (moC l246 k247)) 0 rfl sz23 rfl rfl rfl rfl) ?_
              refine tn_put rfl rfl rfl [] (by decide) rfl (hm0 rfl) rfl (q_fieldP rfl fa25_1 rfl) ?_
              refine tn_put rfl rfl rfl [0] (by decide) rfl (hm0 rfl) rfl (q_loadP (v := .one (.p fr10 (Sl.t r33 s9))) 0 rfl sz23 rfl rfl rfl rfl) ?_
              refine tn_put rfl rfl rfl [] (by decide) rfl (hm0 rfl) rfl (q_move (v := .one (iC .i64 n245)) rfl) ?_
              obtain ⟨⟨n302, n303⟩, h301, h⟩ := bindS h
              obtain ⟨h301a, h301b, h301⟩ := atS_some h301
              refine tn_put rfl rfl rfl [] (by decide) rfl (hm0 rfl) rfl (q_ixS rfl rfl h301a h301 (el23.trans (congrArg some h301b.symm))) ?_
              refine tn_put rfl rfl rfl [] (by decide) rfl (hm0 rfl) rfl (q_loadI (v := .agg [iC .i64 n302, iC .i64 n303]) rfl sz34 (map_get h301) rfl rfl) ?_
              refine tn_new rfl rfl rfl [] (by decide) rfl (hm0 rfl) rfl rfl (hkc (by omega) (hkc (by omega) (hkc (by omega) (hkM (e_k247.imp id fun h => by omega) hkn)))) (q_bslice (cs := [iC .i64 n302, iC .i64 n303]) (es := (([(n302, n303)] : List (Int × Int))).map (rowC r33)) ty23 rfl ty34 rfl rfl rfl rfl rfl) ?_
              obtain ⟨_, h304, h⟩ := bindS h
              obtain ⟨h304b, rfl⟩ := app_some h304
              refine tn_appM (r := r33) (l := l246) 0 4 rfl rfl rfl rfl [4, 0] (by decide) rfl (hm0 rfl) rfl rfl (hkc (by omega) (hkc (by omega) (hkc (by omega) (hkc (by omega) (hkM (e_k247.imp id fun h => by omega) hkn))))) rfl rfl (el_ownM (l := ([(n302, n303)] : List (Int × Int))) 1 rfl) rfl rfl h304 (fun y => rfl) el23 ty23 rfl rfl rfl rfl rfl ?_
              refine tn_put rfl rfl rfl [] (by decide) rfl (hm0 rfl) rfl (q_fieldP rfl fa25_1 rfl) ?_
              refine tn_wr rfl rfl [4] (by decide) rfl (hm0 rfl) rfl (q_store (es' := [[iC .i64 n8, moC (l246 ++ ([(n302, n303)] : List (Int × Int))) (bb294 + 8)]]) 0 rfl rfl rfl sz23 rfl rfl rfl rfl rfl) (q := 4) rfl rfl ?_
              refine tn_end ?_
              refine E_blkN ?_
              refine E_seq ?_
              refine L_ops ?_
              refine ol_put rfl rfl rfl (q_move (v := .one (iC .i64 n245)) rfl) ?_
              refine ol_put rfl rfl rfl (q_bin rfl rfl (p_add _ _ _ _ _ _ _) rfl) ?_
              refine ol_put rfl rfl rfl (q_assign (v := .one (iC .i64 (IntKind.i64.wrap (n245 + 1)))) rfl) ?_
              refine ol_end ?_
              obtain rfl := Option.some.inj h
              exact E_next (bb294 + 8) (ups_self ⟨rfl, rfl, rfl, rfl, rfl, rfl, rfl, trivial⟩) [2, 3, 4, 0] (by decide) rfl
            · replace h := ifF c293 h
              refine ol_put rfl rfl rfl (q_bin rfl rfl (p_neq_f _ _ _ _ _ c293) rfl) ?_
              refine ol_end ?_
              refine E_seq ?_
              refine L_condF rfl ?_
              refine L_skip ?_
              refine E_blkN ?_
              refine E_seq ?_
              refine L_ops ?_
              refine ol_put rfl rfl rfl (q_move (v := .one (iC .i64 n245)) rfl) ?_
              refine ol_put rfl rfl rfl (q_bin rfl rfl (p_add _ _ _ _ _ _ _) rfl) ?_
              refine ol_put rfl rfl rfl (q_assign (v := .one (iC .i64 (IntKind.i64.wrap (n245 + 1)))) rfl) ?_
              refine ol_end ?_
              obtain rfl := Option.some.inj h
              exact E_next k247 (ups_self ⟨rfl, rfl, rfl, rfl, rfl, rfl, rfl, trivial⟩) [0, 1, 2, 3] (by decide) rfl
        · replace h := ifF c248 h
          refine ol_put rfl rfl rfl (q_bin rfl rfl (p_lss_f _ _ _ _ _ c248) rfl) ?_
          refine ol_end ?_
          refine E_seq ?_
          refine L_condF rfl ?_
          refine L_exit ?_
          refine E_seqX ?_
          obtain rfl := Option.some.inj h
          refine E_out ?_
          exact (E_exit k247 (ups_self ⟨rfl, rfl, rfl, rfl, rfl, trivial⟩) [1, 2, 3] (by decide) rfl)
      · rintro (⟨b305, l306⟩ | u) h
        · refine J_x (fun k307 g => ?_)
          replace h := elimL h
          refine E_blkH ?_
          refine E_seq ?_
          refine L_seq ?_
          refine L_seq ?_
          refine L_ops ?_
          refine ol_put rfl rfl rfl (q_move (v := .one (bC b305)) rfl) ?_
          rcases b305 with _ | _
          · replace h := ifF (by decide) h
            refine ol_put rfl rfl rfl (q_not rfl) ?_
            refine ol_end ?_
            refine E_seq ?_
            refine L_condT rfl ?_
            refine L_ops ?_
            refine ol_put rfl rfl rfl (q_fieldP rfl fa25_1 rfl) ?_
            refine ol_put rfl rfl rfl (q_loadP (v := .one (moC l306 k307)) 1 rfl sz23 rfl rfl rfl rfl) ?_
            refine ol_put rfl rfl rfl (q_move (v := .one (iC .i64 n3)) rfl) ?_
            refine ol_put rfl rfl rfl (q_move (v := .one (iC .i64 n4)) rfl) ?_
            refine ol_put rfl rfl rfl (q_build (cs := [iC .i64 n3, iC .i64 n4]) ty34 rfl pl34 rfl) ?_
            refine ol_new rfl rfl rfl (q_bslice (cs := [iC .i64 n3, iC .i64 n4]) (es := (([(n3, n4)] : List (Int × Int))).map (rowC r33)) ty23 rfl ty34 rfl rfl rfl rfl rfl) (fun k308 => ?_)
            obtain ⟨_, h309, h⟩ := bindS h
            obtain ⟨h309b, rfl⟩ := app_some h309
            refine ol_appM (r := r33) (l := l306) (ys := ([(n3, n4)] : List (Int × Int))) 3 rfl rfl rfl rfl rfl rfl (el_ownM (l := ([(n3, n4)] : List (Int × Int))) 0 rfl) rfl h309 (fun y => rfl) el23 ty23 rfl rfl rfl rfl rfl (fun k310 => ?_)
            refine ol_put rfl rfl rfl (q_fieldP rfl fa25_1 rfl) ?_
            refine ol_wr rfl rfl (q_store (es' := [[iC .i64 n8, moC (l306 ++ ([(n3, n4)] : List (Int × Int))) k310]]) 3 rfl rfl rfl sz23 rfl rfl rfl rfl rfl) rfl ?_
            refine ol_end ?_
            refine E_seq ?_
            refine L_seq ?_
            refine L_ops ?_
            refine ol_put rfl rfl rfl (q_loadP (v := .agg [iC .i64 n8, moC (l306 ++ ([(n3, n4)] : List (Int × Int))) k310]) 3 rfl sz25 rfl rfl rfl rfl) ?_
            refine ol_wr rfl rfl (q_store (es' := [[iC .i64 n8, moC (l306 ++ ([(n3, n4)] : List (Int × Int))) k310]]) 2 rfl rfl rfl sz25 rfl rfl rfl rfl rfl) rfl ?_
            refine ol_end ?_
            refine E_seq ?_
            refine L_ret ?_
            obtain rfl := Option.some.inj h
            exact E_endF (.inr rfl) (res_cell (d := .agg [iC .i64 n8, moC (l306 ++ ([(n3, n4)] : List (Int × Int))) k310]) 2 rfl sz25 rfl rfl rfl rfl res_nil) (vw_cons (vd_agg (vc_cons vc_v (vc_cons (vc_M (r := r33) 0 rfl (fun x h m => rfl)) vc_nil))) vw_nil) (fun h hb => own_agg) rfl rfl
          · replace h := ifT (by decide) h
            refine ol_put rfl rfl rfl (q_not rfl) ?_
            refine ol_end ?_
            refine E_seq ?_
            refine L_condF rfl ?_
            refine L_skip ?_
            refine E_seq ?_
            refine L_seq ?_
            refine L_ops ?_
            refine ol_put rfl rfl rfl (q_loadP (v := .agg [iC .i64 n8, moC l306 k307]) 1 rfl sz25 rfl rfl rfl rfl) ?_
            refine ol_wr rfl rfl (q_store (es' := [[iC .i64 n8, moC l306 k307]]) 0 rfl rfl rfl sz25 rfl rfl rfl rfl rfl) rfl ?_
            refine ol_end ?_
            refine E_seq ?_
            refine L_ret ?_
            obtain rfl := Option.some.inj h
            exact E_endF (.inr rfl) (res_cell (d := .agg [iC .i64 n8, moC l306 k307]) 0 rfl sz25 rfl rfl rfl rfl res_nil) (vw_cons (vd_agg (vc_cons vc_v (vc_cons (vc_M (r := r33) 2 rfl (fun x h m => rfl)) vc_nil))) vw_nil) (fun h hb => own_agg) rfl rfl
        · obtain rfl := Option.some.inj (elimR h)
          exact J_up (fun s hs => hs)

noncomputable def ref09_Drop_b1 (n3 : Int) (s8 : Sl (Int × Int)) (a : Int × (List (Int × Int))) : Option ((Int × (List (Int × Int))) ⊕ ((List (Int × Int)) ⊕ (Int × (Sl (Int × Int))))) :=
  match a with
  | (n51, l52) => (if n51 < ((s8.l.length : Nat) : Int) then ((atS 2 s8 n51).bind fun (n57, n58) => (if n57 ≠ n3 then ((atS 2 s8 n51).bind fun (n68, n69) => ((app l52 ([(n68, n69)] : List (Int × Int))).bind fun _ => some (.inl ((IntKind.i64.wrap (n51 + 1)), (l52 ++ ([(n68, n69)] : List (Int × Int))))))) else some (.inl ((IntKind.i64.wrap (n51 + 1)), l52)))) else some (.inr (.inl l52)))
noncomputable def ref09_Drop (a0 : Int × (Sl (Int × Int))) (n3 : Int) : Option ((Int × (Sl (Int × Int)))) :=
  match a0 with
  | (n1, s2) => ((ref09_Sure (n1, s2)).bind fun (n7, s8) => ((loopO (ref09_Drop_b1 n3 s8) (0, ([] : List (Int × Int)))).bind (Sum.elim (fun l71 => some (n7, (mo 2 l71))) (fun u => some u))))
theorem ref09_Drop_r (m : Nat) {a0 : Int × (Sl (Int × Int))} {n3 : Int} {out : (Int × (Sl (Int × Int)))} (h : ref09_Drop a0 n3 = some out) : RunsP E1 (m + 3) 52 [.agg (r24 a0), .one (iT .i64 n3)] (.fresh, [.agg (r24 out)]) := by
  obtain ⟨n1, s2⟩ := a0
  refine fn_F rfl (by rw [E1_fn]; exact show fiOf Try.prog 52 = _ by unfold fiOf; rw [Try.func52]; unfold Try.f52; rfl) rfl ?_
  dsimp only
  unfold ref09_Drop at h
  refine L_seq ?_
  refine L_ops ?_
  refine ol_new rfl rfl rfl (q_box ty25 rfl (cs := [iC .i64 n1, .p false (Sl.t r33 s2)]) rfl rfl) (fun k4 => ?_)
  refine ol_new rfl rfl rfl (q_alloc ty25 (row := [iC .i64 0, .p true (Sl.t r33 (⟨false, 0, []⟩ : Sl (Int × Int)))]) rfl rfl) (fun k5 => ?_)
  refine ol_end ?_
  refine E_seq ?_
  refine L_seq ?_
  refine L_ops ?_
  refine ol_put rfl rfl rfl (q_loadP (v := .agg [iC .i64 n1, .p false (Sl.t r33 s2)]) 1 rfl sz25 rfl rfl rfl rfl) ?_
  obtain ⟨⟨n7, s8⟩, h6, h⟩ := bindS h
  refine ol_putX rfl rfl rfl (q_callX (v := fun fr9 => .agg [iC .i64 n7, .p fr9 (Sl.t r33 s8)]) (args := [.agg [iC .i64 n1, .p false (Sl.t r33 s2)]]) (ref09_Sure_r (m + 0) h6) rfl rfl (vw_cons (vd_agg (vc_cons vc_v (vc_cons vc_s vc_nil))) vw_nil) rfl rfl (fun fr => rfl)) (fun fr9 => ?_)
  refine ol_wr rfl rfl (q_store (es' := [[iC .i64 n7, .p fr9 (Sl.t r33 s8)]]) 1 rfl rfl rfl sz25 rfl rfl rfl rfl rfl) rfl ?_
  refine ol_end ?_
  refine E_seq ?_
  refine L_seq ?_
  refine L_ops ?_
  refine ol_put rfl rfl rfl (q_fieldP rfl fa25_0 rfl) ?_
  refine ol_put rfl rfl rfl (q_loadP (v := .one (iC .i64 n7)) 1 rfl sz3 rfl rfl rfl rfl) ?_
  refine ol_put rfl rfl rfl (q_build (cs := [iC .i64 n7, .p true (Sl.t r33 (⟨false, 0, []⟩ : Sl (Int × Int)))]) ty25 rfl pl25 rfl) ?_
  refine ol_new rfl rfl rfl (q_alloc ty25 (row := [iC .i64 0, .p true (Sl.t r33 (⟨false, 0, []⟩ : Sl (Int × Int)))]) rfl rfl) (fun k10 => ?_)
  refine ol_wr rfl rfl (q_store (es' := [[iC .i64 n7, .p true (Sl.t r33 (⟨false, 0, []⟩ : Sl (Int × Int)))]]) 0 rfl rfl rfl sz25 rfl rfl rfl rfl rfl) rfl ?_
  refine ol_end ?_
  refine E_seq ?_
  refine L_seq ?_
  refine L_seq ?_
  refine L_ops ?_
  refine ol_put rfl rfl rfl (q_assign (v := .one (iC .i64 0)) rfl) ?_
  refine ol_end ?_
  refine E_seq ?_
  refine L_block ?_
  refine L_addM (α := Int × Int) r33 2 ?_
  let S1 : (Int × (List (Int × Int))) → Nat → (Nat → D) → Nat → D := fun a kt g => ups g [(1, .one (iC .i64 n3)), (2, .one (.ptr k4 0 0)), (4, .one (.ptr k5 0 0)), (5, .one (.ptr k10 0 0)), (6, .one (iC .i64 a.1))]
  let SL1 : (Int × (List (Int × Int))) → Nat → BL := fun a kt => ([[(k4, 2, [[iC .i64 n7, .p fr9 (Sl.t r33 s8)]])], [(k5, 2, [[iC .i64 0, .p true (Sl.t r33 (⟨false, 0, []⟩ : Sl (Int × Int)))]])], [(k10, 2, [[iC .i64 n7, moC a.2 kt]])], moL r33 2 a.2 kt] : BL)
  let Sx1 : (List (Int × Int)) → Nat → (Nat → D) → Nat → D := fun a kt g => ups g [(4, .one (.ptr k5 0 0)), (5, .one (.ptr k10 0 0))]
  let SLx1 : (List (Int × Int)) → Nat → BL := fun a kt => ([[(k5, 2, [[iC .i64 0, .p true (Sl.t r33 (⟨false, 0, []⟩ : Sl (Int × Int)))]])], [(k10, 2, [[iC .i64 n7, moC a kt]])], moL r33 2 a kt] : BL)
  let G1 : (Int × (Sl (Int × Int))) → Ex → St → Prop := fun u => endQ E1 [.cell 4 25] (.fresh, [.agg (r24 u)])
  let J1 : ((List (Int × Int)) ⊕ (Int × (Sl (Int × Int)))) → Ex → St → Prop := JX 38 0 Sx1 SLx1 G1
  refine L_loopS (ref09_Drop_b1 n3 s8) S1 SL1 J1 JX_n (0, ([] : List (Int × Int))) h 1049 (ups_self ⟨rfl, rfl, rfl, rfl, rfl, trivial⟩) [3, 2, 1, 0] (by decide) rfl ?_ ?_
  · rintro ⟨n51, l52⟩ k53 g out h
    change ref09_Drop_b1 n3 s8 (n51, l52) = some out at h
    unfold ref09_Drop_b1 at h
    refine L_seq ?_
    refine L_seq ?_
    refine L_ops ?_
    refine ol_put rfl rfl rfl (q_move (v := .one (iC .i64 n51)) rfl) ?_
    refine ol_put rfl rfl rfl (q_fieldP rfl fa25_1 rfl) ?_
    refine ol_put rfl rfl rfl (q_loadP (v := .one (.p fr9 (Sl.t r33 s8))) 0 rfl sz23 rfl rfl rfl rfl) ?_
    refine ol_put rfl rfl rfl (q_lenS rfl ty23 rfl rfl rfl rfl) ?_
    by_cases c54 : n51 < ((s8.l.length : Nat) : Int)
    · replace h := ifT c54 h
      refine ol_put rfl rfl rfl (q_bin rfl rfl (p_lss_t _ _ _ _ _ c54) rfl) ?_
      refine ol_end ?_
      refine E_seq ?_
      refine L_condT rfl ?_
      refine L_skip ?_
      refine E_seq ?_
      refine L_seq ?_
      refine L_block ?_
      refine L_seq ?_
      refine L_ops ?_
      refine ol_put rfl rfl rfl (q_fieldP rfl fa25_1 rfl) ?_
      refine ol_put rfl rfl rfl (q_loadP (v := .one (.p fr9 (Sl.t r33 s8))) 0 rfl sz23 rfl rfl rfl rfl) ?_
      refine ol_put rfl rfl rfl (q_move (v := .one (iC .i64 n51)) rfl) ?_
      obtain ⟨⟨n57, n58⟩, h56, h⟩ := bindS h
      obtain ⟨h56a, h56b, h56⟩ := atS_some h56
      refine ol_put rfl rfl rfl (q_ixS rfl rfl h56a h56 (el23.trans (congrArg some h56b.symm))) ?_
      refine ol_put rfl rfl rfl (q_fieldI rfl fa34_0 rfl) ?_
      refine ol_put rfl rfl rfl (q_loadI (v := .one (iC .i64 n57)) rfl sz3 (map_get h56) rfl rfl) ?_
      refine ol_put rfl rfl rfl (q_move (v := .one (iC .i64 n3)) rfl) ?_
      by_cases c59 : n57 ≠ n3
      · replace h := ifT c59 h
        refine ol_put rfl rfl rfl (q_bin rfl rfl (p_neq_t _ _ _ _ _ c59) rfl) ?_
        refine ol_end ?_
        refine E_seq ?_
        refine L_condT rfl ?_
        refine L_norm (L2 := ([[(k4, 2, [[iC .i64 n7, .p fr9 (Sl.t r33 s8)]])], [(k5, 2, [[iC .i64 0, .p true (Sl.t r33 (⟨false, 0, []⟩ : Sl (Int × Int)))]])], [(k10, 2, [[iC .i64 n7, moC l52 k53]])], moL r33 2 l52 k53] : BL)) [0, 1, 2, 3] (by decide) rfl ?_
        refine L_turn 11 rfl [[], [], [], [], [], [], [], [], moK l52 k53, [], [k10]] [(false, []), (false, []), (false, []), (false, []), (false, []), (false, []), (false, []), (true, []), (true, []), (false, []), (false, [])] [[2, 3, 4, 5, 6, 7], [2, 3, 4, 5, 6, 7], [0, 1, 4], [0, 1, 4], [0, 1, 2, 3], [0, 1], [0, 1], [0, 1], [], [], []] (by kernel_rfl) (by kernel_rfl) (by kernel_rfl) ?_ (fun bb60 hlt hnd => ?_)
        · intro bb60 hlt hnd
          have e_k4 : k4 < bb60 := key_lt hlt 0 rfl
          have e_k5 : k5 < bb60 := key_lt hlt 1 rfl
          have e_k10 : k10 < bb60 := key_lt hlt 2 rfl
          have e_k53 : l52 = [] ∨ k53 < bb60 := key_ltM (r := r33) (w := 2) hlt 3 rfl
          have f_k53 := moK_lt e_k53
          have d_k10_k4 : k10 ≠ k4 := key_ne hnd 2 0 rfl rfl rfl
          have d_k10_k5 : k10 ≠ k5 := key_ne hnd 2 1 rfl rfl rfl
          have d_k53_k4 : k4 ∉ moK l52 k53 := key_neM (r := r33) (w := 2) hnd 3 0 rfl rfl rfl
          have g_k53_k4 := moK_ne d_k53_k4
          have d_k53_k5 : k5 ∉ moK l52 k53 := key_neM (r := r33) (w := 2) hnd 3 1 rfl rfl rfl
          have g_k53_k5 := moK_ne d_k53_k5
          have d_k53_k10 : k10 ∉ moK l52 k53 := key_neM (r := r33) (w := 2) hnd 3 2 rfl rfl rfl
          have g_k53_k10 := moK_ne d_k53_k10
          exact ⟨(by first | (simp; done) | (simp; omega) | (simp; assumption) | (simp_all; done) | (simp_all; omega)), (by first | (simp; done) | (simp; omega) | (simp; assumption) | (simp_all; done) | (simp_all; omega))⟩
        have e_k4 : k4 < bb60 := key_lt hlt 0 rfl
        have e_k5 : k5 < bb60 := key_lt hlt 1 rfl
        have e_k10 : k10 < bb60 := key_lt hlt 2 rfl
        have e_k53 : l52 = [] ∨ k53 < bb60 := key_ltM (r := r33) (w := 2) hlt 3 rfl
        have f_k53 := moK_lt e_k53
        have d_k10_k4 : k10 ≠ k4 := key_ne hnd 2 0 rfl rfl rfl
        have d_k10_k5 : k10 ≠ k5 := key_ne hnd 2 1 rfl rfl rfl
        have d_k53_k4 : k4 ∉ moK l52 k53 := key_neM (r := r33) (w := 2) hnd 3 0 rfl rfl rfl
        have g_k53_k4 := moK_ne d_k53_k4
        have d_k53_k5 : k5 ∉ moK l52 k53 := key_neM (r := r33) (w := 2) hnd 3 1 rfl rfl rfl
        have g_k53_k5 := moK_ne d_k53_k5
        have d_k53_k10 : k10 ∉ moK l52 k53 := key_neM (r := r33) (w := 2) hnd 3 2 rfl rfl rfl
        have g_k53_k10 := moK_ne d_k53_k10
        clear hlt hnd
        refine tn_put rfl rfl rfl [] (by decide) rfl hmn rfl (q_fieldP rfl fa25_1 rfl) ?_
        refine tn_put rfl rfl rfl [2] (by decide) rfl (hmc (by first | (simp [turnsOf]; done) | (simp [turnsOf]; omega) | (simp [turnsOf]; assumption) | (simp_all [turnsOf]; done) | (simp_all [turnsOf]; omega)) hmn) rfl (q_loadP (v := .one (moC l52 k53)) 0 rfl sz23 rfl rfl rfl rfl) ?_
        refine tn_put rfl rfl rfl [] (by decide) rfl (hm0 rfl) rfl (q_fieldP rfl fa25_1 rfl) ?_
        refine tn_put rfl rfl rfl [0] (by decide) rfl (hm0 rfl) rfl (q_loadP (v := .one (.p fr9 (Sl.t r33 s8))) 0 rfl sz23 rfl rfl rfl rfl) ?_
        refine tn_put rfl rfl rfl [] (by decide) rfl (hm0 rfl) rfl (q_move (v := .one (iC .i64 n51)) rfl) ?_
        obtain ⟨⟨n68, n69⟩, h67, h⟩ := bindS h
        obtain ⟨h67a, h67b, h67⟩ := atS_some h67
        refine tn_put rfl rfl rfl [] (by decide) rfl (hm0 rfl) rfl (q_ixS rfl rfl h67a h67 (el23.trans (congrArg some h67b.symm))) ?_
        refine tn_put rfl rfl rfl [] (by decide) rfl (hm0 rfl) rfl (q_loadI (v := .agg [iC .i64 n68, iC .i64 n69]) rfl sz34 (map_get h67) rfl rfl) ?_
        refine tn_new rfl rfl rfl [] (by decide) rfl (hm0 rfl) rfl rfl (hkc (by omega) (hkc (by omega) (hkc (by omega) (hkM (e_k53.imp id fun h => by omega) hkn)))) (q_bslice (cs := [iC .i64 n68, iC .i64 n69]) (es := (([(n68, n69)] : List (Int × Int))).map (rowC r33)) ty23 rfl ty34 rfl rfl rfl rfl rfl) ?_
        obtain ⟨_, h70, h⟩ := bindS h
        obtain ⟨h70b, rfl⟩ := app_some h70
        refine tn_appM (r := r33) (l := l52) 0 4 rfl rfl rfl rfl [4, 0] (by decide) rfl (hm0 rfl) rfl rfl (hkc (by omega) (hkc (by omega) (hkc (by omega) (hkc (by omega) (hkM (e_k53.imp id fun h => by omega) hkn))))) rfl rfl (el_ownM (l := ([(n68, n69)] : List (Int × Int))) 1 rfl) rfl rfl h70 (fun y => rfl) el23 ty23 rfl rfl rfl rfl rfl ?_
        refine tn_put rfl rfl rfl [] (by decide) rfl (hm0 rfl) rfl (q_fieldP rfl fa25_1 rfl) ?_
        refine tn_wr rfl rfl [4] (by decide) rfl (hm0 rfl) rfl (q_store (es' := [[iC .i64 n7, moC (l52 ++ ([(n68, n69)] : List (Int × Int))) (bb60 + 8)]]) 0 rfl rfl rfl sz23 rfl rfl rfl rfl rfl) (q := 4) rfl rfl ?_
        refine tn_end ?_
        refine E_blkN ?_
        refine E_seq ?_
        refine L_ops ?_
        refine ol_put rfl rfl rfl (q_move (v := .one (iC .i64 n51)) rfl) ?_
        refine ol_put rfl rfl rfl (q_bin rfl rfl (p_add _ _ _ _ _ _ _) rfl) ?_
        refine ol_put rfl rfl rfl (q_assign (v := .one (iC .i64 (IntKind.i64.wrap (n51 + 1)))) rfl) ?_
        refine ol_end ?_
        obtain rfl := Option.some.inj h
        exact E_next (bb60 + 8) (ups_self ⟨rfl, rfl, rfl, rfl, rfl, trivial⟩) [2, 3, 4, 0] (by decide) rfl
      · replace h := ifF c59 h
        refine ol_put rfl rfl rfl (q_bin rfl rfl (p_neq_f _ _ _ _ _ c59) rfl) ?_
        refine ol_end ?_
        refine E_seq ?_
        refine L_condF rfl ?_
        refine L_skip ?_
        refine E_blkN ?_
        refine E_seq ?_
        refine L_ops ?_
        refine ol_put rfl rfl rfl (q_move (v := .one (iC .i64 n51)) rfl) ?_
        refine ol_put rfl rfl rfl (q_bin rfl rfl (p_add _ _ _ _ _ _ _) rfl) ?_
        refine ol_put rfl rfl rfl (q_assign (v := .one (iC .i64 (IntKind.i64.wrap (n51 + 1)))) rfl) ?_
        refine ol_end ?_
        obtain rfl := Option.some.inj h
        exact E_next k53 (ups_self ⟨rfl, rfl, rfl, rfl, rfl, trivial⟩) [0, 1, 2, 3] (by decide) rfl
    · replace h := ifF c54 h
      refine ol_put rfl rfl rfl (q_bin rfl rfl (p_lss_f _ _ _ _ _ c54) rfl) ?_
      refine ol_end ?_
      refine E_seq ?_
      refine L_condF rfl ?_
      refine L_exit ?_
      refine E_seqX ?_
      obtain rfl := Option.some.inj h
      refine E_out ?_
      exact (E_exit k53 (ups_self ⟨rfl, rfl, trivial⟩) [1, 2, 3] (by decide) rfl)
  · rintro (l71 | u) h
    · refine J_x (fun k72 g => ?_)
      replace h := elimL h
      refine E_blkH ?_
      refine E_seq ?_
      refine L_seq ?_
      refine L_ops ?_
      refine ol_put rfl rfl rfl (q_loadP (v := .agg [iC .i64 n7, moC l71 k72]) 1 rfl sz25 rfl rfl rfl rfl) ?_
      refine ol_wr rfl rfl (q_store (es' := [[iC .i64 n7, moC l71 k72]]) 0 rfl rfl rfl sz25 rfl rfl rfl rfl rfl) rfl ?_
      refine ol_end ?_
      refine E_seq ?_
      refine L_ret ?_
      obtain rfl := Option.some.inj h
      exact E_endF (.inr rfl) (res_cell (d := .agg [iC .i64 n7, moC l71 k72]) 0 rfl sz25 rfl rfl rfl rfl res_nil) (vw_cons (vd_agg (vc_cons vc_v (vc_cons (vc_M (r := r33) 2 rfl (fun x h m => rfl)) vc_nil))) vw_nil) (fun h hb => own_agg) rfl rfl
    · obtain rfl := Option.some.inj (elimR h)
      exact J_up (fun s hs => hs)

noncomputable def ref12_Assign_b2 (s3 : Sl (Int)) (n23 : Int) (s24 : Sl (Int × Int)) (a : Int × Int × (Sl (Int × Int))) : Option ((Int × Int × (Sl (Int × Int))) ⊕ ((Int × (Sl (Int × Int))) ⊕ ((Int × (Sl (Int × Int))) × Int))) :=
  match a with
  | (n121, n122, s123) => (if n121 < ((s3.l.length : Nat) : Int) then ((ref09_Get (n23, s24) n121).bind fun (n127, b128) => (if b128 = true then ((atS 1 s3 n121).bind fun n151 => ((ref09_Put (n122, s123) n151 n127).bind fun (n153, s154) => some (.inl ((IntKind.i64.wrap (n121 + 1)), n153, s154)))) else ((atS 1 s3 n121).bind fun n138 => ((ref09_Drop (n122, s123) n138).bind fun (n140, s141) => some (.inl ((IntKind.i64.wrap (n121 + 1)), n140, s141)))))) else some (.inr (.inl (n122, s123))))
noncomputable def ref12_Assign_b1 (s3 : Sl (Int)) (n19 : Int) (n46 : Int) : Option (Int ⊕ (Unit ⊕ ((Int × (Sl (Int × Int))) × Int))) :=
  (if n46 < ((s3.l.length : Nat) : Int) then ((atS 1 s3 n46).bind fun n50 => (if n50 < 0 then some (.inr (.inr ((0, (⟨false, 0, []⟩ : Sl (Int × Int))), 3))) else ((atS 1 s3 n46).bind fun n54 => (if n54 ≥ n19 then some (.inr (.inr ((0, (⟨false, 0, []⟩ : Sl (Int × Int))), 3))) else some (.inl (IntKind.i64.wrap (n46 + 1))))))) else some (.inr (.inl ())))
noncomputable def ref12_Assign (a0 : Int × (Sl (Int × Int))) (s3 : Sl (Int)) (a2 : Int × (Sl (Int × Int))) : Option ((Int × (Sl (Int × Int))) × Int) :=
  match a0, a2 with
  | (n1, s2), (n4, s5) => ((ref09_Sure (n1, s2)).bind fun (n19, s20) => ((ref09_Sure (n4, s5)).bind fun (n23, s24) => (if n23 ≠ ((s3.l.length : Nat) : Int) then some ((0, (⟨false, 0, []⟩ : Sl (Int × Int))), 4) else ((loopO (ref12_Assign_b1 s3 n19) 0).bind (Sum.elim (fun _ => ((loopO (ref12_Assign_b2 s3 n23 s24) (0, n19, s20)).bind (Sum.elim (fun ⟨n155, s156⟩ => some ((n155, s156), 0)) (fun u => some u)))) (fun u => some u))))))
theorem ref12_Assign_r (m : Nat) {a0 : Int × (Sl (Int × Int))} {s3 : Sl (Int)} {a2 : Int × (Sl (Int × Int))} {out : (Int × (Sl (Int × Int))) × Int} (h : ref12_Assign a0 s3 a2 = some out) : RunsX E1 (m + 4) 24 [.agg (r24 a0), .one (Sl.t r3 s3), .agg (r24 a2)] [.agg (r24 out.1), .one (iT .i64 out.2)] := by
  obtain ⟨n1, s2⟩ := a0
  obtain ⟨n4, s5⟩ := a2
  refine fn_X rfl (by rw [E1_fn]; exact show fiOf Try.prog 24 = _ by unfold fiOf; rw [Try.func24]; unfold Try.f24; rfl) rfl ?_
  dsimp only
  unfold ref12_Assign at h
  refine L_seq ?_
  refine L_ops ?_
  refine ol_new rfl rfl rfl (q_box ty25 rfl (cs := [iC .i64 n1, .p false (Sl.t r33 s2)]) rfl rfl) (fun k6 => ?_)
  refine ol_new rfl rfl rfl (q_box ty25 rfl (cs := [iC .i64 n4, .p false (Sl.t r33 s5)]) rfl rfl) (fun k7 => ?_)
  refine ol_new rfl rfl rfl (q_alloc ty25 (row := [iC .i64 0, .p true (Sl.t r33 (⟨false, 0, []⟩ : Sl (Int × Int)))]) rfl rfl) (fun k8 => ?_)
  refine ol_put rfl rfl rfl (q_assign (v := .one (iC .i64 0)) rfl) ?_
  refine ol_end ?_
  refine E_seq ?_
  refine L_seq ?_
  refine L_norm (L2 := ([[(k8, 2, [[iC .i64 0, .p true (Sl.t r33 (⟨false, 0, []⟩ : Sl (Int × Int)))]])], [(k7, 2, [[iC .i64 n4, .p false (Sl.t r33 s5)]])], [(k6, 2, [[iC .i64 n1, .p false (Sl.t r33 s2)]])]] : BL)) [0, 1, 2] (by decide) rfl ?_
  refine L_turn 6 rfl [[], [], [], [], [k6], [k7]] [(false, []), (false, []), (false, []), (false, []), (false, []), (false, [])] [[2], [2], [0, 1], [], [], []] (by kernel_rfl) (by kernel_rfl) (by kernel_rfl) ?_ (fun bb9 hlt hnd => ?_)
  · intro bb9 hlt hnd
    have e_k8 : k8 < bb9 := key_lt hlt 0 rfl
    have e_k7 : k7 < bb9 := key_lt hlt 1 rfl
    have e_k6 : k6 < bb9 := key_lt hlt 2 rfl
    have d_k7_k8 : k7 ≠ k8 := key_ne hnd 1 0 rfl rfl rfl
    have d_k7_k6 : k7 ≠ k6 := key_ne hnd 1 2 rfl rfl rfl
    have d_k6_k8 : k6 ≠ k8 := key_ne hnd 2 0 rfl rfl rfl
    have d_k6_k7 : k6 ≠ k7 := key_ne hnd 2 1 rfl rfl rfl
    exact ⟨(by first | (simp; done) | (simp; omega) | (simp; assumption) | (simp_all; done) | (simp_all; omega)), (by first | (simp; done) | (simp; omega) | (simp; assumption) | (simp_all; done) | (simp_all; omega))⟩
  have e_k8 : k8 < bb9 := key_lt hlt 0 rfl
  have e_k7 : k7 < bb9 := key_lt hlt 1 rfl
  have e_k6 : k6 < bb9 := key_lt hlt 2 rfl
  have d_k7_k8 : k7 ≠ k8 := key_ne hnd 1 0 rfl rfl rfl
  have d_k7_k6 : k7 ≠ k6 := key_ne hnd 1 2 rfl rfl rfl
  have d_k6_k8 : k6 ≠ k8 := key_ne hnd 2 0 rfl rfl rfl
  have d_k6_k7 : k6 ≠ k7 := key_ne hnd 2 1 rfl rfl rfl
  clear hlt hnd
  refine tn_put rfl rfl rfl [2] (by decide) rfl (hm0 rfl) rfl (q_loadP (v := .agg [iC .i64 n1, .p false (Sl.t r33 s2)]) 0 rfl sz25 rfl rfl rfl rfl) ?_
  obtain ⟨⟨n19, s20⟩, h18, h⟩ := bindS h
  refine tn_putX rfl rfl rfl [] (by decide) rfl (hm0 rfl) rfl (q_callX (v := fun fr21 => .agg [iC .i64 n19, .p fr21 (Sl.t r33 s20)]) (args := [.agg [iC .i64 n1, .p false (Sl.t r33 s2)]]) (ref09_Sure_r (m + 1) h18) rfl rfl (vw_cons (vd_agg (vc_cons vc_v (vc_cons vc_s vc_nil))) vw_nil) rfl rfl (fun fr => rfl)) (fun fr21 => ?_)
  refine tn_put rfl rfl rfl [1] (by decide) rfl (hm0 rfl) rfl (q_loadP (v := .agg [iC .i64 n4, .p false (Sl.t r33 s5)]) 0 rfl sz25 rfl rfl rfl rfl) ?_
  obtain ⟨⟨n23, s24⟩, h22, h⟩ := bindS h
  refine tn_putX rfl rfl rfl [] (by decide) rfl (hm0 rfl) rfl (q_callX (v := fun fr25 => .agg [iC .i64 n23, .p fr25 (Sl.t r33 s24)]) (args := [.agg [iC .i64 n4, .p false (Sl.t r33 s5)]]) (ref09_Sure_r (m + 1) h22) rfl rfl (vw_cons (vd_agg (vc_cons vc_v (vc_cons vc_s vc_nil))) vw_nil) rfl rfl (fun fr => rfl)) (fun fr25 => ?_)
  refine tn_wr rfl rfl [2] (by decide) rfl (hm0 rfl) rfl (q_store (es' := [[iC .i64 n19, .p fr21 (Sl.t r33 s20)]]) 0 rfl rfl rfl sz25 rfl rfl rfl rfl rfl) (q := 2) rfl rfl ?_
  refine tn_wr rfl rfl [1] (by decide) rfl (hm0 rfl) rfl (q_store (es' := [[iC .i64 n23, .p fr25 (Sl.t r33 s24)]]) 0 rfl rfl rfl sz25 rfl rfl rfl rfl rfl) (q := 1) rfl rfl ?_
  refine tn_end ?_
  refine E_seq ?_
  refine L_seq ?_
  refine L_seq ?_
  refine L_ops ?_
  refine ol_put rfl rfl rfl (q_fieldP rfl fa25_0 rfl) ?_
  refine ol_put rfl rfl rfl (q_loadP (v := .one (iC .i64 n23)) 1 rfl sz3 rfl rfl rfl rfl) ?_
  refine ol_put rfl rfl rfl (q_move (v := .one (.p false (Sl.t r3 s3))) rfl) ?_
  refine ol_put rfl rfl rfl (q_lenS rfl ty42 rfl rfl rfl rfl) ?_
  by_cases c26 : n23 ≠ ((s3.l.length : Nat) : Int)
  · replace h := ifT c26 h
    refine ol_put rfl rfl rfl (q_bin rfl rfl (p_neq_t _ _ _ _ _ c26) rfl) ?_
    refine ol_end ?_
    refine E_seq ?_
    refine L_condT rfl ?_
    refine L_seq ?_
    refine L_ops ?_
    refine ol_put rfl rfl rfl (q_build (cs := [iC .i64 0, .p true (Sl.t r33 (⟨false, 0, []⟩ : Sl (Int × Int)))]) ty25 rfl pl25 rfl) ?_
    refine ol_wr rfl rfl (q_store (es' := [[iC .i64 0, .p true (Sl.t r33 (⟨false, 0, []⟩ : Sl (Int × Int)))]]) 0 rfl rfl rfl sz25 rfl rfl rfl rfl rfl) rfl ?_
    refine ol_put rfl rfl rfl (q_assign (v := .one (iC .i64 4)) rfl) ?_
    refine ol_end ?_
    refine E_seq ?_
    refine L_ret ?_
    refine E_seqR ?_
    obtain rfl := Option.some.inj h
    exact E_endX (.inr rfl) (res_cell (d := .agg [iC .i64 0, .p true (Sl.t r33 (⟨false, 0, []⟩ : Sl (Int × Int)))]) 0 rfl sz25 rfl rfl rfl rfl (res_tmp rfl res_nil)) (vw_cons (vd_agg (vc_cons vc_v (vc_cons vc_s vc_nil))) (vw_cons (vd_one vc_v) vw_nil)) (fun h hb => own_no2) rfl
  · replace h := ifF c26 h
    refine ol_put rfl rfl rfl (q_bin rfl rfl (p_neq_f _ _ _ _ _ c26) rfl) ?_
    refine ol_end ?_
    refine E_seq ?_
    refine L_condF rfl ?_
    refine L_skip ?_
    refine E_seq ?_
    refine L_seq ?_
    refine L_seq ?_
    refine L_ops ?_
    refine ol_put rfl rfl rfl (q_assign (v := .one (iC .i64 0)) rfl) ?_
    refine ol_end ?_
    refine E_seq ?_
    refine L_block ?_
    let S1 : Int → Unit → (Nat → D) → Nat → D := fun a kt g => ups g [(1, .one (.p false (Sl.t r3 s3))), (3, .one (.ptr k6 0 0)), (5, .one (.ptr k7 0 0)), (6, .one (.ptr k8 0 0)), (8, .one (iC .i64 a))]
    let SL1 : Int → Unit → BL := fun a kt => ([[(k6, 2, [[iC .i64 n19, .p fr21 (Sl.t r33 s20)]])], [(k7, 2, [[iC .i64 n23, .p fr25 (Sl.t r33 s24)]])], [(k8, 2, [[iC .i64 0, .p true (Sl.t r33 (⟨false, 0, []⟩ : Sl (Int × Int)))]])]] : BL)
    let Sx1 : Unit → Unit → (Nat → D) → Nat → D := fun a kt g => ups g [(1, .one (.p false (Sl.t r3 s3))), (3, .one (.ptr k6 0 0)), (5, .one (.ptr k7 0 0)), (6, .one (.ptr k8 0 0))]
    let SLx1 : Unit → Unit → BL := fun a kt => ([[(k6, 2, [[iC .i64 n19, .p fr21 (Sl.t r33 s20)]])], [(k7, 2, [[iC .i64 n23, .p fr25 (Sl.t r33 s24)]])], [(k8, 2, [[iC .i64 0, .p true (Sl.t r33 (⟨false, 0, []⟩ : Sl (Int × Int)))]])]] : BL)
    let G1 : ((Int × (Sl (Int × Int))) × Int) → Ex → St → Prop := fun u => endX E1 [.cell 6 25, .tmp 7] [.agg (r24 u.1), .one (iT .i64 u.2)]
    let J1 : (Unit ⊕ ((Int × (Sl (Int × Int))) × Int)) → Ex → St → Prop := JX 72 0 Sx1 SLx1 G1
    refine L_loopS (ref12_Assign_b1 s3 n19) S1 SL1 J1 JX_n 0 h () (ups_self ⟨rfl, rfl, rfl, rfl, rfl, trivial⟩) [2, 1, 0] (by decide) rfl ?_ ?_
    · rintro n46 _ g out h
      change ref12_Assign_b1 s3 n19 n46 = some out at h
      unfold ref12_Assign_b1 at h
      refine L_seq ?_
      refine L_seq ?_
      refine L_ops ?_
      refine ol_put rfl rfl rfl (q_move (v := .one (iC .i64 n46)) rfl) ?_
      refine ol_put rfl rfl rfl (q_move (v := .one (.p false (Sl.t r3 s3))) rfl) ?_
      refine ol_put rfl rfl rfl (q_lenS rfl ty42 rfl rfl rfl rfl) ?_
      by_cases c47 : n46 < ((s3.l.length : Nat) : Int)
      · replace h := ifT c47 h
        refine ol_put rfl rfl rfl (q_bin rfl rfl (p_lss_t _ _ _ _ _ c47) rfl) ?_
        refine ol_end ?_
        refine E_seq ?_
        refine L_condT rfl ?_
        refine L_skip ?_
        refine E_seq ?_
        refine L_seq ?_
        refine L_block ?_
        refine L_seq ?_
        refine L_still (by kernel_rfl) ?_
        refine st_put rfl rfl rfl (q_move (v := .one (.p false (Sl.t r3 s3))) rfl) ?_
        refine st_put rfl rfl rfl (q_move (v := .one (iC .i64 n46)) rfl) ?_
        obtain ⟨n50, h49, h⟩ := bindS h
        obtain ⟨h49a, h49b, h49⟩ := atS_some h49
        refine st_put rfl rfl rfl (q_ixS rfl rfl h49a h49 (el42.trans (congrArg some h49b.symm))) ?_
        refine st_put rfl rfl rfl (q_loadI (v := .one (iC .i64 n50)) rfl sz3 (map_get h49) rfl rfl) ?_
        by_cases c51 : n50 < 0
        · replace h := ifT c51 h
          refine st_put rfl rfl rfl (q_bin rfl rfl (p_lss_t _ _ _ _ _ c51) rfl) ?_
          refine st_put rfl rfl rfl (q_move (v := .one (bC true)) rfl) ?_
          refine st_skip rfl rfl rfl ?_
          refine st_skip rfl rfl rfl ?_
          refine st_skip rfl rfl rfl ?_
          refine st_skip rfl rfl rfl ?_
          refine st_skip rfl rfl rfl ?_
          refine st_skip rfl rfl rfl ?_
          refine st_skip rfl rfl rfl ?_
          refine st_put rfl rfl rfl (q_pickT (v := .one (bC true)) rfl rfl) ?_
          refine st_end ?_
          refine E_seq ?_
          refine L_condT rfl ?_
          refine L_seq ?_
          refine L_ops ?_
          refine ol_put rfl rfl rfl (q_build (cs := [iC .i64 0, .p true (Sl.t r33 (⟨false, 0, []⟩ : Sl (Int × Int)))]) ty25 rfl pl25 rfl) ?_
          refine ol_wr rfl rfl (q_store (es' := [[iC .i64 0, .p true (Sl.t r33 (⟨false, 0, []⟩ : Sl (Int × Int)))]]) 2 rfl rfl rfl sz25 rfl rfl rfl rfl rfl) rfl ?_
          refine ol_put rfl rfl rfl (q_assign (v := .one (iC .i64 3)) rfl) ?_
          refine ol_end ?_
          refine E_seq ?_
          refine L_ret ?_
          refine E_blkR ?_
          refine E_seqR ?_
          obtain rfl := Option.some.inj h
          exact E_out (E_up (E_endX (.inr rfl) (res_cell (d := .agg [iC .i64 0, .p true (Sl.t r33 (⟨false, 0, []⟩ : Sl (Int × Int)))]) 2 rfl sz25 rfl rfl rfl rfl (res_tmp rfl res_nil)) (vw_cons (vd_agg (vc_cons vc_v (vc_cons vc_s vc_nil))) (vw_cons (vd_one vc_v) vw_nil)) (fun h hb => own_no2) rfl))
        · replace h := ifF c51 h
          refine st_put rfl rfl rfl (q_bin rfl rfl (p_lss_f _ _ _ _ _ c51) rfl) ?_
          refine st_put rfl rfl rfl (q_move (v := .one (bC false)) rfl) ?_
          refine st_put rfl rfl rfl (q_move (v := .one (.p false (Sl.t r3 s3))) rfl) ?_
          refine st_put rfl rfl rfl (q_move (v := .one (iC .i64 n46)) rfl) ?_
          obtain ⟨n54, h53, h⟩ := bindS h
          obtain ⟨h53a, h53b, h53⟩ := atS_some h53
          refine st_put rfl rfl rfl (q_ixS rfl rfl h53a h53 (el42.trans (congrArg some h53b.symm))) ?_
          refine st_put rfl rfl rfl (q_loadI (v := .one (iC .i64 n54)) rfl sz3 (map_get h53) rfl rfl) ?_
          refine st_put rfl rfl rfl (q_fieldP rfl fa25_0 rfl) ?_
          refine st_put rfl rfl rfl (q_loadP (v := .one (iC .i64 n19)) 0 rfl sz3 rfl rfl rfl rfl) ?_
          by_cases c55 : n54 ≥ n19
          · replace h := ifT c55 h
            refine st_put rfl rfl rfl (q_bin rfl rfl (p_geq_t _ _ _ _ _ c55) rfl) ?_
            refine st_put rfl rfl rfl (q_pickF (v := .one (bC true)) rfl rfl) ?_
            refine st_end ?_
            refine E_seq ?_
            refine L_condT rfl ?_
            refine L_seq ?_
            refine L_ops ?_
            refine ol_put rfl rfl rfl (q_build (cs := [iC .i64 0, .p true (Sl.t r33 (⟨false, 0, []⟩ : Sl (Int × Int)))]) ty25 rfl pl25 rfl) ?_
            refine ol_wr rfl rfl (q_store (es' := [[iC .i64 0, .p true (Sl.t r33 (⟨false, 0, []⟩ : Sl (Int × Int)))]]) 2 rfl rfl rfl sz25 rfl rfl rfl rfl rfl) rfl ?_
            refine ol_put rfl rfl rfl (q_assign (v := .one (iC .i64 3)) rfl) ?_
            refine ol_end ?_
            refine E_seq ?_
            refine L_ret ?_
            refine E_blkR ?_
            refine E_seqR ?_
            obtain rfl := Option.some.inj h
            exact E_out (E_up (E_endX (.inr rfl) (res_cell (d := .agg [iC .i64 0, .p true (Sl.t r33 (⟨false, 0, []⟩ : Sl (Int × Int)))]) 2 rfl sz25 rfl rfl rfl rfl (res_tmp rfl res_nil)) (vw_cons (vd_agg (vc_cons vc_v (vc_cons vc_s vc_nil))) (vw_cons (vd_one vc_v) vw_nil)) (fun h hb => own_no2) rfl))
          · replace h := ifF c55 h
            refine st_put rfl rfl rfl (q_bin rfl rfl (p_geq_f _ _ _ _ _ c55) rfl) ?_
            refine st_put rfl rfl rfl (q_pickF (v := .one (bC false)) rfl rfl) ?_
            refine st_end ?_
            refine E_seq ?_
            refine L_condF rfl ?_
            refine L_skip ?_
            refine E_blkN ?_
            refine E_seq ?_
            refine L_ops ?_
            refine ol_put rfl rfl rfl (q_move (v := .one (iC .i64 n46)) rfl) ?_
            refine ol_put rfl rfl rfl (q_bin rfl rfl (p_add _ _ _ _ _ _ _) rfl) ?_
            refine ol_put rfl rfl rfl (q_assign (v := .one (iC .i64 (IntKind.i64.wrap (n46 + 1)))) rfl) ?_
            refine ol_end ?_
            obtain rfl := Option.some.inj h
            exact E_next () (ups_self ⟨rfl, rfl, rfl, rfl, rfl, trivial⟩) [0, 1, 2] (by decide) rfl
      · replace h := ifF c47 h
        refine ol_put rfl rfl rfl (q_bin rfl rfl (p_lss_f _ _ _ _ _ c47) rfl) ?_
        refine ol_end ?_
        refine E_seq ?_
        refine L_condF rfl ?_
        refine L_exit ?_
        refine E_seqX ?_
        obtain rfl := Option.some.inj h
        refine E_out ?_
        exact (E_exit () (ups_self ⟨rfl, rfl, rfl, rfl, trivial⟩) [0, 1, 2] (by decide) rfl)
    · rintro (_ | u) h
      · refine J_x (fun kt g => ?_)
        replace h := elimL h
        refine E_blkH ?_
        refine E_seq ?_
        refine L_seq ?_
        refine L_ops ?_
        refine ol_put rfl rfl rfl (q_loadP (v := .agg [iC .i64 n19, .p fr21 (Sl.t r33 s20)]) 0 rfl sz25 rfl rfl rfl rfl) ?_
        refine ol_new rfl rfl rfl (q_alloc ty25 (row := [iC .i64 0, .p true (Sl.t r33 (⟨false, 0, []⟩ : Sl (Int × Int)))]) rfl rfl) (fun k56 => ?_)
        refine ol_wr rfl rfl (q_store (es' := [[iC .i64 n19, .p fr21 (Sl.t r33 s20)]]) 0 rfl rfl rfl sz25 rfl rfl rfl rfl rfl) rfl ?_
        refine ol_end ?_
        refine E_seq ?_
        refine L_seq ?_
        refine L_seq ?_
        refine L_ops ?_
        refine ol_put rfl rfl rfl (q_assign (v := .one (iC .i64 0)) rfl) ?_
        refine ol_end ?_
        refine E_seq ?_
        refine L_block ?_
        let S2 : (Int × Int × (Sl (Int × Int))) → Bool → (Nat → D) → Nat → D := fun a kt g => ups g [(1, .one (.p false (Sl.t r3 s3))), (5, .one (.ptr k7 0 0)), (6, .one (.ptr k8 0 0)), (9, .one (.ptr k56 0 0)), (10, .one (iC .i64 a.1))]
        let SL2 : (Int × Int × (Sl (Int × Int))) → Bool → BL := fun a kt => ([[(k7, 2, [[iC .i64 n23, .p fr25 (Sl.t r33 s24)]])], [(k8, 2, [[iC .i64 0, .p true (Sl.t r33 (⟨false, 0, []⟩ : Sl (Int × Int)))]])], [(k56, 2, [[iC .i64 a.2.1, .p kt (Sl.t r33 a.2.2)]])]] : BL)
        let Sx2 : (Int × (Sl (Int × Int))) → Bool → (Nat → D) → Nat → D := fun a kt g => ups g [(6, .one (.ptr k8 0 0)), (9, .one (.ptr k56 0 0))]
        let SLx2 : (Int × (Sl (Int × Int))) → Bool → BL := fun a kt => ([[(k8, 2, [[iC .i64 0, .p true (Sl.t r33 (⟨false, 0, []⟩ : Sl (Int × Int)))]])], [(k56, 2, [[iC .i64 a.1, .p kt (Sl.t r33 a.2)]])]] : BL)
        let G2 : ((Int × (Sl (Int × Int))) × Int) → Ex → St → Prop := fun u => endX E1 [.cell 6 25, .tmp 7] [.agg (r24 u.1), .one (iT .i64 u.2)]
        let J2 : ((Int × (Sl (Int × Int))) ⊕ ((Int × (Sl (Int × Int))) × Int)) → Ex → St → Prop := JX 72 2 Sx2 SLx2 G2
        refine L_loopS (ref12_Assign_b2 s3 n23 s24) S2 SL2 J2 JX_n (0, n19, s20) h fr21 (ups_self ⟨rfl, rfl, rfl, rfl, rfl, trivial⟩) [2, 3, 0] (by decide) rfl ?_ ?_
        · rintro ⟨n121, n122, s123⟩ fr124 g out h
          change ref12_Assign_b2 s3 n23 s24 (n121, n122, s123) = some out at h
          unfold ref12_Assign_b2 at h
          refine L_seq ?_
          refine L_seq ?_
          refine L_ops ?_
          refine ol_put rfl rfl rfl (q_move (v := .one (iC .i64 n121)) rfl) ?_
          refine ol_put rfl rfl rfl (q_move (v := .one (.p false (Sl.t r3 s3))) rfl) ?_
          refine ol_put rfl rfl rfl (q_lenS rfl ty42 rfl rfl rfl rfl) ?_
          by_cases c125 : n121 < ((s3.l.length : Nat) : Int)
          · replace h := ifT c125 h
            refine ol_put rfl rfl rfl (q_bin rfl rfl (p_lss_t _ _ _ _ _ c125) rfl) ?_
            refine ol_end ?_
            refine E_seq ?_
            refine L_condT rfl ?_
            refine L_skip ?_
            refine E_seq ?_
            refine L_seq ?_
            refine L_block ?_
            refine L_seq ?_
            refine L_ops ?_
            refine ol_put rfl rfl rfl (q_loadP (v := .agg [iC .i64 n23, .p fr25 (Sl.t r33 s24)]) 0 rfl sz25 rfl rfl rfl rfl) ?_
            refine ol_put rfl rfl rfl (q_move (v := .one (iC .i64 n121)) rfl) ?_
            obtain ⟨⟨n127, b128⟩, h126, h⟩ := bindS h
            refine ol_put rfl rfl rfl (q_callF (v := .tup [.one (iC .i64 n127), .one (bC b128)]) (args := [.agg [iC .i64 n23, .p fr25 (Sl.t r33 s24)], .one (iC .i64 n121)]) (ref09_Get_r (m + 0) h126) rfl rfl (vw_cons (vd_agg (vc_cons vc_v (vc_cons vc_s vc_nil))) (vw_cons (vd_one vc_v) vw_nil)) rfl rfl) ?_
            refine ol_put rfl rfl rfl (q_move (v := .tup [.one (iC .i64 n127), .one (bC b128)]) rfl) ?_
            refine ol_put rfl rfl rfl (q_ext (v := .one (iC .i64 n127)) rfl rfl) ?_
            refine ol_put rfl rfl rfl (q_ext (v := .one (bC b128)) rfl rfl) ?_
            refine ol_put rfl rfl rfl (q_assign (v := .one (iC .i64 n127)) rfl) ?_
            refine ol_put rfl rfl rfl (q_assign (v := .one (bC b128)) rfl) ?_
            refine ol_end ?_
            refine E_seq ?_
            refine L_seq ?_
            refine L_ops ?_
            refine ol_put rfl rfl rfl (q_move (v := .one (bC b128)) rfl) ?_
            refine ol_end ?_
            refine E_seq ?_
            rcases b128 with _ | _
            · replace h := ifF (by decide) h
              refine L_condF rfl ?_
              refine L_norm (L2 := ([[(k7, 2, [[iC .i64 n23, .p fr25 (Sl.t r33 s24)]])], [(k8, 2, [[iC .i64 0, .p true (Sl.t r33 (⟨false, 0, []⟩ : Sl (Int × Int)))]])], [(k56, 2, [[iC .i64 n122, .p fr124 (Sl.t r33 s123)]])]] : BL)) [0, 1, 2] (by decide) rfl ?_
              refine L_turn 7 rfl [[], [], [], [], [], [], [k56]] [(false, []), (false, []), (false, []), (false, []), (false, []), (false, []), (false, [])] [[1, 2, 3, 4], [0, 2], [0, 1], [0], [0], [], []] (by kernel_rfl) (by kernel_rfl) (by kernel_rfl) ?_ (fun bb129 hlt hnd => ?_)
              · intro bb129 hlt hnd
                have e_k7 : k7 < bb129 := key_lt hlt 0 rfl
                have e_k8 : k8 < bb129 := key_lt hlt 1 rfl
                have e_k56 : k56 < bb129 := key_lt hlt 2 rfl
                have d_k56_k7 : k56 ≠ k7 := key_ne hnd 2 0 rfl rfl rfl
                have d_k56_k8 : k56 ≠ k8 := key_ne hnd 2 1 rfl rfl rfl
                exact ⟨(by first | (simp; done) | (simp; omega) | (simp; assumption) | (simp_all; done) | (simp_all; omega)), (by first | (simp; done) | (simp; omega) | (simp; assumption) | (simp_all; done) | (simp_all; omega))⟩
              have e_k7 : k7 < bb129 := key_lt hlt 0 rfl
              have e_k8 : k8 < bb129 := key_lt hlt 1 rfl
              have e_k56 : k56 < bb129 := key_lt hlt 2 rfl
              have d_k56_k7 : k56 ≠ k7 := key_ne hnd 2 0 rfl rfl rfl
              have d_k56_k8 : k56 ≠ k8 := key_ne hnd 2 1 rfl rfl rfl
              clear hlt hnd
              refine tn_put rfl rfl rfl [2] (by decide) rfl (hm0 rfl) rfl (q_loadP (v := .agg [iC .i64 n122, .p fr124 (Sl.t r33 s123)]) 0 rfl sz25 rfl rfl rfl rfl) ?_
              refine tn_put rfl rfl rfl [] (by decide) rfl (hm0 rfl) rfl (q_move (v := .one (.p false (Sl.t r3 s3))) rfl) ?_
              refine tn_put rfl rfl rfl [] (by decide) rfl (hm0 rfl) rfl (q_move (v := .one (iC .i64 n121)) rfl) ?_
              obtain ⟨n138, h137, h⟩ := bindS h
              obtain ⟨h137a, h137b, h137⟩ := atS_some h137
              refine tn_put rfl rfl rfl [] (by decide) rfl (hm0 rfl) rfl (q_ixS rfl rfl h137a h137 (el42.trans (congrArg some h137b.symm))) ?_
              refine tn_put rfl rfl rfl [] (by decide) rfl (hm0 rfl) rfl (q_loadI (v := .one (iC .i64 n138)) rfl sz3 (map_get h137) rfl rfl) ?_
              obtain ⟨⟨n140, s141⟩, h139, h⟩ := bindS h
              refine tn_put rfl rfl rfl [] (by decide) rfl (hm0 rfl) rfl (q_callF (v := .agg [iC .i64 n140, .p true (Sl.t r33 s141)]) (args := [.agg [iC .i64 n122, .p fr124 (Sl.t r33 s123)], .one (iC .i64 n138)]) (ref09_Drop_r (m + 0) h139) rfl rfl (vw_cons (vd_agg (vc_cons vc_v (vc_cons vc_s vc_nil))) (vw_cons (vd_one vc_v) vw_nil)) rfl rfl) ?_
              refine tn_wr rfl rfl [2] (by decide) rfl (hm0 rfl) rfl (q_store (es' := [[iC .i64 n140, .p true (Sl.t r33 s141)]]) 0 rfl rfl rfl sz25 rfl rfl rfl rfl rfl) (q := 2) rfl rfl ?_
              refine tn_end ?_
              refine E_blkN ?_
              refine E_seq ?_
              refine L_ops ?_
              refine ol_put rfl rfl rfl (q_move (v := .one (iC .i64 n121)) rfl) ?_
              refine ol_put rfl rfl rfl (q_bin rfl rfl (p_add _ _ _ _ _ _ _) rfl) ?_
              refine ol_put rfl rfl rfl (q_assign (v := .one (iC .i64 (IntKind.i64.wrap (n121 + 1)))) rfl) ?_
              refine ol_end ?_
              obtain rfl := Option.some.inj h
              exact E_next true (ups_self ⟨rfl, rfl, rfl, rfl, rfl, trivial⟩) [0, 1, 2] (by decide) rfl
            · replace h := ifT (by decide) h
              refine L_condT rfl ?_
              refine L_norm (L2 := ([[(k7, 2, [[iC .i64 n23, .p fr25 (Sl.t r33 s24)]])], [(k8, 2, [[iC .i64 0, .p true (Sl.t r33 (⟨false, 0, []⟩ : Sl (Int × Int)))]])], [(k56, 2, [[iC .i64 n122, .p fr124 (Sl.t r33 s123)]])]] : BL)) [0, 1, 2] (by decide) rfl ?_
              refine L_turn 8 rfl [[], [], [], [], [], [], [], [k56]] [(false, []), (false, []), (false, []), (false, []), (false, []), (false, []), (false, []), (false, [])] [[1, 2, 3, 4, 5], [0, 2, 5], [0, 1, 5], [0, 5], [0, 5], [0, 1, 2, 3, 4], [], []] (by kernel_rfl) (by kernel_rfl) (by kernel_rfl) ?_ (fun bb142 hlt hnd => ?_)
              · intro bb142 hlt hnd
                have e_k7 : k7 < bb142 := key_lt hlt 0 rfl
                have e_k8 : k8 < bb142 := key_lt hlt 1 rfl
                have e_k56 : k56 < bb142 := key_lt hlt 2 rfl
                have d_k56_k7 : k56 ≠ k7 := key_ne hnd 2 0 rfl rfl rfl
                have d_k56_k8 : k56 ≠ k8 := key_ne hnd 2 1 rfl rfl rfl
                exact ⟨(by first | (simp; done) | (simp; omega) | (simp; assumption) | (simp_all; done) | (simp_all; omega)), (by first | (simp; done) | (simp; omega) | (simp; assumption) | (simp_all; done) | (simp_all; omega))⟩
              have e_k7 : k7 < bb142 := key_lt hlt 0 rfl
              have e_k8 : k8 < bb142 := key_lt hlt 1 rfl
              have e_k56 : k56 < bb142 := key_lt hlt 2 rfl
              have d_k56_k7 : k56 ≠ k7 := key_ne hnd 2 0 rfl rfl rfl
              have d_k56_k8 : k56 ≠ k8 := key_ne hnd 2 1 rfl rfl rfl
              clear hlt hnd
              refine tn_put rfl rfl rfl [2] (by decide) rfl (hm0 rfl) rfl (q_loadP (v := .agg [iC .i64 n122, .p fr124 (Sl.t r33 s123)]) 0 rfl sz25 rfl rfl rfl rfl) ?_
              refine tn_put rfl rfl rfl [] (by decide) rfl (hm0 rfl) rfl (q_move (v := .one (.p false (Sl.t r3 s3))) rfl) ?_
              refine tn_put rfl rfl rfl [] (by decide) rfl (hm0 rfl) rfl (q_move (v := .one (iC .i64 n121)) rfl) ?_
              obtain ⟨n151, h150, h⟩ := bindS h
              obtain ⟨h150a, h150b, h150⟩ := atS_some h150
              refine tn_put rfl rfl rfl [] (by decide) rfl (hm0 rfl) rfl (q_ixS rfl rfl h150a h150 (el42.trans (congrArg some h150b.symm))) ?_
              refine tn_put rfl rfl rfl [] (by decide) rfl (hm0 rfl) rfl (q_loadI (v := .one (iC .i64 n151)) rfl sz3 (map_get h150) rfl rfl) ?_
              refine tn_put rfl rfl rfl [] (by decide) rfl (hm0 rfl) rfl (q_move (v := .one (iC .i64 n127)) rfl) ?_
              obtain ⟨⟨n153, s154⟩, h152, h⟩ := bindS h
              refine tn_put rfl rfl rfl [] (by decide) rfl (hm0 rfl) rfl (q_callF (v := .agg [iC .i64 n153, .p true (Sl.t r33 s154)]) (args := [.agg [iC .i64 n122, .p fr124 (Sl.t r33 s123)], .one (iC .i64 n151), .one (iC .i64 n127)]) (ref09_Put_r (m + 0) h152) rfl rfl (vw_cons (vd_agg (vc_cons vc_v (vc_cons vc_s vc_nil))) (vw_cons (vd_one vc_v) (vw_cons (vd_one vc_v) vw_nil))) rfl rfl) ?_
              refine tn_wr rfl rfl [2] (by decide) rfl (hm0 rfl) rfl (q_store (es' := [[iC .i64 n153, .p true (Sl.t r33 s154)]]) 0 rfl rfl rfl sz25 rfl rfl rfl rfl rfl) (q := 2) rfl rfl ?_
              refine tn_end ?_
              refine E_blkN ?_
              refine E_seq ?_
              refine L_ops ?_
              refine ol_put rfl rfl rfl (q_move (v := .one (iC .i64 n121)) rfl) ?_
              refine ol_put rfl rfl rfl (q_bin rfl rfl (p_add _ _ _ _ _ _ _) rfl) ?_
              refine ol_put rfl rfl rfl (q_assign (v := .one (iC .i64 (IntKind.i64.wrap (n121 + 1)))) rfl) ?_
              refine ol_end ?_
              obtain rfl := Option.some.inj h
              exact E_next true (ups_self ⟨rfl, rfl, rfl, rfl, rfl, trivial⟩) [0, 1, 2] (by decide) rfl
          · replace h := ifF c125 h
            refine ol_put rfl rfl rfl (q_bin rfl rfl (p_lss_f _ _ _ _ _ c125) rfl) ?_
            refine ol_end ?_
            refine E_seq ?_
            refine L_condF rfl ?_
            refine L_exit ?_
            refine E_seqX ?_
            obtain rfl := Option.some.inj h
            refine E_out ?_
            exact (E_exit fr124 (ups_self ⟨rfl, rfl, trivial⟩) [1, 2] (by decide) rfl)
        · rintro (⟨n155, s156⟩ | u) h
          · refine J_x (fun fr157 g => ?_)
            replace h := elimL h
            refine E_blkH ?_
            refine E_seq ?_
            refine L_seq ?_
            refine L_ops ?_
            refine ol_put rfl rfl rfl (q_loadP (v := .agg [iC .i64 n155, .p fr157 (Sl.t r33 s156)]) 1 rfl sz25 rfl rfl rfl rfl) ?_
            refine ol_wr rfl rfl (q_store (es' := [[iC .i64 n155, .p fr157 (Sl.t r33 s156)]]) 0 rfl rfl rfl sz25 rfl rfl rfl rfl rfl) rfl ?_
            refine ol_put rfl rfl rfl (q_assign (v := .one (iC .i64 0)) rfl) ?_
            refine ol_end ?_
            refine E_seq ?_
            refine L_ret ?_
            obtain rfl := Option.some.inj h
            exact E_endX (.inr rfl) (res_cell (d := .agg [iC .i64 n155, .p fr157 (Sl.t r33 s156)]) 0 rfl sz25 rfl rfl rfl rfl (res_tmp rfl res_nil)) (vw_cons (vd_agg (vc_cons vc_v (vc_cons vc_s vc_nil))) (vw_cons (vd_one vc_v) vw_nil)) (fun h hb => own_no2) rfl
          · obtain rfl := Option.some.inj (elimR h)
            exact J_up (fun s hs => hs)
      · obtain rfl := Option.some.inj (elimR h)
        exact J_up (fun s hs => hs)
end Ev
end Go.Proofs.Ytioagbejilllfaa
