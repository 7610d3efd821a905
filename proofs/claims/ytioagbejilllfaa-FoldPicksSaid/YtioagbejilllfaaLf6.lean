/- Functions of the program as functions on data, and that they are. -/
import Derived.Test.YtioagbejilllfaaLf1
import Derived.Test.YtioagbejilllfaaLy1
namespace Go.Proofs.Ytioagbejilllfaa
namespace Ev
open Go
set_option linter.unusedVariables false
set_option linter.unusedSimpArgs false
set_option maxRecDepth 100000
set_option maxHeartbeats 1000000
attribute [local irreducible] OpsL StL TnL WpL EndL
noncomputable def ref09_Put_b1 (n3 : Int) (s9 : Sl (Int × Int)) (a : Int × (List (Int × Int))) : Option ((Int × (List (Int × Int))) ⊕ ((List (Int × Int)) ⊕ (Int × (Sl (Int × Int))))) :=
  match a with
  | (n52, l53) => (if n52 < ((s9.l.length : Nat) : Int) then ((atS 2 s9 n52).bind fun (n60, n61) => (if n60 ≠ n3 then ((atS 2 s9 n52).bind fun (n71, n72) => ((app l53 ([(n71, n72)] : List (Int × Int))).bind fun _ => some (.inl ((IntKind.i64.wrap (n52 + 1)), (l53 ++ ([(n71, n72)] : List (Int × Int))))))) else some (.inl ((IntKind.i64.wrap (n52 + 1)), l53)))) else some (.inr (.inl l53)))
noncomputable def ref09_Put_b2 (n3 : Int) (s9 : Sl (Int × Int)) (a : Int × (List (Int × Int))) : Option ((Int × (List (Int × Int))) ⊕ ((List (Int × Int)) ⊕ (Int × (Sl (Int × Int))))) :=
  match a with
  | (n118, l119) => (if n118 < ((s9.l.length : Nat) : Int) then ((atS 2 s9 n118).bind fun (n126, n127) => (if n126 ≠ n3 then ((atS 2 s9 n118).bind fun (n137, n138) => ((app l119 ([(n137, n138)] : List (Int × Int))).bind fun _ => some (.inl ((IntKind.i64.wrap (n118 + 1)), (l119 ++ ([(n137, n138)] : List (Int × Int))))))) else some (.inl ((IntKind.i64.wrap (n118 + 1)), l119)))) else some (.inr (.inl l119)))
noncomputable def ref09_Put_b3 (n3 : Int) (n4 : Int) (s9 : Sl (Int × Int)) (a : Bool × Int × (List (Int × Int))) : Option ((Bool × Int × (List (Int × Int))) ⊕ ((Bool × (List (Int × Int))) ⊕ (Int × (Sl (Int × Int))))) :=
  match a with
  | (b248, n249, l250) => (if n249 < ((s9.l.length : Nat) : Int) then (if b248 = true then ((atS 2 s9 n249).bind fun (n297, n298) => (if n297 ≠ n3 then ((atS 2 s9 n249).bind fun (n308, n309) => ((app l250 ([(n308, n309)] : List (Int × Int))).bind fun _ => some (.inl (true, (IntKind.i64.wrap (n249 + 1)), (l250 ++ ([(n308, n309)] : List (Int × Int))))))) else some (.inl (true, (IntKind.i64.wrap (n249 + 1)), l250)))) else ((atS 2 s9 n249).bind fun (n257, n258) => (if n257 ≥ n3 then ((app l250 ([(n3, n4)] : List (Int × Int))).bind fun _ => ((atS 2 s9 n249).bind fun (n265, n266) => (if n265 ≠ n3 then ((atS 2 s9 n249).bind fun (n276, n277) => ((app (l250 ++ ([(n3, n4)] : List (Int × Int))) ([(n276, n277)] : List (Int × Int))).bind fun _ => some (.inl (true, (IntKind.i64.wrap (n249 + 1)), ((l250 ++ ([(n3, n4)] : List (Int × Int))) ++ ([(n276, n277)] : List (Int × Int))))))) else some (.inl (true, (IntKind.i64.wrap (n249 + 1)), (l250 ++ ([(n3, n4)] : List (Int × Int)))))))) else ((atS 2 s9 n249).bind fun (n281, n282) => (if n281 ≠ n3 then ((atS 2 s9 n249).bind fun (n292, n293) => ((app l250 ([(n292, n293)] : List (Int × Int))).bind fun _ => some (.inl (false, (IntKind.i64.wrap (n249 + 1)), (l250 ++ ([(n292, n293)] : List (Int × Int))))))) else some (.inl (false, (IntKind.i64.wrap (n249 + 1)), l250))))))) else some (.inr (.inl (b248, l250))))
noncomputable def ref09_Put (a0 : Int × (Sl (Int × Int))) (n3 : Int) (n4 : Int) : Option ((Int × (Sl (Int × Int)))) :=
  match a0 with
  | (n1, s2) => ((ref09_Sure (n1, s2)).bind fun (n8, s9) => (if n3 < 0 then ((loopO (ref09_Put_b1 n3 s9) (0, ([] : List (Int × Int)))).bind (Sum.elim (fun l74 => some (n8, (mo 2 l74))) (fun u => some u))) else (if n3 ≥ n8 then ((loopO (ref09_Put_b2 n3 s9) (0, ([] : List (Int × Int)))).bind (Sum.elim (fun l140 => some (n8, (mo 2 l140))) (fun u => some u))) else ((loopO (ref09_Put_b3 n3 n4 s9) (false, 0, ([] : List (Int × Int)))).bind (Sum.elim (fun ⟨b311, l312⟩ => (if b311 = true then some (n8, (mo 2 l312)) else ((app l312 ([(n3, n4)] : List (Int × Int))).bind fun _ => some (n8, (mo 2 (l312 ++ ([(n3, n4)] : List (Int × Int)))))))) (fun u => some u))))))
theorem ref09_Put_r (m : Nat) {a0 : Int × (Sl (Int × Int))} {n3 : Int} {n4 : Int} {out : (Int × (Sl (Int × Int)))} (h : ref09_Put a0 n3 n4 = some out) : RunsP E1 (m + 3) 51 [.agg (r24 a0), .one (iT .i64 n3), .one (iT .i64 n4)] (.fresh, [.agg (r24 out)]) := by
  obtain ⟨n1, s2⟩ := a0
  refine fn_F rfl (by rw [E1_fn]; exact show fiOf Try.prog 51 = _ by unfold fiOf; rw [Try.func51]; unfold Try.f51; rfl) rfl ?_
  dsimp only
  unfold ref09_Put at h
  refine L_seq ?_
  refine L_ops ?_
  refine ol_new rfl rfl rfl (q_box ty25 rfl (cs := [iC .i64 n1, .p false (Sl.t r33 s2)]) rfl rfl) (fun k5 => ?_)
  refine ol_new rfl rfl rfl (q_alloc ty25 (row := [iC .i64 0, .p true (Sl.t r33 (⟨false, 0, []⟩ : Sl (Int × Int)))]) rfl rfl) (fun k6 => ?_)
  refine ol_end ?_
  refine E_seq ?_
  refine L_seq ?_
  refine L_ops ?_
  refine ol_put rfl rfl rfl (q_loadP (v := .agg [iC .i64 n1, .p false (Sl.t r33 s2)]) 1 rfl sz25 rfl rfl rfl rfl) ?_
  obtain ⟨⟨n8, s9⟩, h7, h⟩ := bindS h
  refine ol_putX rfl rfl rfl (q_callX (v := fun fr10 => .agg [iC .i64 n8, .p fr10 (Sl.t r33 s9)]) (args := [.agg [iC .i64 n1, .p false (Sl.t r33 s2)]]) (ref09_Sure_r (m + 0) h7) rfl rfl (vw_cons (vd_agg (vc_cons vc_v (vc_cons vc_s vc_nil))) vw_nil) rfl rfl (fun fr => rfl)) (fun fr10 => ?_)
  refine ol_wr rfl rfl (q_store (es' := [[iC .i64 n8, .p fr10 (Sl.t r33 s9)]]) 1 rfl rfl rfl sz25 rfl rfl rfl rfl rfl) rfl ?_
  refine ol_end ?_
  refine E_seq ?_
  refine L_seq ?_
  refine L_ops ?_
  refine ol_put rfl rfl rfl (q_fieldP rfl fa25_0 rfl) ?_
  refine ol_put rfl rfl rfl (q_loadP (v := .one (iC .i64 n8)) 1 rfl sz3 rfl rfl rfl rfl) ?_
  refine ol_put rfl rfl rfl (q_build (cs := [iC .i64 n8, .p true (Sl.t r33 (⟨false, 0, []⟩ : Sl (Int × Int)))]) ty25 rfl pl25 rfl) ?_
  refine ol_new rfl rfl rfl (q_alloc ty25 (row := [iC .i64 0, .p true (Sl.t r33 (⟨false, 0, []⟩ : Sl (Int × Int)))]) rfl rfl) (fun k11 => ?_)
  refine ol_wr rfl rfl (q_store (es' := [[iC .i64 n8, .p true (Sl.t r33 (⟨false, 0, []⟩ : Sl (Int × Int)))]]) 0 rfl rfl rfl sz25 rfl rfl rfl rfl rfl) rfl ?_
  refine ol_end ?_
  refine E_seq ?_
  refine L_seq ?_
  refine L_ops ?_
  refine ol_put rfl rfl rfl (q_move (v := .one (iC .i64 n3)) rfl) ?_
  by_cases c12 : n3 < 0
  · replace h := ifT c12 h
    refine ol_put rfl rfl rfl (q_bin rfl rfl (p_lss_t _ _ _ _ _ c12) rfl) ?_
    refine ol_put rfl rfl rfl (q_move (v := .one (bC true)) rfl) ?_
    refine ol_skip rfl rfl rfl ?_
    refine ol_skip rfl rfl rfl ?_
    refine ol_skip rfl rfl rfl ?_
    refine ol_skip rfl rfl rfl ?_
    refine ol_put rfl rfl rfl (q_pickT (v := .one (bC true)) rfl rfl) ?_
    refine ol_put rfl rfl rfl (q_assign (v := .one (bC true)) rfl) ?_
    refine ol_end ?_
    refine E_seq ?_
    refine L_seq ?_
    refine L_seq ?_
    refine L_ops ?_
    refine ol_put rfl rfl rfl (q_assign (v := .one (iC .i64 0)) rfl) ?_
    refine ol_end ?_
    refine E_seq ?_
    refine L_block ?_
    let S1 : (Int × (List (Int × Int))) → Nat → (Nat → D) → Nat → D := fun a kt g => ups g [(1, .one (iC .i64 n3)), (2, .one (iC .i64 n4)), (3, .one (.ptr k5 0 0)), (6, .one (.ptr k6 0 0)), (7, .one (.ptr k11 0 0)), (8, .one (bC true)), (9, .one (iC .i64 a.1))]
    let SL1 : (Int × (List (Int × Int))) → Nat → BL := fun a kt => ([(k5, 2, [[iC .i64 n8, .p fr10 (Sl.t r33 s9)]]), (k6, 2, [[iC .i64 0, .p true (Sl.t r33 (⟨false, 0, []⟩ : Sl (Int × Int)))]]), (k11, 2, [[iC .i64 n8, moC a.2 kt]])] ++ moL r33 2 a.2 kt : BL)
    let Sx1 : (List (Int × Int)) → Nat → (Nat → D) → Nat → D := fun a kt g => ups g [(1, .one (iC .i64 n3)), (2, .one (iC .i64 n4)), (6, .one (.ptr k6 0 0)), (7, .one (.ptr k11 0 0)), (8, .one (bC true))]
    let SLx1 : (List (Int × Int)) → Nat → BL := fun a kt => ([(k6, 2, [[iC .i64 0, .p true (Sl.t r33 (⟨false, 0, []⟩ : Sl (Int × Int)))]]), (k11, 2, [[iC .i64 n8, moC a kt]])] ++ moL r33 2 a kt : BL)
    let G1 : (Int × (Sl (Int × Int))) → Ex → St → Prop := fun u => endQ E1 [.cell 6 25] (.fresh, [.agg (r24 u)])
    let J1 : ((List (Int × Int)) ⊕ (Int × (Sl (Int × Int)))) → Ex → St → Prop := JX 79 0 Sx1 SLx1 G1
    refine L_loopS (ref09_Put_b1 n3 s9) S1 SL1 J1 JX_n (0, ([] : List (Int × Int))) h 0 (ups_self ⟨rfl, rfl, rfl, rfl, rfl, rfl, rfl, trivial⟩) [2, 1, 0] (by decide) rfl ?_ ?_
    · rintro ⟨n52, l53⟩ k54 g out h
      change ref09_Put_b1 n3 s9 (n52, l53) = some out at h
      unfold ref09_Put_b1 at h
      rcases l53 with _ | ⟨y55, t56⟩
      · skip
        refine L_seq ?_
        refine L_seq ?_
        refine L_ops ?_
        refine ol_put rfl rfl rfl (q_move (v := .one (iC .i64 n52)) rfl) ?_
        refine ol_put rfl rfl rfl (q_fieldP rfl fa25_1 rfl) ?_
        refine ol_put rfl rfl rfl (q_loadP (v := .one (.p fr10 (Sl.t r33 s9))) 0 rfl sz23 rfl rfl rfl rfl) ?_
        refine ol_put rfl rfl rfl (q_lenS rfl ty23 rfl rfl rfl rfl) ?_
        by_cases c57 : n52 < ((s9.l.length : Nat) : Int)
        · replace h := ifT c57 h
          refine ol_put rfl rfl rfl (q_bin rfl rfl (p_lss_t _ _ _ _ _ c57) rfl) ?_
          refine ol_end ?_
          refine E_seq ?_
          refine L_condT rfl ?_
          refine L_skip ?_
          refine E_seq ?_
          refine L_seq ?_
          refine L_block ?_
          refine L_seq ?_
          refine L_seq ?_
          refine L_ops ?_
          refine ol_put rfl rfl rfl (q_move (v := .one (bC true)) rfl) ?_
          refine ol_put rfl rfl rfl (q_not rfl) ?_
          refine ol_put rfl rfl rfl (q_move (v := .one (bC false)) rfl) ?_
          refine ol_skip rfl rfl rfl ?_
          refine ol_skip rfl rfl rfl ?_
          refine ol_skip rfl rfl rfl ?_
          refine ol_skip rfl rfl rfl ?_
          refine ol_skip rfl rfl rfl ?_
          refine ol_skip rfl rfl rfl ?_
          refine ol_skip rfl rfl rfl ?_
          refine ol_skip rfl rfl rfl ?_
          refine ol_put rfl rfl rfl (q_pickF (v := .one (bC false)) rfl rfl) ?_
          refine ol_end ?_
          refine E_seq ?_
          refine L_condF rfl ?_
          refine L_skip ?_
          refine E_seq ?_
          refine L_seq ?_
          refine L_ops ?_
          refine ol_put rfl rfl rfl (q_fieldP rfl fa25_1 rfl) ?_
          refine ol_put rfl rfl rfl (q_loadP (v := .one (.p fr10 (Sl.t r33 s9))) 0 rfl sz23 rfl rfl rfl rfl) ?_
          refine ol_put rfl rfl rfl (q_move (v := .one (iC .i64 n52)) rfl) ?_
          obtain ⟨⟨n60, n61⟩, h59, h⟩ := bindS h
          obtain ⟨h59a, h59b, h59⟩ := atS_some h59
          refine ol_put rfl rfl rfl (q_ixS rfl rfl h59a h59 (el23.trans (congrArg some h59b.symm))) ?_
          refine ol_put rfl rfl rfl (q_fieldI rfl fa34_0 rfl) ?_
          refine ol_put rfl rfl rfl (q_loadI (v := .one (iC .i64 n60)) rfl sz3 (map_get h59) rfl rfl) ?_
          refine ol_put rfl rfl rfl (q_move (v := .one (iC .i64 n3)) rfl) ?_
          by_cases c62 : n60 ≠ n3
          · replace h := ifT c62 h
            refine ol_put rfl rfl rfl (q_bin rfl rfl (p_neq_t _ _ _ _ _ c62) rfl) ?_
            refine ol_end ?_
            refine E_seq ?_
            refine L_condT rfl ?_
            refine L_norm (L2 := ([(k5, 2, [[iC .i64 n8, .p fr10 (Sl.t r33 s9)]]), (k6, 2, [[iC .i64 0, .p true (Sl.t r33 (⟨false, 0, []⟩ : Sl (Int × Int)))]]), (k11, 2, [[iC .i64 n8, .p true (Sl.t r33 (mo 2 ([] : List (Int × Int))))]])] : BL)) [0, 1, 2] (by decide) rfl ?_
            refine L_turn 11 rfl [[], [], [], [], [], [], [], [], [], [], [k11]] [false, false, false, false, false, false, false, true, true, false, false] [[2, 3, 4, 5, 6, 7], [2, 3, 4, 5, 6, 7], [0, 1, 4], [0, 1, 4], [0, 1, 2, 3], [0, 1], [0, 1], [0, 1], [], [], []] (by kernel_rfl) (by kernel_rfl) ?_ (fun bb63 hlt hnd => ?_)
            · intro bb63 hlt hnd
              have e0_bb63 : k5 < bb63 := key_lt hlt 0 rfl
              have e1_bb63 : k6 < bb63 := key_lt hlt 1 rfl
              have e2_bb63 : k11 < bb63 := key_lt hlt 2 rfl
              have d2_0_bb63 : k11 ≠ k5 := key_ne hnd 2 0 rfl rfl rfl
              have d2_1_bb63 : k11 ≠ k6 := key_ne hnd 2 1 rfl rfl rfl
              exact ⟨by simp <;> omega, by simp <;> omega⟩
            have e0_bb63 : k5 < bb63 := key_lt hlt 0 rfl
            have e1_bb63 : k6 < bb63 := key_lt hlt 1 rfl
            have e2_bb63 : k11 < bb63 := key_lt hlt 2 rfl
            have d2_0_bb63 : k11 ≠ k5 := key_ne hnd 2 0 rfl rfl rfl
            have d2_1_bb63 : k11 ≠ k6 := key_ne hnd 2 1 rfl rfl rfl
            clear hlt hnd
            refine tn_put rfl rfl rfl [0, 1, 2] (by decide) rfl (hmc (by simp [turnsOf] <;> omega) (hmc (by simp [turnsOf] <;> omega) (hmc (by simp [turnsOf] <;> omega) hmn))) rfl (q_fieldP rfl fa25_1 rfl) ?_
            refine tn_put rfl rfl rfl [0, 1, 2] (by decide) rfl (hmc (by simp [turnsOf] <;> omega) (hmc (by simp [turnsOf] <;> omega) (hmc (by simp [turnsOf] <;> omega) hmn))) rfl (q_loadP (v := .one (.p true (Sl.t r33 (mo 2 ([] : List (Int × Int)))))) 2 rfl sz23 rfl rfl rfl rfl) ?_
            refine tn_put rfl rfl rfl [0, 1, 2] (by decide) rfl (hm0 rfl) rfl (q_fieldP rfl fa25_1 rfl) ?_
            refine tn_put rfl rfl rfl [0, 1, 2] (by decide) rfl (hm0 rfl) rfl (q_loadP (v := .one (.p fr10 (Sl.t r33 s9))) 0 rfl sz23 rfl rfl rfl rfl) ?_
            refine tn_put rfl rfl rfl [0, 1, 2] (by decide) rfl (hm0 rfl) rfl (q_move (v := .one (iC .i64 n52)) rfl) ?_
            obtain ⟨⟨n71, n72⟩, h70, h⟩ := bindS h
            obtain ⟨h70a, h70b, h70⟩ := atS_some h70
            refine tn_put rfl rfl rfl [0, 1, 2] (by decide) rfl (hm0 rfl) rfl (q_ixS rfl rfl h70a h70 (el23.trans (congrArg some h70b.symm))) ?_
            refine tn_put rfl rfl rfl [0, 1, 2] (by decide) rfl (hm0 rfl) rfl (q_loadI (v := .agg [iC .i64 n71, iC .i64 n72]) rfl sz34 (map_get h70) rfl rfl) ?_
            refine tn_new rfl rfl rfl [0, 1, 2] (by decide) rfl (hm0 rfl) rfl rfl (hkc (by omega) (hkc (by omega) (hkc (by omega) hkn))) (q_bslice (cs := [iC .i64 n71, iC .i64 n72]) (es := (([(n71, n72)] : List (Int × Int))).map (rowC r33)) ty23 rfl ty34 rfl rfl rfl rfl rfl) ?_
            obtain ⟨_, h73, h⟩ := bindS h
            obtain ⟨h73b, rfl⟩ := app_some h73
            refine tn_new rfl rfl rfl [0, 1, 2, 3] (by decide) rfl (hm0 rfl) rfl rfl (hkc (by omega) (hkc (by omega) (hkc (by omega) (hkc (by omega) hkn)))) (q_app0 (xs := ((([] : List (Int × Int)) ++ ([(n71, n72)] : List (Int × Int)))).map (rowC r33)) rfl rfl (el_ownM 0 rfl) ⟨_, _, rfl⟩ (by simp [bound]) rfl el23 ty23 rfl rfl rfl rfl rfl) ?_
            refine tn_put rfl rfl rfl [0, 1, 2, 3, 4] (by decide) rfl (hm0 rfl) rfl (q_fieldP rfl fa25_1 rfl) ?_
            refine tn_wr rfl rfl [0, 1, 2, 3, 4] (by decide) rfl (hm0 rfl) rfl (q_store (es' := [[iC .i64 n8, .own (bb63 + 8) 0 ((([] : List (Int × Int)) ++ ([(n71, n72)] : List (Int × Int)))).length]]) 4 rfl rfl rfl sz23 rfl rfl rfl rfl rfl) (q := 4) rfl rfl ?_
            refine tn_end ?_
            refine E_blkN ?_
            refine E_seq ?_
            refine L_ops ?_
            refine ol_put rfl rfl rfl (q_move (v := .one (iC .i64 n52)) rfl) ?_
            refine ol_put rfl rfl rfl (q_bin rfl rfl (p_add _ _ _ _ _ _ _) rfl) ?_
            refine ol_put rfl rfl rfl (q_assign (v := .one (iC .i64 (IntKind.i64.wrap (n52 + 1)))) rfl) ?_
            refine ol_end ?_
            obtain rfl := Option.some.inj h
            exact E_next (bb63 + 8) (ups_self ⟨rfl, rfl, rfl, rfl, rfl, rfl, rfl, trivial⟩) [2, 3, 4, 0] (by decide) rfl
          · replace h := ifF c62 h
            refine ol_put rfl rfl rfl (q_bin rfl rfl (p_neq_f _ _ _ _ _ c62) rfl) ?_
            refine ol_end ?_
            refine E_seq ?_
            refine L_condF rfl ?_
            refine L_skip ?_
            refine E_blkN ?_
            refine E_seq ?_
            refine L_ops ?_
            refine ol_put rfl rfl rfl (q_move (v := .one (iC .i64 n52)) rfl) ?_
            refine ol_put rfl rfl rfl (q_bin rfl rfl (p_add _ _ _ _ _ _ _) rfl) ?_
            refine ol_put rfl rfl rfl (q_assign (v := .one (iC .i64 (IntKind.i64.wrap (n52 + 1)))) rfl) ?_
            refine ol_end ?_
            obtain rfl := Option.some.inj h
            exact E_next 0 (ups_self ⟨rfl, rfl, rfl, rfl, rfl, rfl, rfl, trivial⟩) [0, 1, 2] (by decide) rfl
        · replace h := ifF c57 h
          refine ol_put rfl rfl rfl (q_bin rfl rfl (p_lss_f _ _ _ _ _ c57) rfl) ?_
          refine ol_end ?_
          refine E_seq ?_
          refine L_condF rfl ?_
          refine L_exit ?_
          refine E_seqX ?_
          obtain rfl := Option.some.inj h
          exact E_out (E_exit 0 (ups_self ⟨rfl, rfl, rfl, rfl, rfl, trivial⟩) [1, 2] (by decide) rfl)
      · skip
        refine L_seq ?_
        refine L_seq ?_
        refine L_ops ?_
        refine ol_put rfl rfl rfl (q_move (v := .one (iC .i64 n52)) rfl) ?_
        refine ol_put rfl rfl rfl (q_fieldP rfl fa25_1 rfl) ?_
        refine ol_put rfl rfl rfl (q_loadP (v := .one (.p fr10 (Sl.t r33 s9))) 0 rfl sz23 rfl rfl rfl rfl) ?_
        refine ol_put rfl rfl rfl (q_lenS rfl ty23 rfl rfl rfl rfl) ?_
        by_cases c57 : n52 < ((s9.l.length : Nat) : Int)
        · replace h := ifT c57 h
          refine ol_put rfl rfl rfl (q_bin rfl rfl (p_lss_t _ _ _ _ _ c57) rfl) ?_
          refine ol_end ?_
          refine E_seq ?_
          refine L_condT rfl ?_
          refine L_skip ?_
          refine E_seq ?_
          refine L_seq ?_
          refine L_block ?_
          refine L_seq ?_
          refine L_seq ?_
          refine L_ops ?_
          refine ol_put rfl rfl rfl (q_move (v := .one (bC true)) rfl) ?_
          refine ol_put rfl rfl rfl (q_not rfl) ?_
          refine ol_put rfl rfl rfl (q_move (v := .one (bC false)) rfl) ?_
          refine ol_skip rfl rfl rfl ?_
          refine ol_skip rfl rfl rfl ?_
          refine ol_skip rfl rfl rfl ?_
          refine ol_skip rfl rfl rfl ?_
          refine ol_skip rfl rfl rfl ?_
          refine ol_skip rfl rfl rfl ?_
          refine ol_skip rfl rfl rfl ?_
          refine ol_skip rfl rfl rfl ?_
          refine ol_put rfl rfl rfl (q_pickF (v := .one (bC false)) rfl rfl) ?_
          refine ol_end ?_
          refine E_seq ?_
          refine L_condF rfl ?_
          refine L_skip ?_
          refine E_seq ?_
          refine L_seq ?_
          refine L_ops ?_
          refine ol_put rfl rfl rfl (q_fieldP rfl fa25_1 rfl) ?_
          refine ol_put rfl rfl rfl (q_loadP (v := .one (.p fr10 (Sl.t r33 s9))) 0 rfl sz23 rfl rfl rfl rfl) ?_
          refine ol_put rfl rfl rfl (q_move (v := .one (iC .i64 n52)) rfl) ?_
          obtain ⟨⟨n60, n61⟩, h59, h⟩ := bindS h
          obtain ⟨h59a, h59b, h59⟩ := atS_some h59
          refine ol_put rfl rfl rfl (q_ixS rfl rfl h59a h59 (el23.trans (congrArg some h59b.symm))) ?_
          refine ol_put rfl rfl rfl (q_fieldI rfl fa34_0 rfl) ?_
          refine ol_put rfl rfl rfl (q_loadI (v := .one (iC .i64 n60)) rfl sz3 (map_get h59) rfl rfl) ?_
          refine ol_put rfl rfl rfl (q_move (v := .one (iC .i64 n3)) rfl) ?_
          by_cases c62 : n60 ≠ n3
          · replace h := ifT c62 h
            refine ol_put rfl rfl rfl (q_bin rfl rfl (p_neq_t _ _ _ _ _ c62) rfl) ?_
            refine ol_end ?_
            refine E_seq ?_
            refine L_condT rfl ?_
            refine L_norm (L2 := ([(k5, 2, [[iC .i64 n8, .p fr10 (Sl.t r33 s9)]]), (k6, 2, [[iC .i64 0, .p true (Sl.t r33 (⟨false, 0, []⟩ : Sl (Int × Int)))]]), (k11, 2, [[iC .i64 n8, .own k54 0 ((y55 :: t56)).length]]), (k54, 2, ((y55 :: t56)).map (rowC r33))] : BL)) [0, 1, 2, 3] (by decide) rfl ?_
            refine L_turn 11 rfl [[], [], [], [], [], [], [], [], [k54], [], [k11]] [false, false, false, false, false, false, false, true, true, false, false] [[2, 3, 4, 5, 6, 7], [2, 3, 4, 5, 6, 7], [0, 1, 4], [0, 1, 4], [0, 1, 2, 3], [0, 1], [0, 1], [0, 1], [], [], []] (by kernel_rfl) (by kernel_rfl) ?_ (fun bb63 hlt hnd => ?_)
            · intro bb63 hlt hnd
              have e0_bb63 : k5 < bb63 := key_lt hlt 0 rfl
              have e1_bb63 : k6 < bb63 := key_lt hlt 1 rfl
              have e2_bb63 : k11 < bb63 := key_lt hlt 2 rfl
              have e3_bb63 : k54 < bb63 := key_lt hlt 3 rfl
              have d2_0_bb63 : k11 ≠ k5 := key_ne hnd 2 0 rfl rfl rfl
              have d2_1_bb63 : k11 ≠ k6 := key_ne hnd 2 1 rfl rfl rfl
              have d2_3_bb63 : k11 ≠ k54 := key_ne hnd 2 3 rfl rfl rfl
              have d3_0_bb63 : k54 ≠ k5 := key_ne hnd 3 0 rfl rfl rfl
              have d3_1_bb63 : k54 ≠ k6 := key_ne hnd 3 1 rfl rfl rfl
              have d3_2_bb63 : k54 ≠ k11 := key_ne hnd 3 2 rfl rfl rfl
              exact ⟨by simp <;> omega, by simp <;> omega⟩
            have e0_bb63 : k5 < bb63 := key_lt hlt 0 rfl
            have e1_bb63 : k6 < bb63 := key_lt hlt 1 rfl
            have e2_bb63 : k11 < bb63 := key_lt hlt 2 rfl
            have e3_bb63 : k54 < bb63 := key_lt hlt 3 rfl
            have d2_0_bb63 : k11 ≠ k5 := key_ne hnd 2 0 rfl rfl rfl
            have d2_1_bb63 : k11 ≠ k6 := key_ne hnd 2 1 rfl rfl rfl
            have d2_3_bb63 : k11 ≠ k54 := key_ne hnd 2 3 rfl rfl rfl
            have d3_0_bb63 : k54 ≠ k5 := key_ne hnd 3 0 rfl rfl rfl
            have d3_1_bb63 : k54 ≠ k6 := key_ne hnd 3 1 rfl rfl rfl
            have d3_2_bb63 : k54 ≠ k11 := key_ne hnd 3 2 rfl rfl rfl
            clear hlt hnd
            refine tn_put rfl rfl rfl [0, 1, 2, 3] (by decide) rfl (hmc (by simp [turnsOf] <;> omega) (hmc (by simp [turnsOf] <;> omega) (hmc (by simp [turnsOf] <;> omega) (hmc (by simp [turnsOf] <;> omega) hmn)))) rfl (q_fieldP rfl fa25_1 rfl) ?_
            refine tn_put rfl rfl rfl [0, 1, 2, 3] (by decide) rfl (hmc (by simp [turnsOf] <;> omega) (hmc (by simp [turnsOf] <;> omega) (hmc (by simp [turnsOf] <;> omega) (hmc (by simp [turnsOf] <;> omega) hmn)))) rfl (q_loadP (v := .one (.own k54 0 ((y55 :: t56)).length)) 2 rfl sz23 rfl rfl rfl rfl) ?_
            refine tn_put rfl rfl rfl [0, 1, 2, 3] (by decide) rfl (hm0 rfl) rfl (q_fieldP rfl fa25_1 rfl) ?_
            refine tn_put rfl rfl rfl [0, 1, 2, 3] (by decide) rfl (hm0 rfl) rfl (q_loadP (v := .one (.p fr10 (Sl.t r33 s9))) 0 rfl sz23 rfl rfl rfl rfl) ?_
            refine tn_put rfl rfl rfl [0, 1, 2, 3] (by decide) rfl (hm0 rfl) rfl (q_move (v := .one (iC .i64 n52)) rfl) ?_
            obtain ⟨⟨n71, n72⟩, h70, h⟩ := bindS h
            obtain ⟨h70a, h70b, h70⟩ := atS_some h70
            refine tn_put rfl rfl rfl [0, 1, 2, 3] (by decide) rfl (hm0 rfl) rfl (q_ixS rfl rfl h70a h70 (el23.trans (congrArg some h70b.symm))) ?_
            refine tn_put rfl rfl rfl [0, 1, 2, 3] (by decide) rfl (hm0 rfl) rfl (q_loadI (v := .agg [iC .i64 n71, iC .i64 n72]) rfl sz34 (map_get h70) rfl rfl) ?_
            refine tn_new rfl rfl rfl [0, 1, 2, 3] (by decide) rfl (hm0 rfl) rfl rfl (hkc (by omega) (hkc (by omega) (hkc (by omega) (hkc (by omega) hkn)))) (q_bslice (cs := [iC .i64 n71, iC .i64 n72]) (es := (([(n71, n72)] : List (Int × Int))).map (rowC r33)) ty23 rfl ty34 rfl rfl rfl rfl rfl) ?_
            obtain ⟨_, h73, h⟩ := bindS h
            obtain ⟨h73b, rfl⟩ := app_some h73
            refine tn_app rfl rfl rfl [0, 1, 2, 3, 4] (by decide) rfl (hm0 rfl) rfl rfl (hkc (by omega) (hkc (by omega) (hkc (by omega) (hkc (by omega) (hkc (by omega) hkn))))) (q_app 4 rfl rfl (el_ownM 0 rfl) rfl rfl h73 (fun y => rfl) el23 ty23 rfl rfl rfl rfl rfl) (q := 4) rfl rfl ?_
            refine tn_put rfl rfl rfl [0, 1, 2, 3, 4] (by decide) rfl (hm0 rfl) rfl (q_fieldP rfl fa25_1 rfl) ?_
            refine tn_wr rfl rfl [0, 1, 2, 3, 4] (by decide) rfl (hm0 rfl) rfl (q_store (es' := [[iC .i64 n8, .own (bb63 + 8) 0 (((y55 :: t56) ++ ([(n71, n72)] : List (Int × Int)))).length]]) 4 rfl rfl rfl sz23 rfl rfl rfl rfl rfl) (q := 4) rfl rfl ?_
            refine tn_end ?_
            refine E_blkN ?_
            refine E_seq ?_
            refine L_ops ?_
            refine ol_put rfl rfl rfl (q_move (v := .one (iC .i64 n52)) rfl) ?_
            refine ol_put rfl rfl rfl (q_bin rfl rfl (p_add _ _ _ _ _ _ _) rfl) ?_
            refine ol_put rfl rfl rfl (q_assign (v := .one (iC .i64 (IntKind.i64.wrap (n52 + 1)))) rfl) ?_
            refine ol_end ?_
            obtain rfl := Option.some.inj h
            exact E_next (bb63 + 8) (ups_self ⟨rfl, rfl, rfl, rfl, rfl, rfl, rfl, trivial⟩) [2, 3, 4, 0] (by decide) rfl
          · replace h := ifF c62 h
            refine ol_put rfl rfl rfl (q_bin rfl rfl (p_neq_f _ _ _ _ _ c62) rfl) ?_
            refine ol_end ?_
            refine E_seq ?_
            refine L_condF rfl ?_
            refine L_skip ?_
            refine E_blkN ?_
            refine E_seq ?_
            refine L_ops ?_
            refine ol_put rfl rfl rfl (q_move (v := .one (iC .i64 n52)) rfl) ?_
            refine ol_put rfl rfl rfl (q_bin rfl rfl (p_add _ _ _ _ _ _ _) rfl) ?_
            refine ol_put rfl rfl rfl (q_assign (v := .one (iC .i64 (IntKind.i64.wrap (n52 + 1)))) rfl) ?_
            refine ol_end ?_
            obtain rfl := Option.some.inj h
            exact E_next k54 (ups_self ⟨rfl, rfl, rfl, rfl, rfl, rfl, rfl, trivial⟩) [0, 1, 2, 3] (by decide) rfl
        · replace h := ifF c57 h
          refine ol_put rfl rfl rfl (q_bin rfl rfl (p_lss_f _ _ _ _ _ c57) rfl) ?_
          refine ol_end ?_
          refine E_seq ?_
          refine L_condF rfl ?_
          refine L_exit ?_
          refine E_seqX ?_
          obtain rfl := Option.some.inj h
          exact E_out (E_exit k54 (ups_self ⟨rfl, rfl, rfl, rfl, rfl, trivial⟩) [1, 2, 3] (by decide) rfl)
    · rintro (l74 | u) h
      · refine J_x (fun k75 g => ?_)
        replace h := elimL h
        rcases l74 with _ | ⟨y76, t77⟩
        · skip
          refine E_blkH ?_
          refine E_seq ?_
          refine L_seq ?_
          refine L_seq ?_
          refine L_ops ?_
          refine ol_put rfl rfl rfl (q_move (v := .one (bC true)) rfl) ?_
          refine ol_put rfl rfl rfl (q_not rfl) ?_
          refine ol_end ?_
          refine E_seq ?_
          refine L_condF rfl ?_
          refine L_skip ?_
          refine E_seq ?_
          refine L_seq ?_
          refine L_ops ?_
          refine ol_put rfl rfl rfl (q_loadP (v := .agg [iC .i64 n8, .p true (Sl.t r33 (mo 2 ([] : List (Int × Int))))]) 1 rfl sz25 rfl rfl rfl rfl) ?_
          refine ol_wr rfl rfl (q_store (es' := [[iC .i64 n8, .p true (Sl.t r33 (mo 2 ([] : List (Int × Int))))]]) 0 rfl rfl rfl sz25 rfl rfl rfl rfl rfl) rfl ?_
          refine ol_end ?_
          refine E_seq ?_
          refine L_ret ?_
          obtain rfl := Option.some.inj h
          exact E_endF (.inr rfl) (res_cell (d := .agg [iC .i64 n8, .p true (Sl.t r33 (mo 2 ([] : List (Int × Int))))]) 0 rfl sz25 rfl rfl rfl rfl res_nil) (vw_cons (vd_agg (vc_cons vc_v (vc_cons vc_s vc_nil))) vw_nil) (fun h hb => own_agg) rfl rfl
        · skip
          refine E_blkH ?_
          refine E_seq ?_
          refine L_seq ?_
          refine L_seq ?_
          refine L_ops ?_
          refine ol_put rfl rfl rfl (q_move (v := .one (bC true)) rfl) ?_
          refine ol_put rfl rfl rfl (q_not rfl) ?_
          refine ol_end ?_
          refine E_seq ?_
          refine L_condF rfl ?_
          refine L_skip ?_
          refine E_seq ?_
          refine L_seq ?_
          refine L_ops ?_
          refine ol_put rfl rfl rfl (q_loadP (v := .agg [iC .i64 n8, .own k75 0 ((y76 :: t77)).length]) 1 rfl sz25 rfl rfl rfl rfl) ?_
          refine ol_wr rfl rfl (q_store (es' := [[iC .i64 n8, .own k75 0 ((y76 :: t77)).length]]) 0 rfl rfl rfl sz25 rfl rfl rfl rfl rfl) rfl ?_
          refine ol_end ?_
          refine E_seq ?_
          refine L_ret ?_
          obtain rfl := Option.some.inj h
          exact E_endF (.inr rfl) (res_cell (d := .agg [iC .i64 n8, .own k75 0 ((y76 :: t77)).length]) 0 rfl sz25 rfl rfl rfl rfl res_nil) (vw_cons (vd_agg (vc_cons vc_v (vc_cons (vc_own (r := r33) 2 rfl (fun x h m => rfl)) vc_nil))) vw_nil) (fun h hb => own_agg) rfl rfl
      · obtain rfl := Option.some.inj (elimR h)
        exact J_up (fun s hs => hs)
  · replace h := ifF c12 h
    refine ol_put rfl rfl rfl (q_bin rfl rfl (p_lss_f _ _ _ _ _ c12) rfl) ?_
    refine ol_put rfl rfl rfl (q_move (v := .one (bC false)) rfl) ?_
    refine ol_put rfl rfl rfl (q_move (v := .one (iC .i64 n3)) rfl) ?_
    refine ol_put rfl rfl rfl (q_fieldP rfl fa25_0 rfl) ?_
    refine ol_put rfl rfl rfl (q_loadP (v := .one (iC .i64 n8)) 2 rfl sz3 rfl rfl rfl rfl) ?_
    by_cases c78 : n3 ≥ n8
    · replace h := ifT c78 h
      refine ol_put rfl rfl rfl (q_bin rfl rfl (p_geq_t _ _ _ _ _ c78) rfl) ?_
      refine ol_put rfl rfl rfl (q_pickF (v := .one (bC true)) rfl rfl) ?_
      refine ol_put rfl rfl rfl (q_assign (v := .one (bC true)) rfl) ?_
      refine ol_end ?_
      refine E_seq ?_
      refine L_seq ?_
      refine L_seq ?_
      refine L_ops ?_
      refine ol_put rfl rfl rfl (q_assign (v := .one (iC .i64 0)) rfl) ?_
      refine ol_end ?_
      refine E_seq ?_
      refine L_block ?_
      let S2 : (Int × (List (Int × Int))) → Nat → (Nat → D) → Nat → D := fun a kt g => ups g [(1, .one (iC .i64 n3)), (2, .one (iC .i64 n4)), (3, .one (.ptr k5 0 0)), (6, .one (.ptr k6 0 0)), (7, .one (.ptr k11 0 0)), (8, .one (bC true)), (9, .one (iC .i64 a.1))]
      let SL2 : (Int × (List (Int × Int))) → Nat → BL := fun a kt => ([(k5, 2, [[iC .i64 n8, .p fr10 (Sl.t r33 s9)]]), (k6, 2, [[iC .i64 0, .p true (Sl.t r33 (⟨false, 0, []⟩ : Sl (Int × Int)))]]), (k11, 2, [[iC .i64 n8, moC a.2 kt]])] ++ moL r33 2 a.2 kt : BL)
      let Sx2 : (List (Int × Int)) → Nat → (Nat → D) → Nat → D := fun a kt g => ups g [(1, .one (iC .i64 n3)), (2, .one (iC .i64 n4)), (6, .one (.ptr k6 0 0)), (7, .one (.ptr k11 0 0)), (8, .one (bC true))]
      let SLx2 : (List (Int × Int)) → Nat → BL := fun a kt => ([(k6, 2, [[iC .i64 0, .p true (Sl.t r33 (⟨false, 0, []⟩ : Sl (Int × Int)))]]), (k11, 2, [[iC .i64 n8, moC a kt]])] ++ moL r33 2 a kt : BL)
      let G2 : (Int × (Sl (Int × Int))) → Ex → St → Prop := fun u => endQ E1 [.cell 6 25] (.fresh, [.agg (r24 u)])
      let J2 : ((List (Int × Int)) ⊕ (Int × (Sl (Int × Int)))) → Ex → St → Prop := JX 79 0 Sx2 SLx2 G2
      refine L_loopS (ref09_Put_b2 n3 s9) S2 SL2 J2 JX_n (0, ([] : List (Int × Int))) h 0 (ups_self ⟨rfl, rfl, rfl, rfl, rfl, rfl, rfl, trivial⟩) [2, 1, 0] (by decide) rfl ?_ ?_
      · rintro ⟨n118, l119⟩ k120 g out h
        change ref09_Put_b2 n3 s9 (n118, l119) = some out at h
        unfold ref09_Put_b2 at h
        rcases l119 with _ | ⟨y121, t122⟩
        · skip
          refine L_seq ?_
          refine L_seq ?_
          refine L_ops ?_
          refine ol_put rfl rfl rfl (q_move (v := .one (iC .i64 n118)) rfl) ?_
          refine ol_put rfl rfl rfl (q_fieldP rfl fa25_1 rfl) ?_
          refine ol_put rfl rfl rfl (q_loadP (v := .one (.p fr10 (Sl.t r33 s9))) 0 rfl sz23 rfl rfl rfl rfl) ?_
          refine ol_put rfl rfl rfl (q_lenS rfl ty23 rfl rfl rfl rfl) ?_
          by_cases c123 : n118 < ((s9.l.length : Nat) : Int)
          · replace h := ifT c123 h
            refine ol_put rfl rfl rfl (q_bin rfl rfl (p_lss_t _ _ _ _ _ c123) rfl) ?_
            refine ol_end ?_
            refine E_seq ?_
            refine L_condT rfl ?_
            refine L_skip ?_
            refine E_seq ?_
            refine L_seq ?_
            refine L_block ?_
            refine L_seq ?_
            refine L_seq ?_
            refine L_ops ?_
            refine ol_put rfl rfl rfl (q_move (v := .one (bC true)) rfl) ?_
            refine ol_put rfl rfl rfl (q_not rfl) ?_
            refine ol_put rfl rfl rfl (q_move (v := .one (bC false)) rfl) ?_
            refine ol_skip rfl rfl rfl ?_
            refine ol_skip rfl rfl rfl ?_
            refine ol_skip rfl rfl rfl ?_
            refine ol_skip rfl rfl rfl ?_
            refine ol_skip rfl rfl rfl ?_
            refine ol_skip rfl rfl rfl ?_
            refine ol_skip rfl rfl rfl ?_
            refine ol_skip rfl rfl rfl ?_
            refine ol_put rfl rfl rfl (q_pickF (v := .one (bC false)) rfl rfl) ?_
            refine ol_end ?_
            refine E_seq ?_
            refine L_condF rfl ?_
            refine L_skip ?_
            refine E_seq ?_
            refine L_seq ?_
            refine L_ops ?_
            refine ol_put rfl rfl rfl (q_fieldP rfl fa25_1 rfl) ?_
            refine ol_put rfl rfl rfl (q_loadP (v := .one (.p fr10 (Sl.t r33 s9))) 0 rfl sz23 rfl rfl rfl rfl) ?_
            refine ol_put rfl rfl rfl (q_move (v := .one (iC .i64 n118)) rfl) ?_
            obtain ⟨⟨n126, n127⟩, h125, h⟩ := bindS h
            obtain ⟨h125a, h125b, h125⟩ := atS_some h125
            refine ol_put rfl rfl rfl (q_ixS rfl rfl h125a h125 (el23.trans (congrArg some h125b.symm))) ?_
            refine ol_put rfl rfl rfl (q_fieldI rfl fa34_0 rfl) ?_
            refine ol_put rfl rfl rfl (q_loadI (v := .one (iC .i64 n126)) rfl sz3 (map_get h125) rfl rfl) ?_
            refine ol_put rfl rfl rfl (q_move (v := .one (iC .i64 n3)) rfl) ?_
            by_cases c128 : n126 ≠ n3
            · replace h := ifT c128 h
              refine ol_put rfl rfl rfl (q_bin rfl rfl (p_neq_t _ _ _ _ _ c128) rfl) ?_
              refine ol_end ?_
              refine E_seq ?_
              refine L_condT rfl ?_
              refine L_norm (L2 := ([(k5, 2, [[iC .i64 n8, .p fr10 (Sl.t r33 s9)]]), (k6, 2, [[iC .i64 0, .p true (Sl.t r33 (⟨false, 0, []⟩ : Sl (Int × Int)))]]), (k11, 2, [[iC .i64 n8, .p true (Sl.t r33 (mo 2 ([] : List (Int × Int))))]])] : BL)) [0, 1, 2] (by decide) rfl ?_
              refine L_turn 11 rfl [[], [], [], [], [], [], [], [], [], [], [k11]] [false, false, false, false, false, false, false, true, true, false, false] [[2, 3, 4, 5, 6, 7], [2, 3, 4, 5, 6, 7], [0, 1, 4], [0, 1, 4], [0, 1, 2, 3], [0, 1], [0, 1], [0, 1], [], [], []] (by kernel_rfl) (by kernel_rfl) ?_ (fun bb129 hlt hnd => ?_)
              · intro bb129 hlt hnd
                have e0_bb129 : k5 < bb129 := key_lt hlt 0 rfl
                have e1_bb129 : k6 < bb129 := key_lt hlt 1 rfl
                have e2_bb129 : k11 < bb129 := key_lt hlt 2 rfl
                have d2_0_bb129 : k11 ≠ k5 := key_ne hnd 2 0 rfl rfl rfl
                have d2_1_bb129 : k11 ≠ k6 := key_ne hnd 2 1 rfl rfl rfl
                exact ⟨by simp <;> omega, by simp <;> omega⟩
              have e0_bb129 : k5 < bb129 := key_lt hlt 0 rfl
              have e1_bb129 : k6 < bb129 := key_lt hlt 1 rfl
              have e2_bb129 : k11 < bb129 := key_lt hlt 2 rfl
              have d2_0_bb129 : k11 ≠ k5 := key_ne hnd 2 0 rfl rfl rfl
              have d2_1_bb129 : k11 ≠ k6 := key_ne hnd 2 1 rfl rfl rfl
              clear hlt hnd
              refine tn_put rfl rfl rfl [0, 1, 2] (by decide) rfl (hmc (by simp [turnsOf] <;> omega) (hmc (by simp [turnsOf] <;> omega) (hmc (by simp [turnsOf] <;> omega) hmn))) rfl (q_fieldP rfl fa25_1 rfl) ?_
              refine tn_put rfl rfl rfl [0, 1, 2] (by decide) rfl (hmc (by simp [turnsOf] <;> omega) (hmc (by simp [turnsOf] <;> omega) (hmc (by simp [turnsOf] <;> omega) hmn))) rfl (q_loadP (v := .one (.p true (Sl.t r33 (mo 2 ([] : List (Int × Int)))))) 2 rfl sz23 rfl rfl rfl rfl) ?_
              refine tn_put rfl rfl rfl [0, 1, 2] (by decide) rfl (hm0 rfl) rfl (q_fieldP rfl fa25_1 rfl) ?_
              refine tn_put rfl rfl rfl [0, 1, 2] (by decide) rfl (hm0 rfl) rfl (q_loadP (v := .one (.p fr10 (Sl.t r33 s9))) 0 rfl sz23 rfl rfl rfl rfl) ?_
              refine tn_put rfl rfl rfl [0, 1, 2] (by decide) rfl (hm0 rfl) rfl (q_move (v := .one (iC .i64 n118)) rfl) ?_
              obtain ⟨⟨n137, n138⟩, h136, h⟩ := bindS h
              obtain ⟨h136a, h136b, h136⟩ := atS_some h136
              refine tn_put rfl rfl rfl [0, 1, 2] (by decide) rfl (hm0 rfl) rfl (q_ixS rfl rfl h136a h136 (el23.trans (congrArg some h136b.symm))) ?_
              refine tn_put rfl rfl rfl [0, 1, 2] (by decide) rfl (hm0 rfl) rfl (q_loadI (v := .agg [iC .i64 n137, iC .i64 n138]) rfl sz34 (map_get h136) rfl rfl) ?_
              refine tn_new rfl rfl rfl [0, 1, 2] (by decide) rfl (hm0 rfl) rfl rfl (hkc (by omega) (hkc (by omega) (hkc (by omega) hkn))) (q_bslice (cs := [iC .i64 n137, iC .i64 n138]) (es := (([(n137, n138)] : List (Int × Int))).map (rowC r33)) ty23 rfl ty34 rfl rfl rfl rfl rfl) ?_
              obtain ⟨_, h139, h⟩ := bindS h
              obtain ⟨h139b, rfl⟩ := app_some h139
              refine tn_new rfl rfl rfl [0, 1, 2, 3] (by decide) rfl (hm0 rfl) rfl rfl (hkc (by omega) (hkc (by omega) (hkc (by omega) (hkc (by omega) hkn)))) (q_app0 (xs := ((([] : List (Int × Int)) ++ ([(n137, n138)] : List (Int × Int)))).map (rowC r33)) rfl rfl (el_ownM 0 rfl) ⟨_, _, rfl⟩ (by simp [bound]) rfl el23 ty23 rfl rfl rfl rfl rfl) ?_
              refine tn_put rfl rfl rfl [0, 1, 2, 3, 4] (by decide) rfl (hm0 rfl) rfl (q_fieldP rfl fa25_1 rfl) ?_
              refine tn_wr rfl rfl [0, 1, 2, 3, 4] (by decide) rfl (hm0 rfl) rfl (q_store (es' := [[iC .i64 n8, .own (bb129 + 8) 0 ((([] : List (Int × Int)) ++ ([(n137, n138)] : List (Int × Int)))).length]]) 4 rfl rfl rfl sz23 rfl rfl rfl rfl rfl) (q := 4) rfl rfl ?_
              refine tn_end ?_
              refine E_blkN ?_
              refine E_seq ?_
              refine L_ops ?_
              refine ol_put rfl rfl rfl (q_move (v := .one (iC .i64 n118)) rfl) ?_
              refine ol_put rfl rfl rfl (q_bin rfl rfl (p_add _ _ _ _ _ _ _) rfl) ?_
              refine ol_put rfl rfl rfl (q_assign (v := .one (iC .i64 (IntKind.i64.wrap (n118 + 1)))) rfl) ?_
              refine ol_end ?_
              obtain rfl := Option.some.inj h
              exact E_next (bb129 + 8) (ups_self ⟨rfl, rfl, rfl, rfl, rfl, rfl, rfl, trivial⟩) [2, 3, 4, 0] (by decide) rfl
            · replace h := ifF c128 h
              refine ol_put rfl rfl rfl (q_bin rfl rfl (p_neq_f _ _ _ _ _ c128) rfl) ?_
              refine ol_end ?_
              refine E_seq ?_
              refine L_condF rfl ?_
              refine L_skip ?_
              refine E_blkN ?_
              refine E_seq ?_
              refine L_ops ?_
              refine ol_put rfl rfl rfl (q_move (v := .one (iC .i64 n118)) rfl) ?_
              refine ol_put rfl rfl rfl (q_bin rfl rfl (p_add _ _ _ _ _ _ _) rfl) ?_
              refine ol_put rfl rfl rfl (q_assign (v := .one (iC .i64 (IntKind.i64.wrap (n118 + 1)))) rfl) ?_
              refine ol_end ?_
              obtain rfl := Option.some.inj h
              exact E_next 0 (ups_self ⟨rfl, rfl, rfl, rfl, rfl, rfl, rfl, trivial⟩) [0, 1, 2] (by decide) rfl
          · replace h := ifF c123 h
            refine ol_put rfl rfl rfl (q_bin rfl rfl (p_lss_f _ _ _ _ _ c123) rfl) ?_
            refine ol_end ?_
            refine E_seq ?_
            refine L_condF rfl ?_
            refine L_exit ?_
            refine E_seqX ?_
            obtain rfl := Option.some.inj h
            exact E_out (E_exit 0 (ups_self ⟨rfl, rfl, rfl, rfl, rfl, trivial⟩) [1, 2] (by decide) rfl)
        · skip
          refine L_seq ?_
          refine L_seq ?_
          refine L_ops ?_
          refine ol_put rfl rfl rfl (q_move (v := .one (iC .i64 n118)) rfl) ?_
          refine ol_put rfl rfl rfl (q_fieldP rfl fa25_1 rfl) ?_
          refine ol_put rfl rfl rfl (q_loadP (v := .one (.p fr10 (Sl.t r33 s9))) 0 rfl sz23 rfl rfl rfl rfl) ?_
          refine ol_put rfl rfl rfl (q_lenS rfl ty23 rfl rfl rfl rfl) ?_
          by_cases c123 : n118 < ((s9.l.length : Nat) : Int)
          · replace h := ifT c123 h
            refine ol_put rfl rfl rfl (q_bin rfl rfl (p_lss_t _ _ _ _ _ c123) rfl) ?_
            refine ol_end ?_
            refine E_seq ?_
            refine L_condT rfl ?_
            refine L_skip ?_
            refine E_seq ?_
            refine L_seq ?_
            refine L_block ?_
            refine L_seq ?_
            refine L_seq ?_
            refine L_ops ?_
            refine ol_put rfl rfl rfl (q_move (v := .one (bC true)) rfl) ?_
            refine ol_put rfl rfl rfl (q_not rfl) ?_
            refine ol_put rfl rfl rfl (q_move (v := .one (bC false)) rfl) ?_
            refine ol_skip rfl rfl rfl ?_
            refine ol_skip rfl rfl rfl ?_
            refine ol_skip rfl rfl rfl ?_
            refine ol_skip rfl rfl rfl ?_
            refine ol_skip rfl rfl rfl ?_
            refine ol_skip rfl rfl rfl ?_
            refine ol_skip rfl rfl rfl ?_
            refine ol_skip rfl rfl rfl ?_
            refine ol_put rfl rfl rfl (q_pickF (v := .one (bC false)) rfl rfl) ?_
            refine ol_end ?_
            refine E_seq ?_
            refine L_condF rfl ?_
            refine L_skip ?_
            refine E_seq ?_
            refine L_seq ?_
            refine L_ops ?_
            refine ol_put rfl rfl rfl (q_fieldP rfl fa25_1 rfl) ?_
            refine ol_put rfl rfl rfl (q_loadP (v := .one (.p fr10 (Sl.t r33 s9))) 0 rfl sz23 rfl rfl rfl rfl) ?_
            refine ol_put rfl rfl rfl (q_move (v := .one (iC .i64 n118)) rfl) ?_
            obtain ⟨⟨n126, n127⟩, h125, h⟩ := bindS h
            obtain ⟨h125a, h125b, h125⟩ := atS_some h125
            refine ol_put rfl rfl rfl (q_ixS rfl rfl h125a h125 (el23.trans (congrArg some h125b.symm))) ?_
            refine ol_put rfl rfl rfl (q_fieldI rfl fa34_0 rfl) ?_
            refine ol_put rfl rfl rfl (q_loadI (v := .one (iC .i64 n126)) rfl sz3 (map_get h125) rfl rfl) ?_
            refine ol_put rfl rfl rfl (q_move (v := .one (iC .i64 n3)) rfl) ?_
            by_cases c128 : n126 ≠ n3
            · replace h := ifT c128 h
              refine ol_put rfl rfl rfl (q_bin rfl rfl (p_neq_t _ _ _ _ _ c128) rfl) ?_
              refine ol_end ?_
              refine E_seq ?_
              refine L_condT rfl ?_
              refine L_norm (L2 := ([(k5, 2, [[iC .i64 n8, .p fr10 (Sl.t r33 s9)]]), (k6, 2, [[iC .i64 0, .p true (Sl.t r33 (⟨false, 0, []⟩ : Sl (Int × Int)))]]), (k11, 2, [[iC .i64 n8, .own k120 0 ((y121 :: t122)).length]]), (k120, 2, ((y121 :: t122)).map (rowC r33))] : BL)) [0, 1, 2, 3] (by decide) rfl ?_
              refine L_turn 11 rfl [[], [], [], [], [], [], [], [], [k120], [], [k11]] [false, false, false, false, false, false, false, true, true, false, false] [[2, 3, 4, 5, 6, 7], [2, 3, 4, 5, 6, 7], [0, 1, 4], [0, 1, 4], [0, 1, 2, 3], [0, 1], [0, 1], [0, 1], [], [], []] (by kernel_rfl) (by kernel_rfl) ?_ (fun bb129 hlt hnd => ?_)
              · intro bb129 hlt hnd
                have e0_bb129 : k5 < bb129 := key_lt hlt 0 rfl
                have e1_bb129 : k6 < bb129 := key_lt hlt 1 rfl
                have e2_bb129 : k11 < bb129 := key_lt hlt 2 rfl
                have e3_bb129 : k120 < bb129 := key_lt hlt 3 rfl
                have d2_0_bb129 : k11 ≠ k5 := key_ne hnd 2 0 rfl rfl rfl
                have d2_1_bb129 : k11 ≠ k6 := key_ne hnd 2 1 rfl rfl rfl
                have d2_3_bb129 : k11 ≠ k120 := key_ne hnd 2 3 rfl rfl rfl
                have d3_0_bb129 : k120 ≠ k5 := key_ne hnd 3 0 rfl rfl rfl
                have d3_1_bb129 : k120 ≠ k6 := key_ne hnd 3 1 rfl rfl rfl
                have d3_2_bb129 : k120 ≠ k11 := key_ne hnd 3 2 rfl rfl rfl
                exact ⟨by simp <;> omega, by simp <;> omega⟩
              have e0_bb129 : k5 < bb129 := key_lt hlt 0 rfl
              have e1_bb129 : k6 < bb129 := key_lt hlt 1 rfl
              have e2_bb129 : k11 < bb129 := key_lt hlt 2 rfl
              have e3_bb129 : k120 < bb129 := key_lt hlt 3 rfl
              have d2_0_bb129 : k11 ≠ k5 := key_ne hnd 2 0 rfl rfl rfl
              have d2_1_bb129 : k11 ≠ k6 := key_ne hnd 2 1 rfl rfl rfl
              have d2_3_bb129 : k11 ≠ k120 := key_ne hnd 2 3 rfl rfl rfl
              have d3_0_bb129 : k120 ≠ k5 := key_ne hnd 3 0 rfl rfl rfl
              have d3_1_bb129 : k120 ≠ k6 := key_ne hnd 3 1 rfl rfl rfl
              have d3_2_bb129 : k120 ≠ k11 := key_ne hnd 3 2 rfl rfl rfl
              clear hlt hnd
              refine tn_put rfl rfl rfl [0, 1, 2, 3] (by decide) rfl (hmc (by simp [turnsOf] <;> omega) (hmc (by simp [turnsOf] <;> omega) (hmc (by simp [turnsOf] <;> omega) (hmc (by simp [turnsOf] <;> omega) hmn)))) rfl (q_fieldP rfl fa25_1 rfl) ?_
              refine tn_put rfl rfl rfl [0, 1, 2, 3] (by decide) rfl (hmc (by simp [turnsOf] <;> omega) (hmc (by simp [turnsOf] <;> omega) (hmc (by simp [turnsOf] <;> omega) (hmc (by simp [turnsOf] <;> omega) hmn)))) rfl (q_loadP (v := .one (.own k120 0 ((y121 :: t122)).length)) 2 rfl sz23 rfl rfl rfl rfl) ?_
              refine tn_put rfl rfl rfl [0, 1, 2, 3] (by decide) rfl (hm0 rfl) rfl (q_fieldP rfl fa25_1 rfl) ?_
              refine tn_put rfl rfl rfl [0, 1, 2, 3] (by decide) rfl (hm0 rfl) rfl (q_loadP (v := .one (.p fr10 (Sl.t r33 s9))) 0 rfl sz23 rfl rfl rfl rfl) ?_
              refine tn_put rfl rfl rfl [0, 1, 2, 3] (by decide) rfl (hm0 rfl) rfl (q_move (v := .one (iC .i64 n118)) rfl) ?_
              obtain ⟨⟨n137, n138⟩, h136, h⟩ := bindS h
              obtain ⟨h136a, h136b, h136⟩ := atS_some h136
              refine tn_put rfl rfl rfl [0, 1, 2, 3] (by decide) rfl (hm0 rfl) rfl (q_ixS rfl rfl h136a h136 (el23.trans (congrArg some h136b.symm))) ?_
              refine tn_put rfl rfl rfl [0, 1, 2, 3] (by decide) rfl (hm0 rfl) rfl (q_loadI (v := .agg [iC .i64 n137, iC .i64 n138]) rfl sz34 (map_get h136) rfl rfl) ?_
              refine tn_new rfl rfl rfl [0, 1, 2, 3] (by decide) rfl (hm0 rfl) rfl rfl (hkc (by omega) (hkc (by omega) (hkc (by omega) (hkc (by omega) hkn)))) (q_bslice (cs := [iC .i64 n137, iC .i64 n138]) (es := (([(n137, n138)] : List (Int × Int))).map (rowC r33)) ty23 rfl ty34 rfl rfl rfl rfl rfl) ?_
              obtain ⟨_, h139, h⟩ := bindS h
              obtain ⟨h139b, rfl⟩ := app_some h139
              refine tn_app rfl rfl rfl [0, 1, 2, 3, 4] (by decide) rfl (hm0 rfl) rfl rfl (hkc (by omega) (hkc (by omega) (hkc (by omega) (hkc (by omega) (hkc (by omega) hkn))))) (q_app 4 rfl rfl (el_ownM 0 rfl) rfl rfl h139 (fun y => rfl) el23 ty23 rfl rfl rfl rfl rfl) (q := 4) rfl rfl ?_
              refine tn_put rfl rfl rfl [0, 1, 2, 3, 4] (by decide) rfl (hm0 rfl) rfl (q_fieldP rfl fa25_1 rfl) ?_
              refine tn_wr rfl rfl [0, 1, 2, 3, 4] (by decide) rfl (hm0 rfl) rfl (q_store (es' := [[iC .i64 n8, .own (bb129 + 8) 0 (((y121 :: t122) ++ ([(n137, n138)] : List (Int × Int)))).length]]) 4 rfl rfl rfl sz23 rfl rfl rfl rfl rfl) (q := 4) rfl rfl ?_
              refine tn_end ?_
              refine E_blkN ?_
              refine E_seq ?_
              refine L_ops ?_
              refine ol_put rfl rfl rfl (q_move (v := .one (iC .i64 n118)) rfl) ?_
              refine ol_put rfl rfl rfl (q_bin rfl rfl (p_add _ _ _ _ _ _ _) rfl) ?_
              refine ol_put rfl rfl rfl (q_assign (v := .one (iC .i64 (IntKind.i64.wrap (n118 + 1)))) rfl) ?_
              refine ol_end ?_
              obtain rfl := Option.some.inj h
              exact E_next (bb129 + 8) (ups_self ⟨rfl, rfl, rfl, rfl, rfl, rfl, rfl, trivial⟩) [2, 3, 4, 0] (by decide) rfl
            · replace h := ifF c128 h
              refine ol_put rfl rfl rfl (q_bin rfl rfl (p_neq_f _ _ _ _ _ c128) rfl) ?_
              refine ol_end ?_
              refine E_seq ?_
              refine L_condF rfl ?_
              refine L_skip ?_
              refine E_blkN ?_
              refine E_seq ?_
              refine L_ops ?_
              refine ol_put rfl rfl rfl (q_move (v := .one (iC .i64 n118)) rfl) ?_
              refine ol_put rfl rfl rfl (q_bin rfl rfl (p_add _ _ _ _ _ _ _) rfl) ?_
              refine ol_put rfl rfl rfl (q_assign (v := .one (iC .i64 (IntKind.i64.wrap (n118 + 1)))) rfl) ?_
              refine ol_end ?_
              obtain rfl := Option.some.inj h
              exact E_next k120 (ups_self ⟨rfl, rfl, rfl, rfl, rfl, rfl, rfl, trivial⟩) [0, 1, 2, 3] (by decide) rfl
          · replace h := ifF c123 h
            refine ol_put rfl rfl rfl (q_bin rfl rfl (p_lss_f _ _ _ _ _ c123) rfl) ?_
            refine ol_end ?_
            refine E_seq ?_
            refine L_condF rfl ?_
            refine L_exit ?_
            refine E_seqX ?_
            obtain rfl := Option.some.inj h
            exact E_out (E_exit k120 (ups_self ⟨rfl, rfl, rfl, rfl, rfl, trivial⟩) [1, 2, 3] (by decide) rfl)
      · rintro (l140 | u) h
        · refine J_x (fun k141 g => ?_)
          replace h := elimL h
          rcases l140 with _ | ⟨y142, t143⟩
          · skip
            refine E_blkH ?_
            refine E_seq ?_
            refine L_seq ?_
            refine L_seq ?_
            refine L_ops ?_
            refine ol_put rfl rfl rfl (q_move (v := .one (bC true)) rfl) ?_
            refine ol_put rfl rfl rfl (q_not rfl) ?_
            refine ol_end ?_
            refine E_seq ?_
            refine L_condF rfl ?_
            refine L_skip ?_
            refine E_seq ?_
            refine L_seq ?_
            refine L_ops ?_
            refine ol_put rfl rfl rfl (q_loadP (v := .agg [iC .i64 n8, .p true (Sl.t r33 (mo 2 ([] : List (Int × Int))))]) 1 rfl sz25 rfl rfl rfl rfl) ?_
            refine ol_wr rfl rfl (q_store (es' := [[iC .i64 n8, .p true (Sl.t r33 (mo 2 ([] : List (Int × Int))))]]) 0 rfl rfl rfl sz25 rfl rfl rfl rfl rfl) rfl ?_
            refine ol_end ?_
            refine E_seq ?_
            refine L_ret ?_
            obtain rfl := Option.some.inj h
            exact E_endF (.inr rfl) (res_cell (d := .agg [iC .i64 n8, .p true (Sl.t r33 (mo 2 ([] : List (Int × Int))))]) 0 rfl sz25 rfl rfl rfl rfl res_nil) (vw_cons (vd_agg (vc_cons vc_v (vc_cons vc_s vc_nil))) vw_nil) (fun h hb => own_agg) rfl rfl
          · skip
            refine E_blkH ?_
            refine E_seq ?_
            refine L_seq ?_
            refine L_seq ?_
            refine L_ops ?_
            refine ol_put rfl rfl rfl (q_move (v := .one (bC true)) rfl) ?_
            refine ol_put rfl rfl rfl (q_not rfl) ?_
            refine ol_end ?_
            refine E_seq ?_
            refine L_condF rfl ?_
            refine L_skip ?_
            refine E_seq ?_
            refine L_seq ?_
            refine L_ops ?_
            refine ol_put rfl rfl rfl (q_loadP (v := .agg [iC .i64 n8, .own k141 0 ((y142 :: t143)).length]) 1 rfl sz25 rfl rfl rfl rfl) ?_
            refine ol_wr rfl rfl (q_store (es' := [[iC .i64 n8, .own k141 0 ((y142 :: t143)).length]]) 0 rfl rfl rfl sz25 rfl rfl rfl rfl rfl) rfl ?_
            refine ol_end ?_
            refine E_seq ?_
            refine L_ret ?_
            obtain rfl := Option.some.inj h
            exact E_endF (.inr rfl) (res_cell (d := .agg [iC .i64 n8, .own k141 0 ((y142 :: t143)).length]) 0 rfl sz25 rfl rfl rfl rfl res_nil) (vw_cons (vd_agg (vc_cons vc_v (vc_cons (vc_own (r := r33) 2 rfl (fun x h m => rfl)) vc_nil))) vw_nil) (fun h hb => own_agg) rfl rfl
        · obtain rfl := Option.some.inj (elimR h)
          exact J_up (fun s hs => hs)
    · replace h := ifF c78 h
      refine ol_put rfl rfl rfl (q_bin rfl rfl (p_geq_f _ _ _ _ _ c78) rfl) ?_
      refine ol_put rfl rfl rfl (q_pickF (v := .one (bC false)) rfl rfl) ?_
      refine ol_put rfl rfl rfl (q_assign (v := .one (bC false)) rfl) ?_
      refine ol_end ?_
      refine E_seq ?_
      refine L_seq ?_
      refine L_seq ?_
      refine L_ops ?_
      refine ol_put rfl rfl rfl (q_assign (v := .one (iC .i64 0)) rfl) ?_
      refine ol_end ?_
      refine E_seq ?_
      refine L_block ?_
      let S3 : (Bool × Int × (List (Int × Int))) → Nat → (Nat → D) → Nat → D := fun a kt g => ups g [(1, .one (iC .i64 n3)), (2, .one (iC .i64 n4)), (3, .one (.ptr k5 0 0)), (6, .one (.ptr k6 0 0)), (7, .one (.ptr k11 0 0)), (8, .one (bC a.1)), (9, .one (iC .i64 a.2.1))]
      let SL3 : (Bool × Int × (List (Int × Int))) → Nat → BL := fun a kt => ([(k5, 2, [[iC .i64 n8, .p fr10 (Sl.t r33 s9)]]), (k6, 2, [[iC .i64 0, .p true (Sl.t r33 (⟨false, 0, []⟩ : Sl (Int × Int)))]]), (k11, 2, [[iC .i64 n8, moC a.2.2 kt]])] ++ moL r33 2 a.2.2 kt : BL)
      let Sx3 : (Bool × (List (Int × Int))) → Nat → (Nat → D) → Nat → D := fun a kt g => ups g [(1, .one (iC .i64 n3)), (2, .one (iC .i64 n4)), (6, .one (.ptr k6 0 0)), (7, .one (.ptr k11 0 0)), (8, .one (bC a.1))]
      let SLx3 : (Bool × (List (Int × Int))) → Nat → BL := fun a kt => ([(k6, 2, [[iC .i64 0, .p true (Sl.t r33 (⟨false, 0, []⟩ : Sl (Int × Int)))]]), (k11, 2, [[iC .i64 n8, moC a.2 kt]])] ++ moL r33 2 a.2 kt : BL)
      let G3 : (Int × (Sl (Int × Int))) → Ex → St → Prop := fun u => endQ E1 [.cell 6 25] (.fresh, [.agg (r24 u)])
      let J3 : ((Bool × (List (Int × Int))) ⊕ (Int × (Sl (Int × Int)))) → Ex → St → Prop := JX 79 0 Sx3 SLx3 G3
      refine L_loopS (ref09_Put_b3 n3 n4 s9) S3 SL3 J3 JX_n (false, 0, ([] : List (Int × Int))) h 0 (ups_self ⟨rfl, rfl, rfl, rfl, rfl, rfl, rfl, trivial⟩) [2, 1, 0] (by decide) rfl ?_ ?_
      · rintro ⟨b248, n249, l250⟩ k251 g out h
        change ref09_Put_b3 n3 n4 s9 (b248, n249, l250) = some out at h
        unfold ref09_Put_b3 at h
        rcases l250 with _ | ⟨y252, t253⟩
        · skip
          refine L_seq ?_
          refine L_seq ?_
          refine L_ops ?_
          refine ol_put rfl rfl rfl (q_move (v := .one (iC .i64 n249)) rfl) ?_
          refine ol_put rfl rfl rfl (q_fieldP rfl fa25_1 rfl) ?_
          refine ol_put rfl rfl rfl (q_loadP (v := .one (.p fr10 (Sl.t r33 s9))) 0 rfl sz23 rfl rfl rfl rfl) ?_
          refine ol_put rfl rfl rfl (q_lenS rfl ty23 rfl rfl rfl rfl) ?_
          by_cases c254 : n249 < ((s9.l.length : Nat) : Int)
          · replace h := ifT c254 h
            refine ol_put rfl rfl rfl (q_bin rfl rfl (p_lss_t _ _ _ _ _ c254) rfl) ?_
            refine ol_end ?_
            refine E_seq ?_
            refine L_condT rfl ?_
            refine L_skip ?_
            refine E_seq ?_
            refine L_seq ?_
            refine L_block ?_
            refine L_seq ?_
            refine L_seq ?_
            refine L_ops ?_
            refine ol_put rfl rfl rfl (q_move (v := .one (bC b248)) rfl) ?_
            rcases b248 with _ | _
            · replace h := ifF (by decide) h
              refine ol_put rfl rfl rfl (q_not rfl) ?_
              refine ol_put rfl rfl rfl (q_move (v := .one (bC true)) rfl) ?_
              refine ol_put rfl rfl rfl (q_fieldP rfl fa25_1 rfl) ?_
              refine ol_put rfl rfl rfl (q_loadP (v := .one (.p fr10 (Sl.t r33 s9))) 0 rfl sz23 rfl rfl rfl rfl) ?_
              refine ol_put rfl rfl rfl (q_move (v := .one (iC .i64 n249)) rfl) ?_
              obtain ⟨⟨n257, n258⟩, h256, h⟩ := bindS h
              obtain ⟨h256a, h256b, h256⟩ := atS_some h256
              refine ol_put rfl rfl rfl (q_ixS rfl rfl h256a h256 (el23.trans (congrArg some h256b.symm))) ?_
              refine ol_put rfl rfl rfl (q_fieldI rfl fa34_0 rfl) ?_
              refine ol_put rfl rfl rfl (q_loadI (v := .one (iC .i64 n257)) rfl sz3 (map_get h256) rfl rfl) ?_
              refine ol_put rfl rfl rfl (q_move (v := .one (iC .i64 n3)) rfl) ?_
              by_cases c259 : n257 ≥ n3
              · replace h := ifT c259 h
                refine ol_put rfl rfl rfl (q_bin rfl rfl (p_geq_t _ _ _ _ _ c259) rfl) ?_
                refine ol_put rfl rfl rfl (q_pickT (v := .one (bC true)) rfl rfl) ?_
                refine ol_end ?_
                refine E_seq ?_
                refine L_condT rfl ?_
                refine L_seq ?_
                refine L_ops ?_
                refine ol_put rfl rfl rfl (q_fieldP rfl fa25_1 rfl) ?_
                refine ol_put rfl rfl rfl (q_loadP (v := .one (.p true (Sl.t r33 (mo 2 ([] : List (Int × Int)))))) 2 rfl sz23 rfl rfl rfl rfl) ?_
                refine ol_put rfl rfl rfl (q_move (v := .one (iC .i64 n3)) rfl) ?_
                refine ol_put rfl rfl rfl (q_move (v := .one (iC .i64 n4)) rfl) ?_
                refine ol_put rfl rfl rfl (q_build (cs := [iC .i64 n3, iC .i64 n4]) ty34 rfl pl34 rfl) ?_
                refine ol_new rfl rfl rfl (q_bslice (cs := [iC .i64 n3, iC .i64 n4]) (es := (([(n3, n4)] : List (Int × Int))).map (rowC r33)) ty23 rfl ty34 rfl rfl rfl rfl rfl) (fun k260 => ?_)
                obtain ⟨_, h261, h⟩ := bindS h
                obtain ⟨h261b, rfl⟩ := app_some h261
                refine ol_new rfl rfl rfl (q_app0 (xs := ((([] : List (Int × Int)) ++ ([(n3, n4)] : List (Int × Int)))).map (rowC r33)) rfl rfl (el_ownM 0 rfl) ⟨_, _, rfl⟩ (by simp [bound]) rfl el23 ty23 rfl rfl rfl rfl rfl) (fun k262 => ?_)
                refine ol_put rfl rfl rfl (q_fieldP rfl fa25_1 rfl) ?_
                refine ol_wr rfl rfl (q_store (es' := [[iC .i64 n8, .own k262 0 ((([] : List (Int × Int)) ++ ([(n3, n4)] : List (Int × Int)))).length]]) 4 rfl rfl rfl sz23 rfl rfl rfl rfl rfl) rfl ?_
                refine ol_end ?_
                refine E_seq ?_
                refine L_ops ?_
                refine ol_put rfl rfl rfl (q_assign (v := .one (bC true)) rfl) ?_
                refine ol_end ?_
                refine E_seq ?_
                refine L_seq ?_
                refine L_ops ?_
                refine ol_put rfl rfl rfl (q_fieldP rfl fa25_1 rfl) ?_
                refine ol_put rfl rfl rfl (q_loadP (v := .one (.p fr10 (Sl.t r33 s9))) 2 rfl sz23 rfl rfl rfl rfl) ?_
                refine ol_put rfl rfl rfl (q_move (v := .one (iC .i64 n249)) rfl) ?_
                obtain ⟨⟨n265, n266⟩, h264, h⟩ := bindS h
                obtain ⟨h264a, h264b, h264⟩ := atS_some h264
                refine ol_put rfl rfl rfl (q_ixS rfl rfl h264a h264 (el23.trans (congrArg some h264b.symm))) ?_
                refine ol_put rfl rfl rfl (q_fieldI rfl fa34_0 rfl) ?_
                refine ol_put rfl rfl rfl (q_loadI (v := .one (iC .i64 n265)) rfl sz3 (map_get h264) rfl rfl) ?_
                refine ol_put rfl rfl rfl (q_move (v := .one (iC .i64 n3)) rfl) ?_
                by_cases c267 : n265 ≠ n3
                · replace h := ifT c267 h
                  refine ol_put rfl rfl rfl (q_bin rfl rfl (p_neq_t _ _ _ _ _ c267) rfl) ?_
                  refine ol_end ?_
                  refine E_seq ?_
                  refine L_condT rfl ?_
                  refine L_norm (L2 := ([(k262, 2, ((([] : List (Int × Int)) ++ ([(n3, n4)] : List (Int × Int)))).map (rowC r33)), (k5, 2, [[iC .i64 n8, .p fr10 (Sl.t r33 s9)]]), (k6, 2, [[iC .i64 0, .p true (Sl.t r33 (⟨false, 0, []⟩ : Sl (Int × Int)))]]), (k11, 2, [[iC .i64 n8, .own k262 0 ((([] : List (Int × Int)) ++ ([(n3, n4)] : List (Int × Int)))).length]])] : BL)) [0, 2, 3, 4] (by decide) rfl ?_
                  refine L_turn 11 rfl [[], [], [], [], [], [], [], [], [k262], [], [k11]] [false, false, false, false, false, false, false, true, true, false, false] [[2, 3, 4, 5, 6, 7], [2, 3, 4, 5, 6, 7], [0, 1, 4], [0, 1, 4], [0, 1, 2, 3], [0, 1], [0, 1], [0, 1], [], [], []] (by kernel_rfl) (by kernel_rfl) ?_ (fun bb268 hlt hnd => ?_)
                  · intro bb268 hlt hnd
                    have e0_bb268 : k262 < bb268 := key_lt hlt 0 rfl
                    have e1_bb268 : k5 < bb268 := key_lt hlt 1 rfl
                    have e2_bb268 : k6 < bb268 := key_lt hlt 2 rfl
                    have e3_bb268 : k11 < bb268 := key_lt hlt 3 rfl
                    have d0_1_bb268 : k262 ≠ k5 := key_ne hnd 0 1 rfl rfl rfl
                    have d0_2_bb268 : k262 ≠ k6 := key_ne hnd 0 2 rfl rfl rfl
                    have d0_3_bb268 : k262 ≠ k11 := key_ne hnd 0 3 rfl rfl rfl
                    have d3_0_bb268 : k11 ≠ k262 := key_ne hnd 3 0 rfl rfl rfl
                    have d3_1_bb268 : k11 ≠ k5 := key_ne hnd 3 1 rfl rfl rfl
                    have d3_2_bb268 : k11 ≠ k6 := key_ne hnd 3 2 rfl rfl rfl
                    exact ⟨by simp <;> omega, by simp <;> omega⟩
                  have e0_bb268 : k262 < bb268 := key_lt hlt 0 rfl
                  have e1_bb268 : k5 < bb268 := key_lt hlt 1 rfl
                  have e2_bb268 : k6 < bb268 := key_lt hlt 2 rfl
                  have e3_bb268 : k11 < bb268 := key_lt hlt 3 rfl
                  have d0_1_bb268 : k262 ≠ k5 := key_ne hnd 0 1 rfl rfl rfl
                  have d0_2_bb268 : k262 ≠ k6 := key_ne hnd 0 2 rfl rfl rfl
                  have d0_3_bb268 : k262 ≠ k11 := key_ne hnd 0 3 rfl rfl rfl
                  have d3_0_bb268 : k11 ≠ k262 := key_ne hnd 3 0 rfl rfl rfl
                  have d3_1_bb268 : k11 ≠ k5 := key_ne hnd 3 1 rfl rfl rfl
                  have d3_2_bb268 : k11 ≠ k6 := key_ne hnd 3 2 rfl rfl rfl
                  clear hlt hnd
                  refine tn_put rfl rfl rfl [0, 1, 2, 3] (by decide) rfl (hmc (by simp [turnsOf] <;> omega) (hmc (by simp [turnsOf] <;> omega) (hmc (by simp [turnsOf] <;> omega) (hmc (by simp [turnsOf] <;> omega) hmn)))) rfl (q_fieldP rfl fa25_1 rfl) ?_
                  refine tn_put rfl rfl rfl [0, 1, 2, 3] (by decide) rfl (hmc (by simp [turnsOf] <;> omega) (hmc (by simp [turnsOf] <;> omega) (hmc (by simp [turnsOf] <;> omega) (hmc (by simp [turnsOf] <;> omega) hmn)))) rfl (q_loadP (v := .one (.own k262 0 ((([] : List (Int × Int)) ++ ([(n3, n4)] : List (Int × Int)))).length)) 3 rfl sz23 rfl rfl rfl rfl) ?_
                  refine tn_put rfl rfl rfl [0, 1, 2, 3] (by decide) rfl (hm0 rfl) rfl (q_fieldP rfl fa25_1 rfl) ?_
                  refine tn_put rfl rfl rfl [0, 1, 2, 3] (by decide) rfl (hm0 rfl) rfl (q_loadP (v := .one (.p fr10 (Sl.t r33 s9))) 1 rfl sz23 rfl rfl rfl rfl) ?_
                  refine tn_put rfl rfl rfl [0, 1, 2, 3] (by decide) rfl (hm0 rfl) rfl (q_move (v := .one (iC .i64 n249)) rfl) ?_
                  obtain ⟨⟨n276, n277⟩, h275, h⟩ := bindS h
                  obtain ⟨h275a, h275b, h275⟩ := atS_some h275
                  refine tn_put rfl rfl rfl [0, 1, 2, 3] (by decide) rfl (hm0 rfl) rfl (q_ixS rfl rfl h275a h275 (el23.trans (congrArg some h275b.symm))) ?_
                  refine tn_put rfl rfl rfl [0, 1, 2, 3] (by decide) rfl (hm0 rfl) rfl (q_loadI (v := .agg [iC .i64 n276, iC .i64 n277]) rfl sz34 (map_get h275) rfl rfl) ?_
                  refine tn_new rfl rfl rfl [0, 1, 2, 3] (by decide) rfl (hm0 rfl) rfl rfl (hkc (by omega) (hkc (by omega) (hkc (by omega) (hkc (by omega) hkn)))) (q_bslice (cs := [iC .i64 n276, iC .i64 n277]) (es := (([(n276, n277)] : List (Int × Int))).map (rowC r33)) ty23 rfl ty34 rfl rfl rfl rfl rfl) ?_
                  obtain ⟨_, h278, h⟩ := bindS h
                  obtain ⟨h278b, rfl⟩ := app_some h278
                  refine tn_app rfl rfl rfl [0, 1, 2, 3, 4] (by decide) rfl (hm0 rfl) rfl rfl (hkc (by omega) (hkc (by omega) (hkc (by omega) (hkc (by omega) (hkc (by omega) hkn))))) (q_app 1 rfl rfl (el_ownM 0 rfl) rfl rfl h278 (fun y => rfl) el23 ty23 rfl rfl rfl rfl rfl) (q := 1) rfl rfl ?_
                  refine tn_put rfl rfl rfl [0, 1, 2, 3, 4] (by decide) rfl (hm0 rfl) rfl (q_fieldP rfl fa25_1 rfl) ?_
                  refine tn_wr rfl rfl [0, 1, 2, 3, 4] (by decide) rfl (hm0 rfl) rfl (q_store (es' := [[iC .i64 n8, .own (bb268 + 8) 0 (((([] : List (Int × Int)) ++ ([(n3, n4)] : List (Int × Int))) ++ ([(n276, n277)] : List (Int × Int)))).length]]) 4 rfl rfl rfl sz23 rfl rfl rfl rfl rfl) (q := 4) rfl rfl ?_
                  refine tn_end ?_
                  refine E_blkN ?_
                  refine E_seq ?_
                  refine L_ops ?_
                  refine ol_put rfl rfl rfl (q_move (v := .one (iC .i64 n249)) rfl) ?_
                  refine ol_put rfl rfl rfl (q_bin rfl rfl (p_add _ _ _ _ _ _ _) rfl) ?_
                  refine ol_put rfl rfl rfl (q_assign (v := .one (iC .i64 (IntKind.i64.wrap (n249 + 1)))) rfl) ?_
                  refine ol_end ?_
                  obtain rfl := Option.some.inj h
                  exact E_next (bb268 + 8) (ups_self ⟨rfl, rfl, rfl, rfl, rfl, rfl, rfl, trivial⟩) [2, 3, 4, 0] (by decide) rfl
                · replace h := ifF c267 h
                  refine ol_put rfl rfl rfl (q_bin rfl rfl (p_neq_f _ _ _ _ _ c267) rfl) ?_
                  refine ol_end ?_
                  refine E_seq ?_
                  refine L_condF rfl ?_
                  refine L_skip ?_
                  refine E_blkN ?_
                  refine E_seq ?_
                  refine L_ops ?_
                  refine ol_put rfl rfl rfl (q_move (v := .one (iC .i64 n249)) rfl) ?_
                  refine ol_put rfl rfl rfl (q_bin rfl rfl (p_add _ _ _ _ _ _ _) rfl) ?_
                  refine ol_put rfl rfl rfl (q_assign (v := .one (iC .i64 (IntKind.i64.wrap (n249 + 1)))) rfl) ?_
                  refine ol_end ?_
                  obtain rfl := Option.some.inj h
                  exact E_next k262 (ups_self ⟨rfl, rfl, rfl, rfl, rfl, rfl, rfl, trivial⟩) [2, 3, 4, 0] (by decide) rfl
              · replace h := ifF c259 h
                refine ol_put rfl rfl rfl (q_bin rfl rfl (p_geq_f _ _ _ _ _ c259) rfl) ?_
                refine ol_put rfl rfl rfl (q_pickT (v := .one (bC false)) rfl rfl) ?_
                refine ol_end ?_
                refine E_seq ?_
                refine L_condF rfl ?_
                refine L_skip ?_
                refine E_seq ?_
                refine L_seq ?_
                refine L_ops ?_
                refine ol_put rfl rfl rfl (q_fieldP rfl fa25_1 rfl) ?_
                refine ol_put rfl rfl rfl (q_loadP (v := .one (.p fr10 (Sl.t r33 s9))) 0 rfl sz23 rfl rfl rfl rfl) ?_
                refine ol_put rfl rfl rfl (q_move (v := .one (iC .i64 n249)) rfl) ?_
                obtain ⟨⟨n281, n282⟩, h280, h⟩ := bindS h
                obtain ⟨h280a, h280b, h280⟩ := atS_some h280
                refine ol_put rfl rfl rfl (q_ixS rfl rfl h280a h280 (el23.trans (congrArg some h280b.symm))) ?_
                refine ol_put rfl rfl rfl (q_fieldI rfl fa34_0 rfl) ?_
                refine ol_put rfl rfl rfl (q_loadI (v := .one (iC .i64 n281)) rfl sz3 (map_get h280) rfl rfl) ?_
                refine ol_put rfl rfl rfl (q_move (v := .one (iC .i64 n3)) rfl) ?_
                by_cases c283 : n281 ≠ n3
                · replace h := ifT c283 h
                  refine ol_put rfl rfl rfl (q_bin rfl rfl (p_neq_t _ _ _ _ _ c283) rfl) ?_
                  refine ol_end ?_
                  refine E_seq ?_
                  refine L_condT rfl ?_
                  refine L_norm (L2 := ([(k5, 2, [[iC .i64 n8, .p fr10 (Sl.t r33 s9)]]), (k6, 2, [[iC .i64 0, .p true (Sl.t r33 (⟨false, 0, []⟩ : Sl (Int × Int)))]]), (k11, 2, [[iC .i64 n8, .p true (Sl.t r33 (mo 2 ([] : List (Int × Int))))]])] : BL)) [0, 1, 2] (by decide) rfl ?_
                  refine L_turn 11 rfl [[], [], [], [], [], [], [], [], [], [], [k11]] [false, false, false, false, false, false, false, true, true, false, false] [[2, 3, 4, 5, 6, 7], [2, 3, 4, 5, 6, 7], [0, 1, 4], [0, 1, 4], [0, 1, 2, 3], [0, 1], [0, 1], [0, 1], [], [], []] (by kernel_rfl) (by kernel_rfl) ?_ (fun bb284 hlt hnd => ?_)
                  · intro bb284 hlt hnd
                    have e0_bb284 : k5 < bb284 := key_lt hlt 0 rfl
                    have e1_bb284 : k6 < bb284 := key_lt hlt 1 rfl
                    have e2_bb284 : k11 < bb284 := key_lt hlt 2 rfl
                    have d2_0_bb284 : k11 ≠ k5 := key_ne hnd 2 0 rfl rfl rfl
                    have d2_1_bb284 : k11 ≠ k6 := key_ne hnd 2 1 rfl rfl rfl
                    exact ⟨by simp <;> omega, by simp <;> omega⟩
                  have e0_bb284 : k5 < bb284 := key_lt hlt 0 rfl
                  have e1_bb284 : k6 < bb284 := key_lt hlt 1 rfl
                  have e2_bb284 : k11 < bb284 := key_lt hlt 2 rfl
                  have d2_0_bb284 : k11 ≠ k5 := key_ne hnd 2 0 rfl rfl rfl
                  have d2_1_bb284 : k11 ≠ k6 := key_ne hnd 2 1 rfl rfl rfl
                  clear hlt hnd
                  refine tn_put rfl rfl rfl [0, 1, 2] (by decide) rfl (hmc (by simp [turnsOf] <;> omega) (hmc (by simp [turnsOf] <;> omega) (hmc (by simp [turnsOf] <;> omega) hmn))) rfl (q_fieldP rfl fa25_1 rfl) ?_
                  refine tn_put rfl rfl rfl [0, 1, 2] (by decide) rfl (hmc (by simp [turnsOf] <;> omega) (hmc (by simp [turnsOf] <;> omega) (hmc (by simp [turnsOf] <;> omega) hmn))) rfl (q_loadP (v := .one (.p true (Sl.t r33 (mo 2 ([] : List (Int × Int)))))) 2 rfl sz23 rfl rfl rfl rfl) ?_
                  refine tn_put rfl rfl rfl [0, 1, 2] (by decide) rfl (hm0 rfl) rfl (q_fieldP rfl fa25_1 rfl) ?_
                  refine tn_put rfl rfl rfl [0, 1, 2] (by decide) rfl (hm0 rfl) rfl (q_loadP (v := .one (.p fr10 (Sl.t r33 s9))) 0 rfl sz23 rfl rfl rfl rfl) ?_
                  refine tn_put rfl rfl rfl [0, 1, 2] (by decide) rfl (hm0 rfl) rfl (q_move (v := .one (iC .i64 n249)) rfl) ?_
                  obtain ⟨⟨n292, n293⟩, h291, h⟩ := bindS h
                  obtain ⟨h291a, h291b, h291⟩ := atS_some h291
                  refine tn_put rfl rfl rfl [0, 1, 2] (by decide) rfl (hm0 rfl) rfl (q_ixS rfl rfl h291a h291 (el23.trans (congrArg some h291b.symm))) ?_
                  refine tn_put rfl rfl rfl [0, 1, 2] (by decide) rfl (hm0 rfl) rfl (q_loadI (v := .agg [iC .i64 n292, iC .i64 n293]) rfl sz34 (map_get h291) rfl rfl) ?_
                  refine tn_new rfl rfl rfl [0, 1, 2] (by decide) rfl (hm0 rfl) rfl rfl (hkc (by omega) (hkc (by omega) (hkc (by omega) hkn))) (q_bslice (cs := [iC .i64 n292, iC .i64 n293]) (es := (([(n292, n293)] : List (Int × Int))).map (rowC r33)) ty23 rfl ty34 rfl rfl rfl rfl rfl) ?_
                  obtain ⟨_, h294, h⟩ := bindS h
                  obtain ⟨h294b, rfl⟩ := app_some h294
                  refine tn_new rfl rfl rfl [0, 1, 2, 3] (by decide) rfl (hm0 rfl) rfl rfl (hkc (by omega) (hkc (by omega) (hkc (by omega) (hkc (by omega) hkn)))) (q_app0 (xs := ((([] : List (Int × Int)) ++ ([(n292, n293)] : List (Int × Int)))).map (rowC r33)) rfl rfl (el_ownM 0 rfl) ⟨_, _, rfl⟩ (by simp [bound]) rfl el23 ty23 rfl rfl rfl rfl rfl) ?_
                  refine tn_put rfl rfl rfl [0, 1, 2, 3, 4] (by decide) rfl (hm0 rfl) rfl (q_fieldP rfl fa25_1 rfl) ?_
                  refine tn_wr rfl rfl [0, 1, 2, 3, 4] (by decide) rfl (hm0 rfl) rfl (q_store (es' := [[iC .i64 n8, .own (bb284 + 8) 0 ((([] : List (Int × Int)) ++ ([(n292, n293)] : List (Int × Int)))).length]]) 4 rfl rfl rfl sz23 rfl rfl rfl rfl rfl) (q := 4) rfl rfl ?_
                  refine tn_end ?_
                  refine E_blkN ?_
                  refine E_seq ?_
                  refine L_ops ?_
                  refine ol_put rfl rfl rfl (q_move (v := .one (iC .i64 n249)) rfl) ?_
                  refine ol_put rfl rfl rfl (q_bin rfl rfl (p_add _ _ _ _ _ _ _) rfl) ?_
                  refine ol_put rfl rfl rfl (q_assign (v := .one (iC .i64 (IntKind.i64.wrap (n249 + 1)))) rfl) ?_
                  refine ol_end ?_
                  obtain rfl := Option.some.inj h
                  exact E_next (bb284 + 8) (ups_self ⟨rfl, rfl, rfl, rfl, rfl, rfl, rfl, trivial⟩) [2, 3, 4, 0] (by decide) rfl
                · replace h := ifF c283 h
                  refine ol_put rfl rfl rfl (q_bin rfl rfl (p_neq_f _ _ _ _ _ c283) rfl) ?_
                  refine ol_end ?_
                  refine E_seq ?_
                  refine L_condF rfl ?_
                  refine L_skip ?_
                  refine E_blkN ?_
                  refine E_seq ?_
                  refine L_ops ?_
                  refine ol_put rfl rfl rfl (q_move (v := .one (iC .i64 n249)) rfl) ?_
                  refine ol_put rfl rfl rfl (q_bin rfl rfl (p_add _ _ _ _ _ _ _) rfl) ?_
                  refine ol_put rfl rfl rfl (q_assign (v := .one (iC .i64 (IntKind.i64.wrap (n249 + 1)))) rfl) ?_
                  refine ol_end ?_
                  obtain rfl := Option.some.inj h
                  exact E_next 0 (ups_self ⟨rfl, rfl, rfl, rfl, rfl, rfl, rfl, trivial⟩) [0, 1, 2] (by decide) rfl
            · replace h := ifT (by decide) h
              refine ol_put rfl rfl rfl (q_not rfl) ?_
              refine ol_put rfl rfl rfl (q_move (v := .one (bC false)) rfl) ?_
              refine ol_skip rfl rfl rfl ?_
              refine ol_skip rfl rfl rfl ?_
              refine ol_skip rfl rfl rfl ?_
              refine ol_skip rfl rfl rfl ?_
              refine ol_skip rfl rfl rfl ?_
              refine ol_skip rfl rfl rfl ?_
              refine ol_skip rfl rfl rfl ?_
              refine ol_skip rfl rfl rfl ?_
              refine ol_put rfl rfl rfl (q_pickF (v := .one (bC false)) rfl rfl) ?_
              refine ol_end ?_
              refine E_seq ?_
              refine L_condF rfl ?_
              refine L_skip ?_
              refine E_seq ?_
              refine L_seq ?_
              refine L_ops ?_
              refine ol_put rfl rfl rfl (q_fieldP rfl fa25_1 rfl) ?_
              refine ol_put rfl rfl rfl (q_loadP (v := .one (.p fr10 (Sl.t r33 s9))) 0 rfl sz23 rfl rfl rfl rfl) ?_
              refine ol_put rfl rfl rfl (q_move (v := .one (iC .i64 n249)) rfl) ?_
              obtain ⟨⟨n297, n298⟩, h296, h⟩ := bindS h
              obtain ⟨h296a, h296b, h296⟩ := atS_some h296
              refine ol_put rfl rfl rfl (q_ixS rfl rfl h296a h296 (el23.trans (congrArg some h296b.symm))) ?_
              refine ol_put rfl rfl rfl (q_fieldI rfl fa34_0 rfl) ?_
              refine ol_put rfl rfl rfl (q_loadI (v := .one (iC .i64 n297)) rfl sz3 (map_get h296) rfl rfl) ?_
              refine ol_put rfl rfl rfl (q_move (v := .one (iC .i64 n3)) rfl) ?_
              by_cases c299 : n297 ≠ n3
              · replace h := ifT c299 h
                refine ol_put rfl rfl rfl (q_bin rfl rfl (p_neq_t _ _ _ _ _ c299) rfl) ?_
                refine ol_end ?_
                refine E_seq ?_
                refine L_condT rfl ?_
                refine L_norm (L2 := ([(k5, 2, [[iC .i64 n8, .p fr10 (Sl.t r33 s9)]]), (k6, 2, [[iC .i64 0, .p true (Sl.t r33 (⟨false, 0, []⟩ : Sl (Int × Int)))]]), (k11, 2, [[iC .i64 n8, .p true (Sl.t r33 (mo 2 ([] : List (Int × Int))))]])] : BL)) [0, 1, 2] (by decide) rfl ?_
                refine L_turn 11 rfl [[], [], [], [], [], [], [], [], [], [], [k11]] [false, false, false, false, false, false, false, true, true, false, false] [[2, 3, 4, 5, 6, 7], [2, 3, 4, 5, 6, 7], [0, 1, 4], [0, 1, 4], [0, 1, 2, 3], [0, 1], [0, 1], [0, 1], [], [], []] (by kernel_rfl) (by kernel_rfl) ?_ (fun bb300 hlt hnd => ?_)
                · intro bb300 hlt hnd
                  have e0_bb300 : k5 < bb300 := key_lt hlt 0 rfl
                  have e1_bb300 : k6 < bb300 := key_lt hlt 1 rfl
                  have e2_bb300 : k11 < bb300 := key_lt hlt 2 rfl
                  have d2_0_bb300 : k11 ≠ k5 := key_ne hnd 2 0 rfl rfl rfl
                  have d2_1_bb300 : k11 ≠ k6 := key_ne hnd 2 1 rfl rfl rfl
                  exact ⟨by simp <;> omega, by simp <;> omega⟩
                have e0_bb300 : k5 < bb300 := key_lt hlt 0 rfl
                have e1_bb300 : k6 < bb300 := key_lt hlt 1 rfl
                have e2_bb300 : k11 < bb300 := key_lt hlt 2 rfl
                have d2_0_bb300 : k11 ≠ k5 := key_ne hnd 2 0 rfl rfl rfl
                have d2_1_bb300 : k11 ≠ k6 := key_ne hnd 2 1 rfl rfl rfl
                clear hlt hnd
                refine tn_put rfl rfl rfl [0, 1, 2] (by decide) rfl (hmc (by simp [turnsOf] <;> omega) (hmc (by simp [turnsOf] <;> omega) (hmc (by simp [turnsOf] <;> omega) hmn))) rfl (q_fieldP rfl fa25_1 rfl) ?_
                refine tn_put rfl rfl rfl [0, 1, 2] (by decide) rfl (hmc (by simp [turnsOf] <;> omega) (hmc (by simp [turnsOf] <;> omega) (hmc (by simp [turnsOf] <;> omega) hmn))) rfl (q_loadP (v := .one (.p true (Sl.t r33 (mo 2 ([] : List (Int × Int)))))) 2 rfl sz23 rfl rfl rfl rfl) ?_
                refine tn_put rfl rfl rfl [0, 1, 2] (by decide) rfl (hm0 rfl) rfl (q_fieldP rfl fa25_1 rfl) ?_
                refine tn_put rfl rfl rfl [0, 1, 2] (by decide) rfl (hm0 rfl) rfl (q_loadP (v := .one (.p fr10 (Sl.t r33 s9))) 0 rfl sz23 rfl rfl rfl rfl) ?_
                refine tn_put rfl rfl rfl [0, 1, 2] (by decide) rfl (hm0 rfl) rfl (q_move (v := .one (iC .i64 n249)) rfl) ?_
                obtain ⟨⟨n308, n309⟩, h307, h⟩ := bindS h
                obtain ⟨h307a, h307b, h307⟩ := atS_some h307
                refine tn_put rfl rfl rfl [0, 1, 2] (by decide) rfl (hm0 rfl) rfl (q_ixS rfl rfl h307a h307 (el23.trans (congrArg some h307b.symm))) ?_
                refine tn_put rfl rfl rfl [0, 1, 2] (by decide) rfl (hm0 rfl) rfl (q_loadI (v := .agg [iC .i64 n308, iC .i64 n309]) rfl sz34 (map_get h307) rfl rfl) ?_
                refine tn_new rfl rfl rfl [0, 1, 2] (by decide) rfl (hm0 rfl) rfl rfl (hkc (by omega) (hkc (by omega) (hkc (by omega) hkn))) (q_bslice (cs := [iC .i64 n308, iC .i64 n309]) (es := (([(n308, n309)] : List (Int × Int))).map (rowC r33)) ty23 rfl ty34 rfl rfl rfl rfl rfl) ?_
                obtain ⟨_, h310, h⟩ := bindS h
                obtain ⟨h310b, rfl⟩ := app_some h310
                refine tn_new rfl rfl rfl [0, 1, 2, 3] (by decide) rfl (hm0 rfl) rfl rfl (hkc (by omega) (hkc (by omega) (hkc (by omega) (hkc (by omega) hkn)))) (q_app0 (xs := ((([] : List (Int × Int)) ++ ([(n308, n309)] : List (Int × Int)))).map (rowC r33)) rfl rfl (el_ownM 0 rfl) ⟨_, _, rfl⟩ (by simp [bound]) rfl el23 ty23 rfl rfl rfl rfl rfl) ?_
                refine tn_put rfl rfl rfl [0, 1, 2, 3, 4] (by decide) rfl (hm0 rfl) rfl (q_fieldP rfl fa25_1 rfl) ?_
                refine tn_wr rfl rfl [0, 1, 2, 3, 4] (by decide) rfl (hm0 rfl) rfl (q_store (es' := [[iC .i64 n8, .own (bb300 + 8) 0 ((([] : List (Int × Int)) ++ ([(n308, n309)] : List (Int × Int)))).length]]) 4 rfl rfl rfl sz23 rfl rfl rfl rfl rfl) (q := 4) rfl rfl ?_
                refine tn_end ?_
                refine E_blkN ?_
                refine E_seq ?_
                refine L_ops ?_
                refine ol_put rfl rfl rfl (q_move (v := .one (iC .i64 n249)) rfl) ?_
                refine ol_put rfl rfl rfl (q_bin rfl rfl (p_add _ _ _ _ _ _ _) rfl) ?_
                refine ol_put rfl rfl rfl (q_assign (v := .one (iC .i64 (IntKind.i64.wrap (n249 + 1)))) rfl) ?_
                refine ol_end ?_
                obtain rfl := Option.some.inj h
                exact E_next (bb300 + 8) (ups_self ⟨rfl, rfl, rfl, rfl, rfl, rfl, rfl, trivial⟩) [2, 3, 4, 0] (by decide) rfl
              · replace h := ifF c299 h
                refine ol_put rfl rfl rfl (q_bin rfl rfl (p_neq_f _ _ _ _ _ c299) rfl) ?_
                refine ol_end ?_
                refine E_seq ?_
                refine L_condF rfl ?_
                refine L_skip ?_
                refine E_blkN ?_
                refine E_seq ?_
                refine L_ops ?_
                refine ol_put rfl rfl rfl (q_move (v := .one (iC .i64 n249)) rfl) ?_
                refine ol_put rfl rfl rfl (q_bin rfl rfl (p_add _ _ _ _ _ _ _) rfl) ?_
                refine ol_put rfl rfl rfl (q_assign (v := .one (iC .i64 (IntKind.i64.wrap (n249 + 1)))) rfl) ?_
                refine ol_end ?_
                obtain rfl := Option.some.inj h
                exact E_next 0 (ups_self ⟨rfl, rfl, rfl, rfl, rfl, rfl, rfl, trivial⟩) [0, 1, 2] (by decide) rfl
          · replace h := ifF c254 h
            refine ol_put rfl rfl rfl (q_bin rfl rfl (p_lss_f _ _ _ _ _ c254) rfl) ?_
            refine ol_end ?_
            refine E_seq ?_
            refine L_condF rfl ?_
            refine L_exit ?_
            refine E_seqX ?_
            obtain rfl := Option.some.inj h
            exact E_out (E_exit 0 (ups_self ⟨rfl, rfl, rfl, rfl, rfl, trivial⟩) [1, 2] (by decide) rfl)
        · skip
          refine L_seq ?_
          refine L_seq ?_
          refine L_ops ?_
          refine ol_put rfl rfl rfl (q_move (v := .one (iC .i64 n249)) rfl) ?_
          refine ol_put rfl rfl rfl (q_fieldP rfl fa25_1 rfl) ?_
          refine ol_put rfl rfl rfl (q_loadP (v := .one (.p fr10 (Sl.t r33 s9))) 0 rfl sz23 rfl rfl rfl rfl) ?_
          refine ol_put rfl rfl rfl (q_lenS rfl ty23 rfl rfl rfl rfl) ?_
          by_cases c254 : n249 < ((s9.l.length : Nat) : Int)
          · replace h := ifT c254 h
            refine ol_put rfl rfl rfl (q_bin rfl rfl (p_lss_t _ _ _ _ _ c254) rfl) ?_
            refine ol_end ?_
            refine E_seq ?_
            refine L_condT rfl ?_
            refine L_skip ?_
            refine E_seq ?_
            refine L_seq ?_
            refine L_block ?_
            refine L_seq ?_
            refine L_seq ?_
            refine L_ops ?_
            refine ol_put rfl rfl rfl (q_move (v := .one (bC b248)) rfl) ?_
            rcases b248 with _ | _
            · replace h := ifF (by decide) h
              refine ol_put rfl rfl rfl (q_not rfl) ?_
              refine ol_put rfl rfl rfl (q_move (v := .one (bC true)) rfl) ?_
              refine ol_put rfl rfl rfl (q_fieldP rfl fa25_1 rfl) ?_
              refine ol_put rfl rfl rfl (q_loadP (v := .one (.p fr10 (Sl.t r33 s9))) 0 rfl sz23 rfl rfl rfl rfl) ?_
              refine ol_put rfl rfl rfl (q_move (v := .one (iC .i64 n249)) rfl) ?_
              obtain ⟨⟨n257, n258⟩, h256, h⟩ := bindS h
              obtain ⟨h256a, h256b, h256⟩ := atS_some h256
              refine ol_put rfl rfl rfl (q_ixS rfl rfl h256a h256 (el23.trans (congrArg some h256b.symm))) ?_
              refine ol_put rfl rfl rfl (q_fieldI rfl fa34_0 rfl) ?_
              refine ol_put rfl rfl rfl (q_loadI (v := .one (iC .i64 n257)) rfl sz3 (map_get h256) rfl rfl) ?_
              refine ol_put rfl rfl rfl (q_move (v := .one (iC .i64 n3)) rfl) ?_
              by_cases c259 : n257 ≥ n3
              · replace h := ifT c259 h
                refine ol_put rfl rfl rfl (q_bin rfl rfl (p_geq_t _ _ _ _ _ c259) rfl) ?_
                refine ol_put rfl rfl rfl (q_pickT (v := .one (bC true)) rfl rfl) ?_
                refine ol_end ?_
                refine E_seq ?_
                refine L_condT rfl ?_
                refine L_seq ?_
                refine L_ops ?_
                refine ol_put rfl rfl rfl (q_fieldP rfl fa25_1 rfl) ?_
                refine ol_put rfl rfl rfl (q_loadP (v := .one (.own k251 0 ((y252 :: t253)).length)) 2 rfl sz23 rfl rfl rfl rfl) ?_
                refine ol_put rfl rfl rfl (q_move (v := .one (iC .i64 n3)) rfl) ?_
                refine ol_put rfl rfl rfl (q_move (v := .one (iC .i64 n4)) rfl) ?_
                refine ol_put rfl rfl rfl (q_build (cs := [iC .i64 n3, iC .i64 n4]) ty34 rfl pl34 rfl) ?_
                refine ol_new rfl rfl rfl (q_bslice (cs := [iC .i64 n3, iC .i64 n4]) (es := (([(n3, n4)] : List (Int × Int))).map (rowC r33)) ty23 rfl ty34 rfl rfl rfl rfl rfl) (fun k260 => ?_)
                obtain ⟨_, h261, h⟩ := bindS h
                obtain ⟨h261b, rfl⟩ := app_some h261
                refine ol_app rfl rfl rfl (q_app 4 rfl rfl (el_ownM 0 rfl) rfl rfl h261 (fun y => rfl) el23 ty23 rfl rfl rfl rfl rfl) rfl (fun k262 => ?_)
                refine ol_put rfl rfl rfl (q_fieldP rfl fa25_1 rfl) ?_
                refine ol_wr rfl rfl (q_store (es' := [[iC .i64 n8, .own k262 0 (((y252 :: t253) ++ ([(n3, n4)] : List (Int × Int)))).length]]) 4 rfl rfl rfl sz23 rfl rfl rfl rfl rfl) rfl ?_
                refine ol_end ?_
                refine E_seq ?_
                refine L_ops ?_
                refine ol_put rfl rfl rfl (q_assign (v := .one (bC true)) rfl) ?_
                refine ol_end ?_
                refine E_seq ?_
                refine L_seq ?_
                refine L_ops ?_
                refine ol_put rfl rfl rfl (q_fieldP rfl fa25_1 rfl) ?_
                refine ol_put rfl rfl rfl (q_loadP (v := .one (.p fr10 (Sl.t r33 s9))) 2 rfl sz23 rfl rfl rfl rfl) ?_
                refine ol_put rfl rfl rfl (q_move (v := .one (iC .i64 n249)) rfl) ?_
                obtain ⟨⟨n265, n266⟩, h264, h⟩ := bindS h
                obtain ⟨h264a, h264b, h264⟩ := atS_some h264
                refine ol_put rfl rfl rfl (q_ixS rfl rfl h264a h264 (el23.trans (congrArg some h264b.symm))) ?_
                refine ol_put rfl rfl rfl (q_fieldI rfl fa34_0 rfl) ?_
                refine ol_put rfl rfl rfl (q_loadI (v := .one (iC .i64 n265)) rfl sz3 (map_get h264) rfl rfl) ?_
                refine ol_put rfl rfl rfl (q_move (v := .one (iC .i64 n3)) rfl) ?_
                by_cases c267 : n265 ≠ n3
                · replace h := ifT c267 h
                  refine ol_put rfl rfl rfl (q_bin rfl rfl (p_neq_t _ _ _ _ _ c267) rfl) ?_
                  refine ol_end ?_
                  refine E_seq ?_
                  refine L_condT rfl ?_
                  refine L_norm (L2 := ([(k262, 2, (((y252 :: t253) ++ ([(n3, n4)] : List (Int × Int)))).map (rowC r33)), (k5, 2, [[iC .i64 n8, .p fr10 (Sl.t r33 s9)]]), (k6, 2, [[iC .i64 0, .p true (Sl.t r33 (⟨false, 0, []⟩ : Sl (Int × Int)))]]), (k11, 2, [[iC .i64 n8, .own k262 0 (((y252 :: t253) ++ ([(n3, n4)] : List (Int × Int)))).length]])] : BL)) [0, 2, 3, 4] (by decide) rfl ?_
                  refine L_turn 11 rfl [[], [], [], [], [], [], [], [], [k262], [], [k11]] [false, false, false, false, false, false, false, true, true, false, false] [[2, 3, 4, 5, 6, 7], [2, 3, 4, 5, 6, 7], [0, 1, 4], [0, 1, 4], [0, 1, 2, 3], [0, 1], [0, 1], [0, 1], [], [], []] (by kernel_rfl) (by kernel_rfl) ?_ (fun bb268 hlt hnd => ?_)
                  · intro bb268 hlt hnd
                    have e0_bb268 : k262 < bb268 := key_lt hlt 0 rfl
                    have e1_bb268 : k5 < bb268 := key_lt hlt 1 rfl
                    have e2_bb268 : k6 < bb268 := key_lt hlt 2 rfl
                    have e3_bb268 : k11 < bb268 := key_lt hlt 3 rfl
                    have d0_1_bb268 : k262 ≠ k5 := key_ne hnd 0 1 rfl rfl rfl
                    have d0_2_bb268 : k262 ≠ k6 := key_ne hnd 0 2 rfl rfl rfl
                    have d0_3_bb268 : k262 ≠ k11 := key_ne hnd 0 3 rfl rfl rfl
                    have d3_0_bb268 : k11 ≠ k262 := key_ne hnd 3 0 rfl rfl rfl
                    have d3_1_bb268 : k11 ≠ k5 := key_ne hnd 3 1 rfl rfl rfl
                    have d3_2_bb268 : k11 ≠ k6 := key_ne hnd 3 2 rfl rfl rfl
                    exact ⟨by simp <;> omega, by simp <;> omega⟩
                  have e0_bb268 : k262 < bb268 := key_lt hlt 0 rfl
                  have e1_bb268 : k5 < bb268 := key_lt hlt 1 rfl
                  have e2_bb268 : k6 < bb268 := key_lt hlt 2 rfl
                  have e3_bb268 : k11 < bb268 := key_lt hlt 3 rfl
                  have d0_1_bb268 : k262 ≠ k5 := key_ne hnd 0 1 rfl rfl rfl
                  have d0_2_bb268 : k262 ≠ k6 := key_ne hnd 0 2 rfl rfl rfl
                  have d0_3_bb268 : k262 ≠ k11 := key_ne hnd 0 3 rfl rfl rfl
                  have d3_0_bb268 : k11 ≠ k262 := key_ne hnd 3 0 rfl rfl rfl
                  have d3_1_bb268 : k11 ≠ k5 := key_ne hnd 3 1 rfl rfl rfl
                  have d3_2_bb268 : k11 ≠ k6 := key_ne hnd 3 2 rfl rfl rfl
                  clear hlt hnd
                  refine tn_put rfl rfl rfl [0, 1, 2, 3] (by decide) rfl (hmc (by simp [turnsOf] <;> omega) (hmc (by simp [turnsOf] <;> omega) (hmc (by simp [turnsOf] <;> omega) (hmc (by simp [turnsOf] <;> omega) hmn)))) rfl (q_fieldP rfl fa25_1 rfl) ?_
                  refine tn_put rfl rfl rfl [0, 1, 2, 3] (by decide) rfl (hmc (by simp [turnsOf] <;> omega) (hmc (by simp [turnsOf] <;> omega) (hmc (by simp [turnsOf] <;> omega) (hmc (by simp [turnsOf] <;> omega) hmn)))) rfl (q_loadP (v := .one (.own k262 0 (((y252 :: t253) ++ ([(n3, n4)] : List (Int × Int)))).length)) 3 rfl sz23 rfl rfl rfl rfl) ?_
                  refine tn_put rfl rfl rfl [0, 1, 2, 3] (by decide) rfl (hm0 rfl) rfl (q_fieldP rfl fa25_1 rfl) ?_
                  refine tn_put rfl rfl rfl [0, 1, 2, 3] (by decide) rfl (hm0 rfl) rfl (q_loadP (v := .one (.p fr10 (Sl.t r33 s9))) 1 rfl sz23 rfl rfl rfl rfl) ?_
                  refine tn_put rfl rfl rfl [0, 1, 2, 3] (by decide) rfl (hm0 rfl) rfl (q_move (v := .one (iC .i64 n249)) rfl) ?_
                  obtain ⟨⟨n276, n277⟩, h275, h⟩ := bindS h
                  obtain ⟨h275a, h275b, h275⟩ := atS_some h275
                  refine tn_put rfl rfl rfl [0, 1, 2, 3] (by decide) rfl (hm0 rfl) rfl (q_ixS rfl rfl h275a h275 (el23.trans (congrArg some h275b.symm))) ?_
                  refine tn_put rfl rfl rfl [0, 1, 2, 3] (by decide) rfl (hm0 rfl) rfl (q_loadI (v := .agg [iC .i64 n276, iC .i64 n277]) rfl sz34 (map_get h275) rfl rfl) ?_
                  refine tn_new rfl rfl rfl [0, 1, 2, 3] (by decide) rfl (hm0 rfl) rfl rfl (hkc (by omega) (hkc (by omega) (hkc (by omega) (hkc (by omega) hkn)))) (q_bslice (cs := [iC .i64 n276, iC .i64 n277]) (es := (([(n276, n277)] : List (Int × Int))).map (rowC r33)) ty23 rfl ty34 rfl rfl rfl rfl rfl) ?_
                  obtain ⟨_, h278, h⟩ := bindS h
                  obtain ⟨h278b, rfl⟩ := app_some h278
                  refine tn_app rfl rfl rfl [0, 1, 2, 3, 4] (by decide) rfl (hm0 rfl) rfl rfl (hkc (by omega) (hkc (by omega) (hkc (by omega) (hkc (by omega) (hkc (by omega) hkn))))) (q_app 1 rfl rfl (el_ownM 0 rfl) rfl rfl h278 (fun y => rfl) el23 ty23 rfl rfl rfl rfl rfl) (q := 1) rfl rfl ?_
                  refine tn_put rfl rfl rfl [0, 1, 2, 3, 4] (by decide) rfl (hm0 rfl) rfl (q_fieldP rfl fa25_1 rfl) ?_
                  refine tn_wr rfl rfl [0, 1, 2, 3, 4] (by decide) rfl (hm0 rfl) rfl (q_store (es' := [[iC .i64 n8, .own (bb268 + 8) 0 ((((y252 :: t253) ++ ([(n3, n4)] : List (Int × Int))) ++ ([(n276, n277)] : List (Int × Int)))).length]]) 4 rfl rfl rfl sz23 rfl rfl rfl rfl rfl) (q := 4) rfl rfl ?_
                  refine tn_end ?_
                  refine E_blkN ?_
                  refine E_seq ?_
                  refine L_ops ?_
                  refine ol_put rfl rfl rfl (q_move (v := .one (iC .i64 n249)) rfl) ?_
                  refine ol_put rfl rfl rfl (q_bin rfl rfl (p_add _ _ _ _ _ _ _) rfl) ?_
                  refine ol_put rfl rfl rfl (q_assign (v := .one (iC .i64 (IntKind.i64.wrap (n249 + 1)))) rfl) ?_
                  refine ol_end ?_
                  obtain rfl := Option.some.inj h
                  exact E_next (bb268 + 8) (ups_self ⟨rfl, rfl, rfl, rfl, rfl, rfl, rfl, trivial⟩) [2, 3, 4, 0] (by decide) rfl
                · replace h := ifF c267 h
                  refine ol_put rfl rfl rfl (q_bin rfl rfl (p_neq_f _ _ _ _ _ c267) rfl) ?_
                  refine ol_end ?_
                  refine E_seq ?_
                  refine L_condF rfl ?_
                  refine L_skip ?_
                  refine E_blkN ?_
                  refine E_seq ?_
                  refine L_ops ?_
                  refine ol_put rfl rfl rfl (q_move (v := .one (iC .i64 n249)) rfl) ?_
                  refine ol_put rfl rfl rfl (q_bin rfl rfl (p_add _ _ _ _ _ _ _) rfl) ?_
                  refine ol_put rfl rfl rfl (q_assign (v := .one (iC .i64 (IntKind.i64.wrap (n249 + 1)))) rfl) ?_
                  refine ol_end ?_
                  obtain rfl := Option.some.inj h
                  exact E_next k262 (ups_self ⟨rfl, rfl, rfl, rfl, rfl, rfl, rfl, trivial⟩) [2, 3, 4, 0] (by decide) rfl
              · replace h := ifF c259 h
                refine ol_put rfl rfl rfl (q_bin rfl rfl (p_geq_f _ _ _ _ _ c259) rfl) ?_
                refine ol_put rfl rfl rfl (q_pickT (v := .one (bC false)) rfl rfl) ?_
                refine ol_end ?_
                refine E_seq ?_
                refine L_condF rfl ?_
                refine L_skip ?_
                refine E_seq ?_
                refine L_seq ?_
                refine L_ops ?_
                refine ol_put rfl rfl rfl (q_fieldP rfl fa25_1 rfl) ?_
                refine ol_put rfl rfl rfl (q_loadP (v := .one (.p fr10 (Sl.t r33 s9))) 0 rfl sz23 rfl rfl rfl rfl) ?_
                refine ol_put rfl rfl rfl (q_move (v := .one (iC .i64 n249)) rfl) ?_
                obtain ⟨⟨n281, n282⟩, h280, h⟩ := bindS h
                obtain ⟨h280a, h280b, h280⟩ := atS_some h280
                refine ol_put rfl rfl rfl (q_ixS rfl rfl h280a h280 (el23.trans (congrArg some h280b.symm))) ?_
                refine ol_put rfl rfl rfl (q_fieldI rfl fa34_0 rfl) ?_
                refine ol_put rfl rfl rfl (q_loadI (v := .one (iC .i64 n281)) rfl sz3 (map_get h280) rfl rfl) ?_
                refine ol_put rfl rfl rfl (q_move (v := .one (iC .i64 n3)) rfl) ?_
                by_cases c283 : n281 ≠ n3
                · replace h := ifT c283 h
                  refine ol_put rfl rfl rfl (q_bin rfl rfl (p_neq_t _ _ _ _ _ c283) rfl) ?_
                  refine ol_end ?_
                  refine E_seq ?_
                  refine L_condT rfl ?_
                  refine L_norm (L2 := ([(k5, 2, [[iC .i64 n8, .p fr10 (Sl.t r33 s9)]]), (k6, 2, [[iC .i64 0, .p true (Sl.t r33 (⟨false, 0, []⟩ : Sl (Int × Int)))]]), (k11, 2, [[iC .i64 n8, .own k251 0 ((y252 :: t253)).length]]), (k251, 2, ((y252 :: t253)).map (rowC r33))] : BL)) [0, 1, 2, 3] (by decide) rfl ?_
                  refine L_turn 11 rfl [[], [], [], [], [], [], [], [], [k251], [], [k11]] [false, false, false, false, false, false, false, true, true, false, false] [[2, 3, 4, 5, 6, 7], [2, 3, 4, 5, 6, 7], [0, 1, 4], [0, 1, 4], [0, 1, 2, 3], [0, 1], [0, 1], [0, 1], [], [], []] (by kernel_rfl) (by kernel_rfl) ?_ (fun bb284 hlt hnd => ?_)
                  · intro bb284 hlt hnd
                    have e0_bb284 : k5 < bb284 := key_lt hlt 0 rfl
                    have e1_bb284 : k6 < bb284 := key_lt hlt 1 rfl
                    have e2_bb284 : k11 < bb284 := key_lt hlt 2 rfl
                    have e3_bb284 : k251 < bb284 := key_lt hlt 3 rfl
                    have d2_0_bb284 : k11 ≠ k5 := key_ne hnd 2 0 rfl rfl rfl
                    have d2_1_bb284 : k11 ≠ k6 := key_ne hnd 2 1 rfl rfl rfl
                    have d2_3_bb284 : k11 ≠ k251 := key_ne hnd 2 3 rfl rfl rfl
                    have d3_0_bb284 : k251 ≠ k5 := key_ne hnd 3 0 rfl rfl rfl
                    have d3_1_bb284 : k251 ≠ k6 := key_ne hnd 3 1 rfl rfl rfl
                    have d3_2_bb284 : k251 ≠ k11 := key_ne hnd 3 2 rfl rfl rfl
                    exact ⟨by simp <;> omega, by simp <;> omega⟩
                  have e0_bb284 : k5 < bb284 := key_lt hlt 0 rfl
                  have e1_bb284 : k6 < bb284 := key_lt hlt 1 rfl
                  have e2_bb284 : k11 < bb284 := key_lt hlt 2 rfl
                  have e3_bb284 : k251 < bb284 := key_lt hlt 3 rfl
                  have d2_0_bb284 : k11 ≠ k5 := key_ne hnd 2 0 rfl rfl rfl
                  have d2_1_bb284 : k11 ≠ k6 := key_ne hnd 2 1 rfl rfl rfl
                  have d2_3_bb284 : k11 ≠ k251 := key_ne hnd 2 3 rfl rfl rfl
                  have d3_0_bb284 : k251 ≠ k5 := key_ne hnd 3 0 rfl rfl rfl
                  have d3_1_bb284 : k251 ≠ k6 := key_ne hnd 3 1 rfl rfl rfl
                  have d3_2_bb284 : k251 ≠ k11 := key_ne hnd 3 2 rfl rfl rfl
                  clear hlt hnd
                  refine tn_put rfl rfl rfl [0, 1, 2, 3] (by decide) rfl (hmc (by simp [turnsOf] <;> omega) (hmc (by simp [turnsOf] <;> omega) (hmc (by simp [turnsOf] <;> omega) (hmc (by simp [turnsOf] <;> omega) hmn)))) rfl (q_fieldP rfl fa25_1 rfl) ?_
                  refine tn_put rfl rfl rfl [0, 1, 2, 3] (by decide) rfl (hmc (by simp [turnsOf] <;> omega) (hmc (by simp [turnsOf] <;> omega) (hmc (by simp [turnsOf] <;> omega) (hmc (by simp [turnsOf] <;> omega) hmn)))) rfl (q_loadP (v := .one (.own k251 0 ((y252 :: t253)).length)) 2 rfl sz23 rfl rfl rfl rfl) ?_
                  refine tn_put rfl rfl rfl [0, 1, 2, 3] (by decide) rfl (hm0 rfl) rfl (q_fieldP rfl fa25_1 rfl) ?_
                  refine tn_put rfl rfl rfl [0, 1, 2, 3] (by decide) rfl (hm0 rfl) rfl (q_loadP (v := .one (.p fr10 (Sl.t r33 s9))) 0 rfl sz23 rfl rfl rfl rfl) ?_
                  refine tn_put rfl rfl rfl [0, 1, 2, 3] (by decide) rfl (hm0 rfl) rfl (q_move (v := .one (iC .i64 n249)) rfl) ?_
                  obtain ⟨⟨n292, n293⟩, h291, h⟩ := bindS h
                  obtain ⟨h291a, h291b, h291⟩ := atS_some h291
                  refine tn_put rfl rfl rfl [0, 1, 2, 3] (by decide) rfl (hm0 rfl) rfl (q_ixS rfl rfl h291a h291 (el23.trans (congrArg some h291b.symm))) ?_
                  refine tn_put rfl rfl rfl [0, 1, 2, 3] (by decide) rfl (hm0 rfl) rfl (q_loadI (v := .agg [iC .i64 n292, iC .i64 n293]) rfl sz34 (map_get h291) rfl rfl) ?_
                  refine tn_new rfl rfl rfl [0, 1, 2, 3] (by decide) rfl (hm0 rfl) rfl rfl (hkc (by omega) (hkc (by omega) (hkc (by omega) (hkc (by omega) hkn)))) (q_bslice (cs := [iC .i64 n292, iC .i64 n293]) (es := (([(n292, n293)] : List (Int × Int))).map (rowC r33)) ty23 rfl ty34 rfl rfl rfl rfl rfl) ?_
                  obtain ⟨_, h294, h⟩ := bindS h
                  obtain ⟨h294b, rfl⟩ := app_some h294
                  refine tn_app rfl rfl rfl [0, 1, 2, 3, 4] (by decide) rfl (hm0 rfl) rfl rfl (hkc (by omega) (hkc (by omega) (hkc (by omega) (hkc (by omega) (hkc (by omega) hkn))))) (q_app 4 rfl rfl (el_ownM 0 rfl) rfl rfl h294 (fun y => rfl) el23 ty23 rfl rfl rfl rfl rfl) (q := 4) rfl rfl ?_
                  refine tn_put rfl rfl rfl [0, 1, 2, 3, 4] (by decide) rfl (hm0 rfl) rfl (q_fieldP rfl fa25_1 rfl) ?_
                  refine tn_wr rfl rfl [0, 1, 2, 3, 4] (by decide) rfl (hm0 rfl) rfl (q_store (es' := [[iC .i64 n8, .own (bb284 + 8) 0 (((y252 :: t253) ++ ([(n292, n293)] : List (Int × Int)))).length]]) 4 rfl rfl rfl sz23 rfl rfl rfl rfl rfl) (q := 4) rfl rfl ?_
                  refine tn_end ?_
                  refine E_blkN ?_
                  refine E_seq ?_
                  refine L_ops ?_
                  refine ol_put rfl rfl rfl (q_move (v := .one (iC .i64 n249)) rfl) ?_
                  refine ol_put rfl rfl rfl (q_bin rfl rfl (p_add _ _ _ _ _ _ _) rfl) ?_
                  refine ol_put rfl rfl rfl (q_assign (v := .one (iC .i64 (IntKind.i64.wrap (n249 + 1)))) rfl) ?_
                  refine ol_end ?_
                  obtain rfl := Option.some.inj h
                  exact E_next (bb284 + 8) (ups_self ⟨rfl, rfl, rfl, rfl, rfl, rfl, rfl, trivial⟩) [2, 3, 4, 0] (by decide) rfl
                · replace h := ifF c283 h
                  refine ol_put rfl rfl rfl (q_bin rfl rfl (p_neq_f _ _ _ _ _ c283) rfl) ?_
                  refine ol_end ?_
                  refine E_seq ?_
                  refine L_condF rfl ?_
                  refine L_skip ?_
                  refine E_blkN ?_
                  refine E_seq ?_
                  refine L_ops ?_
                  refine ol_put rfl rfl rfl (q_move (v := .one (iC .i64 n249)) rfl) ?_
                  refine ol_put rfl rfl rfl (q_bin rfl rfl (p_add _ _ _ _ _ _ _) rfl) ?_
                  refine ol_put rfl rfl rfl (q_assign (v := .one (iC .i64 (IntKind.i64.wrap (n249 + 1)))) rfl) ?_
                  refine ol_end ?_
                  obtain rfl := Option.some.inj h
                  exact E_next k251 (ups_self ⟨rfl, rfl, rfl, rfl, rfl, rfl, rfl, trivial⟩) [0, 1, 2, 3] (by decide) rfl
            · replace h := ifT (by decide) h
              refine ol_put rfl rfl rfl (q_not rfl) ?_
              refine ol_put rfl rfl rfl (q_move (v := .one (bC false)) rfl) ?_
              refine ol_skip rfl rfl rfl ?_
              refine ol_skip rfl rfl rfl ?_
              refine ol_skip rfl rfl rfl ?_
              refine ol_skip rfl rfl rfl ?_
              refine ol_skip rfl rfl rfl ?_
              refine ol_skip rfl rfl rfl ?_
              refine ol_skip rfl rfl rfl ?_
              refine ol_skip rfl rfl rfl ?_
              refine ol_put rfl rfl rfl (q_pickF (v := .one (bC false)) rfl rfl) ?_
              refine ol_end ?_
              refine E_seq ?_
              refine L_condF rfl ?_
              refine L_skip ?_
              refine E_seq ?_
              refine L_seq ?_
              refine L_ops ?_
              refine ol_put rfl rfl rfl (q_fieldP rfl fa25_1 rfl) ?_
              refine ol_put rfl rfl rfl (q_loadP (v := .one (.p fr10 (Sl.t r33 s9))) 0 rfl sz23 rfl rfl rfl rfl) ?_
              refine ol_put rfl rfl rfl (q_move (v := .one (iC .i64 n249)) rfl) ?_
              obtain ⟨⟨n297, n298⟩, h296, h⟩ := bindS h
              obtain ⟨h296a, h296b, h296⟩ := atS_some h296
              refine ol_put rfl rfl rfl (q_ixS rfl rfl h296a h296 (el23.trans (congrArg some h296b.symm))) ?_
              refine ol_put rfl rfl rfl (q_fieldI rfl fa34_0 rfl) ?_
              refine ol_put rfl rfl rfl (q_loadI (v := .one (iC .i64 n297)) rfl sz3 (map_get h296) rfl rfl) ?_
              refine ol_put rfl rfl rfl (q_move (v := .one (iC .i64 n3)) rfl) ?_
              by_cases c299 : n297 ≠ n3
              · replace h := ifT c299 h
                refine ol_put rfl rfl rfl (q_bin rfl rfl (p_neq_t _ _ _ _ _ c299) rfl) ?_
                refine ol_end ?_
                refine E_seq ?_
                refine L_condT rfl ?_
                refine L_norm (L2 := ([(k5, 2, [[iC .i64 n8, .p fr10 (Sl.t r33 s9)]]), (k6, 2, [[iC .i64 0, .p true (Sl.t r33 (⟨false, 0, []⟩ : Sl (Int × Int)))]]), (k11, 2, [[iC .i64 n8, .own k251 0 ((y252 :: t253)).length]]), (k251, 2, ((y252 :: t253)).map (rowC r33))] : BL)) [0, 1, 2, 3] (by decide) rfl ?_
                refine L_turn 11 rfl [[], [], [], [], [], [], [], [], [k251], [], [k11]] [false, false, false, false, false, false, false, true, true, false, false] [[2, 3, 4, 5, 6, 7], [2, 3, 4, 5, 6, 7], [0, 1, 4], [0, 1, 4], [0, 1, 2, 3], [0, 1], [0, 1], [0, 1], [], [], []] (by kernel_rfl) (by kernel_rfl) ?_ (fun bb300 hlt hnd => ?_)
                · intro bb300 hlt hnd
                  have e0_bb300 : k5 < bb300 := key_lt hlt 0 rfl
                  have e1_bb300 : k6 < bb300 := key_lt hlt 1 rfl
                  have e2_bb300 : k11 < bb300 := key_lt hlt 2 rfl
                  have e3_bb300 : k251 < bb300 := key_lt hlt 3 rfl
                  have d2_0_bb300 : k11 ≠ k5 := key_ne hnd 2 0 rfl rfl rfl
                  have d2_1_bb300 : k11 ≠ k6 := key_ne hnd 2 1 rfl rfl rfl
                  have d2_3_bb300 : k11 ≠ k251 := key_ne hnd 2 3 rfl rfl rfl
                  have d3_0_bb300 : k251 ≠ k5 := key_ne hnd 3 0 rfl rfl rfl
                  have d3_1_bb300 : k251 ≠ k6 := key_ne hnd 3 1 rfl rfl rfl
                  have d3_2_bb300 : k251 ≠ k11 := key_ne hnd 3 2 rfl rfl rfl
                  exact ⟨by simp <;> omega, by simp <;> omega⟩
                have e0_bb300 : k5 < bb300 := key_lt hlt 0 rfl
                have e1_bb300 : k6 < bb300 := key_lt hlt 1 rfl
                have e2_bb300 : k11 < bb300 := key_lt hlt 2 rfl
                have e3_bb300 : k251 < bb300 := key_lt hlt 3 rfl
                have d2_0_bb300 : k11 ≠ k5 := key_ne hnd 2 0 rfl rfl rfl
                have d2_1_bb300 : k11 ≠ k6 := key_ne hnd 2 1 rfl rfl rfl
                have d2_3_bb300 : k11 ≠ k251 := key_ne hnd 2 3 rfl rfl rfl
                have d3_0_bb300 : k251 ≠ k5 := key_ne hnd 3 0 rfl rfl rfl
                have d3_1_bb300 : k251 ≠ k6 := key_ne hnd 3 1 rfl rfl rfl
                have d3_2_bb300 : k251 ≠ k11 := key_ne hnd 3 2 rfl rfl rfl
                clear hlt hnd
                refine tn_put rfl rfl rfl [0, 1, 2, 3] (by decide) rfl (hmc (by simp [turnsOf] <;> omega) (hmc (by simp [turnsOf] <;> omega) (hmc (by simp [turnsOf] <;> omega) (hmc (by simp [turnsOf] <;> omega) hmn)))) rfl (q_fieldP rfl fa25_1 rfl) ?_
                refine tn_put rfl rfl rfl [0, 1, 2, 3] (by decide) rfl (hmc (by simp [turnsOf] <;> omega) (hmc (by simp [turnsOf] <;> omega) (hmc (by simp [turnsOf] <;> omega) (hmc (by simp [turnsOf] <;> omega) hmn)))) rfl (q_loadP (v := .one (.own k251 0 ((y252 :: t253)).length)) 2 rfl sz23 rfl rfl rfl rfl) ?_
                refine tn_put rfl rfl rfl [0, 1, 2, 3] (by decide) rfl (hm0 rfl) rfl (q_fieldP rfl fa25_1 rfl) ?_
                refine tn_put rfl rfl rfl [0, 1, 2, 3] (by decide) rfl (hm0 rfl) rfl (q_loadP (v := .one (.p fr10 (Sl.t r33 s9))) 0 rfl sz23 rfl rfl rfl rfl) ?_
                refine tn_put rfl rfl rfl [0, 1, 2, 3] (by decide) rfl (hm0 rfl) rfl (q_move (v := .one (iC .i64 n249)) rfl) ?_
                obtain ⟨⟨n308, n309⟩, h307, h⟩ := bindS h
                obtain ⟨h307a, h307b, h307⟩ := atS_some h307
                refine tn_put rfl rfl rfl [0, 1, 2, 3] (by decide) rfl (hm0 rfl) rfl (q_ixS rfl rfl h307a h307 (el23.trans (congrArg some h307b.symm))) ?_
                refine tn_put rfl rfl rfl [0, 1, 2, 3] (by decide) rfl (hm0 rfl) rfl (q_loadI (v := .agg [iC .i64 n308, iC .i64 n309]) rfl sz34 (map_get h307) rfl rfl) ?_
                refine tn_new rfl rfl rfl [0, 1, 2, 3] (by decide) rfl (hm0 rfl) rfl rfl (hkc (by omega) (hkc (by omega) (hkc (by omega) (hkc (by omega) hkn)))) (q_bslice (cs := [iC .i64 n308, iC .i64 n309]) (es := (([(n308, n309)] : List (Int × Int))).map (rowC r33)) ty23 rfl ty34 rfl rfl rfl rfl rfl) ?_
                obtain ⟨_, h310, h⟩ := bindS h
                obtain ⟨h310b, rfl⟩ := app_some h310
                refine tn_app rfl rfl rfl [0, 1, 2, 3, 4] (by decide) rfl (hm0 rfl) rfl rfl (hkc (by omega) (hkc (by omega) (hkc (by omega) (hkc (by omega) (hkc (by omega) hkn))))) (q_app 4 rfl rfl (el_ownM 0 rfl) rfl rfl h310 (fun y => rfl) el23 ty23 rfl rfl rfl rfl rfl) (q := 4) rfl rfl ?_
                refine tn_put rfl rfl rfl [0, 1, 2, 3, 4] (by decide) rfl (hm0 rfl) rfl (q_fieldP rfl fa25_1 rfl) ?_
                refine tn_wr rfl rfl [0, 1, 2, 3, 4] (by decide) rfl (hm0 rfl) rfl (q_store (es' := [[iC .i64 n8, .own (bb300 + 8) 0 (((y252 :: t253) ++ ([(n308, n309)] : List (Int × Int)))).length]]) 4 rfl rfl rfl sz23 rfl rfl rfl rfl rfl) (q := 4) rfl rfl ?_
                refine tn_end ?_
                refine E_blkN ?_
                refine E_seq ?_
                refine L_ops ?_
                refine ol_put rfl rfl rfl (q_move (v := .one (iC .i64 n249)) rfl) ?_
                refine ol_put rfl rfl rfl (q_bin rfl rfl (p_add _ _ _ _ _ _ _) rfl) ?_
                refine ol_put rfl rfl rfl (q_assign (v := .one (iC .i64 (IntKind.i64.wrap (n249 + 1)))) rfl) ?_
                refine ol_end ?_
                obtain rfl := Option.some.inj h
                exact E_next (bb300 + 8) (ups_self ⟨rfl, rfl, rfl, rfl, rfl, rfl, rfl, trivial⟩) [2, 3, 4, 0] (by decide) rfl
              · replace h := ifF c299 h
                refine ol_put rfl rfl rfl (q_bin rfl rfl (p_neq_f _ _ _ _ _ c299) rfl) ?_
                refine ol_end ?_
                refine E_seq ?_
                refine L_condF rfl ?_
                refine L_skip ?_
                refine E_blkN ?_
                refine E_seq ?_
                refine L_ops ?_
                refine ol_put rfl rfl rfl (q_move (v := .one (iC .i64 n249)) rfl) ?_
                refine ol_put rfl rfl rfl (q_bin rfl rfl (p_add _ _ _ _ _ _ _) rfl) ?_
                refine ol_put rfl rfl rfl (q_assign (v := .one (iC .i64 (IntKind.i64.wrap (n249 + 1)))) rfl) ?_
                refine ol_end ?_
                obtain rfl := Option.some.inj h
                exact E_next k251 (ups_self ⟨rfl, rfl, rfl, rfl, rfl, rfl, rfl, trivial⟩) [0, 1, 2, 3] (by decide) rfl
          · replace h := ifF c254 h
            refine ol_put rfl rfl rfl (q_bin rfl rfl (p_lss_f _ _ _ _ _ c254) rfl) ?_
            refine ol_end ?_
            refine E_seq ?_
            refine L_condF rfl ?_
            refine L_exit ?_
            refine E_seqX ?_
            obtain rfl := Option.some.inj h
            exact E_out (E_exit k251 (ups_self ⟨rfl, rfl, rfl, rfl, rfl, trivial⟩) [1, 2, 3] (by decide) rfl)
      · rintro (⟨b311, l312⟩ | u) h
        · refine J_x (fun k313 g => ?_)
          replace h := elimL h
          rcases l312 with _ | ⟨y314, t315⟩
          · skip
            refine E_blkH ?_
            refine E_seq ?_
            refine L_seq ?_
            refine L_seq ?_
            refine L_ops ?_
            refine ol_put rfl rfl rfl (q_move (v := .one (bC b311)) rfl) ?_
            rcases b311 with _ | _
            · replace h := ifF (by decide) h
              refine ol_put rfl rfl rfl (q_not rfl) ?_
              refine ol_end ?_
              refine E_seq ?_
              refine L_condT rfl ?_
              refine L_ops ?_
              refine ol_put rfl rfl rfl (q_fieldP rfl fa25_1 rfl) ?_
              refine ol_put rfl rfl rfl (q_loadP (v := .one (.p true (Sl.t r33 (mo 2 ([] : List (Int × Int)))))) 1 rfl sz23 rfl rfl rfl rfl) ?_
              refine ol_put rfl rfl rfl (q_move (v := .one (iC .i64 n3)) rfl) ?_
              refine ol_put rfl rfl rfl (q_move (v := .one (iC .i64 n4)) rfl) ?_
              refine ol_put rfl rfl rfl (q_build (cs := [iC .i64 n3, iC .i64 n4]) ty34 rfl pl34 rfl) ?_
              refine ol_new rfl rfl rfl (q_bslice (cs := [iC .i64 n3, iC .i64 n4]) (es := (([(n3, n4)] : List (Int × Int))).map (rowC r33)) ty23 rfl ty34 rfl rfl rfl rfl rfl) (fun k316 => ?_)
              obtain ⟨_, h317, h⟩ := bindS h
              obtain ⟨h317b, rfl⟩ := app_some h317
              refine ol_new rfl rfl rfl (q_app0 (xs := ((([] : List (Int × Int)) ++ ([(n3, n4)] : List (Int × Int)))).map (rowC r33)) rfl rfl (el_ownM 0 rfl) ⟨_, _, rfl⟩ (by simp [bound]) rfl el23 ty23 rfl rfl rfl rfl rfl) (fun k318 => ?_)
              refine ol_put rfl rfl rfl (q_fieldP rfl fa25_1 rfl) ?_
              refine ol_wr rfl rfl (q_store (es' := [[iC .i64 n8, .own k318 0 ((([] : List (Int × Int)) ++ ([(n3, n4)] : List (Int × Int)))).length]]) 3 rfl rfl rfl sz23 rfl rfl rfl rfl rfl) rfl ?_
              refine ol_end ?_
              refine E_seq ?_
              refine L_seq ?_
              refine L_ops ?_
              refine ol_put rfl rfl rfl (q_loadP (v := .agg [iC .i64 n8, .own k318 0 ((([] : List (Int × Int)) ++ ([(n3, n4)] : List (Int × Int)))).length]) 3 rfl sz25 rfl rfl rfl rfl) ?_
              refine ol_wr rfl rfl (q_store (es' := [[iC .i64 n8, .own k318 0 ((([] : List (Int × Int)) ++ ([(n3, n4)] : List (Int × Int)))).length]]) 2 rfl rfl rfl sz25 rfl rfl rfl rfl rfl) rfl ?_
              refine ol_end ?_
              refine E_seq ?_
              refine L_ret ?_
              obtain rfl := Option.some.inj h
              exact E_endF (.inr rfl) (res_cell (d := .agg [iC .i64 n8, .own k318 0 ((([] : List (Int × Int)) ++ ([(n3, n4)] : List (Int × Int)))).length]) 2 rfl sz25 rfl rfl rfl rfl res_nil) (vw_cons (vd_agg (vc_cons vc_v (vc_cons (vc_own (r := r33) 0 rfl (fun x h m => rfl)) vc_nil))) vw_nil) (fun h hb => own_agg) rfl rfl
            · replace h := ifT (by decide) h
              refine ol_put rfl rfl rfl (q_not rfl) ?_
              refine ol_end ?_
              refine E_seq ?_
              refine L_condF rfl ?_
              refine L_skip ?_
              refine E_seq ?_
              refine L_seq ?_
              refine L_ops ?_
              refine ol_put rfl rfl rfl (q_loadP (v := .agg [iC .i64 n8, .p true (Sl.t r33 (mo 2 ([] : List (Int × Int))))]) 1 rfl sz25 rfl rfl rfl rfl) ?_
              refine ol_wr rfl rfl (q_store (es' := [[iC .i64 n8, .p true (Sl.t r33 (mo 2 ([] : List (Int × Int))))]]) 0 rfl rfl rfl sz25 rfl rfl rfl rfl rfl) rfl ?_
              refine ol_end ?_
              refine E_seq ?_
              refine L_ret ?_
              obtain rfl := Option.some.inj h
              exact E_endF (.inr rfl) (res_cell (d := .agg [iC .i64 n8, .p true (Sl.t r33 (mo 2 ([] : List (Int × Int))))]) 0 rfl sz25 rfl rfl rfl rfl res_nil) (vw_cons (vd_agg (vc_cons vc_v (vc_cons vc_s vc_nil))) vw_nil) (fun h hb => own_agg) rfl rfl
          · skip
            refine E_blkH ?_
            refine E_seq ?_
            refine L_seq ?_
            refine L_seq ?_
            refine L_ops ?_
            refine ol_put rfl rfl rfl (q_move (v := .one (bC b311)) rfl) ?_
            rcases b311 with _ | _
            · replace h := ifF (by decide) h
              refine ol_put rfl rfl rfl (q_not rfl) ?_
              refine ol_end ?_
              refine E_seq ?_
              refine L_condT rfl ?_
              refine L_ops ?_
              refine ol_put rfl rfl rfl (q_fieldP rfl fa25_1 rfl) ?_
              refine ol_put rfl rfl rfl (q_loadP (v := .one (.own k313 0 ((y314 :: t315)).length)) 1 rfl sz23 rfl rfl rfl rfl) ?_
              refine ol_put rfl rfl rfl (q_move (v := .one (iC .i64 n3)) rfl) ?_
              refine ol_put rfl rfl rfl (q_move (v := .one (iC .i64 n4)) rfl) ?_
              refine ol_put rfl rfl rfl (q_build (cs := [iC .i64 n3, iC .i64 n4]) ty34 rfl pl34 rfl) ?_
              refine ol_new rfl rfl rfl (q_bslice (cs := [iC .i64 n3, iC .i64 n4]) (es := (([(n3, n4)] : List (Int × Int))).map (rowC r33)) ty23 rfl ty34 rfl rfl rfl rfl rfl) (fun k316 => ?_)
              obtain ⟨_, h317, h⟩ := bindS h
              obtain ⟨h317b, rfl⟩ := app_some h317
              refine ol_app rfl rfl rfl (q_app 3 rfl rfl (el_ownM 0 rfl) rfl rfl h317 (fun y => rfl) el23 ty23 rfl rfl rfl rfl rfl) rfl (fun k318 => ?_)
              refine ol_put rfl rfl rfl (q_fieldP rfl fa25_1 rfl) ?_
              refine ol_wr rfl rfl (q_store (es' := [[iC .i64 n8, .own k318 0 (((y314 :: t315) ++ ([(n3, n4)] : List (Int × Int)))).length]]) 3 rfl rfl rfl sz23 rfl rfl rfl rfl rfl) rfl ?_
              refine ol_end ?_
              refine E_seq ?_
              refine L_seq ?_
              refine L_ops ?_
              refine ol_put rfl rfl rfl (q_loadP (v := .agg [iC .i64 n8, .own k318 0 (((y314 :: t315) ++ ([(n3, n4)] : List (Int × Int)))).length]) 3 rfl sz25 rfl rfl rfl rfl) ?_
              refine ol_wr rfl rfl (q_store (es' := [[iC .i64 n8, .own k318 0 (((y314 :: t315) ++ ([(n3, n4)] : List (Int × Int)))).length]]) 2 rfl rfl rfl sz25 rfl rfl rfl rfl rfl) rfl ?_
              refine ol_end ?_
              refine E_seq ?_
              refine L_ret ?_
              obtain rfl := Option.some.inj h
              exact E_endF (.inr rfl) (res_cell (d := .agg [iC .i64 n8, .own k318 0 (((y314 :: t315) ++ ([(n3, n4)] : List (Int × Int)))).length]) 2 rfl sz25 rfl rfl rfl rfl res_nil) (vw_cons (vd_agg (vc_cons vc_v (vc_cons (vc_own (r := r33) 0 rfl (fun x h m => rfl)) vc_nil))) vw_nil) (fun h hb => own_agg) rfl rfl
            · replace h := ifT (by decide) h
              refine ol_put rfl rfl rfl (q_not rfl) ?_
              refine ol_end ?_
              refine E_seq ?_
              refine L_condF rfl ?_
              refine L_skip ?_
              refine E_seq ?_
              refine L_seq ?_
              refine L_ops ?_
              refine ol_put rfl rfl rfl (q_loadP (v := .agg [iC .i64 n8, .own k313 0 ((y314 :: t315)).length]) 1 rfl sz25 rfl rfl rfl rfl) ?_
              refine ol_wr rfl rfl (q_store (es' := [[iC .i64 n8, .own k313 0 ((y314 :: t315)).length]]) 0 rfl rfl rfl sz25 rfl rfl rfl rfl rfl) rfl ?_
              refine ol_end ?_
              refine E_seq ?_
              refine L_ret ?_
              obtain rfl := Option.some.inj h
              exact E_endF (.inr rfl) (res_cell (d := .agg [iC .i64 n8, .own k313 0 ((y314 :: t315)).length]) 0 rfl sz25 rfl rfl rfl rfl res_nil) (vw_cons (vd_agg (vc_cons vc_v (vc_cons (vc_own (r := r33) 2 rfl (fun x h m => rfl)) vc_nil))) vw_nil) (fun h hb => own_agg) rfl rfl
        · obtain rfl := Option.some.inj (elimR h)
          exact J_up (fun s hs => hs)
end Ev
end Go.Proofs.Ytioagbejilllfaa
