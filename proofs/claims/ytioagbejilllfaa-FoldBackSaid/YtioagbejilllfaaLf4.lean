/- Functions of the program as functions on data, and that they are. -/
import Derived.Test.YtioagbejilllfaaLf1
import Derived.Test.YtioagbejilllfaaLf3
import Derived.Test.YtioagbejilllfaaLy1
namespace Go.Proofs.Ytioagbejilllfaa
namespace Ev
open Go
set_option linter.unusedVariables false
set_option linter.unusedSimpArgs false
set_option maxRecDepth 100000
set_option maxHeartbeats 1000000
attribute [local irreducible] OpsL StL TnL WpL EndL
noncomputable def fold_Select_b1 (s3 : Sl (Int)) (s19 : List (Int × Bool)) (a : (List (Int × Bool)) × Int) : Option (((List (Int × Bool)) × Int) ⊕ ((List (Int × Bool)) ⊕ ((Int × (Sl (Int × Int))) × Int))) :=
  match a with
  | (l49, n50) => (if n50 < ((s3.l.length : Nat) : Int) then ((atS 1 s3 n50).bind fun n55 => ((atL s19 n55).bind fun (n58, b59) => ((atL l49 n50).bind fun (n62, b63) => some (.inl ((l49.set n50.toNat (n58, b59)), (IntKind.i64.wrap (n50 + 1))))))) else some (.inr (.inl l49)))
noncomputable def fold_Select (a0 : Int × (Sl (Int × Int))) (s3 : Sl (Int)) : Option ((Int × (Sl (Int × Int))) × Int) :=
  match a0 with
  | (n1, s2) => ((fold_sure (n1, s2)).bind fun (n7, s8) => (if ((s3.l.length : Nat) : Int) > 4096 then some ((0, (⟨false, 0, []⟩ : Sl (Int × Int))), 5) else ((fold_outside s3 n7).bind fun b12 => (if b12 = true then some ((0, (⟨false, 0, []⟩ : Sl (Int × Int))), 3) else ((fold_slots (n7, s8)).bind fun s19 => ((lenOk ((s3.l.length : Nat) : Int)).bind fun _ => ((loopO (fold_Select_b1 s3 s19) ((List.replicate ((s3.l.length : Nat) : Int).toNat ((0, false) : Int × Bool)), 0)).bind (Sum.elim (fun l64 => ((fold_gathered (⟨true, 2, l64⟩ : Sl (Int × Bool))).bind fun (n67, s68) => some ((n67, s68), 0))) (fun u => some u)))))))))
theorem fold_Select_r (m : Nat) {a0 : Int × (Sl (Int × Int))} {s3 : Sl (Int)} {out : (Int × (Sl (Int × Int))) × Int} (h : fold_Select a0 s3 = some out) : RunsP E1 (m + 4) 21 [.agg (r24 a0), .one (Sl.t r3 s3)] (.fresh, [.agg (r24 out.1), .one (iT .i64 out.2)]) := by
  obtain ⟨n1, s2⟩ := a0
  refine fn_F rfl (by rw [E1_fn]; exact show fiOf Try.prog 21 = _ by unfold fiOf; rw [Try.func21]; unfold Try.f21; rfl) rfl ?_
  dsimp only
  unfold fold_Select at h
  refine L_seq ?_
  refine L_ops ?_
  refine ol_new rfl rfl rfl (q_box ty25 rfl (cs := [iC .i64 n1, .p false (Sl.t r33 s2)]) rfl rfl) (fun k4 => ?_)
  refine ol_new rfl rfl rfl (q_alloc ty25 (row := [iC .i64 0, .p true (Sl.t r33 (⟨false, 0, []⟩ : Sl (Int × Int)))]) rfl rfl) (fun k5 => ?_)
  refine ol_put rfl rfl rfl (q_assign (v := .one (iC .i64 0)) rfl) ?_
  refine ol_end ?_
  refine E_seq ?_
  refine L_seq ?_
  refine L_ops ?_
  refine ol_put rfl rfl rfl (q_loadP (v := .agg [iC .i64 n1, .p false (Sl.t r33 s2)]) 1 rfl sz25 rfl rfl rfl rfl) ?_
  obtain ⟨⟨n7, s8⟩, h6, h⟩ := bindS h
  refine ol_putX rfl rfl rfl (q_callX (v := fun fr9 => .agg [iC .i64 n7, .p fr9 (Sl.t r33 s8)]) (args := [.agg [iC .i64 n1, .p false (Sl.t r33 s2)]]) (fold_sure_r (m + 0) h6) rfl rfl (vw_cons (vd_agg (vc_cons vc_v (vc_cons vc_s vc_nil))) vw_nil) rfl rfl (fun fr => rfl)) (fun fr9 => ?_)
  refine ol_wr rfl rfl (q_store (es' := [[iC .i64 n7, .p fr9 (Sl.t r33 s8)]]) 1 rfl rfl rfl sz25 rfl rfl rfl rfl rfl) rfl ?_
  refine ol_end ?_
  refine E_seq ?_
  refine L_seq ?_
  refine L_seq ?_
  refine L_ops ?_
  refine ol_put rfl rfl rfl (q_move (v := .one (.p false (Sl.t r3 s3))) rfl) ?_
  refine ol_put rfl rfl rfl (q_lenS rfl ty42 rfl rfl rfl rfl) ?_
  by_cases c10 : ((s3.l.length : Nat) : Int) > 4096
  · replace h := ifT c10 h
    refine ol_put rfl rfl rfl (q_bin rfl rfl (p_gtr_t _ _ _ _ _ c10) rfl) ?_
    refine ol_end ?_
    refine E_seq ?_
    refine L_condT rfl ?_
    refine L_seq ?_
    refine L_ops ?_
    refine ol_put rfl rfl rfl (q_build (cs := [iC .i64 0, .p true (Sl.t r33 (⟨false, 0, []⟩ : Sl (Int × Int)))]) ty25 rfl pl25 rfl) ?_
    refine ol_wr rfl rfl (q_store (es' := [[iC .i64 0, .p true (Sl.t r33 (⟨false, 0, []⟩ : Sl (Int × Int)))]]) 0 rfl rfl rfl sz25 rfl rfl rfl rfl rfl) rfl ?_
    refine ol_put rfl rfl rfl (q_assign (v := .one (iC .i64 5)) rfl) ?_
    refine ol_end ?_
    refine E_seq ?_
    refine L_ret ?_
    refine E_seqR ?_
    obtain rfl := Option.some.inj h
    exact E_endF (.inr rfl) (res_cell (d := .agg [iC .i64 0, .p true (Sl.t r33 (⟨false, 0, []⟩ : Sl (Int × Int)))]) 0 rfl sz25 rfl rfl rfl rfl (res_tmp rfl res_nil)) (vw_cons (vd_agg (vc_cons vc_v (vc_cons vc_s vc_nil))) (vw_cons (vd_one vc_v) vw_nil)) (fun h hb => own_no2) rfl rfl
  · replace h := ifF c10 h
    refine ol_put rfl rfl rfl (q_bin rfl rfl (p_gtr_f _ _ _ _ _ c10) rfl) ?_
    refine ol_end ?_
    refine E_seq ?_
    refine L_condF rfl ?_
    refine L_skip ?_
    refine E_seq ?_
    refine L_seq ?_
    refine L_seq ?_
    refine L_ops ?_
    refine ol_put rfl rfl rfl (q_move (v := .one (.p false (Sl.t r3 s3))) rfl) ?_
    refine ol_put rfl rfl rfl (q_fieldP rfl fa25_0 rfl) ?_
    refine ol_put rfl rfl rfl (q_loadP (v := .one (iC .i64 n7)) 1 rfl sz3 rfl rfl rfl rfl) ?_
    obtain ⟨b12, h11, h⟩ := bindS h
    refine ol_put rfl rfl rfl (q_callF (v := .one (bC b12)) (args := [.one (.p false (Sl.t r3 s3)), .one (iC .i64 n7)]) (fold_outside_r (m + 2) h11) rfl rfl (vw_cons (vd_one vc_s) (vw_cons (vd_one vc_v) vw_nil)) rfl rfl) ?_
    refine ol_end ?_
    refine E_seq ?_
    rcases b12 with _ | _
    · replace h := ifF (by decide) h
      refine L_condF rfl ?_
      refine L_skip ?_
      refine E_seq ?_
      refine L_seq ?_
      refine L_norm (L2 := ([[(k5, 2, [[iC .i64 0, .p true (Sl.t r33 (⟨false, 0, []⟩ : Sl (Int × Int)))]])], [(k4, 2, [[iC .i64 n7, .p fr9 (Sl.t r33 s8)]])]] : BL)) [0, 1] (by decide) rfl ?_
      refine L_turn 7 rfl [[], [], [], [], [], [], []] [(false, []), (true, []), (false, []), (false, []), (true, []), (false, []), (false, [])] [[2, 3, 4], [2, 3, 4], [0, 1, 5], [0, 1, 5], [0, 1, 5], [2, 3, 4], []] (by kernel_rfl) (by kernel_rfl) (by kernel_rfl) ?_ (fun bb13 hlt hnd => ?_)
      · intro bb13 hlt hnd
        have e_k5 : k5 < bb13 := key_lt hlt 0 rfl
        have e_k4 : k4 < bb13 := key_lt hlt 1 rfl
        exact ⟨(by first | (simp; done) | (simp; omega) | (simp; assumption) | (simp_all; done) | (simp_all; omega)), (by first | (simp; done) | (simp; omega) | (simp; assumption) | (simp_all; done) | (simp_all; omega))⟩
      have e_k5 : k5 < bb13 := key_lt hlt 0 rfl
      have e_k4 : k4 < bb13 := key_lt hlt 1 rfl
      clear hlt hnd
      refine tn_put rfl rfl rfl [1] (by decide) rfl (hmc (by first | (simp [turnsOf]; done) | (simp [turnsOf]; omega) | (simp [turnsOf]; assumption) | (simp_all [turnsOf]; done) | (simp_all [turnsOf]; omega)) hmn) rfl (q_loadP (v := .agg [iC .i64 n7, .p fr9 (Sl.t r33 s8)]) 0 rfl sz25 rfl rfl rfl rfl) ?_
      obtain ⟨s19, h18, h⟩ := bindS h
      refine tn_new rfl rfl rfl [] (by decide) rfl hmn rfl rfl (hkc (by omega) (hkc (by omega) hkn)) (q_callO (args := [.agg [iC .i64 n7, .p fr9 (Sl.t r33 s8)]]) (fold_slots_r (m + 2) h18) rfl rfl (vw_cons (vd_agg (vc_cons vc_v (vc_cons vc_s vc_nil))) vw_nil) rfl) ?_
      refine tn_put rfl rfl rfl [] (by decide) rfl hmn rfl (q_move (v := .one (.p false (Sl.t r3 s3))) rfl) ?_
      refine tn_put rfl rfl rfl [] (by decide) rfl hmn rfl (q_lenS rfl ty42 rfl rfl rfl rfl) ?_
      obtain ⟨u20, h21, h⟩ := bindS h
      refine tn_new rfl rfl rfl [] (by decide) rfl hmn rfl rfl (hkc (by omega) (hkc (by omega) (hkc (by omega) hkn))) (q_mkslice (r := rowC r79) (a := ((0, false) : Int × Bool)) ty77 rfl ty80 rfl rfl (lenOk_some h21).1 (lenOk_some h21).2 rfl rfl) ?_
      refine tn_put rfl rfl rfl [] (by decide) rfl hmn rfl (q_assign (v := .one (.own (bb13 + 1) 0 (s19).length)) rfl) ?_
      refine tn_put rfl rfl rfl [] (by decide) rfl (hm0 rfl) rfl (q_assign (v := .one (.own (bb13 + 4) 0 ((List.replicate ((s3.l.length : Nat) : Int).toNat ((0, false) : Int × Bool))).length)) rfl) ?_
      refine tn_end ?_
      refine E_seq ?_
      refine L_seq ?_
      refine L_seq ?_
      refine L_ops ?_
      refine ol_put rfl rfl rfl (q_move (v := .one (.p false (Sl.t r3 s3))) rfl) ?_
      refine ol_put rfl rfl rfl (q_lenS rfl ty42 rfl rfl rfl rfl) ?_
      refine ol_put rfl rfl rfl (q_move (v := .one (iC .i64 0)) rfl) ?_
      refine ol_end ?_
      refine E_seq ?_
      refine L_block ?_
      let S1 : ((List (Int × Bool)) × Int) → Nat → (Nat → D) → Nat → D := fun a kt g => ups g [(4, .one (.ptr k5 0 0)), (6, .one (.own (bb13 + 1) 0 (s19).length)), (7, .one (.own kt 0 (a.1).length)), (26, .one (.p false (Sl.t r3 s3))), (27, .one (iC .i64 ((s3.l.length : Nat) : Int))), (28, .one (iC .i64 a.2))]
      let SL1 : ((List (Int × Bool)) × Int) → Nat → BL := fun a kt => ([[(k5, 2, [[iC .i64 0, .p true (Sl.t r33 (⟨false, 0, []⟩ : Sl (Int × Int)))]])], [((bb13 + 1), 2, (s19).map (rowC r79))], [(kt, 2, (a.1).map (rowC r79))]] : BL)
      let Sx1 : (List (Int × Bool)) → Nat → (Nat → D) → Nat → D := fun a kt g => ups g [(4, .one (.ptr k5 0 0)), (7, .one (.own kt 0 (a).length))]
      let SLx1 : (List (Int × Bool)) → Nat → BL := fun a kt => ([[(k5, 2, [[iC .i64 0, .p true (Sl.t r33 (⟨false, 0, []⟩ : Sl (Int × Int)))]])], [(kt, 2, (a).map (rowC r79))]] : BL)
      let G1 : ((Int × (Sl (Int × Int))) × Int) → Ex → St → Prop := fun u => endQ E1 [.cell 4 25, .tmp 5] (.fresh, [.agg (r24 u.1), .one (iT .i64 u.2)])
      let J1 : ((List (Int × Bool)) ⊕ ((Int × (Sl (Int × Int))) × Int)) → Ex → St → Prop := JX 43 0 Sx1 SLx1 G1
      refine L_loopS (fold_Select_b1 s3 s19) S1 SL1 J1 JX_n ((List.replicate ((s3.l.length : Nat) : Int).toNat ((0, false) : Int × Bool)), 0) h (bb13 + 4) (ups_self ⟨rfl, rfl, rfl, rfl, rfl, rfl, trivial⟩) [2, 1, 0] (by decide) rfl ?_ ?_
      · rintro ⟨l49, n50⟩ k51 g out h
        change fold_Select_b1 s3 s19 (l49, n50) = some out at h
        unfold fold_Select_b1 at h
        refine L_seq ?_
        refine L_ops ?_
        by_cases c52 : n50 < ((s3.l.length : Nat) : Int)
        · replace h := ifT c52 h
          refine ol_put rfl rfl rfl (q_bin rfl rfl (p_lss_t _ _ _ _ _ c52) rfl) ?_
          refine ol_end ?_
          refine E_seq ?_
          refine L_seq ?_
          refine L_condT rfl ?_
          refine L_skip ?_
          refine E_seq ?_
          refine L_seq ?_
          refine L_block ?_
          refine L_seq ?_
          refine L_ops ?_
          refine ol_put rfl rfl rfl (q_move (v := .one (iC .i64 n50)) rfl) ?_
          obtain ⟨n55, h54, h⟩ := bindS h
          obtain ⟨h54a, h54b, h54⟩ := atS_some h54
          refine ol_put rfl rfl rfl (q_ixS rfl rfl h54a h54 (el42.trans (congrArg some h54b.symm))) ?_
          refine ol_put rfl rfl rfl (q_loadI (v := .one (iC .i64 n55)) rfl sz3 (map_get h54) rfl rfl) ?_
          refine ol_put rfl rfl rfl (q_assign (v := .one (iC .i64 n50)) rfl) ?_
          refine ol_put rfl rfl rfl (q_assign (v := .one (iC .i64 n55)) rfl) ?_
          refine ol_end ?_
          refine E_seq ?_
          refine L_ops ?_
          refine ol_put rfl rfl rfl (q_move (v := .one (.own k51 0 (l49).length)) rfl) ?_
          refine ol_put rfl rfl rfl (q_move (v := .one (iC .i64 n50)) rfl) ?_
          refine ol_put rfl rfl rfl (q_move (v := .one (.own (bb13 + 1) 0 (s19).length)) rfl) ?_
          refine ol_put rfl rfl rfl (q_move (v := .one (iC .i64 n55)) rfl) ?_
          obtain ⟨⟨n58, b59⟩, h57, h⟩ := bindS h
          obtain ⟨h57a, h57⟩ := atL_some h57
          refine ol_put rfl rfl rfl (q_ixO 1 rfl rfl h57a h57 rfl el77) ?_
          refine ol_put rfl rfl rfl (q_loadP (v := .agg [iC .i64 n58, bC b59]) 1 rfl sz80 rfl (map_get h57) rfl rfl) ?_
          obtain ⟨⟨n62, b63⟩, h61, h⟩ := bindS h
          obtain ⟨h61a, h61⟩ := atL_some h61
          refine ol_put rfl rfl rfl (q_ixO 2 rfl rfl h61a h61 rfl el77) ?_
          refine ol_wr rfl rfl (q_store (e' := rowC r79 (n58, b59)) (es' := ((l49.set n50.toNat (n58, b59))).map (rowC r79)) 2 rfl rfl rfl sz80 rfl rfl (map_get h61) rfl map_set) rfl ?_
          refine ol_re 7 (v := .one (.own k51 0 ((l49.set n50.toNat (n58, b59))).length)) (Eq.trans (b := .one (.own k51 0 (l49).length)) rfl (congrArg D.one own_setC)) ?_
          refine ol_re 33 (v := .one (.own k51 0 ((l49.set n50.toNat (n58, b59))).length)) (Eq.trans (b := .one (.own k51 0 (l49).length)) rfl (congrArg D.one own_setC)) ?_
          refine ol_end ?_
          refine E_blkN ?_
          refine E_seq ?_
          refine L_ops ?_
          refine ol_put rfl rfl rfl (q_bin rfl rfl (p_add _ _ _ _ _ _ _) rfl) ?_
          refine ol_put rfl rfl rfl (q_move (v := .one (iC .i64 (IntKind.i64.wrap (n50 + 1)))) rfl) ?_
          refine ol_end ?_
          obtain rfl := Option.some.inj h
          exact E_next k51 (ups_self ⟨rfl, rfl, rfl, rfl, rfl, rfl, trivial⟩) [0, 1, 2] (by decide) rfl
        · replace h := ifF c52 h
          refine ol_put rfl rfl rfl (q_bin rfl rfl (p_lss_f _ _ _ _ _ c52) rfl) ?_
          refine ol_end ?_
          refine E_seq ?_
          refine L_seq ?_
          refine L_condF rfl ?_
          refine L_exit ?_
          refine E_seqX ?_
          obtain rfl := Option.some.inj h
          refine E_out ?_
          exact (E_exit k51 (ups_self ⟨rfl, rfl, trivial⟩) [0, 2] (by decide) rfl)
      · rintro (l64 | u) h
        · refine J_x (fun k65 g => ?_)
          replace h := elimL h
          refine E_blkH ?_
          refine E_seq ?_
          refine L_seq ?_
          refine L_ops ?_
          refine ol_put rfl rfl rfl (q_move (v := .one (.own k65 0 (l64).length)) rfl) ?_
          obtain ⟨⟨n67, s68⟩, h66, h⟩ := bindS h
          refine ol_put rfl rfl rfl (q_callF (v := .agg [iC .i64 n67, .p true (Sl.t r33 s68)]) (args := [.one (.own k65 0 (l64).length)]) (fold_gathered_r (m + 2) h66) rfl rfl (vw_cons (vd_one (vc_own (r := r79) 1 rfl (fun x h m => rfl))) vw_nil) rfl rfl) ?_
          refine ol_wr rfl rfl (q_store (es' := [[iC .i64 n67, .p true (Sl.t r33 s68)]]) 0 rfl rfl rfl sz25 rfl rfl rfl rfl rfl) rfl ?_
          refine ol_put rfl rfl rfl (q_assign (v := .one (iC .i64 0)) rfl) ?_
          refine ol_end ?_
          refine E_seq ?_
          refine L_ret ?_
          obtain rfl := Option.some.inj h
          exact E_endF (.inr rfl) (res_cell (d := .agg [iC .i64 n67, .p true (Sl.t r33 s68)]) 0 rfl sz25 rfl rfl rfl rfl (res_tmp rfl res_nil)) (vw_cons (vd_agg (vc_cons vc_v (vc_cons vc_s vc_nil))) (vw_cons (vd_one vc_v) vw_nil)) (fun h hb => own_no2) rfl rfl
        · obtain rfl := Option.some.inj (elimR h)
          exact J_up (fun s hs => hs)
    · replace h := ifT (by decide) h
      refine L_condT rfl ?_
      refine L_seq ?_
      refine L_ops ?_
      refine ol_put rfl rfl rfl (q_build (cs := [iC .i64 0, .p true (Sl.t r33 (⟨false, 0, []⟩ : Sl (Int × Int)))]) ty25 rfl pl25 rfl) ?_
      refine ol_wr rfl rfl (q_store (es' := [[iC .i64 0, .p true (Sl.t r33 (⟨false, 0, []⟩ : Sl (Int × Int)))]]) 0 rfl rfl rfl sz25 rfl rfl rfl rfl rfl) rfl ?_
      refine ol_put rfl rfl rfl (q_assign (v := .one (iC .i64 3)) rfl) ?_
      refine ol_end ?_
      refine E_seq ?_
      refine L_ret ?_
      refine E_seqR ?_
      obtain rfl := Option.some.inj h
      exact E_endF (.inr rfl) (res_cell (d := .agg [iC .i64 0, .p true (Sl.t r33 (⟨false, 0, []⟩ : Sl (Int × Int)))]) 0 rfl sz25 rfl rfl rfl rfl (res_tmp rfl res_nil)) (vw_cons (vd_agg (vc_cons vc_v (vc_cons vc_s vc_nil))) (vw_cons (vd_one vc_v) vw_nil)) (fun h hb => own_no2) rfl rfl

noncomputable def ref09_Get_b1 (n3 : Int) (s7 : Sl (Int × Int)) (n30 : Int) : Option (Int ⊕ (Unit ⊕ (Int × Bool))) :=
  (if n30 < ((s7.l.length : Nat) : Int) then ((atS 2 s7 n30).bind fun (n34, n35) => (if n34 = n3 then ((atS 2 s7 n30).bind fun (n39, n40) => some (.inr (.inr (n40, true)))) else some (.inl (IntKind.i64.wrap (n30 + 1))))) else some (.inr (.inl ())))
noncomputable def ref09_Get (a0 : Int × (Sl (Int × Int))) (n3 : Int) : Option (Int × Bool) :=
  match a0 with
  | (n1, s2) => ((ref09_Sure (n1, s2)).bind fun (n6, s7) => ((loopO (ref09_Get_b1 n3 s7) 0).bind (Sum.elim (fun _ => some (0, false)) (fun u => some u))))
theorem ref09_Get_r (m : Nat) {a0 : Int × (Sl (Int × Int))} {n3 : Int} {out : Int × Bool} (h : ref09_Get a0 n3 = some out) : RunsP E1 (m + 3) 31 [.agg (r24 a0), .one (iT .i64 n3)] (.fresh, [.one (iT .i64 out.1), .one (bT out.2)]) := by
  obtain ⟨n1, s2⟩ := a0
  refine fn_F rfl (by rw [E1_fn]; exact show fiOf Try.prog 31 = _ by unfold fiOf; rw [Try.func31]; unfold Try.f31; rfl) rfl ?_
  dsimp only
  unfold ref09_Get at h
  refine L_seq ?_
  refine L_ops ?_
  refine ol_new rfl rfl rfl (q_box ty25 rfl (cs := [iC .i64 n1, .p false (Sl.t r33 s2)]) rfl rfl) (fun k4 => ?_)
  refine ol_put rfl rfl rfl (q_assign (v := .one (iC .i64 0)) rfl) ?_
  refine ol_put rfl rfl rfl (q_assign (v := .one (bC false)) rfl) ?_
  refine ol_end ?_
  refine E_seq ?_
  refine L_seq ?_
  refine L_ops ?_
  refine ol_put rfl rfl rfl (q_loadP (v := .agg [iC .i64 n1, .p false (Sl.t r33 s2)]) 0 rfl sz25 rfl rfl rfl rfl) ?_
  obtain ⟨⟨n6, s7⟩, h5, h⟩ := bindS h
  refine ol_putX rfl rfl rfl (q_callX (v := fun fr8 => .agg [iC .i64 n6, .p fr8 (Sl.t r33 s7)]) (args := [.agg [iC .i64 n1, .p false (Sl.t r33 s2)]]) (ref09_Sure_r (m + 0) h5) rfl rfl (vw_cons (vd_agg (vc_cons vc_v (vc_cons vc_s vc_nil))) vw_nil) rfl rfl (fun fr => rfl)) (fun fr8 => ?_)
  refine ol_wr rfl rfl (q_store (es' := [[iC .i64 n6, .p fr8 (Sl.t r33 s7)]]) 0 rfl rfl rfl sz25 rfl rfl rfl rfl rfl) rfl ?_
  refine ol_end ?_
  refine E_seq ?_
  refine L_seq ?_
  refine L_seq ?_
  refine L_ops ?_
  refine ol_put rfl rfl rfl (q_assign (v := .one (iC .i64 0)) rfl) ?_
  refine ol_end ?_
  refine E_seq ?_
  refine L_block ?_
  let S1 : Int → Unit → (Nat → D) → Nat → D := fun a kt g => ups g [(1, .one (iC .i64 n3)), (2, .one (.ptr k4 0 0)), (6, .one (iC .i64 a))]
  let SL1 : Int → Unit → BL := fun a kt => ([[(k4, 2, [[iC .i64 n6, .p fr8 (Sl.t r33 s7)]])]] : BL)
  let Sx1 : Unit → Unit → (Nat → D) → Nat → D := fun a kt g => ups g []
  let SLx1 : Unit → Unit → BL := fun a kt => ([] : BL)
  let G1 : (Int × Bool) → Ex → St → Prop := fun u => endQ E1 [.tmp 4, .tmp 5] (.fresh, [.one (iT .i64 u.1), .one (bT u.2)])
  let J1 : (Unit ⊕ (Int × Bool)) → Ex → St → Prop := JX 30 0 Sx1 SLx1 G1
  refine L_loopS (ref09_Get_b1 n3 s7) S1 SL1 J1 JX_n 0 h () (ups_self ⟨rfl, rfl, rfl, trivial⟩) [0] (by decide) rfl ?_ ?_
  · rintro n30 _ g out h
    change ref09_Get_b1 n3 s7 n30 = some out at h
    unfold ref09_Get_b1 at h
    refine L_seq ?_
    refine L_seq ?_
    refine L_ops ?_
    refine ol_put rfl rfl rfl (q_move (v := .one (iC .i64 n30)) rfl) ?_
    refine ol_put rfl rfl rfl (q_fieldP rfl fa25_1 rfl) ?_
    refine ol_put rfl rfl rfl (q_loadP (v := .one (.p fr8 (Sl.t r33 s7))) 0 rfl sz23 rfl rfl rfl rfl) ?_
    refine ol_put rfl rfl rfl (q_lenS rfl ty23 rfl rfl rfl rfl) ?_
    by_cases c31 : n30 < ((s7.l.length : Nat) : Int)
    · replace h := ifT c31 h
      refine ol_put rfl rfl rfl (q_bin rfl rfl (p_lss_t _ _ _ _ _ c31) rfl) ?_
      refine ol_end ?_
      refine E_seq ?_
      refine L_condT rfl ?_
      refine L_skip ?_
      refine E_seq ?_
      refine L_seq ?_
      refine L_block ?_
      refine L_seq ?_
      refine L_ops ?_
      refine ol_put rfl rfl rfl (q_fieldP rfl fa25_1 rfl) ?_
      refine ol_put rfl rfl rfl (q_loadP (v := .one (.p fr8 (Sl.t r33 s7))) 0 rfl sz23 rfl rfl rfl rfl) ?_
      refine ol_put rfl rfl rfl (q_move (v := .one (iC .i64 n30)) rfl) ?_
      obtain ⟨⟨n34, n35⟩, h33, h⟩ := bindS h
      obtain ⟨h33a, h33b, h33⟩ := atS_some h33
      refine ol_put rfl rfl rfl (q_ixS rfl rfl h33a h33 (el23.trans (congrArg some h33b.symm))) ?_
      refine ol_put rfl rfl rfl (q_fieldI rfl fa34_0 rfl) ?_
      refine ol_put rfl rfl rfl (q_loadI (v := .one (iC .i64 n34)) rfl sz3 (map_get h33) rfl rfl) ?_
      refine ol_put rfl rfl rfl (q_move (v := .one (iC .i64 n3)) rfl) ?_
      by_cases c36 : n34 = n3
      · replace h := ifT c36 h
        refine ol_put rfl rfl rfl (q_bin rfl rfl (p_eql_t _ _ _ _ _ c36) rfl) ?_
        refine ol_end ?_
        refine E_seq ?_
        refine L_condT rfl ?_
        refine L_seq ?_
        refine L_ops ?_
        refine ol_put rfl rfl rfl (q_fieldP rfl fa25_1 rfl) ?_
        refine ol_put rfl rfl rfl (q_loadP (v := .one (.p fr8 (Sl.t r33 s7))) 0 rfl sz23 rfl rfl rfl rfl) ?_
        refine ol_put rfl rfl rfl (q_move (v := .one (iC .i64 n30)) rfl) ?_
        obtain ⟨⟨n39, n40⟩, h38, h⟩ := bindS h
        obtain ⟨h38a, h38b, h38⟩ := atS_some h38
        refine ol_put rfl rfl rfl (q_ixS rfl rfl h38a h38 (el23.trans (congrArg some h38b.symm))) ?_
        refine ol_put rfl rfl rfl (q_fieldI rfl fa34_1 rfl) ?_
        refine ol_put rfl rfl rfl (q_loadI (v := .one (iC .i64 n40)) rfl sz2 (map_get h38) rfl rfl) ?_
        refine ol_put rfl rfl rfl (q_assign (v := .one (iC .i64 n40)) rfl) ?_
        refine ol_put rfl rfl rfl (q_assign (v := .one (bC true)) rfl) ?_
        refine ol_end ?_
        refine E_seq ?_
        refine L_ret ?_
        refine E_blkR ?_
        refine E_seqR ?_
        obtain rfl := Option.some.inj h
        exact E_out (E_up (E_endF (.inr rfl) (res_tmp rfl (res_tmp rfl res_nil)) (vw_cons (vd_one vc_v) (vw_cons (vd_one vc_v) vw_nil)) (fun h hb => own_no2) rfl rfl))
      · replace h := ifF c36 h
        refine ol_put rfl rfl rfl (q_bin rfl rfl (p_eql_f _ _ _ _ _ c36) rfl) ?_
        refine ol_end ?_
        refine E_seq ?_
        refine L_condF rfl ?_
        refine L_skip ?_
        refine E_blkN ?_
        refine E_seq ?_
        refine L_ops ?_
        refine ol_put rfl rfl rfl (q_move (v := .one (iC .i64 n30)) rfl) ?_
        refine ol_put rfl rfl rfl (q_bin rfl rfl (p_add _ _ _ _ _ _ _) rfl) ?_
        refine ol_put rfl rfl rfl (q_assign (v := .one (iC .i64 (IntKind.i64.wrap (n30 + 1)))) rfl) ?_
        refine ol_end ?_
        obtain rfl := Option.some.inj h
        exact E_next () (ups_self ⟨rfl, rfl, rfl, trivial⟩) [0] (by decide) rfl
    · replace h := ifF c31 h
      refine ol_put rfl rfl rfl (q_bin rfl rfl (p_lss_f _ _ _ _ _ c31) rfl) ?_
      refine ol_end ?_
      refine E_seq ?_
      refine L_condF rfl ?_
      refine L_exit ?_
      refine E_seqX ?_
      obtain rfl := Option.some.inj h
      refine E_out ?_
      exact (E_exit () (ups_self trivial) [] (by decide) rfl)
  · rintro (_ | u) h
    · refine J_x (fun kt g => ?_)
      replace h := elimL h
      refine E_blkH ?_
      refine E_seq ?_
      refine L_seq ?_
      refine L_ops ?_
      refine ol_put rfl rfl rfl (q_assign (v := .one (iC .i64 0)) rfl) ?_
      refine ol_put rfl rfl rfl (q_assign (v := .one (bC false)) rfl) ?_
      refine ol_end ?_
      refine E_seq ?_
      refine L_ret ?_
      obtain rfl := Option.some.inj h
      exact E_endF (.inr rfl) (res_tmp rfl (res_tmp rfl res_nil)) (vw_cons (vd_one vc_v) (vw_cons (vd_one vc_v) vw_nil)) (fun h hb => own_no2) rfl rfl
    · obtain rfl := Option.some.inj (elimR h)
      exact J_up (fun s hs => hs)

noncomputable def ref12_Select_b1 (s3 : Sl (Int)) (n7 : Int) (s8 : Sl (Int × Int)) (a : Int × (List (Int × Int))) : Option ((Int × (List (Int × Int))) ⊕ ((List (Int × Int)) ⊕ ((Int × (Sl (Int × Int))) × Int))) :=
  match a with
  | (n73, l74) => (if n73 < ((s3.l.length : Nat) : Int) then ((atS 1 s3 n73).bind fun n79 => (if n79 < 0 then some (.inr (.inr ((0, (⟨false, 0, []⟩ : Sl (Int × Int))), 3))) else ((atS 1 s3 n73).bind fun n83 => (if n83 ≥ n7 then some (.inr (.inr ((0, (⟨false, 0, []⟩ : Sl (Int × Int))), 3))) else ((atS 1 s3 n73).bind fun n87 => ((ref09_Get (n7, s8) n87).bind fun (n89, b90) => (if b90 = true then ((app l74 ([(n73, n89)] : List (Int × Int))).bind fun _ => some (.inl ((IntKind.i64.wrap (n73 + 1)), (l74 ++ ([(n73, n89)] : List (Int × Int)))))) else some (.inl ((IntKind.i64.wrap (n73 + 1)), l74))))))))) else some (.inr (.inl l74)))
noncomputable def ref12_Select (a0 : Int × (Sl (Int × Int))) (s3 : Sl (Int)) : Option ((Int × (Sl (Int × Int))) × Int) :=
  match a0 with
  | (n1, s2) => ((ref09_Sure (n1, s2)).bind fun (n7, s8) => (if ((s3.l.length : Nat) : Int) > 4096 then some ((0, (⟨false, 0, []⟩ : Sl (Int × Int))), 5) else ((loopO (ref12_Select_b1 s3 n7 s8) (0, ([] : List (Int × Int)))).bind (Sum.elim (fun l94 => some ((((s3.l.length : Nat) : Int), (mo 2 l94)), 0)) (fun u => some u)))))
theorem ref12_Select_r (m : Nat) {a0 : Int × (Sl (Int × Int))} {s3 : Sl (Int)} {out : (Int × (Sl (Int × Int))) × Int} (h : ref12_Select a0 s3 = some out) : RunsP E1 (m + 4) 22 [.agg (r24 a0), .one (Sl.t r3 s3)] (.fresh, [.agg (r24 out.1), .one (iT .i64 out.2)]) := by
  obtain ⟨n1, s2⟩ := a0
  refine fn_F rfl (by rw [E1_fn]; exact show fiOf Try.prog 22 = _ by unfold fiOf; rw [Try.func22]; unfold Try.f22; rfl) rfl ?_
  dsimp only
  unfold ref12_Select at h
  refine L_seq ?_
  refine L_ops ?_
  refine ol_new rfl rfl rfl (q_box ty25 rfl (cs := [iC .i64 n1, .p false (Sl.t r33 s2)]) rfl rfl) (fun k4 => ?_)
  refine ol_new rfl rfl rfl (q_alloc ty25 (row := [iC .i64 0, .p true (Sl.t r33 (⟨false, 0, []⟩ : Sl (Int × Int)))]) rfl rfl) (fun k5 => ?_)
  refine ol_put rfl rfl rfl (q_assign (v := .one (iC .i64 0)) rfl) ?_
  refine ol_end ?_
  refine E_seq ?_
  refine L_seq ?_
  refine L_ops ?_
  refine ol_put rfl rfl rfl (q_loadP (v := .agg [iC .i64 n1, .p false (Sl.t r33 s2)]) 1 rfl sz25 rfl rfl rfl rfl) ?_
  obtain ⟨⟨n7, s8⟩, h6, h⟩ := bindS h
  refine ol_putX rfl rfl rfl (q_callX (v := fun fr9 => .agg [iC .i64 n7, .p fr9 (Sl.t r33 s8)]) (args := [.agg [iC .i64 n1, .p false (Sl.t r33 s2)]]) (ref09_Sure_r (m + 1) h6) rfl rfl (vw_cons (vd_agg (vc_cons vc_v (vc_cons vc_s vc_nil))) vw_nil) rfl rfl (fun fr => rfl)) (fun fr9 => ?_)
  refine ol_wr rfl rfl (q_store (es' := [[iC .i64 n7, .p fr9 (Sl.t r33 s8)]]) 1 rfl rfl rfl sz25 rfl rfl rfl rfl rfl) rfl ?_
  refine ol_end ?_
  refine E_seq ?_
  refine L_seq ?_
  refine L_seq ?_
  refine L_ops ?_
  refine ol_put rfl rfl rfl (q_move (v := .one (.p false (Sl.t r3 s3))) rfl) ?_
  refine ol_put rfl rfl rfl (q_lenS rfl ty42 rfl rfl rfl rfl) ?_
  by_cases c10 : ((s3.l.length : Nat) : Int) > 4096
  · replace h := ifT c10 h
    refine ol_put rfl rfl rfl (q_bin rfl rfl (p_gtr_t _ _ _ _ _ c10) rfl) ?_
    refine ol_end ?_
    refine E_seq ?_
    refine L_condT rfl ?_
    refine L_seq ?_
    refine L_ops ?_
    refine ol_put rfl rfl rfl (q_build (cs := [iC .i64 0, .p true (Sl.t r33 (⟨false, 0, []⟩ : Sl (Int × Int)))]) ty25 rfl pl25 rfl) ?_
    refine ol_wr rfl rfl (q_store (es' := [[iC .i64 0, .p true (Sl.t r33 (⟨false, 0, []⟩ : Sl (Int × Int)))]]) 0 rfl rfl rfl sz25 rfl rfl rfl rfl rfl) rfl ?_
    refine ol_put rfl rfl rfl (q_assign (v := .one (iC .i64 5)) rfl) ?_
    refine ol_end ?_
    refine E_seq ?_
    refine L_ret ?_
    refine E_seqR ?_
    obtain rfl := Option.some.inj h
    exact E_endF (.inr rfl) (res_cell (d := .agg [iC .i64 0, .p true (Sl.t r33 (⟨false, 0, []⟩ : Sl (Int × Int)))]) 0 rfl sz25 rfl rfl rfl rfl (res_tmp rfl res_nil)) (vw_cons (vd_agg (vc_cons vc_v (vc_cons vc_s vc_nil))) (vw_cons (vd_one vc_v) vw_nil)) (fun h hb => own_no2) rfl rfl
  · replace h := ifF c10 h
    refine ol_put rfl rfl rfl (q_bin rfl rfl (p_gtr_f _ _ _ _ _ c10) rfl) ?_
    refine ol_end ?_
    refine E_seq ?_
    refine L_condF rfl ?_
    refine L_skip ?_
    refine E_seq ?_
    refine L_seq ?_
    refine L_ops ?_
    refine ol_put rfl rfl rfl (q_move (v := .one (.p false (Sl.t r3 s3))) rfl) ?_
    refine ol_put rfl rfl rfl (q_lenS rfl ty42 rfl rfl rfl rfl) ?_
    refine ol_put rfl rfl rfl (q_build (cs := [iC .i64 ((s3.l.length : Nat) : Int), .p true (Sl.t r33 (⟨false, 0, []⟩ : Sl (Int × Int)))]) ty25 rfl pl25 rfl) ?_
    refine ol_new rfl rfl rfl (q_alloc ty25 (row := [iC .i64 0, .p true (Sl.t r33 (⟨false, 0, []⟩ : Sl (Int × Int)))]) rfl rfl) (fun k11 => ?_)
    refine ol_wr rfl rfl (q_store (es' := [[iC .i64 ((s3.l.length : Nat) : Int), .p true (Sl.t r33 (⟨false, 0, []⟩ : Sl (Int × Int)))]]) 0 rfl rfl rfl sz25 rfl rfl rfl rfl rfl) rfl ?_
    refine ol_end ?_
    refine E_seq ?_
    refine L_seq ?_
    refine L_seq ?_
    refine L_ops ?_
    refine ol_put rfl rfl rfl (q_assign (v := .one (iC .i64 0)) rfl) ?_
    refine ol_end ?_
    refine E_seq ?_
    refine L_block ?_
    refine L_addM (α := Int × Int) r33 2 ?_
    let S1 : (Int × (List (Int × Int))) → Nat → (Nat → D) → Nat → D := fun a kt g => ups g [(1, .one (.p false (Sl.t r3 s3))), (2, .one (.ptr k4 0 0)), (4, .one (.ptr k5 0 0)), (6, .one (.ptr k11 0 0)), (7, .one (iC .i64 a.1))]
    let SL1 : (Int × (List (Int × Int))) → Nat → BL := fun a kt => ([[(k4, 2, [[iC .i64 n7, .p fr9 (Sl.t r33 s8)]])], [(k5, 2, [[iC .i64 0, .p true (Sl.t r33 (⟨false, 0, []⟩ : Sl (Int × Int)))]])], [(k11, 2, [[iC .i64 ((s3.l.length : Nat) : Int), moC a.2 kt]])], moL r33 2 a.2 kt] : BL)
    let Sx1 : (List (Int × Int)) → Nat → (Nat → D) → Nat → D := fun a kt g => ups g [(4, .one (.ptr k5 0 0)), (6, .one (.ptr k11 0 0))]
    let SLx1 : (List (Int × Int)) → Nat → BL := fun a kt => ([[(k5, 2, [[iC .i64 0, .p true (Sl.t r33 (⟨false, 0, []⟩ : Sl (Int × Int)))]])], [(k11, 2, [[iC .i64 ((s3.l.length : Nat) : Int), moC a kt]])], moL r33 2 a kt] : BL)
    let G1 : ((Int × (Sl (Int × Int))) × Int) → Ex → St → Prop := fun u => endQ E1 [.cell 4 25, .tmp 5] (.fresh, [.agg (r24 u.1), .one (iT .i64 u.2)])
    let J1 : ((List (Int × Int)) ⊕ ((Int × (Sl (Int × Int))) × Int)) → Ex → St → Prop := JX 59 0 Sx1 SLx1 G1
    refine L_loopS (ref12_Select_b1 s3 n7 s8) S1 SL1 J1 JX_n (0, ([] : List (Int × Int))) h 1071 (ups_self ⟨rfl, rfl, rfl, rfl, rfl, trivial⟩) [3, 2, 1, 0] (by decide) rfl ?_ ?_
    · rintro ⟨n73, l74⟩ k75 g out h
      change ref12_Select_b1 s3 n7 s8 (n73, l74) = some out at h
      unfold ref12_Select_b1 at h
      refine L_seq ?_
      refine L_seq ?_
      refine L_ops ?_
      refine ol_put rfl rfl rfl (q_move (v := .one (iC .i64 n73)) rfl) ?_
      refine ol_put rfl rfl rfl (q_move (v := .one (.p false (Sl.t r3 s3))) rfl) ?_
      refine ol_put rfl rfl rfl (q_lenS rfl ty42 rfl rfl rfl rfl) ?_
      by_cases c76 : n73 < ((s3.l.length : Nat) : Int)
      · replace h := ifT c76 h
        refine ol_put rfl rfl rfl (q_bin rfl rfl (p_lss_t _ _ _ _ _ c76) rfl) ?_
        refine ol_end ?_
        refine E_seq ?_
        refine L_condT rfl ?_
        refine L_skip ?_
        refine E_seq ?_
        refine L_seq ?_
        refine L_block ?_
        refine L_seq ?_
        refine L_seq ?_
        refine L_still (by kernel_rfl) ?_
        refine st_put rfl rfl rfl (q_move (v := .one (.p false (Sl.t r3 s3))) rfl) ?_
        refine st_put rfl rfl rfl (q_move (v := .one (iC .i64 n73)) rfl) ?_
        obtain ⟨n79, h78, h⟩ := bindS h
        obtain ⟨h78a, h78b, h78⟩ := atS_some h78
        refine st_put rfl rfl rfl (q_ixS rfl rfl h78a h78 (el42.trans (congrArg some h78b.symm))) ?_
        refine st_put rfl rfl rfl (q_loadI (v := .one (iC .i64 n79)) rfl sz3 (map_get h78) rfl rfl) ?_
        by_cases c80 : n79 < 0
        · replace h := ifT c80 h
          refine st_put rfl rfl rfl (q_bin rfl rfl (p_lss_t _ _ _ _ _ c80) rfl) ?_
          refine st_put rfl rfl rfl (q_move (v := .one (bC true)) rfl) ?_
          refine st_skip rfl rfl rfl ?_
          refine st_skip rfl rfl rfl ?_
          refine st_skip rfl rfl rfl ?_
          refine st_skip rfl rfl rfl ?_
          refine st_skip rfl rfl rfl ?_
          refine st_skip rfl rfl rfl ?_
          refine st_skip rfl rfl rfl ?_
          refine st_put rfl rfl rfl (q_pickT (v := .one (bC true)) rfl rfl) ?_
          refine st_end ?_
          refine E_seq ?_
          refine L_condT rfl ?_
          refine L_seq ?_
          refine L_ops ?_
          refine ol_put rfl rfl rfl (q_build (cs := [iC .i64 0, .p true (Sl.t r33 (⟨false, 0, []⟩ : Sl (Int × Int)))]) ty25 rfl pl25 rfl) ?_
          refine ol_wr rfl rfl (q_store (es' := [[iC .i64 0, .p true (Sl.t r33 (⟨false, 0, []⟩ : Sl (Int × Int)))]]) 1 rfl rfl rfl sz25 rfl rfl rfl rfl rfl) rfl ?_
          refine ol_put rfl rfl rfl (q_assign (v := .one (iC .i64 3)) rfl) ?_
          refine ol_end ?_
          refine E_seq ?_
          refine L_ret ?_
          refine E_seqR ?_
          refine E_blkR ?_
          refine E_seqR ?_
          obtain rfl := Option.some.inj h
          exact E_out (E_up (E_endF (.inr rfl) (res_cell (d := .agg [iC .i64 0, .p true (Sl.t r33 (⟨false, 0, []⟩ : Sl (Int × Int)))]) 1 rfl sz25 rfl rfl rfl rfl (res_tmp rfl res_nil)) (vw_cons (vd_agg (vc_cons vc_v (vc_cons vc_s vc_nil))) (vw_cons (vd_one vc_v) vw_nil)) (fun h hb => own_no2) rfl rfl))
        · replace h := ifF c80 h
          refine st_put rfl rfl rfl (q_bin rfl rfl (p_lss_f _ _ _ _ _ c80) rfl) ?_
          refine st_put rfl rfl rfl (q_move (v := .one (bC false)) rfl) ?_
          refine st_put rfl rfl rfl (q_move (v := .one (.p false (Sl.t r3 s3))) rfl) ?_
          refine st_put rfl rfl rfl (q_move (v := .one (iC .i64 n73)) rfl) ?_
          obtain ⟨n83, h82, h⟩ := bindS h
          obtain ⟨h82a, h82b, h82⟩ := atS_some h82
          refine st_put rfl rfl rfl (q_ixS rfl rfl h82a h82 (el42.trans (congrArg some h82b.symm))) ?_
          refine st_put rfl rfl rfl (q_loadI (v := .one (iC .i64 n83)) rfl sz3 (map_get h82) rfl rfl) ?_
          refine st_put rfl rfl rfl (q_fieldP rfl fa25_0 rfl) ?_
          refine st_put rfl rfl rfl (q_loadP (v := .one (iC .i64 n7)) 0 rfl sz3 rfl rfl rfl rfl) ?_
          by_cases c84 : n83 ≥ n7
          · replace h := ifT c84 h
            refine st_put rfl rfl rfl (q_bin rfl rfl (p_geq_t _ _ _ _ _ c84) rfl) ?_
            refine st_put rfl rfl rfl (q_pickF (v := .one (bC true)) rfl rfl) ?_
            refine st_end ?_
            refine E_seq ?_
            refine L_condT rfl ?_
            refine L_seq ?_
            refine L_ops ?_
            refine ol_put rfl rfl rfl (q_build (cs := [iC .i64 0, .p true (Sl.t r33 (⟨false, 0, []⟩ : Sl (Int × Int)))]) ty25 rfl pl25 rfl) ?_
            refine ol_wr rfl rfl (q_store (es' := [[iC .i64 0, .p true (Sl.t r33 (⟨false, 0, []⟩ : Sl (Int × Int)))]]) 1 rfl rfl rfl sz25 rfl rfl rfl rfl rfl) rfl ?_
            refine ol_put rfl rfl rfl (q_assign (v := .one (iC .i64 3)) rfl) ?_
            refine ol_end ?_
            refine E_seq ?_
            refine L_ret ?_
            refine E_seqR ?_
            refine E_blkR ?_
            refine E_seqR ?_
            obtain rfl := Option.some.inj h
            exact E_out (E_up (E_endF (.inr rfl) (res_cell (d := .agg [iC .i64 0, .p true (Sl.t r33 (⟨false, 0, []⟩ : Sl (Int × Int)))]) 1 rfl sz25 rfl rfl rfl rfl (res_tmp rfl res_nil)) (vw_cons (vd_agg (vc_cons vc_v (vc_cons vc_s vc_nil))) (vw_cons (vd_one vc_v) vw_nil)) (fun h hb => own_no2) rfl rfl))
          · replace h := ifF c84 h
            refine st_put rfl rfl rfl (q_bin rfl rfl (p_geq_f _ _ _ _ _ c84) rfl) ?_
            refine st_put rfl rfl rfl (q_pickF (v := .one (bC false)) rfl rfl) ?_
            refine st_end ?_
            refine E_seq ?_
            refine L_condF rfl ?_
            refine L_skip ?_
            refine E_seq ?_
            refine L_seq ?_
            refine L_still (by kernel_rfl) ?_
            refine st_put rfl rfl rfl (q_loadP (v := .agg [iC .i64 n7, .p fr9 (Sl.t r33 s8)]) 0 rfl sz25 rfl rfl rfl rfl) ?_
            refine st_put rfl rfl rfl (q_move (v := .one (.p false (Sl.t r3 s3))) rfl) ?_
            refine st_put rfl rfl rfl (q_move (v := .one (iC .i64 n73)) rfl) ?_
            obtain ⟨n87, h86, h⟩ := bindS h
            obtain ⟨h86a, h86b, h86⟩ := atS_some h86
            refine st_put rfl rfl rfl (q_ixS rfl rfl h86a h86 (el42.trans (congrArg some h86b.symm))) ?_
            refine st_put rfl rfl rfl (q_loadI (v := .one (iC .i64 n87)) rfl sz3 (map_get h86) rfl rfl) ?_
            obtain ⟨⟨n89, b90⟩, h88, h⟩ := bindS h
            refine st_put rfl rfl rfl (q_callF (v := .tup [.one (iC .i64 n89), .one (bC b90)]) (args := [.agg [iC .i64 n7, .p fr9 (Sl.t r33 s8)], .one (iC .i64 n87)]) (ref09_Get_r (m + 0) h88) rfl rfl (vw_cons (vd_agg (vc_cons vc_v (vc_cons vc_s vc_nil))) (vw_cons (vd_one vc_v) vw_nil)) rfl rfl) ?_
            refine st_put rfl rfl rfl (q_move (v := .tup [.one (iC .i64 n89), .one (bC b90)]) rfl) ?_
            refine st_put rfl rfl rfl (q_ext (v := .one (iC .i64 n89)) rfl rfl) ?_
            refine st_put rfl rfl rfl (q_ext (v := .one (bC b90)) rfl rfl) ?_
            refine st_put rfl rfl rfl (q_assign (v := .one (iC .i64 n89)) rfl) ?_
            refine st_put rfl rfl rfl (q_assign (v := .one (bC b90)) rfl) ?_
            refine st_end ?_
            refine E_seq ?_
            refine L_seq ?_
            refine L_ops ?_
            refine ol_put rfl rfl rfl (q_move (v := .one (bC b90)) rfl) ?_
            refine ol_end ?_
            refine E_seq ?_
            rcases b90 with _ | _
            · replace h := ifF (by decide) h
              refine L_condF rfl ?_
              refine L_skip ?_
              refine E_blkN ?_
              refine E_seq ?_
              refine L_ops ?_
              refine ol_put rfl rfl rfl (q_move (v := .one (iC .i64 n73)) rfl) ?_
              refine ol_put rfl rfl rfl (q_bin rfl rfl (p_add _ _ _ _ _ _ _) rfl) ?_
              refine ol_put rfl rfl rfl (q_assign (v := .one (iC .i64 (IntKind.i64.wrap (n73 + 1)))) rfl) ?_
              refine ol_end ?_
              obtain rfl := Option.some.inj h
              exact E_next k75 (ups_self ⟨rfl, rfl, rfl, rfl, rfl, trivial⟩) [0, 1, 2, 3] (by decide) rfl
            · replace h := ifT (by decide) h
              refine L_condT rfl ?_
              refine L_ops ?_
              refine ol_put rfl rfl rfl (q_fieldP rfl fa25_1 rfl) ?_
              refine ol_put rfl rfl rfl (q_loadP (v := .one (moC l74 k75)) 2 rfl sz23 rfl rfl rfl rfl) ?_
              refine ol_put rfl rfl rfl (q_move (v := .one (iC .i64 n73)) rfl) ?_
              refine ol_put rfl rfl rfl (q_move (v := .one (iC .i64 n89)) rfl) ?_
              refine ol_put rfl rfl rfl (q_build (cs := [iC .i64 n73, iC .i64 n89]) ty34 rfl pl34 rfl) ?_
              refine ol_new rfl rfl rfl (q_bslice (cs := [iC .i64 n73, iC .i64 n89]) (es := (([(n73, n89)] : List (Int × Int))).map (rowC r33)) ty23 rfl ty34 rfl rfl rfl rfl rfl) (fun k91 => ?_)
              obtain ⟨_, h92, h⟩ := bindS h
              obtain ⟨h92b, rfl⟩ := app_some h92
              refine ol_appM (r := r33) (l := l74) (ys := ([(n73, n89)] : List (Int × Int))) 4 rfl rfl rfl rfl rfl rfl (el_ownM (l := ([(n73, n89)] : List (Int × Int))) 0 rfl) rfl h92 (fun y => rfl) el23 ty23 rfl rfl rfl rfl rfl (fun k93 => ?_)
              refine ol_put rfl rfl rfl (q_fieldP rfl fa25_1 rfl) ?_
              refine ol_wr rfl rfl (q_store (es' := [[iC .i64 ((s3.l.length : Nat) : Int), moC (l74 ++ ([(n73, n89)] : List (Int × Int))) k93]]) 4 rfl rfl rfl sz23 rfl rfl rfl rfl rfl) rfl ?_
              refine ol_end ?_
              refine E_blkN ?_
              refine E_seq ?_
              refine L_ops ?_
              refine ol_put rfl rfl rfl (q_move (v := .one (iC .i64 n73)) rfl) ?_
              refine ol_put rfl rfl rfl (q_bin rfl rfl (p_add _ _ _ _ _ _ _) rfl) ?_
              refine ol_put rfl rfl rfl (q_assign (v := .one (iC .i64 (IntKind.i64.wrap (n73 + 1)))) rfl) ?_
              refine ol_end ?_
              obtain rfl := Option.some.inj h
              exact E_next k93 (ups_self ⟨rfl, rfl, rfl, rfl, rfl, trivial⟩) [2, 3, 4, 0] (by decide) rfl
      · replace h := ifF c76 h
        refine ol_put rfl rfl rfl (q_bin rfl rfl (p_lss_f _ _ _ _ _ c76) rfl) ?_
        refine ol_end ?_
        refine E_seq ?_
        refine L_condF rfl ?_
        refine L_exit ?_
        refine E_seqX ?_
        obtain rfl := Option.some.inj h
        refine E_out ?_
        exact (E_exit k75 (ups_self ⟨rfl, rfl, trivial⟩) [1, 2, 3] (by decide) rfl)
    · rintro (l94 | u) h
      · refine J_x (fun k95 g => ?_)
        replace h := elimL h
        refine E_blkH ?_
        refine E_seq ?_
        refine L_seq ?_
        refine L_ops ?_
        refine ol_put rfl rfl rfl (q_loadP (v := .agg [iC .i64 ((s3.l.length : Nat) : Int), moC l94 k95]) 1 rfl sz25 rfl rfl rfl rfl) ?_
        refine ol_wr rfl rfl (q_store (es' := [[iC .i64 ((s3.l.length : Nat) : Int), moC l94 k95]]) 0 rfl rfl rfl sz25 rfl rfl rfl rfl rfl) rfl ?_
        refine ol_put rfl rfl rfl (q_assign (v := .one (iC .i64 0)) rfl) ?_
        refine ol_end ?_
        refine E_seq ?_
        refine L_ret ?_
        obtain rfl := Option.some.inj h
        exact E_endF (.inr rfl) (res_cell (d := .agg [iC .i64 ((s3.l.length : Nat) : Int), moC l94 k95]) 0 rfl sz25 rfl rfl rfl rfl (res_tmp rfl res_nil)) (vw_cons (vd_agg (vc_cons vc_v (vc_cons (vc_M (r := r33) 2 rfl (fun x h m => rfl)) vc_nil))) (vw_cons (vd_one vc_v) vw_nil)) (fun h hb => own_no2) rfl rfl
      · obtain rfl := Option.some.inj (elimR h)
        exact J_up (fun s hs => hs)

noncomputable def fold_Assign_b1 (s3 : Sl (Int)) (s35 : List (Int × Bool)) (a : (List (Int × Bool)) × Int) : Option (((List (Int × Bool)) × Int) ⊕ ((List (Int × Bool)) ⊕ ((Int × (Sl (Int × Int))) × Int))) :=
  match a with
  | (l65, n66) => (if n66 < ((s3.l.length : Nat) : Int) then ((atS 1 s3 n66).bind fun n71 => ((atL s35 n66).bind fun (n74, b75) => ((atL l65 n71).bind fun (n78, b79) => some (.inl ((l65.set n71.toNat (n74, b75)), (IntKind.i64.wrap (n66 + 1))))))) else some (.inr (.inl l65)))
noncomputable def fold_Assign (a0 : Int × (Sl (Int × Int))) (s3 : Sl (Int)) (a2 : Int × (Sl (Int × Int))) : Option ((Int × (Sl (Int × Int))) × Int) :=
  match a0, a2 with
  | (n1, s2), (n4, s5) => ((fold_sure (n1, s2)).bind fun (n19, s20) => ((fold_sure (n4, s5)).bind fun (n23, s24) => (if n23 ≠ ((s3.l.length : Nat) : Int) then some ((0, (⟨false, 0, []⟩ : Sl (Int × Int))), 4) else ((fold_outside s3 n19).bind fun b28 => (if b28 = true then some ((0, (⟨false, 0, []⟩ : Sl (Int × Int))), 3) else ((fold_slots (n23, s24)).bind fun s35 => ((fold_slots (n19, s20)).bind fun s37 => ((loopO (fold_Assign_b1 s3 s35) (s37, 0)).bind (Sum.elim (fun l80 => ((fold_gathered (⟨true, 2, l80⟩ : Sl (Int × Bool))).bind fun (n83, s84) => some ((n83, s84), 0))) (fun u => some u))))))))))
theorem fold_Assign_r (m : Nat) {a0 : Int × (Sl (Int × Int))} {s3 : Sl (Int)} {a2 : Int × (Sl (Int × Int))} {out : (Int × (Sl (Int × Int))) × Int} (h : fold_Assign a0 s3 a2 = some out) : RunsP E1 (m + 4) 23 [.agg (r24 a0), .one (Sl.t r3 s3), .agg (r24 a2)] (.fresh, [.agg (r24 out.1), .one (iT .i64 out.2)]) := by
  obtain ⟨n1, s2⟩ := a0
  obtain ⟨n4, s5⟩ := a2
  refine fn_F rfl (by rw [E1_fn]; exact show fiOf Try.prog 23 = _ by unfold fiOf; rw [Try.func23]; unfold Try.f23; rfl) rfl ?_
  dsimp only
  unfold fold_Assign at h
  refine L_seq ?_
  refine L_ops ?_
  refine ol_new rfl rfl rfl (q_box ty25 rfl (cs := [iC .i64 n1, .p false (Sl.t r33 s2)]) rfl rfl) (fun k6 => ?_)
  refine ol_new rfl rfl rfl (q_box ty25 rfl (cs := [iC .i64 n4, .p false (Sl.t r33 s5)]) rfl rfl) (fun k7 => ?_)
  refine ol_new rfl rfl rfl (q_alloc ty25 (row := [iC .i64 0, .p true (Sl.t r33 (⟨false, 0, []⟩ : Sl (Int × Int)))]) rfl rfl) (fun k8 => ?_)
  refine ol_put rfl rfl rfl (q_assign (v := .one (iC .i64 0)) rfl) ?_
  refine ol_end ?_
  refine E_seq ?_
  refine L_seq ?_
  refine L_norm (L2 := ([[(k8, 2, [[iC .i64 0, .p true (Sl.t r33 (⟨false, 0, []⟩ : Sl (Int × Int)))]])], [(k7, 2, [[iC .i64 n4, .p false (Sl.t r33 s5)]])], [(k6, 2, [[iC .i64 n1, .p false (Sl.t r33 s2)]])]] : BL)) [0, 1, 2] (by decide) rfl ?_
  refine L_turn 6 rfl [[], [], [], [], [k6], [k7]] [(false, []), (false, []), (false, []), (false, []), (false, []), (false, [])] [[2], [2], [0, 1], [], [], []] (by kernel_rfl) (by kernel_rfl) (by kernel_rfl) ?_ (fun bb9 hlt hnd => ?_)
  · intro bb9 hlt hnd
    have e_k8 : k8 < bb9 := key_lt hlt 0 rfl
    have e_k7 : k7 < bb9 := key_lt hlt 1 rfl
    have e_k6 : k6 < bb9 := key_lt hlt 2 rfl
    have d_k7_k8 : k7 ≠ k8 := key_ne hnd 1 0 rfl rfl rfl
    have d_k7_k6 : k7 ≠ k6 := key_ne hnd 1 2 rfl rfl rfl
    have d_k6_k8 : k6 ≠ k8 := key_ne hnd 2 0 rfl rfl rfl
    have d_k6_k7 : k6 ≠ k7 := key_ne hnd 2 1 rfl rfl rfl
    exact ⟨(by first | (simp; done) | (simp; omega) | (simp; assumption) | (simp_all; done) | (simp_all; omega)), (by first | (simp; done) | (simp; omega) | (simp; assumption) | (simp_all; done) | (simp_all; omega))⟩
  have e_k8 : k8 < bb9 := key_lt hlt 0 rfl
  have e_k7 : k7 < bb9 := key_lt hlt 1 rfl
  have e_k6 : k6 < bb9 := key_lt hlt 2 rfl
  have d_k7_k8 : k7 ≠ k8 := key_ne hnd 1 0 rfl rfl rfl
  have d_k7_k6 : k7 ≠ k6 := key_ne hnd 1 2 rfl rfl rfl
  have d_k6_k8 : k6 ≠ k8 := key_ne hnd 2 0 rfl rfl rfl
  have d_k6_k7 : k6 ≠ k7 := key_ne hnd 2 1 rfl rfl rfl
  clear hlt hnd
  refine tn_put rfl rfl rfl [2] (by decide) rfl (hm0 rfl) rfl (q_loadP (v := .agg [iC .i64 n1, .p false (Sl.t r33 s2)]) 0 rfl sz25 rfl rfl rfl rfl) ?_
  obtain ⟨⟨n19, s20⟩, h18, h⟩ := bindS h
  refine tn_putX rfl rfl rfl [] (by decide) rfl (hm0 rfl) rfl (q_callX (v := fun fr21 => .agg [iC .i64 n19, .p fr21 (Sl.t r33 s20)]) (args := [.agg [iC .i64 n1, .p false (Sl.t r33 s2)]]) (fold_sure_r (m + 0) h18) rfl rfl (vw_cons (vd_agg (vc_cons vc_v (vc_cons vc_s vc_nil))) vw_nil) rfl rfl (fun fr => rfl)) (fun fr21 => ?_)
  refine tn_put rfl rfl rfl [1] (by decide) rfl (hm0 rfl) rfl (q_loadP (v := .agg [iC .i64 n4, .p false (Sl.t r33 s5)]) 0 rfl sz25 rfl rfl rfl rfl) ?_
  obtain ⟨⟨n23, s24⟩, h22, h⟩ := bindS h
  refine tn_putX rfl rfl rfl [] (by decide) rfl (hm0 rfl) rfl (q_callX (v := fun fr25 => .agg [iC .i64 n23, .p fr25 (Sl.t r33 s24)]) (args := [.agg [iC .i64 n4, .p false (Sl.t r33 s5)]]) (fold_sure_r (m + 0) h22) rfl rfl (vw_cons (vd_agg (vc_cons vc_v (vc_cons vc_s vc_nil))) vw_nil) rfl rfl (fun fr => rfl)) (fun fr25 => ?_)
  refine tn_wr rfl rfl [2] (by decide) rfl (hm0 rfl) rfl (q_store (es' := [[iC .i64 n19, .p fr21 (Sl.t r33 s20)]]) 0 rfl rfl rfl sz25 rfl rfl rfl rfl rfl) (q := 2) rfl rfl ?_
  refine tn_wr rfl rfl [1] (by decide) rfl (hm0 rfl) rfl (q_store (es' := [[iC .i64 n23, .p fr25 (Sl.t r33 s24)]]) 0 rfl rfl rfl sz25 rfl rfl rfl rfl rfl) (q := 1) rfl rfl ?_
  refine tn_end ?_
  refine E_seq ?_
  refine L_seq ?_
  refine L_seq ?_
  refine L_ops ?_
  refine ol_put rfl rfl rfl (q_fieldP rfl fa25_0 rfl) ?_
  refine ol_put rfl rfl rfl (q_loadP (v := .one (iC .i64 n23)) 1 rfl sz3 rfl rfl rfl rfl) ?_
  refine ol_put rfl rfl rfl (q_move (v := .one (.p false (Sl.t r3 s3))) rfl) ?_
  refine ol_put rfl rfl rfl (q_lenS rfl ty42 rfl rfl rfl rfl) ?_
  by_cases c26 : n23 ≠ ((s3.l.length : Nat) : Int)
  · replace h := ifT c26 h
    refine ol_put rfl rfl rfl (q_bin rfl rfl (p_neq_t _ _ _ _ _ c26) rfl) ?_
    refine ol_end ?_
    refine E_seq ?_
    refine L_condT rfl ?_
    refine L_seq ?_
    refine L_ops ?_
    refine ol_put rfl rfl rfl (q_build (cs := [iC .i64 0, .p true (Sl.t r33 (⟨false, 0, []⟩ : Sl (Int × Int)))]) ty25 rfl pl25 rfl) ?_
    refine ol_wr rfl rfl (q_store (es' := [[iC .i64 0, .p true (Sl.t r33 (⟨false, 0, []⟩ : Sl (Int × Int)))]]) 0 rfl rfl rfl sz25 rfl rfl rfl rfl rfl) rfl ?_
    refine ol_put rfl rfl rfl (q_assign (v := .one (iC .i64 4)) rfl) ?_
    refine ol_end ?_
    refine E_seq ?_
    refine L_ret ?_
    refine E_seqR ?_
    obtain rfl := Option.some.inj h
    exact E_endF (.inr rfl) (res_cell (d := .agg [iC .i64 0, .p true (Sl.t r33 (⟨false, 0, []⟩ : Sl (Int × Int)))]) 0 rfl sz25 rfl rfl rfl rfl (res_tmp rfl res_nil)) (vw_cons (vd_agg (vc_cons vc_v (vc_cons vc_s vc_nil))) (vw_cons (vd_one vc_v) vw_nil)) (fun h hb => own_no2) rfl rfl
  · replace h := ifF c26 h
    refine ol_put rfl rfl rfl (q_bin rfl rfl (p_neq_f _ _ _ _ _ c26) rfl) ?_
    refine ol_end ?_
    refine E_seq ?_
    refine L_condF rfl ?_
    refine L_skip ?_
    refine E_seq ?_
    refine L_seq ?_
    refine L_seq ?_
    refine L_ops ?_
    refine ol_put rfl rfl rfl (q_move (v := .one (.p false (Sl.t r3 s3))) rfl) ?_
    refine ol_put rfl rfl rfl (q_fieldP rfl fa25_0 rfl) ?_
    refine ol_put rfl rfl rfl (q_loadP (v := .one (iC .i64 n19)) 2 rfl sz3 rfl rfl rfl rfl) ?_
    obtain ⟨b28, h27, h⟩ := bindS h
    refine ol_put rfl rfl rfl (q_callF (v := .one (bC b28)) (args := [.one (.p false (Sl.t r3 s3)), .one (iC .i64 n19)]) (fold_outside_r (m + 2) h27) rfl rfl (vw_cons (vd_one vc_s) (vw_cons (vd_one vc_v) vw_nil)) rfl rfl) ?_
    refine ol_end ?_
    refine E_seq ?_
    rcases b28 with _ | _
    · replace h := ifF (by decide) h
      refine L_condF rfl ?_
      refine L_skip ?_
      refine E_seq ?_
      refine L_seq ?_
      refine L_norm (L2 := ([[(k8, 2, [[iC .i64 0, .p true (Sl.t r33 (⟨false, 0, []⟩ : Sl (Int × Int)))]])], [(k7, 2, [[iC .i64 n23, .p fr25 (Sl.t r33 s24)]])], [(k6, 2, [[iC .i64 n19, .p fr21 (Sl.t r33 s20)]])]] : BL)) [0, 1, 2] (by decide) rfl ?_
      refine L_turn 6 rfl [[], [], [], [], [], []] [(false, []), (true, []), (false, []), (true, []), (false, []), (false, [])] [[2], [2], [0, 1], [], [], []] (by kernel_rfl) (by kernel_rfl) (by kernel_rfl) ?_ (fun bb29 hlt hnd => ?_)
      · intro bb29 hlt hnd
        have e_k8 : k8 < bb29 := key_lt hlt 0 rfl
        have e_k7 : k7 < bb29 := key_lt hlt 1 rfl
        have e_k6 : k6 < bb29 := key_lt hlt 2 rfl
        exact ⟨(by first | (simp; done) | (simp; omega) | (simp; assumption) | (simp_all; done) | (simp_all; omega)), (by first | (simp; done) | (simp; omega) | (simp; assumption) | (simp_all; done) | (simp_all; omega))⟩
      have e_k8 : k8 < bb29 := key_lt hlt 0 rfl
      have e_k7 : k7 < bb29 := key_lt hlt 1 rfl
      have e_k6 : k6 < bb29 := key_lt hlt 2 rfl
      clear hlt hnd
      refine tn_put rfl rfl rfl [1] (by decide) rfl (hm0 rfl) rfl (q_loadP (v := .agg [iC .i64 n23, .p fr25 (Sl.t r33 s24)]) 0 rfl sz25 rfl rfl rfl rfl) ?_
      obtain ⟨s35, h34, h⟩ := bindS h
      refine tn_new rfl rfl rfl [] (by decide) rfl (hm0 rfl) rfl rfl (hkc (by omega) (hkc (by omega) (hkc (by omega) hkn))) (q_callO (args := [.agg [iC .i64 n23, .p fr25 (Sl.t r33 s24)]]) (fold_slots_r (m + 2) h34) rfl rfl (vw_cons (vd_agg (vc_cons vc_v (vc_cons vc_s vc_nil))) vw_nil) rfl) ?_
      refine tn_put rfl rfl rfl [3] (by decide) rfl (hmc (by first | (simp [turnsOf]; done) | (simp [turnsOf]; omega) | (simp [turnsOf]; assumption) | (simp_all [turnsOf]; done) | (simp_all [turnsOf]; omega)) hmn) rfl (q_loadP (v := .agg [iC .i64 n19, .p fr21 (Sl.t r33 s20)]) 0 rfl sz25 rfl rfl rfl rfl) ?_
      obtain ⟨s37, h36, h⟩ := bindS h
      refine tn_new rfl rfl rfl [] (by decide) rfl (hm0 rfl) rfl rfl (hkc (by omega) (hkc (by omega) (hkc (by omega) (hkc (by omega) hkn)))) (q_callO (args := [.agg [iC .i64 n19, .p fr21 (Sl.t r33 s20)]]) (fold_slots_r (m + 2) h36) rfl rfl (vw_cons (vd_agg (vc_cons vc_v (vc_cons vc_s vc_nil))) vw_nil) rfl) ?_
      refine tn_put rfl rfl rfl [] (by decide) rfl (hm0 rfl) rfl (q_assign (v := .one (.own (bb29 + 1) 0 (s35).length)) rfl) ?_
      refine tn_put rfl rfl rfl [] (by decide) rfl (hm0 rfl) rfl (q_assign (v := .one (.own (bb29 + 3) 0 (s37).length)) rfl) ?_
      refine tn_end ?_
      refine E_seq ?_
      refine L_seq ?_
      refine L_seq ?_
      refine L_ops ?_
      refine ol_put rfl rfl rfl (q_move (v := .one (.p false (Sl.t r3 s3))) rfl) ?_
      refine ol_put rfl rfl rfl (q_lenS rfl ty42 rfl rfl rfl rfl) ?_
      refine ol_put rfl rfl rfl (q_move (v := .one (iC .i64 0)) rfl) ?_
      refine ol_end ?_
      refine E_seq ?_
      refine L_block ?_
      let S1 : ((List (Int × Bool)) × Int) → Nat → (Nat → D) → Nat → D := fun a kt g => ups g [(6, .one (.ptr k8 0 0)), (8, .one (.own (bb29 + 1) 0 (s35).length)), (9, .one (.own kt 0 (a.1).length)), (31, .one (.p false (Sl.t r3 s3))), (32, .one (iC .i64 ((s3.l.length : Nat) : Int))), (33, .one (iC .i64 a.2))]
      let SL1 : ((List (Int × Bool)) × Int) → Nat → BL := fun a kt => ([[(k8, 2, [[iC .i64 0, .p true (Sl.t r33 (⟨false, 0, []⟩ : Sl (Int × Int)))]])], [((bb29 + 1), 2, (s35).map (rowC r79))], [(kt, 2, (a.1).map (rowC r79))]] : BL)
      let Sx1 : (List (Int × Bool)) → Nat → (Nat → D) → Nat → D := fun a kt g => ups g [(6, .one (.ptr k8 0 0)), (9, .one (.own kt 0 (a).length))]
      let SLx1 : (List (Int × Bool)) → Nat → BL := fun a kt => ([[(k8, 2, [[iC .i64 0, .p true (Sl.t r33 (⟨false, 0, []⟩ : Sl (Int × Int)))]])], [(kt, 2, (a).map (rowC r79))]] : BL)
      let G1 : ((Int × (Sl (Int × Int))) × Int) → Ex → St → Prop := fun u => endQ E1 [.cell 6 25, .tmp 7] (.fresh, [.agg (r24 u.1), .one (iT .i64 u.2)])
      let J1 : ((List (Int × Bool)) ⊕ ((Int × (Sl (Int × Int))) × Int)) → Ex → St → Prop := JX 48 0 Sx1 SLx1 G1
      refine L_loopS (fold_Assign_b1 s3 s35) S1 SL1 J1 JX_n (s37, 0) h (bb29 + 3) (ups_self ⟨rfl, rfl, rfl, rfl, rfl, rfl, trivial⟩) [2, 1, 0] (by decide) rfl ?_ ?_
      · rintro ⟨l65, n66⟩ k67 g out h
        change fold_Assign_b1 s3 s35 (l65, n66) = some out at h
        unfold fold_Assign_b1 at h
        refine L_seq ?_
        refine L_ops ?_
        by_cases c68 : n66 < ((s3.l.length : Nat) : Int)
        · replace h := ifT c68 h
          refine ol_put rfl rfl rfl (q_bin rfl rfl (p_lss_t _ _ _ _ _ c68) rfl) ?_
          refine ol_end ?_
          refine E_seq ?_
          refine L_seq ?_
          refine L_condT rfl ?_
          refine L_skip ?_
          refine E_seq ?_
          refine L_seq ?_
          refine L_block ?_
          refine L_seq ?_
          refine L_ops ?_
          refine ol_put rfl rfl rfl (q_move (v := .one (iC .i64 n66)) rfl) ?_
          obtain ⟨n71, h70, h⟩ := bindS h
          obtain ⟨h70a, h70b, h70⟩ := atS_some h70
          refine ol_put rfl rfl rfl (q_ixS rfl rfl h70a h70 (el42.trans (congrArg some h70b.symm))) ?_
          refine ol_put rfl rfl rfl (q_loadI (v := .one (iC .i64 n71)) rfl sz3 (map_get h70) rfl rfl) ?_
          refine ol_put rfl rfl rfl (q_assign (v := .one (iC .i64 n66)) rfl) ?_
          refine ol_put rfl rfl rfl (q_assign (v := .one (iC .i64 n71)) rfl) ?_
          refine ol_end ?_
          refine E_seq ?_
          refine L_ops ?_
          refine ol_put rfl rfl rfl (q_move (v := .one (.own k67 0 (l65).length)) rfl) ?_
          refine ol_put rfl rfl rfl (q_move (v := .one (iC .i64 n71)) rfl) ?_
          refine ol_put rfl rfl rfl (q_move (v := .one (.own (bb29 + 1) 0 (s35).length)) rfl) ?_
          refine ol_put rfl rfl rfl (q_move (v := .one (iC .i64 n66)) rfl) ?_
          obtain ⟨⟨n74, b75⟩, h73, h⟩ := bindS h
          obtain ⟨h73a, h73⟩ := atL_some h73
          refine ol_put rfl rfl rfl (q_ixO 1 rfl rfl h73a h73 rfl el77) ?_
          refine ol_put rfl rfl rfl (q_loadP (v := .agg [iC .i64 n74, bC b75]) 1 rfl sz80 rfl (map_get h73) rfl rfl) ?_
          obtain ⟨⟨n78, b79⟩, h77, h⟩ := bindS h
          obtain ⟨h77a, h77⟩ := atL_some h77
          refine ol_put rfl rfl rfl (q_ixO 2 rfl rfl h77a h77 rfl el77) ?_
          refine ol_wr rfl rfl (q_store (e' := rowC r79 (n74, b75)) (es' := ((l65.set n71.toNat (n74, b75))).map (rowC r79)) 2 rfl rfl rfl sz80 rfl rfl (map_get h77) rfl map_set) rfl ?_
          refine ol_re 9 (v := .one (.own k67 0 ((l65.set n71.toNat (n74, b75))).length)) (Eq.trans (b := .one (.own k67 0 (l65).length)) rfl (congrArg D.one own_setC)) ?_
          refine ol_re 38 (v := .one (.own k67 0 ((l65.set n71.toNat (n74, b75))).length)) (Eq.trans (b := .one (.own k67 0 (l65).length)) rfl (congrArg D.one own_setC)) ?_
          refine ol_end ?_
          refine E_blkN ?_
          refine E_seq ?_
          refine L_ops ?_
          refine ol_put rfl rfl rfl (q_bin rfl rfl (p_add _ _ _ _ _ _ _) rfl) ?_
          refine ol_put rfl rfl rfl (q_move (v := .one (iC .i64 (IntKind.i64.wrap (n66 + 1)))) rfl) ?_
          refine ol_end ?_
          obtain rfl := Option.some.inj h
          exact E_next k67 (ups_self ⟨rfl, rfl, rfl, rfl, rfl, rfl, trivial⟩) [0, 1, 2] (by decide) rfl
        · replace h := ifF c68 h
          refine ol_put rfl rfl rfl (q_bin rfl rfl (p_lss_f _ _ _ _ _ c68) rfl) ?_
          refine ol_end ?_
          refine E_seq ?_
          refine L_seq ?_
          refine L_condF rfl ?_
          refine L_exit ?_
          refine E_seqX ?_
          obtain rfl := Option.some.inj h
          refine E_out ?_
          exact (E_exit k67 (ups_self ⟨rfl, rfl, trivial⟩) [0, 2] (by decide) rfl)
      · rintro (l80 | u) h
        · refine J_x (fun k81 g => ?_)
          replace h := elimL h
          refine E_blkH ?_
          refine E_seq ?_
          refine L_seq ?_
          refine L_ops ?_
          refine ol_put rfl rfl rfl (q_move (v := .one (.own k81 0 (l80).length)) rfl) ?_
          obtain ⟨⟨n83, s84⟩, h82, h⟩ := bindS h
          refine ol_put rfl rfl rfl (q_callF (v := .agg [iC .i64 n83, .p true (Sl.t r33 s84)]) (args := [.one (.own k81 0 (l80).length)]) (fold_gathered_r (m + 2) h82) rfl rfl (vw_cons (vd_one (vc_own (r := r79) 1 rfl (fun x h m => rfl))) vw_nil) rfl rfl) ?_
          refine ol_wr rfl rfl (q_store (es' := [[iC .i64 n83, .p true (Sl.t r33 s84)]]) 0 rfl rfl rfl sz25 rfl rfl rfl rfl rfl) rfl ?_
          refine ol_put rfl rfl rfl (q_assign (v := .one (iC .i64 0)) rfl) ?_
          refine ol_end ?_
          refine E_seq ?_
          refine L_ret ?_
          obtain rfl := Option.some.inj h
          exact E_endF (.inr rfl) (res_cell (d := .agg [iC .i64 n83, .p true (Sl.t r33 s84)]) 0 rfl sz25 rfl rfl rfl rfl (res_tmp rfl res_nil)) (vw_cons (vd_agg (vc_cons vc_v (vc_cons vc_s vc_nil))) (vw_cons (vd_one vc_v) vw_nil)) (fun h hb => own_no2) rfl rfl
        · obtain rfl := Option.some.inj (elimR h)
          exact J_up (fun s hs => hs)
    · replace h := ifT (by decide) h
      refine L_condT rfl ?_
      refine L_seq ?_
      refine L_ops ?_
      refine ol_put rfl rfl rfl (q_build (cs := [iC .i64 0, .p true (Sl.t r33 (⟨false, 0, []⟩ : Sl (Int × Int)))]) ty25 rfl pl25 rfl) ?_
      refine ol_wr rfl rfl (q_store (es' := [[iC .i64 0, .p true (Sl.t r33 (⟨false, 0, []⟩ : Sl (Int × Int)))]]) 0 rfl rfl rfl sz25 rfl rfl rfl rfl rfl) rfl ?_
      refine ol_put rfl rfl rfl (q_assign (v := .one (iC .i64 3)) rfl) ?_
      refine ol_end ?_
      refine E_seq ?_
      refine L_ret ?_
      refine E_seqR ?_
      obtain rfl := Option.some.inj h
      exact E_endF (.inr rfl) (res_cell (d := .agg [iC .i64 0, .p true (Sl.t r33 (⟨false, 0, []⟩ : Sl (Int × Int)))]) 0 rfl sz25 rfl rfl rfl rfl (res_tmp rfl res_nil)) (vw_cons (vd_agg (vc_cons vc_v (vc_cons vc_s vc_nil))) (vw_cons (vd_one vc_v) vw_nil)) (fun h hb => own_no2) rfl rfl
end Ev
end Go.Proofs.Ytioagbejilllfaa
