/- Functions of the program as functions on data, and that they are. -/
import Derived.Test.YtioagbejilllfaaLf3
import Derived.Test.YtioagbejilllfaaLf4
import Derived.Test.YtioagbejilllfaaLf7
import Derived.Test.YtioagbejilllfaaLy1
import Derived.Test.YtioagbejilllfaaLy2
namespace Go.Proofs.Ytioagbejilllfaa
namespace Ev
open Go
set_option linter.unusedVariables false
set_option linter.unusedSimpArgs false
set_option maxRecDepth 100000
set_option maxHeartbeats 1000000
attribute [local irreducible] OpsL StL TnL WpL EndL
noncomputable def law12_FoldWhere_b1 (s6 : Sl (Int × Int)) (n22 : Int) (s23 : Sl (Int × Int)) (n25 : Int) (s26 : Sl (Int × Int)) (n28 : Int) (s29 : Sl (Int × Int)) (n31 : Int) (s32 : Sl (Int × Int)) (n68 : Int) : Option (Int ⊕ (Unit ⊕ Bool)) :=
  (if n68 < ((s6.l.length : Nat) : Int) then ((atS 2 s6 n68).bind fun (n72, n73) => ((ref09_Get (n22, s23) n72).bind fun (n75, b76) => ((ref09_Get (n25, s26) n72).bind fun (n78, b79) => ((ref09_Get (n28, s29) n72).bind fun (n81, b82) => ((ref09_Get (n31, s32) n72).bind fun (n84, b85) => (if b76 = true then (if b79 = true then some (.inr (.inr false)) else (if b82 = true then some (.inr (.inr false)) else (if b85 = true then some (.inl (IntKind.i64.wrap (n68 + 1))) else some (.inr (.inr false))))) else (if b79 = true then (if b82 = true then some (.inr (.inr false)) else (if b85 = true then some (.inr (.inr false)) else some (.inl (IntKind.i64.wrap (n68 + 1))))) else (if b82 = true then (if b85 = true then some (.inl (IntKind.i64.wrap (n68 + 1))) else some (.inr (.inr false))) else some (.inr (.inr false)))))))))) else some (.inr (.inl ())))
noncomputable def law12_FoldWhere (n1 : Int) (s2 : Sl (Int × Int)) (n3 : Int) : Option (Bool) :=
  ((law09_Some n1 s2).bind fun (n5, s6) => ((fold_Where (n5, s6) 1 n3).bind fun (n22, s23) => ((fold_Where (n5, s6) 3 n3).bind fun (n25, s26) => ((fold_Where (n5, s6) 2 n3).bind fun (n28, s29) => ((fold_Where (n5, s6) 4 n3).bind fun (n31, s32) => ((loopO (law12_FoldWhere_b1 s6 n22 s23 n25 s26 n28 s29 n31 s32) 0).bind (Sum.elim (fun _ => ((FL).bind fun b87 => (if b87 = true then (if (IntKind.i64.wrap ((IntKind.i64.wrap (((s23.l.length : Nat) : Int) + ((s26.l.length : Nat) : Int))) + ((s29.l.length : Nat) : Int))) = ((s6.l.length : Nat) : Int) then some true else some false) else some false))) (fun u => some u))))))))
theorem law12_FoldWhere_r (m : Nat) {n1 : Int} {s2 : Sl (Int × Int)} {n3 : Int} {out : Bool} (h : law12_FoldWhere n1 s2 n3 = some out) : RunsP E1 (m + 6) 6 [.one (iT .u8 n1), .one (Sl.t r33 s2), .one (iT .i64 n3)] (.fresh, [.one (bT out)]) := by
  refine fn_F rfl (by rw [E1_fn]; exact show fiOf Try.prog 6 = _ by unfold fiOf; rw [Try.func6]; unfold Try.f6; rfl) rfl ?_
  dsimp only
  unfold law12_FoldWhere at h
  refine L_seq ?_
  refine L_ops ?_
  refine ol_put rfl rfl rfl (q_assign (v := .one (bC false)) rfl) ?_
  refine ol_end ?_
  refine E_seq ?_
  refine L_seq ?_
  refine L_ops ?_
  refine ol_put rfl rfl rfl (q_move (v := .one (iC .u8 n1)) rfl) ?_
  refine ol_put rfl rfl rfl (q_move (v := .one (.p false (Sl.t r33 s2))) rfl) ?_
  obtain ⟨⟨n5, s6⟩, h4, h⟩ := bindS h
  refine ol_put rfl rfl rfl (q_callF (v := .agg [iC .i64 n5, .p true (Sl.t r33 s6)]) (args := [.one (iC .u8 n1), .one (.p false (Sl.t r33 s2))]) (law09_Some_r (m + 0) h4) rfl rfl (vw_cons (vd_one vc_v) (vw_cons (vd_one vc_s) vw_nil)) rfl rfl) ?_
  refine ol_new rfl rfl rfl (q_alloc ty25 (row := [iC .i64 0, .p true (Sl.t r33 (⟨false, 0, []⟩ : Sl (Int × Int)))]) rfl rfl) (fun k7 => ?_)
  refine ol_wr rfl rfl (q_store (es' := [[iC .i64 n5, .p true (Sl.t r33 s6)]]) 0 rfl rfl rfl sz25 rfl rfl rfl rfl rfl) rfl ?_
  refine ol_end ?_
  refine E_seq ?_
  refine L_seq ?_
  refine L_norm (L2 := ([[(k7, 2, [[iC .i64 n5, .p true (Sl.t r33 s6)]])]] : BL)) [0] (by decide) rfl ?_
  refine L_turn 20 rfl [[], [], [], [], [], [], [], [], [], [], [], [], [], [], [], [], [], [], [], []] [(false, []), (false, []), (false, []), (false, []), (false, []), (false, []), (false, []), (false, []), (false, []), (false, []), (false, []), (false, []), (true, []), (true, []), (true, []), (true, []), (false, [12]), (false, [13]), (false, [14]), (false, [15])] [[1, 3, 4, 6, 7, 9, 10, 12, 13, 14, 15], [0, 3, 4, 6, 7, 9, 10, 12, 13, 14, 15], [3, 4, 6, 7, 9, 10, 12, 13, 14, 15], [0, 1, 2, 4, 6, 7, 9, 10, 12, 13, 14, 15], [0, 1, 2, 3, 6, 7, 9, 10, 12, 13, 14, 15], [6, 7, 9, 10, 12, 13, 14, 15], [0, 1, 2, 3, 4, 5, 7, 9, 10, 12, 13, 14, 15], [0, 1, 2, 3, 4, 5, 6, 9, 10, 12, 13, 14, 15], [9, 10, 12, 13, 14, 15], [0, 1, 2, 3, 4, 5, 6, 7, 8, 10, 12, 13, 14, 15], [0, 1, 2, 3, 4, 5, 6, 7, 8, 9, 12, 13, 14, 15], [12, 13, 14, 15], [0, 1, 2, 3, 4, 5, 6, 7, 8, 9, 10, 11, 13, 14, 15], [0, 1, 2, 3, 4, 5, 6, 7, 8, 9, 10, 11, 12, 14, 15], [0, 1, 2, 3, 4, 5, 6, 7, 8, 9, 10, 11, 12, 13, 15], [0, 1, 2, 3, 4, 5, 6, 7, 8, 9, 10, 11, 12, 13, 14], [], [], [], []] (by kernel_rfl) (by kernel_rfl) (by kernel_rfl) ?_ (fun bb8 hlt hnd => ?_)
  · intro bb8 hlt hnd
    have e_k7 : k7 < bb8 := key_lt hlt 0 rfl
    exact ⟨(by first | (simp; done) | (simp; omega) | (simp; assumption) | (simp_all; done) | (simp_all; omega)), (by first | (simp; done) | (simp; omega) | (simp; assumption) | (simp_all; done) | (simp_all; omega))⟩
  have e_k7 : k7 < bb8 := key_lt hlt 0 rfl
  clear hlt hnd
  refine tn_put rfl rfl rfl [0] (by decide) rfl (hmc (by first | (simp [turnsOf]; done) | (simp [turnsOf]; omega) | (simp [turnsOf]; assumption) | (simp_all [turnsOf]; done) | (simp_all [turnsOf]; omega)) hmn) rfl (q_loadP (v := .agg [iC .i64 n5, .p true (Sl.t r33 s6)]) 0 rfl sz25 rfl rfl rfl rfl) ?_
  refine tn_put rfl rfl rfl [] (by decide) rfl hmn rfl (q_move (v := .one (iC .i64 n3)) rfl) ?_
  obtain ⟨⟨n22, s23⟩, h21, h⟩ := bindS h
  refine tn_put rfl rfl rfl [] (by decide) rfl hmn rfl (q_callF (v := .agg [iC .i64 n22, .p true (Sl.t r33 s23)]) (args := [.agg [iC .i64 n5, .p true (Sl.t r33 s6)], .one (iC .i64 1), .one (iC .i64 n3)]) (fold_Where_r (m + 1) h21) rfl rfl (vw_cons (vd_agg (vc_cons vc_v (vc_cons vc_s vc_nil))) (vw_cons (vd_one vc_v) (vw_cons (vd_one vc_v) vw_nil))) rfl rfl) ?_
  refine tn_put rfl rfl rfl [0] (by decide) rfl (hmc (by first | (simp [turnsOf]; done) | (simp [turnsOf]; omega) | (simp [turnsOf]; assumption) | (simp_all [turnsOf]; done) | (simp_all [turnsOf]; omega)) hmn) rfl (q_loadP (v := .agg [iC .i64 n5, .p true (Sl.t r33 s6)]) 0 rfl sz25 rfl rfl rfl rfl) ?_
  refine tn_put rfl rfl rfl [] (by decide) rfl hmn rfl (q_move (v := .one (iC .i64 n3)) rfl) ?_
  obtain ⟨⟨n25, s26⟩, h24, h⟩ := bindS h
  refine tn_put rfl rfl rfl [] (by decide) rfl hmn rfl (q_callF (v := .agg [iC .i64 n25, .p true (Sl.t r33 s26)]) (args := [.agg [iC .i64 n5, .p true (Sl.t r33 s6)], .one (iC .i64 3), .one (iC .i64 n3)]) (fold_Where_r (m + 1) h24) rfl rfl (vw_cons (vd_agg (vc_cons vc_v (vc_cons vc_s vc_nil))) (vw_cons (vd_one vc_v) (vw_cons (vd_one vc_v) vw_nil))) rfl rfl) ?_
  refine tn_put rfl rfl rfl [0] (by decide) rfl (hmc (by first | (simp [turnsOf]; done) | (simp [turnsOf]; omega) | (simp [turnsOf]; assumption) | (simp_all [turnsOf]; done) | (simp_all [turnsOf]; omega)) hmn) rfl (q_loadP (v := .agg [iC .i64 n5, .p true (Sl.t r33 s6)]) 0 rfl sz25 rfl rfl rfl rfl) ?_
  refine tn_put rfl rfl rfl [] (by decide) rfl hmn rfl (q_move (v := .one (iC .i64 n3)) rfl) ?_
  obtain ⟨⟨n28, s29⟩, h27, h⟩ := bindS h
  refine tn_put rfl rfl rfl [] (by decide) rfl hmn rfl (q_callF (v := .agg [iC .i64 n28, .p true (Sl.t r33 s29)]) (args := [.agg [iC .i64 n5, .p true (Sl.t r33 s6)], .one (iC .i64 2), .one (iC .i64 n3)]) (fold_Where_r (m + 1) h27) rfl rfl (vw_cons (vd_agg (vc_cons vc_v (vc_cons vc_s vc_nil))) (vw_cons (vd_one vc_v) (vw_cons (vd_one vc_v) vw_nil))) rfl rfl) ?_
  refine tn_put rfl rfl rfl [0] (by decide) rfl (hmc (by first | (simp [turnsOf]; done) | (simp [turnsOf]; omega) | (simp [turnsOf]; assumption) | (simp_all [turnsOf]; done) | (simp_all [turnsOf]; omega)) hmn) rfl (q_loadP (v := .agg [iC .i64 n5, .p true (Sl.t r33 s6)]) 0 rfl sz25 rfl rfl rfl rfl) ?_
  refine tn_put rfl rfl rfl [] (by decide) rfl hmn rfl (q_move (v := .one (iC .i64 n3)) rfl) ?_
  obtain ⟨⟨n31, s32⟩, h30, h⟩ := bindS h
  refine tn_put rfl rfl rfl [] (by decide) rfl hmn rfl (q_callF (v := .agg [iC .i64 n31, .p true (Sl.t r33 s32)]) (args := [.agg [iC .i64 n5, .p true (Sl.t r33 s6)], .one (iC .i64 4), .one (iC .i64 n3)]) (fold_Where_r (m + 1) h30) rfl rfl (vw_cons (vd_agg (vc_cons vc_v (vc_cons vc_s vc_nil))) (vw_cons (vd_one vc_v) (vw_cons (vd_one vc_v) vw_nil))) rfl rfl) ?_
  refine tn_new rfl rfl rfl [] (by decide) rfl hmn rfl rfl (hkc (by omega) hkn) (q_alloc ty25 (row := [iC .i64 0, .p true (Sl.t r33 (⟨false, 0, []⟩ : Sl (Int × Int)))]) rfl rfl) ?_
  refine tn_new rfl rfl rfl [] (by decide) rfl hmn rfl rfl (hkc (by omega) (hkc (by omega) hkn)) (q_alloc ty25 (row := [iC .i64 0, .p true (Sl.t r33 (⟨false, 0, []⟩ : Sl (Int × Int)))]) rfl rfl) ?_
  refine tn_new rfl rfl rfl [] (by decide) rfl hmn rfl rfl (hkc (by omega) (hkc (by omega) (hkc (by omega) hkn))) (q_alloc ty25 (row := [iC .i64 0, .p true (Sl.t r33 (⟨false, 0, []⟩ : Sl (Int × Int)))]) rfl rfl) ?_
  refine tn_new rfl rfl rfl [] (by decide) rfl hmn rfl rfl (hkc (by omega) (hkc (by omega) (hkc (by omega) (hkc (by omega) hkn)))) (q_alloc ty25 (row := [iC .i64 0, .p true (Sl.t r33 (⟨false, 0, []⟩ : Sl (Int × Int)))]) rfl rfl) ?_
  refine tn_wr rfl rfl [3] (by decide) rfl (hm0 rfl) rfl (q_store (es' := [[iC .i64 n22, .p true (Sl.t r33 s23)]]) 0 rfl rfl rfl sz25 rfl rfl rfl rfl rfl) (q := 3) rfl rfl ?_
  refine tn_wr rfl rfl [2] (by decide) rfl (hm0 rfl) rfl (q_store (es' := [[iC .i64 n25, .p true (Sl.t r33 s26)]]) 0 rfl rfl rfl sz25 rfl rfl rfl rfl rfl) (q := 2) rfl rfl ?_
  refine tn_wr rfl rfl [1] (by decide) rfl (hm0 rfl) rfl (q_store (es' := [[iC .i64 n28, .p true (Sl.t r33 s29)]]) 0 rfl rfl rfl sz25 rfl rfl rfl rfl rfl) (q := 1) rfl rfl ?_
  refine tn_wr rfl rfl [0] (by decide) rfl (hm0 rfl) rfl (q_store (es' := [[iC .i64 n31, .p true (Sl.t r33 s32)]]) 0 rfl rfl rfl sz25 rfl rfl rfl rfl rfl) (q := 0) rfl rfl ?_
  refine tn_end ?_
  refine E_seq ?_
  refine L_seq ?_
  refine L_seq ?_
  refine L_ops ?_
  refine ol_put rfl rfl rfl (q_assign (v := .one (iC .i64 0)) rfl) ?_
  refine ol_end ?_
  refine E_seq ?_
  refine L_block ?_
  let S1 : Int → Unit → (Nat → D) → Nat → D := fun a kt g => ups g [(7, .one (.ptr k7 0 0)), (8, .one (.ptr (bb8 + 12) 0 0)), (9, .one (.ptr (bb8 + 13) 0 0)), (10, .one (.ptr (bb8 + 14) 0 0)), (11, .one (.ptr (bb8 + 15) 0 0)), (12, .one (iC .i64 a))]
  let SL1 : Int → Unit → BL := fun a kt => ([[(k7, 2, [[iC .i64 n5, .p true (Sl.t r33 s6)]])], [((bb8 + 12), 2, [[iC .i64 n22, .p true (Sl.t r33 s23)]])], [((bb8 + 13), 2, [[iC .i64 n25, .p true (Sl.t r33 s26)]])], [((bb8 + 14), 2, [[iC .i64 n28, .p true (Sl.t r33 s29)]])], [((bb8 + 15), 2, [[iC .i64 n31, .p true (Sl.t r33 s32)]])]] : BL)
  let Sx1 : Unit → Unit → (Nat → D) → Nat → D := fun a kt g => ups g [(7, .one (.ptr k7 0 0)), (8, .one (.ptr (bb8 + 12) 0 0)), (9, .one (.ptr (bb8 + 13) 0 0)), (10, .one (.ptr (bb8 + 14) 0 0))]
  let SLx1 : Unit → Unit → BL := fun a kt => ([[(k7, 2, [[iC .i64 n5, .p true (Sl.t r33 s6)]])], [((bb8 + 12), 2, [[iC .i64 n22, .p true (Sl.t r33 s23)]])], [((bb8 + 13), 2, [[iC .i64 n25, .p true (Sl.t r33 s26)]])], [((bb8 + 14), 2, [[iC .i64 n28, .p true (Sl.t r33 s29)]])]] : BL)
  let G1 : Bool → Ex → St → Prop := fun u => endQ E1 [.tmp 6] (.fresh, [.one (bT u)])
  let J1 : (Unit ⊕ Bool) → Ex → St → Prop := JX 125 0 Sx1 SLx1 G1
  refine L_loopS (law12_FoldWhere_b1 s6 n22 s23 n25 s26 n28 s29 n31 s32) S1 SL1 J1 JX_n 0 h () (ups_self ⟨rfl, rfl, rfl, rfl, rfl, rfl, trivial⟩) [4, 3, 2, 1, 0] (by decide) rfl ?_ ?_
  · rintro n68 _ g out h
    change law12_FoldWhere_b1 s6 n22 s23 n25 s26 n28 s29 n31 s32 n68 = some out at h
    unfold law12_FoldWhere_b1 at h
    refine L_seq ?_
    refine L_seq ?_
    refine L_ops ?_
    refine ol_put rfl rfl rfl (q_move (v := .one (iC .i64 n68)) rfl) ?_
    refine ol_put rfl rfl rfl (q_fieldP rfl fa25_1 rfl) ?_
    refine ol_put rfl rfl rfl (q_loadP (v := .one (.p true (Sl.t r33 s6))) 0 rfl sz23 rfl rfl rfl rfl) ?_
    refine ol_put rfl rfl rfl (q_lenS rfl ty23 rfl rfl rfl rfl) ?_
    by_cases c69 : n68 < ((s6.l.length : Nat) : Int)
    · replace h := ifT c69 h
      refine ol_put rfl rfl rfl (q_bin rfl rfl (p_lss_t _ _ _ _ _ c69) rfl) ?_
      refine ol_end ?_
      refine E_seq ?_
      refine L_condT rfl ?_
      refine L_skip ?_
      refine E_seq ?_
      refine L_seq ?_
      refine L_block ?_
      refine L_seq ?_
      refine L_ops ?_
      refine ol_put rfl rfl rfl (q_fieldP rfl fa25_1 rfl) ?_
      refine ol_put rfl rfl rfl (q_loadP (v := .one (.p true (Sl.t r33 s6))) 0 rfl sz23 rfl rfl rfl rfl) ?_
      refine ol_put rfl rfl rfl (q_move (v := .one (iC .i64 n68)) rfl) ?_
      obtain ⟨⟨n72, n73⟩, h71, h⟩ := bindS h
      obtain ⟨h71a, h71b, h71⟩ := atS_some h71
      refine ol_put rfl rfl rfl (q_ixS rfl rfl h71a h71 (el23.trans (congrArg some h71b.symm))) ?_
      refine ol_put rfl rfl rfl (q_fieldI rfl fa34_0 rfl) ?_
      refine ol_put rfl rfl rfl (q_loadI (v := .one (iC .i64 n72)) rfl sz3 (map_get h71) rfl rfl) ?_
      refine ol_put rfl rfl rfl (q_assign (v := .one (iC .i64 n72)) rfl) ?_
      refine ol_end ?_
      refine E_seq ?_
      refine L_seq ?_
      refine L_ops ?_
      refine ol_put rfl rfl rfl (q_loadP (v := .agg [iC .i64 n22, .p true (Sl.t r33 s23)]) 1 rfl sz25 rfl rfl rfl rfl) ?_
      refine ol_put rfl rfl rfl (q_move (v := .one (iC .i64 n72)) rfl) ?_
      obtain ⟨⟨n75, b76⟩, h74, h⟩ := bindS h
      refine ol_put rfl rfl rfl (q_callF (v := .tup [.one (iC .i64 n75), .one (bC b76)]) (args := [.agg [iC .i64 n22, .p true (Sl.t r33 s23)], .one (iC .i64 n72)]) (ref09_Get_r (m + 2) h74) rfl rfl (vw_cons (vd_agg (vc_cons vc_v (vc_cons vc_s vc_nil))) (vw_cons (vd_one vc_v) vw_nil)) rfl rfl) ?_
      refine ol_put rfl rfl rfl (q_move (v := .tup [.one (iC .i64 n75), .one (bC b76)]) rfl) ?_
      refine ol_put rfl rfl rfl (q_ext (v := .one (iC .i64 n75)) rfl rfl) ?_
      refine ol_put rfl rfl rfl (q_ext (v := .one (bC b76)) rfl rfl) ?_
      refine ol_put rfl rfl rfl (q_assign (v := .one (iC .i64 n75)) rfl) ?_
      refine ol_put rfl rfl rfl (q_assign (v := .one (bC b76)) rfl) ?_
      refine ol_end ?_
      refine E_seq ?_
      refine L_seq ?_
      refine L_ops ?_
      refine ol_put rfl rfl rfl (q_loadP (v := .agg [iC .i64 n25, .p true (Sl.t r33 s26)]) 2 rfl sz25 rfl rfl rfl rfl) ?_
      refine ol_put rfl rfl rfl (q_move (v := .one (iC .i64 n72)) rfl) ?_
      obtain ⟨⟨n78, b79⟩, h77, h⟩ := bindS h
      refine ol_put rfl rfl rfl (q_callF (v := .tup [.one (iC .i64 n78), .one (bC b79)]) (args := [.agg [iC .i64 n25, .p true (Sl.t r33 s26)], .one (iC .i64 n72)]) (ref09_Get_r (m + 2) h77) rfl rfl (vw_cons (vd_agg (vc_cons vc_v (vc_cons vc_s vc_nil))) (vw_cons (vd_one vc_v) vw_nil)) rfl rfl) ?_
      refine ol_put rfl rfl rfl (q_move (v := .tup [.one (iC .i64 n78), .one (bC b79)]) rfl) ?_
      refine ol_put rfl rfl rfl (q_ext (v := .one (iC .i64 n78)) rfl rfl) ?_
      refine ol_put rfl rfl rfl (q_ext (v := .one (bC b79)) rfl rfl) ?_
      refine ol_put rfl rfl rfl (q_assign (v := .one (iC .i64 n78)) rfl) ?_
      refine ol_put rfl rfl rfl (q_assign (v := .one (bC b79)) rfl) ?_
      refine ol_end ?_
      refine E_seq ?_
      refine L_seq ?_
      refine L_ops ?_
      refine ol_put rfl rfl rfl (q_loadP (v := .agg [iC .i64 n28, .p true (Sl.t r33 s29)]) 3 rfl sz25 rfl rfl rfl rfl) ?_
      refine ol_put rfl rfl rfl (q_move (v := .one (iC .i64 n72)) rfl) ?_
      obtain ⟨⟨n81, b82⟩, h80, h⟩ := bindS h
      refine ol_put rfl rfl rfl (q_callF (v := .tup [.one (iC .i64 n81), .one (bC b82)]) (args := [.agg [iC .i64 n28, .p true (Sl.t r33 s29)], .one (iC .i64 n72)]) (ref09_Get_r (m + 2) h80) rfl rfl (vw_cons (vd_agg (vc_cons vc_v (vc_cons vc_s vc_nil))) (vw_cons (vd_one vc_v) vw_nil)) rfl rfl) ?_
      refine ol_put rfl rfl rfl (q_move (v := .tup [.one (iC .i64 n81), .one (bC b82)]) rfl) ?_
      refine ol_put rfl rfl rfl (q_ext (v := .one (iC .i64 n81)) rfl rfl) ?_
      refine ol_put rfl rfl rfl (q_ext (v := .one (bC b82)) rfl rfl) ?_
      refine ol_put rfl rfl rfl (q_assign (v := .one (iC .i64 n81)) rfl) ?_
      refine ol_put rfl rfl rfl (q_assign (v := .one (bC b82)) rfl) ?_
      refine ol_end ?_
      refine E_seq ?_
      refine L_seq ?_
      refine L_ops ?_
      refine ol_put rfl rfl rfl (q_loadP (v := .agg [iC .i64 n31, .p true (Sl.t r33 s32)]) 4 rfl sz25 rfl rfl rfl rfl) ?_
      refine ol_put rfl rfl rfl (q_move (v := .one (iC .i64 n72)) rfl) ?_
      obtain ⟨⟨n84, b85⟩, h83, h⟩ := bindS h
      refine ol_put rfl rfl rfl (q_callF (v := .tup [.one (iC .i64 n84), .one (bC b85)]) (args := [.agg [iC .i64 n31, .p true (Sl.t r33 s32)], .one (iC .i64 n72)]) (ref09_Get_r (m + 2) h83) rfl rfl (vw_cons (vd_agg (vc_cons vc_v (vc_cons vc_s vc_nil))) (vw_cons (vd_one vc_v) vw_nil)) rfl rfl) ?_
      refine ol_put rfl rfl rfl (q_move (v := .tup [.one (iC .i64 n84), .one (bC b85)]) rfl) ?_
      refine ol_put rfl rfl rfl (q_ext (v := .one (iC .i64 n84)) rfl rfl) ?_
      refine ol_put rfl rfl rfl (q_ext (v := .one (bC b85)) rfl rfl) ?_
      refine ol_put rfl rfl rfl (q_assign (v := .one (iC .i64 n84)) rfl) ?_
      refine ol_put rfl rfl rfl (q_assign (v := .one (bC b85)) rfl) ?_
      refine ol_end ?_
      refine E_seq ?_
      refine L_seq ?_
      refine L_ops ?_
      refine ol_put rfl rfl rfl (q_move (v := .one (bC b76)) rfl) ?_
      refine ol_put rfl rfl rfl (q_move (v := .one (bC b76)) rfl) ?_
      rcases b76 with _ | _
      · replace h := ifF (by decide) h
        refine ol_skip rfl rfl rfl ?_
        refine ol_put rfl rfl rfl (q_pickF (v := .one (bC false)) rfl rfl) ?_
        refine ol_put rfl rfl rfl (q_move (v := .one (bC false)) rfl) ?_
        refine ol_put rfl rfl rfl (q_move (v := .one (bC b79)) rfl) ?_
        refine ol_put rfl rfl rfl (q_move (v := .one (bC b79)) rfl) ?_
        rcases b79 with _ | _
        · replace h := ifF (by decide) h
          refine ol_skip rfl rfl rfl ?_
          refine ol_put rfl rfl rfl (q_pickF (v := .one (bC false)) rfl rfl) ?_
          refine ol_put rfl rfl rfl (q_pickF (v := .one (bC false)) rfl rfl) ?_
          refine ol_put rfl rfl rfl (q_move (v := .one (bC false)) rfl) ?_
          refine ol_put rfl rfl rfl (q_move (v := .one (bC false)) rfl) ?_
          refine ol_put rfl rfl rfl (q_move (v := .one (bC false)) rfl) ?_
          refine ol_skip rfl rfl rfl ?_
          refine ol_put rfl rfl rfl (q_pickF (v := .one (bC false)) rfl rfl) ?_
          refine ol_put rfl rfl rfl (q_pickF (v := .one (bC false)) rfl rfl) ?_
          refine ol_put rfl rfl rfl (q_move (v := .one (bC false)) rfl) ?_
          refine ol_put rfl rfl rfl (q_move (v := .one (bC false)) rfl) ?_
          refine ol_put rfl rfl rfl (q_not rfl) ?_
          refine ol_put rfl rfl rfl (q_move (v := .one (bC true)) rfl) ?_
          refine ol_put rfl rfl rfl (q_move (v := .one (bC false)) rfl) ?_
          refine ol_put rfl rfl rfl (q_not rfl) ?_
          refine ol_put rfl rfl rfl (q_pickT (v := .one (bC true)) rfl rfl) ?_
          refine ol_put rfl rfl rfl (q_move (v := .one (bC true)) rfl) ?_
          refine ol_put rfl rfl rfl (q_move (v := .one (bC b82)) rfl) ?_
          rcases b82 with _ | _
          · replace h := ifF (by decide) h
            refine ol_put rfl rfl rfl (q_not rfl) ?_
            refine ol_put rfl rfl rfl (q_pickT (v := .one (bC true)) rfl rfl) ?_
            refine ol_put rfl rfl rfl (q_pickF (v := .one (bC true)) rfl rfl) ?_
            refine ol_put rfl rfl rfl (q_move (v := .one (bC true)) rfl) ?_
            refine ol_skip rfl rfl rfl ?_
            refine ol_skip rfl rfl rfl ?_
            refine ol_skip rfl rfl rfl ?_
            refine ol_put rfl rfl rfl (q_pickT (v := .one (bC true)) rfl rfl) ?_
            refine ol_end ?_
            refine E_seq ?_
            refine L_condT rfl ?_
            refine L_seq ?_
            refine L_ops ?_
            refine ol_put rfl rfl rfl (q_assign (v := .one (bC false)) rfl) ?_
            refine ol_end ?_
            refine E_seq ?_
            refine L_ret ?_
            refine E_blkR ?_
            refine E_seqR ?_
            obtain rfl := Option.some.inj h
            exact E_out (E_up (E_endF (.inr rfl) (res_tmp rfl res_nil) (vw_cons (vd_one vc_v) vw_nil) (fun h hb => own_p) rfl rfl))
          · replace h := ifT (by decide) h
            refine ol_put rfl rfl rfl (q_not rfl) ?_
            refine ol_put rfl rfl rfl (q_pickT (v := .one (bC false)) rfl rfl) ?_
            refine ol_put rfl rfl rfl (q_pickF (v := .one (bC false)) rfl rfl) ?_
            refine ol_put rfl rfl rfl (q_move (v := .one (bC false)) rfl) ?_
            refine ol_put rfl rfl rfl (q_move (v := .one (bC b85)) rfl) ?_
            refine ol_put rfl rfl rfl (q_move (v := .one (bC false)) rfl) ?_
            rcases b85 with _ | _
            · replace h := ifF (by decide) h
              refine ol_put rfl rfl rfl (q_binB rfl rfl (eqeqlB4 _ _ _ _) rfl) ?_
              refine ol_put rfl rfl rfl (q_pickF (v := .one (bC true)) rfl rfl) ?_
              refine ol_end ?_
              refine E_seq ?_
              refine L_condT rfl ?_
              refine L_seq ?_
              refine L_ops ?_
              refine ol_put rfl rfl rfl (q_assign (v := .one (bC false)) rfl) ?_
              refine ol_end ?_
              refine E_seq ?_
              refine L_ret ?_
              refine E_blkR ?_
              refine E_seqR ?_
              obtain rfl := Option.some.inj h
              exact E_out (E_up (E_endF (.inr rfl) (res_tmp rfl res_nil) (vw_cons (vd_one vc_v) vw_nil) (fun h hb => own_p) rfl rfl))
            · replace h := ifT (by decide) h
              refine ol_put rfl rfl rfl (q_binB rfl rfl (eqeqlB4 _ _ _ _) rfl) ?_
              refine ol_put rfl rfl rfl (q_pickF (v := .one (bC false)) rfl rfl) ?_
              refine ol_end ?_
              refine E_seq ?_
              refine L_condF rfl ?_
              refine L_skip ?_
              refine E_blkN ?_
              refine E_seq ?_
              refine L_ops ?_
              refine ol_put rfl rfl rfl (q_move (v := .one (iC .i64 n68)) rfl) ?_
              refine ol_put rfl rfl rfl (q_bin rfl rfl (p_add _ _ _ _ _ _ _) rfl) ?_
              refine ol_put rfl rfl rfl (q_assign (v := .one (iC .i64 (IntKind.i64.wrap (n68 + 1)))) rfl) ?_
              refine ol_end ?_
              obtain rfl := Option.some.inj h
              exact E_next () (ups_self ⟨rfl, rfl, rfl, rfl, rfl, rfl, trivial⟩) [0, 1, 2, 3, 4] (by decide) rfl
        · replace h := ifT (by decide) h
          refine ol_put rfl rfl rfl (q_move (v := .one (bC b82)) rfl) ?_
          refine ol_put rfl rfl rfl (q_pickT (v := .one (bC b82)) rfl rfl) ?_
          refine ol_put rfl rfl rfl (q_pickF (v := .one (bC b82)) rfl rfl) ?_
          refine ol_put rfl rfl rfl (q_move (v := .one (bC b82)) rfl) ?_
          rcases b82 with _ | _
          · replace h := ifF (by decide) h
            refine ol_put rfl rfl rfl (q_move (v := .one (bC false)) rfl) ?_
            refine ol_put rfl rfl rfl (q_move (v := .one (bC false)) rfl) ?_
            refine ol_skip rfl rfl rfl ?_
            refine ol_put rfl rfl rfl (q_pickF (v := .one (bC false)) rfl rfl) ?_
            refine ol_put rfl rfl rfl (q_pickF (v := .one (bC false)) rfl rfl) ?_
            refine ol_put rfl rfl rfl (q_move (v := .one (bC false)) rfl) ?_
            refine ol_put rfl rfl rfl (q_move (v := .one (bC false)) rfl) ?_
            refine ol_put rfl rfl rfl (q_not rfl) ?_
            refine ol_put rfl rfl rfl (q_move (v := .one (bC true)) rfl) ?_
            refine ol_put rfl rfl rfl (q_move (v := .one (bC true)) rfl) ?_
            refine ol_put rfl rfl rfl (q_not rfl) ?_
            refine ol_put rfl rfl rfl (q_pickT (v := .one (bC false)) rfl rfl) ?_
            refine ol_put rfl rfl rfl (q_move (v := .one (bC false)) rfl) ?_
            refine ol_skip rfl rfl rfl ?_
            refine ol_skip rfl rfl rfl ?_
            refine ol_put rfl rfl rfl (q_pickF (v := .one (bC false)) rfl rfl) ?_
            refine ol_put rfl rfl rfl (q_pickF (v := .one (bC false)) rfl rfl) ?_
            refine ol_put rfl rfl rfl (q_move (v := .one (bC false)) rfl) ?_
            refine ol_put rfl rfl rfl (q_move (v := .one (bC b85)) rfl) ?_
            refine ol_put rfl rfl rfl (q_move (v := .one (bC true)) rfl) ?_
            rcases b85 with _ | _
            · replace h := ifF (by decide) h
              refine ol_put rfl rfl rfl (q_binB rfl rfl (eqeqlB4 _ _ _ _) rfl) ?_
              refine ol_put rfl rfl rfl (q_pickF (v := .one (bC false)) rfl rfl) ?_
              refine ol_end ?_
              refine E_seq ?_
              refine L_condF rfl ?_
              refine L_skip ?_
              refine E_blkN ?_
              refine E_seq ?_
              refine L_ops ?_
              refine ol_put rfl rfl rfl (q_move (v := .one (iC .i64 n68)) rfl) ?_
              refine ol_put rfl rfl rfl (q_bin rfl rfl (p_add _ _ _ _ _ _ _) rfl) ?_
              refine ol_put rfl rfl rfl (q_assign (v := .one (iC .i64 (IntKind.i64.wrap (n68 + 1)))) rfl) ?_
              refine ol_end ?_
              obtain rfl := Option.some.inj h
              exact E_next () (ups_self ⟨rfl, rfl, rfl, rfl, rfl, rfl, trivial⟩) [0, 1, 2, 3, 4] (by decide) rfl
            · replace h := ifT (by decide) h
              refine ol_put rfl rfl rfl (q_binB rfl rfl (eqeqlB4 _ _ _ _) rfl) ?_
              refine ol_put rfl rfl rfl (q_pickF (v := .one (bC true)) rfl rfl) ?_
              refine ol_end ?_
              refine E_seq ?_
              refine L_condT rfl ?_
              refine L_seq ?_
              refine L_ops ?_
              refine ol_put rfl rfl rfl (q_assign (v := .one (bC false)) rfl) ?_
              refine ol_end ?_
              refine E_seq ?_
              refine L_ret ?_
              refine E_blkR ?_
              refine E_seqR ?_
              obtain rfl := Option.some.inj h
              exact E_out (E_up (E_endF (.inr rfl) (res_tmp rfl res_nil) (vw_cons (vd_one vc_v) vw_nil) (fun h hb => own_p) rfl rfl))
          · replace h := ifT (by decide) h
            refine ol_skip rfl rfl rfl ?_
            refine ol_skip rfl rfl rfl ?_
            refine ol_skip rfl rfl rfl ?_
            refine ol_skip rfl rfl rfl ?_
            refine ol_put rfl rfl rfl (q_pickT (v := .one (bC true)) rfl rfl) ?_
            refine ol_put rfl rfl rfl (q_move (v := .one (bC true)) rfl) ?_
            refine ol_skip rfl rfl rfl ?_
            refine ol_skip rfl rfl rfl ?_
            refine ol_skip rfl rfl rfl ?_
            refine ol_skip rfl rfl rfl ?_
            refine ol_skip rfl rfl rfl ?_
            refine ol_skip rfl rfl rfl ?_
            refine ol_skip rfl rfl rfl ?_
            refine ol_skip rfl rfl rfl ?_
            refine ol_skip rfl rfl rfl ?_
            refine ol_skip rfl rfl rfl ?_
            refine ol_put rfl rfl rfl (q_pickT (v := .one (bC true)) rfl rfl) ?_
            refine ol_put rfl rfl rfl (q_move (v := .one (bC true)) rfl) ?_
            refine ol_skip rfl rfl rfl ?_
            refine ol_skip rfl rfl rfl ?_
            refine ol_skip rfl rfl rfl ?_
            refine ol_put rfl rfl rfl (q_pickT (v := .one (bC true)) rfl rfl) ?_
            refine ol_end ?_
            refine E_seq ?_
            refine L_condT rfl ?_
            refine L_seq ?_
            refine L_ops ?_
            refine ol_put rfl rfl rfl (q_assign (v := .one (bC false)) rfl) ?_
            refine ol_end ?_
            refine E_seq ?_
            refine L_ret ?_
            refine E_blkR ?_
            refine E_seqR ?_
            obtain rfl := Option.some.inj h
            exact E_out (E_up (E_endF (.inr rfl) (res_tmp rfl res_nil) (vw_cons (vd_one vc_v) vw_nil) (fun h hb => own_p) rfl rfl))
      · replace h := ifT (by decide) h
        refine ol_put rfl rfl rfl (q_move (v := .one (bC b79)) rfl) ?_
        refine ol_put rfl rfl rfl (q_pickT (v := .one (bC b79)) rfl rfl) ?_
        refine ol_put rfl rfl rfl (q_move (v := .one (bC b79)) rfl) ?_
        rcases b79 with _ | _
        · replace h := ifF (by decide) h
          refine ol_put rfl rfl rfl (q_move (v := .one (bC false)) rfl) ?_
          refine ol_put rfl rfl rfl (q_move (v := .one (bC false)) rfl) ?_
          refine ol_skip rfl rfl rfl ?_
          refine ol_put rfl rfl rfl (q_pickF (v := .one (bC false)) rfl rfl) ?_
          refine ol_put rfl rfl rfl (q_pickF (v := .one (bC false)) rfl rfl) ?_
          refine ol_put rfl rfl rfl (q_move (v := .one (bC false)) rfl) ?_
          refine ol_put rfl rfl rfl (q_move (v := .one (bC true)) rfl) ?_
          refine ol_put rfl rfl rfl (q_move (v := .one (bC true)) rfl) ?_
          refine ol_put rfl rfl rfl (q_move (v := .one (bC b82)) rfl) ?_
          refine ol_put rfl rfl rfl (q_pickT (v := .one (bC b82)) rfl rfl) ?_
          refine ol_put rfl rfl rfl (q_pickF (v := .one (bC b82)) rfl rfl) ?_
          refine ol_put rfl rfl rfl (q_move (v := .one (bC b82)) rfl) ?_
          rcases b82 with _ | _
          · replace h := ifF (by decide) h
            refine ol_put rfl rfl rfl (q_move (v := .one (bC true)) rfl) ?_
            refine ol_put rfl rfl rfl (q_not rfl) ?_
            refine ol_put rfl rfl rfl (q_move (v := .one (bC false)) rfl) ?_
            refine ol_skip rfl rfl rfl ?_
            refine ol_skip rfl rfl rfl ?_
            refine ol_put rfl rfl rfl (q_pickF (v := .one (bC false)) rfl rfl) ?_
            refine ol_put rfl rfl rfl (q_move (v := .one (bC false)) rfl) ?_
            refine ol_skip rfl rfl rfl ?_
            refine ol_skip rfl rfl rfl ?_
            refine ol_put rfl rfl rfl (q_pickF (v := .one (bC false)) rfl rfl) ?_
            refine ol_put rfl rfl rfl (q_pickF (v := .one (bC false)) rfl rfl) ?_
            refine ol_put rfl rfl rfl (q_move (v := .one (bC false)) rfl) ?_
            refine ol_put rfl rfl rfl (q_move (v := .one (bC b85)) rfl) ?_
            refine ol_put rfl rfl rfl (q_move (v := .one (bC false)) rfl) ?_
            rcases b85 with _ | _
            · replace h := ifF (by decide) h
              refine ol_put rfl rfl rfl (q_binB rfl rfl (eqeqlB4 _ _ _ _) rfl) ?_
              refine ol_put rfl rfl rfl (q_pickF (v := .one (bC true)) rfl rfl) ?_
              refine ol_end ?_
              refine E_seq ?_
              refine L_condT rfl ?_
              refine L_seq ?_
              refine L_ops ?_
              refine ol_put rfl rfl rfl (q_assign (v := .one (bC false)) rfl) ?_
              refine ol_end ?_
              refine E_seq ?_
              refine L_ret ?_
              refine E_blkR ?_
              refine E_seqR ?_
              obtain rfl := Option.some.inj h
              exact E_out (E_up (E_endF (.inr rfl) (res_tmp rfl res_nil) (vw_cons (vd_one vc_v) vw_nil) (fun h hb => own_p) rfl rfl))
            · replace h := ifT (by decide) h
              refine ol_put rfl rfl rfl (q_binB rfl rfl (eqeqlB4 _ _ _ _) rfl) ?_
              refine ol_put rfl rfl rfl (q_pickF (v := .one (bC false)) rfl rfl) ?_
              refine ol_end ?_
              refine E_seq ?_
              refine L_condF rfl ?_
              refine L_skip ?_
              refine E_blkN ?_
              refine E_seq ?_
              refine L_ops ?_
              refine ol_put rfl rfl rfl (q_move (v := .one (iC .i64 n68)) rfl) ?_
              refine ol_put rfl rfl rfl (q_bin rfl rfl (p_add _ _ _ _ _ _ _) rfl) ?_
              refine ol_put rfl rfl rfl (q_assign (v := .one (iC .i64 (IntKind.i64.wrap (n68 + 1)))) rfl) ?_
              refine ol_end ?_
              obtain rfl := Option.some.inj h
              exact E_next () (ups_self ⟨rfl, rfl, rfl, rfl, rfl, rfl, trivial⟩) [0, 1, 2, 3, 4] (by decide) rfl
          · replace h := ifT (by decide) h
            refine ol_skip rfl rfl rfl ?_
            refine ol_skip rfl rfl rfl ?_
            refine ol_skip rfl rfl rfl ?_
            refine ol_skip rfl rfl rfl ?_
            refine ol_skip rfl rfl rfl ?_
            refine ol_skip rfl rfl rfl ?_
            refine ol_skip rfl rfl rfl ?_
            refine ol_skip rfl rfl rfl ?_
            refine ol_skip rfl rfl rfl ?_
            refine ol_skip rfl rfl rfl ?_
            refine ol_put rfl rfl rfl (q_pickT (v := .one (bC true)) rfl rfl) ?_
            refine ol_put rfl rfl rfl (q_move (v := .one (bC true)) rfl) ?_
            refine ol_skip rfl rfl rfl ?_
            refine ol_skip rfl rfl rfl ?_
            refine ol_skip rfl rfl rfl ?_
            refine ol_put rfl rfl rfl (q_pickT (v := .one (bC true)) rfl rfl) ?_
            refine ol_end ?_
            refine E_seq ?_
            refine L_condT rfl ?_
            refine L_seq ?_
            refine L_ops ?_
            refine ol_put rfl rfl rfl (q_assign (v := .one (bC false)) rfl) ?_
            refine ol_end ?_
            refine E_seq ?_
            refine L_ret ?_
            refine E_blkR ?_
            refine E_seqR ?_
            obtain rfl := Option.some.inj h
            exact E_out (E_up (E_endF (.inr rfl) (res_tmp rfl res_nil) (vw_cons (vd_one vc_v) vw_nil) (fun h hb => own_p) rfl rfl))
        · replace h := ifT (by decide) h
          refine ol_skip rfl rfl rfl ?_
          refine ol_skip rfl rfl rfl ?_
          refine ol_skip rfl rfl rfl ?_
          refine ol_skip rfl rfl rfl ?_
          refine ol_put rfl rfl rfl (q_pickT (v := .one (bC true)) rfl rfl) ?_
          refine ol_put rfl rfl rfl (q_move (v := .one (bC true)) rfl) ?_
          refine ol_skip rfl rfl rfl ?_
          refine ol_skip rfl rfl rfl ?_
          refine ol_skip rfl rfl rfl ?_
          refine ol_skip rfl rfl rfl ?_
          refine ol_put rfl rfl rfl (q_pickT (v := .one (bC true)) rfl rfl) ?_
          refine ol_put rfl rfl rfl (q_move (v := .one (bC true)) rfl) ?_
          refine ol_skip rfl rfl rfl ?_
          refine ol_skip rfl rfl rfl ?_
          refine ol_skip rfl rfl rfl ?_
          refine ol_skip rfl rfl rfl ?_
          refine ol_skip rfl rfl rfl ?_
          refine ol_skip rfl rfl rfl ?_
          refine ol_skip rfl rfl rfl ?_
          refine ol_skip rfl rfl rfl ?_
          refine ol_skip rfl rfl rfl ?_
          refine ol_skip rfl rfl rfl ?_
          refine ol_put rfl rfl rfl (q_pickT (v := .one (bC true)) rfl rfl) ?_
          refine ol_put rfl rfl rfl (q_move (v := .one (bC true)) rfl) ?_
          refine ol_skip rfl rfl rfl ?_
          refine ol_skip rfl rfl rfl ?_
          refine ol_skip rfl rfl rfl ?_
          refine ol_put rfl rfl rfl (q_pickT (v := .one (bC true)) rfl rfl) ?_
          refine ol_end ?_
          refine E_seq ?_
          refine L_condT rfl ?_
          refine L_seq ?_
          refine L_ops ?_
          refine ol_put rfl rfl rfl (q_assign (v := .one (bC false)) rfl) ?_
          refine ol_end ?_
          refine E_seq ?_
          refine L_ret ?_
          refine E_blkR ?_
          refine E_seqR ?_
          obtain rfl := Option.some.inj h
          exact E_out (E_up (E_endF (.inr rfl) (res_tmp rfl res_nil) (vw_cons (vd_one vc_v) vw_nil) (fun h hb => own_p) rfl rfl))
    · replace h := ifF c69 h
      refine ol_put rfl rfl rfl (q_bin rfl rfl (p_lss_f _ _ _ _ _ c69) rfl) ?_
      refine ol_end ?_
      refine E_seq ?_
      refine L_condF rfl ?_
      refine L_exit ?_
      refine E_seqX ?_
      obtain rfl := Option.some.inj h
      refine E_out ?_
      exact (E_exit () (ups_self ⟨rfl, rfl, rfl, rfl, trivial⟩) [0, 1, 2, 3] (by decide) rfl)
  · rintro (_ | u) h
    · refine J_x (fun kt g => ?_)
      replace h := elimL h
      refine E_blkH ?_
      refine E_seq ?_
      refine L_seq ?_
      refine L_ops ?_
      obtain ⟨b87, h86, h⟩ := bindS h
      refine ol_put rfl rfl rfl (q_callF (v := .one (bC b87)) (args := []) (FL_r (m + 4) h86) rfl rfl vw_nil rfl rfl) ?_
      refine ol_put rfl rfl rfl (q_move (v := .one (bC b87)) rfl) ?_
      rcases b87 with _ | _
      · replace h := ifF (by decide) h
        refine ol_skip rfl rfl rfl ?_
        refine ol_skip rfl rfl rfl ?_
        refine ol_skip rfl rfl rfl ?_
        refine ol_skip rfl rfl rfl ?_
        refine ol_skip rfl rfl rfl ?_
        refine ol_skip rfl rfl rfl ?_
        refine ol_skip rfl rfl rfl ?_
        refine ol_skip rfl rfl rfl ?_
        refine ol_skip rfl rfl rfl ?_
        refine ol_skip rfl rfl rfl ?_
        refine ol_skip rfl rfl rfl ?_
        refine ol_skip rfl rfl rfl ?_
        refine ol_skip rfl rfl rfl ?_
        refine ol_skip rfl rfl rfl ?_
        refine ol_skip rfl rfl rfl ?_
        refine ol_put rfl rfl rfl (q_pickF (v := .one (bC false)) rfl rfl) ?_
        refine ol_put rfl rfl rfl (q_assign (v := .one (bC false)) rfl) ?_
        refine ol_end ?_
        refine E_seq ?_
        refine L_ret ?_
        obtain rfl := Option.some.inj h
        exact E_endF (.inr rfl) (res_tmp rfl res_nil) (vw_cons (vd_one vc_v) vw_nil) (fun h hb => own_p) rfl rfl
      · replace h := ifT (by decide) h
        refine ol_put rfl rfl rfl (q_fieldP rfl fa25_1 rfl) ?_
        refine ol_put rfl rfl rfl (q_loadP (v := .one (.p true (Sl.t r33 s23))) 1 rfl sz23 rfl rfl rfl rfl) ?_
        refine ol_put rfl rfl rfl (q_lenS rfl ty23 rfl rfl rfl rfl) ?_
        refine ol_put rfl rfl rfl (q_fieldP rfl fa25_1 rfl) ?_
        refine ol_put rfl rfl rfl (q_loadP (v := .one (.p true (Sl.t r33 s26))) 2 rfl sz23 rfl rfl rfl rfl) ?_
        refine ol_put rfl rfl rfl (q_lenS rfl ty23 rfl rfl rfl rfl) ?_
        refine ol_put rfl rfl rfl (q_bin rfl rfl (p_add _ _ _ _ _ _ _) rfl) ?_
        refine ol_put rfl rfl rfl (q_fieldP rfl fa25_1 rfl) ?_
        refine ol_put rfl rfl rfl (q_loadP (v := .one (.p true (Sl.t r33 s29))) 3 rfl sz23 rfl rfl rfl rfl) ?_
        refine ol_put rfl rfl rfl (q_lenS rfl ty23 rfl rfl rfl rfl) ?_
        refine ol_put rfl rfl rfl (q_bin rfl rfl (p_add _ _ _ _ _ _ _) rfl) ?_
        refine ol_put rfl rfl rfl (q_fieldP rfl fa25_1 rfl) ?_
        refine ol_put rfl rfl rfl (q_loadP (v := .one (.p true (Sl.t r33 s6))) 0 rfl sz23 rfl rfl rfl rfl) ?_
        refine ol_put rfl rfl rfl (q_lenS rfl ty23 rfl rfl rfl rfl) ?_
        by_cases c88 : (IntKind.i64.wrap ((IntKind.i64.wrap (((s23.l.length : Nat) : Int) + ((s26.l.length : Nat) : Int))) + ((s29.l.length : Nat) : Int))) = ((s6.l.length : Nat) : Int)
        · replace h := ifT c88 h
          refine ol_put rfl rfl rfl (q_bin rfl rfl (p_eql_t _ _ _ _ _ c88) rfl) ?_
          refine ol_put rfl rfl rfl (q_pickT (v := .one (bC true)) rfl rfl) ?_
          refine ol_put rfl rfl rfl (q_assign (v := .one (bC true)) rfl) ?_
          refine ol_end ?_
          refine E_seq ?_
          refine L_ret ?_
          obtain rfl := Option.some.inj h
          exact E_endF (.inr rfl) (res_tmp rfl res_nil) (vw_cons (vd_one vc_v) vw_nil) (fun h hb => own_p) rfl rfl
        · replace h := ifF c88 h
          refine ol_put rfl rfl rfl (q_bin rfl rfl (p_eql_f _ _ _ _ _ c88) rfl) ?_
          refine ol_put rfl rfl rfl (q_pickT (v := .one (bC false)) rfl rfl) ?_
          refine ol_put rfl rfl rfl (q_assign (v := .one (bC false)) rfl) ?_
          refine ol_end ?_
          refine E_seq ?_
          refine L_ret ?_
          obtain rfl := Option.some.inj h
          exact E_endF (.inr rfl) (res_tmp rfl res_nil) (vw_cons (vd_one vc_v) vw_nil) (fun h hb => own_p) rfl rfl
    · obtain rfl := Option.some.inj (elimR h)
      exact J_up (fun s hs => hs)
end Ev
end Go.Proofs.Ytioagbejilllfaa
