/- Package edges: the statement EdgesTurns. -/
import Derived.Deep.RegionHeld3
import Derived.Test.YtfaddlpemhifpaaEd18
namespace Go.Proofs.Ytfaddlpemhifpaa
open Go.RowKit Go.Sort
set_option linter.unusedVariables false
set_option linter.unusedSimpArgs false

theorem in_mT {l : List Ed} (hI : ∀ e ∈ l, InE e) : ∀ e ∈ mT l, InE e := can_in (in_turn hI)
theorem in_mB {l : List Ed} (hI : ∀ e ∈ l, InE e) : ∀ e ∈ mB l, InE e := can_in (in_app hI (in_turn hI))
theorem p_turn2 (n : Int) (a : Option Addr) (l : List Ed) (c : Nat) (W : World) (ho : Ou W a c (mT l)) (hI : ∀ e ∈ l, InE e) (hl : l.length ≤ 60) : Calls Try.prog 20 #[.agg #[.int .i64 n, .slice a (mT l).length c]] W fun e w' => ∃ a' c', e = .returned (.agg #[.int .i64 n, .slice a' (mC l).length c']) ∧ Ou w' a' c' (mC l) ∧ Below W.heap.size W w' := by
  have H := p_turn n a (mT l) c W ho (in_mT hI) (by have := mT_len l; omega)
  rw [show mT (mT l) = mC l from turn_twice hI] at H
  exact H
theorem p_turnB (n : Int) (a : Option Addr) (l : List Ed) (c : Nat) (W : World) (ho : Ou W a c (mB l)) (hI : ∀ e ∈ l, InE e) (hl : l.length ≤ 60) : Calls Try.prog 20 #[.agg #[.int .i64 n, .slice a (mB l).length c]] W fun e w' => ∃ a' c', e = .returned (.agg #[.int .i64 n, .slice a' (mB l).length c']) ∧ Ou w' a' c' (mB l) ∧ Below W.heap.size W w' := by
  have H := p_turn n a (mB l) c W ho (in_mB hI) (by have := mB_len l; omega)
  rw [show mT (mB l) = mB l from turn_both hI] at H
  exact H
theorem p_bothB (n : Int) (a : Option Addr) (l : List Ed) (c : Nat) (W : World) (ho : Ou W a c (mB l)) (hI : ∀ e ∈ l, InE e) (hl : l.length ≤ 60) : Calls Try.prog 22 #[.agg #[.int .i64 n, .slice a (mB l).length c]] W fun e w' => ∃ a' c', e = .returned (.agg #[.int .i64 n, .slice a' (mB l).length c']) ∧ Ou w' a' c' (mB l) ∧ Below W.heap.size W w' := by
  have H := p_both n a (mB l) c W ho (in_mB hI) (by have := mB_len l; omega)
  rw [show mB (mB l) = mB l from both_both hI] at H
  exact H

attribute [local irreducible] mC mT mB mS mP mL cntsR few

set_option maxRecDepth 100000 in
set_option maxHeartbeats 4000000 in
theorem edgesTurns_law (HL : ∀ W : World, Calls Try.prog 9 #[] W fun e w' => e = .returned (.bool true) ∧ Below W.heap.size W w') (n : Int) (a : Option Addr) (l : List Ed) (c : Nat) (w : World) (hn : In64 n) (hC : Came w a l c) :
    Calls Try.prog 7 #[GV n a l.length c] w fun e w' => e = .returned (.bool true) ∧ Below w.heap.size w w' := by
  have HF := Lib.hid (fun W => few_any n a l c W hC.2.2.1 hC.2.2.2.1 hC.2.2.2.2)
  have HC := Lib.hid hC
  clear hC
  go_enter Try.func7, Try.ntmps7
  go_wp2_with fail
  refine (HF.out _).mono ?_
  rintro x w1 ⟨rfl, hb1⟩
  have hX0 : CellsAt (w.alloc (.cells #[.int .i64 n, .slice a l.length c] 24)) w.heap.size 24 #[.int .i64 n, .slice a l.length c] := World.alloc_heap_new _ _
  have hX1 := hX0.below hb1
  have hbw := (bl1 w _).trans (hb1.mono (by simp))
  have q0 : w1.cell? ⟨w.heap.size, 0, none⟩ = some (.int .i64 n) := hX1.cell 0
  have q1 : w1.cell? ⟨w.heap.size, 1, none⟩ = some (.slice a l.length c) := hX1.cell 1
  have f0 := hX1.frozen 0
  have f1 := hX1.frozen 1
  have kX := Has.of hX1.lt
  clear hX0 hb1
  obtain ⟨V, hV⟩ : ∃ V, V = (w1.setCell ⟨w.heap.size, 0, none⟩ (.int .i64 n)).setCell ⟨w.heap.size, 1, none⟩ (.slice a (few l).length c) := ⟨_, rfl⟩
  have hXV : CellsAt V w.heap.size 24 #[.int .i64 n, .slice a (few l).length c] := by
    rw [hV]; simpa using (hX1.set 0 (.int .i64 n)).set 1 (.slice a (few l).length c)
  have hbV : Below w.heap.size w V := by rw [hV]; exact bls (bls hbw (Nat.le_refl _) _) (Nat.le_refl _) _
  have hG := gd_new w n a l c V HC.out hXV hbV
  have hVh := Lib.hid hV
  clear hV hX1 hXV hbV hbw
  generalize few l = m at hG hVh HF ⊢
  generalize w.heap.size = X at hG q0 q1 f0 f1 kX hVh ⊢
  go_wp2_with fail
  rw [← hVh.out]
  clear hVh q0 q1 f0 f1 kX HF HC
  refine (p_both n a m c _ hG.ou hG.ins (by have := hG.len; omega)).mono ?_
  rintro x w2 ⟨a1, c1, rfl, hO, hb⟩
  have hG := hG.below hb
  clear hb
  have hb2 := bl1 w2 (.cells #[.int .i64 n, .slice a1 (mB m).length c1] 24)
  have hY : CellsAt (w2.alloc (.cells #[.int .i64 n, .slice a1 (mB m).length c1] 24)) w2.heap.size 24 #[.int .i64 n, .slice a1 (mB m).length c1] := World.alloc_heap_new _ _
  have hG := hG.below hb2
  have hO := hO.below hb2
  go_wp2_with fail
  clear hb2
  generalize w2.alloc (.cells #[.int .i64 n, .slice a1 (mB m).length c1] 24) = V2 at hG hY hO ⊢
  generalize w2.heap.size = Y at hY ⊢
  obtain ⟨e0, e1⟩ := hG.two
  have y0 : V2.cell? ⟨Y, 0, none⟩ = some (.int .i64 n) := hY.cell 0
  have y1 : V2.cell? ⟨Y, 1, none⟩ = some (.slice a1 (mB m).length c1) := hY.cell 1
  go_region_held3 (fun w' => w'.cell? ⟨X, 0, none⟩ = some (.int .i64 n) ∧ w'.cell? ⟨X, 1, none⟩ = some (.slice a m.length c) ∧ w'.cell? ⟨Y, 0, none⟩ = some (.int .i64 n) ∧ w'.cell? ⟨Y, 1, none⟩ = some (.slice a1 (mB m).length c1))
    (first | exact ⟨e0, e1, y0, y1⟩ | (simp only [World.cell?_drew]; exact ⟨e0, e1, y0, y1⟩) | exact ⟨hG9.two.1, hG9.two.2, hY9.cell 0, hY9.cell 1⟩ | exact ⟨hG8.two.1, hG8.two.2, hY8.cell 0, hY8.cell 1⟩ | exact ⟨hG7.two.1, hG7.two.2, hY7.cell 0, hY7.cell 1⟩ | exact ⟨hG6.two.1, hG6.two.2, hY6.cell 0, hY6.cell 1⟩ | exact ⟨hG5.two.1, hG5.two.2, hY5.cell 0, hY5.cell 1⟩ | exact ⟨hG4.two.1, hG4.two.2, hY4.cell 0, hY4.cell 1⟩ | exact ⟨hG3.two.1, hG3.two.2, hY3.cell 0, hY3.cell 1⟩ | exact ⟨hG2.two.1, hG2.two.2, hY2.cell 0, hY2.cell 1⟩ | exact ⟨hG1.two.1, hG1.two.2, hY1.cell 0, hY1.cell 1⟩)
    (first
      | (go_at_call 35; refine (same_t n a8 a1 (mB m) c8 c1 _ hA8 hB8 (by have := hG8.len; have := mB_len m; have := mC_len m; omega)).mono ?_; rintro x L ⟨rfl, hb⟩; have hG9 := hG8.below hb; have hB9 := hB8.below hb; have hY9 := hY8.below hb; clear hb)
      | (go_at_call 22; refine (p_bothB n a1 m c1 _ hB7 hG7.ins hG7.len).mono ?_; rintro x L ⟨a8, c8, rfl, hA8, hb⟩; have hG8 := hG7.below hb; have hB8 := hB7.below hb; have hY8 := hY7.below hb; clear hb)
      | (go_at_call 35; refine (same_t n a6 a1 (mB m) c6 c1 _ hA6 hB6 (by have := hG6.len; have := mB_len m; have := mC_len m; omega)).mono ?_; rintro x L ⟨rfl, hb⟩; have hG7 := hG6.below hb; have hB7 := hB6.below hb; have hY7 := hY6.below hb; clear hb)
      | (go_at_call 20; refine (p_turnB n a1 m c1 _ hB5 hG5.ins hG5.len).mono ?_; rintro x L ⟨a6, c6, rfl, hA6, hb⟩; have hG6 := hG5.below hb; have hB6 := hB5.below hb; have hY6 := hY5.below hb; clear hb)
      | (go_at_call 35; refine (same_t n a3 a4 (mC m) c3 c4 _ hA3 hA4 (by have := hG4.len; have := mB_len m; have := mC_len m; omega)).mono ?_; rintro x L ⟨rfl, hb⟩; have hG5 := hG4.below hb; have hB5 := hB4.below hb; have hY5 := hY4.below hb; clear hb)
      | (go_at_call 19; refine (r_canon n a m c _ hG3.ou hG3.ins (by have := hG3.len; omega)).mono ?_; rintro x L ⟨a4, c4, rfl, hA4, hb⟩; have hG4 := hG3.below hb; have hB4 := hB3.below hb; have hY4 := hY3.below hb; replace hA3 := hA3.below hb; clear hb)
      | (go_at_call 20; refine (p_turn2 n a2 m c2 _ hA2 hG2.ins hG2.len).mono ?_; rintro x L ⟨a3, c3, rfl, hA3, hb⟩; have hG3 := hG2.below hb; have hB3 := hB2.below hb; have hY3 := hY2.below hb; clear hb)
      | (go_at_call 20; refine (p_turn n a m c _ hG1.ou hG1.ins (by have := hG1.len; omega)).mono ?_; rintro x L ⟨a2, c2, rfl, hA2, hb⟩; have hG2 := hG1.below hb; have hB2 := hB1.below hb; have hY2 := hY1.below hb; clear hb)
      | (go_at_call 9; refine (HL _).mono ?_; rintro x L ⟨rfl, hb⟩; have hb := Below.trans (Below.refl _ V2).drew hb; have hG1 := hG.below hb; have hB1 := hO.below hb; have hY1 := hY.below hb; clear hb))
  go_wp2_with fail
  go_ret
  exact ⟨rfl, hG9.bel⟩
end Go.Proofs.Ytfaddlpemhifpaa
