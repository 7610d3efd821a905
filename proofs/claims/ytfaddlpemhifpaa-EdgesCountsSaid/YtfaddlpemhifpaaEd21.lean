/- Package edges: the statement EdgesCounts. -/
import Derived.Deep.RegionHeld3
import Derived.Test.YtfaddlpemhifpaaEd18
namespace Go.Proofs.Ytfaddlpemhifpaa
open Go.RowKit Go.Sort
set_option linter.unusedVariables false
set_option linter.unusedSimpArgs false

theorem cntsR_len (f : Ed → Int) (n : Int) (l : List Ed) : (cntsR f n l).length ≤ 4096 := by
  unfold cntsR
  split
  · rw [cnts_len]; omega
  · simp

theorem c_outs (n : Int) (a : Option Addr) (l : List Ed) (c : Nat) (W : World) (ho : Ou W a c l) (hl : l.length ≤ 400) : Calls Try.prog 31 #[.agg #[.int .i64 n, .slice a l.length c]] W fun e w' => ∃ b d, e = .returned (.slice b (cntsR fromE n l).length d) ∧ RdN w' b (cntsR fromE n l) ∧ Below W.heap.size W w' := by
  refine (outs_any n a l c W ho.1 (by omega)).mono ?_
  rintro e w' ⟨v, rfl, hrow, hb⟩
  obtain ⟨_, b, d, rfl, hN⟩ := row_rdN hrow
  exact ⟨b, d, rfl, hN, hb⟩

theorem c_ins (n : Int) (a : Option Addr) (l : List Ed) (c : Nat) (W : World) (ho : Ou W a c l) (hl : l.length ≤ 400) : Calls Try.prog 33 #[.agg #[.int .i64 n, .slice a l.length c]] W fun e w' => ∃ b d, e = .returned (.slice b (cntsR intoE n l).length d) ∧ RdN w' b (cntsR intoE n l) ∧ Below W.heap.size W w' := by
  refine (ins_any n a l c W ho.1 (by omega)).mono ?_
  rintro e w' ⟨v, rfl, hrow, hb⟩
  obtain ⟨_, b, d, rfl, hN⟩ := row_rdN hrow
  exact ⟨b, d, rfl, hN, hb⟩

theorem c_routs (n : Int) (a : Option Addr) (l : List Ed) (c : Nat) (W : World) (ho : Ou W a c l) (hl : l.length ≤ 400) : Calls Try.prog 32 #[.agg #[.int .i64 n, .slice a l.length c]] W fun e w' => ∃ b d, e = .returned (.slice b (cntsR fromE n l).length d) ∧ RdN w' b (cntsR fromE n l) ∧ Below W.heap.size W w' := by
  refine (refOuts_any n a l c W ho.1 (by omega)).mono ?_
  rintro e w' ⟨v, rfl, hrow, hb⟩
  obtain ⟨_, b, d, rfl, hN⟩ := row_rdN hrow
  exact ⟨b, d, rfl, hN, hb⟩

theorem c_rins (n : Int) (a : Option Addr) (l : List Ed) (c : Nat) (W : World) (ho : Ou W a c l) (hl : l.length ≤ 400) : Calls Try.prog 34 #[.agg #[.int .i64 n, .slice a l.length c]] W fun e w' => ∃ b d, e = .returned (.slice b (cntsR intoE n l).length d) ∧ RdN w' b (cntsR intoE n l) ∧ Below W.heap.size W w' := by
  refine (refIns_any n a l c W ho.1 (by omega)).mono ?_
  rintro e w' ⟨v, rfl, hrow, hb⟩
  obtain ⟨_, b, d, rfl, hN⟩ := row_rdN hrow
  exact ⟨b, d, rfl, hN, hb⟩

theorem c_turned (n : Int) (a : Option Addr) (l : List Ed) (c : Nat) (W : World) (ho : Ou W a c (mT l)) (hI : ∀ e ∈ l, InE e) (hl : l.length ≤ 60) : Calls Try.prog 31 #[.agg #[.int .i64 n, .slice a (mT l).length c]] W fun e w' => ∃ b d, e = .returned (.slice b (cntsR intoE n (mC l)).length d) ∧ RdN w' b (cntsR intoE n (mC l)) ∧ Below W.heap.size W w' := by
  have H := c_outs n a (mT l) c W ho (by have := mT_len l; omega)
  rw [show cntsR fromE n (mT l) = cntsR intoE n (mC l) from cnts_turn hI n] at H
  exact H
theorem sameInts_t (a b : Option Addr) (l : List Int) (c d : Nat) (W : World) (h1 : RdN W a l) (h2 : RdN W b l) (hl : l.length ≤ 4096) : Calls Try.prog 30 #[.slice a l.length c, .slice b l.length d] W fun e w' => e = .returned (.bool true) ∧ Below W.heap.size W w' := by
  have H := sameInts_any a b l l c d W h1 h2 (by omega) (by omega)
  rw [decide_eq_true rfl] at H
  exact H

attribute [local irreducible] mC mT mB mS mP mL cntsR few

set_option maxRecDepth 100000 in
set_option maxHeartbeats 4000000 in
theorem edgesCounts_law (HL : ∀ W : World, Calls Try.prog 9 #[] W fun e w' => e = .returned (.bool true) ∧ Below W.heap.size W w') (n : Int) (a : Option Addr) (l : List Ed) (c : Nat) (w : World) (hn : In64 n) (hC : Came w a l c) :
    Calls Try.prog 5 #[GV n a l.length c] w fun e w' => e = .returned (.bool true) ∧ Below w.heap.size w w' := by
  by_cases h1 : 300 < n
  · by_cases h2 : n ≤ 4096
    · have HF := Lib.hid (fun W => few_any n a l c W hC.2.2.1 hC.2.2.2.1 hC.2.2.2.2)
      have HC := Lib.hid hC
      clear hC
      go_enter Try.func5, Try.ntmps5
      go_wp2_with fail
      refine (HF.out _).mono ?_
      rintro x w1 ⟨rfl, hb1⟩
      have hX0 : CellsAt (w.alloc (.cells #[.int .i64 n, .slice a l.length c] 24)) w.heap.size 24 #[.int .i64 n, .slice a l.length c] := World.alloc_heap_new _ _
      have hX1 := hX0.below hb1
      have hbw := (bl1 w _).trans (hb1.mono (by simp))
      have q0 : w1.cell? ⟨w.heap.size, 0, none⟩ = some (.int .i64 n) := hX1.cell 0
      have q1 : w1.cell? ⟨w.heap.size, 1, none⟩ = some (.slice a l.length c) := hX1.cell 1
      have f0 := hX1.frozen 0
      have f1 := hX1.frozen 1
      have kX := Has.of hX1.lt
      clear hX0 hb1
      obtain ⟨V, hV⟩ : ∃ V, V = (w1.setCell ⟨w.heap.size, 0, none⟩ (.int .i64 n)).setCell ⟨w.heap.size, 1, none⟩ (.slice a (few l).length c) := ⟨_, rfl⟩
      have hXV : CellsAt V w.heap.size 24 #[.int .i64 n, .slice a (few l).length c] := by
        rw [hV]; simpa using (hX1.set 0 (.int .i64 n)).set 1 (.slice a (few l).length c)
      have hbV : Below w.heap.size w V := by rw [hV]; exact bls (bls hbw (Nat.le_refl _) _) (Nat.le_refl _) _
      have hG := gd_new w n a l c V HC.out hXV hbV
      have hVh := Lib.hid hV
      clear hV hX1 hXV hbV hbw
      generalize few l = m at hG hVh HF ⊢
      generalize w.heap.size = X at hG q0 q1 f0 f1 kX hVh ⊢
      go_wp2_with fail
      rw [← hVh.out]
      clear hVh q0 q1 f0 f1 kX HF HC
      refine (HL _).mono ?_
      rintro x w2 ⟨rfl, hb⟩
      have hG1 := hG.below hb
      go_wp2_with fail
      go_ret
      exact ⟨rfl, hG1.bel⟩

    · have HF := Lib.hid (fun W => few_any n a l c W hC.2.2.1 hC.2.2.2.1 hC.2.2.2.2)
      have HC := Lib.hid hC
      clear hC
      go_enter Try.func5, Try.ntmps5
      go_wp2_with fail
      refine (HF.out _).mono ?_
      rintro x w1 ⟨rfl, hb1⟩
      have hX0 : CellsAt (w.alloc (.cells #[.int .i64 n, .slice a l.length c] 24)) w.heap.size 24 #[.int .i64 n, .slice a l.length c] := World.alloc_heap_new _ _
      have hX1 := hX0.below hb1
      have hbw := (bl1 w _).trans (hb1.mono (by simp))
      have q0 : w1.cell? ⟨w.heap.size, 0, none⟩ = some (.int .i64 n) := hX1.cell 0
      have q1 : w1.cell? ⟨w.heap.size, 1, none⟩ = some (.slice a l.length c) := hX1.cell 1
      have f0 := hX1.frozen 0
      have f1 := hX1.frozen 1
      have kX := Has.of hX1.lt
      clear hX0 hb1
      obtain ⟨V, hV⟩ : ∃ V, V = (w1.setCell ⟨w.heap.size, 0, none⟩ (.int .i64 n)).setCell ⟨w.heap.size, 1, none⟩ (.slice a (few l).length c) := ⟨_, rfl⟩
      have hXV : CellsAt V w.heap.size 24 #[.int .i64 n, .slice a (few l).length c] := by
        rw [hV]; simpa using (hX1.set 0 (.int .i64 n)).set 1 (.slice a (few l).length c)
      have hbV : Below w.heap.size w V := by rw [hV]; exact bls (bls hbw (Nat.le_refl _) _) (Nat.le_refl _) _
      have hG := gd_new w n a l c V HC.out hXV hbV
      have hVh := Lib.hid hV
      clear hV hX1 hXV hbV hbw
      generalize few l = m at hG hVh HF ⊢
      generalize w.heap.size = X at hG q0 q1 f0 f1 kX hVh ⊢
      go_wp2_with fail
      rw [← hVh.out]
      clear hVh q0 q1 f0 f1 kX HF HC
      obtain ⟨e0, e1⟩ := hG.two
      go_region_held3 (fun w' => w'.cell? ⟨X, 0, none⟩ = some (.int .i64 n) ∧ w'.cell? ⟨X, 1, none⟩ = some (.slice a m.length c))
        (first | exact ⟨e0, e1⟩ | (simp only [World.cell?_drew]; exact ⟨e0, e1⟩) | exact hG12.two | exact hG11.two | exact hG10.two | exact hG9.two | exact hG8.two | exact hG7.two | exact hG6.two | exact hG5.two | exact hG4.two | exact hG3.two | exact hG2.two | exact hG1.two)
        (first
          | (go_at_call 30; refine (sameInts_t a9 a11 (cntsR intoE n (mC m)) c9 c11 _ hA9 hA11 (cntsR_len _ _ _)).mono ?_; rintro x L ⟨rfl, hb⟩; have hG12 := hG11.below hb; clear hb)
          | (go_at_call 33; refine (c_ins n a10 (mC m) c10 _ hA10 (by have := hG10.len; have := mC_len m; omega)).mono ?_; rintro x L ⟨a11, c11, rfl, hA11, hb⟩; have hG11 := hG10.below hb; replace hA9 := hA9.below hb; clear hb)
          | (go_at_call 19; refine (r_canon n a m c _ hG9.ou hG9.ins (by have := hG9.len; omega)).mono ?_; rintro x L ⟨a10, c10, rfl, hA10, hb⟩; have hG10 := hG9.below hb; replace hA9 := hA9.below hb; clear hb)
          | (go_at_call 31; refine (c_turned n a8 m c8 _ hA8 hG8.ins hG8.len).mono ?_; rintro x L ⟨a9, c9, rfl, hA9, hb⟩; have hG9 := hG8.below hb; clear hb)
          | (go_at_call 20; refine (p_turn n a m c _ hG7.ou hG7.ins (by have := hG7.len; omega)).mono ?_; rintro x L ⟨a8, c8, rfl, hA8, hb⟩; have hG8 := hG7.below hb; clear hb)
          | (go_at_call 30; refine (sameInts_t a5 a6 (cntsR intoE n m) c5 c6 _ hA5 hA6 (cntsR_len _ _ _)).mono ?_; rintro x L ⟨rfl, hb⟩; have hG7 := hG6.below hb; clear hb)
          | (go_at_call 34; refine (c_rins n a m c _ hG5.ou (by have := hG5.len; omega)).mono ?_; rintro x L ⟨a6, c6, rfl, hA6, hb⟩; have hG6 := hG5.below hb; replace hA5 := hA5.below hb; clear hb)
          | (go_at_call 33; refine (c_ins n a m c _ hG4.ou (by have := hG4.len; omega)).mono ?_; rintro x L ⟨a5, c5, rfl, hA5, hb⟩; have hG5 := hG4.below hb; clear hb)
          | (go_at_call 30; refine (sameInts_t a2 a3 (cntsR fromE n m) c2 c3 _ hA2 hA3 (cntsR_len _ _ _)).mono ?_; rintro x L ⟨rfl, hb⟩; have hG4 := hG3.below hb; clear hb)
          | (go_at_call 32; refine (c_routs n a m c _ hG2.ou (by have := hG2.len; omega)).mono ?_; rintro x L ⟨a3, c3, rfl, hA3, hb⟩; have hG3 := hG2.below hb; replace hA2 := hA2.below hb; clear hb)
          | (go_at_call 31; refine (c_outs n a m c _ hG1.ou (by have := hG1.len; omega)).mono ?_; rintro x L ⟨a2, c2, rfl, hA2, hb⟩; have hG2 := hG1.below hb; clear hb)
          | (go_at_call 9; refine (HL _).mono ?_; rintro x L ⟨rfl, hb⟩; have hb := Below.trans (Below.refl _ V).drew hb; have hG1 := hG.below hb; clear hb))
      go_wp2_with fail
      go_ret
      exact ⟨rfl, hG12.bel⟩

  · have HF := Lib.hid (fun W => few_any n a l c W hC.2.2.1 hC.2.2.2.1 hC.2.2.2.2)
    have HC := Lib.hid hC
    clear hC
    go_enter Try.func5, Try.ntmps5
    go_wp2_with fail
    refine (HF.out _).mono ?_
    rintro x w1 ⟨rfl, hb1⟩
    have hX0 : CellsAt (w.alloc (.cells #[.int .i64 n, .slice a l.length c] 24)) w.heap.size 24 #[.int .i64 n, .slice a l.length c] := World.alloc_heap_new _ _
    have hX1 := hX0.below hb1
    have hbw := (bl1 w _).trans (hb1.mono (by simp))
    have q0 : w1.cell? ⟨w.heap.size, 0, none⟩ = some (.int .i64 n) := hX1.cell 0
    have q1 : w1.cell? ⟨w.heap.size, 1, none⟩ = some (.slice a l.length c) := hX1.cell 1
    have f0 := hX1.frozen 0
    have f1 := hX1.frozen 1
    have kX := Has.of hX1.lt
    clear hX0 hb1
    obtain ⟨V, hV⟩ : ∃ V, V = (w1.setCell ⟨w.heap.size, 0, none⟩ (.int .i64 n)).setCell ⟨w.heap.size, 1, none⟩ (.slice a (few l).length c) := ⟨_, rfl⟩
    have hXV : CellsAt V w.heap.size 24 #[.int .i64 n, .slice a (few l).length c] := by
      rw [hV]; simpa using (hX1.set 0 (.int .i64 n)).set 1 (.slice a (few l).length c)
    have hbV : Below w.heap.size w V := by rw [hV]; exact bls (bls hbw (Nat.le_refl _) _) (Nat.le_refl _) _
    have hG := gd_new w n a l c V HC.out hXV hbV
    have hVh := Lib.hid hV
    clear hV hX1 hXV hbV hbw
    generalize few l = m at hG hVh HF ⊢
    generalize w.heap.size = X at hG q0 q1 f0 f1 kX hVh ⊢
    go_wp2_with fail
    rw [← hVh.out]
    clear hVh q0 q1 f0 f1 kX HF HC
    obtain ⟨e0, e1⟩ := hG.two
    go_region_held3 (fun w' => w'.cell? ⟨X, 0, none⟩ = some (.int .i64 n) ∧ w'.cell? ⟨X, 1, none⟩ = some (.slice a m.length c))
      (first | exact ⟨e0, e1⟩ | (simp only [World.cell?_drew]; exact ⟨e0, e1⟩) | exact hG12.two | exact hG11.two | exact hG10.two | exact hG9.two | exact hG8.two | exact hG7.two | exact hG6.two | exact hG5.two | exact hG4.two | exact hG3.two | exact hG2.two | exact hG1.two)
      (first
        | (go_at_call 30; refine (sameInts_t a9 a11 (cntsR intoE n (mC m)) c9 c11 _ hA9 hA11 (cntsR_len _ _ _)).mono ?_; rintro x L ⟨rfl, hb⟩; have hG12 := hG11.below hb; clear hb)
        | (go_at_call 33; refine (c_ins n a10 (mC m) c10 _ hA10 (by have := hG10.len; have := mC_len m; omega)).mono ?_; rintro x L ⟨a11, c11, rfl, hA11, hb⟩; have hG11 := hG10.below hb; replace hA9 := hA9.below hb; clear hb)
        | (go_at_call 19; refine (r_canon n a m c _ hG9.ou hG9.ins (by have := hG9.len; omega)).mono ?_; rintro x L ⟨a10, c10, rfl, hA10, hb⟩; have hG10 := hG9.below hb; replace hA9 := hA9.below hb; clear hb)
        | (go_at_call 31; refine (c_turned n a8 m c8 _ hA8 hG8.ins hG8.len).mono ?_; rintro x L ⟨a9, c9, rfl, hA9, hb⟩; have hG9 := hG8.below hb; clear hb)
        | (go_at_call 20; refine (p_turn n a m c _ hG7.ou hG7.ins (by have := hG7.len; omega)).mono ?_; rintro x L ⟨a8, c8, rfl, hA8, hb⟩; have hG8 := hG7.below hb; clear hb)
        | (go_at_call 30; refine (sameInts_t a5 a6 (cntsR intoE n m) c5 c6 _ hA5 hA6 (cntsR_len _ _ _)).mono ?_; rintro x L ⟨rfl, hb⟩; have hG7 := hG6.below hb; clear hb)
        | (go_at_call 34; refine (c_rins n a m c _ hG5.ou (by have := hG5.len; omega)).mono ?_; rintro x L ⟨a6, c6, rfl, hA6, hb⟩; have hG6 := hG5.below hb; replace hA5 := hA5.below hb; clear hb)
        | (go_at_call 33; refine (c_ins n a m c _ hG4.ou (by have := hG4.len; omega)).mono ?_; rintro x L ⟨a5, c5, rfl, hA5, hb⟩; have hG5 := hG4.below hb; clear hb)
        | (go_at_call 30; refine (sameInts_t a2 a3 (cntsR fromE n m) c2 c3 _ hA2 hA3 (cntsR_len _ _ _)).mono ?_; rintro x L ⟨rfl, hb⟩; have hG4 := hG3.below hb; clear hb)
        | (go_at_call 32; refine (c_routs n a m c _ hG2.ou (by have := hG2.len; omega)).mono ?_; rintro x L ⟨a3, c3, rfl, hA3, hb⟩; have hG3 := hG2.below hb; replace hA2 := hA2.below hb; clear hb)
        | (go_at_call 31; refine (c_outs n a m c _ hG1.ou (by have := hG1.len; omega)).mono ?_; rintro x L ⟨a2, c2, rfl, hA2, hb⟩; have hG2 := hG1.below hb; clear hb)
        | (go_at_call 9; refine (HL _).mono ?_; rintro x L ⟨rfl, hb⟩; have hb := Below.trans (Below.refl _ V).drew hb; have hG1 := hG.below hb; clear hb))
    go_wp2_with fail
    go_ret
    exact ⟨rfl, hG12.bel⟩

end Go.Proofs.Ytfaddlpemhifpaa
