/- Package flags: all others, of both. -/
import Derived.Test.YtccgpjhfgmonpaaDoorFl15
import Derived.Test.YtccgpjhfgmonpaaDoorFl5
namespace Go.Proofs.YtccgpjhfgmonpaaDoor
open Go.RowKit Go.Sort
set_option linter.unusedVariables false

/-- All places below one. -/
def belowP (n : Int) (x : Nat) : Bool := decide ((x : Int) < n) && decide (x < 4096)
theorem below_word {n : Int} {i : Nat} (h0 : 0 < n) (hi : (i : Int) * 64 + 64 ≤ min n 4096) : wd (belowP n) i = 18446744073709551615 := by
  refine (wd_eq (by decide) fun j hj => ?_).symm
  rw [show (18446744073709551615 : Nat) = 2 ^ 64 - 1 by decide, Nat.testBit_two_pow_sub_one]
  have h1 : ((64 * i + j : Nat) : Int) < n := by omega
  have h2 : 64 * i + j < 4096 := by omega
  unfold belowP
  simp only [h1, h2, hj, decide_true, Bool.and_self]
theorem below_last {n : Int} {i k : Nat} (hk : k < 64) (he : min n 4096 = (i : Int) * 64 + k) : wd (belowP n) i = 2 ^ k - 1 := by
  have := Nat.pow_lt_pow_right (a := 2) (show 1 < 2 by decide) hk
  refine (wd_eq (by omega) fun j hj => ?_).symm
  rw [Nat.testBit_two_pow_sub_one]
  unfold belowP
  rw [Bool.eq_iff_iff]
  simp only [decide_eq_true_iff, Bool.and_eq_true]
  omega
def ones64 : Nat := 18446744073709551615

set_option maxRecDepth 100000 in
set_option maxHeartbeats 2000000 in
theorem flip_any (n : Int) (a : Option Addr) (m c : Nat) (p : Nat → Bool) (w : World) (hr : RdW w a m (wd p)) (hm : m ≤ 100000) :
    Calls Tryd.prog 39 #[.slice a m c, .int .i64 n] w fun e w' => ∃ g, e = .returned (.slice (some ⟨g, 0, none⟩) (nw n) (nw n)) ∧ w.heap.size ≤ g ∧ CellsAt w' g 48 (cellsW (wd (lessP (cutP (belowP n) (nw n)) (cutP p m))) (nw n)).toArray ∧ Below w.heap.size w w' := by
  go_enter Tryd.func39, Tryd.ntmps39
  go_wp2_with fail
  refine (new_any n w).mono ?_
  rintro e w1 ⟨g, rfl, hg, hC0, hB0⟩
  rw [cells_start (fun _ => 18446744073709551615)] at hC0
  have hgn := nw_le n
  have hN := Lib.hid (show nw n = (min n.toNat 4096 + 63) / 64 from rfl)
  have HM := Lib.hid (fun W g (h : RdW W (some ⟨g, 0, none⟩) (nw n) (wd (belowP n))) (h2 : RdW W a m (wd p)) => minus_any (belowP n) p (some ⟨g, 0, none⟩) a (nw n) (nw n) m c W h h2 (by omega) hm)
  obtain ⟨N, hNe⟩ : ∃ N, N = nw n := ⟨_, rfl⟩
  simp only [← hNe] at hC0 hgn hN HM ⊢
  have HNe := Lib.hid hNe
  clear hNe
  go_wp2
  go_loopw [12] (fun y wr => ∃ k : Nat, k ≤ N ∧ y = .int .i64 k ∧ CellsAt wr g 48 (cellsW (fun i => if i < k then 18446744073709551615 else 0) N).toArray ∧ Below w.heap.size w wr) (fun y _ => N - (intOf y).toNat)
  case atStart => exact ⟨0, by omega, rfl, hC0, hB0⟩
  case round =>
    clear hC0 hB0
    obtain ⟨k, hk, rfl, hC, hB⟩ := hrel
    by_cases hlt : k < N
    · have hk0 : (0 : Int) ≤ (k : Int) := by omega
      have hkN : (k : Int) < (N : Int) := by omega
      have hcell := cell_step (R := fun _ => 18446744073709551615) hC hlt
      have hfr := hC.frozen k
      have HS := Lib.hid (set_step (R := fun _ => 18446744073709551615) hC)
      go_wp2
      refine ⟨?_, by simp [intOf]; omega⟩
      exact ⟨k + 1, by omega, by simp, HS.out, hB.setCell hg _⟩
    · obtain rfl : k = N := by omega
      rw [cells_end] at hC
      have hh := HNe.out
      have HK := Lib.hid hh
      by_cases hn0 : n ≤ 0
      · -- no place: no word
        have hk0 : k = 0 := by rw [hh]; unfold nw; omega
        subst hk0
        have hrd : RdW wr (some ⟨g, 0, none⟩) 0 (wd (belowP n)) := fun i hi => absurd hi (Nat.not_lt_zero _)
        have H2 := Lib.hid (HM.out wr g hrd (hr.grown (grownBy_of_below hB none) (fun _ _ => by simp)))
        clear hC hrd hh hN
        go_wp2_with fail
        refine H2.out.mono ?_
        rintro e w2 ⟨g2, rfl, hg2, hC2, hb2⟩
        go_wp2
        go_ret
        rw [← HK.out]
        exact ⟨g2, rfl, Nat.le_trans hB.size hg2, hC2, hB.trans (hb2.mono hB.size)⟩
      · by_cases hbig : 4096 < n
        · have hk0 : k = 64 := by rw [hh]; unfold nw; omega
          have hk1 : 0 < (k : Int) := by omega
          have hrd : RdW wr (some ⟨g, 0, none⟩) k (wd (belowP n)) := (rdW_of_cells hC (fun _ _ => by decide)).congr fun i hi => (below_word (by omega) (by omega)).symm
          have H2 := Lib.hid (HM.out wr g hrd (hr.grown (grownBy_of_below hB none) (fun _ _ => by simp)))
          clear hC hrd hh hN hk0
          go_wp2_with fail
          refine H2.out.mono ?_
          rintro e w2 ⟨g2, rfl, hg2, hC2, hb2⟩
          go_wp2
          go_ret
          rw [← HK.out]
          exact ⟨g2, rfl, Nat.le_trans hB.size hg2, hC2, hB.trans (hb2.mono hB.size)⟩
        · have hn1 : 0 < n := by omega
          have hn2 : n ≤ 4096 := by omega
          have hk2 : (k : Int) = (n + 63) / 64 := by rw [hh]; unfold nw; omega
          have hk1 : 0 < (k : Int) := by omega
          have hn3 : 0 ≤ n := by omega
          by_cases hl : n % 64 = 0
          · have hl' : ¬ 0 < n % 64 := by omega
            have hrd : RdW wr (some ⟨g, 0, none⟩) k (wd (belowP n)) := (rdW_of_cells hC (fun _ _ => by decide)).congr fun i hi => (below_word (by omega) (by omega)).symm
            have H2 := Lib.hid (HM.out wr g hrd (hr.grown (grownBy_of_below hB none) (fun _ _ => by simp)))
            clear hC hrd hh hN hl hk2
            go_wp2_with fail
            refine H2.out.mono ?_
            rintro e w2 ⟨g2, rfl, hg2, hC2, hb2⟩
            go_wp2
            go_ret
            rw [← HK.out]
            exact ⟨g2, rfl, Nat.le_trans hB.size hg2, hC2, hB.trans (hb2.mono hB.size)⟩
          · have hl' : 0 < n % 64 := by omega
            obtain ⟨l, hle⟩ : ∃ l : Nat, (l : Int) = n % 64 := ⟨(n % 64).toNat, by omega⟩
            have hl64 : l < 64 := by omega
            have hl0 : 0 < l := by omega
            have HB := Lib.hid (fun W => bit_any l (by omega) W)
            rw [show l % 64 = l by omega] at HB
            have hP := Nat.pow_lt_pow_right (a := 2) (show 1 < 2 by decide) hl64
            have hP0 : 0 < 2 ^ l := Nat.two_pow_pos l
            have HL := Lib.hid (below_last (n := n) (i := k - 1) (k := l) hl64 (by omega))
            obtain ⟨B, hBB⟩ : ∃ B, B = 2 ^ l := ⟨_, rfl⟩
            rw [← hBB] at HB HL hP hP0
            have hrd : ∀ W, CellsAt W g 48 (cellsW (fun i => if i = k - 1 then B - 1 else 18446744073709551615) k).toArray → RdW W (some ⟨g, 0, none⟩) k (wd (belowP n)) := fun W h => (rdW_of_cells h (fun i _ => by split <;> omega)).congr fun i hi => by
              by_cases e : i = k - 1
              · rw [if_pos e, e, HL.out]
              · rw [if_neg e]; exact (below_word hn1 (by omega)).symm
            have hset := hC.set (k - 1) (.int .u64 (B - 1 : Nat))
            rw [cellsW_set] at hset
            have hBW := hB.setCell (p := ⟨g, k - 1, none⟩) hg (.int .u64 (B - 1 : Nat))
            have H2 := Lib.hid (HM.out _ g (hrd _ hset) (hr.grown (grownBy_of_below hBW none) (fun _ _ => by simp)))
            have hcell : wr.cell? ⟨g, k - 1, none⟩ = some (.int .u64 18446744073709551615) := by
              rw [hC.cell]
              have := cellsW_at (fun _ => 18446744073709551615) k (k - 1) (by omega)
              simpa using this
            have hfr := hC.frozen (k - 1)
            have hsub : ((B : Nat) : Int) - 1 = ((B - 1 : Nat) : Int) := by omega
            have e3 : ((k : Int) - 1).toNat = k - 1 := by omega
            have e4 : (0 : Int) ≤ (k : Int) - 1 := by omega
            have e5 : (k : Int) - 1 < (k : Int) := by omega
            have HBW := Lib.hid hBW
            have hP1 : (1 : Int) ≤ (B : Int) := by omega
            have hP2 : (B : Int) ≤ 18446744073709551615 := by omega
            have HLE := Lib.hid hle
            have hle' : n % 64 = (l : Int) := hle.symm
            clear hC hrd hh hN hl hk2 hset hBW hBB hP hP0 hle
            go_wp2_with fail
            refine (HB.out _).mono ?_
            rintro e w2 ⟨rfl, rfl⟩
            go_wp2_with fail
            refine H2.out.mono ?_
            rintro e w2 ⟨g2, rfl, hg2, hC2, hb2⟩
            go_wp2
            go_ret
            rw [← HK.out]
            exact ⟨g2, rfl, Nat.le_trans HBW.out.size hg2, hC2, HBW.out.trans (hb2.mono HBW.out.size)⟩
end Go.Proofs.YtccgpjhfgmonpaaDoor
