/- The places of a set: ranks, and next ones. No program is named here. -/
import Derived.Test.YtccgpjhfgmonpaaDoorFlMath3
namespace Go.Proofs.YtccgpjhfgmonpaaDoor
open Go.RowKit

theorem pl_lt_iff {p : Nat → Bool} {N k y : Nat} (h : (pl p N)[k]? = some y) (x : Int) : (y : Int) < x ↔ k < cnt p (min x.toNat N) := by
  obtain ⟨h1, h2, h3⟩ := pl_get h
  constructor
  · intro hx
    have h4 := cnt_mono p (show y + 1 ≤ min x.toNat N by omega)
    rw [cnt_succ, h2] at h4
    simp at h4
    omega
  · intro hk
    rcases Int.lt_or_le (y : Int) x with h4 | h4
    · exact h4
    · have := cnt_mono p (show min x.toNat N ≤ y by omega)
      omega
theorem pl_size {p : Nat → Bool} {N k : Nat} (h : k < cnt p N) : ∃ y, (pl p N)[k]? = some y :=
  ⟨_, List.getElem?_eq_getElem (by rw [pl_length]; exact h)⟩
/-- The first one listed that is not below a place is the next one. -/
theorem next_at {p : Nat → Bool} {N k y a : Nat} (h : (pl p N)[k]? = some y) (hy : a ≤ y) (hn : k ≤ cnt p (min a N)) : nextV p N a = y := by
  obtain ⟨h1, h2, h3⟩ := pl_get h
  refine nextV_some hy h1 (fun z h4 h5 => ?_) h2
  cases hz : p z
  · rfl
  · have h6 := cnt_mono p (show min a N ≤ z by omega)
    have h7 := cnt_mono p (show z + 1 ≤ y by omega)
    rw [cnt_succ, hz] at h7
    simp at h7
    omega
theorem next_off {p : Nat → Bool} {N a : Nat} (hn : cnt p N ≤ cnt p (min a N)) : nextV p N a = -1 := by
  refine nextV_none fun z h4 h5 => ?_
  cases hz : p z
  · rfl
  · have h6 := cnt_mono p (show min a N ≤ z by omega)
    have h7 := cnt_mono p (show z + 1 ≤ N by omega)
    rw [cnt_succ, hz] at h7
    simp at h7
    omega
/-- The next place in the word of a place. -/
theorem next_word {p : Nat → Bool} {y N : Nat} (hy : y / 64 * 64 + 64 ≤ N) (h0 : wd p (y / 64) / 2 ^ (y % 64) ≠ 0) :
    Lib.ctz 64 (wd p (y / 64) / 2 ^ (y % 64)) < 64 ∧ nextV p N y = ((y + Lib.ctz 64 (wd p (y / 64) / 2 ^ (y % 64)) : Nat) : Int) := by
  have hl : wd p (y / 64) / 2 ^ (y % 64) < 18446744073709551616 := Nat.lt_of_le_of_lt (Nat.div_le_self _ _) (wd_lt _ _)
  obtain ⟨h1, h2, h3, _⟩ := ctz_spec h0 hl
  generalize Lib.ctz 64 (wd p (y / 64) / 2 ^ (y % 64)) = k at h1 h2 h3 ⊢
  have tb : ∀ j, (wd p (y / 64) / 2 ^ (y % 64)).testBit j = (decide (y % 64 + j < 64) && p (64 * (y / 64) + (y % 64 + j))) := fun j => by
    rw [Nat.testBit_div_two_pow, wd_bit, Nat.add_comm j]
  rw [tb] at h2
  simp at h2
  refine ⟨h1, nextV_some (by omega) (by omega) (fun z h4 h5 => ?_) (by rw [← h2.2]; congr 1; omega)⟩
  have h6 := h3 (z - y) (by omega)
  rw [tb] at h6
  simp at h6
  have := h6 (by omega)
  rw [← this]; congr 1; omega
theorem next_word_none {p : Nat → Bool} {y : Nat} (h0 : wd p (y / 64) / 2 ^ (y % 64) = 0) : ∀ z, y ≤ z → z < 64 * (y / 64 + 1) → p z = false := by
  intro z h1 h2
  have tb : (wd p (y / 64) / 2 ^ (y % 64)).testBit (z - y) = (decide (y % 64 + (z - y) < 64) && p (64 * (y / 64) + (y % 64 + (z - y)))) := by
    rw [Nat.testBit_div_two_pow, wd_bit, Nat.add_comm (z - y)]
  rw [h0] at tb
  simp at tb
  have := tb (by omega)
  rw [← this]; congr 1; omega
/-- The next place behind some words. -/
theorem next_behind {p : Nat → Bool} {y n : Nat} (hn : ∀ z, y ≤ z → z < 64 * (y / 64 + 1) → p z = false) (hy : y / 64 < n) {x : Nat} (hx : (pl (fun z => p (64 * (y / 64 + 1) + z)) (64 * (n - (y / 64 + 1))))[0]? = some x) :
    nextV p (64 * n) y = ((64 * (y / 64 + 1) + x : Nat) : Int) := by
  obtain ⟨h1, h2, h3⟩ := pl_get hx
  refine nextV_some (by omega) (by omega) (fun z h4 h5 => ?_) h2
  by_cases h6 : z < 64 * (y / 64 + 1)
  · exact hn z h4 h6
  · cases hz : p z
    · rfl
    · have h7 := cnt_mono (fun z => p (64 * (y / 64 + 1) + z)) (show z - 64 * (y / 64 + 1) + 1 ≤ x by omega)
      rw [cnt_succ] at h7
      have : p (64 * (y / 64 + 1) + (z - 64 * (y / 64 + 1))) = true := by rw [← hz]; congr 1; omega
      simp only [this, if_true] at h7
      omega
theorem next_behind_none {p : Nat → Bool} {y n : Nat} (hn : ∀ z, y ≤ z → z < 64 * (y / 64 + 1) → p z = false) (hx : pl (fun z => p (64 * (y / 64 + 1) + z)) (64 * (n - (y / 64 + 1))) = []) :
    nextV p (64 * n) y = -1 := by
  refine nextV_none fun z h4 h5 => ?_
  by_cases h6 : z < 64 * (y / 64 + 1)
  · exact hn z h4 h6
  · cases hz : p z
    · rfl
    · have : z - 64 * (y / 64 + 1) ∈ pl (fun z => p (64 * (y / 64 + 1) + z)) (64 * (n - (y / 64 + 1))) := mem_pl.2 ⟨by omega, by
        show p (64 * (y / 64 + 1) + (z - 64 * (y / 64 + 1))) = true
        rw [← hz]; congr 1; omega⟩
      rw [hx] at this
      cases this
end Go.Proofs.YtccgpjhfgmonpaaDoor
