/- The places of a set, word by word. No program is named here. -/
import Derived.Test.YtccgpjhfgmonpaaDoorFlMath2
namespace Go.Proofs.YtccgpjhfgmonpaaDoor
open Go.RowKit

/-- The places from one on. -/
def ptP (p : Nat → Bool) (t : Nat) (x : Nat) : Bool := p x && decide (t ≤ x)
theorem pt_start (p : Nat → Bool) (i : Nat) : wd (ptP p (64 * i)) i = wd p i := wd_congr fun j hj => by unfold ptP; simp
theorem pt_zero {p : Nat → Bool} {t i : Nat} (h : wd (ptP p t) i = 0) (ht : 64 * i ≤ t) : ∀ y, t ≤ y → y < 64 * (i + 1) → p y = false := by
  intro y h1 h2
  have := wd_bit (ptP p t) i (y - 64 * i)
  rw [h, show 64 * i + (y - 64 * i) = y by omega] at this
  unfold ptP at this
  simp at this
  cases hp : p y
  · rfl
  · have := this (by omega) hp; omega
theorem pt_next {p : Nat → Bool} {t i u : Nat} (hu : u = wd (ptP p t) i) (h0 : u ≠ 0) (ht : 64 * i ≤ t) :
    Lib.ctz 64 u < 64 ∧ t ≤ 64 * i + Lib.ctz 64 u ∧ p (64 * i + Lib.ctz 64 u) = true ∧ (∀ y, t ≤ y → y < 64 * i + Lib.ctz 64 u → p y = false) ∧ u &&& (u - 1) = wd (ptP p (64 * i + Lib.ctz 64 u + 1)) i := by
  have hl : u < 18446744073709551616 := by rw [hu]; exact wd_lt _ _
  obtain ⟨h1, h2, h3, h4⟩ := ctz_spec h0 hl
  generalize Lib.ctz 64 u = k at h1 h2 h3 h4 ⊢
  have tb : ∀ j, u.testBit j = (decide (j < 64) && ptP p t (64 * i + j)) := fun j => by rw [hu, wd_bit]
  rw [tb] at h2
  unfold ptP at h2
  simp at h2
  refine ⟨h1, h2.2.2, h2.2.1, fun y h5 h6 => ?_, ?_⟩
  · have h7 := h3 (y - 64 * i) (by omega)
    rw [tb, show 64 * i + (y - 64 * i) = y by omega] at h7
    unfold ptP at h7
    simp at h7
    cases hp : p y
    · rfl
    · have := h7 (by omega) hp; omega
  · refine wd_eq (Nat.lt_of_le_of_lt Nat.and_le_left hl) fun j hj => ?_
    rw [h4, tb]
    unfold ptP
    by_cases hjk : j < k
    · have h7 := h3 j hjk
      rw [tb] at h7
      unfold ptP at h7
      rw [h7]
      have : ¬ 64 * i + k + 1 ≤ 64 * i + j := by omega
      simp [this]
    · by_cases e : j = k
      · subst e
        have : ¬ 64 * i + j + 1 ≤ 64 * i + j := by omega
        simp [this]
      · have a1 : t ≤ 64 * i + j := by omega
        have a2 : 64 * i + k + 1 ≤ 64 * i + j := by omega
        simp [hj, a1, a2, e]
theorem and_less {u : Nat} (hu : u < 18446744073709551616) (h0 : u ≠ 0) : bits .and .u64 (u : Int) ((u : Int) - 1) = ((u &&& (u - 1) : Nat) : Int) := by
  rw [show (u : Int) - 1 = ((u - 1 : Nat) : Int) by omega, bits_and_u64_nat _ _ hu (by omega)]
/-- A place of some words. -/
abbrev Plc := { x : Nat // x < 6400064 }
end Go.Proofs.YtccgpjhfgmonpaaDoor
