/- Plain numbers: parts are as large as each other, but for one. -/
import Derived.Test.YtphgkgpkallgeaaPart3
namespace Go.Proofs.Ytphgkgpkallgeaa
open Go.RowKit
set_option linter.unusedVariables false

/-- Where a part begins, or the last one ends. -/
theorem low_div (n k i : Int) (h : mayB n k = true) (h0 : 0 ≤ i) (hk : i ≤ k) : lowV n k i = i * n / k := by
  have hm := may_un h
  by_cases e : i = k
  · rw [← low_2 n k i h (by omega) (by omega), e, Int.mul_ediv_cancel_left _ (by omega)]
  · rw [(low_3 n k i h (by omega) (by omega)).1]

theorem low_full (n k : Int) (h : mayB n k = true) : lowV n k k = n := by
  have hm := may_un h
  rw [← low_2 n k k h (by omega) (by omega)]

/-- One part's size. -/
theorem low_step (n k i : Int) (h : mayB n k = true) (h0 : 0 ≤ i) (hk : i < k) : n / k ≤ lowV n k (i + 1) - lowV n k i ∧ lowV n k (i + 1) - lowV n k i ≤ n / k + 1 ∧ lowV n k (i + 1) - lowV n k i ≤ (n + k - 1) / k := by
  have hm := may_un h
  rw [low_div n k i h h0 (by omega), low_div n k (i + 1) h (by omega) (by omega)]
  have hk8 : k = 1 ∨ k = 2 ∨ k = 3 ∨ k = 4 ∨ k = 5 ∨ k = 6 ∨ k = 7 ∨ k = 8 := by omega
  have hi8 : i = 0 ∨ i = 1 ∨ i = 2 ∨ i = 3 ∨ i = 4 ∨ i = 5 ∨ i = 6 ∨ i = 7 := by omega
  clear h
  rcases hk8 with rfl | rfl | rfl | rfl | rfl | rfl | rfl | rfl <;> rcases hi8 with rfl | rfl | rfl | rfl | rfl | rfl | rfl | rfl <;> first | omega | (simp only [Int.reduceAdd]; omega)

theorem low_mono (n k : Int) (h : mayB n k = true) : ∀ (d : Nat) (i : Int), 0 ≤ i → i + d ≤ k → lowV n k i ≤ lowV n k (i + d) := by
  have hm := may_un h
  intro d
  induction d with
  | zero => intro i _ _; simp
  | succ d ih =>
    intro i h0 hk
    have h1 := ih i h0 (by omega)
    have h2 := low_step n k (i + d) h (by omega) (by omega)
    have hq : 0 ≤ n / k := Int.ediv_nonneg hm.1 (by omega)
    rw [show i + ((d + 1 : Nat) : Int) = i + d + 1 by omega]
    omega

/-- In which part a number of a part is. -/
theorem ofFrom_in (n k i a : Int) (h : mayB n k = true) (h0 : 0 ≤ i) (hk : i < k) (ha : lowV n k i ≤ a) (hb : a < lowV n k (i + 1)) :
    ∀ (f : Nat) (j : Int), 0 ≤ j → j ≤ i → i < j + f → ofFrom n k a f j = i := by
  intro f
  induction f with
  | zero => intro j _ _ _; omega
  | succ f ih =>
    intro j hj hji hf
    unfold ofFrom
    by_cases e : j = i
    · rw [e, if_pos hb]
    · have hmono := low_mono n k h (i - (j + 1)).toNat (j + 1) (by omega) (by omega)
      rw [show j + 1 + (((i - (j + 1)).toNat : Nat) : Int) = i by omega] at hmono
      rw [if_neg (by omega), ih (j + 1) (by omega) (by omega) (by omega)]

theorem of_part (n k i a : Int) (h : mayB n k = true) (h0 : 0 ≤ i) (hk : i < k) (ha : lowV n k i ≤ a) (hb : a < lowV n k (i + 1)) : ofV n k a = i := by
  have hm := may_un h
  have h1 := lowV_bd n k i
  have h2 := low_le n k (i + 1) h
  unfold ofV
  rw [if_pos ⟨h, by omega, by omega⟩]
  exact ofFrom_in n k i a h h0 hk ha hb k.toNat 0 (by omega) h0 (by omega)
end Go.Proofs.Ytphgkgpkallgeaa
