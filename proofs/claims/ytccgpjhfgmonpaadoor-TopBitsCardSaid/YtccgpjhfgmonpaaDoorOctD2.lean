/- Package octet: what is put is read: the numbers. -/
import Derived.Test.YtccgpjhfgmonpaaDoorOctD
namespace Go.Proofs.YtccgpjhfgmonpaaDoor
open Go.RowKit Go.Sort
set_option linter.unusedVariables false
theorem mod_step (n a : Int) (ha : 0 < a) : n % (a * 256) = n % a + n / a % 256 * a := by
  have h1 := Int.mul_ediv_add_emod n a
  have h2 := Int.mul_ediv_add_emod (n / a) 256
  have r0 := Int.emod_nonneg n (Int.ne_of_gt ha)
  have r1 := Int.emod_lt_of_pos n ha
  have s0 := Int.emod_nonneg (n / a) (show (256 : Int) ≠ 0 by decide)
  have s1 := Int.emod_lt_of_pos (n / a) (show (0 : Int) < 256 by decide)
  generalize n / a % 256 = s at h2 s0 s1 ⊢
  generalize n % a = r at h1 r0 r1 ⊢
  generalize n / a / 256 = q at h2
  rw [← h2] at h1
  have e : n = (r + s * a) + (a * 256) * q := by
    rw [← h1, Int.mul_add, ← Int.mul_assoc, Int.mul_comm s a]
    omega
  have b0 : 0 ≤ s * a := Int.mul_nonneg s0 (Int.le_of_lt ha)
  have b1 : s * a ≤ 255 * a := Int.mul_le_mul_of_nonneg_right (by omega) (Int.le_of_lt ha)
  rw [e, Int.add_mul_emod_self_left]
  exact Int.emod_eq_of_lt (by omega) (by omega)
theorem le_bt (n : Int) : ∀ k : Nat, le (bt n) k = n % 2 ^ (8 * k)
  | 0 => by simp [le]
  | k + 1 => by
    rw [p8, mod_step n _ (p8_pos k), ← le_bt n k]
    rfl
theorem le_bt8 (n : Int) (h : 0 ≤ n ∧ n < 256) : le (bt n) 1 = n := by
  rw [le_bt]; simp; omega
theorem le_bt32 (n : Int) (h : 0 ≤ n ∧ n < 4294967296) : le (bt n) 4 = n := by
  rw [le_bt]; simp; omega
theorem lw_bt64 (n : Int) (h : -9223372036854775808 ≤ n ∧ n < 9223372036854775808) : lw (bt n) 8 = n := by
  unfold lw
  rw [le_bt]
  unfold wrap64
  simp
  omega
/-- Bytes behind bytes. -/
def cat (F : Nat → Int) (k : Nat) (G : Nat → Int) (i : Nat) : Int := if i < k then F i else G (i - k)
theorem cat_lo (F : Nat → Int) (k : Nat) (G : Nat → Int) {i : Nat} (h : i < k) : cat F k G i = F i := by unfold cat; rw [if_pos h]
theorem cat_hi (F : Nat → Int) (k : Nat) (G : Nat → Int) (i : Nat) : cat F k G (k + i) = G i := by unfold cat; rw [if_neg (by omega)]; congr 1; omega
theorem cellsB_cat (F : Nat → Int) (k : Nat) (G : Nat → Int) (m : Nat) : cellsB F k ++ cellsB G m = cellsB (cat F k G) (k + m) := by
  refine List.ext_getElem? (fun i => ?_)
  by_cases h : i < k
  · rw [List.getElem?_append_left (by rw [cellsB_len]; exact h), cellsB_at _ _ _ h, cellsB_at _ _ _ (by omega), cat_lo F k G h]
  · rw [List.getElem?_append_right (by rw [cellsB_len]; omega), cellsB_len]
    by_cases h2 : i - k < m
    · rw [cellsB_at _ _ _ h2, cellsB_at _ _ _ (by omega)]
      have := cat_hi F k G (i - k)
      rw [show k + (i - k) = i by omega] at this
      rw [this]
    · rw [List.getElem?_eq_none (by rw [cellsB_len]; omega), List.getElem?_eq_none (by rw [cellsB_len]; omega)]
theorem cat_bd {F : Nat → Int} {k : Nat} {G : Nat → Int} {m : Nat} (hF : ∀ i, i < k → 0 ≤ F i ∧ F i ≤ 255) (hG : ∀ i, i < m → 0 ≤ G i ∧ G i ≤ 255) : ∀ i, i < k + m → 0 ≤ cat F k G i ∧ cat F k G i ≤ 255 := by
  intro i hi
  unfold cat
  split
  · exact hF i (by assumption)
  · exact hG (i - k) (by omega)
end Go.Proofs.YtccgpjhfgmonpaaDoor
