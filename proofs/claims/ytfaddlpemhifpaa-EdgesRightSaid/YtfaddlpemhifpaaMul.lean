/- Plain numbers: the product of two numbers of 64 bits, out of four halves' products, and bit by bit. No program is named here. -/
import Derived.Test.YtfaddlpemhifpaaShift
namespace Go.Proofs.Ytfaddlpemhifpaa
open Go.RowKit

theorem and_half (x : Int) (h0 : 0 ≤ x) (h1 : x ≤ 18446744073709551615) : bits .and .u64 x 4294967295 = x % 4294967296 :=
  bits_mask .u64 64 (by decide) (fun n h0 h1 => by rw [IntKind.wrap_u64]; omega) 32 (by decide) x h0 (by omega)

/-- The four products. -/
def q0 (a b : Int) : Int := (a % 4294967296) * (b % 4294967296)
def q1 (a b : Int) : Int := (a % 4294967296) * (b / 4294967296)
def q2 (a b : Int) : Int := (a / 4294967296) * (b % 4294967296)
def q3 (a b : Int) : Int := (a / 4294967296) * (b / 4294967296)

theorem mul_small (a b : Int) (a0 : 0 ≤ a) (a1 : a ≤ 4294967295) (b0 : 0 ≤ b) (b1 : b ≤ 4294967295) : 0 ≤ a * b ∧ a * b ≤ 18446744065119617025 := by
  constructor
  · exact Int.mul_nonneg a0 b0
  · have h1 : a * b ≤ 4294967295 * b := Int.mul_le_mul_of_nonneg_right a1 b0
    omega
theorem q_bd (a b : Int) (a0 : 0 ≤ a) (a1 : a ≤ 18446744073709551615) (b0 : 0 ≤ b) (b1 : b ≤ 18446744073709551615) :
    (0 ≤ q0 a b ∧ q0 a b ≤ 18446744065119617025) ∧ (0 ≤ q1 a b ∧ q1 a b ≤ 18446744065119617025) ∧ (0 ≤ q2 a b ∧ q2 a b ≤ 18446744065119617025) ∧ (0 ≤ q3 a b ∧ q3 a b ≤ 18446744065119617025) :=
  ⟨mul_small _ _ (by omega) (by omega) (by omega) (by omega), mul_small _ _ (by omega) (by omega) (by omega) (by omega), mul_small _ _ (by omega) (by omega) (by omega) (by omega), mul_small _ _ (by omega) (by omega) (by omega) (by omega)⟩
theorem q_sum (a b : Int) : q0 a b + (q1 a b + q2 a b) * 4294967296 + q3 a b * 18446744073709551616 = a * b := by
  have ha := Int.emod_add_mul_ediv a 4294967296
  have hb := Int.emod_add_mul_ediv b 4294967296
  unfold q0 q1 q2 q3
  generalize a % 4294967296 = la at *
  generalize a / 4294967296 = ha' at *
  generalize b % 4294967296 = lb at *
  generalize b / 4294967296 = hb' at *
  subst ha hb
  simp only [Int.add_mul, Int.mul_add, Int.mul_assoc, Int.mul_comm, Int.mul_left_comm]
  rw [show (4294967296 * 4294967296 : Int) = 18446744073709551616 from rfl]
  omega

/-- Without a sign. -/
def un (a : Int) : Int := if a < 0 then a + 18446744073709551616 else a
theorem un_lo (a : Int) (h1 : -9223372036854775808 ≤ a) (h2 : a ≤ 9223372036854775807) : IntKind.u64.wrap a = un a := by
  rw [IntKind.wrap_u64]; unfold un; split <;> omega
theorem un_bd (a : Int) (h1 : -9223372036854775808 ≤ a) (h2 : a ≤ 9223372036854775807) : 0 ≤ un a ∧ un a ≤ 18446744073709551615 := by unfold un; split <;> omega

/-- What is summed of the four products. -/
def mulSum (a b : Int) : Int := q0 (un a) (un b) + q3 (un a) (un b) * 18446744073709551616 + q1 (un a) (un b) * 4294967296 + q2 (un a) (un b) * 4294967296
theorem mulSum_eq (a b : Int) : mulSum a b = un a * un b := by
  have h := q_sum (un a) (un b)
  unfold mulSum
  generalize q0 (un a) (un b) = x0 at *
  generalize q1 (un a) (un b) = x1 at *
  generalize q2 (un a) (un b) = x2 at *
  generalize q3 (un a) (un b) = x3 at *
  omega
theorem mul_hi_nn (a b : Int) (ha : 0 ≤ a) (hb : 0 ≤ b) : hi (mulSum a b) = hi (a * b) := by
  rw [mulSum_eq]; unfold un; rw [if_neg (by omega), if_neg (by omega)]
theorem hi_down (s b t : Int) (h : t = s - b * 18446744073709551616) : wrap64 (hi s - b) = hi t := by
  subst h; unfold wrap64 hi; omega
theorem lo_down (s t k : Int) (h : t = s - k * 18446744073709551616) : lo s = lo t := by subst h; unfold lo; omega
theorem mul_tn (a b : Int) (ha : a < 0) (hb : 0 ≤ b) : a * b = mulSum a b - b * 18446744073709551616 := by
  rw [mulSum_eq]; unfold un; rw [if_pos ha, if_neg (by omega), Int.add_mul]
  rw [Int.mul_comm 18446744073709551616 b]; omega
theorem mul_nt (a b : Int) (ha : 0 ≤ a) (hb : b < 0) : a * b = mulSum a b - a * 18446744073709551616 := by
  rw [mulSum_eq]; unfold un; rw [if_neg (by omega), if_pos hb, Int.mul_add]; omega
theorem mul_tt' (a b : Int) (ha : a < 0) (hb : b < 0) : mulSum a b - b * 18446744073709551616 - a * 18446744073709551616 = a * b + 340282366920938463463374607431768211456 := by
  rw [mulSum_eq]; unfold un; rw [if_pos ha, if_pos hb, Int.mul_add, Int.add_mul, Int.mul_comm 18446744073709551616 b]; omega
theorem fin_nn (a b : Int) (ha : 0 ≤ a) (hb : 0 ≤ b) : hi (mulSum a b) = hi (a * b) ∧ lo (mulSum a b) = lo (a * b) := by
  rw [mulSum_eq]; unfold un; rw [if_neg (by omega), if_neg (by omega)]; exact ⟨rfl, rfl⟩
theorem fin_tn (a b : Int) (ha : a < 0) (hb : 0 ≤ b) : wrap64 (hi (mulSum a b) - b) = hi (a * b) ∧ lo (mulSum a b) = lo (a * b) :=
  ⟨hi_down _ _ _ (mul_tn a b ha hb), lo_down _ _ _ (mul_tn a b ha hb)⟩
theorem fin_nt (a b : Int) (ha : 0 ≤ a) (hb : b < 0) : wrap64 (hi (mulSum a b) - a) = hi (a * b) ∧ lo (mulSum a b) = lo (a * b) :=
  ⟨hi_down _ _ _ (mul_nt a b ha hb), lo_down _ _ _ (mul_nt a b ha hb)⟩
theorem fin_tt (a b : Int) (ha : a < 0) (hb : b < 0) : wrap64 (wrap64 (hi (mulSum a b) - b) - a) = hi (a * b) ∧ lo (mulSum a b) = lo (a * b) := by
  have e := mul_tt' a b ha hb
  rw [hi_down _ b _ rfl, hi_down _ a _ rfl, e]
  refine ⟨hi_congr (by omega), ?_⟩
  rw [lo_down _ _ b rfl, lo_down _ _ a rfl, e]
  exact lo_congr (by omega)
end Go.Proofs.Ytfaddlpemhifpaa
