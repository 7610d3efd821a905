/- Plain numbers: shifts and products of wide numbers. No program is named here. -/
import Derived.Test.YtfaddlpemhifpaaMath
import Derived.Lib.EndianBits
namespace Go.Proofs.Ytfaddlpemhifpaa
open Go.RowKit

theorem wrap64_congr {a b : Int} (h : (a - b) % 18446744073709551616 = 0) : wrap64 a = wrap64 b := by unfold wrap64; omega
theorem hi_wrap (z : Int) : hi z = wrap64 (z / 18446744073709551616) := by unfold hi wrap64; rfl
theorem le_mul_r (p q : Int) (hp : 0 ≤ p) (hq : 1 ≤ q) : p ≤ p * q := by
  have := Int.mul_le_mul_of_nonneg_left hq hp
  omega
theorem emod_mul_l (a b n : Int) : (a % n * b) % n = (a * b) % n := by rw [Int.mul_emod, Int.emod_emod, ← Int.mul_emod]

theorem pow_mul (m : Nat) (hm : m ≤ 64) : (2 : Int) ^ m * 2 ^ (64 - m) = 18446744073709551616 := by
  rw [← Int.pow_add, show m + (64 - m) = 64 from by omega]; rfl
theorem pow_pos (m : Nat) : (0 : Int) < 2 ^ m := Int.pow_pos (by decide)

/-- Of two numbers without a sign whose bits lie apart. -/
theorem or_join (i : Nat) (x y : Int) (hx₀ : 0 ≤ x) (hx : x % 2 ^ i = 0) (hx₁ : x < 18446744073709551616) (hy₀ : 0 ≤ y) (hy : y < 2 ^ i) (hy₁ : y < 18446744073709551616) : bits .or .u64 x y = x + y :=
  bits_join .u64 64 (by decide) (fun n h0 h1 => by rw [IntKind.wrap_u64]; omega) i x y hx₀ hx (by omega) hy₀ hy (by omega)
theorem or_join_low (i : Nat) (y x : Int) (hy₀ : 0 ≤ y) (hy : y < 2 ^ i) (hy₁ : y < 18446744073709551616) (hx₀ : 0 ≤ x) (hx : x % 2 ^ i = 0) (hx₁ : x < 18446744073709551616) : bits .or .u64 y x = y + x :=
  bits_join_low .u64 64 (by decide) (fun n h0 h1 => by rw [IntKind.wrap_u64]; omega) i y x hy₀ hy (by omega) hx₀ hx (by omega)

theorem div_mul_div (L p q : Int) (hp : 0 < p) (_hq : 0 < q) : (L * p) / (p * q) = L / q := by
  rw [Int.mul_comm L p]; exact Int.mul_ediv_mul_of_pos L q hp

theorem shl_div (x p q : Int) (hp : 0 < p) (hq : 0 < q) (hpq : p * q = 18446744073709551616) : (x * p) / 18446744073709551616 = (x / 18446744073709551616) * p + (x % 18446744073709551616) / q := by
  have e : x * p = x % 18446744073709551616 * p + (x / 18446744073709551616) * p * 18446744073709551616 := by
    have h := Int.emod_add_mul_ediv x 18446744073709551616
    generalize x / 18446744073709551616 = H at *
    generalize x % 18446744073709551616 = L at *
    rw [← h, Int.add_mul]; congr 1; rw [Int.mul_assoc, Int.mul_comm]
  rw [e, Int.add_mul_ediv_right _ _ (by decide)]
  have := div_mul_div (x % 18446744073709551616) p q hp hq
  rw [hpq] at this
  rw [this]; omega

theorem left_hi (x : Int) (m : Nat) (hm : m ≤ 63) :
    wrap64 (bits .or .u64 (IntKind.u64.wrap (IntKind.u64.wrap (hi x) * 2 ^ m)) (lo x / 2 ^ (64 - m))) = hi (x * 2 ^ m) := by
  have hpq := pow_mul m (by omega)
  have hp := pow_pos m
  have hq := pow_pos (64 - m)
  generalize hP : (2 : Int) ^ m = p at *
  generalize (2 : Int) ^ (64 - m) = q at *
  have hl := lo_bd x
  have e1 : IntKind.u64.wrap (IntKind.u64.wrap (hi x) * p) = (x / 18446744073709551616 * p) % 18446744073709551616 := by
    rw [IntKind.wrap_u64, IntKind.wrap_u64]
    have : hi x % 18446744073709551616 = x / 18446744073709551616 % 18446744073709551616 := by unfold hi; omega
    rw [this, emod_mul_l]
  have e2 : lo x / q < p := Int.ediv_lt_of_lt_mul hq (by rw [hpq]; omega)
  have e3 : 0 ≤ lo x / q := Int.ediv_nonneg hl.1 (by omega)
  have e4 : (x / 18446744073709551616 * p) % 18446744073709551616 % p = 0 := by
    rw [Int.emod_emod_of_dvd _ ⟨q, hpq.symm⟩]; exact Int.mul_emod_left _ _
  have hp64 : p ≤ 18446744073709551616 := by rw [← hpq]; exact le_mul_r p q (by omega) (by omega)
  rw [e1, or_join m _ _ (Int.emod_nonneg _ (by decide)) (by rw [hP]; exact e4) (Int.emod_lt_of_pos _ (by decide)) e3 (by rw [hP]; exact e2) (by omega), hi_wrap, shl_div x p q hp hq hpq]
  apply wrap64_congr
  show (_ + lo x / q - (_ + lo x / q)) % _ = 0
  generalize x / 18446744073709551616 * p = A
  omega

theorem left_lo (x : Int) (m : Nat) : IntKind.u64.wrap (lo x * 2 ^ m) = lo (x * 2 ^ m) := by
  rw [IntKind.wrap_u64]; unfold lo; rw [emod_mul_l]

theorem left_big (x : Int) (m : Nat) (hm : 64 ≤ m) : wrap64 (IntKind.u64.wrap (lo x * 2 ^ (m - 64))) = hi (x * 2 ^ m) ∧ 0 = lo (x * 2 ^ m) := by
  have e : (2 : Int) ^ m = 2 ^ (m - 64) * 18446744073709551616 := by
    rw [show (18446744073709551616 : Int) = 2 ^ 64 from rfl, ← Int.pow_add, show m - 64 + 64 = m from by omega]
  rw [e]
  generalize (2 : Int) ^ (m - 64) = p
  rw [← Int.mul_assoc]
  constructor
  · rw [hi_wrap, Int.mul_ediv_cancel _ (by decide), IntKind.wrap_u64]
    unfold lo
    rw [emod_mul_l]
    generalize x * p = A
    unfold wrap64; omega
  · unfold lo; rw [Int.mul_emod_left]
theorem left_none (x : Int) (m : Nat) (hm : 128 ≤ m) : 0 = hi (x * 2 ^ m) ∧ 0 = lo (x * 2 ^ m) := by
  have e : (2 : Int) ^ m = 2 ^ (m - 128) * 340282366920938463463374607431768211456 := by
    rw [show (340282366920938463463374607431768211456 : Int) = 2 ^ 128 from rfl, ← Int.pow_add, show m - 128 + 128 = m from by omega]
  rw [e]
  generalize (2 : Int) ^ (m - 128) = p
  rw [← Int.mul_assoc]
  generalize x * p = A
  constructor
  · unfold hi; omega
  · unfold lo; omega

theorem sv_shr (x p q : Int) (hp : 0 < p) (_hq : 0 < q) (hpq : p * q = 18446744073709551616) :
    sv x / p = (hi x / p) * 18446744073709551616 + ((hi x % p) * q + lo x / p) := by
  unfold sv
  have h1 := Int.emod_add_mul_ediv (hi x) p
  have e : hi x * 18446744073709551616 + lo x = lo x + (hi x * q) * p := by rw [← hpq, Int.mul_comm p q, Int.mul_assoc]; omega
  rw [e, Int.add_mul_ediv_right _ _ (by omega)]
  have : hi x * q = (hi x % p) * q + (hi x / p) * 18446744073709551616 := by
    conv => lhs; rw [← h1]
    rw [Int.add_mul, ← hpq]; congr 1; rw [Int.mul_comm p, Int.mul_assoc]
  omega

theorem right_halves (x : Int) (m : Nat) (hm : m ≤ 63) :
    bits .or .u64 (lo x / 2 ^ m) (IntKind.u64.wrap (IntKind.u64.wrap (hi x) * 2 ^ (64 - m))) = lo (sv x / 2 ^ m) ∧ hi x / 2 ^ m = hi (sv x / 2 ^ m) := by
  have hpq := pow_mul m (by omega)
  have hp := pow_pos m
  have hq := pow_pos (64 - m)
  generalize hP : (2 : Int) ^ m = p at *
  generalize hQ : (2 : Int) ^ (64 - m) = q at *
  have hl := lo_bd x
  have hh := hi_bd x
  have hs := sv_shr x p q hp hq hpq
  have r1 := Int.emod_nonneg (hi x) (show p ≠ 0 by omega)
  have r2 := Int.emod_lt_of_pos (hi x) hp
  have d1 : lo x / p < q := Int.ediv_lt_of_lt_mul hp (by rw [Int.mul_comm, hpq]; omega)
  have d0 : 0 ≤ lo x / p := Int.ediv_nonneg hl.1 (by omega)
  have m1 : (hi x % p) * q ≤ (p - 1) * q := Int.mul_le_mul_of_nonneg_right (by omega) (by omega)
  have m2 : (p - 1) * q = 18446744073709551616 - q := by rw [Int.sub_mul, hpq]; omega
  have m0 : 0 ≤ (hi x % p) * q := Int.mul_nonneg r1 (by omega)
  have e1 : IntKind.u64.wrap (IntKind.u64.wrap (hi x) * q) = (hi x % p) * q := by
    rw [IntKind.wrap_u64, IntKind.wrap_u64, emod_mul_l]
    have h1 := Int.emod_add_mul_ediv (hi x) p
    have : hi x * q = (hi x % p) * q + (hi x / p) * 18446744073709551616 := by
      conv => lhs; rw [← h1]
      rw [Int.add_mul, ← hpq]; congr 1; rw [Int.mul_comm p, Int.mul_assoc]
    rw [this, Int.add_mul_emod_self_right]
    exact Int.emod_eq_of_lt m0 (by omega)
  have q64 : q ≤ 18446744073709551616 := by rw [← hpq, Int.mul_comm]; exact le_mul_r q p (by omega) (by omega)
  have e2 : bits .or .u64 (lo x / p) ((hi x % p) * q) = lo x / p + (hi x % p) * q :=
    or_join_low (64 - m) _ _ d0 (by rw [hQ]; exact d1) (by omega) m0 (by rw [hQ]; exact Int.mul_emod_left _ _) (by omega)
  have b1 : -9223372036854775808 ≤ hi x / p := by
    have := Int.ediv_le_ediv hp hh.1
    have : -9223372036854775808 ≤ -9223372036854775808 / p := Int.le_ediv_of_mul_le hp (by
      have : (9223372036854775808 : Int) * 1 ≤ 9223372036854775808 * p := Int.mul_le_mul_of_nonneg_left (by omega) (by decide)
      omega)
    omega
  have b2 : hi x / p ≤ 9223372036854775807 := by
    have := Int.ediv_le_ediv hp hh.2
    have : (9223372036854775807 : Int) / p ≤ 9223372036854775807 := Int.ediv_le_self _ (by decide)
    omega
  rw [e1, e2, hs]
  generalize (hi x % p) * q = A at *
  generalize lo x / p = B at *
  generalize hi x / p = C at *
  constructor
  · unfold lo; omega
  · unfold hi; omega

theorem right_big (x : Int) (m : Nat) (hm : 64 ≤ m) : hi (hi x / 2 ^ (m - 64)) = hi (sv x / 2 ^ m) ∧ lo (hi x / 2 ^ (m - 64)) = lo (sv x / 2 ^ m) := by
  have e : (2 : Int) ^ m = 18446744073709551616 * 2 ^ (m - 64) := by
    rw [show (18446744073709551616 : Int) = 2 ^ 64 from rfl, ← Int.pow_add, show 64 + (m - 64) = m from by omega]
  have : sv x / 2 ^ m = hi x / 2 ^ (m - 64) := by
    rw [e, ← Int.ediv_ediv_of_nonneg (by decide)]
    congr 1
    have := lo_bd x
    unfold sv; omega
  rw [this]; exact ⟨rfl, rfl⟩
theorem right_none (x : Int) (m : Nat) (hm : 127 ≤ m) : hi x / 9223372036854775808 = sv x / 2 ^ m := by
  have e : (2 : Int) ^ m = 170141183460469231731687303715884105728 * 2 ^ (m - 127) := by
    rw [show (170141183460469231731687303715884105728 : Int) = 2 ^ 127 from rfl, ← Int.pow_add, show 127 + (m - 127) = m from by omega]
  have hp := pow_pos (m - 127)
  rw [e, ← Int.ediv_ediv_of_nonneg (by decide)]
  generalize (2 : Int) ^ (m - 127) = p at *
  have := lo_bd x
  have := hi_bd x
  by_cases h : hi x < 0
  · have e1 : sv x / 170141183460469231731687303715884105728 = -1 := by unfold sv; omega
    have e2 : hi x / 9223372036854775808 = -1 := by omega
    rw [e1, e2]
    exact (Int.ediv_eq_neg_one_of_neg_of_le (by decide) (by omega)).symm
  · have e1 : sv x / 170141183460469231731687303715884105728 = 0 := by unfold sv; omega
    have e2 : hi x / 9223372036854775808 = 0 := by omega
    rw [e1, e2]; simp
theorem not_bv (c n : Int) (hc : BitVec.ofInt 64 c = BitVec.allOnes 64) : (BitVec.ofInt 64 c ^^^ BitVec.ofInt 64 n).toNat = 2 ^ 64 - 1 - (n % 18446744073709551616).toNat := by
  rw [hc, BitVec.allOnes_xor, BitVec.toNat_not, BitVec.toNat_ofInt]; rfl
theorem not_u64 (n : Int) (h0 : 0 ≤ n) (h1 : n ≤ 18446744073709551615) : bits .xor .u64 IntKind.u64.max n = 18446744073709551615 - n := by
  show IntKind.u64.wrap ((BitVec.ofInt 64 IntKind.u64.max ^^^ BitVec.ofInt 64 n).toNat : Int) = _
  rw [not_bv _ _ (by decide), IntKind.wrap_u64]
  omega
theorem not_i64 (n : Int) (h0 : -9223372036854775808 ≤ n) (h1 : n ≤ 9223372036854775807) : bits .xor .i64 (-1) n = -1 - n := by
  show IntKind.i64.wrap ((BitVec.ofInt 64 (-1) ^^^ BitVec.ofInt 64 n).toNat : Int) = _
  rw [not_bv _ _ (by decide), IntKind.wrap_i64]
  omega
theorem compl_hi (x : Int) : bits .xor .i64 (-1) (hi x) = hi (-x - 1) := by
  rw [not_i64 _ (hi_bd x).1 (hi_bd x).2]; unfold hi; omega
theorem compl_lo (x : Int) : bits .xor .u64 IntKind.u64.max (lo x) = lo (-x - 1) := by
  rw [not_u64 _ (lo_bd x).1 (lo_bd x).2]; unfold lo; omega
theorem one_hi : (0 : Int) = hi 1 := by decide
theorem one_lo : (1 : Int) = lo 1 := by decide
end Go.Proofs.Ytfaddlpemhifpaa
