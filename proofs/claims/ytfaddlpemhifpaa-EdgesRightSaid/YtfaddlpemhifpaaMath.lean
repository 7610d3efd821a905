/- Plain numbers: a wide number's two halves. No program is named here. -/
import GoSem.Claim
import Derived.WalkKit
import Derived.IntWalk
namespace Go.Proofs.Ytfaddlpemhifpaa
open Go.RowKit

def hi (z : Int) : Int := (z / 18446744073709551616 + 9223372036854775808) % 18446744073709551616 - 9223372036854775808
def lo (z : Int) : Int := z % 18446744073709551616
/-- The value of a wide number. -/
@[go_sem] abbrev W (z : Int) : Value := .agg #[.int .i64 (hi z), .int .u64 (lo z)]

theorem hi_bd (z : Int) : -9223372036854775808 ≤ hi z ∧ hi z ≤ 9223372036854775807 := by unfold hi; omega
theorem lo_bd (z : Int) : 0 ≤ lo z ∧ lo z ≤ 18446744073709551615 := by unfold lo; omega
/-- The number with a sign. -/
def sv (z : Int) : Int := hi z * 18446744073709551616 + lo z
theorem sv_eq (z : Int) : sv z = (z + 170141183460469231731687303715884105728) % 340282366920938463463374607431768211456 - 170141183460469231731687303715884105728 := by unfold sv hi lo; omega
theorem hi_sv (z : Int) : hi (sv z) = hi z := by rw [sv_eq]; unfold hi; omega
theorem lo_sv (z : Int) : lo (sv z) = lo z := by rw [sv_eq]; unfold lo; omega
/-- Any two halves are those of a number. -/
theorem halves (h l : Int) (h1 : -9223372036854775808 ≤ h) (h2 : h ≤ 9223372036854775807) (l1 : 0 ≤ l) (l2 : l ≤ 18446744073709551615) :
    ∃ z : Int, h = hi z ∧ l = lo z ∧ -170141183460469231731687303715884105728 ≤ z ∧ z < 170141183460469231731687303715884105728 := ⟨h * 18446744073709551616 + l, by unfold hi; omega, by unfold lo; omega, by omega, by omega⟩
theorem sv_in (z : Int) (h1 : -170141183460469231731687303715884105728 ≤ z) (h2 : z < 170141183460469231731687303715884105728) : sv z = z := by rw [sv_eq]; omega
/-- Two wide numbers are one, if they differ by a multiple of 2^128. -/
theorem W_congr {x y : Int} (h : (x - y) % 340282366920938463463374607431768211456 = 0) : W x = W y := by
  have e1 : hi x = hi y := by unfold hi; omega
  have e2 : lo x = lo y := by unfold lo; omega
  simp only [W, e1, e2]
theorem hi_congr {x y : Int} (h : (x - y) % 340282366920938463463374607431768211456 = 0) : hi x = hi y := by unfold hi; omega
theorem lo_congr {x y : Int} (h : (x - y) % 340282366920938463463374607431768211456 = 0) : lo x = lo y := by unfold lo; omega
theorem halves_one {x y : Int} (h : hi x = hi y) (l : lo x = lo y) : sv x = sv y := by unfold sv; rw [h, l]

theorem of_hi (n : Int) (h1 : -9223372036854775808 ≤ n) (h2 : n ≤ 9223372036854775807) : n / 9223372036854775808 = hi n := by unfold hi; omega
theorem of_hi_neg (n : Int) (h1 : -9223372036854775808 ≤ n) (h2 : n < 0) : -1 = hi n := by unfold hi; omega
theorem of_hi_pos (n : Int) (h1 : 0 ≤ n) (h2 : n ≤ 18446744073709551615) : 0 = hi n := by unfold hi; omega
theorem of_lo (n : Int) : IntKind.u64.wrap n = lo n := by rw [IntKind.wrap_u64]; rfl
theorem of_lo_pos (n : Int) (h1 : 0 ≤ n) (h2 : n ≤ 18446744073709551615) : n = lo n := by unfold lo; omega

theorem add_lo (x y : Int) : IntKind.u64.wrap (lo x + lo y) = lo (x + y) := by rw [IntKind.wrap_u64]; unfold lo; omega
theorem add_hi1 (x y : Int) (h : IntKind.u64.wrap (lo x + lo y) < lo x) : wrap64 (wrap64 (hi x + hi y) + 1) = hi (x + y) := by
  rw [IntKind.wrap_u64] at h; unfold wrap64; unfold lo at h; unfold hi; omega
theorem add_hi0 (x y : Int) (h : lo x ≤ IntKind.u64.wrap (lo x + lo y)) : wrap64 (hi x + hi y) = hi (x + y) := by
  rw [IntKind.wrap_u64] at h; unfold wrap64; unfold lo at h; unfold hi; omega
theorem sub_lo (x y : Int) : IntKind.u64.wrap (lo x - lo y) = lo (x - y) := by rw [IntKind.wrap_u64]; unfold lo; omega
theorem sub_hi1 (x y : Int) (h : lo x < lo y) : wrap64 (wrap64 (hi x - hi y) - 1) = hi (x - y) := by
  unfold wrap64; unfold lo at h; unfold hi; omega
theorem sub_hi0 (x y : Int) (h : lo y ≤ lo x) : wrap64 (hi x - hi y) = hi (x - y) := by
  unfold wrap64; unfold lo at h; unfold hi; omega

/-- Whether a wide number is one of 64 bits, and which. -/
def nb (x : Int) : Bool := decide (-9223372036854775808 ≤ sv x ∧ sv x ≤ 9223372036854775807)
def nv (x : Int) : Int := if nb x = true then sv x else 0
theorem nb_iff (x : Int) : nb x = true ↔ (hi x = 0 ∧ lo x < 9223372036854775808) ∨ (hi x = -1 ∧ 9223372036854775808 ≤ lo x) := by
  have := lo_bd x; have := hi_bd x; unfold nb sv; simp only [decide_eq_true_eq]; omega
theorem wneg (x : Int) : (wrap64 (lo x) < 0 ↔ 9223372036854775808 ≤ lo x) := by have := lo_bd x; unfold wrap64; omega
theorem nar_yes (x : Int) (h : (hi x = 0 ∧ lo x < 9223372036854775808) ∨ (hi x = -1 ∧ 9223372036854775808 ≤ lo x)) : wrap64 (lo x) = nv x ∧ true = nb x := by
  have hb := (nb_iff x).2 h
  refine ⟨?_, hb.symm⟩
  unfold nv; rw [if_pos hb]; unfold sv wrap64; have := lo_bd x; omega
theorem nar_no (x : Int) (h : ¬ ((hi x = 0 ∧ lo x < 9223372036854775808) ∨ (hi x = -1 ∧ 9223372036854775808 ≤ lo x))) : 0 = nv x ∧ false = nb x := by
  have hb : nb x = false := by rw [← Bool.not_eq_true]; exact fun c => h ((nb_iff x).1 c)
  refine ⟨?_, hb.symm⟩
  unfold nv; rw [hb]; rfl
theorem nar_hi (x : Int) : hi (wrap64 (lo x)) = (if 9223372036854775808 ≤ lo x then -1 else 0) := by have := lo_bd x; unfold hi wrap64; split <;> omega
theorem nar_lo (x : Int) : lo (wrap64 (lo x)) = lo x := by unfold lo wrap64; omega
theorem nar_t (x : Int) (h : (!hi x == hi (wrap64 (lo x))) = false ∧ (!lo x == lo (wrap64 (lo x))) = false) : wrap64 (lo x) = nv x ∧ true = nb x := by
  refine nar_yes x ?_
  have h1 := h.1
  simp only [Bool.not_eq_false', beq_iff_eq] at h1
  rw [nar_hi] at h1
  split at h1 <;> omega
theorem nar_f (x : Int) (h : (!hi x == hi (wrap64 (lo x))) = true ∨ (!lo x == lo (wrap64 (lo x))) = true) : 0 = nv x ∧ false = nb x := by
  refine nar_no x ?_
  rw [nar_lo] at h
  simp only [Bool.not_eq_true', beq_eq_false_iff_ne, ne_eq, not_true_eq_false, or_false] at h
  rw [nar_hi] at h
  split at h <;> omega

/-- The order. -/
def cmp (x y : Int) : Int := if sv x < sv y then -1 else if sv x = sv y then 0 else 1
theorem cmp_lt (x y : Int) (h : hi x < hi y ∨ (hi x = hi y ∧ lo x < lo y)) : -1 = cmp x y := by
  unfold cmp; rw [if_pos]; have := lo_bd x; have := lo_bd y; unfold sv; omega
theorem cmp_eq (x y : Int) (h : hi x = hi y ∧ lo x = lo y) : 0 = cmp x y := by
  unfold cmp; rw [if_neg, if_pos] <;> (unfold sv; omega)
theorem cmp_gt (x y : Int) (h : hi y < hi x ∨ (hi x = hi y ∧ lo y < lo x)) : 1 = cmp x y := by
  have := lo_bd x; have := lo_bd y
  unfold cmp; rw [if_neg, if_neg] <;> (unfold sv; omega)
theorem eq_t (x y : Int) (h : (hi x == hi y) = true ∧ (lo x == lo y) = true) : hi x = hi y ∧ lo x = lo y := by simpa using h
theorem eq_f (x y : Int) (h : (hi x == hi y) = false ∨ (lo x == lo y) = false) : ¬ (hi x = hi y ∧ lo x = lo y) := by simp only [beq_eq_false_iff_ne, ne_eq] at h; omega

theorem ret_int {k : IntKind} {a b : Int} (h : a = b) : Ending.returned (.int k a) = .returned (.int k b) := by rw [h]
theorem ret_nar {a : Int} {b : Bool} {x : Int} (h : a = nv x ∧ b = nb x) : Ending.returned (.tuple #[.int .i64 a, .bool b]) = .returned (.tuple #[.int .i64 (nv x), .bool (nb x)]) := by rw [h.1, h.2]
end Go.Proofs.Ytfaddlpemhifpaa
