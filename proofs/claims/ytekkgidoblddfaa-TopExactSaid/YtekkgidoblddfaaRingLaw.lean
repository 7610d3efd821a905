/- The helpers of the laws of package ring, and what must be whatever is asked. -/
import Derived.Test.YtekkgidoblddfaaRing
namespace Go.Proofs.Ytekkgidoblddfaa
open Go.RowKit Go.Sort
set_option linter.unusedVariables false

/-- The table of names lies in the first variable. -/
structure Names (w : World) : Prop where
  has : Has w 0
  c0 : w.cell? ⟨0, 0, none⟩ = some (.string ⟨#[]⟩)
  c1 : w.cell? ⟨0, 1, none⟩ = some (.string ⟨#[109, 105, 110, 112, 108, 117, 115]⟩)
  c2 : w.cell? ⟨0, 2, none⟩ = some (.string ⟨#[111, 114, 97, 110, 100]⟩)
  c3 : w.cell? ⟨0, 3, none⟩ = some (.string ⟨#[109, 105, 110, 102, 105, 114, 115, 116]⟩)
  c4 : w.cell? ⟨0, 4, none⟩ = some (.string ⟨#[109, 105, 110, 115, 101, 99, 111, 110, 100]⟩)
  c5 : w.cell? ⟨0, 5, none⟩ = some (.string ⟨#[112, 108, 117, 115, 116, 105, 109, 101, 115]⟩)
theorem Names.grown {w w' : World} (h : Names w) (hb : Below w.heap.size w w') : Names w' := by
  have hh := h.has
  unfold Has at hh
  have := hb.size
  exact ⟨by unfold Has; omega, by rw [hb.cell hh]; exact h.c0, by rw [hb.cell hh]; exact h.c1, by rw [hb.cell hh]; exact h.c2, by rw [hb.cell hh]; exact h.c3, by rw [hb.cell hh]; exact h.c4, by rw [hb.cell hh]; exact h.c5⟩

theorem and_mask_i64 (i : Nat) (hi : i ≤ 63) (n : Int) : bits .and .i64 n (2 ^ i - 1) = n % 2 ^ i := by
  have hp : (2 : Int) ^ i * 2 ^ (64 - i) = 18446744073709551616 := pow_mul i (by omega)
  have hpos := pow_pos i
  have hle : (2 : Int) ^ i ≤ 9223372036854775808 := by
    have : (2 : Int) ^ i * 2 ^ (63 - i) = 9223372036854775808 := by rw [← Int.pow_add, show i + (63 - i) = 63 from by omega]; rfl
    have := le_mul_r ((2 : Int) ^ i) (2 ^ (63 - i)) (by omega) (by have := pow_pos (63 - i); omega)
    omega
  have e : (BitVec.ofInt 64 n &&& BitVec.ofInt 64 (2 ^ i - 1)).toNat = (n % 2 ^ i).toNat := by
    have c : ((2 : Int) ^ i - 1) = ((2 ^ i - 1 : Nat) : Int) := by rw [Int.natCast_sub (Nat.two_pow_pos i)]; simp
    rw [BitVec.toNat_and, c, BitVec.ofInt_natCast, BitVec.toNat_ofNat, BitVec.toNat_ofInt, Nat.mod_eq_of_lt (Nat.lt_of_lt_of_le (Nat.sub_lt (Nat.two_pow_pos i) (by decide)) (Nat.pow_le_pow_right (by decide) (show i ≤ 64 by omega))), Nat.and_two_pow_sub_one_eq_mod]
    have h1 : (0 : Int) ≤ n % 18446744073709551616 := Int.emod_nonneg _ (by decide)
    have h2 : ((n % 18446744073709551616).toNat % 2 ^ i : Nat) = (n % 18446744073709551616 % 2 ^ i).toNat := by
      obtain ⟨m, hm⟩ := Int.eq_ofNat_of_zero_le h1
      rw [hm]; rfl
    show (n % 18446744073709551616).toNat % 2 ^ i = _
    rw [h2, Int.emod_emod_of_dvd _ ⟨_, hp.symm⟩]
  show IntKind.i64.wrap ((BitVec.ofInt 64 n &&& BitVec.ofInt 64 (2 ^ i - 1)).toNat : Int) = _
  have r1 := Int.emod_nonneg n (show (2 : Int) ^ i ≠ 0 by omega)
  have r2 := Int.emod_lt_of_pos n hpos
  rw [e, IntKind.wrap_i64]
  omega

/-- A value of a ring, from any number. -/
def valR (r n : Int) : Int := if r = 5 then n else if r = 2 then n % 2 else if n % 4611686018427387904 % 5 = 0 then 4611686018427387904 else n % 4611686018427387904
def facR (r n : Int) : Int := if r = 5 then n.tmod 2147483648 else valR r n
theorem mask1 (n : Int) : bits .and .i64 n 1 = n % 2 := and_mask_i64 1 (by decide) n
theorem mask62 (n : Int) : bits .and .i64 n 4611686018427387903 = n % 4611686018427387904 := and_mask_i64 62 (by decide) n

theorem val_y (r n : Int) (h5 : ¬ r = 5) (h2 : ¬ r = 2) (h : (bits .and .i64 n 4611686018427387903 % 5 == 0) = true) : 4611686018427387904 = valR r n := by
  rw [mask62] at h; simp at h; unfold valR; rw [if_neg h5, if_neg h2, if_pos h]

theorem val_n (r n : Int) (h5 : ¬ r = 5) (h2 : ¬ r = 2) (h : (bits .and .i64 n 4611686018427387903 % 5 == 0) = false) : bits .and .i64 n 4611686018427387903 = valR r n := by
  rw [mask62] at h ⊢; simp at h; unfold valR; rw [if_neg h5, if_neg h2, if_neg h]

set_option maxRecDepth 100000 in
set_option maxHeartbeats 1000000 in
theorem value_in (r n : Int) (w : World) (hr : r = 1 ∨ r = 2 ∨ r = 3 ∨ r = 4 ∨ r = 5) :
    Calls Try.prog 35 #[.int .i64 r, .int .i64 n] w fun e w' => e = .returned (.int .i64 (valR r n)) ∧ w' = w := by
  have m1 := mask1 n
  have m2 := mask62 n
  have M1 := Lib.hid m1
  have M2 := Lib.hid m2
  clear m1 m2
  have b0 : 0 ≤ bits .and .i64 n 4611686018427387903 := by rw [M2.out]; omega
  rcases hr with rfl | rfl | rfl | rfl | rfl
  all_goals
    go_enter Try.func35, Try.ntmps35
    go_wp2
  all_goals go_ret
  all_goals refine ⟨ret_int ?_, rfl⟩
  · exact val_y 1 n (by decide) (by decide) (by assumption)
  · exact val_n 1 n (by decide) (by decide) (by assumption)
  · rw [M1.out]; rfl
  · exact val_y 3 n (by decide) (by decide) (by assumption)
  · exact val_n 3 n (by decide) (by decide) (by assumption)
  · exact val_y 4 n (by decide) (by decide) (by assumption)
  · exact val_n 4 n (by decide) (by decide) (by assumption)
  · rfl

theorem facR_small (r n : Int) (h : ¬ r = 5) : facR r n = valR r n := by unfold facR; rw [if_neg h]

set_option maxRecDepth 100000 in
set_option maxHeartbeats 1000000 in
theorem factor_in (r n : Int) (w : World) (hr : r = 1 ∨ r = 2 ∨ r = 3 ∨ r = 4 ∨ r = 5) :
    Calls Try.prog 29 #[.int .i64 r, .int .i64 n] w fun e w' => e = .returned (.int .i64 (facR r n)) ∧ w' = w := by
  rcases hr with rfl | rfl | rfl | rfl | rfl
  · go_enter Try.func29, Try.ntmps29
    go_wp2_with (go_at_call 35; refine (value_in 1 n _ (by decide)).mono ?_; rintro e w1 ⟨rfl, rfl⟩)
    go_ret
    exact ⟨ret_int (facR_small 1 n (by decide)).symm, rfl⟩
  · go_enter Try.func29, Try.ntmps29
    go_wp2_with (go_at_call 35; refine (value_in 2 n _ (by decide)).mono ?_; rintro e w1 ⟨rfl, rfl⟩)
    go_ret
    exact ⟨ret_int (facR_small 2 n (by decide)).symm, rfl⟩
  · go_enter Try.func29, Try.ntmps29
    go_wp2_with (go_at_call 35; refine (value_in 3 n _ (by decide)).mono ?_; rintro e w1 ⟨rfl, rfl⟩)
    go_ret
    exact ⟨ret_int (facR_small 3 n (by decide)).symm, rfl⟩
  · go_enter Try.func29, Try.ntmps29
    go_wp2_with (go_at_call 35; refine (value_in 4 n _ (by decide)).mono ?_; rintro e w1 ⟨rfl, rfl⟩)
    go_ret
    exact ⟨ret_int (facR_small 4 n (by decide)).symm, rfl⟩
  · go_enter Try.func29, Try.ntmps29
    go_wp2
    go_ret
    exact ⟨ret_int (by unfold facR; rfl), rfl⟩

theorem rmul_to (r a x h l : Int) (w : World) (a1 : -9223372036854775808 ≤ a) (a2 : a ≤ 9223372036854775807) (x1 : -9223372036854775808 ≤ x) (x2 : x ≤ 9223372036854775807) (eh : h = hi (mulR r a x)) (el : l = lo (mulR r a x)) :
    Calls Try.prog 28 #[.int .i64 r, .int .i64 a, .int .i64 x] w fun e w' => e = .returned (.agg #[.int .i64 h, .int .u64 l]) ∧ Below w.heap.size w w' := by
  subst eh el; exact ringMul_any r a x w a1 a2 x1 x2

theorem radd_to (r x y z h l h2 l2 : Int) (w : World) (eh : h = hi x) (el : l = lo x) (eh2 : h2 = hi y) (el2 : l2 = lo y) (ez : z = addR r x y) :
    Calls Try.prog 30 #[.int .i64 r, .agg #[.int .i64 h, .int .u64 l], .agg #[.int .i64 h2, .int .u64 l2]] w fun e w' => e = .returned (W z) ∧ Below w.heap.size w w' := by
  subst eh el eh2 el2 ez; exact ringAdd_any r x y w

theorem rof_to (n h l : Int) (w : World) (h1 : -9223372036854775808 ≤ n) (h2 : n ≤ 9223372036854775807) (eh : h = hi n) (el : l = lo n) :
    Calls Try.prog 15 #[.int .i64 n] w fun e w' => e = .returned (.agg #[.int .i64 h, .int .u64 l]) ∧ Below w.heap.size w w' := by
  subst eh el; exact refOf_any n w h1 h2

theorem isR_t (r : Int) (h1 : 1 ≤ r) (h2 : r ≤ 5) : isR r = true := by unfold isR; simp; omega
theorem isR_f (r : Int) (h : r < 1 ∨ 5 < r) : isR r = false := by unfold isR; simp; omega

theorem calls_same {P : Program} {f : FuncId} {args : Array Value} {w : World} {v : Value} (h : Calls P f args w fun e w' => e = .returned v ∧ w' = w) : Calls P f args w fun e w' => e = .returned v ∧ Below w.heap.size w w' :=
  h.mono fun _ _ ⟨he, hw⟩ => ⟨he, by rw [hw]; exact Below.refl _ _⟩
end Go.Proofs.Ytekkgidoblddfaa
