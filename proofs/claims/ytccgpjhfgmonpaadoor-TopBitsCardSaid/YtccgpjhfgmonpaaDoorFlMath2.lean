/- Sets of places with one place more, or less. No program is named here. -/
import Derived.Test.YtccgpjhfgmonpaaDoorFlMath
namespace Go.Proofs.YtccgpjhfgmonpaaDoor
open Go.RowKit

def putP (p : Nat → Bool) (x : Int) (y : Nat) : Bool := p y || decide ((y : Int) = x)
def dropP (p : Nat → Bool) (x : Int) (y : Nat) : Bool := p y && !decide ((y : Int) = x)

theorem two_lt (x : Nat) : 2 ^ (x % 64) < 18446744073709551616 := by
  have := Nat.pow_lt_pow_right (a := 2) (show 1 < 2 by decide) (show x % 64 < 64 by omega)
  simpa using this
theorem bits_andNot_u64_nat (a b : Nat) (ha : a < 18446744073709551616) (hb : b < 18446744073709551616) :
    bits .andNot .u64 (a : Int) (b : Int) = ((a &&& (18446744073709551615 - b) : Nat) : Int) := by
  have hx : a &&& (18446744073709551615 - b) < 2 ^ 64 := Nat.and_lt_two_pow _ (by omega)
  have h1 : (BitVec.ofInt 64 (a : Int)).toNat = a := by
    rw [BitVec.ofInt_natCast, BitVec.toNat_ofNat]; exact Nat.mod_eq_of_lt (by omega)
  have h2 : (BitVec.ofInt 64 (b : Int)).toNat = b := by
    rw [BitVec.ofInt_natCast, BitVec.toNat_ofNat]; exact Nat.mod_eq_of_lt (by omega)
  show IntKind.u64.wrap ((BitVec.ofInt 64 (a : Int) &&& ~~~ BitVec.ofInt 64 (b : Int)).toNat : Int) = _
  rw [BitVec.toNat_and, BitVec.toNat_not, h1, h2, IntKind.wrap_u64]
  rw [show 2 ^ 64 - 1 - b = 18446744073709551615 - b from rfl]
  generalize a &&& (18446744073709551615 - b) = z at hx ⊢
  omega
theorem or_put (p : Nat → Bool) (y : Nat) : bits .or .u64 ((wd p (y / 64) : Nat) : Int) ((2 ^ (y % 64) : Nat) : Int) = ((wd (putP p y) (y / 64) : Nat) : Int) := by
  rw [bits_or_u64_nat _ _ (wd_lt p _) (two_lt y), wd_put]
  congr 1
  refine wd_congr fun j _ => ?_
  unfold putP
  congr 1
  rw [Bool.eq_iff_iff]; simp; omega
theorem andNot_drop (p : Nat → Bool) (y : Nat) : bits .andNot .u64 ((wd p (y / 64) : Nat) : Int) ((2 ^ (y % 64) : Nat) : Int) = ((wd (dropP p y) (y / 64) : Nat) : Int) := by
  rw [bits_andNot_u64_nat _ _ (wd_lt p _) (two_lt y), wd_one, wd_not, wd_and]
  congr 1
  refine wd_congr fun j _ => ?_
  unfold dropP
  congr 2
  rw [Bool.eq_iff_iff]; simp; omega
theorem wd_put_at (p : Nat → Bool) (y i : Nat) : (if i = y / 64 then wd (putP p y) (y / 64) else wd p i) = wd (putP p y) i := by
  split
  · subst_vars; rfl
  · refine wd_congr fun j hj => ?_
    unfold putP
    have : decide (((64 * i + j : Nat) : Int) = (y : Int)) = false := by simp; omega
    rw [this]; simp
theorem wd_drop_at (p : Nat → Bool) (y i : Nat) : (if i = y / 64 then wd (dropP p y) (y / 64) else wd p i) = wd (dropP p y) i := by
  split
  · subst_vars; rfl
  · refine wd_congr fun j hj => ?_
    unfold dropP
    have : decide (((64 * i + j : Nat) : Int) = (y : Int)) = false := by simp; omega
    rw [this]; simp
theorem wd_put_out (p : Nat → Bool) {x : Int} {n i : Nat} (h : ¬ (0 ≤ x ∧ x < 64 * (n : Int))) (hi : i < n) : wd p i = wd (putP p x) i := by
  refine wd_congr fun j hj => ?_
  unfold putP
  have : decide (((64 * i + j : Nat) : Int) = x) = false := by simp; omega
  rw [this]; simp
theorem wd_drop_out (p : Nat → Bool) {x : Int} {n i : Nat} (h : ¬ (0 ≤ x ∧ x < 64 * (n : Int))) (hi : i < n) : wd p i = wd (dropP p x) i := by
  refine wd_congr fun j hj => ?_
  unfold dropP
  have : decide (((64 * i + j : Nat) : Int) = x) = false := by simp; omega
  rw [this]; simp

/-- How many of a word's bits are 1. -/
theorem cnt_bits {w k : Nat} (hk : w / 2 ^ k = 0) (h64 : k ≤ 64) : cnt (fun j => w.testBit j) 64 = cnt (fun j => w.testBit j) k := by
  refine cnt_gap h64 fun x h1 _ => ?_
  refine Nat.testBit_lt_two_pow ?_
  have : w < 2 ^ k := by
    rcases Nat.lt_or_ge w (2 ^ k) with h | h
    · exact h
    · have := Nat.div_pos h (Nat.two_pow_pos k); omega
  exact Nat.lt_of_lt_of_le this (Nat.pow_le_pow_right (by decide) h1)
theorem odd_bit (w k : Nat) : (w / 2 ^ k % 2 = 1) ↔ w.testBit k = true := by
  rw [Nat.testBit_eq_decide_div_mod_eq]; simp
theorem and_one_u64 (w : Nat) (hw : w < 18446744073709551616) : bits .and .u64 (w : Int) 1 = ((w % 2 : Nat) : Int) := by
  rw [show (1 : Int) = ((1 : Nat) : Int) from rfl, bits_and_u64_nat _ _ hw (by decide), Nat.and_one_is_mod]
theorem cnt_wd (p : Nat → Bool) (i k : Nat) (hk : k ≤ 64) : cnt (fun j => (wd p i).testBit j) k = cnt (fun j => p (64 * i + j)) k :=
  cnt_congr fun x hx => by rw [wd_bit]; simp; omega
/-- All places of some words. -/
theorem cnt_word (p : Nat → Bool) (i : Nat) : cnt p (64 * (i + 1)) = cnt p (64 * i) + cnt (fun j => (wd p i).testBit j) 64 := by
  rw [cnt_wd p i 64 (by omega), show 64 * (i + 1) = 64 * i + 64 by omega, cnt_add]
end Go.Proofs.YtccgpjhfgmonpaaDoor
