/- Package octet: numbers of bytes. -/
import Derived.Lib.EndianBits
import Derived.Test.YtccgpjhfgmonpaaDoorOct4
namespace Go.Proofs.YtccgpjhfgmonpaaDoor
open Go.RowKit Go.Sort
set_option linter.unusedVariables false

/-- The number of some bytes, the lowest one first. -/
def le (f : Nat → Int) : Nat → Int
  | 0 => 0
  | n + 1 => le f n + f n * 2 ^ (8 * n)
theorem p8 (n : Nat) : (2 : Int) ^ (8 * (n + 1)) = 2 ^ (8 * n) * 256 := by
  rw [show 8 * (n + 1) = 8 * n + 8 from rfl, Int.pow_add]; rfl
theorem p8_pos (n : Nat) : (0 : Int) < 2 ^ (8 * n) := Int.pow_pos (by decide)
theorem le_bd (f : Nat → Int) : ∀ (n : Nat), (∀ i, i < n → 0 ≤ f i ∧ f i ≤ 255) → 0 ≤ le f n ∧ le f n < 2 ^ (8 * n) := by
  intro n
  induction n with
  | zero => intro _; simp [le]
  | succ n ih =>
    intro h
    have h1 := ih (fun i hi => h i (by omega))
    have h2 := h n (by omega)
    have h3 := p8_pos n
    have h4 : 0 ≤ f n * 2 ^ (8 * n) := Int.mul_nonneg h2.1 (by omega)
    have h5 : f n * 2 ^ (8 * n) ≤ 255 * 2 ^ (8 * n) := Int.mul_le_mul_of_nonneg_right h2.2 (by omega)
    rw [p8]
    unfold le
    omega
theorem p8_le (n m : Nat) (h : n ≤ m) : (2 : Int) ^ (8 * n) ≤ 2 ^ (8 * m) := by
  induction m with
  | zero => obtain rfl : n = 0 := by omega
            exact Int.le_refl _
  | succ m ih =>
    by_cases e : n = m + 1
    · rw [e]; exact Int.le_refl _
    · have := ih (by omega)
      have := p8_pos m
      rw [p8]; omega
/-- One byte more. -/
theorem le_or (f : Nat → Int) (n J : Nat) (hj : n + 1 ≤ J) (h : ∀ i, i < n + 1 → 0 ≤ f i ∧ f i ≤ 255) (k : IntKind) (hk : ∀ m : Int, 0 ≤ m → m < 2 ^ (8 * J) → k.wrap m = m) (hb : 8 * J ≤ k.bits) :
    bits .or k (le f n) (f n * 2 ^ (8 * n)) = le f (n + 1) := by
  have h1 := le_bd f n (fun i hi => h i (by omega))
  have h2 := h n (by omega)
  have h3 := p8_pos n
  have h4 : 0 ≤ f n * 2 ^ (8 * n) := Int.mul_nonneg h2.1 (by omega)
  have h6 := le_bd f (n + 1) h
  have h7 := p8_le (n + 1) J hj
  have h8 : le f (n + 1) = le f n + f n * 2 ^ (8 * n) := rfl
  rw [h8]
  exact bits_join_low k (8 * J) hb hk (8 * n) _ _ h1.1 h1.2 (by omega) h4 (Int.mul_emod_left _ _) (by omega)
def lw (f : Nat → Int) (n : Nat) : Int := wrap64 (le f n)
theorem or_step8 (f : Nat → Int) (n : Nat) (hn : n < 1) (h : ∀ i, i < n + 1 → 0 ≤ f i ∧ f i ≤ 255) : bits .or .u8 (le f n) (f n * 2 ^ (8 * n) % 256) = le f (n + 1) := by
  obtain rfl : n = 0 := by omega
  have h0 := h 0 (by omega)
  rw [show f 0 * 2 ^ (8 * 0) % 256 = f 0 * 2 ^ (8 * 0) by simp; omega]
  exact le_or f 0 1 (by omega) h .u8 (fun m h0 h1 => by simp [IntKind.wrap, IntKind.bits, IntKind.signed]; omega) (by decide)
theorem or_step32 (f : Nat → Int) (n : Nat) (hn : n < 4) (h : ∀ i, i < n + 1 → 0 ≤ f i ∧ f i ≤ 255) : bits .or .u32 (le f n) (f n * 2 ^ (8 * n) % 4294967296) = le f (n + 1) := by
  have h6 := le_bd f (n + 1) h
  have h1 := le_bd f n (fun i hi => h i (by omega))
  have h2 := h n (by omega)
  have h4 : 0 ≤ f n * 2 ^ (8 * n) := Int.mul_nonneg h2.1 (by have := p8_pos n; omega)
  have h7 : (2 : Int) ^ (8 * (n + 1)) ≤ 4294967296 := p8_le (n + 1) 4 (by omega)
  have h8 : le f (n + 1) = le f n + f n * 2 ^ (8 * n) := rfl
  rw [Int.emod_eq_of_lt h4 (by omega)]
  exact le_or f n 4 (by omega) h .u32 wraps_u32 (by decide)
theorem ofInt_wrap64 (x : Int) : BitVec.ofInt 64 (wrap64 x) = BitVec.ofInt 64 x := by
  apply BitVec.eq_of_toInt_eq
  simp only [BitVec.toInt_ofInt, wrap64]
  simp [Int.bmod]
theorem or_step64 (f : Nat → Int) (n : Nat) (hn : n < 8) (h : ∀ i, i < n + 1 → 0 ≤ f i ∧ f i ≤ 255) : bits .or .i64 (lw f n) (wrap64 (f n * 2 ^ (8 * n))) = lw f (n + 1) := by
  have e : IntKind.u64.wrap ((BitVec.ofInt 64 (le f n) ||| BitVec.ofInt 64 (f n * 2 ^ (8 * n))).toNat : Int) = le f (n + 1) := le_or f n 8 (by omega) h .u64 wraps_u64 (by decide)
  show IntKind.i64.wrap ((BitVec.ofInt 64 (wrap64 (le f n)) ||| BitVec.ofInt 64 (wrap64 (f n * 2 ^ (8 * n)))).toNat : Int) = wrap64 (le f (n + 1))
  rw [ofInt_wrap64, ofInt_wrap64]
  generalize (BitVec.ofInt 64 (le f n) ||| BitVec.ofInt 64 (f n * 2 ^ (8 * n))) = b at e ⊢
  have hb := b.isLt
  rw [IntKind.wrap_u64] at e
  have e2 : (b.toNat : Int) = le f (n + 1) := by omega
  rw [e2]
  simp [IntKind.wrap, IntKind.bits, IntKind.signed, wrap64]
  split <;> omega

set_option maxRecDepth 100000 in
set_option maxHeartbeats 1000000 in
theorem number64_any (a : Option Addr) (c : Nat) (f : Nat → Int) (w : World) (hr : Rd8 w a 8 f) :
    Calls Tryd.prog 64 #[.slice a 8 c] w fun e w' => e = .returned (.int .i64 (lw f 8)) ∧ Below w.heap.size w w' := by
  go_enter Tryd.func64, Tryd.ntmps64
  go_wp2_with fail
  go_loopw [3, 8] (fun v z wr => ∃ i : Nat, z = .int .i64 i ∧ i ≤ 8 ∧ v = .int .i64 (lw f i) ∧ wr = w) (fun _ z _ => 8 - (intOf z).toNat)
  case atStart =>
    exact ⟨0, rfl, by omega, by simp [le, lw, wrap64], rfl⟩
  case round =>
    obtain ⟨i, rfl, hi, rfl, rfl⟩ := hrel
    by_cases hlt : i < 8
    · have e1 := or_step64 f i hlt (fun j hj => by obtain ⟨_, _, _, _, h⟩ := hr j (by omega); exact h)
      obtain ⟨b, rfl, hb, cb, b0, b1⟩ := hr i hlt
      have i0 : (0 : Int) ≤ (i : Int) := by omega
      have i4 : (i : Int) < 8 := by omega
      have E1 := Lib.hid e1
      clear e1
      go_wp2_with fail
      refine ⟨?_, by simp [intOf]; omega⟩
      exact ⟨i + 1, by simp, by omega, by rw [← E1.out], trivial⟩
    · obtain rfl : i = 8 := by omega
      go_wp2
      go_ret
      exact ⟨rfl, Below.refl _ _⟩
end Go.Proofs.YtccgpjhfgmonpaaDoor
