/- Sets of places, as bits of words: plain numbers. No program is named here. -/
import Derived.Laws.Bits64b
import Derived.Laws.Bits64
import Derived.Lib.TrailingZeros
import Derived.WalkKit
namespace Go.Proofs.YtccgpjhfgmonpaaDoor
open Go.RowKit

/-- The word of so many bits, from a place on. -/
def wdFrom (p : Nat → Bool) (b : Nat) : Nat → Nat
  | 0 => 0
  | k + 1 => wdFrom p b k ||| (if p (b + k) then 2 ^ k else 0)
/-- The word of that number, of a set. -/
def wd (p : Nat → Bool) (i : Nat) : Nat := wdFrom p (64 * i) 64

theorem wdFrom_bit (p : Nat → Bool) (b j : Nat) : ∀ k, (wdFrom p b k).testBit j = (decide (j < k) && p (b + j))
  | 0 => by simp [wdFrom]
  | k + 1 => by
    unfold wdFrom
    rw [Nat.testBit_or, wdFrom_bit p b j k]
    by_cases hj : j = k
    · subst hj
      by_cases hp : p (b + j) = true <;> simp [hp]
    · by_cases hp : p (b + k) = true
      · simp only [hp, if_true, Nat.testBit_two_pow]
        have : (decide (k = j)) = false := by simp; omega
        rw [this]
        have e : decide (j < k) = decide (j < k + 1) := by simp; omega
        rw [e]; simp
      · simp only [hp]
        have e : decide (j < k) = decide (j < k + 1) := by simp; omega
        rw [e]; simp
theorem wd_bit (p : Nat → Bool) (i j : Nat) : (wd p i).testBit j = (decide (j < 64) && p (64 * i + j)) := wdFrom_bit p _ j 64
theorem lt_of_bits {a : Nat} (h : ∀ j, 64 ≤ j → a.testBit j = false) : a < 2 ^ 64 := Nat.lt_pow_two_of_testBit a h
theorem wd_lt' (p : Nat → Bool) (i : Nat) : wd p i < 2 ^ 64 := lt_of_bits fun j hj => by rw [wd_bit]; simp; omega
theorem wd_lt (p : Nat → Bool) (i : Nat) : wd p i < 18446744073709551616 := wd_lt' p i
theorem eq_of_bits {a b : Nat} (ha : a < 18446744073709551616) (hb : b < 18446744073709551616) (h : ∀ j, j < 64 → a.testBit j = b.testBit j) : a = b := by
  refine Nat.eq_of_testBit_eq fun j => ?_
  by_cases hj : j < 64
  · exact h j hj
  · have pw : 2 ^ 64 ≤ 2 ^ j := Nat.pow_le_pow_right (by decide) (by omega)
    rw [Nat.testBit_lt_two_pow (Nat.lt_of_lt_of_le (show a < 2 ^ 64 from ha) pw), Nat.testBit_lt_two_pow (Nat.lt_of_lt_of_le (show b < 2 ^ 64 from hb) pw)]
/-- A word is the word of the places that it has. -/
theorem wd_eq {p : Nat → Bool} {i a : Nat} (ha : a < 18446744073709551616) (h : ∀ j, j < 64 → a.testBit j = p (64 * i + j)) : a = wd p i :=
  eq_of_bits ha (wd_lt p i) fun j hj => by rw [wd_bit, h j hj]; simp [hj]
theorem wd_congr {p q : Nat → Bool} {i : Nat} (h : ∀ j, j < 64 → p (64 * i + j) = q (64 * i + j)) : wd p i = wd q i :=
  wd_eq (wd_lt p i) fun j hj => by rw [wd_bit, h j hj]; simp [hj]
theorem wd_none (i : Nat) : wd (fun _ => false) i = 0 := (wd_eq (by decide) (by simp)).symm
/-- The places of some words. -/
def bitOf (F : Nat → Nat) (x : Nat) : Bool := (F (x / 64)).testBit (x % 64)
theorem wd_bitOf (F : Nat → Nat) (i : Nat) (hF : F i < 18446744073709551616) : wd (bitOf F) i = F i :=
  (wd_eq hF fun j hj => by unfold bitOf; rw [show (64 * i + j) / 64 = i by omega, show (64 * i + j) % 64 = j by omega]).symm
theorem wd_or (p q : Nat → Bool) (i : Nat) : wd p i ||| wd q i = wd (fun x => p x || q x) i :=
  wd_eq (Nat.or_lt_two_pow (n := 64) (wd_lt p i) (wd_lt q i)) fun j hj => by rw [Nat.testBit_or, wd_bit, wd_bit]; simp [hj]
theorem wd_and (p q : Nat → Bool) (i : Nat) : wd p i &&& wd q i = wd (fun x => p x && q x) i :=
  wd_eq (Nat.and_lt_two_pow (n := 64) _ (wd_lt q i)) fun j hj => by rw [Nat.testBit_and, wd_bit, wd_bit]; simp [hj]
theorem wd_not (p : Nat → Bool) (i : Nat) : 18446744073709551615 - wd p i = wd (fun x => !p x) i :=
  wd_eq (by omega) fun j hj => by
    have := Nat.testBit_two_pow_sub_succ (n := 64) (wd_lt' p i) j
    rw [show 18446744073709551615 - wd p i = 2 ^ 64 - (wd p i + 1) by omega, this, wd_bit]; simp [hj]
/-- One place's word. -/
theorem wd_one (x : Nat) : 2 ^ (x % 64) = wd (fun y => y == x) (x / 64) :=
  wd_eq (by have := Nat.pow_lt_pow_right (a := 2) (show 1 < 2 by decide) (show x % 64 < 64 by omega); simpa using this) fun j hj => by
    rw [Nat.testBit_two_pow]
    by_cases h : x % 64 = j
    · have : 64 * (x / 64) + j = x := by omega
      simp [h, this]
    · have : ¬ 64 * (x / 64) + j = x := by omega
      simp [h, this]
theorem wd_put (p : Nat → Bool) (x : Nat) : wd p (x / 64) ||| 2 ^ (x % 64) = wd (fun y => p y || y == x) (x / 64) := by rw [wd_one, wd_or]
theorem wd_far {p q : Nat → Bool} {x i : Nat} (hi : i ≠ x / 64) (h : ∀ y, y ≠ x → p y = q y) : wd p i = wd q i :=
  wd_congr fun j hj => h _ (by omega)
theorem wd_has (p : Nat → Bool) (x : Nat) : (wd p (x / 64)).testBit (x % 64) = p x := by
  rw [wd_bit, show 64 * (x / 64) + x % 64 = x by omega]; simp; omega
/-- Is a place's bit there, said by and. -/
theorem wd_and_one (p : Nat → Bool) (x : Nat) : (wd p (x / 64) &&& 2 ^ (x % 64) = 0) ↔ p x = false := by
  rw [wd_one, wd_and]
  constructor
  · intro h
    have := congrArg (fun a => a.testBit (x % 64)) h
    simp only [wd_has] at this
    simpa using this
  · intro h
    refine (wd_eq (by decide) fun j hj => ?_).symm
    by_cases e : 64 * (x / 64) + j = x
    · rw [e, h]; simp
    · simp [e]
theorem wd_shift_odd (p : Nat → Bool) (x : Nat) : wd p (x / 64) / 2 ^ (x % 64) % 2 = if p x = true then 1 else 0 := by
  have h := wd_has p x
  rw [Nat.testBit_eq_decide_div_mod_eq] at h
  have h2 : wd p (x / 64) / 2 ^ (x % 64) % 2 < 2 := Nat.mod_lt _ (by decide)
  generalize wd p (x / 64) / 2 ^ (x % 64) % 2 = r at h h2
  cases hp : p x
  · rw [hp] at h; simp at h; simp; omega
  · rw [hp] at h; simp at h; simp [h]

/-- How many places below one. -/
def cnt (p : Nat → Bool) : Nat → Nat
  | 0 => 0
  | n + 1 => cnt p n + if p n = true then 1 else 0
theorem cnt_succ (p : Nat → Bool) (n : Nat) : cnt p (n + 1) = cnt p n + if p n = true then 1 else 0 := rfl
theorem cnt_le (p : Nat → Bool) : ∀ n, cnt p n ≤ n
  | 0 => Nat.le_refl _
  | n + 1 => by have := cnt_le p n; unfold cnt; split <;> omega
theorem cnt_congr {p q : Nat → Bool} : ∀ {n : Nat}, (∀ x, x < n → p x = q x) → cnt p n = cnt q n
  | 0, _ => rfl
  | n + 1, h => by unfold cnt; rw [cnt_congr fun x hx => h x (by omega), h n (by omega)]
theorem cnt_add (p : Nat → Bool) (a : Nat) : ∀ b, cnt p (a + b) = cnt p a + cnt (fun x => p (a + x)) b
  | 0 => rfl
  | b + 1 => by rw [← Nat.add_assoc, cnt_succ, cnt_succ, cnt_add p a b]; omega
theorem cnt_none {p : Nat → Bool} : ∀ {n : Nat}, (∀ x, x < n → p x = false) → cnt p n = 0
  | 0, _ => rfl
  | n + 1, h => by unfold cnt; rw [cnt_none fun x hx => h x (by omega), h n (by omega)]; rfl
theorem cnt_mono (p : Nat → Bool) {a b : Nat} (h : a ≤ b) : cnt p a ≤ cnt p b := by
  obtain ⟨c, rfl⟩ := Nat.le.dest h
  rw [cnt_add]; omega

/-- The places below one, rising. -/
def pl (p : Nat → Bool) : Nat → List Nat
  | 0 => []
  | n + 1 => pl p n ++ if p n = true then [n] else []
theorem pl_succ (p : Nat → Bool) (n : Nat) : pl p (n + 1) = pl p n ++ if p n = true then [n] else [] := rfl
theorem pl_length (p : Nat → Bool) : ∀ n, (pl p n).length = cnt p n
  | 0 => rfl
  | n + 1 => by unfold pl cnt; rw [List.length_append, pl_length p n]; split <;> rfl
theorem mem_pl {p : Nat → Bool} {x : Nat} : ∀ {n : Nat}, x ∈ pl p n ↔ x < n ∧ p x = true
  | 0 => by simp [pl]
  | n + 1 => by
    unfold pl
    rw [List.mem_append, mem_pl]
    by_cases h : p n = true
    · simp only [h, if_true, List.mem_singleton]
      constructor
      · rintro (⟨h1, h2⟩ | rfl)
        · exact ⟨by omega, h2⟩
        · exact ⟨by omega, h⟩
      · rintro ⟨h1, h2⟩
        by_cases e : x = n
        · exact .inr e
        · exact .inl ⟨by omega, h2⟩
    · simp only [h]
      constructor
      · rintro (⟨h1, h2⟩ | h3)
        · exact ⟨by omega, h2⟩
        · exact absurd h3 (by simp)
      · rintro ⟨h1, h2⟩
        by_cases e : x = n
        · subst e; exact absurd h2 h
        · exact .inl ⟨by omega, h2⟩
theorem pl_congr {p q : Nat → Bool} : ∀ {n : Nat}, (∀ x, x < n → p x = q x) → pl p n = pl q n
  | 0, _ => rfl
  | n + 1, h => by unfold pl; rw [pl_congr fun x hx => h x (by omega), h n (by omega)]
/-- Where there is none between, nothing is added. -/
theorem pl_gap {p : Nat → Bool} {a : Nat} : ∀ {b : Nat}, a ≤ b → (∀ x, a ≤ x → x < b → p x = false) → pl p b = pl p a
  | 0, h, _ => by rw [show a = 0 by omega]
  | b + 1, h, hn => by
    by_cases e : a = b + 1
    · rw [e]
    · rw [pl_succ, pl_gap (b := b) (by omega) (fun x h1 h2 => hn x h1 (by omega)), hn b (by omega) (by omega)]
      simp
theorem cnt_gap {p : Nat → Bool} {a b : Nat} (h : a ≤ b) (hn : ∀ x, a ≤ x → x < b → p x = false) : cnt p b = cnt p a := by
  rw [← pl_length, ← pl_length, pl_gap h hn]
/-- The first one from a place on is the next one listed. -/
theorem pl_step {p : Nat → Bool} {a x : Nat} (h : a ≤ x) (hn : ∀ y, a ≤ y → y < x → p y = false) (hx : p x = true) : pl p (x + 1) = pl p a ++ [x] := by
  rw [pl_succ, pl_gap h hn, hx]; rfl
/-- A place that is there stands at its rank. -/
theorem pl_at {p : Nat → Bool} {x : Nat} (hx : p x = true) : ∀ {n : Nat}, x < n → (pl p n)[cnt p x]? = some x
  | 0, h => absurd h (Nat.not_lt_zero _)
  | n + 1, h => by
    unfold pl
    by_cases e : x = n
    · subst e
      rw [List.getElem?_append_right (by rw [pl_length]; exact Nat.le_refl _), pl_length, hx]
      simp
    · rw [List.getElem?_append_left, pl_at hx (by omega)]
      rw [pl_length]
      have := cnt_mono p (show x + 1 ≤ n by omega)
      rw [cnt_succ, hx] at this
      simp at this
      omega
theorem pl_get {p : Nat → Bool} {n i y : Nat} (h : (pl p n)[i]? = some y) : y < n ∧ p y = true ∧ cnt p y = i := by
  have hm := mem_pl.1 (List.mem_of_getElem? h)
  refine ⟨hm.1, hm.2, ?_⟩
  induction n with
  | zero => simp [pl] at h
  | succ n ih =>
    unfold pl at h
    by_cases hi : i < (pl p n).length
    · rw [List.getElem?_append_left hi] at h
      exact ih h (mem_pl.1 (List.mem_of_getElem? h))
    · rw [List.getElem?_append_right (by omega)] at h
      by_cases hp : p n = true
      · rw [if_pos hp] at h
        have h0 : i - (pl p n).length = 0 := by
          have := (List.getElem?_eq_some_iff.1 h).1
          simp at this; omega
        rw [h0] at h
        simp at h
        subst h
        rw [pl_length] at h0 hi
        omega
      · rw [if_neg hp] at h; simp at h

/-- The first place from one on, below another one; -1: there is none. -/
def nx (p : Nat → Bool) : Nat → Nat → Int
  | 0, _ => -1
  | f + 1, a => if p a = true then (a : Int) else nx p f (a + 1)
def nextV (p : Nat → Bool) (N a : Nat) : Int := nx p (N - a) a
theorem nx_some {p : Nat → Bool} : ∀ {f a x : Nat}, a ≤ x → x < a + f → (∀ y, a ≤ y → y < x → p y = false) → p x = true → nx p f a = x
  | 0, a, x, h1, h2, _, _ => by omega
  | f + 1, a, x, h1, h2, hn, hx => by
    unfold nx
    by_cases e : a = x
    · subst e; rw [if_pos hx]
    · rw [hn a (Nat.le_refl _) (by omega)]
      simp only [Bool.false_eq_true, if_false]
      exact nx_some (by omega) (by omega) (fun y h3 h4 => hn y (by omega) h4) hx
theorem nx_none {p : Nat → Bool} : ∀ {f a : Nat}, (∀ y, a ≤ y → y < a + f → p y = false) → nx p f a = -1
  | 0, a, _ => rfl
  | f + 1, a, hn => by
    unfold nx
    rw [hn a (Nat.le_refl _) (by omega)]
    simp only [Bool.false_eq_true, if_false]
    exact nx_none (fun y h3 h4 => hn y (by omega) (by omega))
theorem nextV_some {p : Nat → Bool} {N a x : Nat} (h1 : a ≤ x) (h2 : x < N) (hn : ∀ y, a ≤ y → y < x → p y = false) (hx : p x = true) : nextV p N a = x :=
  nx_some h1 (by omega) hn hx
theorem nextV_none {p : Nat → Bool} {N a : Nat} (hn : ∀ y, a ≤ y → y < N → p y = false) : nextV p N a = -1 :=
  nx_none fun y h1 h2 => hn y h1 (by omega)
theorem nx_cases (p : Nat → Bool) : ∀ (f a : Nat), (nx p f a = -1 ∧ ∀ y, a ≤ y → y < a + f → p y = false) ∨ ∃ x, a ≤ x ∧ x < a + f ∧ (∀ y, a ≤ y → y < x → p y = false) ∧ p x = true ∧ nx p f a = (x : Int)
  | 0, a => .inl ⟨rfl, fun y h1 h2 => by omega⟩
  | f + 1, a => by
    unfold nx
    by_cases h : p a = true
    · exact .inr ⟨a, Nat.le_refl _, by omega, fun y h1 h2 => by omega, h, by rw [if_pos h]⟩
    · have h' : p a = false := by simpa using h
      rw [if_neg h]
      rcases nx_cases p f (a + 1) with ⟨h1, h2⟩ | ⟨x, h1, h2, h3, h4, h5⟩
      · exact .inl ⟨h1, fun y h3 h4 => by
          by_cases e : y = a
          · rw [e]; exact h'
          · exact h2 y (by omega) (by omega)⟩
      · exact .inr ⟨x, by omega, by omega, fun y h6 h7 => by
          by_cases e : y = a
          · rw [e]; exact h'
          · exact h3 y (by omega) h7, h4, h5⟩

/-- The lowest bit of a word. -/
theorem ctz_spec {w : Nat} (h0 : w ≠ 0) (hw : w < 18446744073709551616) : Lib.ctz 64 w < 64 ∧ w.testBit (Lib.ctz 64 w) = true ∧ (∀ j, j < Lib.ctz 64 w → w.testBit j = false) ∧ ∀ j, (w &&& (w - 1)).testBit j = (w.testBit j && decide (j ≠ Lib.ctz 64 w)) := by
  have e : Lib.ctz 64 w = Lib.ctzFrom 64 w := by simp [Lib.ctz, h0]
  rw [e]
  obtain ⟨m, hm, hk⟩ := Lib.ctzFrom_spec 64 w (by omega) hw
  generalize Lib.ctzFrom 64 w = k at hm hk
  have tb : ∀ j, w.testBit j = (decide (k ≤ j) && (2 * m + 1).testBit (j - k)) := fun j => by rw [hm, Nat.mul_comm, Nat.testBit_mul_two_pow]
  have p0 : 0 < 2 ^ k := Nat.two_pow_pos k
  have e1 : w - 1 = 2 ^ k * (2 * m) + (2 ^ k - 1) := by rw [hm, Nat.mul_add, Nat.mul_one]; omega
  have tb1 : ∀ j, (w - 1).testBit j = if j < k then true else (2 * m).testBit (j - k) := fun j => by
    rw [e1, Nat.testBit_two_pow_mul_add _ (by omega)]
    split
    · rw [Nat.testBit_two_pow_sub_one]; simpa
    · rfl
  refine ⟨hk, by rw [tb]; simp, fun j hj => by rw [tb]; simp; omega, fun j => ?_⟩
  rw [Nat.testBit_and, tb1, tb]
  by_cases h1 : j < k
  · simp [h1]; omega
  · rw [if_neg h1]
    by_cases h2 : j = k
    · subst h2; simp
    · obtain ⟨i, rfl⟩ : ∃ i, j = k + (i + 1) := ⟨j - k - 1, by omega⟩
      rw [show k + (i + 1) - k = i + 1 by omega, Nat.testBit_succ, Nat.testBit_succ, show (2 * m + 1) / 2 = m by omega, show 2 * m / 2 = m by omega]
      simp
end Go.Proofs.YtccgpjhfgmonpaaDoor
