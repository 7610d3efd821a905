/- Package part, and its reference: rows, columns, and in which part. -/
import Derived.Test.YtphgkgpkallgeaaPart
namespace Go.Proofs.Ytphgkgpkallgeaa
open Go.RowKit Go.Sort
set_option linter.unusedVariables false

def worksB (c a : Int) : Bool := decide (1 ≤ c ∧ c ≤ 8 ∧ 0 ≤ a ∧ a < c * 8)
theorem works_t {c a : Int} (h : 1 ≤ c ∧ c ≤ 8 ∧ 0 ≤ a ∧ a < c * 8) : worksB c a = true := decide_eq_true h
theorem works_f {c a : Int} (h : ¬ (1 ≤ c ∧ c ≤ 8 ∧ 0 ≤ a ∧ a < c * 8)) : worksB c a = false := decide_eq_false h
theorem works_un {c a : Int} (h : worksB c a = true) : 1 ≤ c ∧ c ≤ 8 ∧ 0 ≤ a ∧ a < c * 8 := of_decide_eq_true h
def rowV (c a : Int) : Int := if worksB c a = true then a / c else -1
def colV (c a : Int) : Int := if worksB c a = true then a % c else -1

theorem worker_any (c a : Int) (w : World) :
    Calls Try.prog 29 #[.int .i64 c, .int .i64 a] w fun e w' => e = .returned (.bool (worksB c a)) ∧ Below w.heap.size w w' := by
  by_cases hs : 1 ≤ c ∧ c ≤ 8
  · have HS := Lib.hid (show true = decide (1 ≤ c ∧ c ≤ 8) by simp; omega)
    obtain ⟨s1, s2⟩ := hs
    by_cases h1 : 0 ≤ a
    · by_cases h2 : a < c * 8
      · rw [works_t ⟨s1, s2, h1, h2⟩]
        go_enter Try.func29, Try.ntmps29
        go_wp2_with fail
        refine (sides_any c true _ HS.out).mono ?_
        rintro e w1 ⟨rfl, hb1⟩; obtain ⟨⟨d1, o1⟩, rfl⟩ := regrown_of_below hb1; clear hb1
        go_wp2
        go_ret
        exact ⟨rfl, (by repeat (first | with_reducible refine blg ?_ _ _ | with_reducible refine bla ?_ _ | with_reducible exact Below.refl _ _))⟩
      · rw [works_f (by omega)]
        have h3 : decide (a < c * 8) = false := by simp; omega
        clear h2
        go_enter Try.func29, Try.ntmps29
        go_wp2_with fail
        refine (sides_any c true _ HS.out).mono ?_
        rintro e w1 ⟨rfl, hb1⟩; obtain ⟨⟨d1, o1⟩, rfl⟩ := regrown_of_below hb1; clear hb1
        go_wp2
        go_ret
        exact ⟨rfl, (by repeat (first | with_reducible refine blg ?_ _ _ | with_reducible refine bla ?_ _ | with_reducible exact Below.refl _ _))⟩
    · rw [works_f (by omega)]
      go_enter Try.func29, Try.ntmps29
      go_wp2_with fail
      refine (sides_any c true _ HS.out).mono ?_
      rintro e w1 ⟨rfl, hb1⟩; obtain ⟨⟨d1, o1⟩, rfl⟩ := regrown_of_below hb1; clear hb1
      go_wp2
      go_ret
      exact ⟨rfl, (by repeat (first | with_reducible refine blg ?_ _ _ | with_reducible refine bla ?_ _ | with_reducible exact Below.refl _ _))⟩
  · rw [works_f (by omega)]
    have HS := Lib.hid (show false = decide (1 ≤ c ∧ c ≤ 8) by simp; omega)
    clear hs
    go_enter Try.func29, Try.ntmps29
    go_wp2_with fail
    refine (sides_any c false _ HS.out).mono ?_
    rintro e w1 ⟨rfl, hb1⟩; obtain ⟨⟨d1, o1⟩, rfl⟩ := regrown_of_below hb1; clear hb1
    go_wp2
    go_ret
    exact ⟨rfl, (by repeat (first | with_reducible refine blg ?_ _ _ | with_reducible refine bla ?_ _ | with_reducible exact Below.refl _ _))⟩
theorem worker_to (c a : Int) (b : Bool) (w : World) (h : b = worksB c a) : Calls Try.prog 29 #[.int .i64 c, .int .i64 a] w fun e w' => e = .returned (.bool b) ∧ Below w.heap.size w w' := by
  subst h; exact worker_any c a w

set_option maxRecDepth 100000 in
theorem row_any (c a : Int) (w : World) :
    Calls Try.prog 19 #[.int .i64 c, .int .i64 a] w fun e w' => e = .returned (.int .i64 (rowV c a)) ∧ Below w.heap.size w w' := by
  cases h : worksB c a with
  | false =>
    rw [show rowV c a = -1 by unfold rowV; rw [h]; rfl]
    have H := Lib.hid h.symm
    clear h
    go_enter Try.func19, Try.ntmps19
    go_wp2_with fail
    refine (worker_to c a false _ H.out).mono ?_
    rintro e w1 ⟨rfl, hb1⟩; obtain ⟨⟨d1, o1⟩, rfl⟩ := regrown_of_below hb1; clear hb1
    go_wp2
    go_ret
    exact ⟨rfl, (by repeat (first | with_reducible refine blg ?_ _ _ | with_reducible refine bla ?_ _ | with_reducible exact Below.refl _ _))⟩
  | true =>
    rw [show rowV c a = a / c by unfold rowV; rw [if_pos h]]
    obtain ⟨m1, m2, m3, m4⟩ := works_un h
    have m5 : ¬ c = 0 := by omega
    have q0 : 0 ≤ a / c := Int.ediv_nonneg m3 (by omega)
    have q1 : a / c ≤ a := Int.ediv_le_self _ m3
    have H := Lib.hid h.symm
    clear h
    go_enter Try.func19, Try.ntmps19
    go_wp2_with fail
    refine (worker_to c a true _ H.out).mono ?_
    rintro e w1 ⟨rfl, hb1⟩; obtain ⟨⟨d1, o1⟩, rfl⟩ := regrown_of_below hb1; clear hb1
    go_wp2
    go_ret
    exact ⟨rfl, (by repeat (first | with_reducible refine blg ?_ _ _ | with_reducible refine bla ?_ _ | with_reducible exact Below.refl _ _))⟩

set_option maxRecDepth 100000 in
theorem col_any (c a : Int) (w : World) :
    Calls Try.prog 21 #[.int .i64 c, .int .i64 a] w fun e w' => e = .returned (.int .i64 (colV c a)) ∧ Below w.heap.size w w' := by
  cases h : worksB c a with
  | false =>
    rw [show colV c a = -1 by unfold colV; rw [h]; rfl]
    have H := Lib.hid h.symm
    clear h
    go_enter Try.func21, Try.ntmps21
    go_wp2_with fail
    refine (worker_to c a false _ H.out).mono ?_
    rintro e w1 ⟨rfl, hb1⟩; obtain ⟨⟨d1, o1⟩, rfl⟩ := regrown_of_below hb1; clear hb1
    go_wp2
    go_ret
    exact ⟨rfl, (by repeat (first | with_reducible refine blg ?_ _ _ | with_reducible refine bla ?_ _ | with_reducible exact Below.refl _ _))⟩
  | true =>
    rw [show colV c a = a % c by unfold colV; rw [if_pos h]]
    obtain ⟨m1, m2, m3, m4⟩ := works_un h
    have m5 : ¬ c = 0 := by omega
    have q0 : 0 ≤ a / c := Int.ediv_nonneg m3 (by omega)
    have q1 : a / c ≤ a := Int.ediv_le_self _ m3
    have H := Lib.hid h.symm
    clear h
    go_enter Try.func21, Try.ntmps21
    go_wp2_with fail
    refine (worker_to c a true _ H.out).mono ?_
    rintro e w1 ⟨rfl, hb1⟩; obtain ⟨⟨d1, o1⟩, rfl⟩ := regrown_of_below hb1; clear hb1
    go_wp2
    go_ret
    exact ⟨rfl, (by repeat (first | with_reducible refine blg ?_ _ _ | with_reducible refine bla ?_ _ | with_reducible exact Below.refl _ _))⟩

set_option maxRecDepth 100000 in
theorem refRow_any (c a : Int) (w : World) :
    Calls Try.prog 20 #[.int .i64 c, .int .i64 a] w fun e w' => e = .returned (.int .i64 (rowV c a)) ∧ Below w.heap.size w w' := by
  by_cases s1 : 1 ≤ c
  rotate_left
  · rw [show rowV c a = -1 by unfold rowV; rw [works_f (by omega)]; rfl]
    go_enter Try.func20, Try.ntmps20
    go_wp2
    go_ret
    exact ⟨rfl, (by repeat (first | with_reducible refine blg ?_ _ _ | with_reducible refine bla ?_ _ | with_reducible exact Below.refl _ _))⟩
  by_cases s2 : c ≤ 8
  rotate_left
  · rw [show rowV c a = -1 by unfold rowV; rw [works_f (by omega)]; rfl]
    go_enter Try.func20, Try.ntmps20
    go_wp2
    go_ret
    exact ⟨rfl, (by repeat (first | with_reducible refine blg ?_ _ _ | with_reducible refine bla ?_ _ | with_reducible exact Below.refl _ _))⟩
  by_cases h1 : 0 ≤ a
  rotate_left
  · rw [show rowV c a = -1 by unfold rowV; rw [works_f (by omega)]; rfl]
    go_enter Try.func20, Try.ntmps20
    go_wp2
    go_ret
    exact ⟨rfl, (by repeat (first | with_reducible refine blg ?_ _ _ | with_reducible refine bla ?_ _ | with_reducible exact Below.refl _ _))⟩
  by_cases h2 : a < c * 8
  rotate_left
  · rw [show rowV c a = -1 by unfold rowV; rw [works_f (by omega)]; rfl]
    go_enter Try.func20, Try.ntmps20
    go_wp2
    go_ret
    exact ⟨rfl, (by repeat (first | with_reducible refine blg ?_ _ _ | with_reducible refine bla ?_ _ | with_reducible exact Below.refl _ _))⟩
  rw [show rowV c a = a / c by unfold rowV; rw [works_t ⟨s1, s2, h1, h2⟩]; rfl]
  have m5 : ¬ c = 0 := by omega
  have q0 : 0 ≤ a / c := Int.ediv_nonneg h1 (by omega)
  have q1 : a / c ≤ a := Int.ediv_le_self _ h1
  go_enter Try.func20, Try.ntmps20
  go_wp2
  go_ret
  exact ⟨rfl, (by repeat (first | with_reducible refine blg ?_ _ _ | with_reducible refine bla ?_ _ | with_reducible exact Below.refl _ _))⟩

set_option maxRecDepth 100000 in
theorem refCol_any (c a : Int) (w : World) :
    Calls Try.prog 22 #[.int .i64 c, .int .i64 a] w fun e w' => e = .returned (.int .i64 (colV c a)) ∧ Below w.heap.size w w' := by
  cases h : worksB c a with
  | false =>
    rw [show colV c a = -1 by unfold colV; rw [h]; rfl]
    have hr : rowV c a = -1 := by unfold rowV; rw [h]; rfl
    have hr' : rowV c a < 0 := by omega
    go_enter Try.func22, Try.ntmps22
    go_wp2_with fail
    refine (refRow_any c a _).mono ?_
    rintro e w1 ⟨rfl, hb1⟩; obtain ⟨⟨d1, o1⟩, rfl⟩ := regrown_of_below hb1; clear hb1
    go_wp2
    go_ret
    exact ⟨rfl, (by repeat (first | with_reducible refine blg ?_ _ _ | with_reducible refine bla ?_ _ | with_reducible exact Below.refl _ _))⟩
  | true =>
    rw [show colV c a = a % c by unfold colV; rw [if_pos h]]
    obtain ⟨m1, m2, m3, m4⟩ := works_un h
    have m5 : ¬ c = 0 := by omega
    have q0 : 0 ≤ a / c := Int.ediv_nonneg m3 (by omega)
    have hr : rowV c a = a / c := by unfold rowV; rw [if_pos h]
    have hr' : ¬ rowV c a < 0 := by omega
    clear h hr
    go_enter Try.func22, Try.ntmps22
    go_wp2_with fail
    refine (refRow_any c a _).mono ?_
    rintro e w1 ⟨rfl, hb1⟩; obtain ⟨⟨d1, o1⟩, rfl⟩ := regrown_of_below hb1; clear hb1
    go_wp2
    go_ret
    exact ⟨rfl, (by repeat (first | with_reducible refine blg ?_ _ _ | with_reducible refine bla ?_ _ | with_reducible exact Below.refl _ _))⟩

/-- The first part that ends behind a number. -/
def ofFrom (n k a : Int) : Nat → Int → Int
  | 0, _ => -1
  | f + 1, i => if a < lowV n k (i + 1) then i else ofFrom n k a f (i + 1)
def ofV (n k a : Int) : Int := if mayB n k = true ∧ 0 ≤ a ∧ a < n then ofFrom n k a k.toNat 0 else -1

set_option maxRecDepth 100000 in
theorem of_in (n k a : Int) (w : World) (h : mayB n k = true) (h0 : 0 ≤ a) (h1 : a < n) :
    Calls Try.prog 15 #[.int .i64 n, .int .i64 k, .int .i64 a] w fun e w' => e = .returned (.int .i64 (ofFrom n k a k.toNat 0)) ∧ Below w.heap.size w w' := by
  obtain ⟨m1, m2, m3, m4⟩ := may_un h
  have H := Lib.hid h.symm
  clear h
  go_enter Try.func15, Try.ntmps15
  go_wp2_with fail
  refine (may_to n k true _ H.out).mono ?_
  rintro e w1 ⟨rfl, hb1⟩; obtain ⟨⟨d1, o1⟩, rfl⟩ := regrown_of_below hb1; clear hb1
  go_wp2_with fail
  go_loopw [21] (fun v wr => ∃ (i : Nat) (d : Nat) (os : Array Obj), i ≤ k.toNat ∧ v = .int .i64 i ∧ Hid (ofFrom n k a (k.toNat - i) i = ofFrom n k a k.toNat 0) ∧ wr = grow (redrawn w d) os) (fun v _ => k.toNat - (intOf v).toNat)
  case atStart =>
    exact ⟨0, d1, o1, by omega, rfl, Lib.hid rfl, rfl⟩
  case round =>
    obtain ⟨i, d, os, hi, rfl, hrel, rfl⟩ := hrel
    by_cases hlt : (i : Int) < k
    · have es : k.toNat - i = (k.toNat - (i + 1)) + 1 := by omega
      have hb := lowV_bd n k ((i : Int) + 1)
      by_cases ha : a < lowV n k ((i : Int) + 1)
      · have he : ofFrom n k a k.toNat 0 = (i : Int) := by rw [← hrel.out, es]; unfold ofFrom; rw [if_pos ha]
        have HE := Lib.hid he
        clear hrel he
        go_wp2_with fail
        refine (low_any n k ((i : Int) + 1) _ (by omega) (by omega)).mono ?_
        rintro e w1 ⟨rfl, hb1⟩; obtain ⟨⟨d2, o2⟩, rfl⟩ := regrown_of_below hb1; clear hb1
        go_wp2
        go_ret
        exact ⟨by rw [HE.out]; rfl, (by repeat (first | with_reducible refine blg ?_ _ _ | with_reducible refine bla ?_ _ | with_reducible exact Below.refl _ _))⟩
      · have he : ofFrom n k a (k.toNat - (i + 1)) ((i : Int) + 1) = ofFrom n k a k.toNat 0 := by rw [← hrel.out, es]; conv => rhs; unfold ofFrom; rw [if_neg ha]
        have HE := Lib.hid he
        clear hrel he
        go_wp2_with fail
        refine (low_any n k ((i : Int) + 1) _ (by omega) (by omega)).mono ?_
        rintro e w1 ⟨rfl, hb1⟩; obtain ⟨⟨d2, o2⟩, rfl⟩ := regrown_of_below hb1; clear hb1
        go_wp2
        refine ⟨?_, by simp [intOf]; omega⟩
        exact ⟨i + 1, d2, _, by omega, by go_num, by simpa using HE, rfl⟩
    · have he : ofFrom n k a k.toNat 0 = -1 := by rw [← hrel.out, show k.toNat - i = 0 by omega]; rfl
      have HE := Lib.hid he
      clear hrel he
      go_wp2
      go_ret
      exact ⟨by rw [HE.out]; rfl, (by repeat (first | with_reducible refine blg ?_ _ _ | with_reducible refine bla ?_ _ | with_reducible exact Below.refl _ _))⟩

set_option maxRecDepth 100000 in
theorem of_any (n k a : Int) (w : World) :
    Calls Try.prog 15 #[.int .i64 n, .int .i64 k, .int .i64 a] w fun e w' => e = .returned (.int .i64 (ofV n k a)) ∧ Below w.heap.size w w' := by
  cases h : mayB n k with
  | false =>
    rw [show ofV n k a = -1 by unfold ofV; rw [if_neg (by simp [h])]]
    have H := Lib.hid h.symm
    clear h
    go_enter Try.func15, Try.ntmps15
    go_wp2_with fail
    refine (may_to n k false _ H.out).mono ?_
    rintro e w1 ⟨rfl, hb1⟩; obtain ⟨⟨d1, o1⟩, rfl⟩ := regrown_of_below hb1; clear hb1
    go_wp2
    go_ret
    exact ⟨rfl, (by repeat (first | with_reducible refine blg ?_ _ _ | with_reducible refine bla ?_ _ | with_reducible exact Below.refl _ _))⟩
  | true =>
    by_cases h0 : 0 ≤ a
    · by_cases h1 : a < n
      · rw [show ofV n k a = ofFrom n k a k.toNat 0 by unfold ofV; rw [if_pos ⟨h, h0, h1⟩]]
        exact of_in n k a w h h0 h1
      · rw [show ofV n k a = -1 by unfold ofV; rw [if_neg (by omega)]]
        have H := Lib.hid h.symm
        clear h
        go_enter Try.func15, Try.ntmps15
        go_wp2_with fail
        refine (may_to n k true _ H.out).mono ?_
        rintro e w1 ⟨rfl, hb1⟩; obtain ⟨⟨d1, o1⟩, rfl⟩ := regrown_of_below hb1; clear hb1
        go_wp2
        go_ret
        exact ⟨rfl, (by repeat (first | with_reducible refine blg ?_ _ _ | with_reducible refine bla ?_ _ | with_reducible exact Below.refl _ _))⟩
    · rw [show ofV n k a = -1 by unfold ofV; rw [if_neg (by omega)]]
      have H := Lib.hid h.symm
      clear h
      go_enter Try.func15, Try.ntmps15
      go_wp2_with fail
      refine (may_to n k true _ H.out).mono ?_
      rintro e w1 ⟨rfl, hb1⟩; obtain ⟨⟨d1, o1⟩, rfl⟩ := regrown_of_below hb1; clear hb1
      go_wp2
      go_ret
      exact ⟨rfl, (by repeat (first | with_reducible refine blg ?_ _ _ | with_reducible refine bla ?_ _ | with_reducible exact Below.refl _ _))⟩

/-- The first part that a number is in. -/
def inFrom (n k a : Int) : Nat → Int → Int
  | 0, _ => -1
  | f + 1, i => if lowV n k i ≤ a ∧ a < lowV n k (i + 1) then i else inFrom n k a f (i + 1)

theorem inFrom_of (n k a : Int) : ∀ (f : Nat) (i : Int), lowV n k i ≤ a → inFrom n k a f i = ofFrom n k a f i := by
  intro f
  induction f with
  | zero => intro i _; rfl
  | succ f ih =>
    intro i h
    unfold inFrom ofFrom
    by_cases ha : a < lowV n k (i + 1)
    · rw [if_pos ⟨h, ha⟩, if_pos ha]
    · rw [if_neg (fun hh => ha hh.2), if_neg ha, ih _ (by omega)]

theorem low_zero (n k : Int) (h : mayB n k = true) : lowV n k 0 = 0 := by
  have hm := may_un h
  have := (low_3 n k 0 h (by omega) (by omega)).1
  rw [← this]; simp

/-- Outside it is in none. -/
theorem inFrom_neg (n k a : Int) (h : a < 0) : ∀ (f : Nat) (i : Int), inFrom n k a f i = -1 := by
  intro f
  induction f with
  | zero => intro i; rfl
  | succ f ih =>
    intro i
    unfold inFrom
    have := lowV_bd n k i
    rw [if_neg (by omega), ih]
theorem low_le (n k i : Int) (h : mayB n k = true) : lowV n k i ≤ n := by
  have hm := may_un h
  by_cases h0 : i < 0
  · rw [← low_1 n k i h0]; omega
  · by_cases hk : k ≤ i
    · rw [← low_2 n k i h h0 hk]; omega
    · rw [← (low_3 n k i h h0 hk).1]
      have h2 : i * n ≤ n * k := by rw [Int.mul_comm n k]; exact Int.mul_le_mul_of_nonneg_right (by omega) hm.1
      exact Int.ediv_le_of_le_mul (by omega) h2
theorem inFrom_big (n k a : Int) (hm : mayB n k = true) (h : n ≤ a) : ∀ (f : Nat) (i : Int), inFrom n k a f i = -1 := by
  intro f
  induction f with
  | zero => intro i; rfl
  | succ f ih =>
    intro i
    unfold inFrom
    have := low_le n k (i + 1) hm
    rw [if_neg (by omega), ih]

theorem inFrom_all (n k a : Int) (h : mayB n k = true) : inFrom n k a k.toNat 0 = ofV n k a := by
  unfold ofV
  by_cases h0 : 0 ≤ a
  · by_cases h1 : a < n
    · rw [if_pos ⟨h, h0, h1⟩, inFrom_of _ _ _ _ _ (by rw [low_zero n k h]; exact h0)]
    · rw [if_neg (by omega), inFrom_big n k a h (by omega)]
  · rw [if_neg (by omega), inFrom_neg n k a (by omega)]
end Go.Proofs.Ytphgkgpkallgeaa
