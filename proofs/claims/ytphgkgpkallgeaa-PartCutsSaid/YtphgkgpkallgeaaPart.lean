/- Package part, and its reference: plain numbers. -/
import Derived.Test.YtphgkgpkallgeaaRows
import Derived.Test.YtphgkgpkallgeaaKit
namespace Go.Proofs.Ytphgkgpkallgeaa
open Go.RowKit Go.Sort
set_option linter.unusedVariables false

def mayB (n k : Int) : Bool := decide (0 ≤ n ∧ n ≤ 4096 ∧ 1 ≤ k ∧ k ≤ 8)
theorem may_t {n k : Int} (h : 0 ≤ n ∧ n ≤ 4096 ∧ 1 ≤ k ∧ k ≤ 8) : mayB n k = true := decide_eq_true h
theorem may_un {n k : Int} (h : mayB n k = true) : 0 ≤ n ∧ n ≤ 4096 ∧ 1 ≤ k ∧ k ≤ 8 := of_decide_eq_true h
theorem may_f {n k : Int} (h : ¬ (0 ≤ n ∧ n ≤ 4096 ∧ 1 ≤ k ∧ k ≤ 8)) : mayB n k = false := decide_eq_false h
def lowV (n k i : Int) : Int := if mayB n k = false ∨ i < 0 then 0 else if k ≤ i then n else i * n / k

theorem sides_any (k : Int) (b : Bool) (w : World) (h : b = decide (1 ≤ k ∧ k ≤ 8)) :
    Calls Try.prog 28 #[.int .i64 k] w fun e w' => e = .returned (.bool b) ∧ Below w.heap.size w w' := by
  by_cases h1 : 1 ≤ k
  · by_cases h2 : k ≤ 8
    · obtain rfl : b = true := (by rw [h]; simp; omega); clear h
      go_enter Try.func28, Try.ntmps28
      go_wp2
      go_ret
      exact ⟨rfl, (by repeat (first | with_reducible refine blg ?_ _ _ | with_reducible refine bla ?_ _ | with_reducible exact Below.refl _ _))⟩
    · obtain rfl : b = false := (by rw [h]; simp; omega); clear h
      go_enter Try.func28, Try.ntmps28
      go_wp2
      go_ret
      exact ⟨rfl, (by repeat (first | with_reducible refine blg ?_ _ _ | with_reducible refine bla ?_ _ | with_reducible exact Below.refl _ _))⟩
  · obtain rfl : b = false := (by rw [h]; simp; omega); clear h
    go_enter Try.func28, Try.ntmps28
    go_wp2
    go_ret
    exact ⟨rfl, (by repeat (first | with_reducible refine blg ?_ _ _ | with_reducible refine bla ?_ _ | with_reducible exact Below.refl _ _))⟩

theorem may_any (n k : Int) (w : World) :
    Calls Try.prog 26 #[.int .i64 n, .int .i64 k] w fun e w' => e = .returned (.bool (mayB n k)) ∧ Below w.heap.size w w' := by
  by_cases h1 : 0 ≤ n
  · by_cases h2 : n ≤ 4096
    · by_cases hk : 1 ≤ k ∧ k ≤ 8
      · rw [may_t ⟨h1, h2, hk⟩]
        have hk' := Lib.hid (show true = decide (1 ≤ k ∧ k ≤ 8) by simp; omega)
        clear hk
        go_enter Try.func26, Try.ntmps26
        go_wp2_with fail
        refine (sides_any k true _ hk'.out).mono ?_
        rintro e w1 ⟨rfl, hb1⟩; obtain ⟨⟨d1, o1⟩, rfl⟩ := regrown_of_below hb1; clear hb1
        go_wp2
        go_ret
        exact ⟨rfl, (by repeat (first | with_reducible refine blg ?_ _ _ | with_reducible refine bla ?_ _ | with_reducible exact Below.refl _ _))⟩
      · rw [may_f (fun h => hk h.2.2)]
        have hk' := Lib.hid (show false = decide (1 ≤ k ∧ k ≤ 8) by simp; omega)
        clear hk
        go_enter Try.func26, Try.ntmps26
        go_wp2_with fail
        refine (sides_any k false _ hk'.out).mono ?_
        rintro e w1 ⟨rfl, hb1⟩; obtain ⟨⟨d1, o1⟩, rfl⟩ := regrown_of_below hb1; clear hb1
        go_wp2
        go_ret
        exact ⟨rfl, (by repeat (first | with_reducible refine blg ?_ _ _ | with_reducible refine bla ?_ _ | with_reducible exact Below.refl _ _))⟩
    · rw [may_f (fun h => h2 h.2.1)]
      go_enter Try.func26, Try.ntmps26
      go_wp2
      go_ret
      exact ⟨rfl, (by repeat (first | with_reducible refine blg ?_ _ _ | with_reducible refine bla ?_ _ | with_reducible exact Below.refl _ _))⟩
  · rw [may_f (fun h => h1 h.1)]
    go_enter Try.func26, Try.ntmps26
    go_wp2
    go_ret
    exact ⟨rfl, (by repeat (first | with_reducible refine blg ?_ _ _ | with_reducible refine bla ?_ _ | with_reducible exact Below.refl _ _))⟩

theorem refMay_any (n k : Int) (w : World) :
    Calls Try.prog 27 #[.int .i64 n, .int .i64 k] w fun e w' => e = .returned (.bool (mayB n k)) ∧ Below w.heap.size w w' := by
  by_cases h1 : 0 ≤ n
  · by_cases h2 : n ≤ 4096
    · by_cases h3 : 1 ≤ k
      · by_cases h4 : k ≤ 8
        · rw [may_t ⟨h1, h2, h3, h4⟩]
          go_enter Try.func27, Try.ntmps27
          go_wp2
          go_ret
          exact ⟨rfl, (by repeat (first | with_reducible refine blg ?_ _ _ | with_reducible refine bla ?_ _ | with_reducible exact Below.refl _ _))⟩
        · rw [may_f (fun h => h4 h.2.2.2)]
          go_enter Try.func27, Try.ntmps27
          go_wp2
          go_ret
          exact ⟨rfl, (by repeat (first | with_reducible refine blg ?_ _ _ | with_reducible refine bla ?_ _ | with_reducible exact Below.refl _ _))⟩
      · rw [may_f (fun h => h3 h.2.2.1)]
        go_enter Try.func27, Try.ntmps27
        go_wp2
        go_ret
        exact ⟨rfl, (by repeat (first | with_reducible refine blg ?_ _ _ | with_reducible refine bla ?_ _ | with_reducible exact Below.refl _ _))⟩
    · rw [may_f (fun h => h2 h.2.1)]
      go_enter Try.func27, Try.ntmps27
      go_wp2
      go_ret
      exact ⟨rfl, (by repeat (first | with_reducible refine blg ?_ _ _ | with_reducible refine bla ?_ _ | with_reducible exact Below.refl _ _))⟩
  · rw [may_f (fun h => h1 h.1)]
    go_enter Try.func27, Try.ntmps27
    go_wp2
    go_ret
    exact ⟨rfl, (by repeat (first | with_reducible refine blg ?_ _ _ | with_reducible refine bla ?_ _ | with_reducible exact Below.refl _ _))⟩

theorem may_to (n k : Int) (b : Bool) (w : World) (h : b = mayB n k) : Calls Try.prog 26 #[.int .i64 n, .int .i64 k] w fun e w' => e = .returned (.bool b) ∧ Below w.heap.size w w' := by
  subst h; exact may_any n k w
theorem refMay_to (n k : Int) (b : Bool) (w : World) (h : b = mayB n k) : Calls Try.prog 27 #[.int .i64 n, .int .i64 k] w fun e w' => e = .returned (.bool b) ∧ Below w.heap.size w w' := by
  subst h; exact refMay_any n k w

theorem low_0 (n k i : Int) (h : mayB n k = false) : 0 = lowV n k i := by unfold lowV; rw [if_pos (Or.inl h)]
theorem low_1 (n k i : Int) (h : i < 0) : 0 = lowV n k i := by unfold lowV; rw [if_pos (Or.inr h)]
theorem low_2 (n k i : Int) (h : mayB n k = true) (h0 : ¬ i < 0) (hk : k ≤ i) : n = lowV n k i := by unfold lowV; rw [if_neg (by simp [h]; omega), if_pos hk]
theorem low_3 (n k i : Int) (h : mayB n k = true) (h0 : ¬ i < 0) (hk : ¬ k ≤ i) : i * n / k = lowV n k i ∧ ¬ k = 0 ∧ 0 ≤ i * n ∧ i * n ≤ 32768 := by
  have hm : 0 ≤ n ∧ n ≤ 4096 ∧ 1 ≤ k ∧ k ≤ 8 := of_decide_eq_true h
  have h1 : 0 ≤ i * n := Int.mul_nonneg (by omega) hm.1
  have h2 : i * n ≤ 8 * 4096 := Int.mul_le_mul (by omega) hm.2.1 hm.1 (by omega)
  have e : IntKind.i64.wrap (i * n) = i * n := by rw [IntKind.wrap_i64]; omega
  have d : (i * n).tdiv k = i * n / k := Int.tdiv_eq_ediv_of_nonneg h1
  have q0 : 0 ≤ i * n / k := Int.ediv_nonneg h1 (by omega)
  have q1 : i * n / k ≤ i * n := Int.ediv_le_self _ h1
  refine ⟨?_, by omega, h1, by omega⟩
  unfold lowV; rw [if_neg (by simp [h]; omega), if_neg hk]

set_option maxRecDepth 100000 in
theorem low_any (n k i : Int) (w : World) (i1 : -9223372036854775808 ≤ i) (i2 : i ≤ 9223372036854775807) :
    Calls Try.prog 9 #[.int .i64 n, .int .i64 k, .int .i64 i] w fun e w' => e = .returned (.int .i64 (lowV n k i)) ∧ Below w.heap.size w w' := by
  cases h : mayB n k with
  | false =>
    rw [← low_0 n k i h]
    have H := Lib.hid h.symm
    clear h
    go_enter Try.func9, Try.ntmps9
    go_wp2_with fail
    refine (may_to n k false _ H.out).mono ?_
    rintro e w1 ⟨rfl, hb1⟩; obtain ⟨⟨d1, o1⟩, rfl⟩ := regrown_of_below hb1; clear hb1
    go_wp2
    go_ret
    exact ⟨rfl, (by repeat (first | with_reducible refine blg ?_ _ _ | with_reducible refine bla ?_ _ | with_reducible exact Below.refl _ _))⟩
  | true =>
    by_cases h0 : i < 0
    · rw [← low_1 n k i h0]
      have H := Lib.hid h.symm
      clear h
      go_enter Try.func9, Try.ntmps9
      go_wp2_with fail
      refine (may_to n k true _ H.out).mono ?_
      rintro e w1 ⟨rfl, hb1⟩; obtain ⟨⟨d1, o1⟩, rfl⟩ := regrown_of_below hb1; clear hb1
      go_wp2
      go_ret
      exact ⟨rfl, (by repeat (first | with_reducible refine blg ?_ _ _ | with_reducible refine bla ?_ _ | with_reducible exact Below.refl _ _))⟩
    · by_cases hk : k ≤ i
      · have e := low_2 n k i h h0 hk
        rw [← e]
        clear e
        have H := Lib.hid h.symm
        clear h
        go_enter Try.func9, Try.ntmps9
        go_wp2_with fail
        refine (may_to n k true _ H.out).mono ?_
        rintro e w1 ⟨rfl, hb1⟩; obtain ⟨⟨d1, o1⟩, rfl⟩ := regrown_of_below hb1; clear hb1
        go_wp2
        go_ret
        exact ⟨rfl, (by repeat (first | with_reducible refine blg ?_ _ _ | with_reducible refine bla ?_ _ | with_reducible exact Below.refl _ _))⟩
      · have e := low_3 n k i h h0 hk
        rw [← e.1]
        have hk0 := e.2.1
        have hb := e.2.2
        clear e
        have H := Lib.hid h.symm
        clear h
        go_enter Try.func9, Try.ntmps9
        go_wp2_with fail
        refine (may_to n k true _ H.out).mono ?_
        rintro e w1 ⟨rfl, hb1⟩; obtain ⟨⟨d1, o1⟩, rfl⟩ := regrown_of_below hb1; clear hb1
        go_wp2
        go_ret
        exact ⟨rfl, (by repeat (first | with_reducible refine blg ?_ _ _ | with_reducible refine bla ?_ _ | with_reducible exact Below.refl _ _))⟩

set_option maxRecDepth 100000 in
theorem refLow_any (n k i : Int) (w : World) (i1 : -9223372036854775808 ≤ i) (i2 : i ≤ 9223372036854775807) :
    Calls Try.prog 10 #[.int .i64 n, .int .i64 k, .int .i64 i] w fun e w' => e = .returned (.int .i64 (lowV n k i)) ∧ Below w.heap.size w w' := by
  cases h : mayB n k with
  | false =>
    rw [← low_0 n k i h]
    have H := Lib.hid h.symm
    clear h
    go_enter Try.func10, Try.ntmps10
    go_wp2_with fail
    refine (refMay_to n k false _ H.out).mono ?_
    rintro e w1 ⟨rfl, hb1⟩; obtain ⟨⟨d1, o1⟩, rfl⟩ := regrown_of_below hb1; clear hb1
    go_wp2
    go_ret
    exact ⟨rfl, (by repeat (first | with_reducible refine blg ?_ _ _ | with_reducible refine bla ?_ _ | with_reducible exact Below.refl _ _))⟩
  | true =>
    by_cases h0 : i < 0
    · rw [← low_1 n k i h0]
      have H := Lib.hid h.symm
      clear h
      go_enter Try.func10, Try.ntmps10
      go_wp2_with fail
      refine (refMay_to n k true _ H.out).mono ?_
      rintro e w1 ⟨rfl, hb1⟩; obtain ⟨⟨d1, o1⟩, rfl⟩ := regrown_of_below hb1; clear hb1
      go_wp2
      go_ret
      exact ⟨rfl, (by repeat (first | with_reducible refine blg ?_ _ _ | with_reducible refine bla ?_ _ | with_reducible exact Below.refl _ _))⟩
    · by_cases hk : k ≤ i
      · have e := low_2 n k i h h0 hk
        rw [← e]
        clear e
        have H := Lib.hid h.symm
        clear h
        go_enter Try.func10, Try.ntmps10
        go_wp2_with fail
        refine (refMay_to n k true _ H.out).mono ?_
        rintro e w1 ⟨rfl, hb1⟩; obtain ⟨⟨d1, o1⟩, rfl⟩ := regrown_of_below hb1; clear hb1
        go_wp2
        go_ret
        exact ⟨rfl, (by repeat (first | with_reducible refine blg ?_ _ _ | with_reducible refine bla ?_ _ | with_reducible exact Below.refl _ _))⟩
      · have e := low_3 n k i h h0 hk
        rw [← e.1]
        have hk0 := e.2.1
        have hb := e.2.2
        clear e
        have H := Lib.hid h.symm
        clear h
        go_enter Try.func10, Try.ntmps10
        go_wp2_with fail
        refine (refMay_to n k true _ H.out).mono ?_
        rintro e w1 ⟨rfl, hb1⟩; obtain ⟨⟨d1, o1⟩, rfl⟩ := regrown_of_below hb1; clear hb1
        go_wp2
        go_ret
        exact ⟨rfl, (by repeat (first | with_reducible refine blg ?_ _ _ | with_reducible refine bla ?_ _ | with_reducible exact Below.refl _ _))⟩

theorem lowV_bd (n k i : Int) : 0 ≤ lowV n k i ∧ lowV n k i ≤ 32768 := by
  unfold lowV
  by_cases h : mayB n k = true
  · have hm : 0 ≤ n ∧ n ≤ 4096 ∧ 1 ≤ k ∧ k ≤ 8 := of_decide_eq_true h
    by_cases h0 : i < 0
    · rw [if_pos (Or.inr h0)]; omega
    · by_cases hk : k ≤ i
      · rw [if_neg (by simp [h]; omega), if_pos hk]; omega
      · have := low_3 n k i h h0 hk
        rw [if_neg (by simp [h]; omega), if_neg hk]
        have q0 : 0 ≤ i * n / k := Int.ediv_nonneg this.2.2.1 (by omega)
        have q1 : i * n / k ≤ i * n := Int.ediv_le_self _ this.2.2.1
        omega
  · have h' : mayB n k = false := by simpa using h
    rw [if_pos (Or.inl h')]; omega
def sizeV (n k i : Int) : Int := if i < 0 ∨ k ≤ i then 0 else lowV n k (i + 1) - lowV n k i
def mostV (n k : Int) : Int := if mayB n k = true then (n + k - 1) / k else 0
theorem sizeV_bd (n k i : Int) : -32768 ≤ sizeV n k i ∧ sizeV n k i ≤ 32768 := by
  have := lowV_bd n k i
  have := lowV_bd n k (i + 1)
  unfold sizeV; split <;> omega
theorem low_to (n k i i' v : Int) (w : World) (i1 : -9223372036854775808 ≤ i) (i2 : i ≤ 9223372036854775807) (ei : i' = i) (ev : v = lowV n k i) :
    Calls Try.prog 9 #[.int .i64 n, .int .i64 k, .int .i64 i'] w fun e w' => e = .returned (.int .i64 v) ∧ Below w.heap.size w w' := by
  subst ei ev; exact low_any n k _ w i1 i2
theorem refLow_to (n k i i' v : Int) (w : World) (i1 : -9223372036854775808 ≤ i) (i2 : i ≤ 9223372036854775807) (ei : i' = i) (ev : v = lowV n k i) :
    Calls Try.prog 10 #[.int .i64 n, .int .i64 k, .int .i64 i'] w fun e w' => e = .returned (.int .i64 v) ∧ Below w.heap.size w w' := by
  subst ei ev; exact refLow_any n k _ w i1 i2

attribute [local irreducible] lowV mayB
set_option maxRecDepth 100000 in
theorem size_any (n k i : Int) (w : World) (i1 : -9223372036854775808 ≤ i) (i2 : i ≤ 9223372036854775807) (k2 : k ≤ 9223372036854775807) :
    Calls Try.prog 11 #[.int .i64 n, .int .i64 k, .int .i64 i] w fun e w' => e = .returned (.int .i64 (sizeV n k i)) ∧ Below w.heap.size w w' := by
  by_cases h0 : i < 0
  · rw [show sizeV n k i = 0 by unfold sizeV; rw [if_pos (Or.inl h0)]]
    go_enter Try.func11, Try.ntmps11
    go_wp2
    go_ret
    exact ⟨rfl, (by repeat (first | with_reducible refine blg ?_ _ _ | with_reducible refine bla ?_ _ | with_reducible exact Below.refl _ _))⟩
  · by_cases hk : k ≤ i
    · rw [show sizeV n k i = 0 by unfold sizeV; rw [if_pos (Or.inr hk)]]
      go_enter Try.func11, Try.ntmps11
      go_wp2
      go_ret
      exact ⟨rfl, (by repeat (first | with_reducible refine blg ?_ _ _ | with_reducible refine bla ?_ _ | with_reducible exact Below.refl _ _))⟩
    · rw [show sizeV n k i = lowV n k (i + 1) - lowV n k i by unfold sizeV; rw [if_neg (by omega)]]
      have c1 := lowV_bd n k i
      have c2 := lowV_bd n k (i + 1)
      go_enter Try.func11, Try.ntmps11
      go_wp2_with fail
      refine (low_any n k (i + 1) _ (by omega) (by omega)).mono ?_
      rintro e w1 ⟨rfl, hb1⟩; obtain ⟨⟨d1, o1⟩, rfl⟩ := regrown_of_below hb1; clear hb1
      go_wp2_with fail
      refine (low_any n k i _ i1 i2).mono ?_
      rintro e w1 ⟨rfl, hb1⟩; obtain ⟨⟨d2, o2⟩, rfl⟩ := regrown_of_below hb1; clear hb1
      go_wp2
      go_ret
      exact ⟨rfl, (by repeat (first | with_reducible refine blg ?_ _ _ | with_reducible refine bla ?_ _ | with_reducible exact Below.refl _ _))⟩

theorem size_f (n k i : Int) (h : mayB n k = false) : 0 = sizeV n k i := by
  unfold sizeV; split
  · rfl
  · rw [← low_0 n k _ h, ← low_0 n k _ h]; rfl

set_option maxRecDepth 100000 in
theorem refSize_any (n k i : Int) (w : World) (i1 : -9223372036854775808 ≤ i) (i2 : i ≤ 9223372036854775807) (k2 : k ≤ 9223372036854775807) :
    Calls Try.prog 12 #[.int .i64 n, .int .i64 k, .int .i64 i] w fun e w' => e = .returned (.int .i64 (sizeV n k i)) ∧ Below w.heap.size w w' := by
  cases h : mayB n k with
  | false =>
    rw [← size_f n k i h]
    have H := Lib.hid h.symm
    clear h
    go_enter Try.func12, Try.ntmps12
    go_wp2_with fail
    refine (refMay_to n k false _ H.out).mono ?_
    rintro e w1 ⟨rfl, hb1⟩; obtain ⟨⟨d1, o1⟩, rfl⟩ := regrown_of_below hb1; clear hb1
    go_wp2
    go_ret
    exact ⟨rfl, (by repeat (first | with_reducible refine blg ?_ _ _ | with_reducible refine bla ?_ _ | with_reducible exact Below.refl _ _))⟩
  | true =>
    have H := Lib.hid h.symm
    clear h
    by_cases h0 : i < 0
    · rw [show sizeV n k i = 0 by unfold sizeV; rw [if_pos (Or.inl h0)]]
      go_enter Try.func12, Try.ntmps12
      go_wp2_with fail
      refine (refMay_to n k true _ H.out).mono ?_
      rintro e w1 ⟨rfl, hb1⟩; obtain ⟨⟨d1, o1⟩, rfl⟩ := regrown_of_below hb1; clear hb1
      go_wp2
      go_ret
      exact ⟨rfl, (by repeat (first | with_reducible refine blg ?_ _ _ | with_reducible refine bla ?_ _ | with_reducible exact Below.refl _ _))⟩
    · by_cases hk : k ≤ i
      · rw [show sizeV n k i = 0 by unfold sizeV; rw [if_pos (Or.inr hk)]]
        go_enter Try.func12, Try.ntmps12
        go_wp2_with fail
        refine (refMay_to n k true _ H.out).mono ?_
        rintro e w1 ⟨rfl, hb1⟩; obtain ⟨⟨d1, o1⟩, rfl⟩ := regrown_of_below hb1; clear hb1
        go_wp2
        go_ret
        exact ⟨rfl, (by repeat (first | with_reducible refine blg ?_ _ _ | with_reducible refine bla ?_ _ | with_reducible exact Below.refl _ _))⟩
      · rw [show sizeV n k i = lowV n k (i + 1) - lowV n k i by unfold sizeV; rw [if_neg (by omega)]]
        have c1 := lowV_bd n k i
        have c2 := lowV_bd n k (i + 1)
        go_enter Try.func12, Try.ntmps12
        go_wp2_with fail
        refine (refMay_to n k true _ H.out).mono ?_
        rintro e w1 ⟨rfl, hb1⟩; obtain ⟨⟨d1, o1⟩, rfl⟩ := regrown_of_below hb1; clear hb1
        go_wp2_with fail
        refine (refLow_any n k (i + 1) _ (by omega) (by omega)).mono ?_
        rintro e w1 ⟨rfl, hb1⟩; obtain ⟨⟨d2, o2⟩, rfl⟩ := regrown_of_below hb1; clear hb1
        go_wp2_with fail
        refine (refLow_any n k i _ i1 i2).mono ?_
        rintro e w1 ⟨rfl, hb1⟩; obtain ⟨⟨d3, o3⟩, rfl⟩ := regrown_of_below hb1; clear hb1
        go_wp2
        go_ret
        exact ⟨rfl, (by repeat (first | with_reducible refine blg ?_ _ _ | with_reducible refine bla ?_ _ | with_reducible exact Below.refl _ _))⟩

set_option maxRecDepth 100000 in
theorem most_any (n k : Int) (w : World) :
    Calls Try.prog 13 #[.int .i64 n, .int .i64 k] w fun e w' => e = .returned (.int .i64 (mostV n k)) ∧ Below w.heap.size w w' := by
  cases h : mayB n k with
  | false =>
    rw [show mostV n k = 0 by unfold mostV; rw [h]; rfl]
    have H := Lib.hid h.symm
    clear h
    go_enter Try.func13, Try.ntmps13
    go_wp2_with fail
    refine (may_to n k false _ H.out).mono ?_
    rintro e w1 ⟨rfl, hb1⟩; obtain ⟨⟨d1, o1⟩, rfl⟩ := regrown_of_below hb1; clear hb1
    go_wp2
    go_ret
    exact ⟨rfl, (by repeat (first | with_reducible refine blg ?_ _ _ | with_reducible refine bla ?_ _ | with_reducible exact Below.refl _ _))⟩
  | true =>
    rw [show mostV n k = (n + k - 1) / k by unfold mostV; rw [if_pos h]]
    have hm : 0 ≤ n ∧ n ≤ 4096 ∧ 1 ≤ k ∧ k ≤ 8 := may_un h
    obtain ⟨m1, m2, m3, m4⟩ := hm
    have m5 : ¬ k = 0 := by omega
    have q0 : 0 ≤ (n + k - 1) / k := Int.ediv_nonneg (by omega) (by omega)
    have q1 : (n + k - 1) / k ≤ n + k - 1 := Int.ediv_le_self _ (by omega)
    have H := Lib.hid h.symm
    clear h
    go_enter Try.func13, Try.ntmps13
    go_wp2_with fail
    refine (may_to n k true _ H.out).mono ?_
    rintro e w1 ⟨rfl, hb1⟩; obtain ⟨⟨d1, o1⟩, rfl⟩ := regrown_of_below hb1; clear hb1
    go_wp2
    go_ret
    exact ⟨rfl, (by repeat (first | with_reducible refine blg ?_ _ _ | with_reducible refine bla ?_ _ | with_reducible exact Below.refl _ _))⟩

set_option maxRecDepth 100000 in
theorem refMost_any (n k : Int) (w : World) :
    Calls Try.prog 14 #[.int .i64 n, .int .i64 k] w fun e w' => e = .returned (.int .i64 (mostV n k)) ∧ Below w.heap.size w w' := by
  cases h : mayB n k with
  | false =>
    rw [show mostV n k = 0 by unfold mostV; rw [h]; rfl]
    have H := Lib.hid h.symm
    clear h
    go_enter Try.func14, Try.ntmps14
    go_wp2_with fail
    refine (refMay_to n k false _ H.out).mono ?_
    rintro e w1 ⟨rfl, hb1⟩; obtain ⟨⟨d1, o1⟩, rfl⟩ := regrown_of_below hb1; clear hb1
    go_wp2
    go_ret
    exact ⟨rfl, (by repeat (first | with_reducible refine blg ?_ _ _ | with_reducible refine bla ?_ _ | with_reducible exact Below.refl _ _))⟩
  | true =>
    rw [show mostV n k = (n + k - 1) / k by unfold mostV; rw [if_pos h]]
    have hm : 0 ≤ n ∧ n ≤ 4096 ∧ 1 ≤ k ∧ k ≤ 8 := may_un h
    obtain ⟨m1, m2, m3, m4⟩ := hm
    have m5 : ¬ k = 0 := by omega
    have q0 : 0 ≤ (n + k - 1) / k := Int.ediv_nonneg (by omega) (by omega)
    have q1 : (n + k - 1) / k ≤ n + k - 1 := Int.ediv_le_self _ (by omega)
    have H := Lib.hid h.symm
    clear h
    go_enter Try.func14, Try.ntmps14
    go_wp2_with fail
    refine (refMay_to n k true _ H.out).mono ?_
    rintro e w1 ⟨rfl, hb1⟩; obtain ⟨⟨d1, o1⟩, rfl⟩ := regrown_of_below hb1; clear hb1
    go_wp2
    go_ret
    exact ⟨rfl, (by repeat (first | with_reducible refine blg ?_ _ _ | with_reducible refine bla ?_ _ | with_reducible exact Below.refl _ _))⟩

def placeV (c i j : Int) : Int := if 1 ≤ c ∧ c ≤ 8 ∧ 0 ≤ i ∧ i < 8 ∧ 0 ≤ j ∧ j < c then i * c + j else -1
theorem place_n (c i j : Int) (h : ¬ (1 ≤ c ∧ c ≤ 8 ∧ 0 ≤ i ∧ i < 8 ∧ 0 ≤ j ∧ j < c)) : -1 = placeV c i j := by unfold placeV; rw [if_neg h]
theorem place_y (c i j : Int) (h : 1 ≤ c ∧ c ≤ 8 ∧ 0 ≤ i ∧ i < 8 ∧ 0 ≤ j ∧ j < c) : i * c + j = placeV c i j ∧ 0 ≤ i * c ∧ i * c ≤ 64 := by
  have h1 : 0 ≤ i * c := Int.mul_nonneg (by omega) (by omega)
  have h2 : i * c ≤ 8 * 8 := Int.mul_le_mul (by omega) (by omega) (by omega) (by omega)
  exact ⟨by unfold placeV; rw [if_pos h], h1, by omega⟩

set_option maxRecDepth 100000 in
theorem place_any (c i j : Int) (w : World) :
    Calls Try.prog 17 #[.int .i64 c, .int .i64 i, .int .i64 j] w fun e w' => e = .returned (.int .i64 (placeV c i j)) ∧ Below w.heap.size w w' := by
  by_cases hs : 1 ≤ c ∧ c ≤ 8
  · have HS := Lib.hid (show true = decide (1 ≤ c ∧ c ≤ 8) by simp; omega)
    obtain ⟨s1, s2⟩ := hs
    by_cases h1 : 0 ≤ i
    · by_cases h2 : i < 8
      · by_cases h3 : 0 ≤ j
        · by_cases h4 : j < c
          · have e := place_y c i j ⟨s1, s2, h1, h2, h3, h4⟩
            rw [← e.1]
            have hb := e.2
            clear e
            go_enter Try.func17, Try.ntmps17
            go_wp2_with fail
            refine (sides_any c true _ HS.out).mono ?_
            rintro e w1 ⟨rfl, hb1⟩; obtain ⟨⟨d1, o1⟩, rfl⟩ := regrown_of_below hb1; clear hb1
            go_wp2
            go_ret
            exact ⟨rfl, (by repeat (first | with_reducible refine blg ?_ _ _ | with_reducible refine bla ?_ _ | with_reducible exact Below.refl _ _))⟩
          · rw [← place_n c i j (by omega)]
            go_enter Try.func17, Try.ntmps17
            go_wp2_with fail
            refine (sides_any c true _ HS.out).mono ?_
            rintro e w1 ⟨rfl, hb1⟩; obtain ⟨⟨d1, o1⟩, rfl⟩ := regrown_of_below hb1; clear hb1
            go_wp2
            go_ret
            exact ⟨rfl, (by repeat (first | with_reducible refine blg ?_ _ _ | with_reducible refine bla ?_ _ | with_reducible exact Below.refl _ _))⟩
        · rw [← place_n c i j (by omega)]
          go_enter Try.func17, Try.ntmps17
          go_wp2_with fail
          refine (sides_any c true _ HS.out).mono ?_
          rintro e w1 ⟨rfl, hb1⟩; obtain ⟨⟨d1, o1⟩, rfl⟩ := regrown_of_below hb1; clear hb1
          go_wp2
          go_ret
          exact ⟨rfl, (by repeat (first | with_reducible refine blg ?_ _ _ | with_reducible refine bla ?_ _ | with_reducible exact Below.refl _ _))⟩
      · rw [← place_n c i j (by omega)]
        go_enter Try.func17, Try.ntmps17
        go_wp2_with fail
        refine (sides_any c true _ HS.out).mono ?_
        rintro e w1 ⟨rfl, hb1⟩; obtain ⟨⟨d1, o1⟩, rfl⟩ := regrown_of_below hb1; clear hb1
        go_wp2
        go_ret
        exact ⟨rfl, (by repeat (first | with_reducible refine blg ?_ _ _ | with_reducible refine bla ?_ _ | with_reducible exact Below.refl _ _))⟩
    · rw [← place_n c i j (by omega)]
      go_enter Try.func17, Try.ntmps17
      go_wp2_with fail
      refine (sides_any c true _ HS.out).mono ?_
      rintro e w1 ⟨rfl, hb1⟩; obtain ⟨⟨d1, o1⟩, rfl⟩ := regrown_of_below hb1; clear hb1
      go_wp2
      go_ret
      exact ⟨rfl, (by repeat (first | with_reducible refine blg ?_ _ _ | with_reducible refine bla ?_ _ | with_reducible exact Below.refl _ _))⟩
  · rw [← place_n c i j (by omega)]
    have HS := Lib.hid (show false = decide (1 ≤ c ∧ c ≤ 8) by simp; omega)
    clear hs
    go_enter Try.func17, Try.ntmps17
    go_wp2_with fail
    refine (sides_any c false _ HS.out).mono ?_
    rintro e w1 ⟨rfl, hb1⟩; obtain ⟨⟨d1, o1⟩, rfl⟩ := regrown_of_below hb1; clear hb1
    go_wp2
    go_ret
    exact ⟨rfl, (by repeat (first | with_reducible refine blg ?_ _ _ | with_reducible refine bla ?_ _ | with_reducible exact Below.refl _ _))⟩

set_option maxRecDepth 100000 in
theorem refPlace_any (c i j : Int) (w : World) :
    Calls Try.prog 18 #[.int .i64 c, .int .i64 i, .int .i64 j] w fun e w' => e = .returned (.int .i64 (placeV c i j)) ∧ Below w.heap.size w w' := by
  by_cases s1 : 1 ≤ c
  rotate_left
  · rw [← place_n c i j (by omega)]
    go_enter Try.func18, Try.ntmps18
    go_wp2
    go_ret
    exact ⟨rfl, (by repeat (first | with_reducible refine blg ?_ _ _ | with_reducible refine bla ?_ _ | with_reducible exact Below.refl _ _))⟩
  by_cases s2 : c ≤ 8
  rotate_left
  · rw [← place_n c i j (by omega)]
    go_enter Try.func18, Try.ntmps18
    go_wp2
    go_ret
    exact ⟨rfl, (by repeat (first | with_reducible refine blg ?_ _ _ | with_reducible refine bla ?_ _ | with_reducible exact Below.refl _ _))⟩
  · skip
    by_cases h1 : 0 ≤ i
    · by_cases h2 : i < 8
      · by_cases h3 : 0 ≤ j
        · by_cases h4 : j < c
          · have e := place_y c i j ⟨s1, s2, h1, h2, h3, h4⟩
            rw [← e.1]
            have hb := e.2
            clear e
            go_enter Try.func18, Try.ntmps18
            go_wp2
            go_ret
            exact ⟨rfl, (by repeat (first | with_reducible refine blg ?_ _ _ | with_reducible refine bla ?_ _ | with_reducible exact Below.refl _ _))⟩
          · rw [← place_n c i j (by omega)]
            go_enter Try.func18, Try.ntmps18
            go_wp2
            go_ret
            exact ⟨rfl, (by repeat (first | with_reducible refine blg ?_ _ _ | with_reducible refine bla ?_ _ | with_reducible exact Below.refl _ _))⟩
        · rw [← place_n c i j (by omega)]
          go_enter Try.func18, Try.ntmps18
          go_wp2
          go_ret
          exact ⟨rfl, (by repeat (first | with_reducible refine blg ?_ _ _ | with_reducible refine bla ?_ _ | with_reducible exact Below.refl _ _))⟩
      · rw [← place_n c i j (by omega)]
        go_enter Try.func18, Try.ntmps18
        go_wp2
        go_ret
        exact ⟨rfl, (by repeat (first | with_reducible refine blg ?_ _ _ | with_reducible refine bla ?_ _ | with_reducible exact Below.refl _ _))⟩
    · rw [← place_n c i j (by omega)]
      go_enter Try.func18, Try.ntmps18
      go_wp2
      go_ret
      exact ⟨rfl, (by repeat (first | with_reducible refine blg ?_ _ _ | with_reducible refine bla ?_ _ | with_reducible exact Below.refl _ _))⟩
end Go.Proofs.Ytphgkgpkallgeaa
