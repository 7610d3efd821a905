/- Package part: there are few segments; where their words lie. -/
import Derived.Test.YtphgkgpkallgeaaPart10
namespace Go.Proofs.Ytphgkgpkallgeaa
open Go.RowKit Go.Sort
set_option linter.unusedVariables false

theorem rowS_len (l : List Seg) : (rowS l).length = l.length * 4 := by
  induction l with
  | nil => rfl
  | cons s l ih => simp [rowS, ih]; omega

theorem rowS_at (pre : List Seg) (s : Seg) (rest : List Seg) :
    (rowS (pre ++ s :: rest))[pre.length * 4]? = some (.int .i64 s.f) ∧ (rowS (pre ++ s :: rest))[pre.length * 4 + 1]? = some (.int .i64 s.t) ∧
    (rowS (pre ++ s :: rest))[pre.length * 4 + 2]? = some (.int .i64 s.r) ∧ (rowS (pre ++ s :: rest))[pre.length * 4 + 3]? = some (.int .i64 s.c) := by
  induction pre with
  | nil => simp [rowS]
  | cons x pre ih =>
    obtain ⟨h1, h2, h3, h4⟩ := ih
    have e : ∀ j, (x :: pre).length * 4 + j = (pre.length * 4 + j) + 1 + 1 + 1 + 1 := by intro j; simp; omega
    refine ⟨?_, ?_, ?_, ?_⟩
    · have := e 0; simp only [Nat.add_zero] at this; rw [this]; simpa [rowS] using h1
    · rw [e 1]; simpa [rowS] using h2
    · rw [e 2]; simpa [rowS] using h3
    · rw [e 3]; simpa [rowS] using h4

/-- A greater number is in no earlier part. -/
theorem of_up (n k a i : Int) (h : mayB n k = true) (h0 : 0 ≤ a) (hn : a < n) (i0 : 0 ≤ i) (ik : i ≤ k) (ha : lowV n k i ≤ a) : i ≤ ofV n k a := by
  have h1 := of_at n k a h h0 hn
  apply Classical.byContradiction
  intro hc
  have := low_mono n k h (i - (ofV n k a + 1)).toNat (ofV n k a + 1) (by omega) (by omega)
  rw [show ofV n k a + 1 + (((i - (ofV n k a + 1)).toNat : Nat) : Int) = i by omega] at this
  omega

theorem segs_few (n r c : Int) (hr : mayB n r = true) (hc : mayB n c = true) : ∀ (f : Nat) (a : Int), 0 ≤ a → a < n →
    ((segs n r c f a).length : Int) ≤ (r - ofV n r a) + (c - ofV n c a) - 1 := by
  intro f
  induction f with
  | zero =>
    intro a h0 hn
    have h1 := of_at n r a hr h0 hn
    have h2 := of_at n c a hc h0 hn
    simp [segs]; omega
  | succ f ih =>
    intro a h0 hn
    have h1 := of_at n r a hr h0 hn
    have h2 := of_at n c a hc h0 hn
    have h3 := next_in n r c a hr hc h0 hn
    unfold segs
    rw [if_pos hn]
    by_cases hT : nextV n r c a < n
    · have i1 := ih (nextV n r c a) (by omega) hT
      have u1 := of_up n r (nextV n r c a) (ofV n r a) hr (by omega) hT h1.1 (by omega) (by omega)
      have u2 := of_up n c (nextV n r c a) (ofV n c a) hc (by omega) hT h2.1 (by omega) (by omega)
      have u3 : ofV n r a + 1 ≤ ofV n r (nextV n r c a) ∨ ofV n c a + 1 ≤ ofV n c (nextV n r c a) := by
        have hm : nextV n r c a = lowV n r (ofV n r a + 1) ∨ nextV n r c a = lowV n c (ofV n c a + 1) := by unfold nextV; omega
        rcases hm with e | e
        · exact .inl (of_up n r (nextV n r c a) (ofV n r a + 1) hr (by omega) hT (by omega) (by omega) (by omega))
        · exact .inr (of_up n c (nextV n r c a) (ofV n c a + 1) hc (by omega) hT (by omega) (by omega) (by omega))
      simp only [List.length_cons]
      omega
    · have e : segs n r c f (nextV n r c a) = [] := by cases f <;> simp [segs, hT]
      rw [e]
      simp only [List.length_cons, List.length_nil]
      omega

theorem segsV_few (n r c : Int) (hr : mayB n r = true) (hc : mayB n c = true) : ((segsV n r c).length : Int) ≤ r + c - 1 := by
  have m1 := may_un hr
  have m2 := may_un hc
  unfold segsV
  rw [if_pos ⟨hr, hc⟩]
  by_cases h : 0 < n
  · have := segs_few n r c hr hc n.toNat 0 (by omega) h
    have h1 := of_at n r 0 hr (by omega) h
    have h2 := of_at n c 0 hc (by omega) h
    omega
  · have e : n.toNat = 0 := by omega
    rw [e]; simp [segs]; omega

/-- What a segment is. -/
theorem seg_is (n r c a : Int) (hr : mayB n r = true) (hc : mayB n c = true) (h0 : 0 ≤ a) (hn : a < n) :
    ofV n r (nextV n r c a - 1) = ofV n r a ∧ ofV n c (nextV n r c a - 1) = ofV n c a := by
  have h1 := of_at n r a hr h0 hn
  have h2 := of_at n c a hc h0 hn
  have h3 := next_in n r c a hr hc h0 hn
  have h4 : nextV n r c a ≤ lowV n r (ofV n r a + 1) ∧ nextV n r c a ≤ lowV n c (ofV n c a + 1) := by unfold nextV; omega
  exact ⟨of_part n r (ofV n r a) _ hr h1.1 h1.2.1 (by omega) (by omega), of_part n c (ofV n c a) _ hc h2.1 h2.2.1 (by omega) (by omega)⟩
end Go.Proofs.Ytphgkgpkallgeaa
