/- Package part: the reference's segments: number by number. -/
import Derived.Test.YtphgkgpkallgeaaPart13
namespace Go.Proofs.Ytphgkgpkallgeaa
open Go.RowKit Go.Shelf Go.Sort
set_option linter.unusedVariables false

/-- What the reference holds when all numbers before a have been asked. -/
def RefAt (n r c a : Int) (out : List Seg) : Prop :=
  (a = 0 ∧ out = []) ∨ ∃ (pre : List Seg) (f : Nat) (b : Int), segsV n r c = pre ++ segs n r c f b ∧ 0 ≤ b ∧ b < a ∧ a ≤ nextV n r c b ∧ (n - b).toNat ≤ f ∧ out = pre ++ [⟨b, a, ofV n r b, ofV n c b⟩]

theorem ref_last {pre out : List Seg} {s t : Seg} (h : out ++ [s] = pre ++ [t]) : out = pre ∧ s = t := by
  have := List.append_inj' h rfl
  exact ⟨this.1, by simpa using this.2⟩

theorem ref_same {n r c a : Int} {out : List Seg} {s : Seg} (hr : mayB n r = true) (hc : mayB n c = true) (h : RefAt n r c a (out ++ [s])) (hn : a < n) (e1 : s.r = ofV n r a) (e2 : s.c = ofV n c a) :
    RefAt n r c (a + 1) (out ++ [⟨s.f, a + 1, s.r, s.c⟩]) := by
  have m1 := may_un hr
  have m2 := may_un hc
  rcases h with ⟨_, h⟩ | ⟨pre, f, b, hS, b0, ba, an, hf, ho⟩
  · simp at h
  · obtain ⟨rfl, rfl⟩ := ref_last ho
    simp only at e1 e2
    have h1 := of_at n r b hr b0 (by omega)
    have h2 := of_at n c b hc b0 (by omega)
    have hlt : a < nextV n r c b := by
      apply Classical.byContradiction
      intro hx
      have ea : a = nextV n r c b := by omega
      have hm : nextV n r c b = lowV n r (ofV n r b + 1) ∨ nextV n r c b = lowV n c (ofV n c b + 1) := by unfold nextV; omega
      rcases hm with e | e
      · have := of_up n r a (ofV n r b + 1) hr (by omega) hn (by omega) (by omega) (by omega); omega
      · have := of_up n c a (ofV n c b + 1) hc (by omega) hn (by omega) (by omega) (by omega); omega
    exact .inr ⟨out, f, b, hS, b0, by omega, by omega, hf, rfl⟩

theorem ref_first {n r c : Int} (hr : mayB n r = true) (hc : mayB n c = true) {a : Int} (h : RefAt n r c a []) (hn : a < n) : RefAt n r c (a + 1) [⟨a, a + 1, ofV n r a, ofV n c a⟩] := by
  rcases h with ⟨rfl, _⟩ | ⟨pre, f, b, _, _, _, _, _, ho⟩
  · have h3 := next_in n r c 0 hr hc (by omega) hn
    exact .inr ⟨[], n.toNat, 0, by unfold segsV; rw [if_pos ⟨hr, hc⟩]; rfl, by omega, by omega, by omega, by omega, rfl⟩
  · simp at ho

theorem ref_next {n r c a : Int} {out : List Seg} {s : Seg} (hr : mayB n r = true) (hc : mayB n c = true) (h : RefAt n r c a (out ++ [s])) (hn : a < n) (e : ¬ (s.r = ofV n r a ∧ s.c = ofV n c a)) :
    RefAt n r c (a + 1) ((out ++ [s]) ++ [⟨a, a + 1, ofV n r a, ofV n c a⟩]) := by
  have m1 := may_un hr
  have m2 := may_un hc
  rcases h with ⟨_, h⟩ | ⟨pre, f, b, hS, b0, ba, an, hf, ho⟩
  · simp at h
  · obtain ⟨rfl, rfl⟩ := ref_last ho
    simp only at e
    have h1 := of_at n r b hr b0 (by omega)
    have h2 := of_at n c b hc b0 (by omega)
    have h4 : nextV n r c b ≤ lowV n r (ofV n r b + 1) ∧ nextV n r c b ≤ lowV n c (ofV n c b + 1) := by unfold nextV; omega
    have ea : a = nextV n r c b := by
      apply Classical.byContradiction
      intro hx
      exact e ⟨(of_part n r (ofV n r b) a hr h1.1 h1.2.1 (by omega) (by omega)).symm, (of_part n c (ofV n c b) a hc h2.1 h2.2.1 (by omega) (by omega)).symm⟩
    have h3 := next_in n r c a hr hc (by omega) hn
    refine .inr ⟨out ++ [⟨b, a, ofV n r b, ofV n c b⟩], f - 1, a, ?_, by omega, by omega, by omega, by omega, rfl⟩
    rw [hS, show f = (f - 1) + 1 by omega]
    conv => lhs; unfold segs; rw [if_pos (show b < n by omega)]
    rw [← ea]; simp

theorem ref_end {n r c : Int} {out : List Seg} (hr : mayB n r = true) (hc : mayB n c = true) (h : RefAt n r c n out) : out = segsV n r c := by
  have m1 := may_un hr
  rcases h with ⟨h0, rfl⟩ | ⟨pre, f, b, hS, b0, ba, an, hf, rfl⟩
  · have e : n.toNat = 0 := by omega
    unfold segsV; rw [if_pos ⟨hr, hc⟩, e]; rfl
  · have h3 := next_in n r c b hr hc b0 ba
    have en : nextV n r c b = n := by omega
    rw [hS, show f = (f - 1) + 1 by omega]
    conv => rhs; unfold segs; rw [if_pos ba]
    have e : segs n r c (f - 1) n = [] := by cases (f - 1) <;> simp [segs]
    rw [en, e]

theorem ref_len {n r c a : Int} {out : List Seg} (hr : mayB n r = true) (hc : mayB n c = true) (h : RefAt n r c a out) (hn : a ≤ n) : out.length ≤ 20 := by
  have m1 := may_un hr
  have m2 := may_un hc
  have few := segsV_few n r c hr hc
  rcases h with ⟨h0, rfl⟩ | ⟨pre, f, b, hS, b0, ba, an, hf, rfl⟩
  · simp
  · rw [hS, show f = (f - 1) + 1 by omega] at few
    unfold segs at few
    rw [if_pos (show b < n by omega)] at few
    simp at few ⊢
    omega

/-- One word of the last segment is another. -/
theorem rowS_set (pre : List Seg) (s : Seg) (t : Int) : (rowS (pre ++ [s])).set (pre.length * 4 + 1) (.int .i64 t) = rowS (pre ++ [⟨s.f, t, s.r, s.c⟩]) := by
  induction pre with
  | nil => rfl
  | cons x pre ih =>
    rw [show (x :: pre).length * 4 + 1 = (pre.length * 4 + 1) + 1 + 1 + 1 + 1 by simp; omega]
    simp [rowS, ih]
end Go.Proofs.Ytphgkgpkallgeaa
