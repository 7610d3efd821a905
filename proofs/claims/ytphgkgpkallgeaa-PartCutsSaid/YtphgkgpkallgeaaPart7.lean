/- Package part: what lies between two cuts, one behind the other: plain numbers. -/
import Derived.Test.YtphgkgpkallgeaaPart4
import Derived.Test.YtphgkgpkallgeaaPart5
namespace Go.Proofs.Ytphgkgpkallgeaa
open Go.RowKit Go.Sort
set_option linter.unusedVariables false

/-- What lies between two cuts: where it begins and ends, in which row, in which column. -/
structure Seg where
  f : Int
  t : Int
  r : Int
  c : Int

/-- As the program lays it down. -/
@[go_sem] abbrev encS (s : Seg) : Value := .agg #[.int .i64 s.f, .int .i64 s.t, .int .i64 s.r, .int .i64 s.c]

theorem ofFrom_at (n k a : Int) (h : mayB n k = true) (hn : a < n) : ∀ (f : Nat) (j : Int), 0 ≤ j → j + f = k → lowV n k j ≤ a →
    j ≤ ofFrom n k a f j ∧ ofFrom n k a f j < k ∧ lowV n k (ofFrom n k a f j) ≤ a ∧ a < lowV n k (ofFrom n k a f j + 1) := by
  intro f
  induction f with
  | zero =>
    intro j h0 hj hl
    rw [show j = k by omega, low_full n k h] at hl
    omega
  | succ f ih =>
    intro j h0 hj hl
    unfold ofFrom
    by_cases e : a < lowV n k (j + 1)
    · rw [if_pos e]; omega
    · rw [if_neg e]
      have := ih (j + 1) (by omega) (by omega) (by omega)
      omega

/-- A number's part: where it begins and ends. -/
theorem of_at (n k a : Int) (h : mayB n k = true) (h0 : 0 ≤ a) (hn : a < n) :
    0 ≤ ofV n k a ∧ ofV n k a < k ∧ lowV n k (ofV n k a) ≤ a ∧ a < lowV n k (ofV n k a + 1) := by
  have hm := may_un h
  unfold ofV
  rw [if_pos ⟨h, h0, hn⟩]
  exact ofFrom_at n k a h hn k.toNat 0 (by omega) (by omega) (by rw [low_zero n k h]; exact h0)

/-- Where what lies between two cuts ends. -/
def nextV (n r c a : Int) : Int := min (lowV n r (ofV n r a + 1)) (lowV n c (ofV n c a + 1))

theorem next_in (n r c a : Int) (hr : mayB n r = true) (hc : mayB n c = true) (h0 : 0 ≤ a) (hn : a < n) : a < nextV n r c a ∧ nextV n r c a ≤ n := by
  have h1 := of_at n r a hr h0 hn
  have h2 := of_at n c a hc h0 hn
  have h3 := low_le n r (ofV n r a + 1) hr
  unfold nextV
  omega

def segs (n r c : Int) : Nat → Int → List Seg
  | 0, _ => []
  | f + 1, a => if a < n then ⟨a, nextV n r c a, ofV n r a, ofV n c a⟩ :: segs n r c f (nextV n r c a) else []
def segsV (n r c : Int) : List Seg := if mayB n r = true ∧ mayB n c = true then segs n r c n.toNat 0 else []

theorem segs_len (n r c : Int) : ∀ (f : Nat) (a : Int), (segs n r c f a).length ≤ f := by
  intro f
  induction f with
  | zero => intro a; simp [segs]
  | succ f ih =>
    intro a
    unfold segs
    split
    · have := ih (nextV n r c a)
      simp; omega
    · simp
end Go.Proofs.Ytphgkgpkallgeaa
