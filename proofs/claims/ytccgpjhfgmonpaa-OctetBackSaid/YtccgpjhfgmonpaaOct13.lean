/- Package octet: two readers side by side. -/
import Derived.Test.YtccgpjhfgmonpaaOct12
namespace Go.Proofs.Ytccgpjhfgmonpaa
open Go.RowKit Go.Sort
set_option linter.unusedVariables false

/-- Of what was there nothing has turned but two blocks. -/
structure Keep2 (R S : Nat) (A B : World) : Prop where
  os : B.os = A.os
  tape : B.tape = A.tape
  output : B.output = A.output
  size : A.heap.size ≤ B.heap.size
  block : ∀ k, k < A.heap.size → k ≠ R → k ≠ S → B.heap[k]? = A.heap[k]?
theorem Keep2.left {R S : Nat} {A B : World} (h : A.grownBy B (some R)) : Keep2 R S A B := ⟨h.os, h.tape, h.output, h.size, fun k hk h1 _ => h.block k hk (by simp [h1])⟩
theorem Keep2.right {R S : Nat} {A B : World} (h : A.grownBy B (some S)) : Keep2 R S A B := ⟨h.os, h.tape, h.output, h.size, fun k hk _ h1 => h.block k hk (by simp [h1])⟩
theorem Keep2.of {R S : Nat} {A B : World} (h : Below A.heap.size A B) : Keep2 R S A B := ⟨h.os, h.tape, h.output, h.size, fun k hk _ _ => h.block k hk⟩
theorem Keep2.trans {R S : Nat} {A B C : World} (h : Keep2 R S A B) (k : Keep2 R S B C) : Keep2 R S A C :=
  ⟨k.os.trans h.os, k.tape.trans h.tape, k.output.trans h.output, Nat.le_trans h.size k.size, fun i hi h1 h2 => (k.block i (Nat.lt_of_lt_of_le hi h.size) h1 h2).trans (h.block i hi h1 h2)⟩
theorem Keep2.below {R S n : Nat} {A B : World} (h : Keep2 R S A B) (hn : n ≤ A.heap.size) (hR : n ≤ R) (hS : n ≤ S) : Below n A B := ⟨h.os, h.tape, h.output, h.size, fun k hk => h.block k (by omega) (by omega) (by omega)⟩
theorem Keep2.rd8 {R S : Nat} {A B : World} {a : Option Addr} {n : Nat} {f : Nat → Int} (h : Keep2 R S A B) (hr : Rd8 A a n f) (h1 : ∀ b, a = some b → b.block ≠ R ∧ b.block ≠ S) : Rd8 B a n f := by
  intro i hi
  obtain ⟨b, hb, h2, h3, h4⟩ := hr i hi
  refine ⟨b, hb, Nat.lt_of_lt_of_le h2 h.size, ?_, h4⟩
  rw [← h3]
  have := h.block b.block h2 (h1 b hb).1 (h1 b hb).2
  unfold World.cell?
  rw [blk_add, this]
theorem CellsAt.keep2 {R S : Nat} {A B : World} {k : Nat} {t : TypeId} {cs : Array Value} (h : CellsAt A k t cs) (hk : Keep2 R S A B) (h1 : k ≠ R) (h2 : k ≠ S) : CellsAt B k t cs := h.kept (hk.block k h.lt h1 h2)

def leftV (e : Int) (m p : Nat) : Int := if e = 0 then (m : Int) - p else 0
def endV (e : Int) (m p : Nat) : Bool := decide (e = 0 ∧ p = m)
def fE (e e2 : Int) : Int := if e = 0 then e2 else e
def fF (e fa e2 f2 : Int) : Int := if e = 0 ∧ ¬ e2 = 0 then f2 else fa

theorem oLeft_any (R : Nat) (a : Option Addr) (m c p : Nat) (e fa : Int) (w : World) (hR : CellsAt w R 55 (rdr (.slice a m c) p e fa)) (hm : m ≤ 100000) (hp : p ≤ m) :
    Calls Try.prog 17 #[.pointer (some ⟨R, 0, none⟩)] w fun x w' => x = .returned (.int .i64 (leftV e m p)) ∧ Below w.heap.size w w' := by
  by_cases he : e = 0
  · subst he
    rw [show leftV 0 m p = (m : Int) - p by unfold leftV; rw [if_pos rfl]]
    exact oLeft_no R a m c p fa w hR hm hp
  · rw [show leftV e m p = 0 by unfold leftV; rw [if_neg he]]
    exact oLeft_yes R _ p e fa w hR he

theorem oEnd_any (R : Nat) (a : Option Addr) (m c p : Nat) (e fa : Int) (w : World) (hR : CellsAt w R 55 (rdr (.slice a m c) p e fa)) :
    Calls Try.prog 18 #[.pointer (some ⟨R, 0, none⟩)] w fun x w' => x = .returned (.bool (endV e m p)) ∧ Below w.heap.size w w' := by
  by_cases he : e = 0
  · subst he
    exact oEnd_no R a m c p fa w hR _ (by unfold endV; simp)
  · rw [show endV e m p = false by unfold endV; simp [he]]
    exact oEnd_yes R _ p e fa w hR he

theorem oFail_any (R : Nat) (v : Value) (p : Nat) (e fa e2 f2 : Int) (w : World) (hR : CellsAt w R 55 (rdr v p e fa)) :
    Calls Try.prog 11 #[.pointer (some ⟨R, 0, none⟩), .int .i64 e2, .int .i64 f2] w fun x w' => x = .returned (.tuple #[]) ∧ CellsAt w' R 55 (rdr v p (fE e e2) (fF e fa e2 f2)) ∧ w.grownBy w' (some R) := by
  by_cases he : e = 0 ∧ ¬ e2 = 0
  · obtain ⟨rfl, h2⟩ := he
    rw [show fE 0 e2 = e2 by unfold fE; rw [if_pos rfl], show fF 0 fa e2 f2 = f2 by unfold fF; rw [if_pos ⟨rfl, h2⟩]]
    exact oFail_so R v p fa e2 f2 w hR h2
  · rw [show fE e e2 = e by unfold fE; split <;> omega, show fF e fa e2 f2 = fa by unfold fF; rw [if_neg he]]
    exact (oFail_not R v p e fa e2 f2 w hR he).mono fun x w' ⟨h1, h2⟩ => ⟨h1, hR.below h2, grownBy_of_below h2 _⟩

theorem rLeft_any (R : Nat) (a : Option Addr) (m c p : Nat) (e fa : Int) (w : World) (hR : CellsAt w R 57 (rdr (.slice a m c) p e fa)) (hm : m ≤ 100000) (hp : p ≤ m) :
    Calls Try.prog 35 #[.pointer (some ⟨R, 0, none⟩)] w fun x w' => x = .returned (.int .i64 (leftV e m p)) ∧ Below w.heap.size w w' := by
  by_cases he : e = 0
  · subst he
    rw [show leftV 0 m p = (m : Int) - p by unfold leftV; rw [if_pos rfl]]
    exact rLeft_no R a m c p fa w hR hm hp
  · rw [show leftV e m p = 0 by unfold leftV; rw [if_neg he]]
    exact rLeft_yes R _ p e fa w hR he

theorem rEnd_any (R : Nat) (a : Option Addr) (m c p : Nat) (e fa : Int) (w : World) (hR : CellsAt w R 57 (rdr (.slice a m c) p e fa)) :
    Calls Try.prog 33 #[.pointer (some ⟨R, 0, none⟩)] w fun x w' => x = .returned (.bool (endV e m p)) ∧ Below w.heap.size w w' := by
  by_cases he : e = 0
  · subst he
    exact rEnd_no R a m c p fa w hR _ (by unfold endV; simp)
  · rw [show endV e m p = false by unfold endV; simp [he]]
    exact rEnd_yes R _ p e fa w hR he

theorem rFail_any (R : Nat) (v : Value) (p : Nat) (e fa e2 f2 : Int) (w : World) (hR : CellsAt w R 57 (rdr v p e fa)) :
    Calls Try.prog 32 #[.pointer (some ⟨R, 0, none⟩), .int .i64 e2, .int .i64 f2] w fun x w' => x = .returned (.tuple #[]) ∧ CellsAt w' R 57 (rdr v p (fE e e2) (fF e fa e2 f2)) ∧ w.grownBy w' (some R) := by
  by_cases he : e = 0 ∧ ¬ e2 = 0
  · obtain ⟨rfl, h2⟩ := he
    rw [show fE 0 e2 = e2 by unfold fE; rw [if_pos rfl], show fF 0 fa e2 f2 = f2 by unfold fF; rw [if_pos ⟨rfl, h2⟩]]
    exact rFail_so R v p fa e2 f2 w hR h2
  · rw [show fE e e2 = e by unfold fE; split <;> omega, show fF e fa e2 f2 = fa by unfold fF; rw [if_neg he]]
    exact (rFail_not R v p e fa e2 f2 w hR he).mono fun x w' ⟨h1, h2⟩ => ⟨h1, hR.below h2, grownBy_of_below h2 _⟩
end Go.Proofs.Ytccgpjhfgmonpaa
