/- Package octet: what memory holds of a reader and of bytes. -/
import Derived.Laws.OwnMore
import Derived.Maps.AppendAt
import Derived.RangeFuncBox
import Derived.Defers
import Derived.Recover
import Derived.Test.YtfaddlpemhifpaaKit
import Derived.Test.YtfaddlpemhifpaaTail
import Derived.Test.YtfaddlpemhifpaaProg
namespace Go.Proofs.Ytfaddlpemhifpaa
open Go.RowKit Go.Sort
set_option linter.unusedVariables false

/-- A block of cells. -/
def CellsAt (W : World) (B : Nat) (t : TypeId) (cs : Array Value) : Prop := W.heap[B]? = some (.cells cs t (0, 0))
theorem CellsAt.lt {W : World} {B : Nat} {t : TypeId} {cs : Array Value} (h : CellsAt W B t cs) : B < W.heap.size := (Array.getElem?_eq_some_iff.1 h).1
theorem CellsAt.cell {W : World} {B : Nat} {t : TypeId} {cs : Array Value} (h : CellsAt W B t cs) (i : Nat) : W.cell? ⟨B, i, none⟩ = cs[i]? := by
  simp [World.cell?, show W.heap[B]? = _ from h]
theorem CellsAt.frozen {W : World} {B : Nat} {t : TypeId} {cs : Array Value} (h : CellsAt W B t cs) (i : Nat) : W.frozen? ⟨B, i, none⟩ = false := by simp [World.frozen?, show W.heap[B]? = _ from h]
theorem CellsAt.set {W : World} {B : Nat} {t : TypeId} {cs : Array Value} (h : CellsAt W B t cs) (i : Nat) (v : Value) : CellsAt (W.setCell ⟨B, i, none⟩ v) B t (cs.setIfInBounds i v) := by
  obtain ⟨hlt, hk⟩ := Array.getElem?_eq_some_iff.1 h
  show (W.heap.modify B _)[B]? = _
  rw [Array.getElem?_eq_getElem (by rw [Array.size_modify]; exact hlt), Array.getElem_modify_self, hk]
  rfl
theorem CellsAt.kept {W W' : World} {B : Nat} {t : TypeId} {cs : Array Value} (h : CellsAt W B t cs) (hb : W'.heap[B]? = W.heap[B]?) : CellsAt W' B t cs := hb.trans h
theorem CellsAt.below {W W' : World} {B : Nat} {t : TypeId} {cs : Array Value} (h : CellsAt W B t cs) (hb : Below W.heap.size W W') : CellsAt W' B t cs := h.kept (hb.block B h.lt)
theorem CellsAt.grown {W W' : World} {B : Nat} {t : TypeId} {cs : Array Value} {row : Option Nat} (h : CellsAt W B t cs) (hg : W.grownBy W' row) (hne : some B ≠ row) : CellsAt W' B t cs := h.kept (hg.block B h.lt hne)
theorem cells_other {W : World} {B B' : Nat} {t : TypeId} {cs : Array Value} (h : CellsAt W B t cs) (hne : B ≠ B') (v : Value) (i : Nat) : CellsAt (W.setCell ⟨B', i, none⟩ v) B t cs :=
  (Below.heap_setCell W ⟨B', i, none⟩ v B hne).trans h

/-- A slice of bytes that may be read: its i-th element is f i. -/
def Rd8 (w : World) (a : Option Addr) (n : Nat) (f : Nat → Int) : Prop := ∀ i, i < n → ∃ b, a = some b ∧ b.block < w.heap.size ∧ w.cell? (b.add i) = some (.int .u8 (f i)) ∧ 0 ≤ f i ∧ f i ≤ 255
@[go_sem] theorem blk_add (b : Addr) (k : Nat) : (b.add k).block = b.block := by unfold Addr.add; split <;> rfl
theorem grownBy_of_below {w w' : World} (h : Below w.heap.size w w') (row : Option Nat) : w.grownBy w' row := ⟨h.os, h.tape, h.output, h.size, fun k hk _ => h.block k hk⟩
theorem Rd8.grown {W W' : World} {a : Option Addr} {n : Nat} {f : Nat → Int} {row : Option Nat} (h : Rd8 W a n f) (hg : W.grownBy W' row) (hne : ∀ b, a = some b → some b.block ≠ row) : Rd8 W' a n f := by
  intro i hi
  obtain ⟨b, hb, h1, h2, h3⟩ := h i hi
  refine ⟨b, hb, Nat.lt_of_lt_of_le h1 hg.size, ?_, h3⟩
  rw [← h2]
  have := hg.block b.block h1 (hne b hb)
  unfold World.cell?
  rw [blk_add, this]
theorem Rd8.cut {W : World} {a : Option Addr} {n p k : Nat} {f : Nat → Int} (h : Rd8 W a n f) (hp : p + k ≤ n) : Rd8 W (Option.map (fun x => x.add p) a) k (fun i => f (p + i)) := by
  intro i hi
  obtain ⟨b, rfl, h1, h2, h3⟩ := h (p + i) (by omega)
  refine ⟨b.add p, rfl, by rw [blk_add]; exact h1, ?_, h3⟩
  rw [← h2]
  congr 1
  unfold Addr.add
  by_cases h4 : p = 0 <;> by_cases h5 : i = 0 <;> simp [h4, h5]
  omega
/-- A row of bytes may be read. -/
theorem row_rd8 {W : World} {base k : Nat} {e : TypeId} {v : Value} {xs : List Value} {f : Nat → Int} (h : W.ownsRow base e 1 v k xs) (hx : ∀ i, i < k → xs[i]? = some (.int .u8 (f i))) (hf : ∀ i, i < k → 0 ≤ f i ∧ f i ≤ 255) :
    ∃ a c, v = .slice a k c ∧ k ≤ c ∧ Rd8 W a k f ∧ (∀ b, a = some b → base ≤ b.block ∧ b.block < W.heap.size) ∧ (a = none → c = 0 ∧ k = 0) := by
  obtain ⟨hl, ⟨rfl, h0⟩ | ⟨g, cap, cur, rfl, h1, h2, h3, h4, h5, h6⟩⟩ := h
  · subst h0
    refine ⟨none, 0, rfl, Nat.le_refl _, ?_, ?_, ?_⟩
    · intro i hi; exact absurd hi (Nat.not_lt_zero _)
    · intro b hb; cases hb
    · intro _; exact ⟨rfl, rfl⟩
  · refine ⟨_, cap, rfl, h3, ?_, ?_, ?_⟩
    · intro i hi
      refine ⟨_, rfl, (Array.getElem?_eq_some_iff.1 h2).1, ?_, hf i hi⟩
      have := World.ownsRow.cellAt ⟨hl, .inr ⟨g, cap, cur, rfl, h1, h2, h3, h4, h5, h6⟩⟩ i (by omega)
      have e : ((⟨g, 0, none⟩ : Addr).add i) = ⟨g, i, none⟩ := by unfold Addr.add; split <;> simp_all
      rw [e, this, hx i hi]
    · intro b hb; cases hb; exact ⟨h1, (Array.getElem?_eq_some_iff.1 h2).1⟩
    · intro hh; cases hh
theorem grownBy_setCell'' (W : World) (b i : Nat) (v : Value) : W.grownBy (W.setCell ⟨b, i, none⟩ v) (some b) :=
  ⟨rfl, rfl, rfl, (KeepsWalks.setCell W _ v).size, fun k _ hk => Below.heap_setCell _ _ _ k (fun e => hk (by rw [e]))⟩
theorem grownBy_trans {A B C : World} {r : Option Nat} (h : A.grownBy B r) (k : B.grownBy C r) : A.grownBy C r :=
  ⟨k.os.trans h.os, k.tape.trans h.tape, k.output.trans h.output, Nat.le_trans h.size k.size, fun i hi hr => (k.block i (Nat.lt_of_lt_of_le hi h.size) hr).trans (h.block i hi hr)⟩
theorem grownBy_none {A B : World} {r : Option Nat} (h : A.grownBy B none) : A.grownBy B r := ⟨h.os, h.tape, h.output, h.size, fun i hi _ => h.block i hi (by simp)⟩
theorem below_of_grownBy {A B : World} {n r : Nat} (h : A.grownBy B (some r)) (hn : n ≤ A.heap.size) (hr : n ≤ r) : Below n A B := ⟨h.os, h.tape, h.output, h.size, fun k hk => h.block k (by omega) (by simp; omega)⟩
theorem below_of_grownNone {A B : World} (h : A.grownBy B none) : Below A.heap.size A B := ⟨h.os, h.tape, h.output, h.size, fun k hk => h.block k hk (by simp)⟩
end Go.Proofs.Ytfaddlpemhifpaa
