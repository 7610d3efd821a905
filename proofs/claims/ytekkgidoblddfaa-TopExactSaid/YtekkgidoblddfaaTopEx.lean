/- Sums of products: plain numbers, and rows of wide numbers. -/
import Derived.Laws.OwnMore
import Derived.Maps.AppendAt
import Derived.RangeFuncBox
import Derived.Test.YtekkgidoblddfaaKit
import Derived.Test.YtekkgidoblddfaaMath
import Derived.Test.YtekkgidoblddfaaProg
namespace Go.Proofs.Ytekkgidoblddfaa
open Go.RowKit Go.Sort
set_option linter.unusedVariables false

/-- The words of some wide numbers, one behind the other. -/
def rowW : List Int → List Value
  | [] => []
  | z :: l => .int .i64 (hi z) :: .int .u64 (lo z) :: rowW l
theorem rowW_snoc (l : List Int) (z : Int) : rowW (l ++ [z]) = rowW l ++ [.int .i64 (hi z), .int .u64 (lo z)] := by
  induction l with
  | nil => rfl
  | cons x l ih => simp [rowW, ih]
theorem rowW_len (l : List Int) : (rowW l).length = l.length * 2 := by
  induction l with
  | nil => rfl
  | cons s l ih => simp [rowW, ih]; omega
theorem rowW_at (l : List Int) : ∀ (k : Nat) (h : k < l.length), (rowW l)[k * 2]? = some (.int .i64 (hi l[k])) ∧ (rowW l)[k * 2 + 1]? = some (.int .u64 (lo l[k])) := by
  induction l with
  | nil => intro k h; simp at h
  | cons x l ih =>
    intro k h
    cases k with
    | zero => simp [rowW]
    | succ k =>
      have := ih k (by simpa using h)
      rw [show (k + 1) * 2 = k * 2 + 1 + 1 by omega]
      simpa [rowW] using this
theorem rowW_set (l : List Int) (z : Int) : ∀ (k : Nat), k < l.length → ((rowW l).set (k * 2) (.int .i64 (hi z))).set (k * 2 + 1) (.int .u64 (lo z)) = rowW (l.set k z) := by
  induction l with
  | nil => intro k h; simp at h
  | cons x l ih =>
    intro k h
    cases k with
    | zero => simp [rowW]
    | succ k =>
      have := ih k (by simpa using h)
      rw [show (k + 1) * 2 = k * 2 + 1 + 1 by omega]
      simpa [rowW] using this

theorem sum_set (l : List Int) (z : Int) : ∀ (k : Nat) (h : k < l.length), (l.set k z).sum = l.sum - l[k] + z := by
  induction l with
  | nil => intro k h; simp at h
  | cons x l ih =>
    intro k h
    cases k with
    | zero => simp; omega
    | succ k =>
      have := ih k (by simpa using h)
      simp [this]; omega

/-- Two of them change places: the sum stays. -/
theorem sum_swap (l : List Int) (k m : Nat) (hk : k < l.length) (hm : m < l.length) : ((l.set k l[m]).set m l[k]).sum = l.sum := by
  rw [sum_set _ _ m (by simpa using hm), sum_set _ _ k hk]
  have : (l.set k l[m])[m]'(by simpa using hm) = l[m] := by
    rw [List.getElem_set]; split
    · rfl
    · rfl
  rw [this]; omega

theorem sum_take (l : List Int) : ∀ (k : Nat) (h : k < l.length), (l.take (k + 1)).sum = (l.take k).sum + l[k] := by
  induction l with
  | nil => intro k h; simp at h
  | cons x l ih =>
    intro k h
    cases k with
    | zero => simp
    | succ k =>
      have := ih k (by simpa using h)
      simp [this]; omega

theorem cell_two_new (w : World) (a b : Value) (t : TypeId) : ∀ j u, [a, b][j]? = some u → (w.alloc (.cells #[a, b] t)).cell? ((⟨w.heap.size, 0, none⟩ : Addr).add j) = some u := by
  intro j u hj
  match j, hj with
  | 0, hj => simp at hj; subst hj; simp [Addr.add]
  | 1, hj => simp at hj; subst hj; simp [Addr.add]

/-- Two slices that don't lie in one row. -/
def ApartV (a b : Value) : Prop := ∀ g, a.ownBlock = some g → b.ownBlock ≠ some g
theorem ApartV.of_none {b : Value} : ApartV (.slice none 0 0) b := fun g h => by simp [Value.ownBlock] at h

theorem row_kept {W W' : World} {base k : Nat} {e : TypeId} {size : Nat} {v : Value} {xs : List Value} {row : Option Nat} (h : W.ownsRow base e size v k xs) (hg : W.grownBy W' row) (hne : ∀ g, v.ownBlock = some g → row ≠ some g) : W'.ownsRow base e size v k xs := by
  refine h.kept hg ?_
  cases hb : v.ownBlock with
  | none => exact .inl rfl
  | some g => exact .inr (fun e => hne g hb e.symm)
theorem grownBy_below {W W' : World} (h : Below W.heap.size W W') (row : Option Nat) : W.grownBy W' row := ⟨h.os, h.tape, h.output, h.size, fun k hk _ => h.block k hk⟩

theorem infoWide : (Try.prog.info? 24).map (fun i => (i.zero, i.size, i.bytes)) = some (some (.agg #[.int .i64 0, .int .u64 0]), 2, 16) := by kernel_rfl

/-- A row's cells, by the slice that shows them. -/
theorem row_cells {W : World} {base k : Nat} {e : TypeId} {size : Nat} {v : Value} {xs : List Value} (h : W.ownsRow base e size v k xs) :
    ∃ bs cap, v = .slice bs k cap ∧ ∀ (j : Nat) (u : Value), xs[j]? = some u → ∃ g, bs = some ⟨g, 0, none⟩ ∧ base ≤ g ∧ g < W.heap.size ∧ W.cell? ⟨g, j, none⟩ = some u := by
  obtain ⟨hl, ⟨rfl, h0⟩ | ⟨g, cap, cur, rfl, h1, h2, h3, h4, h5, h6⟩⟩ := h
  · refine ⟨none, 0, by rw [h0], fun j u hj => ?_⟩
    have hn : xs = [] := List.length_eq_zero_iff.1 (by rw [hl, h0]; omega)
    rw [hn] at hj; simp at hj
  · refine ⟨_, cap, rfl, fun j u hj => ⟨g, rfl, h1, (Array.getElem?_eq_some_iff.1 h2).1, ?_⟩⟩
    have hj' : j < xs.length := (List.getElem?_eq_some_iff.1 hj).1
    have := World.ownsRow.cellAt ⟨hl, .inr ⟨g, cap, cur, rfl, h1, h2, h3, h4, h5, h6⟩⟩ j (by omega)
    rw [this, hj]

/-- A slice of int64 that may be read: its i-th element is f i. -/
def Rd (w : World) (a : Option Addr) (n : Nat) (f : Nat → Int) : Prop := ∀ i, i < n → ∃ b, a = some b ∧ b.block < w.heap.size ∧ w.cell? (b.add i) = some (.int .i64 (f i)) ∧ -9223372036854775808 ≤ f i ∧ f i ≤ 9223372036854775807
/-- A slice of bytes that may be read. -/
def Rd8 (w : World) (a : Option Addr) (n : Nat) (f : Nat → Int) : Prop := ∀ i, i < n → ∃ b, a = some b ∧ b.block < w.heap.size ∧ w.cell? (b.add i) = some (.int .u8 (f i)) ∧ 0 ≤ f i ∧ f i ≤ 255
@[go_sem] theorem blk_add (b : Addr) (k : Nat) : (b.add k).block = b.block := by unfold Addr.add; split <;> rfl
/-- The first slice has grown: the other one lies as it lay, in another row. -/
theorem grown_first {W W1 : World} {base e : Nat} {size k k2 m : Nat} {p p' q : Value} {xs ys zs : List Value} {tmp : Obj}
    (hp : W.ownsRow base e size p k xs) (hq : W.ownsRow base e size q k2 ys) (hA : ApartV p q) (hp' : W1.ownsRow base e size p' m zs) (hg : (W.alloc tmp).grownBy W1 p.ownBlock)
    (hat : p'.ownBlock = p.ownBlock ∨ p'.ownBlock = some (W.alloc tmp).heap.size) : W1.ownsRow base e size q k2 ys ∧ ApartV p' q := by
  refine ⟨row_kept (hq.alloc tmp) hg (fun g hq' hp' => hA g hp' hq'), fun g h h2 => ?_⟩
  rcases hat with e | e
  · exact hA g (by rw [← e]; exact h) h2
  · have h3 := (hq.lt g h2).2
    rw [e] at h
    simp at h
    omega
theorem grown_second {W W1 : World} {base e : Nat} {size k k2 m : Nat} {p q q' : Value} {xs ys zs : List Value} {tmp : Obj}
    (hp : W.ownsRow base e size p k xs) (hq : W.ownsRow base e size q k2 ys) (hA : ApartV p q) (hq' : W1.ownsRow base e size q' m zs) (hg : (W.alloc tmp).grownBy W1 q.ownBlock)
    (hat : q'.ownBlock = q.ownBlock ∨ q'.ownBlock = some (W.alloc tmp).heap.size) : W1.ownsRow base e size p k xs ∧ ApartV p q' := by
  refine ⟨row_kept (hp.alloc tmp) hg (fun g hp' hq' => hA g hp' hq'), fun g h h2 => ?_⟩
  rcases hat with e | e
  · exact hA g h (by rw [← e]; exact h2)
  · have h3 := (hp.lt g h).2
    rw [e] at h2
    simp at h2
    omega

/-- A block of cells. -/
def CellsAt (W : World) (B : Nat) (t : TypeId) (cs : Array Value) : Prop := W.heap[B]? = some (.cells cs t (0, 0))
theorem CellsAt.lt {W : World} {B : Nat} {t : TypeId} {cs : Array Value} (h : CellsAt W B t cs) : B < W.heap.size := (Array.getElem?_eq_some_iff.1 h).1
theorem CellsAt.cell {W : World} {B : Nat} {t : TypeId} {cs : Array Value} (h : CellsAt W B t cs) (i : Nat) : W.cell? ⟨B, i, none⟩ = cs[i]? := by
  simp [World.cell?, show W.heap[B]? = _ from h]
theorem CellsAt.frozen {W : World} {B : Nat} {t : TypeId} {cs : Array Value} (h : CellsAt W B t cs) (i : Nat) : W.frozen? ⟨B, i, none⟩ = false := by simp [World.frozen?, show W.heap[B]? = _ from h]
theorem CellsAt.set {W : World} {B : Nat} {t : TypeId} {cs : Array Value} (h : CellsAt W B t cs) (i : Nat) (v : Value) : CellsAt (W.setCell ⟨B, i, none⟩ v) B t (cs.setIfInBounds i v) := by
  obtain ⟨hlt, hk⟩ := Array.getElem?_eq_some_iff.1 h
  show (W.heap.modify B _)[B]? = _
  rw [Array.getElem?_eq_getElem (by rw [Array.size_modify]; exact hlt), Array.getElem_modify_self, hk]
  rfl
theorem CellsAt.kept {W W' : World} {B : Nat} {t : TypeId} {cs : Array Value} (h : CellsAt W B t cs) (hb : W'.heap[B]? = W.heap[B]?) : CellsAt W' B t cs := hb.trans h
theorem cells_other {W : World} {B B' : Nat} {t : TypeId} {cs : Array Value} (h : CellsAt W B t cs) (hne : B ≠ B') (v : Value) (i : Nat) : CellsAt (W.setCell ⟨B', i, none⟩ v) B t cs :=
  (Below.heap_setCell W ⟨B', i, none⟩ v B hne).trans h
/-- Where a region has laid a block. -/
theorem cellsAt_laid (w : World) (d0 d1 : Nat) (o0 o1 : Array Obj) (cs : Array Value) (t : TypeId) :
    CellsAt (grow (redrawn ((grow (redrawn w d0) o0).alloc (.cells cs t)) d1) o1) (w.heap.size + o0.size) t cs ∧ Below w.heap.size w (grow (redrawn ((grow (redrawn w d0) o0).alloc (.cells cs t)) d1) o1) := by
  have hs : (grow (redrawn w d0) o0).heap.size = w.heap.size + o0.size := size_gr w d0 o0
  refine ⟨?_, ?_⟩
  · have h1 := (below_regrown ((grow (redrawn w d0) o0).alloc (.cells cs t)) d1 o1).block (w.heap.size + o0.size) (by simp [hs])
    rw [CellsAt, h1, ← hs]
    exact World.alloc_heap_new _ _
  · refine blg (bla (below_regrown w d0 o0) _) _ _
end Go.Proofs.Ytekkgidoblddfaa
