/- What a call of another function leaves as it was: the cells of old blocks, in every world that has grown. No program is named here. -/
import Derived.WalkKit
import Derived.BigQuiet
import Derived.Lib.QuietBelow
import Derived.WalkSpells
import Derived.WalkLawsBesides
import Derived.IntWalk
import Derived.Lib.Hide
import Derived.Outline
namespace Go.Proofs.Ytfaddlpemhifpaa
open Go.RowKit Go.Sort

/-- There is such a block. (A word of its own: its laws are equations, so that simp asks no chain of premises.) -/
def Has (w : World) (b : Nat) : Prop := b < w.heap.size
def Rest (w : World) (os : Array Obj) (b : Nat) : Prop := w.heap.size ≤ b ∧ b < w.heap.size + os.size
theorem Has.of {w : World} {b : Nat} (h : b < w.heap.size) : Has w b := h
@[go_sem] theorem has_alloc (w : World) (o : Obj) (b : Nat) : Has (w.alloc o) b = (b = w.heap.size ∨ Has w b) := by
  unfold Has; simp; omega
@[go_sem] theorem has_grow (w : World) (d : Nat) (os : Array Obj) (b : Nat) : Has (grow (redrawn w d) os) b = (Has w b ∨ Rest w os b) := by
  unfold Has Rest; simp [grow, redrawn]; omega
@[go_sem] theorem has_setCell (w : World) (a : Addr) (v : Value) (b : Nat) : Has (w.setCell a v) b = Has w b := by
  unfold Has; simp [World.setCell]
@[go_sem] theorem has_drew (w : World) (b : Nat) : Has w.drew b = Has w b := rfl

@[go_sem] theorem cell_gr {w : World} {d : Nat} {os : Array Obj} {a : Addr} (h : Has w a.block) : (grow (redrawn w d) os).cell? a = w.cell? a :=
  (below_regrown w d os).cell h
@[go_sem] theorem frozen_gr {w : World} {d : Nat} {os : Array Obj} {a : Addr} (h : Has w a.block) : (grow (redrawn w d) os).frozen? a = w.frozen? a :=
  (below_regrown w d os).frozen h

@[go_sem] theorem cell_al {w : World} {o : Obj} {a : Addr} (h : Has w a.block) : (w.alloc o).cell? a = w.cell? a :=
  ((Below.refl w.heap.size w).alloc (Nat.le_refl _) o).cell h
@[go_sem] theorem frozen_al {w : World} {o : Obj} {a : Addr} (h : Has w a.block) : (w.alloc o).frozen? a = w.frozen? a :=
  ((Below.refl w.heap.size w).alloc (Nat.le_refl _) o).frozen h
@[go_sem] theorem setCell_al {w : World} {o : Obj} {a : Addr} {v : Value} (h : Has w a.block) : (w.alloc o).setCell a v = (w.setCell a v).alloc o := by
  unfold Has at h
  simp only [World.setCell, World.alloc]
  congr 1
  apply Array.ext_getElem?
  intro k
  simp only [Array.getElem?_modify, Array.getElem?_push, Array.size_modify]
  by_cases hk : k = w.heap.size
  · subst hk; simp; omega
  · simp [hk]

@[go_sem] theorem ite_ok {α : Type} (p : Prop) [Decidable p] (x y : α) (w : World) : (if p then Result.ok x w else Result.ok y w) = Result.ok (if p then x else y) w := by
  split <;> rfl
@[go_sem] theorem ite_value (p : Prop) [Decidable p] (x y : Value) : (if p then Next.value x else Next.value y) = Next.value (if p then x else y) := by
  split <;> rfl
theorem bl1 (w : World) (a : Obj) : Below w.heap.size w (w.alloc a) := (Below.refl _ _).alloc (Nat.le_refl _) _
theorem bl2 (w : World) (a b : Obj) : Below w.heap.size w ((w.alloc a).alloc b) := (bl1 w a).alloc (by simp) _
theorem bl3 (w : World) (a b c : Obj) : Below w.heap.size w (((w.alloc a).alloc b).alloc c) := (bl2 w a b).alloc (by simp; omega) _
theorem bl4 (w : World) (a b c d : Obj) : Below w.heap.size w ((((w.alloc a).alloc b).alloc c).alloc d) := (bl3 w a b c).alloc (by simp; omega) _
theorem blg {w w1 : World} (h : Below w.heap.size w w1) (d : Nat) (os : Array Obj) : Below w.heap.size w (grow (redrawn w1 d) os) :=
  h.trans ((below_regrown w1 d os).mono h.size)

theorem grow_grow (w : World) (a b : Array Obj) : grow (grow w a) b = grow w (a ++ b) := by simp [grow, Array.append_assoc]
@[go_sem] theorem gr_gr (w : World) (d d2 : Nat) (os os2 : Array Obj) : grow (redrawn (grow (redrawn w d) os) d2) os2 = grow (redrawn w d2) (os ++ os2) := by
  simp [grow, redrawn, Array.append_assoc]
@[go_sem] theorem size_gr (w : World) (d : Nat) (os : Array Obj) : (grow (redrawn w d) os).heap.size = w.heap.size + os.size := by simp [grow, redrawn]
@[go_sem] theorem setCell_gr {w : World} {d : Nat} {os : Array Obj} {a : Addr} {v : Value} (h : Has w a.block) : (grow (redrawn w d) os).setCell a v = grow (redrawn (w.setCell a v) d) os := by
  unfold Has at h
  simp only [grow, redrawn, World.setCell]
  congr 1
  apply Array.ext_getElem?
  intro k
  rw [Array.getElem?_modify]
  by_cases hk : k < w.heap.size
  · rw [Array.getElem?_append_left hk, Array.getElem?_append_left (by simpa using hk), Array.getElem?_modify]
  · rw [if_neg (by omega), Array.getElem?_append_right (by omega), Array.getElem?_append_right (by simpa using by omega)]
    simp
@[go_sem] theorem heap_redrawn (w : World) (d : Nat) : (redrawn w d).heap = w.heap := rfl
theorem bla {w w1 : World} (h : Below w.heap.size w w1) (o : Obj) : Below w.heap.size w (w1.alloc o) := h.alloc h.size o
theorem bls {w w1 : World} (h : Below w.heap.size w w1) {p : Addr} (hp : w.heap.size ≤ p.block) (v : Value) : Below w.heap.size w (w1.setCell p v) := h.setCell hp v
theorem bld {w w1 : World} (h : Below w.heap.size w w1) : Below w.heap.size w w1.drew := h.drew
@[go_sem] theorem sg_u64 : IntKind.u64.signed = false := rfl
@[go_sem] theorem sg_i64 : IntKind.i64.signed = true := rfl
@[go_sem] theorem sg_u8 : IntKind.u8.signed = false := rfl
@[go_sem] theorem sg_u32 : IntKind.u32.signed = false := rfl
theorem gr_start (w : World) : w = grow (redrawn w w.drawn) #[] := by simp [grow, redrawn]
theorem blr (w : World) (d : Nat) (os : Array Obj) : Below w.heap.size w (grow (redrawn w d) os) := below_regrown w d os
end Go.Proofs.Ytfaddlpemhifpaa
