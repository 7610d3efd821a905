/- Texts of a claim, joined. -/
import Derived.Test.YtcnfdbkolbgbcaaZC8
import Derived.WalkKit
import Derived.BigQuiet
import Derived.Lib.QuietBelow
import Derived.WalkSpells
import Derived.WalkLawsBesides
import Derived.IntWalk
import Derived.Lib.Hide
import Derived.Outline
import Derived.StillTail
import Derived.Laws.OwnMore
import Derived.Maps.AppendAt
import Derived.RangeFuncBox
import Derived.Defers
import Derived.Recover
import Derived.Test.YtcnfdbkolbgbcaaProg
import Derived.KernelRfl
import Derived.Test.YtcnfdbkolbgbcaaZC4
import Derived.Shelf.SlSortCmp.WholeK
import Derived.Laws.AppendOwnNone
import Derived.Maps.RangeWalk
import Derived.Maps.Ext
import Derived.WideKeyArr
set_option linter.unusedVariables false
set_option linter.unusedSimpArgs false
section
namespace Go.Proofs.Ytcnfdbkolbgbcaa
namespace Ev
namespace K
open Go Go.RowKit
set_option linter.unusedVariables false
set_option linter.unusedSimpArgs false
set_option maxRecDepth 100000
set_option maxHeartbeats 1000000
def wide_Of_A : AnnK := []
noncomputable def wide_Of_G : KG := ⟨TT, EQS, [], []⟩
noncomputable def wide_Of : vals [(false, .I .i64)] → Option (OutK.val (.data true [yD3])) := funK wide_Of_G wide_Of_A fi56 56 0 [(false, .I .i64)] (.data true [yD3])
noncomputable def wide_Of_E : Entry := ⟨56, [(false, .I .i64)], .data true [yD3], wide_Of, 1⟩
def wide_Compare_A : AnnK := []
noncomputable def wide_Compare_G : KG := ⟨TT, EQS, [], []⟩
noncomputable def wide_Compare : vals [yD3, yD3] → Option (OutK.val (.data true [(false, .I .i64)])) := funK wide_Compare_G wide_Compare_A fi100 100 0 [yD3, yD3] (.data true [(false, .I .i64)])
noncomputable def wide_Compare_E : Entry := ⟨100, [yD3, yD3], .data true [(false, .I .i64)], wide_Compare, 1⟩
def ring_lesser_A : AnnK := []
noncomputable def ring_lesser_G : KG := ⟨TT, EQS, [wide_Compare_E], []⟩
noncomputable def ring_lesser : vals [yD3, yD3] → Option (OutK.val (.data true [yD3])) := funK ring_lesser_G ring_lesser_A fi86 86 0 [yD3, yD3] (.data true [yD3])
noncomputable def ring_lesser_E : Entry := ⟨86, [yD3, yD3], .data true [yD3], ring_lesser, 2⟩
def ring_truth_A : AnnK := []
noncomputable def ring_truth_G : KG := ⟨TT, EQS, [wide_Of_E], []⟩
noncomputable def ring_truth : vals [(false, .B)] → Option (OutK.val (.data true [yD3])) := funK ring_truth_G ring_truth_A fi87 87 0 [(false, .B)] (.data true [yD3])
noncomputable def ring_truth_E : Entry := ⟨87, [(false, .B)], .data true [yD3], ring_truth, 2⟩
def wide_Add_A : AnnK := []
noncomputable def wide_Add_G : KG := ⟨TT, EQS, [], []⟩
noncomputable def wide_Add : vals [yD3, yD3] → Option (OutK.val (.data true [yD3])) := funK wide_Add_G wide_Add_A fi88 88 0 [yD3, yD3] (.data true [yD3])
noncomputable def wide_Add_E : Entry := ⟨88, [yD3, yD3], .data true [yD3], wide_Add, 1⟩
def ring_Add_A : AnnK := [(55, ⟨[⟨true, 2, 9, [4, 5, 6, 7], ⟨[], [], []⟩, [(.normal, ⟨[(8, false, [.d true .B])], [], []⟩)]⟩], []⟩)]
noncomputable def ring_Add_G : KG := ⟨TT, EQS, [ring_lesser_E, ring_truth_E, wide_Add_E], []⟩
noncomputable def ring_Add : vals [(false, .I .i64), yD3, yD3] → Option (OutK.val (.data true [yD3])) := funK ring_Add_G ring_Add_A fi55 55 0 [(false, .I .i64), yD3, yD3] (.data true [yD3])
noncomputable def ring_Add_E : Entry := ⟨55, [(false, .I .i64), yD3, yD3], .data true [yD3], ring_Add, 3⟩
def wide_Narrow_A : AnnK := []
noncomputable def wide_Narrow_G : KG := ⟨TT, EQS, [wide_Of_E], []⟩
noncomputable def wide_Narrow : vals [yD3] → Option (OutK.val (.data true [(false, .I .i64), (false, .B)])) := funK wide_Narrow_G wide_Narrow_A fi89 89 0 [yD3] (.data true [(false, .I .i64), (false, .B)])
noncomputable def wide_Narrow_E : Entry := ⟨89, [yD3], .data true [(false, .I .i64), (false, .B)], wide_Narrow, 2⟩
def ring_Narrow_A : AnnK := []
noncomputable def ring_Narrow_G : KG := ⟨TT, EQS, [wide_Narrow_E], []⟩
noncomputable def ring_Narrow : vals [(false, .I .i64), yD3] → Option (OutK.val (.data true [(false, .I .i64), (false, .B)])) := funK ring_Narrow_G ring_Narrow_A fi57 57 0 [(false, .I .i64), yD3] (.data true [(false, .I .i64), (false, .B)])
noncomputable def ring_Narrow_E : Entry := ⟨57, [(false, .I .i64), yD3], .data true [(false, .I .i64), (false, .B)], ring_Narrow, 3⟩
def cmp_Or_int_A : AnnK := [(92, ⟨[⟨false, 3, 0, [3, 6, 7], ⟨[(8, false, [.d true (.I .i64)])], [], []⟩, [(.exit 0, ⟨[], [], []⟩), (.ret, ⟨[(2, false, [.d true (.I .i64)])], [], []⟩)]⟩], []⟩)]
noncomputable def cmp_Or_int_G : KG := ⟨TT, EQS, [], []⟩
noncomputable def cmp_Or_int : vals [(false, .S (.I .i64))] → Option (OutK.val (.data true [(false, .I .i64)])) := funK cmp_Or_int_G cmp_Or_int_A fi92 92 0 [(false, .S (.I .i64))] (.data true [(false, .I .i64)])
noncomputable def cmp_Or_int_E : Entry := ⟨92, [(false, .S (.I .i64))], .data true [(false, .I .i64)], cmp_Or_int, 1⟩
def cmp_isNaN_int_A : AnnK := []
noncomputable def cmp_isNaN_int_G : KG := ⟨TT, EQS, [], []⟩
noncomputable def cmp_isNaN_int : vals [(false, .I .i64)] → Option (OutK.val (.data true [(false, .B)])) := funK cmp_isNaN_int_G cmp_isNaN_int_A fi99 99 0 [(false, .I .i64)] (.data true [(false, .B)])
noncomputable def cmp_isNaN_int_E : Entry := ⟨99, [(false, .I .i64)], .data true [(false, .B)], cmp_isNaN_int, 1⟩
def cmp_Compare_int_A : AnnK := []
noncomputable def cmp_Compare_int_G : KG := ⟨TT, EQS, [cmp_isNaN_int_E], []⟩
noncomputable def cmp_Compare_int : vals [(false, .I .i64), (false, .I .i64)] → Option (OutK.val (.data true [(false, .I .i64)])) := funK cmp_Compare_int_G cmp_Compare_int_A fi93 93 0 [(false, .I .i64), (false, .I .i64)] (.data true [(false, .I .i64)])
noncomputable def cmp_Compare_int_E : Entry := ⟨93, [(false, .I .i64), (false, .I .i64)], .data true [(false, .I .i64)], cmp_Compare_int, 2⟩
def csr_byPlace_A : AnnK := [(76, ⟨[], [(1, ⟨[[], [], [], [], [], [], [], [], [], [], [], [], []], [(false, []), (false, []), (false, []), (false, []), (false, []), (false, []), (false, []), (false, []), (false, []), (false, []), (true, []), (false, []), (false, [])]⟩)]⟩)]
noncomputable def csr_byPlace_G : KG := ⟨TT, EQS, [cmp_Or_int_E, cmp_Compare_int_E], []⟩
noncomputable def csr_byPlace : vals [yD2, yD2] → Option (OutK.val (.data true [(false, .I .i64)])) := funK csr_byPlace_G csr_byPlace_A fi76 76 0 [yD2, yD2] (.data true [(false, .I .i64)])
noncomputable def csr_byPlace_E : Entry := ⟨76, [yD2, yD2], .data true [(false, .I .i64)], csr_byPlace, 3⟩
def csr_inOrder_A : AnnK := [(74, ⟨[⟨false, 2, 0, [0], ⟨[(3, false, [.d true (.I .i64)])], [], []⟩, [(.exit 0, ⟨[], [], []⟩), (.ret, ⟨[(2, false, [.d true .B])], [], []⟩)]⟩], []⟩)]
noncomputable def csr_inOrder_G : KG := ⟨TT, EQS, [csr_byPlace_E], []⟩
noncomputable def csr_inOrder : vals [yD1] → Option (OutK.val (.data true [(false, .B)])) := funK csr_inOrder_G csr_inOrder_A fi74 74 0 [yD1] (.data true [(false, .B)])
noncomputable def csr_inOrder_E : Entry := ⟨74, [yD1], .data true [(false, .B)], csr_inOrder, 4⟩
def ring_Is_A : AnnK := []
noncomputable def ring_Is_G : KG := ⟨TT, EQS, [], []⟩
noncomputable def ring_Is : vals [(false, .I .i64)] → Option (OutK.val (.data true [(false, .B)])) := funK ring_Is_G ring_Is_A fi36 36 0 [(false, .I .i64)] (.data true [(false, .B)])
noncomputable def ring_Is_E : Entry := ⟨36, [(false, .I .i64)], .data true [(false, .B)], ring_Is, 1⟩
def edges_byEnds_A : AnnK := [(59, ⟨[], [(1, ⟨[[], [], [], [], [], [], [], [], [], [], [], [], []], [(false, []), (false, []), (false, []), (false, []), (false, []), (false, []), (false, []), (false, []), (false, []), (false, []), (true, []), (false, []), (false, [])]⟩)]⟩)]
noncomputable def edges_byEnds_G : KG := ⟨TT, EQS, [cmp_Or_int_E, cmp_Compare_int_E], []⟩
noncomputable def edges_byEnds : vals [yD2, yD2] → Option (OutK.val (.data true [(false, .I .i64)])) := funK edges_byEnds_G edges_byEnds_A fi59 59 0 [yD2, yD2] (.data true [(false, .I .i64)])
noncomputable def edges_byEnds_E : Entry := ⟨59, [yD2, yD2], .data true [(false, .I .i64)], edges_byEnds, 3⟩
def edges_Rises_A : AnnK := [(33, ⟨[⟨false, 2, 0, [0], ⟨[(3, false, [.d true (.I .i64)])], [], []⟩, [(.exit 0, ⟨[], [], []⟩), (.ret, ⟨[(2, false, [.d true .B])], [], []⟩)]⟩], []⟩)]
noncomputable def edges_Rises_G : KG := ⟨TT, EQS, [edges_byEnds_E], []⟩
noncomputable def edges_Rises : vals [yD1] → Option (OutK.val (.data true [(false, .B)])) := funK edges_Rises_G edges_Rises_A fi33 33 0 [yD1] (.data true [(false, .B)])
noncomputable def edges_Rises_E : Entry := ⟨33, [yD1], .data true [(false, .B)], edges_Rises, 4⟩
end K
end Ev
end Go.Proofs.Ytcnfdbkolbgbcaa
end
section
namespace Go.Proofs.Ytcnfdbkolbgbcaa
namespace Ev
namespace K
open Go Go.RowKit
set_option linter.unusedVariables false
set_option linter.unusedSimpArgs false
def rowsT {α : Type} (f : List T → Option α) : List (List T) → Option (List α)
 | [] => some []
 | a :: r => (f a).bind fun x => (rowsT f r).map (x :: ·)
theorem rowsT_map {α : Type} {f : List T → Option α} {g : α → List T} (h : ∀ x, f (g x) = some x) : ∀ l : List α, rowsT f (l.map g) = some l
 | [] => rfl
 | x :: l => by simp only [List.map_cons, rowsT, h, Option.bind_some, rowsT_map h l, Option.map_some]
theorem rowsT_some {α : Type} {f : List T → Option α} {g : α → List T} (h : ∀ a x, f a = some x → a = g x) : ∀ {l : List (List T)} {r : List α}, rowsT f l = some r → l = r.map g
 | [], r, hr => by simp [rowsT] at hr; subst hr; rfl
 | a :: l, r, hr => by
  simp only [rowsT, Option.bind_eq_some_iff, Option.map_eq_some_iff] at hr
  obtain ⟨x, hx, r', hr', rfl⟩ := hr
  rw [List.map_cons, ← h a x hx, ← rowsT_some h hr']
def decT : (e : Ty) → List T → Option e.val
 | .I k, l => match l with
  | [.v (.int k' n)] => if k' = k then some n else none
  | _ => none
 | .B, l => match l with
  | [.v (.bool b)] => some b
  | _ => none
 | .S e, l => match l with
  | [.s nn sz rows] => (rowsT (decT e) rows).map fun r => ⟨nn, sz, r⟩
  | _ => none
 | .U, l => match l with
  | [] => some ()
  | _ => none
 | .C a b, l => (decT a (l.take a.size)).bind fun x => (decT b (l.drop a.size)).bind fun y => some (x, y)
theorem decT_row : ∀ (e : Ty) (x : e.val), decT e (e.row x) = some x
 | .I k, x => by simp [decT, Ty.row, iT]
 | .B, x => by simp [decT, Ty.row, bT]
 | .S e, x => by
  simp only [decT, Ty.row, Sl.t]
  rw [rowsT_map (decT_row e)]; rfl
 | .U, x => rfl
 | .C a b, x => by
  show ((decT a ((a.row x.1 ++ b.row x.2).take a.size)).bind fun x1 => (decT b ((a.row x.1 ++ b.row x.2).drop a.size)).bind fun y => some (x1, y)) = some x
  have e1 : (a.row x.1 ++ b.row x.2).take a.size = a.row x.1 := by rw [List.take_append_of_le_length (by rw [row_len]; exact Nat.le_refl _), List.take_of_length_le (by rw [row_len]; exact Nat.le_refl _)]
  have e2 : (a.row x.1 ++ b.row x.2).drop a.size = b.row x.2 := by rw [← row_len a x.1, List.drop_left]
  rw [e1, decT_row a, Option.bind_some, e2, decT_row b]; rfl
theorem decT_some : ∀ (e : Ty) (l : List T) (x : e.val), decT e l = some x → l = e.row x
 | .I k, l, x, h => by
  simp only [decT] at h
  split at h
  ·split at h
   ·rename_i hk; cases h; subst hk; rfl
   ·simp at h
  ·simp at h
 | .B, l, x, h => by
  simp only [decT] at h
  split at h
  ·cases h; rfl
  ·simp at h
 | .S e, l, x, h => by
  simp only [decT] at h
  split at h
  ·rw [Option.map_eq_some_iff] at h
   obtain ⟨r, hr, rfl⟩ := h
   rw [rowsT_some (decT_some e) hr]; rfl
  ·simp at h
 | .U, l, x, h => by
  simp only [decT] at h
  split at h
  ·rfl
  ·simp at h
 | .C a b, l, x, h => by
  simp only [decT, Option.bind_eq_some_iff] at h
  obtain ⟨x1, h1, x2, h2, h3⟩ := h
  cases h3
  show l = a.row x1 ++ b.row x2
  rw [← decT_some a _ _ h1, ← decT_some b _ _ h2, List.take_append_drop]
def decTD (t : TyD) (d : TD) : Option t.2.val :=
 match t, d with
 | (true, e), .agg l => decT e l
 | (false, e), .one y => decT e [y]
 | (false, e), .agg l => if l.length = 1 then none else decT e l
 | _, _ => none
def oneTD : List T → TD
 | [y] => .one y
 | ys => .agg ys
theorem tdOf_row (e : Ty) (x : e.val) : tdOf (false, e) x = oneTD (e.row x) := by
 unfold tdOf oneTD
 rfl
theorem decTD_of (t : TyD) (x : t.2.val) : decTD t (tdOf t x) = some x := by
 obtain ⟨b, e⟩ := t
 have h := decT_row e x
 cases b with
 | true => exact h
 | false =>
  change e.val at x
  rw [show tdOf (false, e) x = _ from tdOf_row e x]
  generalize e.row x = l at h
  match l, h with
  | [], h => exact h
  | [y], h => exact h
  | a :: b :: r, h =>
   show (if (a :: b :: r).length = 1 then none else decT e (a :: b :: r)) = some x
   rw [if_neg (by simp)]; exact h
theorem decTD_some (t : TyD) (d : TD) (x : t.2.val) (h : decTD t d = some x) : d = tdOf t x := by
 obtain ⟨b, e⟩ := t
 cases b with
 | true =>
  cases d with
  | one y => simp [decTD] at h
  | agg l => exact congrArg TD.agg (decT_some e l x h)
 | false =>
  change e.val at x
  cases d with
  | one y => rw [show tdOf (false, e) x = _ from tdOf_row e x, ← decT_some e [y] x h]; rfl
  | agg l =>
   simp only [decTD] at h
   split at h
   ·simp at h
   ·rename_i hl
    have := decT_some e l x h
    rw [show tdOf (false, e) x = _ from tdOf_row e x, ← this]
    match l, hl with
    | [], _ => rfl
    | [y], hl => simp at hl
    | a :: b :: r, _ => rfl
def decTDs : (ts : List TyD) → List TD → Option (vals ts)
 | [], l => match l with
  | [] => some ()
  | _ => none
 | [t], l => match l with
  | [d] => decTD t d
  | _ => none
 | t :: t' :: r, l => match l with
  | d :: ds => (decTD t d).bind fun x => (decTDs (t' :: r) ds).bind fun y => some (x, y)
  | [] => none
theorem decTDs_of : ∀ (ts : List TyD) (x : vals ts), decTDs ts (tdsOf ts x) = some x
 | [], _ => rfl
 | [t], x => decTD_of t x
 | t :: t' :: r, x => by
  show (decTD t (tdOf t x.1)).bind _ = _
  rw [decTD_of t x.1, Option.bind_some, decTDs_of (t' :: r) x.2]; rfl
theorem decTDs_some : ∀ (ts : List TyD) (l : List TD) (x : vals ts), decTDs ts l = some x → l = tdsOf ts x
 | [], l, x, h => by
  simp only [decTDs] at h
  split at h
  ·rfl
  ·simp at h
 | [t], l, x, h => by
  simp only [decTDs] at h
  split at h
  ·exact congrArg (· :: []) (decTD_some t _ x h)
  ·simp at h
 | t :: t' :: r, l, x, h => by
  simp only [decTDs] at h
  split at h
  ·simp only [Option.bind_eq_some_iff] at h
   obtain ⟨y, h1, z, h2, h3⟩ := h
   cases h3
   show _ = tdOf t y :: tdsOf (t' :: r) z
   rw [← decTD_some t _ y h1, ← decTDs_some (t' :: r) _ z h2]
  ·simp at h
def handF (ins : List TyD) (kind : Kind) (ts : List TyD) (g : vals ins → Option (vals ts)) (vs : List TD) : Option (Kind × List TD) := (decTDs ins vs).bind fun a => (g a).bind fun x => some (kind, tdsOf ts x)
theorem hand_ax {P : Program} {k : FuncId} {ins : List TyD} {kind : Kind} {ts : List TyD} {g : vals ins → Option (vals ts)} (he : Enters P k) (h : ∀ a x, g a = some x → PureOk P k (tdsOf ins a) kind (tdsOf ts x)) : ∀ vs kind' rs, handF ins kind ts g vs = some (kind', rs) → PureOk P k vs kind' rs ∧ Enters P k := by
 intro vs kind' rs hf
 simp only [handF, Option.bind_eq_some_iff] at hf
 obtain ⟨a, h1, x, h2, h3⟩ := hf
 cases h3
 rw [decTDs_some ins vs a h1]
 exact ⟨h a x h2, he⟩
theorem hand_runs {E : Env} {k : FuncId} {ins : List TyD} {kind : Kind} {ts : List TyD} {g : vals ins → Option (vals ts)} (hx : E.ax k = some (handF ins kind ts g)) (n : Nat) (a : vals ins) (x : vals ts) (h : g a = some x) : RunsP E (n + 1) k (tdsOf ins a) (kind, tdsOf ts x) :=
 runsP_ax hx (by simp only [handF, decTDs_of, Option.bind_some, h])
theorem hand_fresh {E : Env} {k : FuncId} {ins : List TyD} {ts : List TyD} {g : vals ins → Option (vals ts)} (hx : E.ax k = some (handF ins .fresh ts g)) : EntryOk E ⟨k, ins, .data true ts, g, 1⟩ := fun m a x h => hand_runs hx m a x h
end K
end Ev
end Go.Proofs.Ytcnfdbkolbgbcaa
end
section
namespace Go.Proofs.Ytcnfdbkolbgbcaa
open Go.RowKit Go.Sort
def Has (w : World) (b : Nat) : Prop := b < w.heap.size
def Rest (w : World) (os : Array Obj) (b : Nat) : Prop := w.heap.size ≤ b ∧ b < w.heap.size + os.size
theorem Has.of {w : World} {b : Nat} (h : b < w.heap.size) : Has w b := h
@[go_sem] theorem has_alloc (w : World) (o : Obj) (b : Nat) : Has (w.alloc o) b = (b = w.heap.size ∨ Has w b) := by
 unfold Has; simp; omega
@[go_sem] theorem has_grow (w : World) (d : Nat) (os : Array Obj) (b : Nat) : Has (grow (redrawn w d) os) b = (Has w b ∨ Rest w os b) := by
 unfold Has Rest; simp [grow, redrawn]; omega
@[go_sem] theorem has_setCell (w : World) (a : Addr) (v : Value) (b : Nat) : Has (w.setCell a v) b = Has w b := by
 unfold Has; simp [World.setCell]
@[go_sem] theorem has_drew (w : World) (b : Nat) : Has w.drew b = Has w b := rfl
@[go_sem] theorem cell_gr {w : World} {d : Nat} {os : Array Obj} {a : Addr} (h : Has w a.block) : (grow (redrawn w d) os).cell? a = w.cell? a :=
 (below_regrown w d os).cell h
@[go_sem] theorem frozen_gr {w : World} {d : Nat} {os : Array Obj} {a : Addr} (h : Has w a.block) : (grow (redrawn w d) os).frozen? a = w.frozen? a :=
 (below_regrown w d os).frozen h
@[go_sem] theorem cell_al {w : World} {o : Obj} {a : Addr} (h : Has w a.block) : (w.alloc o).cell? a = w.cell? a :=
 ((Below.refl w.heap.size w).alloc (Nat.le_refl _) o).cell h
@[go_sem] theorem frozen_al {w : World} {o : Obj} {a : Addr} (h : Has w a.block) : (w.alloc o).frozen? a = w.frozen? a :=
 ((Below.refl w.heap.size w).alloc (Nat.le_refl _) o).frozen h
@[go_sem] theorem setCell_al {w : World} {o : Obj} {a : Addr} {v : Value} (h : Has w a.block) : (w.alloc o).setCell a v = (w.setCell a v).alloc o := by
 unfold Has at h
 simp only [World.setCell, World.alloc]
 congr 1
 apply Array.ext_getElem?
 intro k
 simp only [Array.getElem?_modify, Array.getElem?_push, Array.size_modify]
 by_cases hk : k = w.heap.size
 ·subst hk; simp; omega
 ·simp [hk]
@[go_sem] theorem ite_ok {α : Type} (p : Prop) [Decidable p] (x y : α) (w : World) : (if p then Result.ok x w else Result.ok y w) = Result.ok (if p then x else y) w := by
 split <;> rfl
@[go_sem] theorem ite_value (p : Prop) [Decidable p] (x y : Value) : (if p then Next.value x else Next.value y) = Next.value (if p then x else y) := by
 split <;> rfl
theorem bl1 (w : World) (a : Obj) : Below w.heap.size w (w.alloc a) := (Below.refl _ _).alloc (Nat.le_refl _) _
theorem bl2 (w : World) (a b : Obj) : Below w.heap.size w ((w.alloc a).alloc b) := (bl1 w a).alloc (by simp) _
theorem blg {w w1 : World} (h : Below w.heap.size w w1) (d : Nat) (os : Array Obj) : Below w.heap.size w (grow (redrawn w1 d) os) :=
 h.trans ((below_regrown w1 d os).mono h.size)
theorem grow_grow (w : World) (a b : Array Obj) : grow (grow w a) b = grow w (a ++ b) := by simp [grow, Array.append_assoc]
@[go_sem] theorem gr_gr (w : World) (d d2 : Nat) (os os2 : Array Obj) : grow (redrawn (grow (redrawn w d) os) d2) os2 = grow (redrawn w d2) (os ++ os2) := by
 simp [grow, redrawn, Array.append_assoc]
@[go_sem] theorem size_gr (w : World) (d : Nat) (os : Array Obj) : (grow (redrawn w d) os).heap.size = w.heap.size + os.size := by simp [grow, redrawn]
@[go_sem] theorem setCell_gr {w : World} {d : Nat} {os : Array Obj} {a : Addr} {v : Value} (h : Has w a.block) : (grow (redrawn w d) os).setCell a v = grow (redrawn (w.setCell a v) d) os := by
 unfold Has at h
 simp only [grow, redrawn, World.setCell]
 congr 1
 apply Array.ext_getElem?
 intro k
 rw [Array.getElem?_modify]
 by_cases hk : k < w.heap.size
 ·rw [Array.getElem?_append_left hk, Array.getElem?_append_left (by simpa using hk), Array.getElem?_modify]
 ·rw [if_neg (by omega), Array.getElem?_append_right (by omega), Array.getElem?_append_right (by simpa using by omega)]
  simp
@[go_sem] theorem heap_redrawn (w : World) (d : Nat) : (redrawn w d).heap = w.heap := rfl
theorem bla {w w1 : World} (h : Below w.heap.size w w1) (o : Obj) : Below w.heap.size w (w1.alloc o) := h.alloc h.size o
theorem bls {w w1 : World} (h : Below w.heap.size w w1) {p : Addr} (hp : w.heap.size ≤ p.block) (v : Value) : Below w.heap.size w (w1.setCell p v) := h.setCell hp v
@[go_sem] theorem sg_u64 : IntKind.u64.signed = false := rfl
@[go_sem] theorem sg_i64 : IntKind.i64.signed = true := rfl
@[go_sem] theorem sg_u8 : IntKind.u8.signed = false := rfl
@[go_sem] theorem sg_u32 : IntKind.u32.signed = false := rfl
end Go.Proofs.Ytcnfdbkolbgbcaa
end
section
namespace Go.Proofs.Ytcnfdbkolbgbcaa
open Go Go.RowKit Go.Sort
section
variable {P : Program} {ops : Array Oper} {md : Region.Mode} {C : World → Prop}
def Head (P : Program) (md : Region.Mode) (ops : Array Oper) (C : World → Prop) (n : Nat) (L : Array Bool → Act → Prop) : Nat → Array Bool → Act → Prop
 | 0, s, a => L s a
 | f + 1, s, a => (∃ i, i ∈ Region.ready md ops s) ∧ ∀ i ∈ Region.ready md ops s, i < n ∧ qOp P ops C i (Head P md ops C n L f (s.setIfInBounds i true)) a
theorem wpAny_of_Head {n g : Nat} {L : Array Bool → Act → Prop} {Q' : Exit → Act → World → Prop} (hL : ∀ s a w, C w → L s a → wpAny P md ops Q' g s a w) :
  ∀ (f : Nat) (s : Array Bool) (a : Act) (w : World), C w → Head P md ops C n L f s a → wpAny P md ops Q' (f + g) s a w := by
 intro f
 induction f with
 | zero => intro s a w hw h; rw [Nat.zero_add]; exact hL s a w hw h
 | succ f ih =>
  intro s a w hw h
  obtain ⟨⟨i0, hi0⟩, hall⟩ := h
  rw [Nat.add_right_comm]
  refine ⟨fun h0 => ?_, fun i hi => wpOp_of_qOp hw (fun a' w' hw' h' => ih _ a' w' hw' h') (hall i hi).2⟩
  rw [h0] at hi0; cases hi0
theorem Head_first {n i : Nat} {oi : Oper} {v : Value} {L : Array Bool → Act → Prop} (hi : ops[i]? = some oi) (hsel : Region.noSelect ops = true)
  (hs : Region.sinkB md ops n = true) (hc : Region.chainB md ops n = true) (hn : n < ops.size) (hin : i < n) (hdone : ∀ s a, L s a → ∀ j ∈ Region.ready md ops s, n ≤ j) (f : Nat) :
  ∀ (s : Array Bool) (a : Act), HeadInv md ops n s →
   (∀ j oj, ops[j]? = some oj → j ≠ i → s.getD j true = false → (∀ e ∈ oj.after, Region.binds md e = true → e.on ≠ i) → oi.apart ops oj = true) →
   i ∈ Region.ready md ops s → YieldsIn P ops C oi v a →
   Head P md ops C n L f (s.setIfInBounds i true) (a.put oi.dst v) → Head P md ops C n L (f + 1) s a := by
 have sel := Region.noSelect_spec hsel
 induction f with
 | zero =>
  intro s a inv _ hr hy H
  refine ⟨⟨i, hr⟩, fun j hj => ?_⟩
  have hjn : j < n := Nat.lt_of_not_le fun h => tail_waits hs hc hn inv _ i rfl hin (mem_ready.1 hr).1 j h hj
  refine ⟨hjn, ?_⟩
  by_cases hji : j = i
  ·rw [hji]; exact hy.qOp hi H
  ·have := hdone _ _ H j (ready_mono hj hji)
   omega
 | succ f ih =>
  intro s a inv hfree hr hy H
  refine ⟨⟨i, hr⟩, fun j hj => ?_⟩
  have hun := (mem_ready.1 hr).1
  have hjn : j < n := Nat.lt_of_not_le fun h => tail_waits hs hc hn inv _ i rfl hin hun j h hj
  refine ⟨hjn, ?_⟩
  by_cases hji : j = i
  ·rw [hji]; exact hy.qOp hi H
  ·obtain ⟨hjun, oj, hoj, hall⟩ := mem_ready.1 hj
   have hnot : ∀ e ∈ oj.after, Region.binds md e = true → e.on ≠ i := by
    intro e he hb heq
    have hd := hall e he hb
    rw [heq, getD_both hun] at hd
    cases hd
   have hp := qOp_put hoj (hfree j oj hoj hji hjun hnot) (fun cs b => sel i oi cs b hi) (fun cs b => sel j oj cs b hoj) hy (H.2 j (ready_mono hj hji)).2
   refine qOp_mono (fun a' h3 => ih _ a' (inv.set hj hjn) ?_ (ready_mono hr (Ne.symm hji)) h3.1 ?_) hp
   ·intro k ok hk hki hkun hno
    refine hfree k ok hk hki ?_ hno
    by_cases hjk : j = k
    ·rw [← hjk]; exact hjun
    ·rwa [getD_set_ne true hjk] at hkun
   ·rw [Array.setIfInBounds_comm _ _ hji]
    exact h3.2
theorem Head_lex {n g : Nat} {Lq : Act → Prop} (hsel : Region.noSelect ops = true) (hs : Region.sinkB md ops n = true) (hc : Region.chainB md ops n = true) (hn : n < ops.size) (l : List Oper) :
  ∀ (k : Nat) (s : Array Bool) (a : Act), (∀ j, j < l.length → l[j]? = ops[k + j]?) → k + l.length = n → HeadInv md ops n s →
  Region.lexHead md ops g l.length k s = true → wpQuiet P ops C Lq l a →
  Head P md ops C n (fun s' a' => Region.seqB md ops g n s' = true ∧ Lq a') l.length s a := by
 induction l with
 | nil =>
  intro k s a _ hk _ hB h
  have hk' : k = n := by simpa using hk
  rw [← hk']
  exact ⟨by simpa [Region.lexHead] using hB, h⟩
 | cons o l ih =>
  intro k s a hl hk inv hB h
  have h0 : ops[k]? = some o := by simpa using (hl 0 (by simp)).symm
  simp only [List.length_cons] at hk hB
  simp only [Region.lexHead, Bool.and_eq_true] at hB
  have hkn : k < n := by omega
  have hr : k ∈ Region.ready md ops s := by simpa using hB.1.1
  have hq : qOp P ops C k (wpQuiet P ops C Lq l) a := by unfold qOp; simp only [h0]; exact h
  obtain ⟨v, hy, hK⟩ := yieldsIn_of_qOp h0 hq
  refine Head_first h0 hsel hs hc hn hkn (fun s' a' hL => seqB_ready hL.1) l.length s a inv (Region.free_spec h0 hB.1.2) hr hy (ih (k + 1) _ _ (fun j hj => ?_) (by omega) (inv.set hr hkn) hB.2 hK)
  have := hl (j + 1) (by simp; omega)
  simpa [Nat.add_assoc, Nat.add_comm 1 j] using this
theorem wp_region_quiet_tail {id : Nat} {Q : Exit → Act → World → Prop} {a : Act} {w : World} {l : List Oper} (n : Nat) (hm : P.follows .mixedOrders = true) (hB : Region.lexTailB .any l.toArray n = true)
  (hC : C { w with drawn := w.drawn + 1 }) (h : wpQuiet P l.toArray C (fun a' => ∀ w', C w' → wpList P l.toArray Q (l.drop n) a' w') (l.take n) a) : (Code.region id l.toArray true).wp P Q a w := by
 simp only [Region.lexTailB, Bool.and_eq_true, decide_eq_true_eq] at hB
 obtain ⟨⟨⟨⟨hsel, hn⟩, hs⟩, hc⟩, hlex⟩ := hB
 have hn' : n < l.length := by simpa using hn
 have htl : (l.take n).length = n := by simp; omega
 have hdl : (l.drop n).length = l.toArray.size - n := by simp
 have H := Head_lex (C := C) (md := .any) (g := l.toArray.size - n) hsel hs hc hn (l.take n) 0 (Array.replicate l.toArray.size false) a (fun j hj => by
  have hj' : j < n := by rw [htl] at hj; exact hj
  simp [hj']) (by simpa using htl) ⟨by simp, fun j oj _ hl => (by rw [getD_replicate_false] at hl; cases hl), fun t _ ht => getD_in (by simpa using ht) (getD_replicate_false _ _)⟩ (by rw [htl]; exact hlex) h
 refine wp_region_any hm ?_
 have R := wpAny_of_Head (Q' := Q) (g := l.toArray.size - n) (fun s a' w' hw hL => by
  have := wpAny_of_seq (md := .any) (Q' := Q) (l.drop n) n s a' w' (fun j => by simp [List.getElem?_drop]) (by rw [hdl]; exact hL.1) (hL.2 w' hw)
  rwa [hdl] at this) _ _ _ _ hC H
 rw [htl, show n + (l.toArray.size - n) = l.toArray.size by omega] at R
 exact R
theorem wp_region_grown_tail {id : Nat} {Q : Exit → Act → World → Prop} {a : Act} {w : World} {l : List Oper} (n : Nat) (hm : P.follows .mixedOrders = true) (hB : Region.lexTailB .any l.toArray n = true)
  (h : wpQuiet P l.toArray (fun w' => ∃ p : Regrown, w' = grow (redrawn w p.d) p.os) (fun a' => ∀ w', (∃ p : Regrown, w' = grow (redrawn w p.d) p.os) → wpList P l.toArray Q (l.drop n) a' w') (l.take n) a) : (Code.region id l.toArray true).wp P Q a w :=
 wp_region_quiet_tail (C := fun w' => ∃ p : Regrown, w' = grow (redrawn w p.d) p.os) n hm hB ⟨⟨w.drawn + 1, #[]⟩, by rw [grow_empty]; rfl⟩ h
end
end Go.Proofs.Ytcnfdbkolbgbcaa
end
section
namespace Go.Proofs.Ytcnfdbkolbgbcaa
open Go.RowKit Go.Sort
set_option linter.unusedVariables false
def CellsAt (W : World) (B : Nat) (t : TypeId) (cs : Array Value) : Prop := W.heap[B]? = some (.cells cs t (0, 0))
theorem CellsAt.lt {W : World} {B : Nat} {t : TypeId} {cs : Array Value} (h : CellsAt W B t cs) : B < W.heap.size := (Array.getElem?_eq_some_iff.1 h).1
theorem CellsAt.cell {W : World} {B : Nat} {t : TypeId} {cs : Array Value} (h : CellsAt W B t cs) (i : Nat) : W.cell? ⟨B, i, none⟩ = cs[i]? := by
 simp [World.cell?, show W.heap[B]? = _ from h]
theorem CellsAt.frozen {W : World} {B : Nat} {t : TypeId} {cs : Array Value} (h : CellsAt W B t cs) (i : Nat) : W.frozen? ⟨B, i, none⟩ = false := by simp [World.frozen?, show W.heap[B]? = _ from h]
theorem CellsAt.set {W : World} {B : Nat} {t : TypeId} {cs : Array Value} (h : CellsAt W B t cs) (i : Nat) (v : Value) : CellsAt (W.setCell ⟨B, i, none⟩ v) B t (cs.setIfInBounds i v) := by
 obtain ⟨hlt, hk⟩ := Array.getElem?_eq_some_iff.1 h
 show (W.heap.modify B _)[B]? = _
 rw [Array.getElem?_eq_getElem (by rw [Array.size_modify]; exact hlt), Array.getElem_modify_self, hk]
 rfl
theorem CellsAt.kept {W W' : World} {B : Nat} {t : TypeId} {cs : Array Value} (h : CellsAt W B t cs) (hb : W'.heap[B]? = W.heap[B]?) : CellsAt W' B t cs := hb.trans h
theorem CellsAt.below {W W' : World} {B : Nat} {t : TypeId} {cs : Array Value} (h : CellsAt W B t cs) (hb : Below W.heap.size W W') : CellsAt W' B t cs := h.kept (hb.block B h.lt)
theorem CellsAt.grown {W W' : World} {B : Nat} {t : TypeId} {cs : Array Value} {row : Option Nat} (h : CellsAt W B t cs) (hg : W.grownBy W' row) (hne : some B ≠ row) : CellsAt W' B t cs := h.kept (hg.block B h.lt hne)
def Rd8 (w : World) (a : Option Addr) (n : Nat) (f : Nat → Int) : Prop := ∀ i, i < n → ∃ b, a = some b ∧ b.block < w.heap.size ∧ w.cell? (b.add i) = some (.int .u8 (f i)) ∧ 0 ≤ f i ∧ f i ≤ 255
@[go_sem] theorem blk_add (b : Addr) (k : Nat) : (b.add k).block = b.block := by unfold Addr.add; split <;> rfl
theorem grownBy_of_below {w w' : World} (h : Below w.heap.size w w') (row : Option Nat) : w.grownBy w' row := ⟨h.os, h.tape, h.output, h.size, fun k hk _ => h.block k hk⟩
theorem Rd8.grown {W W' : World} {a : Option Addr} {n : Nat} {f : Nat → Int} {row : Option Nat} (h : Rd8 W a n f) (hg : W.grownBy W' row) (hne : ∀ b, a = some b → some b.block ≠ row) : Rd8 W' a n f := by
 intro i hi
 obtain ⟨b, hb, h1, h2, h3⟩ := h i hi
 refine ⟨b, hb, Nat.lt_of_lt_of_le h1 hg.size, ?_, h3⟩
 rw [← h2]
 have := hg.block b.block h1 (hne b hb)
 unfold World.cell?
 rw [blk_add, this]
theorem Rd8.cut {W : World} {a : Option Addr} {n p k : Nat} {f : Nat → Int} (h : Rd8 W a n f) (hp : p + k ≤ n) : Rd8 W (Option.map (fun x => x.add p) a) k (fun i => f (p + i)) := by
 intro i hi
 obtain ⟨b, rfl, h1, h2, h3⟩ := h (p + i) (by omega)
 refine ⟨b.add p, rfl, by rw [blk_add]; exact h1, ?_, h3⟩
 rw [← h2]
 congr 1
 unfold Addr.add
 by_cases h4 : p = 0 <;> by_cases h5 : i = 0 <;> simp [h4, h5]
 omega
theorem below_of_grownBy {A B : World} {n r : Nat} (h : A.grownBy B (some r)) (hn : n ≤ A.heap.size) (hr : n ≤ r) : Below n A B := ⟨h.os, h.tape, h.output, h.size, fun k hk => h.block k (by omega) (by simp; omega)⟩
theorem below_of_grownNone {A B : World} (h : A.grownBy B none) : Below A.heap.size A B := ⟨h.os, h.tape, h.output, h.size, fun k hk => h.block k hk (by simp)⟩
end Go.Proofs.Ytcnfdbkolbgbcaa
end
section
namespace Go.Proofs.Ytcnfdbkolbgbcaa
namespace Sm
set_option linter.unusedVariables false
set_option linter.unusedSimpArgs false
abbrev V := Int × Int
structure Rg where
 o : Int → V
 ad : V → V → V
 na : V → Int × Bool
abbrev Ky := Int × Int
def key (e : Int × Int × Int) : Ky := (e.1, e.2.1)
def klt (a b : Ky) : Bool := decide (a.1 < b.1 ∨ a.1 = b.1 ∧ a.2 < b.2)
theorem klt_irr (a : Ky) : klt a a = false := by simp [klt]
theorem klt_trans {a b c : Ky} (h1 : klt a b = true) (h2 : klt b c = true) : klt a c = true := by simp [klt] at *; omega
theorem klt_tri {a b : Ky} (h1 : klt a b = false) (h2 : klt b a = false) : a = b := by
 simp [klt] at *
 refine Prod.ext ?_ ?_ <;> omega
theorem klt_ne {a b : Ky} (h : klt a b = true) : a ≠ b := by rintro rfl; rw [klt_irr] at h; cases h
theorem klt_asym {a b : Ky} (h : klt a b = true) : klt b a = false := by simp [klt] at *; omega
def toE (R : Rg) (p : Ky × V) : Int × Int × Int := (p.1.1, p.1.2, (R.na p.2).1)
def upd (R : Rg) (f : Ky → Option V) (e : Int × Int × Int) : Ky → Option V := fun k => if k = key e then some (match f (key e) with | some s => R.ad s (R.o e.2.2) | none => R.o e.2.2) else f k
def fm (R : Rg) (l : List (Int × Int × Int)) : Ky → Option V := l.foldl (upd R) (fun _ => none)
theorem fm_snoc (R : Rg) (l : List (Int × Int × Int)) (e : Int × Int × Int) : fm R (l ++ [e]) = upd R (fm R l) e := by simp [fm]
def ins (R : Rg) : List (Ky × V) → (Int × Int × Int) → List (Ky × V)
 | [], e => [(key e, R.o e.2.2)]
 | p :: S, e => if klt p.1 (key e) = true then p :: ins R S e else if klt (key e) p.1 = true then (key e, R.o e.2.2) :: p :: S else (p.1, R.ad p.2 (R.o e.2.2)) :: S
def canS (R : Rg) (l : List (Int × Int × Int)) : List (Ky × V) := l.foldl (ins R) []
theorem canS_snoc (R : Rg) (l : List (Int × Int × Int)) (e : Int × Int × Int) : canS R (l ++ [e]) = ins R (canS R l) e := by simp [canS]
def Rep (S : List (Ky × V)) (f : Ky → Option V) : Prop := S.Pairwise (fun p q => klt p.1 q.1 = true) ∧ ∀ k z, (k, z) ∈ S ↔ f k = some z
theorem Rep.nil : Rep [] (fun _ => none) := ⟨List.Pairwise.nil, by simp⟩
theorem ins_mem (R : Rg) (e : Int × Int × Int) : ∀ (S : List (Ky × V)) (q : Ky × V), q ∈ ins R S e → q.1 = key e ∨ q ∈ S
 | [], q, h => by simp [ins] at h; subst h; exact .inl rfl
 | p :: S, q, h => by
  unfold ins at h
  split at h
  ·rcases List.mem_cons.1 h with rfl | h
   ·exact .inr (by simp)
   ·rcases ins_mem R e S q h with h | h
    ·exact .inl h
    ·exact .inr (by simp [h])
  ·split at h
   ·rcases List.mem_cons.1 h with rfl | h
    ·exact .inl rfl
    ·exact .inr h
   ·rename_i h1 h2
    rcases List.mem_cons.1 h with rfl | h
    ·exact .inl (klt_tri (by simpa using h1) (by simpa using h2))
    ·exact .inr (by simp [h])
theorem ins_sorted (R : Rg) (e : Int × Int × Int) : ∀ (S : List (Ky × V)), S.Pairwise (fun p q => klt p.1 q.1 = true) → (ins R S e).Pairwise (fun p q => klt p.1 q.1 = true)
 | [], _ => by simp [ins]
 | p :: S, h => by
  obtain ⟨h1, h2⟩ := List.pairwise_cons.1 h
  unfold ins
  split
  ·rename_i hp
   refine List.pairwise_cons.2 ⟨fun q hq => ?_, ins_sorted R e S h2⟩
   rcases ins_mem R e S q hq with h | h
   ·rw [h]; exact hp
   ·exact h1 q h
  ·split
   ·rename_i hp
    refine List.pairwise_cons.2 ⟨fun q hq => ?_, h⟩
    rcases List.mem_cons.1 hq with rfl | hq
    ·exact hp
    ·exact klt_trans hp (h1 q hq)
   ·exact List.pairwise_cons.2 ⟨h1, h2⟩
theorem ins_at (R : Rg) (e : Int × Int × Int) : ∀ (S : List (Ky × V)) (f : Ky → Option V), Rep S f → Rep (ins R S e) (upd R f e)
 | S, f, h => ⟨ins_sorted R e S h.1, by
  intro k z
  have hmem : ∀ (S : List (Ky × V)), S.Pairwise (fun p q => klt p.1 q.1 = true) → ((k, z) ∈ ins R S e ↔ if k = key e then (∃ s, (k, s) ∈ S ∧ z = R.ad s (R.o e.2.2)) ∨ ((∀ s, (k, s) ∉ S) ∧ z = R.o e.2.2) else (k, z) ∈ S) := by
   intro S
   induction S with
   | nil => intro _; simp [ins, key]
   | cons p S ih =>
    intro hs
    obtain ⟨h1, h2⟩ := List.pairwise_cons.1 hs
    unfold ins
    split
    ·rename_i hp
     rw [List.mem_cons, ih h2]
     by_cases hk : k = key e
     ·have hne : ∀ s, (k, s) ≠ p := fun s hs => klt_ne hp (by rw [← hs]; exact hk)
      simp [hk]
      rw [← hk]
      simp [hne]
     ·simp [hk]
    ·split
     ·rename_i hp0 hp
      have hno : ∀ s, (key e, s) ∉ p :: S := by
       intro s hs
       rcases List.mem_cons.1 hs with rfl | hs
       ·rw [klt_irr] at hp; cases hp
       ·have := klt_trans hp (h1 _ hs)
        rw [klt_irr] at this; cases this
      by_cases hk : k = key e
      ·subst hk
       rw [List.mem_cons]
       simp only [if_true]
       constructor
       ·rintro (h | h)
        ·exact .inr ⟨hno, by cases h; rfl⟩
        ·exact absurd h (hno _)
       ·rintro (⟨s, h, _⟩ | ⟨_, rfl⟩)
        ·exact absurd h (hno _)
        ·exact .inl rfl
      ·rw [List.mem_cons, if_neg hk]
       constructor
       ·rintro (h | h)
        ·cases h; exact absurd rfl hk
        ·exact h
       ·exact .inr
     ·rename_i hp0 hp
      have he : p.1 = key e := klt_tri (by simpa using hp0) (by simpa using hp)
      have hno : ∀ s, (key e, s) ∉ S := by
       intro s hs
       have := h1 _ hs
       rw [he, klt_irr] at this; cases this
      by_cases hk : k = key e
      ·subst hk
       simp only [if_true]
       rw [List.mem_cons]
       constructor
       ·rintro (h | h)
        ·exact .inl ⟨p.2, by rw [← he]; simp, by have := congrArg Prod.snd h; exact this⟩
        ·exact absurd h (hno _)
       ·rintro (⟨s, h, rfl⟩ | ⟨h, _⟩)
        ·rcases List.mem_cons.1 h with h | h
         ·left
          rw [← h]
         ·exact absurd h (hno _)
        ·exact absurd (show (key e, p.2) ∈ p :: S by rw [← he]; simp) (h _)
      ·rw [List.mem_cons, if_neg hk, List.mem_cons]
       constructor
       ·rintro (h | h)
        ·exact absurd (by rw [← he]; exact congrArg Prod.fst h) hk
        ·exact .inr h
       ·rintro (h | h)
        ·exact absurd (by rw [← he, ← h]) hk
        ·exact .inr h
  rw [hmem S h.1]
  unfold upd
  by_cases hk : k = key e
  ·subst hk
   simp only [if_true]
   cases hf : f (key e) with
   | none =>
    have hno : ∀ s, (key e, s) ∉ S := fun s hs => by rw [h.2, hf] at hs; cases hs
    simp [hno, eq_comm]
   | some s =>
    have hs := (h.2 (key e) s).2 hf
    simp only [Option.some.injEq]
    constructor
    ·rintro (⟨s', h', rfl⟩ | ⟨h', _⟩)
     ·rw [h.2, hf] at h'; cases h'; rfl
     ·exact absurd hs (h' _)
    ·rintro rfl
     exact .inl ⟨s, hs, rfl⟩
  ·simp [hk, h.2]⟩
theorem rep_can (R : Rg) (l : List (Int × Int × Int)) : Rep (canS R l) (fm R l) := by
 have : ∀ (l : List (Int × Int × Int)) (S : List (Ky × V)) (f : Ky → Option V), Rep S f → Rep (l.foldl (ins R) S) (l.foldl (upd R) f) := by
  intro l
  induction l with
  | nil => intro S f h; exact h
  | cons e l ih => intro S f h; exact ih _ _ (ins_at R e S f h)
 exact this l [] _ Rep.nil
theorem Rep.nodup {S : List (Ky × V)} {f : Ky → Option V} (h : Rep S f) : S.Nodup := h.1.imp fun {a b} h e => by rw [e, klt_irr] at h; cases h
theorem Rep.perm {S T : List (Ky × V)} {f : Ky → Option V} (h : Rep S f) (hT : (T.map (·.1)).Nodup) (h1 : ∀ p ∈ T, f p.1 = some p.2) (h2 : ∀ k z, f k = some z → (k, z) ∈ T) : T.Perm S := by
 have hTn : T.Nodup := by
  have := List.pairwise_map.1 hT
  exact this.imp fun {a b} h e => h (by rw [e])
 refine (List.perm_ext_iff_of_nodup hTn h.nodup).2 fun p => ⟨fun hp => (h.2 p.1 p.2).2 (h1 p hp), fun hp => h2 p.1 p.2 ((h.2 p.1 p.2).1 hp)⟩
theorem Rep.uniq {S T : List (Ky × V)} {f : Ky → Option V} (h : Rep S f) (h' : Rep T f) : S = T := by
 have hp : S.Perm T := (List.perm_ext_iff_of_nodup h.nodup h'.nodup).2 fun p => by rw [show p = (p.1, p.2) from rfl, h.2, h'.2]
 refine hp.eq_of_pairwise (le := fun p q => klt p.1 q.1 = true) (fun a b _ _ h1 h2 => ?_) h.1 h'.1
 rw [klt_asym h1] at h2; cases h2
theorem ins_last (R : Rg) (e : Int × Int × Int) : ∀ (S : List (Ky × V)), (∀ p ∈ S, klt p.1 (key e) = true) → ins R S e = S ++ [(key e, R.o e.2.2)]
 | [], _ => rfl
 | p :: S, h => by
  unfold ins
  rw [if_pos (h p (by simp)), ins_last R e S (fun q hq => h q (by simp [hq]))]
  rfl
theorem canS_rising (R : Rg) : ∀ (l : List (Int × Int × Int)), l.Pairwise (fun a b => klt (key a) (key b) = true) → canS R l = l.map (fun e => (key e, R.o e.2.2)) := by
 intro l
 have : ∀ (m l : List (Int × Int × Int)), (l ++ m).Pairwise (fun a b => klt (key a) (key b) = true) → m.foldl (ins R) (l.map (fun e => (key e, R.o e.2.2))) = (l ++ m).map (fun e => (key e, R.o e.2.2)) := by
  intro m
  induction m with
  | nil => intro l _; simp
  | cons e m ih =>
   intro l h
   rw [List.foldl_cons, ins_last]
   ·have := ih (l ++ [e]) (by simpa using h)
    simpa using this
   ·intro p hp
    obtain ⟨a, ha, rfl⟩ := List.mem_map.1 hp
    exact (List.pairwise_append.1 h).2.2 a ha e (by simp)
 intro h
 have := this l [] h
 simpa [canS] using this
theorem fm_some {R : Rg} : ∀ {l : List (Int × Int × Int)} {k : Ky} {z : V}, fm R l k = some z → ∃ e ∈ l, key e = k := by
 intro l
 have : ∀ (l : List (Int × Int × Int)) (f : Ky → Option V) (k : Ky) (z : V), l.foldl (upd R) f k = some z → (∃ e ∈ l, key e = k) ∨ ∃ z, f k = some z := by
  intro l
  induction l with
  | nil => intro f k z h; exact .inr ⟨z, h⟩
  | cons e l ih =>
   intro f k z h
   rcases ih _ _ _ h with ⟨e', h1, h2⟩ | ⟨z', h2⟩
   ·exact .inl ⟨e', by simp [h1], h2⟩
   ·unfold upd at h2
    split at h2
    ·rename_i hk
     exact .inl ⟨e, by simp, hk.symm⟩
    ·exact .inr ⟨z', h2⟩
 intro k z h
 rcases this l _ k z h with h | ⟨z, h⟩
 ·exact h
 ·cases h
def sumR (R : Rg) (l : List (Int × Int × Int)) : List (Int × Int × Int) × Int := if (canS R l).all (fun p => (R.na p.2).2) = true then ((canS R l).map (toE R), 0) else ([], 12)
theorem sumR_over {R : Rg} {l : List (Int × Int × Int)} {k : Ky} {z : V} (hk : fm R l k = some z) (hz : (R.na z).2 = false) : sumR R l = ([], 12) := by
 have hm := ((rep_can R l).2 k z).2 hk
 have : ¬ (canS R l).all (fun p => (R.na p.2).2) = true := by
  intro ha
  have := List.all_eq_true.1 ha _ hm
  rw [hz] at this; cases this
 simp only [sumR, if_neg this]
theorem sorted_is (R : Rg) (l l' : List (Int × Int × Int)) (T : List (Ky × V)) (hT : T.Perm (canS R l)) (hp : l'.Perm (T.map (toE R))) (hs : l'.Pairwise (fun a b => klt (key b) (key a) = false)) : l' = (canS R l).map (toE R) := by
 have hp2 : l'.Perm ((canS R l).map (toE R)) := hp.trans (hT.map (toE R))
 have hc := (rep_can R l).1
 have hs2 : ((canS R l).map (toE R)).Pairwise (fun a b => klt (key b) (key a) = false) := by
  rw [List.pairwise_map]
  exact hc.imp fun {a b} h => klt_asym h
 have hn : ((canS R l).map (toE R)).Pairwise (fun a b => key a ≠ key b) := by
  rw [List.pairwise_map]
  exact hc.imp fun {a b} h => klt_ne h
 refine hp2.eq_of_pairwise (le := fun a b => klt (key b) (key a) = false) (fun a b ha hb h1 h2 => ?_) hs hs2
 have hk : key a = key b := klt_tri h2 h1
 have ha' := hp2.mem_iff.1 ha
 have hb' := hb
 obtain ⟨i, hi, rfl⟩ := List.mem_iff_getElem.1 ha'
 obtain ⟨j, hj, rfl⟩ := List.mem_iff_getElem.1 hb'
 have hpw := List.pairwise_iff_getElem.1 hn
 rcases Nat.lt_trichotomy i j with h | h | h
 ·exact absurd hk (hpw i j hi hj h)
 ·subst h; rfl
 ·exact absurd hk.symm (hpw j i hj hi h)
theorem sumR_all {R : Rg} {l : List (Int × Int × Int)} (ha : ∀ k z, fm R l k = some z → (R.na z).2 = true) : sumR R l = ((canS R l).map (toE R), 0) := by
 have : (canS R l).all (fun p => (R.na p.2).2) = true := List.all_eq_true.2 fun p hp => ha p.1 p.2 (((rep_can R l).2 p.1 p.2).1 hp)
 simp only [sumR, if_pos this]
end Sm
end Go.Proofs.Ytcnfdbkolbgbcaa
end
section
namespace Go.Proofs.Ytcnfdbkolbgbcaa
open Go.RowKit Go.Sort
set_option linter.unusedVariables false
set_option linter.unusedSimpArgs false
namespace Sm
open Ev
@[go_sem] abbrev WV (p : V) : Value := .agg #[.int .i64 p.1, .int .u64 p.2]
abbrev Ed := Int × Int × Int
def In64 (n : Int) : Prop := -9223372036854775808 ≤ n ∧ n ≤ 9223372036854775807
def cmpI (x y : Int) : Int := if x < y then -1 else if y < x then 1 else 0
def orI (x y : Int) : Int := if x = 0 then y else x
def el (l : List Ed) (i : Nat) : Ed := l.getD i (0, 0, 0)
theorem el_mem {l : List Ed} {i : Nat} (h : i < l.length) : el l i ∈ l := by
 simp [el, List.getD_eq_getElem?_getD, h]
theorem el_arr (l : List Ed) (i : Nat) (h : i < l.length) : (l.toArray)[i]! = el l i := by
 simp [el, List.getD_eq_getElem?_getD, h]
theorem take_el {l : List Ed} {j : Nat} (h : j < l.length) : l.take (j + 1) = l.take j ++ [el l j] := by
 rw [List.take_succ_eq_append_getElem h]
 simp [el, List.getD_eq_getElem?_getD, h]
theorem addr0 (g i : Nat) : ((⟨g, 0, none⟩ : Addr).add i) = ⟨g, i, none⟩ := by unfold Addr.add; split <;> simp_all
theorem add_succ (a : Addr) (k : Nat) : a.add (k + 1) = ⟨a.block, (a.add k).off + 1, none⟩ := by
 unfold Addr.add
 by_cases h : k = 0
 ·subst h; simp
 ·simp [h]; omega
def PT : T → Option Value
 | .v x => if x.oneCell' then some x else none
 | .s _ _ _ => none
def PTs : List T → Option (List Value)
 | [] => some []
 | t :: r => (PT t).bind fun x => (PTs r).map (x :: ·)
def PD : TD → Option Value
 | .one t => PT t
 | .agg ts => (PTs ts).map fun l => .agg l.toArray
theorem PT_rep {t : T} {x : Value} (h : PT t = some x) (w : World) (F : Nat → Prop) : RepT w F t x ∧ ∀ y, RepT w F t y → y = x := by
 cases t with
 | s => simp [PT] at h
 | v z =>
  simp only [PT] at h
  split at h
  ·rename_i hz
   cases h
   exact ⟨.v _ hz, fun y hy => by cases hy; rfl⟩
  ·simp at h
theorem PTs_rep : ∀ {ts : List T} {l : List Value}, PTs ts = some l → ∀ (w : World) (F : Nat → Prop), RepTs w F ts l ∧ ∀ ys, RepTs w F ts ys → ys = l
 | [], l, h, w, F => by
  simp [PTs] at h
  subst h
  exact ⟨⟨rfl, by simp⟩, fun ys hy => by have := hy.1; simpa using this.symm⟩
 | t :: r, l, h, w, F => by
  simp only [PTs, Option.bind_eq_some_iff, Option.map_eq_some_iff] at h
  obtain ⟨x, hx, l', hl, rfl⟩ := h
  obtain ⟨h1, h2⟩ := PT_rep hx w F
  obtain ⟨h3, h4⟩ := PTs_rep hl w F
  refine ⟨⟨by simp [h3.1], fun i t' hi => ?_⟩, fun ys hy => ?_⟩
  ·cases i with
   | zero => simp at hi; subst hi; exact ⟨x, rfl, h1⟩
   | succ i => obtain ⟨y, e1, e2⟩ := h3.2 i t' (by simpa using hi); exact ⟨y, by simpa using e1, e2⟩
  ·obtain ⟨hl, hy⟩ := hy
   cases ys with
   | nil => simp at hl
   | cons y ys =>
    obtain ⟨y', e1, e2⟩ := hy 0 t rfl
    simp at e1
    subst e1
    rw [h2 _ e2, h4 ys ⟨by simpa using hl, fun i t' hi => by
     obtain ⟨z, f1, f2⟩ := hy (i + 1) t' (by simpa using hi)
     exact ⟨z, by simpa using f1, f2⟩⟩]
theorem PD_rep {t : TD} {x : Value} (h : PD t = some x) (w : World) (F : Nat → Prop) : RepTD w F t x ∧ ∀ y, RepTD w F t y → y = x := by
 cases t with
 | one t =>
  obtain ⟨h1, h2⟩ := PT_rep h w F
  exact ⟨.one _ _ h1, fun y hy => by cases hy with | one _ _ hy => exact h2 _ hy⟩
 | agg ts =>
  simp only [PD, Option.map_eq_some_iff] at h
  obtain ⟨l, hl, rfl⟩ := h
  obtain ⟨h1, h2⟩ := PTs_rep hl w F
  exact ⟨.agg _ _ h1, fun y hy => by cases hy with | agg _ ys hy => rw [h2 _ hy]⟩
def PDs : List TD → Option (List Value)
 | [] => some []
 | t :: r => (PD t).bind fun x => (PDs r).map (x :: ·)
theorem PDs_rep : ∀ {ts : List TD} {l : List Value}, PDs ts = some l → ∀ (w : World) (F : Nat → Prop), RepTDs w F ts l ∧ ∀ ys, RepTDs w F ts ys → ys = l
 | [], l, h, w, F => by
  simp [PDs] at h
  subst h
  exact ⟨⟨rfl, by simp⟩, fun ys hy => by have := hy.1; simpa using this.symm⟩
 | t :: r, l, h, w, F => by
  simp only [PDs, Option.bind_eq_some_iff, Option.map_eq_some_iff] at h
  obtain ⟨x, hx, l', hl, rfl⟩ := h
  obtain ⟨h1, h2⟩ := PD_rep hx w F
  obtain ⟨h3, h4⟩ := PDs_rep hl w F
  refine ⟨⟨by simp [h3.1], fun i t' hi => ?_⟩, fun ys hy => ?_⟩
  ·cases i with
   | zero => simp at hi; subst hi; exact ⟨x, rfl, h1⟩
   | succ i => obtain ⟨y, e1, e2⟩ := h3.2 i t' (by simpa using hi); exact ⟨y, by simpa using e1, e2⟩
  ·obtain ⟨hl, hy⟩ := hy
   cases ys with
   | nil => simp at hl
   | cons y ys =>
    obtain ⟨y', e1, e2⟩ := hy 0 t rfl
    simp at e1
    subst e1
    rw [h2 _ e2, h4 ys ⟨by simpa using hl, fun i t' hi => by
     obtain ⟨z, f1, f2⟩ := hy (i + 1) t' (by simpa using hi)
     exact ⟨z, by simpa using f1, f2⟩⟩]
def PR : List TD → Option Value
 | [r] => PD r
 | rs => (PDs rs).map fun l => .tuple l.toArray
theorem PR_rep {rs : List TD} {x : Value} (h : PR rs = some x) (w : World) (F : Nat → Prop) {y : Value} (hy : RepRes w F rs y) : y = x := by
 match rs, h, hy with
 | [], h, ⟨ys, e, hy⟩ =>
  simp [PR, PDs] at h
  subst h
  rw [e, (PDs_rep (ts := []) (l := []) rfl w F).2 _ hy]
 | [r], h, hy => exact (PD_rep h w F).2 _ hy
 | r :: r' :: rs, h, ⟨ys, e, hy⟩ =>
  simp only [PR, Option.map_eq_some_iff] at h
  obtain ⟨l, hl, rfl⟩ := h
  rw [e, (PDs_rep hl w F).2 _ hy]
theorem calls_plain {P : Program} {k : FuncId} {vs : List TD} {kind : Kind} {rs : List TD} (h : PureOk P k vs kind rs) {ys : List Value} {y : Value} (h1 : PDs vs = some ys) (h2 : PR rs = some y) (w : World) (hL : LD w.heap.size w) : Calls P k ys.toArray w fun e w' => e = .returned y ∧ Below w.heap.size w w' := by
 refine (h w (fun _ => False) ys hL (fun _ h => h.elim) (PDs_rep h1 w _).1).mono fun e w' ⟨y', e1, e2, _, e3⟩ => ⟨?_, e3⟩
 rw [e1, PR_rep h2 w' _ e2]
end Sm
end Go.Proofs.Ytcnfdbkolbgbcaa
end
section
namespace Go.Proofs.Ytcnfdbkolbgbcaa
open Go.Shelf Go.RowKit Go.Lib Go.Sort
set_option linter.unusedVariables false
set_option linter.unusedSimpArgs false
namespace Sm
namespace Tp
def sortE_ren : Go.Shelf.Ren := ⟨fun | 6 => 75 | 15 => 91 | 14 => 95 | 28 => 109 | 29 => 110 | 20 => 111 | 21 => 112 | 22 => 113 | 23 => 114 | 24 => 115 | 25 => 116 | 26 => 117 | 27 => 118 | 46 => 124 | 47 => 120 | 48 => 121 | 49 => 125 | 50 => 126 | 57 => 128 | n => n, fun | 22 => 34 | 24 => 61 | 25 => 96 | 3 => 3 | 39 => 105 | 0 => 0 | 53 => 123 | 55 => 78 | 4 => 4 | 46 => 117 | 45 => 116 | 50 => 73 | 5 => 5 | 9 => 9 | 66 => 130 | 70 => 134 | 76 => 138 | 77 => 139 | n => n, fun | n => n⟩
theorem sortE : Go.Proofs.SlLaysF0.n6 Try.prog sortE_ren :=
 {
  mixed := by kernel_rfl,
  f6 := ⟨Try.f75.name, by decide, Try.func75.trans (congrArg some (by kernel_rfl))⟩,
  f14 := ⟨Try.f95.name, by decide, Try.func95.trans (congrArg some (by kernel_rfl))⟩,
  f15 := Try.func91.trans (congrArg some (by kernel_rfl)),
  f20 := ⟨Try.f111.name, by decide, Try.func111.trans (congrArg some (by kernel_rfl))⟩,
  f21 := ⟨Try.f112.name, by decide, Try.func112.trans (congrArg some (by kernel_rfl))⟩,
  f22 := ⟨Try.f113.name, by decide, Try.func113.trans (congrArg some (by kernel_rfl))⟩,
  f23 := ⟨Try.f114.name, by decide, Try.func114.trans (congrArg some (by kernel_rfl))⟩,
  f24 := ⟨Try.f115.name, by decide, Try.func115.trans (congrArg some (by kernel_rfl))⟩,
  f25 := ⟨Try.f116.name, by decide, Try.func116.trans (congrArg some (by kernel_rfl))⟩,
  f26 := ⟨Try.f117.name, by decide, Try.func117.trans (congrArg some (by kernel_rfl))⟩,
  f27 := ⟨Try.f118.name, by decide, Try.func118.trans (congrArg some (by kernel_rfl))⟩,
  f28 := Try.func109.trans (congrArg some (by kernel_rfl)),
  f29 := Try.func110.trans (congrArg some (by kernel_rfl)),
  f46 := ⟨Try.f124.name, by decide, Try.func124.trans (congrArg some (by kernel_rfl))⟩,
  f47 := Try.func120.trans (congrArg some (by kernel_rfl)),
  f48 := Try.func121.trans (congrArg some (by kernel_rfl)),
  f49 := ⟨Try.f125.name, by decide, Try.func125.trans (congrArg some (by kernel_rfl))⟩,
  f50 := ⟨Try.f126.name, by decide, Try.func126.trans (congrArg some (by kernel_rfl))⟩,
  f57 := ⟨Try.f128.name, by decide, Try.func128.trans (congrArg some (by kernel_rfl))⟩,
  t0 := Try.underlying0,
  a0 := Try.isAgg0,
  z0 := Try.sizeOf0,
  v0 := Try.zeroValue0,
  t3 := Try.underlying3,
  a3 := Try.isAgg3,
  z3 := Try.sizeOf3,
  v3 := Try.zeroValue3,
  t4 := Try.underlying4,
  a4 := Try.isAgg4,
  z4 := Try.sizeOf4,
  v4 := Try.zeroValue4,
  t5 := Try.underlying5,
  a5 := Try.isAgg5,
  z5 := Try.sizeOf5,
  v5 := Try.zeroValue5,
  t9 := Try.underlying9,
  a9 := Try.isAgg9,
  z9 := Try.sizeOf9,
  v9 := Try.zeroValue9,
  t22 := Try.underlying34,
  a22 := Try.isAgg34,
  z22 := Try.sizeOf34,
  v22 := Try.zeroValue34,
  t25 := Try.underlying96,
  a25 := Try.isAgg96,
  z25 := Try.sizeOf96,
  v25 := Try.zeroValue96,
  t39 := Try.underlying105,
  a39 := Try.isAgg105,
  z39 := Try.sizeOf105,
  v39 := Try.zeroValue105,
  t45 := Try.underlying116,
  a45 := Try.isAgg116,
  z45 := Try.sizeOf116,
  v45 := Try.zeroValue116,
  t46 := Try.underlying117,
  a46 := Try.isAgg117,
  z46 := Try.sizeOf117,
  v46 := Try.zeroValue117,
  t50 := Try.underlying73,
  a50 := Try.isAgg73,
  z50 := Try.sizeOf73,
  v50 := Try.zeroValue73,
  t53 := Try.underlying123,
  a53 := Try.isAgg123,
  z53 := Try.sizeOf123,
  v53 := Try.zeroValue123,
  t55 := Try.underlying78,
  a55 := Try.isAgg78,
  z55 := Try.sizeOf78,
  v55 := Try.zeroValue78,
  t66 := Try.underlying130,
  a66 := Try.isAgg130,
  z66 := Try.sizeOf130,
  v66 := Try.zeroValue130,
  t70 := Try.underlying134,
  a70 := Try.isAgg134,
  z70 := Try.sizeOf134,
  v70 := Try.zeroValue134,
  t76 := Try.underlying138,
  a76 := Try.isAgg138,
  z76 := Try.sizeOf138,
  v76 := Try.zeroValue138,
  t77 := Try.underlying139,
  a77 := Try.isAgg139,
  z77 := Try.sizeOf139,
  v77 := Try.zeroValue139 }
@[go_sem] abbrev EV (e : Ed) : Value := .agg #[.int .i64 e.1, .int .i64 e.2.1, .int .i64 e.2.2]
def enc (e : Ed) : List Value := [.int .i64 e.1, .int .i64 e.2.1, .int .i64 e.2.2]
def RdE (w : World) (a : Option Addr) (l : List Ed) : Prop := ∀ i, i < l.length → ∃ b, a = some b ∧ b.block < w.heap.size ∧ w.cell? (b.add (i * 3)) = some (.int .i64 (el l i).1) ∧ w.cell? ⟨b.block, (b.add (i * 3)).off + 1, none⟩ = some (.int .i64 (el l i).2.1) ∧ w.cell? ⟨b.block, (b.add (i * 3)).off + 2, none⟩ = some (.int .i64 (el l i).2.2)
theorem RdE.below {w w' : World} {a : Option Addr} {l : List Ed} (h : RdE w a l) (hb : Below w.heap.size w w') : RdE w' a l := by
 intro i hi
 obtain ⟨b, e, hl, h0, h1, h2⟩ := h i hi
 exact ⟨b, e, Nat.lt_of_lt_of_le hl hb.size, (hb.cell (by rw [blk_add]; exact hl)).trans h0, (hb.cell (p := ⟨b.block, _, none⟩) hl).trans h1, (hb.cell (p := ⟨b.block, _, none⟩) hl).trans h2⟩
def cmpE (a b : Ed) : Int := orI (cmpI a.1 b.1) (cmpI a.2.1 b.2.1)
theorem cmpE_lt (a b : Ed) : cmpE a b < 0 ↔ klt (key a) (key b) = true := by
 unfold cmpE orI cmpI klt key
 simp only [decide_eq_true_eq]
 split <;> split <;> (try split) <;> omega
theorem isNaN_same (x : Int) (w : World) : Calls Try.prog 99 #[.int .i64 x] w fun e w' => e = .returned (.bool false) ∧ w' = w := by
 go_enter Try.func99, Try.ntmps99
 go_wp2
 go_ret
 exact ⟨by simp, rfl⟩
set_option maxRecDepth 100000 in
theorem compareI_same (x y : Int) (w : World) : Calls Try.prog 93 #[.int .i64 x, .int .i64 y] w fun e w' => e = .returned (.int .i64 (cmpI x y)) ∧ w' = w := by
 go_enter Try.func93, Try.ntmps93
 go_wp2_with (go_at_call 99; refine (isNaN_same _ _).mono ?_; rintro e w1 ⟨rfl, rfl⟩)
 all_goals go_ret
 ·refine ⟨by unfold cmpI; rw [if_pos (by assumption)]; rfl, rfl⟩
 ·refine ⟨by unfold cmpI; rw [if_neg (by omega), if_pos (by assumption)]; rfl, rfl⟩
 ·refine ⟨by unfold cmpI; rw [if_neg (by omega), if_neg (by omega)]; rfl, rfl⟩
set_option maxRecDepth 100000 in
theorem cmpOr_same (x y : Int) (w : World) (g : Nat) (h : w.heap[g]? = some (.cells #[.int .i64 x, .int .i64 y] 3 (0, 0))) :
  Calls Try.prog 92 #[.slice (some ⟨g, 0, none⟩) 2 2] w fun e w' => e = .returned (.int .i64 (orI x y)) ∧ w' = w := by
 have c0 : w.cell? ⟨g, 0, none⟩ = some (.int .i64 x) := by simp [World.cell?, h]
 have c1 : w.cell? ⟨g, 1, none⟩ = some (.int .i64 y) := by simp [World.cell?, h]
 have kg : Has w g := (Array.getElem?_eq_some_iff.1 h).1
 go_enter Try.func92, Try.ntmps92
 by_cases hx : x = 0
 ·subst hx
  by_cases hy : y = 0
  ·subst hy
   go_wp2
   refine wp_loop_rounds 3 ?_
   rw [rounds_succ]; go_wp2
   rw [rounds_succ]; go_wp2
   rw [rounds_succ]; go_wp2
   go_ret
   exact ⟨by simp [orI], rfl⟩
  ·go_wp2
   refine wp_loop_rounds 2 ?_
   rw [rounds_succ]; go_wp2
   rw [rounds_succ]; go_wp2
   go_ret
   exact ⟨by simp [orI], rfl⟩
 ·go_wp2
  refine wp_loop_rounds 1 ?_
  rw [rounds_succ]; go_wp2
  go_ret
  exact ⟨by simp [orI, hx], rfl⟩
theorem cmpOr_new2 (x y : Int) (V : World) (g : Nat) (hg : g = V.heap.size) :
  Calls Try.prog 92 #[.slice (some ⟨g, 0, none⟩) 2 2] (V.alloc (.cells #[.int .i64 x, .int .i64 y] 3 (0, 0))) fun e w' => e = .returned (.int .i64 (orI x y)) ∧ w' = (V.alloc (.cells #[.int .i64 x, .int .i64 y] 3 (0, 0))) := by
 subst hg
 exact cmpOr_same x y _ _ (World.alloc_heap_new V _)
theorem grow3 (w : World) (n : Nat) (a b c : Obj) : ∃ q os', (((w.alloc a).alloc b).drewN n).alloc c = grow (w.drewN q) os' := ⟨n, #[a] ++ (#[b] ++ #[c]), by
 rw [alloc_eq_grow _ c, alloc_eq_grow _ b, alloc_eq_grow _ a]
 show grow (grow (grow (w.drewN n) #[a]) #[b]) #[c] = _
 rw [Go.Sort.grow_grow, Go.Sort.grow_grow]⟩
attribute [local irreducible] cmpI orI in
set_option maxRecDepth 100000 in
theorem cmp_drewn (a b : Ed) (w : World) : Calls Try.prog 76 #[EV a, EV b] w fun e w' => e = .returned (.int .i64 (cmpE a b)) ∧ ∃ q os', w' = grow (w.drewN q) os' := by
 go_enter Try.func76, Try.ntmps76
 go_wp2_with fail
 refine wp_region_quiet_tail (C := fun w' => ∃ n, w' = World.drewN _ n) 10 (by kernel_rfl) (by kernel_rfl) ⟨1, rfl⟩ ?_
 simp only [List.take_succ_cons, List.take_zero, List.drop_succ_cons, List.drop_zero]
 repeat (go_big_quiet_step (first | (go_at_call 93; exact (compareI_same _ _ _).mono fun _ _ ⟨he, hw⟩ => ⟨he, _, hw⟩)))
 refine wpQuiet_nil ?_
 rintro _ ⟨n, rfl⟩
 go_wp2_with fail
 refine (cmpOr_new2 (cmpI a.1 b.1) (cmpI a.2.1 b.2.1) _ _ (by simp [go_sem])).mono ?_
 rintro e w1 ⟨rfl, rfl⟩
 go_wp2
 go_ret
 exact ⟨rfl, grow3 _ _ _ _ _⟩
def cellsE (l : List Ed) : List Value := l.flatMap enc
theorem cellsE_cons (e : Ed) (l : List Ed) : cellsE (e :: l) = enc e ++ cellsE l := rfl
theorem cellsE_app (l m : List Ed) : cellsE (l ++ m) = cellsE l ++ cellsE m := by simp [cellsE]
theorem cellsE_len (l : List Ed) : (cellsE l).length = l.length * 3 := by
 induction l with
 | nil => rfl
 | cons e l ih => rw [cellsE_cons, List.length_append, ih]; simp [enc]; omega
theorem cellsE_at : ∀ (l : List Ed) (i k : Nat), i < l.length → k < 3 → (cellsE l)[i * 3 + k]? = (enc (el l i))[k]?
 | [], i, k, h, _ => by simp at h
 | e :: l, 0, k, h, hk => by
  rw [cellsE_cons, List.getElem?_append_left (by simp [enc]; omega)]
  simp [el]
 | e :: l, i + 1, k, h, hk => by
  rw [cellsE_cons, List.getElem?_append_right (by simp [enc]; omega)]
  have : (i + 1) * 3 + k - (enc e).length = i * 3 + k := by simp [enc]; omega
  rw [this, cellsE_at l i k (by simpa using h) hk]
  simp [el]
theorem cellsE_one (l : List Ed) : ∀ u ∈ cellsE l, u.oneCell' = true := by
 intro u hu
 obtain ⟨e, _, he⟩ := List.mem_flatMap.1 hu
 simp [enc] at he
 rcases he with rfl | rfl | rfl <;> rfl
theorem rdE_cells {w : World} {g : Nat} {l : List Ed} (hg : g < w.heap.size) (hc : ∀ i, i < l.length → ∀ k, k < 3 → w.cell? ⟨g, i * 3 + k, none⟩ = (enc (el l i))[k]?) : RdE w (some ⟨g, 0, none⟩) l := by
 intro i hi
 have e : (⟨g, 0, none⟩ : Addr).add (i * 3) = ⟨g, i * 3, none⟩ := addr0 _ _
 refine ⟨⟨g, 0, none⟩, rfl, hg, ?_, ?_, ?_⟩
 ·rw [e]; simpa [enc] using hc i hi 0 (by omega)
 ·rw [e]; simpa [enc] using hc i hi 1 (by omega)
 ·rw [e]; simpa [enc] using hc i hi 2 (by omega)
theorem row_rdE {w : World} {base n : Nat} {v : Value} {l : List Ed} (h : w.ownsRow base 61 3 v n (cellsE l)) : n = l.length ∧ ∃ a c, v = .slice a n c ∧ n ≤ c ∧ RdE w a l ∧ (a = none → c = 0 ∧ n = 0) := by
 have hn : n = l.length := by have := h.1; rw [cellsE_len] at this; omega
 refine ⟨hn, ?_⟩
 rcases h.2 with ⟨rfl, h0⟩ | ⟨g, cap, cur, rfl, hb, hg, hcap, _⟩
 ·obtain rfl : n = 0 := h0
  exact ⟨none, 0, rfl, by omega, fun i hi => by omega, fun _ => ⟨rfl, rfl⟩⟩
 ·refine ⟨some ⟨g, 0, none⟩, cap, rfl, hcap, ?_, by simp⟩
  refine rdE_cells (Array.getElem?_eq_some_iff.1 hg).1 (fun i hi k hk => ?_)
  rw [h.cellAt (i * 3 + k) (by omega), cellsE_at l i k hi hk]
theorem flat_at (l : List Ed) (i k : Nat) (h : i < l.length) (hk : k < 3) : some (flatK enc 3 l.toArray)[i * 3 + k]! = (enc (el l i))[k]? := by
 rw [get_flatK _ _ _ _ (by simp; omega), show (i * 3 + k) / 3 = i by omega, show (i * 3 + k) % 3 = k by omega, el_arr l i h]
 have : k < (enc (el l i)).length := by simp [enc]; omega
 rw [getElem!_pos (enc (el l i)) k this, List.getElem?_eq_getElem this]
theorem grownBy_sortedE {w : World} {g n : Nat} {os : Array Obj} (F : Array Value) : w.grownBy (grow (putRow id (Sort.ahead w n) g 0 F) os) (some g) := by
 refine ⟨rfl, rfl, rfl, by simp, fun k hk hne => ?_⟩
 rw [heap_grow_old _ _ (by simpa using hk)]
 have : g ≠ k := fun e => hne (by rw [e])
 simp [putRow, mapBlock, Sort.ahead, Array.getElem?_modify, this]
def bl (a b : Ed) : Bool := klt (key a) (key b)
theorem ltOf_bl : ltOf cmpE = bl := by
 funext a b
 unfold ltOf bl
 have := cmpE_lt a b
 cases h : klt (key a) (key b) <;> rw [h] at this <;> simp at this ⊢ <;> exact this
theorem swo_bl : SWO bl where
 irrefl x := by simp [bl, klt]
 trans x y z h1 h2 := by simp [bl, klt] at *; omega
 ntrans x y z h1 h2 := by simp [bl, klt] at *; omega
theorem sortedIn_pw {l : List Ed} (h : SortedIn bl 0 l.length l.toArray) : l.Pairwise (fun a b => bl b a = false) := by
 rw [List.pairwise_iff_getElem]
 intro i j hi hj hij
 have := h i j (by omega) hij hj
 rw [el_arr l i hi, el_arr l j hj] at this
 simpa [el, List.getD_eq_getElem?_getD, hi, hj] using this
set_option maxHeartbeats 1000000 in
theorem sortF_any (g c : Nat) (l : List Ed) (w : World) (hg : g < w.heap.size) (hc : ∀ i, i < l.length → ∀ k, k < 3 → w.cell? ⟨g, i * 3 + k, none⟩ = (enc (el l i))[k]?) (hf : ∀ j, w.frozen? ⟨g, j, none⟩ = false) (hl : l.length < 4611686018427387904) :
  Calls Try.prog 75 #[.slice (some ⟨g, 0, none⟩) l.length c, .func (.func 76) #[] #[]] w fun e w' => e = .returned (.tuple #[]) ∧ ∃ l' : List Ed, l'.Perm l ∧ l'.Pairwise (fun a b => bl b a = false) ∧ RdE w' (some ⟨g, 0, none⟩) l' ∧ w.grownBy w' (some g) := by
 have eg : ∀ args w, (callFunc 76 args).run Try.prog w = .ok (.enter 76 args) w := enters_of Try.func76 (by kernel_rfl) rfl
 have hcmp : CmpLays Try.prog 76 #[] enc 3 cmpE g 0 l.toArray.size w := fun m os dk _ x y => cmp_drewn x y _
 have hH : HoldsK enc 3 w g 0 l.toArray := by
  intro j hj
  have hj' : j < l.length * 3 := by simpa using hj
  refine ⟨?_, hf _⟩
  have := hc (j / 3) (by omega) (j % 3) (by omega)
  rw [Nat.zero_add, show j = j / 3 * 3 + j % 3 by omega, this, ← flat_at l _ _ (by omega) (by omega)]
  rfl
 have hO : SWO (ltOf cmpE) := by rw [ltOf_bl]; exact swo_bl
 have hcon := AnyQ.slices_SortFunc sortE 3 Try.isAgg61 Try.sizeOf61 enc (fun _ => rfl) (fun x v hv => by simp [enc] at hv; rcases hv with rfl | rfl | rfl <;> rfl) cmpE hO 76 #[] g 0 c l.toArray w eg hcmp hH hg (by simpa using hl)
 refine hcon.mono ?_
 rintro e w' ⟨rfl, d', n, os, hp, hs, rfl⟩
 obtain ⟨l', rfl⟩ : ∃ l' : List Ed, d' = l'.toArray := ⟨d'.toList, by simp⟩
 have hsz : l'.length = l.length := by simpa using hp.1
 refine ⟨rfl, l', ?_, ?_, ?_, ?_⟩
 ·have := hp.2.2
  rw [show l.toArray.size = l'.toArray.size by simpa using hsz.symm] at this
  rw [Array.extract_size] at this
  have h2 := hp.2.2
  rw [show l.toArray.size = l'.toArray.size by simpa using hsz.symm] at h2
  rw [Array.extract_size] at h2
  refine h2.trans ?_
  rw [show l'.toArray.size = l.toArray.size by simpa using hsz, Array.extract_size]
 ·rw [ltOf_bl] at hs
  exact sortedIn_pw (by rw [hsz]; simpa using hs)
 ·refine rdE_cells ?_ (fun i hi k hk => ?_)
  ·simp [sortWorldK, putRowK]
   omega
  ·have hH2 := holds_putRow id (Sort.ahead w n) g 0 _ (flatK enc 3 l'.toArray) (show Holds id (Sort.ahead w n) g 0 (flatK enc 3 l.toArray) from hH) (by simp [hsz]) (i * 3 + k) (by simp; omega)
   rw [Nat.zero_add] at hH2
   unfold sortWorldK
   rw [cell?_grow _ _ _ (by simpa [putRowK] using hg)]
   exact hH2.1.trans (flat_at l' i k hi hk)
 ·exact grownBy_sortedE _
theorem infoE : (Try.prog.info? 61).map (fun i => (i.zero, i.size, i.bytes)) = some (some (.agg #[.int .i64 0, .int .i64 0, .int .i64 0]), 3, 24) := by kernel_rfl
theorem info_partsE {P : Program} {e : TypeId} {z : Value} {s b : Nat} (h : (P.info? e).map (fun i => (i.zero, i.size, i.bytes)) = some (some z, s, b)) : ∃ i, P.info? e = some i ∧ i.zero = some z ∧ i.size = s ∧ i.bytes = b := by
 obtain ⟨i, hi, he⟩ := Option.map_eq_some_iff.1 h
 simp at he
 exact ⟨i, hi, he.1, he.2.1, he.2.2⟩
theorem rdE_news {w : World} {b : Addr} {M : List Ed} (hr : RdE w (some b) M) : ∀ j u, (cellsE M)[j]? = some u → w.cell? (b.add j) = some u := by
 intro j u hj
 have hj' : j < M.length * 3 := by have := (List.getElem?_eq_some_iff.1 hj).1; rwa [cellsE_len] at this
 have hc := cellsE_at M (j / 3) (j % 3) (by omega) (by omega)
 rw [show j / 3 * 3 + j % 3 = j by omega, hj] at hc
 obtain ⟨b', hb', _, h0, h1, h2⟩ := hr (j / 3) (by omega)
 cases hb'
 have h3 : j % 3 = 0 ∨ j % 3 = 1 ∨ j % 3 = 2 := by omega
 rcases h3 with h3 | h3 | h3
 ·rw [h3] at hc
  simp [enc] at hc
  rw [hc, show j = j / 3 * 3 by omega]
  rw [show (j / 3 * 3) / 3 = j / 3 by omega]
  exact h0
 ·rw [h3] at hc
  simp [enc] at hc
  rw [hc]
  have e : b.add j = ⟨b.block, (b.add (j / 3 * 3)).off + 1, none⟩ := by
   rw [show j = j / 3 * 3 + 1 by omega, add_succ]
   rw [show (j / 3 * 3 + 1) / 3 = j / 3 by omega]
  rw [e]; exact h1
 ·rw [h3] at hc
  simp [enc] at hc
  rw [hc]
  have e : b.add j = ⟨b.block, (b.add (j / 3 * 3)).off + 2, none⟩ := by
   rw [show j = j / 3 * 3 + 1 + 1 by omega, add_succ, add_succ]
   rw [show (j / 3 * 3 + 1 + 1) / 3 = j / 3 by omega]
  rw [e]; exact h2
theorem wpList_append_rdE {w : World} {ops : Array Oper} {rest : List Oper} {o : Oper} {a : Act} {Q : Exit → Act → World → Prop} (hgd : o.guard = none) (s x : Operand)
  (ho : o.op = .call { callee := .builtin .append, args := #[s, x], argTypes := #[34, 34] }) (base : Nat) (v : Value) (n : Nat) (L : List Ed) (hs : a.eval s = v) (hown : w.ownsRow base 61 3 v n (cellsE L))
  (ad : Option Addr) (m c : Nat) (M : List Ed) (hx : a.eval x = .slice ad m c) (hm : m = M.length) (hr : RdE w ad M) (hz : ad = none → c = 0 ∧ m = 0) (hnm : n + m ≤ 100000) (hbase : base ≤ w.heap.size)
  (h : ∀ v' w', w'.ownsRow base 61 3 v' (n + m) (cellsE (L ++ M)) → w.grownBy w' v.ownBlock → (v'.ownBlock = v.ownBlock ∨ v'.ownBlock = some w.heap.size) → wpList Try.prog ops Q rest (a.put o.dst v') w') : wpList Try.prog ops Q (o :: rest) a w := by
 obtain ⟨i0, hi0, hz0, hz1, hz2⟩ := info_partsE infoE
 subst hm
 match ad, hr, hz, hx with
 | none, hr, hz, hx =>
  obtain ⟨rfl, h0⟩ := hz rfl
  obtain rfl : M = [] := List.eq_nil_of_length_eq_zero h0
  refine wpList_append_own_none hgd s x 34 ho base 61 i0 3 Try.underlying34 hi0 v n _ hs hown hx (h v w ?_ ⟨rfl, rfl, rfl, Nat.le_refl _, fun _ _ _ => rfl⟩ (.inl rfl))
  simpa using hown
 | some b, hr, hz, hx =>
  have hnews := rdE_news hr
  exact wpList_append_own_at w hgd s x 34 ho base 61 i0 (.agg #[.int .i64 0, .int .i64 0, .int .i64 0]) 3 24 Try.underlying34 hi0 hz0 hz1 hz2 rfl (by decide) v n (cellsE L) hs hown b M.length c (cellsE M) hx (cellsE_len M) hnews (cellsE_one M) (by unfold maxLen; omega) (by omega) hbase
   fun v' w' hown' hg _ hat => h v' w' (by rw [cellsE_app]; exact hown') hg hat
theorem below_app {W w' : World} {base : Nat} {v : Value} (hg : W.grownBy w' v.ownBlock) (hv : ∀ k, v.ownBlock = some k → base ≤ k) (hb : base ≤ W.heap.size) : Below base W w' :=
 ⟨hg.os, hg.tape, hg.output, hg.size, fun k hk => hg.block k (by omega) (fun e => by have := hv k e.symm; omega)⟩
def Out (base : Nat) (w : World) (a : Option Addr) (c : Nat) (l : List Ed) : Prop := RdE w a l ∧ (a = none → c = 0 ∧ l.length = 0) ∧ l.length ≤ c ∧ ∀ b, a = some b → base ≤ b.block
theorem out_nil (base : Nat) (w : World) : Out base w none 0 [] := ⟨fun i hi => by simp at hi, fun _ => ⟨rfl, rfl⟩, by simp, by simp⟩
theorem row_some {w : World} {base n k s : Nat} {e : TypeId} {v : Value} {xs : List Value} (h : w.ownsRow base e s v n xs) (hk : v.ownBlock = some k) : ∃ cap, v = .slice (some ⟨k, 0, none⟩) n cap := by
 rcases h.2 with ⟨rfl, _⟩ | ⟨g, cap, cur, rfl, _⟩
 ·cases hk
 ·cases hk; exact ⟨cap, rfl⟩
theorem row_mono {w : World} {base base' n : Nat} {e : TypeId} {v : Value} {s : Nat} {xs : List Value} (h : w.ownsRow base e s v n xs) (hb : base' ≤ base) : w.ownsRow base' e s v n xs := by
 refine ⟨h.1, ?_⟩
 rcases h.2 with h2 | ⟨g, cap, cur, h1, h2, h3⟩
 ·exact .inl h2
 ·exact .inr ⟨g, cap, cur, h1, Nat.le_trans hb h2, h3⟩
theorem rdE_one (W : World) (x y z : Int) : RdE (W.alloc (.cells #[.int .i64 x, .int .i64 y, .int .i64 z] 61)) (some ⟨W.heap.size, 0, none⟩) [(x, y, z)] := by
 have h : CellsAt (W.alloc (.cells #[.int .i64 x, .int .i64 y, .int .i64 z] 61)) W.heap.size 61 #[.int .i64 x, .int .i64 y, .int .i64 z] := World.alloc_heap_new W _
 refine rdE_cells h.lt (fun i hi k hk => ?_)
 obtain rfl : i = 0 := by simpa using hi
 rw [h.cell]
 have h3 : k = 0 ∨ k = 1 ∨ k = 2 := by omega
 rcases h3 with rfl | rfl | rfl <;> rfl
end Tp
end Sm
end Go.Proofs.Ytcnfdbkolbgbcaa
end
section
namespace Go.Proofs.Ytcnfdbkolbgbcaa
open Go.RowKit Go.Sort Go.WideMaps
set_option linter.unusedVariables false
set_option linter.unusedSimpArgs false
namespace Sm
def kl (k : Int × Int) : Lit := .string (keyBytes [.int .i64 k.1, .int .i64 k.2])
abbrev KV (k : Int × Int) : Value := .agg #[.int .i64 k.1, .int .i64 k.2]
def In2 (k : Int × Int) : Prop := In64 k.1 ∧ In64 k.2
theorem wf_i64 {x : Int} (h : In64 x) : (Lit.int .i64 x).wf = true := by
 obtain ⟨h1, h2⟩ := h
 simp [Lit.wf, IntKind.min, IntKind.max, IntKind.signed, IntKind.bits]
 omega
theorem in64_wf {x : Int} (h : (Lit.int .i64 x).wf = true) : In64 x := by
 simp [Lit.wf, IntKind.min, IntKind.max, IntKind.signed, IntKind.bits] at h
 exact ⟨by omega, by omega⟩
theorem arrK : ArrKey Try.prog 33 3 2 := ⟨Try.underlying33, by kernel_rfl, by kernel_rfl, by kernel_rfl⟩
theorem keyedK : Maps.Keyed Try.prog 33 := Maps.Keyed.of_law arrK.law
theorem types_pos : ∃ m, Try.prog.types.size = m + 1 := by
 have : 0 < Try.prog.types.size := of_decide_eq_true (by kernel_rfl)
 exact ⟨Try.prog.types.size - 1, by omega⟩
theorem keyLitsK (x y : Int) (hx : In64 x) (hy : In64 y) : Try.prog.keyLits (Try.prog.types.size + 1) 33 [.int .i64 x, .int .i64 y] = some [.int .i64 x, .int .i64 y] := by
 obtain ⟨m, hm⟩ := types_pos
 rw [hm]
 have c1 : Try.prog.cellsOf 3 = 1 := by kernel_rfl
 simp [Program.keyLits, Try.underlying33, Try.underlying3, arrK.size, c1, List.range_succ, wf_i64 hx, wf_i64 hy]
theorem keyOfK (k : Int × Int) (h : In2 k) : keyOf Try.prog 33 (KV k) = some (kl k) := by
 have h1 : Try.prog.keyType 33 = true := arrK.keyType types_pos
 have h2 : (KV k).formed Try.prog 33 = true := by simp [Value.formed, Try.underlying33, arrK.size]
 unfold keyOf
 simp only [Try.underlying33, h1, h2, Value.cells, keyLitsK k.1 k.2 h.1 h.2, Bool.and_self, if_true, Option.map_some]
 rfl
theorem keyOfK_inv {v : Value} {l : Lit} (h : keyOf Try.prog 33 v = some l) : ∃ k, v = KV k ∧ In2 k ∧ l = kl k := by
 have h0 := h
 unfold keyOf at h
 simp only [Try.underlying33] at h
 split at h
 ·rename_i hf
  simp only [Bool.and_eq_true] at hf
  obtain ⟨ls, hls, rfl⟩ := Option.map_eq_some_iff.1 h
  cases v with
  | agg cs =>
   have hsz : cs.size = 2 := by
    have := hf.2
    simpa [Value.formed, Try.underlying33, arrK.size] using this
   obtain ⟨m, hm⟩ := types_pos
   rw [hm] at hls
   obtain ⟨a, b, rfl⟩ : ∃ a b, cs = #[a, b] := by
    obtain ⟨l⟩ := cs
    rcases l with _ | ⟨a, _ | ⟨b, _ | ⟨d, l⟩⟩⟩
    ·simp at hsz
    ·simp at hsz
    ·exact ⟨a, b, rfl⟩
    ·simp at hsz
   have c1 : Try.prog.cellsOf 3 = 1 := by kernel_rfl
   simp [Program.keyLits, Try.underlying33, Try.underlying3, arrK.size, c1, List.range_succ, Value.cells] at hls
   cases a with
   | int q n =>
    by_cases hq : q = IntKind.i64 ∧ (Lit.int IntKind.i64 n).wf = true
    ·obtain ⟨rfl, hw⟩ := hq
     cases b with
     | int q2 n2 =>
      by_cases hq2 : q2 = IntKind.i64 ∧ (Lit.int IntKind.i64 n2).wf = true
      ·obtain ⟨rfl, hw2⟩ := hq2
       simp [hw, hw2] at hls
       subst hls
       exact ⟨(n, n2), rfl, ⟨in64_wf hw, in64_wf hw2⟩, rfl⟩
      ·simp [hw, hq2] at hls
     | _ => simp [hw] at hls
    ·simp [hq] at hls
   | _ => simp at hls
  | _ => simp [Value.formed, Try.underlying33] at hf
 ·cases h
theorem kl_inj {a b : Int × Int} (ha : In2 a) (hb : In2 b) (h : kl a = kl b) : a = b := by
 have h1 := keyOfK a ha
 have h2 := keyOfK b hb
 rw [h] at h1
 have := keyedK.inj h1 h2
 simp at this
 exact Prod.ext this.1 this.2
abbrev KW := (Int × Int) → Option V
def RW (v : Value) : Option (DataW Unit × List MemPlace) :=
 match v with
 | .agg cs => match cs.toList with
  | [.int .i64 h, .int .u64 l] => some (.agg [.lit (.int .i64 h), .lit (.int .u64 l)], [])
  | _ => none
 | _ => none
def dW (z : V) : DataW Unit := .agg [.lit (.int .i64 z.1), .lit (.int .u64 z.2)]
theorem RW_W (z : V) : RW (WV z) = some (dW z, []) := rfl
theorem RW_inv {v : Value} {y : DataW Unit × List MemPlace} (h : RW v = some y) : ∃ c : Int × Int, v = .agg #[.int .i64 c.1, .int .u64 c.2] ∧ y = (.agg [.lit (.int .i64 c.1), .lit (.int .u64 c.2)], []) := by
 unfold RW at h
 split at h
 ·rename_i cs
  obtain ⟨cs⟩ := cs
  split at h
  ·rename_i h2
   cases h
   simp at h2
   subst h2
   exact ⟨(_, _), rfl, rfl⟩
  ·cases h
 ·cases h
theorem RW_W_inv {v : Value} {ps : List MemPlace} {z : V} (h : RW v = some (dW z, ps)) : v = WV z := by
 obtain ⟨c, rfl, hc⟩ := RW_inv h
 simp [dW] at hc
 simp [hc.1.1, hc.1.2]
def FitF (D : DataW Unit) (f : KW) : Prop := ∀ k, In2 k → (Maps.has D (kl k) = (f k).isSome) ∧ (∀ z, f k = some z → ∀ zd, D.atKey (kl k) zd = dW z)
def MapF (w : World) (b n : Nat) (f : KW) : Prop := ∃ D, w.ownsMap Try.prog 33 RW b n D ∧ FitF D f
def setF (f : KW) (k : Int × Int) (z : V) : KW := fun k' => if k' = k then some z else f k'
theorem MapF.lt {w : World} {b n : Nat} {f : KW} (h : MapF w b n f) : b < w.heap.size := by obtain ⟨D, h, _⟩ := h; exact h.lt
theorem MapF.kept {w w' : World} {b n : Nat} {f : KW} {row : Option Nat} (h : MapF w b n f) (hg : w.grownBy w' row) (hne : some b ≠ row) : MapF w' b n f := by
 obtain ⟨D, h, hF⟩ := h
 exact ⟨D, h.kept hg hne, hF⟩
theorem MapF.new (w : World) : MapF (w.alloc (.map #[] 0)) w.heap.size 0 (fun _ => none) :=
 ⟨_, World.ownsMap_made w _ _ _, fun k hk => ⟨rfl, fun z hz => by cases hz⟩⟩
theorem keyLitK {k : Int × Int} (h : In2 k) : WideAt.IsKeyLit (kl k) := keyedK.key (keyOfK k h)
theorem FitF.put {D : DataW Unit} {f : KW} (hm : Maps.IsMap D) (h : FitF D f) {k : Int × Int} (hk : In2 k) (z : V) : FitF (D.put (kl k) (dW z)) (setF f k z) := by
 intro k' hk'
 by_cases e : k' = k
 ·subst e
  refine ⟨by rw [Maps.has_put_same hm (keyLitK hk)]; simp [setF], fun z' hz' zd => ?_⟩
  simp [setF] at hz'
  rw [Maps.atKey_put_same hm (keyLitK hk), hz']
 ·have hne : kl k' ≠ kl k := fun h => e (kl_inj hk' hk h)
  refine ⟨by rw [Maps.has_put_other hne]; simp [setF, e, (h k' hk').1], fun z' hz' zd => ?_⟩
  simp [setF, e] at hz'
  rw [Maps.atKey_put_other hne, (h k' hk').2 z' hz']
section
variable (w : World) {ops : Array Oper} {rest : List Oper} {o : Oper} {a : Act} {Q : Exit → Act → World → Prop}
theorem wpList_lookupF (hg : o.guard = none) (m x : Operand) (hop : o.op = Op.lookup 77 m x true) (b n : Nat) (f : KW) (k : Int × Int)
  (hm : a.eval m = .map (some b)) (hown : MapF w b n f) (hx : a.eval x = KV k) (hk : In2 k)
  (h0 : f k = none → wpList Try.prog ops Q rest (a.put o.dst (.tuple #[.agg #[.int .i64 0, .int .u64 0], .bool false])) w)
  (h1 : ∀ z, f k = some z → wpList Try.prog ops Q rest (a.put o.dst (.tuple #[WV z, .bool true])) w) :
  wpList Try.prog ops Q (o :: rest) a w := by
 obtain ⟨D, hown, hF⟩ := hown
 refine wpList_lookup_own_ok w hg m x _ hop 33 80 keyedK Try.underlying77 RW (z := WV (0, 0)) ?_ (dW (0, 0)) [] (RW_W (0, 0)) b n D hm hown (KV k) (kl k) hx (keyOfK k hk) ?_
 ·exact Try.zeroValue80 w
 ·intro v ps hv
  cases hf : f k with
  | none =>
   have := (hF k hk).1
   rw [hf] at this
   have ha := Maps.atKey_of_not_has (D := D) (k := kl k) (by simpa using this) (dW (0, 0))
   rw [ha] at hv
   rw [RW_W_inv hv, this]
   exact h0 hf
  | some z =>
   have := (hF k hk).1
   rw [hf] at this
   rw [(hF k hk).2 z hf] at hv
   rw [RW_W_inv hv, this]
   exact h1 z hf
theorem wpList_updateF (hg : o.guard = none) (m x v : Operand) (hop : o.op = Op.mapUpdate 77 m x v) (b n : Nat) (f : KW) (k : Int × Int) (z : V) (hn : n < maxLen)
  (hm : a.eval m = .map (some b)) (hown : MapF w b n f) (hx : a.eval x = KV k) (hv : a.eval v = WV z) (hk : In2 k)
  (hK : ∀ w', MapF w' b (n + 1) (setF f k z) → w.grownBy w' (some b) → wpList Try.prog ops Q rest (a.put o.dst undef) w') :
  wpList Try.prog ops Q (o :: rest) a w := by
 obtain ⟨D, hown, hF⟩ := hown
 refine wpList_mapUpdate_in w hg m x v _ hop 33 80 keyedK Try.underlying77 RW b n D hm hown hn (KV k) (WV z) (kl k) hx hv (keyOfK k hk) (dW z) [] (RW_W z) ?_
 intro w' hown' ht
 exact hK w' ⟨_, hown', hF.put hown.isMap hk z⟩ ht.grown
theorem wpList_lenF (hg : o.guard = none) (m : Operand) (hop : o.op = Op.call { callee := Callee.builtin Builtin.len, args := #[m], argTypes := #[77] }) (b n : Nat) (f : KW) (hm : a.eval m = .map (some b)) (hown : MapF w b n f)
  (hK : ∀ k : Nat, k ≤ n → wpList Try.prog ops Q rest (a.put o.dst (.int .i64 k)) w) : wpList Try.prog ops Q (o :: rest) a w := by
 obtain ⟨D, hown, hF⟩ := hown
 exact wpList_len_own w hg m _ hop 33 80 Try.underlying77 RW b n D hm hown (hK _ hown.size_le)
def RangF (w : World) (b r n : Nat) (f : KW) (done : List ((Int × Int) × V)) : Prop :=
 ∃ D left cnt, w.ranges Try.prog 33 RW b r n D left cnt ∧ FitF D f ∧ (∀ k, In2 k → (left (kl k) = true ↔ (f k).isSome = true ∧ k ∉ done.map (·.1))) ∧ (done.map (·.1)).Nodup ∧ (∀ p ∈ done, In2 p.1 ∧ f p.1 = some p.2) ∧ done.length + cnt ≤ n
theorem RangF.kept {w w' : World} {b r n : Nat} {f : KW} {done : List ((Int × Int) × V)} {row : Option Nat} (h : RangF w b r n f done) (hg : w.grownBy w' row) (hb : some b ≠ row) (hr : some r ≠ row) : RangF w' b r n f done := by
 obtain ⟨D, left, cnt, h, h2⟩ := h
 exact ⟨D, left, cnt, h.kept hg hb hr, h2⟩
theorem RangF.left {w w' : World} {b r n : Nat} {f : KW} {done : List ((Int × Int) × V)} {row : Option Nat} (h : RangF w b r n f done) (hg : w.grownBy w' row) (hb : some b ≠ row) (hr : some r ≠ row) : w'.rangeLeft b r = w.rangeLeft b r := by
 obtain ⟨D, left, cnt, h, h2⟩ := h
 rw [(h.kept hg hb hr).left_eq, h.left_eq]
theorem RangF.facts {w : World} {b r n : Nat} {f : KW} {done : List ((Int × Int) × V)} (h : RangF w b r n f done) : (done.map (·.1)).Nodup ∧ (∀ p ∈ done, In2 p.1 ∧ f p.1 = some p.2) ∧ done.length ≤ n := by
 obtain ⟨D, left, cnt, h, _, _, h2, h3, h4⟩ := h
 exact ⟨h2, h3, by omega⟩
theorem RangF.lt {w : World} {b r n : Nat} {f : KW} {done : List ((Int × Int) × V)} (h : RangF w b r n f done) : r < w.heap.size ∧ b < w.heap.size := by
 obtain ⟨D, left, cnt, h, h2⟩ := h
 exact ⟨h.lt, h.owns.lt⟩
theorem wpList_rangeF (hg : o.guard = none) (m : Operand) (hop : o.op = Op.range 77 m) (b n : Nat) (f : KW) (hm : a.eval m = .map (some b)) (hown : MapF w b n f)
  (hK : ∀ w', RangF w' b w.heap.size n f [] → w.grownBy w' none → w'.heap.size = w.heap.size + 1 → wpList Try.prog ops Q rest (a.put o.dst (.pointer (some ⟨w.heap.size, 0, none⟩))) w') :
  wpList Try.prog ops Q (o :: rest) a w := by
 obtain ⟨D, hown, hF⟩ := hown
 refine wpList_range_own w hg m _ hop 33 80 keyedK Try.underlying77 RW b n D hm hown ?_
 intro w' hr hgr hs
 refine hK w' ⟨D, _, _, hr, hF, fun k hk => ?_, by simp, by simp, by simpa using hown.size_le⟩ hgr hs
 rw [(hF k hk).1]
 simp
theorem wpList_nextF (hg : o.guard = none) (it : Operand) (hop : o.op = Op.next it false) (b r n : Nat) (f : KW) (done : List ((Int × Int) × V)) (hit : a.eval it = .pointer (some ⟨r, 0, none⟩)) (h : RangF w b r n f done)
  (hDone : (∀ k, In2 k → ∀ z, f k = some z → (k, z) ∈ done) → wpList Try.prog ops Q rest (a.put o.dst (.tuple #[.bool false])) w)
  (hMore : ∀ (k : Int × Int) (z : V) (w' : World), RangF w' b r n f (done ++ [(k, z)]) → w'.rangeLeft b r < w.rangeLeft b r → w.grownBy w' (some r) → w'.heap.size = w.heap.size → (Instr.entry (.pointer (some ⟨r, 0, none⟩))).run Try.prog w' = .ok (.tuple #[KV k, WV z]) w' → wpList Try.prog ops Q rest (a.put o.dst (.tuple #[.bool true, KV k, WV z])) w') :
  wpList Try.prog ops Q (o :: rest) a w := by
 obtain ⟨D, left, cnt, hr, hF, hl, hnd, hdn, hcn⟩ := h
 refine wpList_next_ranges w hg it hop 33 keyedK RW KV (fun c : Int × Int => .agg #[.int .i64 c.1, .int .u64 c.2]) (fun key l hkey => by obtain ⟨k, e, _⟩ := keyOfK_inv hkey; exact ⟨k, e⟩) (fun v y hv => by obtain ⟨c, e, _⟩ := RW_inv hv; exact ⟨c, e⟩) b r n D left cnt hit hr ?_ ?_
 ·intro _ hno
  refine hDone fun k hk z hz => ?_
  have h1 := hl k hk
  rw [hno] at h1
  have h2 : k ∈ done.map (·.1) := Decidable.byContradiction fun hn => by
   have := h1.2 ⟨by rw [hz]; rfl, hn⟩
   cases this
  obtain ⟨p, hp, rfl⟩ := List.mem_map.1 h2
  have h3 := (hdn p hp).2
  rw [hz] at h3
  cases h3
  exact hp
 ·intro k c l y w' cnt' hkey hlk hy hat hrg hlt hgr hsz hen
  obtain ⟨k', e1, hk, rfl⟩ := keyOfK_inv hkey
  obtain rfl : k = k' := by simp at e1; exact Prod.ext e1.1 e1.2
  have hk1 := (hl k hk).1 hlk
  obtain ⟨z, hz⟩ := Option.isSome_iff_exists.1 hk1.1
  have h4 := (hF k hk).2 z hz (dW z)
  rw [hat] at h4
  obtain ⟨c', e2, e3⟩ := RW_inv hy
  have e4 : (.agg #[.int .i64 c.1, .int .u64 c.2] : Value) = WV z := RW_W_inv (ps := y.2) (by rw [hy, ← h4])
  rw [e4] at hen ⊢
  refine hMore k z w' ⟨D, _, cnt', hrg, hF, fun k' hk' => ?_, ?_, ?_, by simp; omega⟩ (by rw [hrg.left_eq, hr.left_eq]; exact hlt) hgr hsz hen
  ·by_cases e : k' = k
   ·subst e
    rw [WideAt.sameKey_self (keyLitK hk)]
    simp
   ·rw [Maps.sameKey_ne (fun h => e (kl_inj hk' hk h))]
    have := hl k' hk'
    simp [e] at this ⊢
    exact this
  ·rw [List.map_append, List.nodup_append]
   refine ⟨hnd, by simp, ?_⟩
   intro x hx y hy e
   simp at hy
   subst hy; subst e
   exact hk1.2 hx
  ·intro p hp
   rcases List.mem_append.1 hp with hp | hp
   ·exact hdn p hp
   ·simp at hp
    subst hp
    exact ⟨hk, hz⟩
end
theorem MapF.alloc {w : World} {b n : Nat} {f : KW} (h : MapF w b n f) (o : Obj) : MapF (w.alloc o) b n f := h.kept (World.grownBy_alloc w o none) (by simp)
theorem upd_none {R : Rg} {f : KW} {e : Ed} (h : f (key e) = none) : upd R f e = setF f (key e) (R.o e.2.2) := by
 funext k; simp [upd, setF, h]
theorem upd_some {R : Rg} {f : KW} {e : Ed} {s : V} (h : f (key e) = some s) : upd R f e = setF f (key e) (R.ad s (R.o e.2.2)) := by
 funext k; simp [upd, setF, h]
end Sm
end Go.Proofs.Ytcnfdbkolbgbcaa
end
section
namespace Go.Proofs.Ytcnfdbkolbgbcaa
open Go.RowKit Go.Sort
set_option linter.unusedVariables false
set_option linter.unusedSimpArgs false
namespace Sm
namespace Tp
def InE (e : Ed) : Prop := In64 e.1 ∧ In64 e.2.1 ∧ In64 e.2.2
theorem makeMapK (V : World) : (Instr.makeMap 77 none).run Try.prog V = .ok (.map (some V.heap.size)) (V.alloc (.map #[] 0)) := by
 simp [Instr.makeMap, run_underlying Try.underlying77, asInt, asIntOf, Result.andThen]
set_option maxRecDepth 100000 in
set_option maxHeartbeats 4000000 in
theorem walked (r : Int) (R : Rg) (a : Option Addr) (l : List Ed) (c : Nat) (w : World) (hO : ∀ W, Below w.heap.size w W → Calls Try.prog 74 #[.slice a l.length c] W fun e w' => e = .returned (.bool false) ∧ Below W.heap.size W w')
  (hOf : ∀ x, In64 x → ∀ W, Below w.heap.size w W → Calls Try.prog 56 #[.int .i64 x] W fun e w' => e = .returned (WV (R.o x)) ∧ Below W.heap.size W w')
  (hAdd : ∀ x y W, Below w.heap.size w W → Calls Try.prog 55 #[.int .i64 r, WV x, WV y] W fun e w' => e = .returned (WV (R.ad x y)) ∧ Below W.heap.size W w')
  (hNar : ∀ x W, Below w.heap.size w W → Calls Try.prog 57 #[.int .i64 r, WV x] W fun e w' => e = .returned (.tuple #[.int .i64 (R.na x).1, .bool (R.na x).2]) ∧ Below W.heap.size W w')
  (hr : RdE w a l) (hI : ∀ e ∈ l, InE e) (hl : l.length ≤ 90000) :
  Calls Try.prog 38 #[.int .i64 r, .slice a l.length c] w fun e w' => ∃ a' c', e = .returned (.tuple #[.slice a' (sumR R l).1.length c', .int .i64 (sumR R l).2]) ∧ Out w.heap.size w' a' c' (sumR R l).1 ∧ Below w.heap.size w w' ∧ ((sumR R l).2 ≠ 0 → a' = none) := by
 obtain ⟨n, hn⟩ : ∃ n, n = l.length := ⟨_, rfl⟩
 rw [← hn] at hl hO ⊢
 have HN := Lib.hid hn
 clear hn
 generalize hcr : sumR R l = RS
 have HCR := Lib.hid hcr
 clear hcr
 have HOf := Lib.hid hOf
 have HAdd := Lib.hid hAdd
 have HNar := Lib.hid hNar
 clear hOf hAdd hNar
 have HORD := Lib.hid hO
 clear hO
 go_enter Try.func38, Try.ntmps38
 go_wp2_with fail
 refine (HORD.out w (Below.refl _ _)).mono ?_
 rintro x V ⟨rfl, hbw⟩
 clear HORD
 have hmk := makeMapK V
 have hM0 := MapF.new V
 go_wp2_with fail
 obtain ⟨B, hB⟩ : ∃ B, B = V.heap.size := ⟨_, rfl⟩
 have hb1 := bl1 V (.map #[] 0)
 rw [← hB] at hM0 ⊢
 generalize V.alloc (.map #[] 0) = W1 at hM0 hb1 ⊢
 have hVB : w.heap.size ≤ B := by rw [hB]; exact hbw.size
 have hbw1 : Below w.heap.size w W1 := hbw.trans (hb1.mono hbw.size)
 clear hmk hB hb1 hbw
 go_loopw [23] (fun y wr => ∃ j : Nat, y = .int .i64 (j : Int) ∧ j ≤ n ∧ MapF wr B j (fm R (l.take j)) ∧ Below w.heap.size w wr) (fun y _ => n - (intOf y).toNat)
 case atStart => exact ⟨0, rfl, by omega, hM0, hbw1⟩
 case round =>
  clear hM0 hbw1
  obtain ⟨j, rfl, hj, hM, hBw⟩ := hrel
  by_cases hlt : (j : Int) < (n : Int)
  ·obtain ⟨b, rfl, hbl, c0, c1, c2⟩ := (hr.below hBw) j (by rw [← HN.out]; omega)
   have j0 : (0 : Int) ≤ (j : Int) := by omega
   have kb := Has.of hbl
   have hIe := hI _ (el_mem (show j < l.length by rw [← HN.out]; omega))
   have hk : In2 (key (el l j)) := ⟨hIe.1, hIe.2.1⟩
   have hw1 := hIe.2.2
   have HT := Lib.hid (fm_snoc R (l.take j) (el l j))
   have HT2 := Lib.hid (take_el (l := l) (j := j) (by rw [← HN.out]; omega))
   generalize hf : fm R (l.take j) = f at hM HT
   clear hf
   obtain ⟨ej, hej⟩ : ∃ ej, ej = el l j := ⟨_, rfl⟩
   rw [← hej] at c0 c1 c2 hk hw1 HT HT2
   clear hej hIe
   go_wp2_with (at_lookup; refine wpList_lookupF _ rfl _ _ rfl B j f (key ej) rfl ((hM.alloc _).alloc _) rfl hk ?_ ?_)
   ·intro hf
    rw [upd_none hf] at HT
    go_wp2_with fail
    refine wp_region_grown_tail 5 (by kernel_rfl) (by kernel_rfl) ?_
    simp only [List.take_succ_cons, List.take_zero, List.drop_succ_cons, List.drop_zero]
    repeat (go_big_quiet_step (first | (go_at_call 56; exact Calls.regrown_of (HOf.out _ hw1 _ (hBw.trans (Below.mono (show Below wr.heap.size wr _ from (by repeat (first | with_reducible refine blg ?_ _ _ | with_reducible refine bla ?_ _ | with_reducible exact Below.refl _ _))) hBw.size))))))
    refine wpQuiet_nil ?_
    rintro _ ⟨⟨d2, o2⟩, rfl⟩
    go_wp2_with (at_mapUpdate; refine wpList_updateF _ rfl _ _ _ rfl B j f (key ej) (R.o ej.2.2) (by unfold maxLen; omega) rfl ((((hM.alloc _).alloc _).alloc _).kept (grownBy_of_below (below_regrown _ _ _) none) (by simp)) rfl rfl hk ?_; intro w' hM' hg')
    refine ⟨?_, by simp [intOf]; omega⟩
    refine ⟨j + 1, by simp, by omega, by rw [HT2.out, HT.out]; exact hM', ?_⟩
    have hbU : Below wr.heap.size wr (grow (redrawn (((wr.alloc (.cells #[.int .i64 ej.1, .int .i64 ej.2.1, .int .i64 ej.2.2] 61)).alloc (.cells #[.int .i64 ej.1, .int .i64 ej.2.1] 33)).alloc (.cells #[.int .i64 0, .int .u64 0] 80)) d2) o2) := (by repeat (first | with_reducible refine blg ?_ _ _ | with_reducible refine bla ?_ _ | with_reducible exact Below.refl _ _))
    exact (hBw.trans (hbU.mono hBw.size)).trans (below_of_grownBy hg' (hBw.trans (hbU.mono hBw.size)).size hVB)
   ·intro z1 z2 hf
    rw [upd_some hf] at HT
    go_wp2_with fail
    refine wp_region_grown_tail 8 (by kernel_rfl) (by kernel_rfl) ?_
    simp only [List.take_succ_cons, List.take_zero, List.drop_succ_cons, List.drop_zero]
    repeat (go_big_quiet_step (first | (go_at_call 56; exact Calls.regrown_of (HOf.out _ hw1 _ (hBw.trans (Below.mono (show Below wr.heap.size wr _ from (by repeat (first | with_reducible refine blg ?_ _ _ | with_reducible refine bla ?_ _ | with_reducible exact Below.refl _ _))) hBw.size)))) | (go_at_call 55; exact Calls.regrown_of (HAdd.out (z1, z2) _ _ (hBw.trans (Below.mono (show Below wr.heap.size wr _ from (by repeat (first | with_reducible refine blg ?_ _ _ | with_reducible refine bla ?_ _ | with_reducible exact Below.refl _ _))) hBw.size))))))
    refine wpQuiet_nil ?_
    rintro _ ⟨⟨d2, o2⟩, rfl⟩
    go_wp2_with (at_mapUpdate; refine wpList_updateF _ rfl _ _ _ rfl B j f (key ej) (R.ad (z1, z2) (R.o ej.2.2)) (by unfold maxLen; omega) rfl ((((hM.alloc _).alloc _).alloc _).kept (grownBy_of_below (below_regrown _ _ _) none) (by simp)) rfl rfl hk ?_; intro w' hM' hg')
    refine ⟨?_, by simp [intOf]; omega⟩
    refine ⟨j + 1, by simp, by omega, by rw [HT2.out, HT.out]; exact hM', ?_⟩
    have hbU : Below wr.heap.size wr (grow (redrawn (((wr.alloc (.cells #[.int .i64 ej.1, .int .i64 ej.2.1, .int .i64 ej.2.2] 61)).alloc (.cells #[.int .i64 ej.1, .int .i64 ej.2.1] 33)).alloc (.cells #[.int .i64 z1, .int .u64 z2] 80)) d2) o2) := (by repeat (first | with_reducible refine blg ?_ _ _ | with_reducible refine bla ?_ _ | with_reducible exact Below.refl _ _))
    exact (hBw.trans (hbU.mono hBw.size)).trans (below_of_grownBy hg' (hBw.trans (hbU.mono hBw.size)).size hVB)
  ·obtain rfl : j = n := by omega
   have hle := hBw.size
   rw [List.take_of_length_le (by rw [← HN.out]; exact Nat.le_refl _)] at hM
   clear hlt hj
   obtain ⟨i0, hi0, hz0, hz1, hz2⟩ := info_partsE infoE
   go_wp2_with (first
    | (at_len; refine wpList_lenF _ rfl _ rfl B j (fm R l) rfl hM ?_; intro m hm; obtain ⟨V2, hmk, hown, hgn⟩ := run_makeSlice_owned (P := Try.prog) (w := wr) wr.heap.size 34 61 i0 (.agg #[.int .i64 0, .int .i64 0, .int .i64 0]) 3 Try.underlying34 hi0 hz0 hz1 .i64 .i64 m (by omega) (by rw [hz2]; omega) (by unfold maxLen; omega) (Nat.le_refl _); have hM2 := hM.kept hgn (by simp))
    | (at_range; refine wpList_rangeF _ rfl _ rfl B j (fm R l) rfl hM2 ?_; intro V3 hR3 hg3 hs3))
   have hBl := hM.lt
   have hB2 : Below w.heap.size w V2 := hBw.trans ((below_of_grownNone hgn).mono hle)
   obtain ⟨g0, hg0⟩ : ∃ g0, g0 = wr.heap.size := ⟨_, rfl⟩
   rw [← hg0] at hown hBl ⊢
   have hg0V : g0 < V2.heap.size := (hown.lt g0 rfl).2
   have hwg : w.heap.size ≤ g0 := by rw [hg0]; exact hle
   clear hmk hM hgn hg0 hBw hle
   have hown3 := hown.kept hg3 (.inr (by simp [Value.ownBlock]))
   have hB3 : Below w.heap.size w V3 := hB2.trans ((below_of_grownNone hg3).mono hB2.size)
   obtain ⟨ri, hri⟩ : ∃ ri, ri = V2.heap.size := ⟨_, rfl⟩
   rw [← hri] at hR3 hg0V ⊢
   have hwr : w.heap.size ≤ ri := by rw [hri]; exact hB2.size
   clear hM2 hown hg3 hs3 hri hB2
   go_frame
   go_loopw [12] (fun v wr => ∃ done, RangF wr B ri j (fm R l) done ∧ wr.ownsRow w.heap.size 61 3 v done.length (cellsE (done.map (toE R))) ∧ (∃ k, v.ownBlock = some k ∧ k ≠ ri ∧ k ≠ B) ∧ (∀ p ∈ done, (R.na p.2).2 = true) ∧ Below w.heap.size w wr) (fun _ wr => wr.rangeLeft B ri)
   case atStart => exact ⟨[], hR3, row_mono hown3 hwg, ⟨g0, rfl, by omega, by omega⟩, by simp, hB3⟩
   case round =>
    clear hR3 hown3 hB3
    obtain ⟨done, hR, hown, ⟨kb, hkb, hk1, hk2⟩, hnb, hBw⟩ := hrel
    have hRl := hR.lt
    obtain ⟨cap, rfl⟩ := row_some hown hkb
    clear hkb
    go_wp2_with (at_next; refine wpList_nextF _ rfl _ rfl B ri j (fm R l) done rfl hR ?_ ?_)
    ·intro hall
     have hT : done.Perm (canS R l) := (rep_can R l).perm hR.facts.1 (fun p hp => (hR.facts.2.1 p hp).2) (fun k z hkz => hall k.1 k.2 (by obtain ⟨e, he, rfl⟩ := fm_some hkz; exact ⟨(hI e he).1, (hI e he).2.1⟩) z.1 z.2 hkz)
     have hR0 : sumR R l = ((canS R l).map (toE R), 0) := sumR_all (fun k z hkz => hnb (k, z) (hall k.1 k.2 (by obtain ⟨e, he, rfl⟩ := fm_some hkz; exact ⟨(hI e he).1, (hI e he).2.1⟩) z.1 z.2 hkz))
     rw [HCR.out] at hR0
     have hdl : done.length ≤ j := hR.facts.2.2
     have hkl := hown.lt kb rfl
     have hcap0 : done.length ≤ cap := by
      rcases hown.2 with ⟨h, _⟩ | ⟨g, cap1, cur, h, _, _, h5, _⟩
      ·cases h
      ·cases h; exact h5
     have HSO := sortF_any kb cap (done.map (toE R)) wr hkl.2 (fun i hi k hk => by rw [hown.cellAt (i * 3 + k) (by simp at hi; omega), cellsE_at _ i k hi hk]) (fun j => hown.frozenAt j) (by simp; omega)
     rw [List.length_map] at HSO
     clear hR hall
     go_wp2_with fail
     refine HSO.mono ?_
     rintro x w1 ⟨rfl, l', hp, hs, hrd, hg⟩
     go_wp2
     go_ret2
     have hl' := sorted_is R l l' done hT hp hs
     have hlen : done.length = l'.length := by have := hp.length_eq; simpa using this.symm
     rw [hlen] at hcap0
     refine ⟨some ⟨kb, 0, none⟩, cap, ?_, by rw [hR0, ← hl']; exact ⟨hrd, by simp, hcap0, fun b hb => by cases hb; exact hkl.1⟩, hBw.trans ((below_of_grownBy hg hBw.size hkl.1).mono (Nat.le_refl _)), fun h => absurd (by rw [hR0]) h⟩
     rw [hR0, hlen, hl']
     rfl
    ·intro k1 k2 z1 z2 w' hR' hlt hg hs hen
     have hown' := hown.kept hg (.inr (by simp [Value.ownBlock]; exact hk1))
     have hB' : Below w.heap.size w w' := hBw.trans ((below_of_grownBy hg hBw.size hwr).mono (Nat.le_refl _))
     clear hown hR
     have hwl : w'.heap.size = wr.heap.size := hs
     go_wp2_with fail
     obtain ⟨U, hU⟩ : ∃ U, U = (w'.alloc (.cells #[.int .i64 k1, .int .i64 k2] 33)).alloc (.cells #[.int .i64 z1, .int .u64 z2] 80) := ⟨_, rfl⟩
     rw [← hU]
     have hCU : CellsAt U wr.heap.size 33 #[.int .i64 k1, .int .i64 k2] := by
      have h1 : CellsAt (w'.alloc (.cells #[.int .i64 k1, .int .i64 k2] 33)) w'.heap.size 33 #[.int .i64 k1, .int .i64 k2] := World.alloc_heap_new w' _
      rw [hU, ← hwl]
      exact h1.below (bl1 _ _)
     have hbU : Below w'.heap.size w' U := by rw [hU]; exact bl2 _ _ _
     have hU1 : wr.heap.size < U.heap.size := by rw [hU]; simp; omega
     clear hU hen
     refine (HNar.out (z1, z2) U (hB'.trans (hbU.mono hB'.size))).mono ?_
     rintro x w1 ⟨rfl, hb1⟩
     have hC1 := hCU.below hb1
     have c0 : w1.cell? ⟨wr.heap.size, 0, none⟩ = some (.int .i64 k1) := hC1.cell 0
     have c1 : w1.cell? ⟨wr.heap.size, 1, none⟩ = some (.int .i64 k2) := hC1.cell 1
     have kg := Has.of hC1.lt
     have hbW : Below w'.heap.size w' w1 := hbU.trans (hb1.mono hbU.size)
     have hRW := hR'.kept (grownBy_of_below hbW none) (by simp) (by simp)
     have hownW := hown'.kept (grownBy_of_below hbW none) (.inr (by simp [Value.ownBlock]))
     have hBW : Below w.heap.size w w1 := hB'.trans (hbW.mono hB'.size)
     have hlW := hR'.left (grownBy_of_below hbW none) (by simp) (by simp)
     have hfz := hR'.facts
     clear hbU hb1 hCU hC1 hown'
     cases hz : (R.na (z1, z2)).2
     ·have hR0 := sumR_over (R := R) (l := l) (hfz.2.1 ((k1, k2), (z1, z2)) (by simp)).2 hz
      rw [HCR.out] at hR0
      go_wp2_with fail
      go_ret2
      refine ⟨none, 0, by rw [hR0]; rfl, ?_, hBW, fun _ => rfl⟩
      rw [hR0]
      exact out_nil _ _
     ·have hdl : done.length + 1 ≤ j := by have := hfz.2.2; simpa using this
      go_wp2_with (refine wpList_append_rdE rfl _ _ rfl w.heap.size _ done.length (done.map (toE R)) rfl (hownW.alloc _) _ 1 1 [(k1, k2, (R.na (z1, z2)).1)] rfl rfl (rdE_one _ _ _ _) (by simp) (by omega) (by have := hBW.size; simp; omega) ?_; intro v' w2 hown2 hg2 hat2)
      have hg2' : (w1.alloc (.cells #[.int .i64 k1, .int .i64 k2, .int .i64 ((R.na (z1, z2)).1)] 61)).grownBy w2 (some kb) := hg2
      have hat2' : v'.ownBlock = some kb ∨ v'.ownBlock = some (w1.alloc (.cells #[.int .i64 k1, .int .i64 k2, .int .i64 ((R.na (z1, z2)).1)] 61)).heap.size := hat2
      have hga := World.grownBy_alloc w1 (.cells #[.int .i64 k1, .int .i64 k2, .int .i64 ((R.na (z1, z2)).1)] 61) none
      have hkbl := (hownW.lt kb rfl).1
      have hRA := hRW.kept hga (by simp) (by simp)
      have hlA := hRW.left hga (by simp) (by simp)
      have hB1s := hRW.lt
      refine ⟨⟨done ++ [((k1, k2), (z1, z2))], hRA.kept hg2' (by simp; exact Ne.symm hk2) (by simp; exact Ne.symm hk1), ?_, ?_, ?_, ?_⟩, ?_⟩
      ·simpa [toE] using hown2
      ·rcases hat2' with e | e
       ·exact ⟨kb, e, hk1, hk2⟩
       ·exact ⟨_, e, by simp; omega, by simp; omega⟩
      ·intro p hp
       rcases List.mem_append.1 hp with hp | hp
       ·exact hnb p hp
       ·simp at hp; subst hp; exact hz
      ·exact (bla hBW _).trans (below_app (v := .slice (some ⟨kb, 0, none⟩) done.length cap) hg2' (fun k hk => by cases hk; exact hkbl) (by have := hBW.size; simp; omega))
      ·rw [hRA.left hg2' (by simp; exact Ne.symm hk2) (by simp; exact Ne.symm hk1), hlA, hlW]
       exact hlt
end Tp
end Sm
end Go.Proofs.Ytcnfdbkolbgbcaa
end
section
namespace Go.Proofs.Ytcnfdbkolbgbcaa
namespace Ev
open Go Go.RowKit
noncomputable def wide_Of (x : Int) : Option (Int × Int) := K.wide_Of x
noncomputable def wide_Compare (x : Int × Int) (y : Int × Int) : Option (Int) := K.wide_Compare (x, y)
noncomputable def ring_lesser (x : Int × Int) (y : Int × Int) : Option (Int × Int) := K.ring_lesser (x, y)
noncomputable def ring_truth (x : Bool) : Option (Int × Int) := K.ring_truth x
noncomputable def wide_Add (x : Int × Int) (y : Int × Int) : Option (Int × Int) := K.wide_Add (x, y)
noncomputable def ring_Add (x : Int) (y : Int × Int) (z : Int × Int) : Option (Int × Int) := K.ring_Add (x, y, z)
noncomputable def wide_Narrow (x : Int × Int) : Option (Int × Bool) := K.wide_Narrow x
noncomputable def ring_Narrow (x : Int) (y : Int × Int) : Option (Int × Bool) := K.ring_Narrow (x, y)
noncomputable def cmp_Or_int (x : Sl (Int)) : Option (Int) := K.cmp_Or_int x
noncomputable def cmp_isNaN_int (x : Int) : Option (Bool) := K.cmp_isNaN_int x
noncomputable def cmp_Compare_int (x : Int) (y : Int) : Option (Int) := K.cmp_Compare_int (x, y)
noncomputable def csr_byPlace (x : Int × Int × Int) (y : Int × Int × Int) : Option (Int) := K.csr_byPlace (x, y)
noncomputable def csr_inOrder (x : Sl (Int × Int × Int)) : Option (Bool) := K.csr_inOrder x
noncomputable def ring_Is (x : Int) : Option (Bool) := K.ring_Is x
noncomputable def edges_byEnds (x : Int × Int × Int) (y : Int × Int × Int) : Option (Int) := K.edges_byEnds (x, y)
noncomputable def edges_Rises (x : Sl (Int × Int × Int)) : Option (Bool) := K.edges_Rises x
end Ev
end Go.Proofs.Ytcnfdbkolbgbcaa
end
