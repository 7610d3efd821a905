/- Package edges: the calls of the statements, at worlds that hold the graph. -/
import Derived.Test.YtfaddlpemhifpaaEd17
import Derived.Test.YtfaddlpemhifpaaEdOpen
namespace Go.Proofs.Ytfaddlpemhifpaa
open Go.RowKit Go.Sort
set_option linter.unusedVariables false
set_option linter.unusedSimpArgs false
/-- A list that may be read, and is nil only where it is empty. -/
def Ou (w : World) (a : Option Addr) (c : Nat) (l : List Ed) : Prop := RdE w a l ∧ (a = none → c = 0 ∧ l.length = 0)
theorem Ou.below {w w' : World} {a : Option Addr} {c : Nat} {l : List Ed} (h : Ou w a c l) (hb : Below w.heap.size w w') : Ou w' a c l := ⟨h.1.below hb, h.2⟩
structure Gd (X : Nat) (w : World) (n : Int) (a : Option Addr) (l : List Ed) (c : Nat) (W : World) : Prop where
  cells : CellsAt W X 24 #[.int .i64 n, .slice a l.length c]
  ou : Ou W a c l
  ins : ∀ e ∈ l, InE e
  len : l.length ≤ 60
  bel : Below w.heap.size w W
theorem Gd.below {X : Nat} {w : World} {n : Int} {a : Option Addr} {l : List Ed} {c : Nat} {W W' : World} (h : Gd X w n a l c W) (hb : Below W.heap.size W W') : Gd X w n a l c W' :=
  ⟨h.cells.below hb, h.ou.below hb, h.ins, h.len, h.bel.trans (hb.mono h.bel.size)⟩
theorem Gd.two {X : Nat} {w : World} {n : Int} {a : Option Addr} {l : List Ed} {c : Nat} {W : World} (h : Gd X w n a l c W) : W.cell? ⟨X, 0, none⟩ = some (.int .i64 n) ∧ W.cell? ⟨X, 1, none⟩ = some (.slice a l.length c) := ⟨h.cells.cell 0, h.cells.cell 1⟩
def mC (l : List Ed) : List Ed := canR l
def mT (l : List Ed) : List Ed := canR (l.map turnE)
def mB (l : List Ed) : List Ed := canR (l ++ l.map turnE)
def mS (l : List Ed) : List Ed := canR (chg (fun e : Ed => e.1 != e.2.1) (fun e : Ed => e) l)
def mP (l : List Ed) : List Ed := canR (chg (fun _ => true) plainE l)
def mL (l : List Ed) : List Ed := canR (chg (fun e : Ed => decide (e.2.1 < e.1)) (fun e : Ed => e) l)
theorem in_filter {l : List Ed} (p : Ed → Bool) (h : ∀ e ∈ l, InE e) : ∀ e ∈ chg p (fun e : Ed => e) l, InE e := fun e he => by
  unfold chg at he
  obtain ⟨x, hx, rfl⟩ := List.mem_map.1 he
  exact h x (List.mem_filter.1 hx).1
theorem in_plain {l : List Ed} (h : ∀ e ∈ l, InE e) : ∀ e ∈ chg (fun _ => true) plainE l, InE e := fun e he => by
  unfold chg at he
  obtain ⟨x, hx, rfl⟩ := List.mem_map.1 he
  have := h x (List.mem_filter.1 hx).1
  exact ⟨this.1, this.2.1, by simp [plainE, In64]⟩
theorem in_chgturn {l : List Ed} (h : ∀ e ∈ l, InE e) : ∀ e ∈ chg (fun _ => true) turnE l, InE e := by rw [chg_turn]; exact in_turn h


theorem p_canon (n : Int) (a : Option Addr) (l : List Ed) (c : Nat) (W : World) (ho : Ou W a c l) (hI : ∀ e ∈ l, InE e) (hl : l.length ≤ 400) : Calls Try.prog 18 #[.agg #[.int .i64 n, .slice a l.length c]] W fun e w' => ∃ a' c', e = .returned (.agg #[.int .i64 n, .slice a' (mC l).length c']) ∧ Ou w' a' c' (mC l) ∧ Below W.heap.size W w' := by
  have H := canon_any n a l c W ho.1 ho.2 hI (by omega)
  skip
  refine H.mono ?_
  rintro e w' ⟨a', c', rfl, hO, hb⟩
  exact ⟨a', c', rfl, ⟨hO.1, hO.2.1⟩, hb⟩


theorem r_canon (n : Int) (a : Option Addr) (l : List Ed) (c : Nat) (W : World) (ho : Ou W a c l) (hI : ∀ e ∈ l, InE e) (hl : l.length ≤ 400) : Calls Try.prog 19 #[.agg #[.int .i64 n, .slice a l.length c]] W fun e w' => ∃ a' c', e = .returned (.agg #[.int .i64 n, .slice a' (mC l).length c']) ∧ Ou w' a' c' (mC l) ∧ Below W.heap.size W w' := by
  have H := refCanon_any n a l c W ho.1 hI (by omega)
  skip
  refine H.mono ?_
  rintro e w' ⟨v, rfl, hown, hb⟩
  obtain ⟨_, a', c', rfl, _, hrd, hz'⟩ := row_rdE hown
  exact ⟨a', c', rfl, ⟨hrd, hz'⟩, hb⟩


theorem p_turn (n : Int) (a : Option Addr) (l : List Ed) (c : Nat) (W : World) (ho : Ou W a c l) (hI : ∀ e ∈ l, InE e) (hl : l.length ≤ 400) : Calls Try.prog 20 #[.agg #[.int .i64 n, .slice a l.length c]] W fun e w' => ∃ a' c', e = .returned (.agg #[.int .i64 n, .slice a' (mT l).length c']) ∧ Ou w' a' c' (mT l) ∧ Below W.heap.size W w' := by
  have H := turn_any n a l c W ho.1 (in_chgturn hI) (by omega)
  rw [chg_turn] at H
  refine H.mono ?_
  rintro e w' ⟨a', c', rfl, hO, hb⟩
  exact ⟨a', c', rfl, ⟨hO.1, hO.2.1⟩, hb⟩


theorem r_turn (n : Int) (a : Option Addr) (l : List Ed) (c : Nat) (W : World) (ho : Ou W a c l) (hI : ∀ e ∈ l, InE e) (hl : l.length ≤ 400) : Calls Try.prog 21 #[.agg #[.int .i64 n, .slice a l.length c]] W fun e w' => ∃ a' c', e = .returned (.agg #[.int .i64 n, .slice a' (mT l).length c']) ∧ Ou w' a' c' (mT l) ∧ Below W.heap.size W w' := by
  have H := refTurn_any n a l c W ho.1 (in_chgturn hI) (by omega)
  rw [chg_turn] at H
  refine H.mono ?_
  rintro e w' ⟨v, rfl, hown, hb⟩
  obtain ⟨_, a', c', rfl, _, hrd, hz'⟩ := row_rdE hown
  exact ⟨a', c', rfl, ⟨hrd, hz'⟩, hb⟩


theorem p_simple (n : Int) (a : Option Addr) (l : List Ed) (c : Nat) (W : World) (ho : Ou W a c l) (hI : ∀ e ∈ l, InE e) (hl : l.length ≤ 400) : Calls Try.prog 24 #[.agg #[.int .i64 n, .slice a l.length c]] W fun e w' => ∃ a' c', e = .returned (.agg #[.int .i64 n, .slice a' (mS l).length c']) ∧ Ou w' a' c' (mS l) ∧ Below W.heap.size W w' := by
  have H := simpleG_any n a l c W ho.1 (in_filter _ hI) (by omega)
  skip
  refine H.mono ?_
  rintro e w' ⟨a', c', rfl, hO, hb⟩
  exact ⟨a', c', rfl, ⟨hO.1, hO.2.1⟩, hb⟩


theorem r_simple (n : Int) (a : Option Addr) (l : List Ed) (c : Nat) (W : World) (ho : Ou W a c l) (hI : ∀ e ∈ l, InE e) (hl : l.length ≤ 400) : Calls Try.prog 25 #[.agg #[.int .i64 n, .slice a l.length c]] W fun e w' => ∃ a' c', e = .returned (.agg #[.int .i64 n, .slice a' (mS l).length c']) ∧ Ou w' a' c' (mS l) ∧ Below W.heap.size W w' := by
  have H := refSimple_any n a l c W ho.1 (in_filter _ hI) (by omega)
  skip
  refine H.mono ?_
  rintro e w' ⟨v, rfl, hown, hb⟩
  obtain ⟨_, a', c', rfl, _, hrd, hz'⟩ := row_rdE hown
  exact ⟨a', c', rfl, ⟨hrd, hz'⟩, hb⟩


theorem p_plain (n : Int) (a : Option Addr) (l : List Ed) (c : Nat) (W : World) (ho : Ou W a c l) (hI : ∀ e ∈ l, InE e) (hl : l.length ≤ 400) : Calls Try.prog 26 #[.agg #[.int .i64 n, .slice a l.length c]] W fun e w' => ∃ a' c', e = .returned (.agg #[.int .i64 n, .slice a' (mP l).length c']) ∧ Ou w' a' c' (mP l) ∧ Below W.heap.size W w' := by
  have H := plainG_any n a l c W ho.1 (in_plain hI) (by omega)
  skip
  refine H.mono ?_
  rintro e w' ⟨a', c', rfl, hO, hb⟩
  exact ⟨a', c', rfl, ⟨hO.1, hO.2.1⟩, hb⟩


theorem r_plain (n : Int) (a : Option Addr) (l : List Ed) (c : Nat) (W : World) (ho : Ou W a c l) (hI : ∀ e ∈ l, InE e) (hl : l.length ≤ 400) : Calls Try.prog 27 #[.agg #[.int .i64 n, .slice a l.length c]] W fun e w' => ∃ a' c', e = .returned (.agg #[.int .i64 n, .slice a' (mP l).length c']) ∧ Ou w' a' c' (mP l) ∧ Below W.heap.size W w' := by
  have H := refPlain_any n a l c W ho.1 (in_plain hI) (by omega)
  skip
  refine H.mono ?_
  rintro e w' ⟨v, rfl, hown, hb⟩
  obtain ⟨_, a', c', rfl, _, hrd, hz'⟩ := row_rdE hown
  exact ⟨a', c', rfl, ⟨hrd, hz'⟩, hb⟩


theorem p_lower (n : Int) (a : Option Addr) (l : List Ed) (c : Nat) (W : World) (ho : Ou W a c l) (hI : ∀ e ∈ l, InE e) (hl : l.length ≤ 400) : Calls Try.prog 28 #[.agg #[.int .i64 n, .slice a l.length c]] W fun e w' => ∃ a' c', e = .returned (.agg #[.int .i64 n, .slice a' (mL l).length c']) ∧ Ou w' a' c' (mL l) ∧ Below W.heap.size W w' := by
  have H := lowerG_any n a l c W ho.1 (in_filter _ hI) (by omega)
  skip
  refine H.mono ?_
  rintro e w' ⟨a', c', rfl, hO, hb⟩
  exact ⟨a', c', rfl, ⟨hO.1, hO.2.1⟩, hb⟩


theorem r_lower (n : Int) (a : Option Addr) (l : List Ed) (c : Nat) (W : World) (ho : Ou W a c l) (hI : ∀ e ∈ l, InE e) (hl : l.length ≤ 400) : Calls Try.prog 29 #[.agg #[.int .i64 n, .slice a l.length c]] W fun e w' => ∃ a' c', e = .returned (.agg #[.int .i64 n, .slice a' (mL l).length c']) ∧ Ou w' a' c' (mL l) ∧ Below W.heap.size W w' := by
  have H := refLower_any n a l c W ho.1 (in_filter _ hI) (by omega)
  skip
  refine H.mono ?_
  rintro e w' ⟨v, rfl, hown, hb⟩
  obtain ⟨_, a', c', rfl, _, hrd, hz'⟩ := row_rdE hown
  exact ⟨a', c', rfl, ⟨hrd, hz'⟩, hb⟩


theorem p_both (n : Int) (a : Option Addr) (l : List Ed) (c : Nat) (W : World) (ho : Ou W a c l) (hI : ∀ e ∈ l, InE e) (hl : l.length ≤ 400) : Calls Try.prog 22 #[.agg #[.int .i64 n, .slice a l.length c]] W fun e w' => ∃ a' c', e = .returned (.agg #[.int .i64 n, .slice a' (mB l).length c']) ∧ Ou w' a' c' (mB l) ∧ Below W.heap.size W w' := by
  have H := both_any n a l c W ho.1 ho.2 (in_app hI (in_turn hI)) hl
  skip
  refine H.mono ?_
  rintro e w' ⟨a', c', rfl, hO, hb⟩
  exact ⟨a', c', rfl, ⟨hO.1, hO.2.1⟩, hb⟩


theorem r_both (n : Int) (a : Option Addr) (l : List Ed) (c : Nat) (W : World) (ho : Ou W a c l) (hI : ∀ e ∈ l, InE e) (hl : l.length ≤ 400) : Calls Try.prog 23 #[.agg #[.int .i64 n, .slice a l.length c]] W fun e w' => ∃ a' c', e = .returned (.agg #[.int .i64 n, .slice a' (mB l).length c']) ∧ Ou w' a' c' (mB l) ∧ Below W.heap.size W w' := by
  have H := refBoth_any n a l c W ho.1 ho.2 (in_chgturn hI) (by rw [chg_turn]; exact in_app (can_in (in_turn hI)) hI) hl (by rw [chg_turn]; exact Nat.le_trans (canR_length _) (by simpa using hl))
  rw [chg_turn, both_ref hI] at H
  refine H.mono ?_
  rintro e w' ⟨v, rfl, hown, hb⟩
  obtain ⟨_, a', c', rfl, _, hrd, hz'⟩ := row_rdE hown
  exact ⟨a', c', rfl, ⟨hrd, hz'⟩, hb⟩


theorem refSame_t (n : Int) (a b : Option Addr) (l : List Ed) (c d : Nat) (W : World) (h1 : Ou W a c l) (h2 : Ou W b d l) (hl : l.length ≤ 1000) : Calls Try.prog 17 #[.agg #[.int .i64 n, .slice a l.length c], .agg #[.int .i64 n, .slice b l.length d]] W fun e w' => e = .returned (.bool true) ∧ Below W.heap.size W w' := by
  have H := refSame_any n n a b l l c d W h1.1 h2.1 (by omega) (by omega)
  rw [decide_eq_true ⟨rfl, rfl⟩] at H
  exact H
theorem same_t (n : Int) (a b : Option Addr) (l : List Ed) (c d : Nat) (W : World) (h1 : Ou W a c l) (h2 : Ou W b d l) (hl : l.length ≤ 1000) : Calls Try.prog 35 #[.agg #[.int .i64 n, .slice a l.length c], .agg #[.int .i64 n, .slice b l.length d]] W fun e w' => e = .returned (.bool true) ∧ Below W.heap.size W w' := by
  have H := same_any n n a b l l c d W h1.1 h2.1 (by omega) (by omega)
  rw [decide_eq_true ⟨rfl, rfl⟩] at H
  exact H
theorem mC_len (l : List Ed) : (mC l).length ≤ l.length := canR_length _
theorem mT_len (l : List Ed) : (mT l).length ≤ l.length := by have := canR_length (l.map turnE); unfold mT; simpa using this
theorem mB_len (l : List Ed) : (mB l).length ≤ 2 * l.length := by have := canR_length (l ++ l.map turnE); unfold mB; simp at this; omega
theorem mS_len (l : List Ed) : (mS l).length ≤ l.length := Nat.le_trans (canR_length _) (chg_len _ _ _)
theorem mP_len (l : List Ed) : (mP l).length ≤ l.length := Nat.le_trans (canR_length _) (chg_len _ _ _)
theorem mL_len (l : List Ed) : (mL l).length ≤ l.length := Nat.le_trans (canR_length _) (chg_len _ _ _)
/-- The box that a statement keeps its graph in, once it is cut short. -/
theorem gd_new (w : World) (n : Int) (a : Option Addr) (l : List Ed) (c : Nat) (V : World) (hC : Came w a l c) (hcells : CellsAt V w.heap.size 24 #[.int .i64 n, .slice a (few l).length c]) (hb : Below w.heap.size w V) : Gd w.heap.size w n a (few l) c V :=
  ⟨hcells, ⟨hC.1.few.below hb, fun e => ⟨hC.2.2.2.2 e, by
    have h1 := hC.2.2.2.2 e
    have h2 := hC.2.2.1
    have h3 : l.length = 0 := by omega
    rw [List.length_eq_zero_iff.1 h3]; rfl⟩⟩, fun e he => hC.2.1 e (List.mem_of_mem_take he), few_len l, hb⟩
end Go.Proofs.Ytfaddlpemhifpaa
