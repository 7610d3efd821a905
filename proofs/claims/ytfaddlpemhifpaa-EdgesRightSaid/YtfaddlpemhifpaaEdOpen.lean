/- Lists of edges and graphs as arguments: opened. -/
import Derived.Deep.SlicePairs
import Derived.Deep.Strs
import Derived.Lib.SmallJoins
import Derived.Test.YtfaddlpemhifpaaEd15
import Derived.Test.YtfaddlpemhifpaaLaw
namespace Go.Proofs.Ytfaddlpemhifpaa
open Go.ChangeShapes Go.WideShapes Go.ChangeAt Go.RowKit Go.Joins Go.Sort
set_option linter.unusedVariables false
set_option linter.unusedSimpArgs false
theorem bd64 {n : Int} (h : (Lit.int .i64 n).wf = true) : In64 n := by
  have : (-9223372036854775808 ≤ n ∧ n ≤ 9223372036854775807) := by simpa [Lit.wf, IntKind.min, IntKind.max, IntKind.signed, IntKind.bits] using h
  exact this
theorem add_one' (x : Addr) (j : Nat) : x.add (j + 1) = ⟨x.block, x.off + (j + 1), none⟩ := by
  unfold Addr.add
  rw [if_neg (by omega)]
/-- A list of edges that came in. -/
def Came (w : World) (a : Option Addr) (l : List Ed) (c : Nat) : Prop := RdE w a l ∧ (∀ e ∈ l, InE e) ∧ l.length ≤ c ∧ c < 9223372036854775808 ∧ (a = none → c = 0)
set_option maxRecDepth 100000 in
theorem open_edges {H : Type} {enc : TypeId × Value → H} {w : World} {fuel : Nat} {v : Value} {x : DataW H × List MemPlace}
    (h : DataW.trod enc Try.prog w 0 (fun _ => true) true fuel 22 [v] = some x) :
    ∃ (a : Option Addr) (l : List Ed) (c : Nat), v = .slice a l.length c ∧ Came w a l c := by
  rcases Go.Deep.open_slice Try.underlying22 h with ⟨h0, _⟩ | ⟨a, len, cap, m, n, D, Pl, h0, _, hl, hcm, hm, _, hx⟩
  · simp at h0
    exact ⟨none, [], 0, h0, fun i hi => by simp at hi, by simp, Nat.le_refl _, by omega, fun _ => rfl⟩
  · simp at h0
    simp at hm
    have each : ∀ i, ∃ e : Ed, i < len → InE e ∧ w.cell? (a.add (i * 3)) = some (.int .i64 e.1) ∧ w.cell? ⟨a.block, (a.add (i * 3)).off + 1, none⟩ = some (.int .i64 e.2.1) ∧ w.cell? ⟨a.block, (a.add (i * 3)).off + 2, none⟩ = some (.int .i64 e.2.2) := by
      intro i
      by_cases hi : i < len
      · obtain ⟨cs', h1, h2⟩ := hx i (by omega)
        rw [show Program.cellsOf Try.prog 41 = 3 by kernel_rfl] at h1
        obtain ⟨_, hlen, hcell⟩ := World.cells?_some h1
        obtain ⟨y0, y1, y2, k, _, _, g0, g1, g2⟩ := Go.Deep.trod_struct3 Try.underlying41 h2
        match cs', hlen with
        | [v0, v1, v2], _ =>
          replace g0 : DataW.trod enc Try.prog w 0 (fun _ => true) true k 3 [v0] = some y0 := g0
          replace g1 : DataW.trod enc Try.prog w 0 (fun _ => true) true k 3 [v1] = some y1 := g1
          replace g2 : DataW.trod enc Try.prog w 0 (fun _ => true) true k 2 [v2] = some y2 := g2
          obtain ⟨x0, e0, _, w0⟩ := DataW.trod_int Try.underlying3 g0
          obtain ⟨x1, e1, _, w1⟩ := DataW.trod_int Try.underlying3 g1
          obtain ⟨x2, e2, _, w2⟩ := DataW.trod_int Try.underlying2 g2
          simp only [List.cons.injEq, and_true] at e0 e1 e2
          subst e0 e1 e2
          have c0 := hcell 0 (by omega)
          have c1 := hcell 1 (by omega)
          have c2 := hcell 2 (by omega)
          refine ⟨(x0, x1, x2), fun _ => ⟨⟨bd64 w0, bd64 w1, bd64 w2⟩, ?_, ?_, ?_⟩⟩
          · simpa [Addr.add] using c0
          · rw [add_one' _ 0, blk_add] at c1; exact c1
          · rw [add_one' _ 1, blk_add] at c2; exact c2
      · exact ⟨(0, 0, 0), fun h => absurd h hi⟩
    let f : Nat → Ed := fun i => (each i).choose
    have hf : ∀ i, i < len → InE (f i) ∧ w.cell? (a.add (i * 3)) = some (.int .i64 (f i).1) ∧ w.cell? ⟨a.block, (a.add (i * 3)).off + 1, none⟩ = some (.int .i64 (f i).2.1) ∧ w.cell? ⟨a.block, (a.add (i * 3)).off + 2, none⟩ = some (.int .i64 (f i).2.2) := fun i hi => (each i).choose_spec hi
    have hlen : ((List.range len).map f).length = len := by simp
    refine ⟨some a, (List.range len).map f, cap, by rw [hlen]; exact h0, fun i hi => ?_, fun e he => ?_, by rw [hlen]; exact hl, by unfold maxLen at hcm; omega, fun hh => by cases hh⟩
    · rw [hlen] at hi
      obtain ⟨_, c0, c1, c2⟩ := hf i hi
      have he : el ((List.range len).map f) i = f i := by simp [el, List.getD_eq_getElem?_getD, hi]
      have hbl := block_lt_of_cell c0
      rw [blk_add] at hbl
      rw [he]
      exact ⟨a, rfl, hbl, c0, c1, c2⟩
    · obtain ⟨i, hi, rfl⟩ := List.mem_map.1 he
      exact (hf i (by simpa using hi)).1
set_option maxRecDepth 100000 in
theorem open_graph {H : Type} {enc : TypeId × Value → H} {w : World} {b0 : Nat} {v : Value} {d : DataW H} {p : List MemPlace}
    (hv : Value.okWide Try.prog w .any b0 24 v) (h : DataW.Trod enc Try.prog w 0 (fun _ => true) true 24 v d p) :
    ∃ (n : Int) (a : Option Addr) (l : List Ed) (c : Nat), v = GV n a l.length c ∧ In64 n ∧ Came w a l c := by
  obtain ⟨v0, v1, y0, y1, k, rfl, _, _, h0, h1⟩ := open_agg2 Try.underlying24 (by kernel_rfl) (by kernel_rfl) hv h
  obtain ⟨x, e0, _, w0⟩ := DataW.trod_int Try.underlying3 h0
  obtain ⟨a, l, c, rfl, hc⟩ := open_edges h1
  simp only [List.cons.injEq, and_true] at e0
  subst e0
  exact ⟨x, a, l, c, rfl, bd64 w0, hc⟩
theorem open_list {H : Type} {enc : TypeId × Value → H} {w : World} {b0 : Nat} {v : Value} {d : DataW H} {p : List MemPlace}
    (hv : Value.okWide Try.prog w .any b0 22 v) (h : DataW.Trod enc Try.prog w 0 (fun _ => true) true 22 v d p) :
    ∃ (a : Option Addr) (l : List Ed) (c : Nat), v = .slice a l.length c ∧ Came w a l c := by
  obtain ⟨a, n, c, rfl⟩ := okWide_slice Try.underlying22 hv
  obtain ⟨fuel, hf⟩ := h
  exact open_edges hf
end Go.Proofs.Ytfaddlpemhifpaa
