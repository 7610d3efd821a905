/- Package octet: appending bytes that may be read. -/
import Derived.Laws.AppendOwnNone
import Derived.Test.YtccgpjhfgmonpaaDoorOctD2
namespace Go.Proofs.YtccgpjhfgmonpaaDoor
open Go.RowKit Go.Sort
set_option linter.unusedVariables false
theorem wpList_append_rd8 {w : World} {ops : Array Oper} {rest : List Oper} {o : Oper} {a : Act} {Q : Exit → Act → World → Prop} (hgd : o.guard = none) (s x : Operand)
    (ho : o.op = .call { callee := .builtin .append, args := #[s, x], argTypes := #[46, 46] }) (base : Nat) (v : Value) (n : Nat) (F : Nat → Int) (hs : a.eval s = v) (hown : w.ownsRow base 5 1 v n (cellsB F n))
    (ad : Option Addr) (m c : Nat) (G : Nat → Int) (hx : a.eval x = .slice ad m c) (hr : Rd8 w ad m G) (hz : ad = none → c = 0 ∧ m = 0) (hnm : n + m ≤ 100000) (hbase : base ≤ w.heap.size)
    (h : ∀ v' w', w'.ownsRow base 5 1 v' (n + m) (cellsB (cat F n G) (n + m)) → Below base w w' → (∀ k, k < w.heap.size → v.ownBlock ≠ some k → w'.heap[k]? = w.heap[k]?) → wpList Tryd.prog ops Q rest (a.put o.dst v') w') : wpList Tryd.prog ops Q (o :: rest) a w := by
  obtain ⟨i0, hi0, hz0, hz1, hz2⟩ := info_parts infoByte
  match ad, hr, hz, hx with
  | none, hr, hz, hx =>
    obtain ⟨rfl, rfl⟩ := hz rfl
    refine wpList_append_own_none hgd s x 46 ho base 5 i0 1 Tryd.underlying46 hi0 v n _ hs hown hx (h v w ?_ ((Below.refl _ w).mono hbase) (fun _ _ _ => rfl))
    have := cellsB_cat F n G 0
    rw [← this]
    simpa [cellsB] using hown
  | some b, hr, hz, hx =>
    have hnews : ∀ j u, (cellsB G m)[j]? = some u → w.cell? (b.add j) = some u := by
      intro j u hj
      have hj' : j < m := by have := (List.getElem?_eq_some_iff.1 hj).1; rwa [cellsB_len] at this
      rw [cellsB_at _ _ _ hj'] at hj
      cases hj
      obtain ⟨b', hb', _, h2, _⟩ := hr j hj'
      cases hb'
      exact h2
    refine wpList_append_own w hgd s x 46 ho base 5 i0 (.int .u8 0) 1 1 Tryd.underlying46 hi0 hz0 hz1 hz2 rfl (by decide) v n (cellsB F n) hs hown b m c (cellsB G m) hx (by rw [cellsB_len]; omega) hnews (cellsB_one _ _) (by unfold maxLen; omega) (by omega) hbase ?_
    intro v' w' hown' hgrow _
    rw [cellsB_cat] at hown'
    refine h v' w' hown' ?_ (fun k hk hne => hgrow.block k hk (fun e => hne e.symm))
    exact (Below.refl _ w).mono hbase |>.grown hgrow hbase (fun j e => (hown.lt j e).1)
end Go.Proofs.YtccgpjhfgmonpaaDoor
