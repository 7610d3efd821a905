/- FoldReduces, as a function on data, is true at all data. -/
import Derived.Test.YtioagbejilllfaaLf4
import Derived.Test.YtioagbejilllfaaMv3
namespace Go.Proofs.Ytioagbejilllfaa
namespace Ev
open Go
set_option linter.unusedVariables false
set_option linter.unusedSimpArgs false
theorem FL_eq : FL = some true := rfl
theorem law12_FoldReduces_true (r : Int) (_ : inK .i64 r) (v : Int × Sl It) (w : WV v) (x : Int × Int) (_ : WIt x) : law12_FoldReduces r v x = some true := by
  have hok := w.ok
  have hv := w.vals
  obtain ⟨n, s⟩ := v
  obtain ⟨t, k⟩ := x
  have hok2 : okS 2 (fewV (n, s)).2 := few_ok hok
  have hlen := few_len (n, s)
  have hv2 : ∀ x ∈ (fewV (n, s)).2.l, i64r x.2 := by
    unfold fewV
    by_cases hc : (s.l.length : Int) > 60
    · simp only [if_pos hc]; intro x hx; exact hv x (List.mem_of_mem_take hx)
    · simp only [if_neg hc]; exact hv
  unfold law12_FoldReduces
  simp only [law09_Few_eq, Option.bind_some]
  generalize fewV (n, s) = u at hok2 hlen hv2
  obtain ⟨n2, s2⟩ := u
  simp only at hok2 hlen hv2
  have hl : s2.l.length ≤ 4611686018427387904 := by omega
  simp only [fold_Reduce_eq r (n2, s2) hok2 hl hv2, ref12_Reduce_eq r (n2, s2) hok2 hl, fold_Least_eq (n2, s2) hok2 hl, ref12_Least_eq (n2, s2) hok2 hl, fold_Where_eq (n2, s2) t k hok2 hl, ref12_Where_eq (n2, s2) t k hok2 hl, fold_Holds_eq, ref12_Holds_eq, FL_eq, Option.bind_some]
  have hs : ref09_Same (whereV (n2, s2) t k) (whereV (n2, s2) t k) = some true := same_refl _ (where_ok _ _ _) (by have := where_len (n2, s2) t k; omega)
  generalize whereV (n2, s2) t k = w at hs
  obtain ⟨w1, w2⟩ := w
  generalize reduceV r (n2, s2) = a
  generalize leastV (n2, s2) = b
  obtain ⟨a1, a2⟩ := a
  obtain ⟨⟨b1, b2⟩, b3⟩ := b
  simp only [hs, Option.bind_some, and_self, if_true]
  by_cases hz : (s2.l.length : Int) > 0
  · have h0 : atS 2 s2 0 = some s2.l[0] := at_get hok2 (j := 0) (by omega)
    simp only [if_pos hz, h0, Option.bind_some]
    cases b3 <;> cases holdsB t s2.l[0].2 k <;> rfl
  · simp only [if_neg hz]
    cases b3 <;> cases holdsB t 0 k <;> rfl
end Ev
end Go.Proofs.Ytioagbejilllfaa
