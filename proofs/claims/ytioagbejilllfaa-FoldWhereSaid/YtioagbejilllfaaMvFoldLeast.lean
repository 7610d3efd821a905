/- FoldLeast, as a function on data, is true at all data. -/
import Derived.Test.YtioagbejilllfaaLw8
import Derived.Test.YtioagbejilllfaaMv8
namespace Go.Proofs.Ytioagbejilllfaa
namespace Ev
open Go
set_option linter.unusedVariables false
set_option linter.unusedSimpArgs false
theorem FL_eq3 : FL = some true := rfl
theorem i64_id {n : Int} (h : i64r n) : IntKind.i64.wrap (IntKind.u64.wrap n) = n := by rw [wrap_u64, IntKind.wrap_i64]; unfold i64r at h; omega
theorem narrow_of {n : Int} (h : i64r n) : narrowW (ofW n) = (n, true) := by
  unfold narrowW
  have e : IntKind.i64.wrap (ofW n).2 = n := i64_id h
  rw [e, if_pos rfl]
theorem less_of {a b : Int} (ha : i64r a) (hb : i64r b) : lessW (ofW a) (ofW b) = decide (a < b) := by
  unfold i64r at ha hb
  unfold lessW ofW
  simp only [wrap_u64]
  by_cases h1 : a < 0 <;> by_cases h2 : b < 0 <;> by_cases h3 : a < b <;> simp [h1, h2, h3] <;> omega
theorem fold_least : ∀ (l : List It) (m : It), i64r m.2 → (∀ x ∈ l, i64r x.2) → foldR 1 (ofW m.2) l = ofW (leastF m l).2
  | [], m, hm, h => rfl
  | x :: l, m, hm, h => by
    have hx := h x List.mem_cons_self
    have hl := fun y hy => h y (List.mem_cons_of_mem _ hy)
    have e : ringAdd 1 (ofW m.2) (ofW x.2) = ofW (if x.2 < m.2 then x else m).2 := by
      unfold ringAdd lessrW
      rw [if_pos (.inl rfl), less_of hx hm]
      by_cases c : x.2 < m.2
      · rw [if_pos (by simpa using c), if_pos c]
      · rw [if_neg (by simpa using c), if_neg c]
    show foldR 1 (ringAdd 1 (ofW m.2) (ofW x.2)) l = ofW (leastF (if x.2 < m.2 then x else m) l).2
    rw [e]
    refine fold_least l _ ?_ hl
    split <;> assumption
theorem least_mem : ∀ (l : List It) (m : It), leastF m l = m ∨ leastF m l ∈ l
  | [], m => .inl rfl
  | x :: l, m => by
    show leastF (if x.2 < m.2 then x else m) l = m ∨ leastF (if x.2 < m.2 then x else m) l ∈ x :: l
    by_cases c : x.2 < m.2
    · rw [if_pos c]
      rcases least_mem l x with h | h
      · rw [h]; exact .inr List.mem_cons_self
      · exact .inr (List.mem_cons_of_mem _ h)
    · rw [if_neg c]
      rcases least_mem l m with h | h
      · exact .inl h
      · exact .inr (List.mem_cons_of_mem _ h)
theorem getI_mem {n : Int} : ∀ {l : List It} {a : Int}, asc a n l = true → ∀ x ∈ l, getI x.1 l = some x.2
  | y :: l, a, h, x, hx => by
    simp only [asc, Bool.and_eq_true, decide_eq_true_eq] at h
    rcases List.mem_cons.1 hx with rfl | hx
    · unfold getI; rw [if_pos rfl]
    · unfold getI
      have := (asc_lt h.2 x hx).1
      rw [if_neg (by omega)]
      exact getI_mem h.2 x hx
theorem u8_of {n : Int} (h : inK .u8 n) : 0 ≤ n ∧ n ≤ 255 := by simpa [inK, Lit.wf, IntKind.min, IntKind.max, IntKind.signed, IntKind.bits] using h
theorem law12_FoldLeast_true (n : Int) (hn : inK .u8 n) (s : Sl It) (w : SlW 2 WIt s) : law12_FoldLeast n s = some true := by
  obtain ⟨⟨m, t⟩, h1, h2, h3, h4⟩ := law09_Some_good n s (u8_of hn) w.ok w.2.2.1
  have hlen : t.l.length ≤ 4096 := right_len h2
  have hasc : asc (-1) m t.l = true := by simp only [rightB, Bool.and_eq_true] at h2; exact h2.2
  simp only at h3 h4
  unfold law12_FoldLeast
  have e1 : fold_Least (m, t) = some (leastV (m, t)) := fold_Least_eq (m, t) h3 (show t.l.length ≤ _ by omega)
  have e2 : fold_Reduce 1 (m, t) = some (reduceV 1 (m, t)) := fold_Reduce_eq 1 (m, t) h3 (show t.l.length ≤ _ by omega) h4
  simp only [h1, Option.bind_some, e1, e2]
  unfold leastV reduceV
  rw [sure_id h2, if_pos (show okR 1 = true by decide)]
  simp only
  cases ht : t.l with
  | nil =>
    have e3 : narrowW (totalR 1 []) = (4611686018427387904, true) := narrow_of (n := 4611686018427387904) (by unfold i64r; omega)
    have e4 := ref09_Get_eq m t 0 h3 h2
    simp only [e3, if_true, e4, Option.bind_some, ht]
    simp [getI, encO, FL_eq3]
  | cons x l =>
    rw [ht] at h4 hasc
    have hx := h4 x List.mem_cons_self
    have hl := fun y hy => h4 y (List.mem_cons_of_mem _ hy)
    have hm := least_mem l x
    have hmem : leastF x l ∈ x :: l := by
      rcases hm with h | h
      · rw [h]; exact List.mem_cons_self
      · exact List.mem_cons_of_mem _ h
    have e3 : narrowW (totalR 1 (x :: l)) = ((leastF x l).2, true) := by
      show narrowW (foldR 1 (ofW x.2) l) = _
      rw [fold_least l x hx hl]
      exact narrow_of (h4 _ hmem)
    have e4 := ref09_Get_eq m t (leastF x l).1 h3 h2
    have e5 := getI_mem hasc _ hmem
    rw [← ht] at e5
    have e6 : ref09_Get (m, t) (leastF x l).1 = some ((leastF x l).2, true) := by rw [e4, e5]; rfl
    simp only [e3, if_true, e6, Option.bind_some, ht]
    simp [FL_eq3]
end Ev
end Go.Proofs.Ytioagbejilllfaa
