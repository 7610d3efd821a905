/- FoldParts, as a function on data, is true at all data. -/
import Derived.Test.YtioagbejilllfaaLw5
import Derived.Test.YtioagbejilllfaaMv9
namespace Go.Proofs.Ytioagbejilllfaa
namespace Ev
open Go
set_option linter.unusedVariables false
set_option linter.unusedSimpArgs false
theorem FL_eq5 : FL = some true := rfl
theorem u8_in {n : Int} (h : inK .u8 n) : 0 ≤ n ∧ n ≤ 255 := by simpa [inK, Lit.wf, IntKind.min, IntKind.max, IntKind.signed, IntKind.bits] using h
theorem narrow_back {a : Int × Int} (h : (narrowW a).2 = true) : ofW (narrowW a).1 = a := by
  unfold narrowW at *
  split at h
  · rename_i e; rw [if_pos e]; exact e.symm
  · simp at h
theorem law12_FoldParts_true (r : Int) (_ : inK .i64 r) (n : Int) (hn : inK .u8 n) (a : Sl It × Sl It) (w : SlW 2 WIt a.1 ∧ SlW 2 WIt a.2) : law12_FoldParts r n a = some true := by
  obtain ⟨s, t⟩ := a
  obtain ⟨⟨m, u⟩, h1, ga⟩ := law09_Some_good n s (u8_in hn) w.1.ok w.1.2.2.1
  obtain ⟨⟨k, v⟩, h2, gb⟩ := law09_Some_good n t (u8_in hn) w.2.ok w.2.2.2.1
  have hg := glue_two ⟨true, 2, [(m, u), (k, v)]⟩ (m, u) (k, v) rfl rfl ga gb
  unfold law12_FoldParts
  simp only [h1, h2, hg, Option.bind_some, ref02_Is_eq, FL_eq5]
  rw [show (decide (1 ≤ r) && decide (r ≤ 5)) = okR r from rfl]
  cases hr : okR r with
  | false => by_cases hc : m + k > 4096 <;> simp [hc]
  | true =>
    by_cases h2 : r = 2
    · by_cases hc : m + k > 4096 <;> simp [hc, h2]
    by_cases hc : m + k > 4096
    · simp [hc, h2]
    simp only [if_neg hc, if_true, if_neg h2, ne_eq, not_true_eq_false, if_false]
    by_cases hu : ((u.l.length : Nat) : Int) = 0
    · simp [hu]
    by_cases hv : ((v.l.length : Nat) : Int) = 0
    · simp [hu, hv]
    simp only [if_neg hu, if_neg hv]
    have gg := glue_good ga gb hc
    simp only at gg
    have lg := right_len gg.1
    have lu := right_len ga.1
    have lv := right_len gb.1
    simp only at lg lu lv
    have e1 : fold_Reduce r (m, u) = some (reduceV r (m, u)) := fold_Reduce_eq r (m, u) ga.2.1 (show u.l.length ≤ _ by omega) ga.2.2
    have e2 : fold_Reduce r (k, v) = some (reduceV r (k, v)) := fold_Reduce_eq r (k, v) gb.2.1 (show v.l.length ≤ _ by omega) gb.2.2
    have e3 : fold_Reduce r (m + k, mo 2 (u.l ++ shiftI m v.l)) = some (reduceV r (m + k, mo 2 (u.l ++ shiftI m v.l))) := fold_Reduce_eq r _ gg.2.1 (show (mo 2 (u.l ++ shiftI m v.l)).l.length ≤ _ by omega) gg.2.2
    have ht : totalR r (u.l ++ shiftI m v.l) = ringAdd r (totalR r u.l) (totalR r v.l) := by
      rw [totalR_app h2 (by intro h; rw [h] at hu; simp at hu) (by unfold shiftI; intro h; rw [List.map_eq_nil_iff] at h; rw [h] at hv; simp at hv), totalR_shift]
    unfold reduceV at e1 e2 e3
    rw [sure_id ga.1, if_pos hr] at e1
    rw [sure_id gb.1, if_pos hr] at e2
    rw [sure_id gg.1, if_pos hr, mo_l, ht] at e3
    simp only at e1 e2
    have o : ∀ x, ref01_Of x = some ((ofW x).1, (ofW x).2) := fun x => ref01_Of_eq x
    have p : ∀ a b c d, ref02_Add r (a, b) (c, d) = some ((ringAdd r (a, b) (c, d)).1, (ringAdd r (a, b) (c, d)).2) := fun a b c d => ref02_Add_eq r _ _
    have q : ∀ x y : Int, ref01_Narrow ((ringAdd r ((ofW x).1, (ofW x).2) ((ofW y).1, (ofW y).2)).1, (ringAdd r ((ofW x).1, (ofW x).2) ((ofW y).1, (ofW y).2)).2) = some ((narrowW (ringAdd r (ofW x) (ofW y))).1, (narrowW (ringAdd r (ofW x) (ofW y))).2) := fun x y => ref01_Narrow_eq (ringAdd_lo (ofW_lo _) (ofW_lo _))
    by_cases fa : (narrowW (totalR r u.l)).2 = true
    · rw [if_pos fa] at e1
      by_cases fb : (narrowW (totalR r v.l)).2 = true
      · rw [if_pos fb] at e2
        have q2 := q (narrowW (totalR r u.l)).1 (narrowW (totalR r v.l)).1
        rw [narrow_back fa, narrow_back fb] at q2
        have p2 : ref02_Add r ((totalR r u.l).1, (totalR r u.l).2) ((totalR r v.l).1, (totalR r v.l).2) = some ((ringAdd r (totalR r u.l) (totalR r v.l)).1, (ringAdd r (totalR r u.l) (totalR r v.l)).2) := ref02_Add_eq r _ _
        generalize ringAdd r (totalR r u.l) (totalR r v.l) = R at e3 q2 p2
        have o1 := o (narrowW (totalR r u.l)).1
        have o2 := o (narrowW (totalR r v.l)).1
        rw [narrow_back fa] at o1
        rw [narrow_back fb] at o2
        cases hN : (narrowW R).2 with
        | true =>
          rw [hN, if_pos rfl] at e3
          rw [hN] at q2
          simp only [e1, e2, e3, o1, o2, p2, q2, Option.bind_some]
          simp
        | false =>
          rw [hN, if_neg (by decide)] at e3
          rw [hN] at q2
          simp only [e1, e2, e3, o1, o2, p2, q2, Option.bind_some]
          simp
      · rw [if_neg fb] at e2
        generalize (if (narrowW (ringAdd r (totalR r u.l) (totalR r v.l))).2 = true then ((narrowW (ringAdd r (totalR r u.l) (totalR r v.l))).1, (0 : Int)) else (0, 12)) = z at e3
        obtain ⟨z1, z2⟩ := z
        simp only [e1, e2, e3, o, p, q, Option.bind_some]
        simp
    · rw [if_neg fa] at e1
      generalize (if (narrowW (ringAdd r (totalR r u.l) (totalR r v.l))).2 = true then ((narrowW (ringAdd r (totalR r u.l) (totalR r v.l))).1, (0 : Int)) else (0, 12)) = z at e3
      generalize (if (narrowW (totalR r v.l)).2 = true then ((narrowW (totalR r v.l)).1, (0 : Int)) else (0, 12)) = y at e2
      obtain ⟨z1, z2⟩ := z
      obtain ⟨y1, y2⟩ := y
      simp only [e1, e2, e3, o, p, q, Option.bind_some]
      simp
end Ev
end Go.Proofs.Ytioagbejilllfaa
