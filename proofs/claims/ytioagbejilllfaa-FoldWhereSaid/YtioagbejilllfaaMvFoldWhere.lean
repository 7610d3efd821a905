/- FoldWhere, as a function on data, is true at all data. -/
import Derived.Test.YtioagbejilllfaaLw6
import Derived.Test.YtioagbejilllfaaMv8
import Derived.Test.YtioagbejilllfaaMvFoldLeast
namespace Go.Proofs.Ytioagbejilllfaa
namespace Ev
open Go
set_option linter.unusedVariables false
set_option linter.unusedSimpArgs false
theorem asc_filter {n : Int} (p : It → Bool) : ∀ {l : List It} {a : Int}, asc a n l = true → asc a n (l.filter p) = true
  | [], a, h => rfl
  | x :: l, a, h => by
    have h' := h
    simp only [asc, Bool.and_eq_true, decide_eq_true_eq] at h
    have hw : ∀ {b : Int} {m : List It}, a ≤ b → asc b n m = true → asc a n m = true := fun {b m} hab hm => by
      cases m with
      | nil => rfl
      | cons y m => simp only [asc, Bool.and_eq_true, decide_eq_true_eq] at hm ⊢; exact ⟨⟨by omega, hm.1.2⟩, hm.2⟩
    cases hp : p x with
    | true =>
      rw [List.filter_cons_of_pos hp]
      simp only [asc, Bool.and_eq_true, decide_eq_true_eq]
      exact ⟨h.1, asc_filter p h.2⟩
    | false =>
      rw [List.filter_cons_of_neg (by simp [hp])]
      exact hw (by omega) (asc_filter p h.2)
theorem getI_filter {n : Int} (p : It → Bool) {l : List It} {a : Int} (h : asc a n l = true) (x : It) (hx : x ∈ l) : getI x.1 (l.filter p) = if p x = true then some x.2 else none := by
  by_cases hp : p x = true
  · rw [if_pos hp]; exact getI_mem (asc_filter p h) x (List.mem_filter.2 ⟨hx, hp⟩)
  · rw [if_neg hp]
    refine getI_none fun y hy e => ?_
    obtain ⟨hy1, hy2⟩ := List.mem_filter.1 hy
    have e1 := getI_mem h x hx
    have e2 := getI_mem h y hy1
    rw [e, e1] at e2
    have : y = x := Prod.ext e (Option.some.inj e2).symm
    rw [this] at hy2; exact hp hy2
theorem where_get {m : Int} {t : Sl It} (h2 : rightB (m, t) = true) (hok : okS 2 t) (q k : Int) (x : It) (hx : x ∈ t.l) : ref09_Get (m, (mo 2 (t.l.filter fun x => holdsB q x.2 k))) x.1 = some (encO (if holdsB q x.2 k = true then some x.2 else none)) := by
  have hasc : sizeB m = true ∧ asc (-1) m t.l = true := by simpa only [rightB, Bool.and_eq_true] using h2
  have hr : rightB (m, mo 2 (t.l.filter fun x => holdsB q x.2 k)) = true := by
    simp only [rightB, mo_l, Bool.and_eq_true]
    exact ⟨hasc.1, asc_filter _ hasc.2⟩
  rw [ref09_Get_eq m _ x.1 (ok_mo _) hr, mo_l, getI_filter _ hasc.2 x hx]
theorem three_len (k : Int) : ∀ l : List It, (l.filter fun x => holdsB 1 x.2 k).length + (l.filter fun x => holdsB 3 x.2 k).length + (l.filter fun x => holdsB 2 x.2 k).length = l.length
  | [] => rfl
  | x :: l => by
    have ih := three_len k l
    have h1 : holdsB 1 x.2 k = decide (x.2 < k) := by simp [holdsB]
    have h2 : holdsB 2 x.2 k = decide (k < x.2) := by simp [holdsB]
    have h3 : holdsB 3 x.2 k = decide (x.2 = k) := by simp [holdsB]
    simp only [List.filter_cons, h1, h2, h3, decide_eq_true_eq]
    rcases Int.lt_trichotomy x.2 k with c | c | c
    · rw [if_pos c, if_neg (by omega), if_neg (by omega)]; simp only [List.length_cons]; omega
    · rw [if_neg (by omega), if_pos c, if_neg (by omega)]; simp only [List.length_cons]; omega
    · rw [if_neg (by omega), if_neg (by omega), if_pos c]; simp only [List.length_cons]; omega
theorem sum3 (a b c d : Nat) (h : a + b + c = d) (hd : d ≤ 4096) : (if IntKind.i64.wrap (IntKind.i64.wrap ((a : Int) + (b : Int)) + (c : Int)) = (d : Int) then some true else some false) = some true := by
  rw [wrap64 (n := (a : Int) + b) (by omega) (by omega), wrap64 (by omega) (by omega), if_pos (by omega)]
theorem law12_FoldWhere_true (n : Int) (hn : inK .u8 n) (s : Sl It) (w : SlW 2 WIt s) (k : Int) (_ : inK .i64 k) : law12_FoldWhere n s k = some true := by
  obtain ⟨⟨m, t⟩, h1, h2, h3, h4⟩ := law09_Some_good n s (u8_of hn) w.ok w.2.2.1
  have hlen : t.l.length ≤ 4096 := right_len h2
  simp only at h3
  have e : ∀ q, fold_Where (m, t) q k = some (m, mo 2 (t.l.filter fun x => holdsB q x.2 k)) := fun q => by
    rw [fold_Where_eq (m, t) q k h3 (show t.l.length ≤ _ by omega)]
    unfold whereV
    rw [sure_id h2]
  unfold law12_FoldWhere
  simp only [h1, Option.bind_some, e]
  obtain ⟨q, q1, q2⟩ := loop_up (b := law12_FoldWhere_b1 t m (mo 2 (t.l.filter fun x => holdsB 1 x.2 k)) m (mo 2 (t.l.filter fun x => holdsB 3 x.2 k)) m (mo 2 (t.l.filter fun x => holdsB 2 x.2 k)) m (mo 2 (t.l.filter fun x => holdsB 4 x.2 k))) t.l.length (fun j a => a = (j : Int)) (fun q => q = .inl ())
    (by
      rintro j _ hj rfl
      have hg := fun q => where_get h2 h3 q k t.l[j] (List.getElem_mem hj)
      simp only [law12_FoldWhere_b1, at_get h3 hj, Option.bind_some, w_succ hj (by omega), hg]
      rw [if_pos (by omega)]
      have a1 : holdsB 1 t.l[j].2 k = decide (t.l[j].2 < k) := by simp [holdsB]
      have a2 : holdsB 2 t.l[j].2 k = decide (k < t.l[j].2) := by simp [holdsB]
      have a3 : holdsB 3 t.l[j].2 k = decide (t.l[j].2 = k) := by simp [holdsB]
      have a4 : holdsB 4 t.l[j].2 k = !decide (t.l[j].2 = k) := by simp [holdsB]
      rw [a1, a2, a3, a4]
      refine .inl ⟨_, ?_, rfl⟩
      rcases Int.lt_trichotomy t.l[j].2 k with c | c | c
      · rw [decide_eq_true c, decide_eq_false (show ¬ k < t.l[j].2 by omega), decide_eq_false (show ¬ t.l[j].2 = k by omega)]; rfl
      · rw [decide_eq_false (show ¬ t.l[j].2 < k by omega), decide_eq_false (show ¬ k < t.l[j].2 by omega), decide_eq_true c]; rfl
      · rw [decide_eq_false (show ¬ t.l[j].2 < k by omega), decide_eq_true c, decide_eq_false (show ¬ t.l[j].2 = k by omega)]; rfl)
    (by
      rintro _ rfl
      exact ⟨_, if_neg (by omega), rfl⟩) 0 (Nat.zero_le _) 0 rfl
  subst q2
  rw [q1]
  simp only [Option.bind_some, Sum.elim_inl, FL_eq3, if_true, mo_l]
  have h3l := three_len k t.l
  exact sum3 _ _ _ _ h3l hlen
end Ev
end Go.Proofs.Ytioagbejilllfaa
