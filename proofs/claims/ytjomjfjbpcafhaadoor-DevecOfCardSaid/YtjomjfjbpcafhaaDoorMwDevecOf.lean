/- DevecOf: mathematics. Over the functions on data; no number of a type or function is named. -/
import Derived.Test.YtjomjfjbpcafhaaDoorLf1
import Derived.Test.YtjomjfjbpcafhaaDoorLf10
import Derived.Test.YtjomjfjbpcafhaaDoorLf2
import Derived.Test.YtjomjfjbpcafhaaDoorLf3
import Derived.Test.YtjomjfjbpcafhaaDoorLf5
import Derived.Test.YtjomjfjbpcafhaaDoorLf8
import Derived.Test.YtjomjfjbpcafhaaDoorLwDO
import Derived.Test.YtjomjfjbpcafhaaDoorEvS5
namespace Go.Proofs.YtjomjfjbpcafhaaDoor
namespace Ev
open Go
set_option linter.unusedVariables false
set_option linter.unusedSimpArgs false
abbrev It := Int × Int
def WIt (x : It) : Prop := inK .i64 x.1 ∧ inK .i64 x.2
def WV (v : Int × Sl It) : Prop := inK .i64 v.1 ∧ SlW 2 WIt v.2
def okS {α : Type} (w : Nat) (s : Sl α) : Prop := s.l = [] ∨ s.sz = w
theorem SlW.ok {α : Type} {w : Nat} {Q : α → Prop} {s : Sl α} (h : SlW w Q s) : okS w s := .inr h.1
def nilS {α : Type} : Sl α := ⟨false, 0, []⟩
theorem ok_nil {α : Type} {w : Nat} : okS w (nilS : Sl α) := .inl rfl
theorem ok_mo {α : Type} {w : Nat} (l : List α) : okS w (mo w l) := by cases l with | nil => exact .inl rfl | cons x l => exact .inr rfl
def asc : Int → Int → List It → Bool
 | _, _, [] => true
 | a, n, x :: l => decide (a < x.1) && decide (x.1 < n) && asc x.1 n l
def sizeB (n : Int) : Bool := decide (0 ≤ n) && decide (n ≤ 4096)
def rightB (v : Int × Sl It) : Bool := sizeB v.1 && asc (-1) v.1 v.2.l
def sureV (v : Int × Sl It) : Int × Sl It := if rightB v = true then v else (0, nilS)
theorem sureV_ok {v : Int × Sl It} (h : okS 2 v.2) : okS 2 (sureV v).2 := by unfold sureV; split; exact h; exact ok_nil
theorem sureV_right (v : Int × Sl It) : rightB (sureV v) = true := by unfold sureV; split; assumption; rfl
theorem asc_lt {n : Int} : ∀ {a : Int} {l : List It}, asc a n l = true → ∀ x ∈ l, a < x.1 ∧ x.1 < n
 | a, y :: l, h, x, hx => by
  simp only [asc, Bool.and_eq_true, decide_eq_true_eq] at h
  rcases List.mem_cons.1 hx with rfl | hx
  ·exact ⟨h.1.1, h.1.2⟩
  ·have := asc_lt h.2 x hx; omega
theorem asc_len {n : Int} : ∀ {a : Int} {l : List It}, asc a n l = true → (l.length : Int) ≤ max (n - a - 1) 0
 | a, [], h => by simp; omega
 | a, y :: l, h => by
  simp only [asc, Bool.and_eq_true, decide_eq_true_eq] at h
  have := asc_len h.2
  simp only [List.length_cons]; omega
theorem right_len {v : Int × Sl It} (h : rightB v = true) : v.2.l.length ≤ 4096 := by
 simp only [rightB, sizeB, Bool.and_eq_true, decide_eq_true_eq] at h
 have := asc_len h.2; omega
theorem sure_len (v : Int × Sl It) : (sureV v).2.l.length ≤ 4096 := right_len (sureV_right v)
theorem spvec_size_eq (n : Int) : spvec_size n = some (sizeB n) := by
 unfold spvec_size sizeB
 by_cases h1 : n ≥ 0
 ·rw [if_pos h1]
  by_cases h2 : n ≤ 4096
  ·rw [if_pos h2, decide_eq_true (show 0 ≤ n from h1), decide_eq_true h2]; rfl
  ·rw [if_neg h2, decide_eq_false h2]; simp
 ·rw [if_neg h1, decide_eq_false (show ¬ 0 ≤ n from h1)]; rfl
theorem spvec_Right_eq (v : Int × Sl It) (hok : okS 2 v.2) (hl : v.2.l.length ≤ 9223372036854775807) : spvec_Right v = some (rightB v) := by
 obtain ⟨n, s⟩ := v
 unfold spvec_Right rightB
 simp only [spvec_size_eq, Option.bind_some]
 cases hs : sizeB n with
 | false => simp
 | true =>
  simp only [if_true, Bool.true_and]
  obtain ⟨r, h1, h2⟩ := loop_up (b := spvec_Right_b1 n s) s.l.length (fun j a => ∃ la, a = (la, (j : Int)) ∧ asc (-1) n s.l = asc la n (s.l.drop j)) (fun r => (asc (-1) n s.l = true ∧ r = .inl ()) ∨ (asc (-1) n s.l = false ∧ r = .inr false))
   (by
    rintro j _ hj ⟨la, rfl, ha⟩
    rw [List.drop_eq_getElem_cons hj] at ha
    simp only [asc] at ha
    simp only [spvec_Right_b1, at_get hok hj, Option.bind_some, w_succ hj (by simp only at hl; omega)]
    rw [if_pos (by omega)]
    by_cases c1 : s.l[j].1 ≤ la
    ·refine .inr ⟨_, if_pos c1, .inr ⟨?_, rfl⟩⟩
     rw [ha, decide_eq_false (by omega)]; rfl
    ·rw [if_neg c1]
     by_cases c2 : s.l[j].1 ≥ n
     ·refine .inr ⟨_, if_pos c2, .inr ⟨?_, rfl⟩⟩
      rw [ha, decide_eq_false (p := s.l[j].1 < n) (by omega)]; simp
     ·refine .inl ⟨_, if_neg c2, _, rfl, ?_⟩
      rw [ha, decide_eq_true (by omega), decide_eq_true (by omega)]; rfl)
   (by
    rintro _ ⟨la, rfl, ha⟩
    refine ⟨_, if_neg (by omega), .inl ⟨?_, rfl⟩⟩
    rw [ha]; simp [asc]) 0 (Nat.zero_le _) (-1, 0) ⟨-1, rfl, rfl⟩
  rw [h1]
  rcases h2 with ⟨h3, rfl⟩ | ⟨h3, rfl⟩ <;> simp [h3]
theorem asc_iff {n : Int} {l : List It} : ∀ {a : Int}, asc a n l = true ↔ ∀ j (h : j < l.length), (if h0 : j = 0 then a < l[j].1 else l[j - 1].1 < l[j].1) ∧ l[j].1 < n := by
 induction l with
 | nil => intro a; simp [asc]
 | cons x l ih =>
  intro a
  simp only [asc, Bool.and_eq_true, decide_eq_true_eq, ih]
  constructor
  ·rintro ⟨⟨h1, h2⟩, h3⟩ j hj
   cases j with
   | zero => exact ⟨by simpa using h1, by simpa using h2⟩
   | succ j =>
    have := h3 j (by simpa using hj)
    refine ⟨?_, by simpa using this.2⟩
    rw [dif_neg (by omega)]
    cases j with
    | zero => simpa using this.1
    | succ j => have := this.1; rw [dif_neg (by omega)] at this; simpa using this
  ·intro h
   have h0 := h 0 (by simp)
   refine ⟨⟨by simpa using h0.1, by simpa using h0.2⟩, fun j hj => ?_⟩
   have := h (j + 1) (by simpa using hj)
   rw [dif_neg (by omega)] at this
   refine ⟨?_, by simpa using this.2⟩
   cases j with
   | zero => simpa using this.1
   | succ j => rw [dif_neg (by omega)]; simpa using this.1
theorem asc_iff' {n : Int} {l : List It} : asc (-1) n l = true ↔ ∀ j (h : j < l.length), 0 ≤ l[j].1 ∧ l[j].1 < n ∧ (j ≠ 0 → l[j - 1].1 < l[j].1) := by
 constructor
 ·intro h j hj
  have h1 := asc_lt h l[j] (List.getElem_mem hj)
  have h2 := (asc_iff.1 h j hj).1
  exact ⟨by omega, h1.2, fun h0 => by rw [dif_neg h0] at h2; exact h2⟩
 ·intro h
  refine asc_iff.2 fun j hj => ⟨?_, (h j hj).2.1⟩
  split
  ·have := (h j hj).1; omega
  ·rename_i h0; exact (h j hj).2.2 h0
theorem ref09_Right_eq (v : Int × Sl It) (hok : okS 2 v.2) (hl : v.2.l.length ≤ 9223372036854775807) : ref09_Right v = some (rightB v) := by
 obtain ⟨n, s⟩ := v
 simp only at hl
 unfold ref09_Right rightB sizeB
 by_cases h1 : n < 0
 ·simp only [if_pos h1, decide_eq_false (show ¬ 0 ≤ n by omega)]; rfl
 by_cases h2 : n > 4096
 ·simp only [if_neg h1, if_pos h2, decide_eq_false (show ¬ n ≤ 4096 by omega)]; simp
 simp only [if_neg h1, if_neg h2, decide_eq_true (show 0 ≤ n by omega), decide_eq_true (show n ≤ 4096 by omega), Bool.true_and]
 have hF : ∀ j (hj : j < s.l.length), ¬ (0 ≤ s.l[j].1 ∧ s.l[j].1 < n ∧ (j ≠ 0 → s.l[j - 1].1 < s.l[j].1)) → asc (-1) n s.l = false := fun j hj hh => by
  rw [Bool.eq_false_iff]; intro hc; exact hh (asc_iff'.1 hc j hj)
 obtain ⟨r, h3, h4⟩ := loop_up (b := ref09_Right_b1 n s) s.l.length (fun j a => a = (j : Int) ∧ ∀ i (h : i < s.l.length), i < j → 0 ≤ s.l[i].1 ∧ s.l[i].1 < n ∧ (i ≠ 0 → s.l[i - 1].1 < s.l[i].1)) (fun r => (asc (-1) n s.l = true ∧ r = .inl ()) ∨ (asc (-1) n s.l = false ∧ r = .inr false))
  (by
   rintro j _ hj ⟨rfl, ha⟩
   simp only [ref09_Right_b1, at_get hok hj, Option.bind_some, w_succ hj (by omega)]
   rw [if_pos (by omega)]
   by_cases c1 : s.l[j].1 < 0
   ·exact .inr ⟨_, if_pos c1, .inr ⟨hF j hj (by omega), rfl⟩⟩
   rw [if_neg c1]
   by_cases c2 : s.l[j].1 ≥ n
   ·exact .inr ⟨_, if_pos c2, .inr ⟨hF j hj (by omega), rfl⟩⟩
   rw [if_neg c2]
   by_cases c3 : (j : Int) > 0
   ·rw [if_pos c3]
    have e : IntKind.i64.wrap ((j : Int) - 1) = ((j - 1 : Nat) : Int) := by rw [wrap64 (by omega) (by omega)]; omega
    rw [e, at_get hok (show j - 1 < s.l.length by omega)]
    simp only [Option.bind_some]
    by_cases c4 : s.l[j].1 ≤ s.l[j - 1].1
    ·exact .inr ⟨_, if_pos c4, .inr ⟨hF j hj (fun hh => by have := hh.2.2 (by omega); omega), rfl⟩⟩
    ·refine .inl ⟨_, if_neg c4, rfl, fun i hi hij => ?_⟩
     by_cases hh : i = j
     ·subst hh; exact ⟨by omega, by omega, fun _ => by omega⟩
     ·exact ha i hi (by omega)
   ·refine .inl ⟨_, if_neg c3, rfl, fun i hi hij => ?_⟩
    by_cases hh : i = j
    ·subst hh; exact ⟨by omega, by omega, fun _ => by omega⟩
    ·exact ha i hi (by omega))
  (by
   rintro _ ⟨rfl, ha⟩
   exact ⟨_, if_neg (by omega), .inl ⟨asc_iff'.2 fun j hj => ha j hj hj, rfl⟩⟩) 0 (Nat.zero_le _) 0 ⟨rfl, fun i _ h => absurd h (by omega)⟩
 rw [h3]
 rcases h4 with ⟨h5, rfl⟩ | ⟨h5, rfl⟩ <;> simp [h5]
theorem ref09_Sure_eq (v : Int × Sl It) (hok : okS 2 v.2) (hl : v.2.l.length ≤ 9223372036854775807) : ref09_Sure v = some (sureV v) := by
 obtain ⟨n, s⟩ := v
 unfold ref09_Sure sureV
 simp only [ref09_Right_eq (n, s) hok hl, Option.bind_some]
 split <;> rfl
def fewV (v : Int × Sl It) : Int × Sl It := (v.1, if (v.2.l.length : Int) > 60 then ⟨v.2.nn, v.2.sz, v.2.l.take 60⟩ else v.2)
theorem law09_Few_eq (v : Int × Sl It) : law09_Few v = some (fewV v) := by
 obtain ⟨n, s⟩ := v
 unfold law09_Few fewV
 by_cases h : (s.l.length : Int) > 60
 ·simp only [if_pos h]
  have : cutS 2 s 0 60 = some ⟨s.nn, s.sz, s.l.take 60⟩ := by
   unfold cutS; rw [if_pos ⟨by omega, by omega, by omega, .inr rfl⟩]; rfl
  rw [this]; rfl
 ·simp only [if_neg h]
theorem few_ok {v : Int × Sl It} (h : okS 2 v.2) : okS 2 (fewV v).2 := by
 unfold fewV
 by_cases hc : (v.2.l.length : Int) > 60
 ·simp only [if_pos hc]; rcases h with h | h; exact .inl (by simp [h]); exact .inr h
 ·simp only [if_neg hc]; exact h
theorem few_len (v : Int × Sl It) : (fewV v).2.l.length ≤ 60 := by
 unfold fewV
 by_cases hc : (v.2.l.length : Int) > 60
 ·simp only [if_pos hc]; simp; omega
 ·simp only [if_neg hc]; omega
def i64r (n : Int) : Prop := -9223372036854775808 ≤ n ∧ n ≤ 9223372036854775807
def u64r (n : Int) : Prop := 0 ≤ n ∧ n ≤ 18446744073709551615
theorem i64r_of {n : Int} (h : inK .i64 n) : i64r n := by simpa [inK, i64r, Lit.wf, IntKind.min, IntKind.max, IntKind.signed, IntKind.bits] using h
theorem WV.ok {v : Int × Sl It} (h : WV v) : okS 2 v.2 := h.2.ok
theorem WV.vals {v : Int × Sl It} (h : WV v) : ∀ x ∈ v.2.l, i64r x.2 := fun x hx => i64r_of (h.2.2.2.2 x hx).2
theorem wrap_u64 (n : Int) : IntKind.u64.wrap n = n % 18446744073709551616 := by
 simp [IntKind.wrap, IntKind.signed, IntKind.bits]
theorem sameItems_refl (s : Sl It) (hok : okS 2 s) (hl : s.l.length ≤ 9223372036854775807) : ref07_SameItems s s = some true := by
 unfold ref07_SameItems
 rw [if_neg (by simp)]
 obtain ⟨q, h1, h2⟩ := loop_up (b := ref07_SameItems_b1 s s) s.l.length (fun j a => a = (j : Int)) (fun q => q = .inl ())
  (by
   rintro j _ hj rfl
   simp only [ref07_SameItems_b1, at_get hok hj, Option.bind_some, w_succ hj (by omega)]
   rw [if_pos (by omega)]
   exact .inl ⟨_, if_pos (by simp), rfl⟩)
  (by
   rintro _ rfl
   exact ⟨_, if_neg (by omega), rfl⟩) 0 (Nat.zero_le _) 0 rfl
 subst h2
 rw [h1]; rfl
theorem same_refl (v : Int × Sl It) (hok : okS 2 v.2) (hl : v.2.l.length ≤ 9223372036854775807) : ref09_Same v v = some true := by
 obtain ⟨n, s⟩ := v
 unfold ref09_Same
 simp only [if_true, sameItems_refl s hok hl, Option.bind_some]
def getI (p : Int) : List It → Option Int
 | [] => none
 | x :: l => if x.1 = p then some x.2 else getI p l
def itemO (p : Nat) : Option Int → Option It
 | some x => some ((p : Int), x)
 | none => none
def gathR (a k : Nat) (g : Nat → Option Int) : List It := (List.range' a k).filterMap fun p => itemO p (g p)
theorem gathR_zero (a : Nat) (g : Nat → Option Int) : gathR a 0 g = [] := rfl
theorem gathR_succ (a k : Nat) (g : Nat → Option Int) : gathR a (k + 1) g = (match g a with | some x => [((a : Int), x)] | none => []) ++ gathR (a + 1) k g := by
 unfold gathR
 rw [List.range'_succ, List.filterMap_cons]
 cases h : g a <;> simp [itemO, h]
theorem gathR_app (a k m : Nat) (g : Nat → Option Int) : gathR a (k + m) g = gathR a k g ++ gathR (a + k) m g := by
 unfold gathR
 rw [← List.range'_append_1, List.filterMap_append]
theorem gathR_last (a k : Nat) (g : Nat → Option Int) : gathR a (k + 1) g = gathR a k g ++ (match g (a + k) with | some x => [(((a + k : Nat) : Int), x)] | none => []) := by
 rw [gathR_app, gathR_succ, gathR_zero, List.append_nil]
theorem gathR_congr {a k : Nat} {g g' : Nat → Option Int} (h : ∀ p, a ≤ p → p < a + k → g p = g' p) : gathR a k g = gathR a k g' := by
 induction k generalizing a with
 | zero => rfl
 | succ k ih => rw [gathR_succ, gathR_succ, h a (Nat.le_refl _) (by omega), ih fun p h1 h2 => h p (by omega) (by omega)]
theorem gathR_none {a k : Nat} {g : Nat → Option Int} (h : ∀ p, a ≤ p → p < a + k → g p = none) : gathR a k g = [] := by
 induction k generalizing a with
 | zero => rfl
 | succ k ih => rw [gathR_succ, h a (Nat.le_refl _) (by omega), ih fun p h1 h2 => h p (by omega) (by omega)]; rfl
theorem gathR_len (a k : Nat) (g : Nat → Option Int) : (gathR a k g).length ≤ k := by
 have := List.length_filterMap_le (fun p => itemO p (g p)) (List.range' a k)
 simpa [gathR] using this
theorem getI_none {p : Int} : ∀ {l : List It}, (∀ x ∈ l, x.1 ≠ p) → getI p l = none
 | [], _ => rfl
 | x :: l, h => by
  unfold getI
  rw [if_neg (h x List.mem_cons_self)]
  exact getI_none fun y hy => h y (List.mem_cons_of_mem _ hy)
theorem asc_gath {n : Int} : ∀ {l : List It} {a k : Nat}, asc ((a : Int) - 1) n l = true → ((a + k : Nat) : Int) = n → l = gathR a k fun p => getI (p : Int) l
 | [], a, k, h, hn => (gathR_none fun p _ _ => rfl).symm
 | x :: l, a, k, h, hn => by
  simp only [asc, Bool.and_eq_true, decide_eq_true_eq] at h
  obtain ⟨⟨h1, h2⟩, h3⟩ := h
  obtain ⟨q, hq⟩ : ∃ q : Nat, x.1 = (q : Int) := ⟨x.1.toNat, by omega⟩
  have hk : k = (q - a) + ((k - (q - a) - 1) + 1) := by omega
  rw [hk, gathR_app, gathR_succ]
  have e1 : gathR a (q - a) (fun p => getI (p : Int) (x :: l)) = [] := gathR_none fun p p1 p2 => by
   refine getI_none fun y hy => ?_
   rcases List.mem_cons.1 hy with rfl | hy
   ·omega
   ·have := asc_lt h3 y hy; omega
  have ea : a + (q - a) = q := by omega
  have e2 : getI ((a + (q - a) : Nat) : Int) (x :: l) = some x.2 := by unfold getI; rw [if_pos (by omega)]
  have h3' : asc (((q + 1 : Nat) : Int) - 1) n l = true := by rw [hq] at h3; simpa using h3
  have ih := asc_gath (k := k - (q - a) - 1) h3' (by omega)
  rw [e1, e2, ea]
  have e3 : gathR (q + 1) (k - (q - a) - 1) (fun p => getI (p : Int) (x :: l)) = l := by
   rw [gathR_congr (g' := fun p => getI (p : Int) l) fun p p1 p2 => by
    show getI (p : Int) (x :: l) = _
    rw [getI, if_neg (by omega)]]
   exact ih.symm
  rw [e3, List.nil_append, ← hq]; rfl
def vecG (n : Nat) (g : Nat → Option Int) : List It := gathR 0 n g
theorem right_gath {n : Int} {s : Sl It} (h : rightB (n, s) = true) : s.l = vecG n.toNat fun p => getI (p : Int) s.l := by
 simp only [rightB, sizeB, Bool.and_eq_true, decide_eq_true_eq] at h
 exact asc_gath (a := 0) (by simpa using h.2) (by omega)
theorem right_at {n : Int} {s : Sl It} (h : rightB (n, s) = true) {j : Nat} (hj : j < s.l.length) : 0 ≤ s.l[j].1 ∧ s.l[j].1 < n := by
 simp only [rightB, Bool.and_eq_true] at h
 have := asc_lt h.2 _ (List.getElem_mem hj); omega
theorem right_size {n : Int} {s : Sl It} (h : rightB (n, s) = true) : 0 ≤ n ∧ n ≤ 4096 := by
 simp only [rightB, sizeB, Bool.and_eq_true, decide_eq_true_eq] at h; omega
theorem getI_append (p : Int) : ∀ (l m : List It), getI p (l ++ m) = match getI p l with | some x => some x | none => getI p m
 | [], m => rfl
 | x :: l, m => by
  simp only [List.cons_append, getI]
  by_cases h : x.1 = p
  ·rw [if_pos h, if_pos h]
  ·rw [if_neg h, if_neg h]; exact getI_append p l m
theorem getI_take {n : Int} {s : Sl It} (h : rightB (n, s) = true) {j : Nat} (hj : j < s.l.length) : getI (s.l[j].1) (s.l.take j) = none := by
 simp only [rightB, Bool.and_eq_true] at h
 refine getI_none fun x hx => ?_
 obtain ⟨i, hi, rfl⟩ := List.getElem_of_mem hx
 have hij : i < j := by simp at hi; omega
 rw [List.getElem_take]
 have key : ∀ d i (hi : i + d + 1 < s.l.length), s.l[i].1 < s.l[i + d + 1].1 := by
  intro d
  induction d with
  | zero => intro i hi; exact ((asc_iff'.1 h.2) (i + 1) hi).2.2 (by omega)
  | succ d ih => intro i hi; have h1 := ih i (by omega); have h2 := ((asc_iff'.1 h.2) (i + (d + 1) + 1) hi).2.2 (by omega); simp only [Nat.add_sub_cancel] at h2; exact Int.lt_trans h1 h2
 have := key (j - i - 1) i (by omega)
 simp only [show i + (j - i - 1) + 1 = j by omega] at this
 omega
theorem sure_id {v : Int × Sl It} (h : rightB v = true) : sureV v = v := by unfold sureV; rw [if_pos h]
def GoodV (v : Int × Sl It) : Prop := rightB v = true ∧ okS 2 v.2 ∧ ∀ x ∈ v.2.l, i64r x.2
def hd : List It → List It → Int × Option Int × Option Int × List It × List It
 | [], [] => (0, none, none, [], [])
 | x :: l, [] => (x.1, some x.2, none, l, [])
 | [], y :: m => (y.1, none, some y.2, [], m)
 | x :: l, y :: m => if x.1 ≤ y.1 then (if y.1 ≤ x.1 then (y.1, some x.2, some y.2, l, m) else (x.1, some x.2, none, l, y :: m)) else (y.1, none, some y.2, x :: l, m)
theorem few_vals {v : Int × Sl It} (h : ∀ x ∈ v.2.l, i64r x.2) : ∀ x ∈ (fewV v).2.l, i64r x.2 := by
 unfold fewV
 simp only
 split
 ·intro x hx; exact h x (List.mem_of_mem_take hx)
 ·exact h
theorem div64n {j : Nat} (hj : j < 1000000) : divO .i64 (j : Int) 64 = some ((j / 64 : Nat) : Int) := by
 unfold divO
 rw [if_pos (by decide), Int.tdiv_eq_ediv_of_nonneg (by omega), wrap64 (by omega) (by omega)]; rfl
theorem mod64n {j : Nat} : modO (j : Int) 64 = some ((j % 64 : Nat) : Int) := by
 unfold modO
 rw [if_pos (by decide), Int.tmod_eq_emod_of_nonneg (by omega)]; rfl
theorem and_nat {a b : Nat} (ha : a < 18446744073709551616) (hb : b < 18446744073709551616) : andI .u64 (a : Int) (b : Int) = ((a &&& b : Nat) : Int) := by
 unfold andI
 have hb' : IntKind.u64.bits = 64 := rfl
 rw [hb', BitVec.toNat_and, BitVec.toNat_ofInt, BitVec.toNat_ofInt, wrap_u64]
 have e1 : ((a : Int) % ((2 ^ 64 : Nat) : Int)).toNat = a := by omega
 have e2 : ((b : Int) % ((2 ^ 64 : Nat) : Int)).toNat = b := by omega
 rw [e1, e2]
 have : a &&& b < 2 ^ 64 := Nat.and_lt_two_pow a (by omega)
 omega
def hasB (ws : List Int) (p : Nat) : Bool := match ws[p / 64]? with | some w => w.toNat.testBit (p % 64) | none => false
def u64s (ws : List Int) : Prop := ∀ w ∈ ws, u64r w
theorem and_pow (a k : Nat) : a &&& 2 ^ k ≠ 0 ↔ a.testBit k = true := by
 constructor
 ·intro h
  cases hc : a.testBit k with
  | true => rfl
  | false =>
   refine absurd (Nat.eq_of_testBit_eq fun i => ?_) h
   rw [Nat.testBit_and, Nat.testBit_two_pow, Nat.zero_testBit]
   by_cases e : k = i
   ·subst e; rw [hc]; rfl
   ·rw [decide_eq_false e, Bool.and_false]
 ·intro h e
  have : (a &&& 2 ^ k).testBit k = false := by rw [e]; exact Nat.zero_testBit _
  rw [Nat.testBit_and, Nat.testBit_two_pow, h] at this
  simp at this
theorem pow_lt {k : Nat} (hk : k < 64) : 2 ^ k < 18446744073709551616 := Nat.pow_lt_pow_right (by decide) hk
theorem flags_Has_eq (s : Sl Int) (p : Nat) (hok : okS 1 s) (hu : u64s s.l) (hp : p < 1000000) : flags_Has s (p : Int) = some (hasB s.l p) := by
 unfold flags_Has flags_within hasB
 simp only [div64n hp, Option.bind_some]
 rw [if_pos (by omega)]
 by_cases h : p / 64 < s.l.length
 ·rw [if_pos (by omega)]
  simp only [Option.bind_some, if_true, at_get hok h]
  have hw := hu _ (List.getElem_mem h)
  have hg : s.l[p / 64]? = some s.l[p / 64] := List.getElem?_eq_getElem h
  rw [hg]
  obtain ⟨w, hw2⟩ := Int.eq_ofNat_of_zero_le hw.1
  rw [hw2] at hw ⊢
  have hk : p % 64 < 64 := Nat.mod_lt _ (by decide)
  have hpow := pow_lt hk
  have hb : flags_bit (p : Int) = some ((2 ^ (p % 64) : Nat) : Int) := by
   unfold flags_bit
   simp only [mod64n, Option.bind_some]
   have e : IntKind.u64.wrap ((p % 64 : Nat) : Int) = ((p % 64 : Nat) : Int) := by rw [wrap_u64]; omega
   rw [e]
   unfold shl1 shlI
   rw [if_pos (by omega)]
   have hmin : min (((p % 64 : Nat) : Int)).toNat IntKind.u64.bits = p % 64 := by
    have : IntKind.u64.bits = 64 := rfl
    omega
   rw [hmin, Int.one_mul, wrap_u64]
   simp only [Option.bind_some]
   congr 1
   have : (2 : Int) ^ (p % 64) = ((2 ^ (p % 64) : Nat) : Int) := by simp
   rw [this]
   clear this
   generalize 2 ^ (p % 64) = z at hpow ⊢
   omega
  rw [hb]
  simp only [Option.bind_some]
  rw [and_nat (by have := hw.2; omega) hpow]
  simp only [Int.toNat_natCast]
  have ht := and_pow w (p % 64)
  cases hc : w.testBit (p % 64) with
  | false => rw [hc] at ht; rw [if_neg (fun h => by have := ht.1 (fun e => h (by rw [e]; rfl)); simp at this)]
  | true => rw [hc] at ht; rw [if_pos (by have := ht.2 rfl; omega)]
 ·rw [if_neg (by omega)]
  simp only [Option.bind_some, Bool.false_eq_true, if_false]
  rw [List.getElem?_eq_none (by omega)]
theorem ref03_Has_eq (s : Sl Int) (p : Nat) (hok : okS 1 s) (hu : u64s s.l) (hp : p < 1000000) : ref03_Has s (p : Int) = some (hasB s.l p) := by
 unfold ref03_Has hasB
 simp only [div64n hp, Option.bind_some]
 rw [if_pos (by omega)]
 by_cases h : p / 64 < s.l.length
 ·rw [if_pos (by omega)]
  simp only [at_get hok h, mod64n, Option.bind_some]
  have hw := hu _ (List.getElem_mem h)
  have hg : s.l[p / 64]? = some s.l[p / 64] := List.getElem?_eq_getElem h
  rw [hg]
  obtain ⟨w, hw2⟩ := Int.eq_ofNat_of_zero_le hw.1
  rw [hw2] at hw ⊢
  have hk : p % 64 < 64 := Nat.mod_lt _ (by decide)
  have e : IntKind.u64.wrap ((p % 64 : Nat) : Int) = ((p % 64 : Nat) : Int) := by rw [wrap_u64]; omega
  rw [e]
  unfold shr1 shrI
  rw [if_pos (by omega)]
  have hmin : min (((p % 64 : Nat) : Int)).toNat IntKind.u64.bits = p % 64 := by
   have : IntKind.u64.bits = 64 := rfl
   omega
  rw [hmin]
  have h2 : Int.fdiv (w : Int) (2 ^ (p % 64)) = ((w / 2 ^ (p % 64) : Nat) : Int) := by
   have : (2 : Int) ^ (p % 64) = ((2 ^ (p % 64) : Nat) : Int) := by simp
   rw [this, Int.fdiv_eq_ediv_of_nonneg _ (Int.natCast_nonneg _)]; rfl
  rw [h2]
  simp only [Option.bind_some]
  have hle : w / 2 ^ (p % 64) ≤ w := Nat.div_le_self _ _
  have h1 : ((1 : Nat) : Int) = 1 := rfl
  rw [← h1, and_nat (by have := hw.2; omega) (by omega), Nat.and_one_is_mod]
  simp only [Int.toNat_natCast]
  rw [Nat.testBit_eq_decide_div_mod_eq]
  by_cases c : w / 2 ^ (p % 64) % 2 = 1
  ·rw [if_pos (by omega), decide_eq_true c]
  ·rw [if_neg (by omega), decide_eq_false c]
 ·rw [if_neg (by omega)]
  rw [List.getElem?_eq_none (by omega)]
theorem u64s_of {s : Sl Int} (h : SlW 1 (fun x => inK .u64 x) s) : u64s s.l := fun x hx => by
 have := h.2.2.2 x hx
 simpa [inK, u64r, Lit.wf, IntKind.min, IntKind.max, IntKind.signed, IntKind.bits] using this
theorem at_mo {α : Type} {w : Nat} {l : List α} {k : Nat} {x : α} (h : l[k]? = some x) : atS w (mo w l) (k : Int) = some x := by
 have hk := (List.getElem?_eq_some_iff.1 h).1
 have := at_get (w := w) (s := mo w l) (ok_mo l) (j := k) (by rw [mo_l]; exact hk)
 rw [this]
 simp only [mo_l]
 rw [← h, List.getElem?_eq_getElem hk]
theorem at_s {α : Type} {w : Nat} {s : Sl α} (hs : okS w s) {k : Nat} {x : α} (h : s.l[k]? = some x) : atS w s (k : Int) = some x := by
 have hk := (List.getElem?_eq_some_iff.1 h).1
 rw [at_get hs hk, ← h, List.getElem?_eq_getElem hk]
theorem hasB_word {ws : List Int} {p i k : Nat} {w : Int} (hp : p / 64 = i) (hk : p % 64 = k) (hw : ws[i]? = some w) : hasB ws p = w.toNat.testBit k := by unfold hasB; rw [hp, hk, hw]
theorem hasB_out {ws : List Int} {p : Nat} (h : ws.length ≤ p / 64) : hasB ws p = false := by unfold hasB; rw [List.getElem?_eq_none h]
theorem ref03_words_eq {n : Int} (h : 0 ≤ n ∧ n ≤ 4096) : ref03_words n = some ((n + 63) / 64) := by
 unfold ref03_words
 rw [if_neg (by omega)]
 by_cases h1 : n < 1
 ·rw [if_pos h1]
  obtain rfl : n = 0 := by omega
  rfl
 ·rw [if_neg h1, wrap64 (by omega) (by omega)]
  unfold divO
  rw [if_pos (by decide), Int.tdiv_eq_ediv_of_nonneg (by omega), wrap64 (by omega) (by omega)]; rfl
theorem or_nat {a b : Nat} (ha : a < 18446744073709551616) (hb : b < 18446744073709551616) : orI .u64 (a : Int) (b : Int) = ((a ||| b : Nat) : Int) := by
 unfold orI
 have hb' : IntKind.u64.bits = 64 := rfl
 rw [hb', BitVec.toNat_or, BitVec.toNat_ofInt, BitVec.toNat_ofInt, wrap_u64]
 have e1 : ((a : Int) % ((2 ^ 64 : Nat) : Int)).toNat = a := by omega
 have e2 : ((b : Int) % ((2 ^ 64 : Nat) : Int)).toNat = b := by omega
 rw [e1, e2]
 have : a ||| b < 2 ^ 64 := Nat.or_lt_two_pow (by omega) (by omega)
 omega
theorem shl_one {p : Nat} : shl1 .u64 1 (IntKind.u64.wrap ((p % 64 : Nat) : Int)) = some ((2 ^ (p % 64) : Nat) : Int) := by
 have hk : p % 64 < 64 := Nat.mod_lt _ (by decide)
 have hpow := pow_lt hk
 have e : IntKind.u64.wrap ((p % 64 : Nat) : Int) = ((p % 64 : Nat) : Int) := by rw [wrap_u64]; omega
 rw [e]
 unfold shl1 shlI
 rw [if_pos (by omega)]
 have hmin : min (((p % 64 : Nat) : Int)).toNat IntKind.u64.bits = p % 64 := by
  have : IntKind.u64.bits = 64 := rfl
  omega
 rw [hmin, Int.one_mul, wrap_u64]
 congr 1
 have : (2 : Int) ^ (p % 64) = ((2 ^ (p % 64) : Nat) : Int) := by simp
 rw [this]
 clear this
 generalize 2 ^ (p % 64) = z at hpow ⊢
 omega
theorem ref03_Put_eq (ws : List Int) (p : Nat) (hu : u64s ws) (hl : ws.length ≤ 1000) (hp : p / 64 < ws.length) (hp2 : p < 1000000) : ∃ q, ref03_Put ⟨true, 1, ws⟩ (p : Int) = some q ∧ q.length = ws.length ∧ u64s q ∧ ∀ i, hasB q i = (hasB ws i || decide (i = p)) := by
 have hap : app ([] : List Int) ws = some ([] ++ ws) := app_ok (by simp; unfold bound; omega)
 have hw := hu _ (List.getElem_mem hp)
 have hat := at_mo (w := 1) (l := ws) (List.getElem?_eq_getElem hp)
 obtain ⟨w, hw2⟩ := Int.eq_ofNat_of_zero_le hw.1
 rw [hw2] at hw hat
 have hwlt : w < 18446744073709551616 := by have := hw.2; omega
 have hk : p % 64 < 64 := Nat.mod_lt _ (by decide)
 have hpow := pow_lt hk
 have hor := or_nat hwlt hpow
 have horl : w ||| 2 ^ (p % 64) < 2 ^ 64 := Nat.or_lt_two_pow (by omega) (by omega)
 refine ⟨ws.set (p / 64) ((w ||| 2 ^ (p % 64) : Nat) : Int), ?_, by simp, fun x hx => ?_, fun i => ?_⟩
 ·unfold ref03_Put ref03_set
  simp only [hap, Option.bind_some, List.nil_append, div64n hp2, mod64n, shl_one, hat, hor, if_true]
  rw [if_neg (by omega), if_neg (by omega), Int.toNat_natCast]; rfl
 ·rcases List.mem_or_eq_of_mem_set hx with hx | rfl
  ·exact hu x hx
  ·unfold u64r; omega
 ·by_cases e : i / 64 = p / 64
  ·rw [hasB_word (ws := ws.set _ _) e rfl (by rw [List.getElem?_set, if_pos rfl, if_pos hp]), hasB_word e rfl (by rw [List.getElem?_eq_getElem hp, hw2])]
   simp only [Int.toNat_natCast]
   rw [Nat.testBit_or, Nat.testBit_two_pow]
   congr 1
   by_cases e2 : i = p
   ·subst e2; simp
   ·rw [decide_eq_false e2, decide_eq_false (by omega)]
  ·have hne : (ws.set (p / 64) ((w ||| 2 ^ (p % 64) : Nat) : Int))[i / 64]? = ws[i / 64]? := by rw [List.getElem?_set, if_neg (Ne.symm e)]
   have e2 : i ≠ p := fun h => e (by rw [h])
   rw [decide_eq_false e2, Bool.or_false]
   unfold hasB
   rw [hne]
theorem has_zero (k i : Nat) : hasB (List.replicate k 0) i = false := by
 unfold hasB
 rw [List.getElem?_replicate]
 split
 ·rename_i h
  split at h
  ·simp only [Option.some.injEq] at h; rw [← h]; simp
  ·simp at h
 ·rfl
theorem ref03_Of_eq {n : Nat} (hn : n ≤ 4096) (s : Sl Int) (hs : okS 1 s) (hl : s.l.length ≤ 9223372036854775807) : ∃ q, ref03_Of (n : Int) s = some q ∧ ((q.length : Nat) : Int) = ((n : Int) + 63) / 64 ∧ u64s q ∧ ∀ i, hasB q i = (decide (i < n) && decide ((i : Int) ∈ s.l)) := by
 have hwd := ref03_words_eq (n := (n : Int)) ⟨by omega, by omega⟩
 have hlo : lenOk (((n : Int) + 63) / 64) = some () := by unfold lenOk bound; rw [if_pos ⟨by omega, by omega⟩]
 unfold ref03_Of ref03_New
 simp only [hwd, hlo, Option.bind_some]
 obtain ⟨q, q1, w, rfl, w1, w2, w3⟩ := loop_up (b := ref03_Of_b1 (n : Int) s) s.l.length (fun j st => ∃ w : List Int, st = (w, (j : Int)) ∧ ((w.length : Nat) : Int) = ((n : Int) + 63) / 64 ∧ u64s w ∧ ∀ i, hasB w i = (decide (i < n) && decide ((i : Int) ∈ s.l.take j))) (fun q => ∃ w : List Int, q = .inl w ∧ ((w.length : Nat) : Int) = ((n : Int) + 63) / 64 ∧ u64s w ∧ ∀ i, hasB w i = (decide (i < n) && decide ((i : Int) ∈ s.l)))
  (by
   rintro j _ hj ⟨w, rfl, g1, g2, g3⟩
   have ej := at_get hs hj
   have htk : s.l.take (j + 1) = s.l.take j ++ [s.l[j]] := by rw [List.take_succ_eq_append_getElem hj]
   rw [htk]
   generalize s.l[j] = x at ej
   simp only [ref03_Of_b1, ej, Option.bind_some, w_succ hj hl]
   rw [if_pos (by omega)]
   have same : ¬ (0 ≤ x ∧ x < (n : Int)) → ∀ i, hasB w i = (decide (i < n) && decide ((i : Int) ∈ s.l.take j ++ [x])) := fun h i => by
    rw [g3 i]
    by_cases hi : i < n
    ·rw [decide_eq_true hi]
     simp only [Bool.true_and]
     congr 1
     simp only [List.mem_append, List.mem_cons, List.not_mem_nil, or_false, eq_iff_iff]
     exact ⟨.inl, fun h1 => h1.resolve_right fun e => h (by omega)⟩
    ·rw [decide_eq_false hi]; rfl
   by_cases c1 : x ≥ 0
   ·rw [if_pos c1]
    by_cases c2 : x < (n : Int)
    ·rw [if_pos c2, if_pos (by omega)]
     obtain ⟨p, rfl⟩ := Int.eq_ofNat_of_zero_le c1
     obtain ⟨v, v1, v2, v3, v4⟩ := ref03_Put_eq w p g2 (by omega) (by omega) (by omega)
     rw [v1]
     simp only [Option.bind_some]
     rw [neL_some (by intro h; rw [h] at v2; simp at v2; omega)]
     refine .inl ⟨_, rfl, v, rfl, by rw [v2]; exact g1, v3, fun i => ?_⟩
     rw [v4 i, g3 i]
     by_cases hi : i < n
     ·rw [decide_eq_true hi]
      simp only [Bool.true_and, List.mem_append, List.mem_cons, List.not_mem_nil, or_false, Bool.decide_or]
      congr 1
      by_cases e : i = p
      ·subst e; simp
      ·rw [decide_eq_false e, decide_eq_false (by omega)]
     ·rw [decide_eq_false hi, decide_eq_false (show ¬ i = p by omega)]; rfl
    ·rw [if_neg c2]
     exact .inl ⟨_, rfl, w, rfl, g1, g2, same (by omega)⟩
   ·rw [if_neg c1]
    exact .inl ⟨_, rfl, w, rfl, g1, g2, same (by omega)⟩)
  (by
   rintro _ ⟨w, rfl, g1, g2, g3⟩
   rw [List.take_length] at g3
   refine ⟨.inl w, ?_, w, rfl, g1, g2, g3⟩
   simp only [ref03_Of_b1]
   rw [if_neg (by omega)]) 0 (Nat.zero_le _) (List.replicate (((n : Int) + 63) / 64).toNat 0, 0) ⟨_, rfl, by simp; omega, fun x hx => by rw [List.eq_of_mem_replicate hx]; unfold u64r; omega, fun i => by rw [has_zero]; simp⟩
 exact ⟨w, by rw [q1]; rfl, w1, w2, w3⟩
theorem bit_of_ne {x : Nat} (h : x ≠ 0) : ∃ i, x.testBit i = true := by
 by_cases hh : ∃ i, x.testBit i = true
 ·exact hh
 ·refine absurd (Nat.eq_of_testBit_eq (y := 0) fun i => ?_) h
  rw [Nat.zero_testBit]
  cases hb : x.testBit i with
  | false => rfl
  | true => exact absurd ⟨i, hb⟩ hh
theorem shr_nat {w k : Nat} (hw : w < 18446744073709551616) (hk : k < 64) : shr1 .u64 (w : Int) (IntKind.u64.wrap ((k : Nat) : Int)) = some ((w / 2 ^ k : Nat) : Int) := by
 have e : IntKind.u64.wrap ((k : Nat) : Int) = ((k : Nat) : Int) := by rw [wrap_u64]; omega
 rw [e]
 unfold shr1 shrI
 rw [if_pos (by omega)]
 have hmin : min (((k : Nat) : Int)).toNat IntKind.u64.bits = k := by
  have : IntKind.u64.bits = 64 := rfl
  omega
 rw [hmin]
 have : (2 : Int) ^ k = ((2 ^ k : Nat) : Int) := by simp
 rw [this, Int.fdiv_eq_ediv_of_nonneg _ (Int.natCast_nonneg _)]; rfl
theorem bit_lt {w k : Nat} (hw : w < 18446744073709551616) (h : w.testBit k = true) : k < 64 := by
 by_cases hk : k < 64
 ·exact hk
 ·have : w < 2 ^ k := Nat.lt_of_lt_of_le (show w < 2 ^ 64 by omega) (Nat.pow_le_pow_right (by decide) (by omega))
  rw [Nat.testBit_lt_two_pow this] at h; simp at h
theorem TZ_eq {x : Nat} (h0 : x ≠ 0) (h : x < 18446744073709551616) : ∃ k : Nat, TZ (x : Int) = some (k : Int) ∧ k < 64 := by
 unfold TZ
 rw [if_pos (by omega)]
 exact ⟨_, rfl, by simpa using (Lib.lowest_bit 64 x h0 h).2⟩
theorem next_in {n6 j : Int} {w : Nat} (hw : w < 18446744073709551616) (h0 : 0 ≤ n6 ∧ n6 ≤ 100) (h1 : 0 ≤ j ∧ j ≤ 100) : (w = 0 → loopO (flags_Next_b2 n6 j w) () = some (.inr (.inl ()))) ∧ (w ≠ 0 → ∃ z, 0 ≤ z ∧ loopO (flags_Next_b2 n6 j w) () = some (.inl z)) := by
 constructor
 ·intro h
  exact loopO_done (by unfold flags_Next_b2; rw [if_neg (by omega)])
 ·intro h
  obtain ⟨k, hk, hlt⟩ := TZ_eq h hw
  refine ⟨_, ?_, loopO_done (by unfold flags_Next_b2; rw [if_pos (by omega), hk]; rfl)⟩
  rw [wrap64 (n := n6 + 1) (by omega) (by omega), wrap64 (n := (n6 + 1) * 64) (by omega) (by omega), wrap64 (n := j * 64) (by omega) (by omega), wrap64 (n := j * 64 + (k : Int)) (by omega) (by omega), wrap64 (by omega) (by omega)]
  omega
theorem flags_Next_neg (s : Sl Int) (n : Nat) (hok : okS 1 s) (hu : u64s s.l) (hl : s.l.length ≤ 64) (hn : n ≤ 4096) : ∃ z, flags_Next s (n : Int) = some z ∧ (z < 0 ↔ ∀ p, n ≤ p → hasB s.l p = false) := by
 unfold flags_Next flags_within
 have hm : maxI (n : Int) 0 = n := by unfold maxI; rw [if_neg (by omega)]
 rw [hm]
 simp only [div64n (show n < 1000000 by omega), Option.bind_some, mod64n]
 rw [if_pos (by omega)]
 by_cases h : n / 64 < s.l.length
 ·rw [if_pos (by omega)]
  simp only [Option.bind_some, if_true, at_get hok h]
  have hw := hu _ (List.getElem_mem h)
  have hg : s.l[n / 64]? = some s.l[n / 64] := List.getElem?_eq_getElem h
  obtain ⟨w, hw2⟩ := Int.eq_ofNat_of_zero_le hw.1
  rw [hw2] at hw hg ⊢
  have hwlt : w < 18446744073709551616 := by have := hw.2; omega
  rw [shr_nat hwlt (Nat.mod_lt _ (by decide))]
  simp only [Option.bind_some]
  have hle : w / 2 ^ (n % 64) ≤ w := Nat.div_le_self _ _
  have hdv : ∀ i, (w / 2 ^ (n % 64)).testBit i = w.testBit (i + n % 64) := fun i => by rw [Nat.testBit_div_two_pow]
  by_cases h0 : w / 2 ^ (n % 64) = 0
  ·rw [if_neg (by omega)]
   have hsame : ∀ p, p / 64 = n / 64 → n ≤ p → hasB s.l p = false := fun p hp hnp => by
    rw [hasB_word hp rfl hg]
    have := hdv (p % 64 - n % 64)
    rw [h0, Nat.zero_testBit, show p % 64 - n % 64 + n % 64 = p % 64 by omega] at this
    simpa using this.symm
   have hcut : cutS 1 s (IntKind.i64.wrap ((n / 64 : Nat) + 1)) ((s.l.length : Nat) : Int) = some ⟨s.nn, s.sz, s.l.drop (n / 64 + 1)⟩ := by
    rw [w_succ h (by omega)]
    unfold cutS
    rw [if_pos ⟨by omega, by omega, by omega, .inl (hok.resolve_left (by intro e; rw [e] at h; simp at h))⟩]
    simp only [Int.toNat_natCast]
    rw [List.take_of_length_le (by simp)]
   rw [hcut]
   simp only [Option.bind_some]
   have hdm : ∀ x ∈ s.l.drop (n / 64 + 1), u64r x := fun x hx => hu x (List.mem_of_mem_drop hx)
   have hdl : (s.l.drop (n / 64 + 1)).length + (n / 64 + 1) = s.l.length := by simp; omega
   have hdg : ∀ i, (s.l.drop (n / 64 + 1))[i]? = s.l[n / 64 + 1 + i]? := fun i => List.getElem?_drop
   generalize s.l.drop (n / 64 + 1) = d at hdm hdl hdg
   have hget : ∀ i (hi : i < d.length) (h2 : n / 64 + 1 + i < s.l.length), d[i] = s.l[n / 64 + 1 + i] := fun i hi h2 => by
    have := hdg i
    rw [List.getElem?_eq_getElem hi, List.getElem?_eq_getElem h2] at this
    exact Option.some.inj this
   obtain ⟨q, q1, q2⟩ := loop_up (b := flags_Next_b1 ((n / 64 : Nat) : Int) ⟨s.nn, s.sz, d⟩) d.length (fun j a => a = (j : Int) ∧ ∀ i (h : i < d.length), i < j → d[i] = 0) (fun q => (∃ z, q = .inl z ∧ 0 ≤ z ∧ ∃ i, ∃ h : i < d.length, d[i] ≠ 0) ∨ (q = .inr (.inl ()) ∧ ∀ i (h : i < d.length), d[i] = 0))
    (by
     rintro j _ hj ⟨rfl, ha⟩
     have hok' : okS 1 (⟨s.nn, s.sz, d⟩ : Sl Int) := .inr (hok.resolve_left (by intro e; rw [e] at h; simp at h))
     have hjl : j < 64 := by omega
     have hv := hdm _ (List.getElem_mem hj)
     simp only [flags_Next_b1, at_get hok' hj, Option.bind_some]
     rw [if_pos (show (j : Int) < ((d.length : Nat) : Int) by omega)]
     obtain ⟨v, hv2⟩ := Int.eq_ofNat_of_zero_le hv.1
     have hvlt : v < 18446744073709551616 := by have := hv.2; omega
     have hin := next_in (n6 := ((n / 64 : Nat) : Int)) (j := (j : Int)) hvlt ⟨by omega, by omega⟩ ⟨by omega, by omega⟩
     rw [hv2]
     by_cases v0 : v = 0
     ·rw [hin.1 v0]
      refine .inl ⟨_, rfl, by rw [w_succ hj (by omega)], fun i hi hij => ?_⟩
      by_cases e : i = j
      ·subst e; omega
      ·exact ha i hi (by omega)
     ·obtain ⟨z, z0, hz⟩ := hin.2 v0
      rw [hz]
      exact .inr ⟨_, rfl, .inl ⟨z, rfl, z0, j, hj, by omega⟩⟩)
    (by
     rintro _ ⟨rfl, ha⟩
     refine ⟨_, if_neg (show ¬ ((d.length : Nat) : Int) < ((d.length : Nat) : Int) by omega), .inr ⟨rfl, fun i hi => ha i hi hi⟩⟩) 0 (Nat.zero_le _) 0 ⟨rfl, fun i hi h0 => absurd h0 (by omega)⟩
   rw [q1]
   rcases q2 with ⟨z, rfl, z0, i, hi, hne⟩ | ⟨rfl, hz⟩
   ·refine ⟨z, rfl, ?_⟩
    constructor
    ·intro hh; omega
    ·intro hh
     exfalso
     have hi' : n / 64 + 1 + i < s.l.length := by omega
     rw [hget i hi hi'] at hne
     have hv := hu _ (List.getElem_mem hi')
     obtain ⟨v, hv2⟩ := Int.eq_ofNat_of_zero_le hv.1
     rw [hv2] at hne hv
     obtain ⟨k, hk⟩ := bit_of_ne (x := v) (by omega)
     have hk2 := bit_lt (by have := hv.2; omega) hk
     have := hh (64 * (n / 64 + 1 + i) + k) (by omega)
     rw [hasB_word (i := n / 64 + 1 + i) (k := k) (w := (v : Int)) (by omega) (by omega) (by rw [List.getElem?_eq_getElem hi', hv2])] at this
     simp only [Int.toNat_natCast] at this
     rw [hk] at this; simp at this
   ·refine ⟨-1, rfl, ?_⟩
    refine ⟨fun _ p hp => ?_, fun _ => by decide⟩
    by_cases e : p / 64 = n / 64
    ·exact hsame p e hp
    ·by_cases hlen : p / 64 < s.l.length
     ·have hd : p / 64 - (n / 64 + 1) < d.length := by omega
      have := hz _ hd
      rw [hget _ hd (by omega)] at this
      rw [hasB_word (w := 0) rfl rfl (by rw [List.getElem?_eq_getElem hlen, ← this]; congr 2; omega)]
      simp
     ·exact hasB_out (by omega)
  ·rw [if_pos (by omega)]
   obtain ⟨k, hk, hk2⟩ := TZ_eq h0 (by omega)
   rw [hk]
   refine ⟨_, rfl, ?_⟩
   rw [wrap64 (by omega) (by omega)]
   constructor
   ·intro hh; omega
   ·intro hh
    exfalso
    obtain ⟨i, hi⟩ := bit_of_ne h0
    rw [hdv] at hi
    have := bit_lt hwlt hi
    have h2 := hh (64 * (n / 64) + (i + n % 64)) (by omega)
    rw [hasB_word (i := n / 64) (k := i + n % 64) (by omega) (by omega) hg] at h2
    simp only [Int.toNat_natCast] at h2
    rw [hi] at h2; simp at h2
 ·rw [if_neg (by omega)]
  simp only [Option.bind_some, Bool.false_eq_true, if_false]
  refine ⟨-1, rfl, ?_⟩
  exact ⟨fun _ p hp => hasB_out (by omega), fun _ => by decide⟩
theorem flags_words_eq {n : Int} (h : 0 ≤ n ∧ n ≤ 4096) : flags_words n = some ((n + 63) / 64) := by
 unfold flags_words
 have e1 : maxI n 0 = n := by unfold maxI; rw [if_neg (by omega)]
 have e2 : minI n 4096 = n := by unfold minI; rw [if_neg (by omega)]
 rw [e1, e2, wrap64 (by omega) (by omega)]
 unfold divO
 rw [if_pos (by decide), Int.tdiv_eq_ediv_of_nonneg (by omega), wrap64 (by omega) (by omega)]; rfl
def placesL (ws : List Int) : List Int := ((List.range (64 * ws.length)).filter (hasB ws)).map fun p : Nat => (p : Int)
def sizeF (n : Int) : Bool := decide (0 ≤ n) && decide (n ≤ 4096)
def rightF (ws : List Int) (n : Int) : Bool := sizeF n && (decide ((ws.length : Int) = (n + 63) / 64) && (placesL ws).all fun p => decide (p < n))
theorem places_mem {ws : List Int} {p : Int} : p ∈ placesL ws ↔ 0 ≤ p ∧ hasB ws p.toNat = true := by
 unfold placesL
 simp only [List.mem_map, List.mem_filter, List.mem_range]
 constructor
 ·rintro ⟨q, ⟨h1, h2⟩, rfl⟩; exact ⟨by omega, by simpa using h2⟩
 ·rintro ⟨h1, h2⟩
  refine ⟨p.toNat, ⟨?_, h2⟩, by omega⟩
  by_cases hh : p.toNat < 64 * ws.length
  ·exact hh
  ·rw [hasB_out (by omega)] at h2; simp at h2
theorem flags_Right_eq (s : Sl Int) (n : Int) (hok : okS 1 s) (hu : u64s s.l) (hl : s.l.length ≤ 9223372036854775807) : flags_Right s n = some (rightF s.l n) := by
 unfold flags_Right rightF sizeF
 by_cases h1 : 0 ≤ n
 ·rw [if_pos (show n ≥ 0 from h1), decide_eq_true h1]
  by_cases h2 : n ≤ 4096
  ·rw [if_pos h2, decide_eq_true h2, flags_words_eq ⟨h1, h2⟩]
   simp only [Option.bind_some, Bool.and_self, Bool.true_and]
   by_cases h3 : ((s.l.length : Nat) : Int) = (n + 63) / 64
   ·rw [if_pos h3, decide_eq_true h3]
    obtain ⟨k, rfl⟩ := Int.eq_ofNat_of_zero_le h1
    obtain ⟨z, z1, z2⟩ := flags_Next_neg s k hok hu (by omega) (by omega)
    rw [z1]
    simp only [Option.bind_some, Bool.true_and]
    have key : (placesL s.l).all (fun p => decide (p < (k : Int))) = true ↔ z < 0 := by
     rw [z2, List.all_eq_true]
     constructor
     ·intro h p hp
      cases hb : hasB s.l p with
      | false => rfl
      | true => have := h (p : Int) (places_mem.2 ⟨by omega, by simpa using hb⟩); simp at this; omega
     ·intro h p hp
      obtain ⟨p0, p1⟩ := places_mem.1 hp
      rw [decide_eq_true_eq]
      by_cases hh : p < (k : Int)
      ·exact hh
      ·rw [h p.toNat (by omega)] at p1; simp at p1
    by_cases hz : z < 0
    ·rw [if_pos hz, key.2 hz]
    ·rw [if_neg hz, Bool.eq_false_iff.2 fun e => hz (key.1 e)]
   ·rw [if_neg h3, decide_eq_false h3]; simp
  ·rw [if_neg h2, decide_eq_false h2]; simp
 ·rw [if_neg (show ¬ n ≥ 0 from h1), decide_eq_false h1]; simp
theorem range_filter_succ (f : Nat → Bool) (j : Nat) : (List.range (j + 1)).filter f = (List.range j).filter f ++ (if f j = true then [j] else []) := by
 rw [List.range_succ, List.filter_append]
 congr 1
 cases hf : f j <;> simp [hf]
theorem ref03_List_eq (s : Sl Int) (hok : okS 1 s) (hu : u64s s.l) (hl : s.l.length ≤ 1000) : ref03_List s = some (placesL s.l) := by
 unfold ref03_List
 obtain ⟨q, q1, q2⟩ := loop_up (b := ref03_List_b1 s) (64 * s.l.length) (fun j a => a = (((List.range j).filter (hasB s.l)).map (fun p : Nat => (p : Int)), (j : Int))) (fun q => q = .inl (placesL s.l))
  (by
   rintro j _ hj rfl
   have hh := ref03_Has_eq s j hok hu (by omega)
   have hlen : (((List.range j).filter (hasB s.l)).map (fun p : Nat => (p : Int))).length ≤ 100000 := by
    have h1 := List.length_filter_le (hasB s.l) (List.range j)
    simp only [List.length_map, List.length_range] at h1 ⊢; omega
   have hap : app (((List.range j).filter (hasB s.l)).map (fun p : Nat => (p : Int))) [(j : Int)] = some (((List.range j).filter (hasB s.l)).map (fun p : Nat => (p : Int)) ++ [(j : Int)]) := app_ok (by simp at hlen ⊢; unfold bound; omega)
   simp only [ref03_List_b1, hh, Option.bind_some, w_succ hj (by omega)]
   rw [wrap64 (n := 64 * ((s.l.length : Nat) : Int)) (by omega) (by omega), if_pos (by omega)]
   refine .inl ?_
   rw [range_filter_succ]
   cases hb : hasB s.l j with
   | true =>
    rw [if_pos rfl, hap]
    exact ⟨_, rfl, by simp⟩
   | false => exact ⟨_, rfl, by simp⟩)
  (by
   rintro _ rfl
   refine ⟨.inl (placesL s.l), ?_, rfl⟩
   simp only [ref03_List_b1]
   rw [wrap64 (n := 64 * ((s.l.length : Nat) : Int)) (by omega) (by omega), if_neg (by omega)]
   rfl) 0 (Nat.zero_le _) ([], 0) rfl
 rw [q1, q2]; rfl
theorem places_sorted (ws : List Int) : (placesL ws).Pairwise (· < ·) := by
 unfold placesL
 rw [List.pairwise_map]
 refine List.Pairwise.imp (R := (· < ·)) (fun h => by omega) ?_
 exact List.Pairwise.sublist (List.filter_sublist) List.pairwise_lt_range
theorem places_len (ws : List Int) : (placesL ws).length ≤ 64 * ws.length := by
 unfold placesL
 have h1 := List.length_filter_le (hasB ws) (List.range (64 * ws.length))
 simp only [List.length_map, List.length_range] at h1 ⊢; omega
theorem ref03_Right_eq (s : Sl Int) (n : Int) (hok : okS 1 s) (hu : u64s s.l) (hl : s.l.length ≤ 9223372036854775807) : ref03_Right s n = some (rightF s.l n) := by
 unfold ref03_Right rightF sizeF
 by_cases h1 : n < 0
 ·rw [if_pos h1, decide_eq_false (show ¬ 0 ≤ n by omega)]; simp
 by_cases h2 : n > 4096
 ·rw [if_neg h1, if_pos h2, decide_eq_false (show ¬ n ≤ 4096 by omega)]; simp
 rw [if_neg h1, if_neg h2, decide_eq_true (show 0 ≤ n by omega), decide_eq_true (show n ≤ 4096 by omega), ref03_words_eq ⟨by omega, by omega⟩]
 simp only [Option.bind_some, Bool.and_self, Bool.true_and]
 by_cases h3 : ((s.l.length : Nat) : Int) = (n + 63) / 64
 ·rw [if_neg (fun h => h h3), decide_eq_true h3, ref03_List_eq s hok hu (by omega)]
  simp only [Option.bind_some, Bool.true_and]
  have hsort := places_sorted s.l
  have hlen := places_len s.l
  generalize placesL s.l = l at hsort hlen
  by_cases h4 : l = []
  ·subst h4; rw [if_pos (by simp)]; rfl
  ·have h5 : 0 < l.length := List.length_pos_iff.2 h4
   rw [if_neg (by omega), wrap64 (by omega) (by omega), show ((l.length : Nat) : Int) - 1 = ((l.length - 1 : Nat) : Int) by omega]
   have hml : (mo 1 l).l = l := mo_l _ _
   have ha := at_get (w := 1) (s := mo 1 l) (ok_mo l) (j := l.length - 1) (by rw [hml]; omega)
   rw [ha]
   simp only [Option.bind_some, hml]
   have key : l.all (fun p => decide (p < n)) = true ↔ l[l.length - 1] < n := by
    rw [List.all_eq_true]
    constructor
    ·intro h; simpa using h _ (List.getElem_mem (by omega : l.length - 1 < l.length))
    ·intro h p hp
     obtain ⟨i, hi, rfl⟩ := List.mem_iff_getElem.1 hp
     rw [decide_eq_true_eq]
     by_cases e : i = l.length - 1
     ·subst e; exact h
     ·have := List.pairwise_iff_getElem.1 hsort i (l.length - 1) hi (by omega) (by omega)
      omega
   by_cases hz : l[l.length - 1] < n
   ·rw [if_pos hz, key.2 hz]
   ·rw [if_neg hz, Bool.eq_false_iff.2 fun e => hz (key.1 e)]
 ·rw [if_pos h3, decide_eq_false h3]; simp
def rightD (d : Int × Sl Int × Sl Int) : Bool := rightF d.2.1.l d.1 && (decide ((d.2.2.l.length : Int) = d.1) && (List.range d.2.2.l.length).all fun i => decide (d.2.2.l.getD i 0 = 0) || hasB d.2.1.l i)
theorem getD_lt {l : List Int} {i : Nat} (h : i < l.length) : l.getD i 0 = l[i] := by rw [List.getD_eq_getElem?_getD, List.getElem?_eq_getElem h]; rfl
theorem all_range {n : Nat} {f : Nat → Bool} : (List.range n).all f = true ↔ ∀ i, i < n → f i = true := by
 rw [List.all_eq_true]
 exact ⟨fun h i hi => h i (by simpa using hi), fun h i hi => h i (by simpa using hi)⟩
theorem all_false {n : Nat} {f : Nat → Bool} {i : Nat} (hi : i < n) (h : f i = false) : (List.range n).all f = false := by
 rw [Bool.eq_false_iff]; intro e; have := all_range.1 e i hi; rw [h] at this; simp at this
structure OkD (d : Int × Sl Int × Sl Int) : Prop where
 has : okS 1 d.2.1
 bits : u64s d.2.1.l
 vals : okS 1 d.2.2
 v64 : ∀ x ∈ d.2.2.l, i64r x
 hl : d.2.1.l.length ≤ 9223372036854775807
 vl : d.2.2.l.length ≤ 9223372036854775807
theorem devec_Right_eq {d : Int × Sl Int × Sl Int} (h : OkD d) : devec_Right d = some (rightD d) := by
 obtain ⟨n, s, t⟩ := d
 obtain ⟨h1, h2, h3, h4, h5, h6⟩ := h
 simp only at h1 h2 h3 h4 h5 h6
 unfold devec_Right rightD
 simp only [flags_Right_eq s n h1 h2 h5, Option.bind_some]
 cases hr : rightF s.l n with
 | false => simp
 | true =>
  simp only [if_true, Bool.true_and]
  by_cases hn : ((t.l.length : Nat) : Int) = n
  ·rw [if_neg (fun h => h hn), decide_eq_true hn]
   simp only [Bool.true_and]
   have hb : n ≤ 4096 := by unfold rightF sizeF at hr; simp only [Bool.and_eq_true, decide_eq_true_eq] at hr; exact hr.1.2
   obtain ⟨q, q1, q2⟩ := loop_up (b := devec_Right_b1 s t) t.l.length (fun j a => a = (j : Int) ∧ ∀ i, i < j → (decide (t.l.getD i 0 = 0) || hasB s.l i) = true) (fun q => ((List.range t.l.length).all (fun i => decide (t.l.getD i 0 = 0) || hasB s.l i) = true ∧ q = .inl ()) ∨ ((List.range t.l.length).all (fun i => decide (t.l.getD i 0 = 0) || hasB s.l i) = false ∧ q = .inr false))
    (by
     rintro j _ hj ⟨rfl, ha⟩
     have hh := flags_Has_eq s j h1 h2 (by omega)
     have hd := getD_lt hj
     simp only [devec_Right_b1, at_get h3 hj, Option.bind_some, hh, w_succ hj (by omega)]
     rw [if_pos (by omega)]
     have next : (decide (t.l.getD j 0 = 0) || hasB s.l j) = true → ∀ i, i < j + 1 → (decide (t.l.getD i 0 = 0) || hasB s.l i) = true := fun h i hi => by
      by_cases e : i = j
      ·rw [e]; exact h
      ·exact ha i (by omega)
     by_cases h0 : t.l[j] = 0
     ·rw [if_neg (fun h => h h0)]
      exact .inl ⟨_, rfl, rfl, next (by rw [hd, decide_eq_true h0]; rfl)⟩
     ·rw [if_pos h0]
      cases hb : hasB s.l j with
      | true => exact .inl ⟨_, rfl, rfl, next (by rw [hb]; simp)⟩
      | false => exact .inr ⟨_, rfl, .inr ⟨all_false hj (by rw [hd, hb, decide_eq_false h0]; rfl), rfl⟩⟩)
    (by
     rintro _ ⟨rfl, ha⟩
     exact ⟨_, if_neg (by omega), .inl ⟨all_range.2 ha, rfl⟩⟩) 0 (Nat.zero_le _) 0 ⟨rfl, fun i hi => absurd hi (by omega)⟩
   rw [q1]
   rcases q2 with ⟨e, rfl⟩ | ⟨e, rfl⟩ <;> rw [e] <;> rfl
  ·rw [if_pos hn, decide_eq_false hn]; simp
theorem ref10_Right_eq {d : Int × Sl Int × Sl Int} (h : OkD d) : ref10_Right d = some (rightD d) := by
 obtain ⟨n, s, t⟩ := d
 obtain ⟨h1, h2, h3, h4, h5, h6⟩ := h
 simp only at h1 h2 h3 h4 h5 h6
 unfold ref10_Right rightD
 simp only
 have hsz : rightF s.l n = true → 0 ≤ n ∧ n ≤ 4096 := fun hr => by unfold rightF sizeF at hr; simp only [Bool.and_eq_true, decide_eq_true_eq] at hr; exact hr.1
 by_cases z1 : n < 0
 ·rw [if_pos z1]
  cases hr : rightF s.l n with
  | false => rfl
  | true => have := hsz hr; omega
 by_cases z2 : n > 4096
 ·rw [if_neg z1, if_pos z2]
  cases hr : rightF s.l n with
  | false => rfl
  | true => have := hsz hr; omega
 rw [if_neg z1, if_neg z2, ref03_Right_eq s n h1 h2 h5]
 simp only [Option.bind_some]
 cases hr : rightF s.l n with
 | false => simp
 | true =>
  simp only [if_true, Bool.true_and]
  by_cases hn : ((t.l.length : Nat) : Int) = n
  ·rw [if_neg (fun h => h hn), decide_eq_true hn]
   simp only [Bool.true_and]
   obtain ⟨q, q1, q2⟩ := loop_up (b := ref10_Right_b1 n s t) t.l.length (fun j a => a = (j : Int) ∧ ∀ i, i < j → (decide (t.l.getD i 0 = 0) || hasB s.l i) = true) (fun q => ((List.range t.l.length).all (fun i => decide (t.l.getD i 0 = 0) || hasB s.l i) = true ∧ q = .inl ()) ∨ ((List.range t.l.length).all (fun i => decide (t.l.getD i 0 = 0) || hasB s.l i) = false ∧ q = .inr false))
    (by
     rintro j _ hj ⟨rfl, ha⟩
     have hh := ref03_Has_eq s j h1 h2 (by omega)
     have hd := getD_lt hj
     simp only [ref10_Right_b1, at_get h3 hj, Option.bind_some, hh, w_succ hj (by omega)]
     rw [if_pos (by omega)]
     have next : (decide (t.l.getD j 0 = 0) || hasB s.l j) = true → ∀ i, i < j + 1 → (decide (t.l.getD i 0 = 0) || hasB s.l i) = true := fun h i hi => by
      by_cases e : i = j
      ·rw [e]; exact h
      ·exact ha i (by omega)
     cases hb : hasB s.l j with
     | true => exact .inl ⟨_, rfl, rfl, next (by rw [hb]; simp)⟩
     | false =>
      simp only [Bool.false_eq_true, if_false]
      by_cases h0 : t.l[j] = 0
      ·rw [if_neg (fun h => h h0)]
       exact .inl ⟨_, rfl, rfl, next (by rw [hd, decide_eq_true h0]; rfl)⟩
      ·rw [if_pos h0]
       exact .inr ⟨_, rfl, .inr ⟨all_false hj (by rw [hd, hb, decide_eq_false h0]; rfl), rfl⟩⟩)
    (by
     rintro _ ⟨rfl, ha⟩
     exact ⟨_, if_neg (by omega), .inl ⟨all_range.2 ha, rfl⟩⟩) 0 (Nat.zero_le _) 0 ⟨rfl, fun i hi => absurd hi (by omega)⟩
   rw [q1]
   rcases q2 with ⟨e, rfl⟩ | ⟨e, rfl⟩ <;> rw [e] <;> rfl
  ·rw [if_pos hn, decide_eq_false hn]; simp
def backL (ws vs : List Int) : List It := (placesL ws).map fun p => (p, vs.getD p.toNat 0)
def backV (d : Int × Sl Int × Sl Int) : Int × Sl It := if rightD d = true then (d.1, mo 2 (backL d.2.1.l d.2.2.l)) else (0, nilS)
theorem rightD_spec {d : Int × Sl Int × Sl Int} (h : rightD d = true) : 0 ≤ d.1 ∧ d.1 ≤ 4096 ∧ (d.2.1.l.length : Int) = (d.1 + 63) / 64 ∧ (∀ p ∈ placesL d.2.1.l, 0 ≤ p ∧ p < d.1) ∧ (d.2.2.l.length : Int) = d.1 := by
 unfold rightD rightF sizeF at h
 simp only [Bool.and_eq_true, decide_eq_true_eq, List.all_eq_true] at h
 obtain ⟨⟨⟨a, b⟩, c, e⟩, f, g⟩ := h
 exact ⟨a, b, c, fun p hp => ⟨(places_mem.1 hp).1, e p hp⟩, f⟩
theorem asc_map {n : Int} (f : Int → Int) : ∀ {l : List Int} {a : Int}, l.Pairwise (· < ·) → (∀ p ∈ l, a < p ∧ p < n) → asc a n (l.map fun p => (p, f p)) = true
 | [], a, _, _ => rfl
 | x :: l, a, h1, h2 => by
  rw [List.pairwise_cons] at h1
  have hx := h2 x List.mem_cons_self
  simp only [List.map_cons, asc, Bool.and_eq_true, decide_eq_true_eq]
  exact ⟨hx, asc_map f h1.2 fun p hp => ⟨h1.1 p hp, (h2 p (List.mem_cons_of_mem _ hp)).2⟩⟩
theorem back_right {d : Int × Sl Int × Sl Int} (h : rightD d = true) : rightB (d.1, mo 2 (backL d.2.1.l d.2.2.l)) = true := by
 obtain ⟨h1, h2, h3, h4, h5⟩ := rightD_spec h
 simp only [rightB, sizeB, mo_l, Bool.and_eq_true, decide_eq_true_eq]
 exact ⟨⟨h1, h2⟩, asc_map _ (places_sorted _) fun p hp => ⟨by have := (h4 p hp).1; omega, (h4 p hp).2⟩⟩
theorem getI_map {f : Int → Int} {p : Int} : ∀ {l : List Int}, getI p (l.map fun q => (q, f q)) = if p ∈ l then some (f p) else none
 | [] => by simp [getI]
 | x :: l => by
  simp only [List.map_cons, getI]
  by_cases e : x = p
  ·subst e; simp
  ·rw [if_neg e, getI_map]
   simp [Ne.symm e]
def denB (d : Int × Sl Int × Sl Int) (k : Int) : Option Int := if 0 ≤ k ∧ hasB d.2.1.l k.toNat = true then some (d.2.2.l.getD k.toNat 0) else none
theorem back_get (d : Int × Sl Int × Sl Int) (k : Int) : getI k (backL d.2.1.l d.2.2.l) = denB d k := by
 unfold backL denB
 rw [getI_map (f := fun p => d.2.2.l.getD p.toNat 0)]
 by_cases h : 0 ≤ k ∧ hasB d.2.1.l k.toNat = true
 ·rw [if_pos (places_mem.2 h), if_pos h]
 ·rw [if_neg (fun e => h (places_mem.1 e)), if_neg h]
theorem ref10_Back_eq {d : Int × Sl Int × Sl Int} (h : OkD d) : ref10_Back d = some (backV d) := by
 have hR := ref10_Right_eq h
 obtain ⟨n, s, t⟩ := d
 obtain ⟨h1, h2, h3, h4, h5, h6⟩ := h
 simp only at h1 h2 h3 h4 h5 h6
 unfold ref10_Back backV
 simp only [hR, Option.bind_some]
 cases hr : rightD (n, s, t) with
 | false => rfl
 | true =>
  obtain ⟨r1, r2, r3, r4, r5⟩ := rightD_spec hr
  simp only at r1 r2 r3 r4 r5
  simp only [if_true]
  rw [ref03_List_eq s h1 h2 (by omega)]
  simp only [Option.bind_some]
  have hlen := places_len s.l
  unfold backL
  generalize placesL s.l = l at r4 hlen
  obtain ⟨q, q1, q2⟩ := loop_up (b := ref10_Back_b1 t l) l.length (fun j a => a = ((j : Int), (l.take j).map fun p => (p, t.l.getD p.toNat 0))) (fun q => q = .inl (l.map fun p => (p, t.l.getD p.toNat 0)))
   (by
    rintro j _ hj rfl
    have hml : (mo 1 l).l = l := mo_l _ _
    have ha := at_get (w := 1) (s := mo 1 l) (ok_mo l) (j := j) (by rw [hml]; exact hj)
    have hp := r4 _ (List.getElem_mem hj)
    have hk : l[j].toNat < t.l.length := by omega
    have hb := at_get (w := 1) (s := t) h3 hk
    rw [show ((l[j].toNat : Nat) : Int) = l[j] by omega] at hb
    have hlen2 : ((l.take j).map fun p => (p, t.l.getD p.toNat 0)).length ≤ 100000 := by simp; omega
    have hap : app ((l.take j).map fun p => (p, t.l.getD p.toNat 0)) [(l[j], t.l[l[j].toNat])] = some ((l.take j).map (fun p => (p, t.l.getD p.toNat 0)) ++ [(l[j], t.l[l[j].toNat])]) := app_ok (by simp at hlen2 ⊢; unfold bound; omega)
    simp only [ref10_Back_b1, ha, hml, hb, Option.bind_some, hap, w_succ hj (by omega)]
    rw [if_pos (by omega)]
    refine .inl ⟨_, rfl, ?_⟩
    rw [List.take_succ_eq_append_getElem hj, List.map_append, List.map_cons, List.map_nil, getD_lt hk])
   (by
    rintro _ rfl
    refine ⟨_, if_neg (by omega), ?_⟩
    rw [List.take_length]) 0 (Nat.zero_le _) (0, []) rfl
  rw [q1, q2]; rfl
abbrev Dn := Int × Sl Int × Sl Int
def sureD (d : Dn) : Dn := if rightD d = true then d else (0, nilS, nilS)
theorem sureD_right (d : Dn) : rightD (sureD d) = true := by unfold sureD; split; assumption; rfl
theorem sureD_ok {d : Dn} (h : OkD d) : OkD (sureD d) := by
 unfold sureD
 split
 ·exact h
 ·exact ⟨ok_nil, fun x hx => by simp [nilS] at hx, ok_nil, fun x hx => by simp [nilS] at hx, by simp [nilS], by simp [nilS]⟩
theorem getI_in {p y : Int} : ∀ {l : List It}, getI p l = some y → (p, y) ∈ l
 | x :: l, h => by
  unfold getI at h
  split at h
  ·rename_i e
   simp only [Option.some.injEq] at h
   rw [← e, ← h]; exact List.mem_cons_self
  ·exact List.mem_cons_of_mem _ (getI_in h)
theorem sizeF_iff2 {n : Int} : sizeF n = true ↔ 0 ≤ n ∧ n ≤ 4096 := by unfold sizeF; simp
def tabM (n : Nat) (f : Nat → Int) : List Int := (List.range n).map f
theorem tabM_len (n : Nat) (f : Nat → Int) : (tabM n f).length = n := by unfold tabM; simp
theorem tabM_get {n k : Nat} (f : Nat → Int) (h : k < n) : (tabM n f)[k]? = some (f k) := by
 unfold tabM
 rw [List.getElem?_map, List.getElem?_range h]; rfl
theorem tabM_getD {n k : Nat} (f : Nat → Int) (h : k < n) : (tabM n f).getD k 0 = f k := by rw [List.getD_eq_getElem?_getD, tabM_get f h]; rfl
theorem tabM_set {n k : Nat} (f : Nat → Int) (v : Int) (h : k < n) : (tabM n f).set k v = tabM n fun i => if i = k then v else f i := by
 refine List.ext_getElem? fun i => ?_
 rw [List.getElem?_set]
 by_cases hi : i < n
 ·by_cases e : k = i
  ·subst e; rw [if_pos rfl, if_pos (by rw [tabM_len]; omega), tabM_get _ hi, if_pos rfl]
  ·rw [if_neg e, tabM_get _ hi, tabM_get _ hi, if_neg (Ne.symm e)]
 ·rw [if_neg (by omega)]
  rw [List.getElem?_eq_none (by rw [tabM_len]; omega), List.getElem?_eq_none (by rw [tabM_len]; omega)]
theorem tabM_congr {n : Nat} {f g : Nat → Int} (h : ∀ k, k < n → f k = g k) : tabM n f = tabM n g := by
 unfold tabM
 refine List.map_congr_left fun k hk => h k ?_
 simpa using hk
theorem tabM_zero (n : Nat) : List.replicate n (0 : Int) = tabM n fun _ => 0 := by
 refine List.ext_getElem? fun i => ?_
 by_cases hi : i < n
 ·rw [tabM_get _ hi, List.getElem?_replicate, if_pos hi]
 ·rw [List.getElem?_eq_none (by simp; omega), List.getElem?_eq_none (by rw [tabM_len]; omega)]
theorem tabM_mem {n : Nat} {f : Nat → Int} {x : Int} (h : x ∈ tabM n f) : ∃ k, k < n ∧ f k = x := by
 unfold tabM at h
 obtain ⟨k, hk, rfl⟩ := List.mem_map.1 h
 exact ⟨k, by simpa using hk, rfl⟩
theorem mem_places {p : Int} {l : List It} : p ∈ l.map (·.1) ↔ ∃ y, getI p l = some y := by
 induction l with
 | nil => simp [getI]
 | cons x l ih =>
  simp only [List.map_cons, List.mem_cons, getI]
  by_cases h : x.1 = p
  ·rw [if_pos h]; exact ⟨fun _ => ⟨_, rfl⟩, fun _ => .inl h.symm⟩
  ·rw [if_neg h, ← ih]; exact ⟨fun h1 => h1.resolve_left (Ne.symm h), .inr⟩
theorem ref10_Of_eq {k : Int} {t : Sl It} (h : GoodV (k, t)) : ∃ d : Dn, ref10_Of (k, t) = some d ∧ OkD d ∧ rightD d = true ∧ d.1 = k ∧ ∀ p, denB d p = getI p t.l := by
 have hz := right_size h.1
 have hlen := right_len h.1
 simp only at hlen
 obtain ⟨n, rfl⟩ := Int.eq_ofNat_of_zero_le hz.1
 have hnew : ref03_New (n : Int) = some (List.replicate (((n : Int) + 63) / 64).toNat 0) := by
  unfold ref03_New
  have hlo : lenOk (((n : Int) + 63) / 64) = some () := by unfold lenOk bound; rw [if_pos ⟨by omega, by omega⟩]
  simp only [ref03_words_eq (n := (n : Int)) ⟨by omega, by omega⟩, hlo, Option.bind_some]
 have hlo : lenOk (n : Int) = some () := by unfold lenOk bound; rw [if_pos ⟨by omega, by omega⟩]
 have hok : okS 2 t := h.2.1
 unfold ref10_Of
 simp only [ref09_Sure_eq ((n : Int), t) hok (show t.l.length ≤ _ by omega), sure_id h.1, Option.bind_some, hnew, hlo, Int.toNat_natCast]
 rw [if_neg (by omega), if_neg (by omega), tabM_zero]
 obtain ⟨q, q1, q2⟩ := loop_up (b := ref10_Of_b3 t) t.l.length (fun j st => st = ((t.l.take j).map (·.1), (j : Int), tabM n fun p => (getI (p : Int) (t.l.take j)).getD 0)) (fun q => q = .inl (t.l.map (·.1), tabM n fun p => (getI (p : Int) t.l).getD 0))
  (by
   rintro j _ hj rfl
   have ej := at_get hok hj
   have hx := right_at h.1 hj
   have htk := getI_take h.1 hj
   rw [List.take_succ_eq_append_getElem hj]
   generalize t.l[j] = x at ej hx htk
   obtain ⟨x1, x2⟩ := x
   simp only at hx htk
   obtain ⟨p, rfl⟩ := Int.eq_ofNat_of_zero_le hx.1
   have ap : app ((t.l.take j).map (·.1)) [(p : Int)] = some ((t.l.take j).map (·.1) ++ [(p : Int)]) := app_ok (by simp; unfold bound; omega)
   have hat : atL (tabM n fun p => (getI (p : Int) (t.l.take j)).getD 0) (p : Int) = some ((getI (p : Int) (t.l.take j)).getD 0) := by
    unfold atL; rw [if_pos (by omega), Int.toNat_natCast, tabM_get _ (by omega)]
   simp only [ref10_Of_b3, ej, Option.bind_some, ap, hat, Int.toNat_natCast, w_succ hj (by omega)]
   rw [if_pos (by omega), tabM_set _ _ (by omega)]
   refine .inl ⟨_, rfl, ?_⟩
   rw [List.map_append]
   simp only [List.map_cons, List.map_nil, Prod.mk.injEq, true_and]
   refine tabM_congr fun i hi => ?_
   rw [getI_append]
   by_cases e : i = p
   ·subst e; rw [if_pos rfl, htk]; simp [getI]
   ·rw [if_neg e]
    have : getI (i : Int) [((p : Int), x2)] = none := by unfold getI; rw [if_neg (by omega)]; rfl
    rw [this]
    cases getI (i : Int) (t.l.take j) <;> rfl)
  (by
   rintro _ rfl
   refine ⟨.inl (t.l.map (·.1), tabM n fun p => (getI (p : Int) t.l).getD 0), ?_, rfl⟩
   simp only [ref10_Of_b3]
   rw [if_neg (by omega), List.take_length]) 0 (Nat.zero_le _) ([], 0, tabM n fun _ => 0) rfl
 rw [q1, q2]
 obtain ⟨w, w1, w2, w3, w4⟩ := ref03_Of_eq (n := n) (by omega) (mo 1 (t.l.map (·.1))) (ok_mo _) (by rw [mo_l]; simp; omega)
 simp only [Option.bind_some, Sum.elim_inl, w1]
 rw [mo_l] at w4
 have hbit : ∀ p : Nat, hasB w p = (getI (p : Int) t.l).isSome := fun p => by
  rw [w4 p]
  cases hg : getI (p : Int) t.l with
  | none =>
   rw [decide_eq_false (p := (p : Int) ∈ t.l.map (·.1)) (fun hm => by obtain ⟨y, hy⟩ := mem_places.1 hm; rw [hg] at hy; simp at hy)]; simp
  | some y =>
   have hm := mem_places.2 ⟨y, hg⟩
   rw [decide_eq_true hm]
   have : p < n := by
    obtain ⟨x, hx, hxp⟩ := List.mem_map.1 hm
    obtain ⟨j, hj, rfl⟩ := List.mem_iff_getElem.1 hx
    have := right_at h.1 hj
    omega
   rw [decide_eq_true this]; rfl
 refine ⟨_, rfl, ⟨.inr rfl, w3, .inr rfl, fun x hx => ?_, show w.length ≤ _ by omega, by simp only [tabM_len]; omega⟩, ?_, rfl, fun p => ?_⟩
 ·obtain ⟨k, hk, rfl⟩ := tabM_mem hx
  cases hg : getI (k : Int) t.l with
  | none => simp [i64r]
  | some y => exact h.2.2 _ (getI_in hg)
 ·unfold rightD rightF
  simp only [mo_l, tabM_len, Bool.and_eq_true, decide_eq_true_eq, List.all_eq_true]
  refine ⟨⟨sizeF_iff2.2 ⟨by omega, by omega⟩, w2, fun p hp => ?_⟩, trivial, fun i hi => ?_⟩
  ·obtain ⟨p0, p1⟩ := places_mem.1 hp
   rw [w4] at p1
   simp only [Bool.and_eq_true, decide_eq_true_eq] at p1
   omega
  ·have hi' : i < n := by simpa using hi
   rw [tabM_getD _ hi', hbit]
   cases getI (i : Int) t.l <;> simp
 ·unfold denB
  simp only [mo_l]
  by_cases hp : 0 ≤ p
  ·obtain ⟨p, rfl⟩ := Int.eq_ofNat_of_zero_le hp
   simp only [Int.toNat_natCast]
   rw [hbit]
   cases hg : getI (p : Int) t.l with
   | none => simp
   | some y =>
    have : p < n := by
     obtain ⟨x, hx, hxp⟩ := List.mem_map.1 (mem_places.2 ⟨y, hg⟩)
     obtain ⟨j, hj, rfl⟩ := List.mem_iff_getElem.1 hx
     have := right_at h.1 hj
     omega
    rw [if_pos ⟨hp, rfl⟩, tabM_getD _ this, hg]; rfl
  ·rw [if_neg (fun hh => hp hh.1)]
   refine (getI_none fun x hx e => ?_).symm
   obtain ⟨j, hj, rfl⟩ := List.mem_iff_getElem.1 hx
   have := right_at h.1 hj
   omega
theorem GoodV.len {v : Int × Sl It} (h : GoodV v) : v.2.l.length ≤ 4096 := right_len h.1
theorem FL_eq : FL = some true := rfl
structure DV (d : Dn) (n : Nat) (f : Nat → Option Int) : Prop where
 num : d.1 = (n : Int)
 le : n ≤ 4096
 has : okS 1 d.2.1
 bits : u64s d.2.1.l
 len : d.2.1.l.length = (n + 63) / 64
 vals : okS 1 d.2.2
 vl : d.2.2.l = tabM n fun p => (f p).getD 0
 at_ : ∀ p, hasB d.2.1.l p = (f p).isSome
 none_ : ∀ p, n ≤ p → f p = none
 v64 : ∀ p x, f p = some x → i64r x
theorem DV.ok {d : Dn} {n : Nat} {f : Nat → Option Int} (h : DV d n f) : OkD d := by
 refine ⟨h.has, h.bits, h.vals, fun x hx => ?_, ?_, ?_⟩
 ·rw [h.vl] at hx
  obtain ⟨k, hk, rfl⟩ := tabM_mem hx
  cases e : f k with
  | none => simp [i64r]
  | some y => exact h.v64 k y e
 ·have := h.len; have := h.le; omega
 ·have := h.le; rw [h.vl, tabM_len]; omega
theorem DV.right {d : Dn} {n : Nat} {f : Nat → Option Int} (h : DV d n f) : rightD d = true := by
 unfold rightD rightF
 rw [h.num, h.vl, tabM_len]
 have hl := h.le
 have hw := h.len
 simp only [Bool.and_eq_true, decide_eq_true_eq, List.all_eq_true]
 refine ⟨⟨sizeF_iff2.2 ⟨by omega, by omega⟩, by omega, fun p hp => ?_⟩, trivial, fun i hi => ?_⟩
 ·obtain ⟨p0, p1⟩ := places_mem.1 hp
  rw [h.at_] at p1
  by_cases hlt : p.toNat < n
  ·omega
  ·rw [h.none_ _ (by omega)] at p1; simp at p1
 ·have hi' : i < n := by simpa using hi
  rw [tabM_getD _ hi', h.at_]
  cases f i <;> simp
theorem DV.den {d : Dn} {n : Nat} {f : Nat → Option Int} (h : DV d n f) (p : Int) : denB d p = if 0 ≤ p then f p.toNat else none := by
 unfold denB
 by_cases hp : 0 ≤ p
 ·rw [if_pos hp, h.at_]
  cases e : f p.toNat with
  | none => simp
  | some y =>
   have hlt : p.toNat < n := by
    by_cases hlt : p.toNat < n
    ·exact hlt
    ·rw [h.none_ _ (by omega)] at e; simp at e
   rw [if_pos ⟨hp, rfl⟩, h.vl, tabM_getD _ hlt, e]; rfl
 ·rw [if_neg (fun e => hp e.1), if_neg hp]
theorem DV.of {d : Dn} (h : OkD d) (hr : rightD d = true) : DV d d.1.toNat fun p => denB d (p : Int) := by
 obtain ⟨h1, h2, h3, h4, h5⟩ := rightD_spec hr
 have hall : ∀ i, i < d.2.2.l.length → d.2.2.l.getD i 0 = 0 ∨ hasB d.2.1.l i = true := fun i hi => by
  unfold rightD at hr
  simp only [Bool.and_eq_true, decide_eq_true_eq] at hr
  have := all_range.1 hr.2.2 i hi
  simpa using this
 have hin : ∀ p, hasB d.2.1.l p = true → (p : Int) < d.1 := fun p hp => (h4 (p : Int) (places_mem.2 ⟨by omega, by simpa using hp⟩)).2
 have hden : ∀ p : Nat, denB d (p : Int) = if hasB d.2.1.l p = true then some (d.2.2.l.getD p 0) else none := fun p => by
  unfold denB
  simp only [Int.toNat_natCast]
  by_cases e : hasB d.2.1.l p = true
  ·rw [if_pos ⟨by omega, e⟩, if_pos e]
  ·rw [if_neg (fun x => e x.2), if_neg e]
 refine ⟨by omega, by omega, h.has, h.bits, by omega, h.vals, ?_, fun p => ?_, fun p hp => ?_, fun p x hx => ?_⟩
 ·refine List.ext_getElem? fun i => ?_
  by_cases hi : i < d.1.toNat
  ·have hi2 : i < d.2.2.l.length := by omega
   rw [tabM_get _ hi, hden, List.getElem?_eq_getElem hi2, ← getD_lt hi2]
   rcases hall i hi2 with e | e
   ·split
    ·rfl
    ·rw [e]; rfl
   ·rw [if_pos e]; rfl
  ·rw [List.getElem?_eq_none (by omega), List.getElem?_eq_none (by rw [tabM_len]; omega)]
 ·rw [hden]
  cases e : hasB d.2.1.l p <;> simp
 ·rw [hden, if_neg (fun e => by have := hin p e; omega)]
 ·rw [hden] at hx
  split at hx
  ·rename_i e
   simp only [Option.some.injEq] at hx
   subst hx
   have := hin p e
   have hp2 : p < d.2.2.l.length := by omega
   rw [getD_lt hp2]
   exact h.v64 _ (List.getElem_mem hp2)
  ·simp at hx
theorem DV.congr {d : Dn} {n : Nat} {f g : Nat → Option Int} (h : DV d n f) (e : ∀ p, f p = g p) : DV d n g := by
 have : f = g := funext e
 rw [← this]; exact h
theorem words_eq {a b : List Int} (ha : u64s a) (hb : u64s b) (hl : a.length = b.length) (h : ∀ p, hasB a p = hasB b p) : a = b := by
 refine List.ext_getElem? fun i => ?_
 by_cases hi : i < a.length
 ·have hi2 : i < b.length := by omega
  rw [List.getElem?_eq_getElem hi, List.getElem?_eq_getElem hi2]
  congr 1
  have h1 := ha _ (List.getElem_mem hi)
  have h2 := hb _ (List.getElem_mem hi2)
  have : a[i].toNat = b[i].toNat := Nat.eq_of_testBit_eq fun k => by
   by_cases hk : k < 64
   ·have e := h (64 * i + k)
    rw [hasB_word (i := i) (k := k) (by omega) (by omega) (List.getElem?_eq_getElem hi), hasB_word (i := i) (k := k) (by omega) (by omega) (List.getElem?_eq_getElem hi2)] at e
    exact e
   ·have p1 : 2 ^ 64 ≤ 2 ^ k := Nat.pow_le_pow_right (by decide) (by omega)
    have p2 : (2 : Nat) ^ 64 = 18446744073709551616 := by decide
    have q1 := h1.2
    have q2 := h2.2
    rw [Nat.testBit_lt_two_pow (by omega), Nat.testBit_lt_two_pow (by omega)]
  have q1 := h1.1
  have q2 := h2.1
  omega
 ·rw [List.getElem?_eq_none (by omega), List.getElem?_eq_none (by omega)]
theorem ref03_Same_eq {a b : Sl Int} (ha : okS 1 a) (hb : okS 1 b) (he : a.l = b.l) (hl : a.l.length ≤ 9223372036854775807) : ref03_Same a b = some true := by
 unfold ref03_Same
 rw [if_neg (by rw [he]; simp)]
 obtain ⟨q, q1, q2⟩ := loop_up (b := ref03_Same_b1 a b) a.l.length (fun j st => st = (j : Int)) (fun q => q = .inl ())
  (by
   rintro j _ hj rfl
   have e1 := at_s ha (List.getElem?_eq_getElem hj)
   have e2 := at_s hb (k := j) (x := a.l[j]) (by rw [← he]; exact List.getElem?_eq_getElem hj)
   simp only [ref03_Same_b1, e1, e2, Option.bind_some, w_succ hj hl]
   rw [if_pos (by omega), if_neg (by simp)]
   exact .inl ⟨_, rfl, rfl⟩)
  (by
   rintro _ rfl
   exact ⟨_, if_neg (by omega), rfl⟩) 0 (Nat.zero_le _) 0 rfl
 rw [q1, q2]; rfl
theorem ref07_SameVals_eq {a b : Sl Int} (ha : okS 1 a) (hb : okS 1 b) (he : a.l = b.l) (hl : a.l.length ≤ 9223372036854775807) : ref07_SameVals a b = some true := by
 unfold ref07_SameVals
 rw [if_neg (by rw [he]; simp)]
 obtain ⟨q, q1, q2⟩ := loop_up (b := ref07_SameVals_b1 a b) a.l.length (fun j st => st = (j : Int)) (fun q => q = .inl ())
  (by
   rintro j _ hj rfl
   have e1 := at_s ha (List.getElem?_eq_getElem hj)
   have e2 := at_s hb (k := j) (x := a.l[j]) (by rw [← he]; exact List.getElem?_eq_getElem hj)
   simp only [ref07_SameVals_b1, e1, e2, Option.bind_some, w_succ hj hl]
   rw [if_pos (by omega), if_neg (by simp)]
   exact .inl ⟨_, rfl, rfl⟩)
  (by
   rintro _ rfl
   exact ⟨_, if_neg (by omega), rfl⟩) 0 (Nat.zero_le _) 0 rfl
 rw [q1, q2]; rfl
theorem DV.same {d e : Dn} {n : Nat} {f g : Nat → Option Int} (h : DV d n f) (k : DV e n g) (hfg : ∀ p, p < n → f p = g p) : d.1 = e.1 ∧ d.2.1.l = e.2.1.l ∧ d.2.2.l = e.2.2.l := by
 have hall : ∀ p, f p = g p := fun p => by
  by_cases hp : p < n
  ·exact hfg p hp
  ·rw [h.none_ p (by omega), k.none_ p (by omega)]
 refine ⟨h.num.trans k.num.symm, words_eq h.bits k.bits (by rw [h.len, k.len]) fun p => by rw [h.at_, k.at_, hall], ?_⟩
 rw [h.vl, k.vl]
 exact tabM_congr fun i _ => by rw [hall]
theorem DV.same10 {d e : Dn} {n : Nat} {f g : Nat → Option Int} (h : DV d n f) (k : DV e n g) (hfg : ∀ p, p < n → f p = g p) : ref10_Same d e = some true := by
 obtain ⟨e1, e2, e3⟩ := h.same k hfg
 have h1 := h.has
 have h2 := k.has
 have h3 := h.vals
 have h4 := k.vals
 have h5 := h.ok.hl
 have h6 := h.ok.vl
 obtain ⟨n1, s1, t1⟩ := d
 obtain ⟨n2, s2, t2⟩ := e
 simp only at e1 e2 e3 h1 h2 h3 h4 h5 h6
 unfold ref10_Same
 simp only
 rw [if_pos e1, ref03_Same_eq h1 h2 e2 h5]
 simp only [Option.bind_some, if_true]
 rw [ref07_SameVals_eq h3 h4 e3 h6]; rfl
theorem rightI {k : Int} {t : Sl It} (h : rightB (k, t) = true) {p : Int} {y : Int} (hp : getI p t.l = some y) : 0 ≤ p ∧ p < k := by
 obtain ⟨x, hx, hxp⟩ := List.mem_map.1 (mem_places.2 ⟨y, hp⟩)
 obtain ⟨j, hj, rfl⟩ := List.mem_iff_getElem.1 hx
 have := right_at h hj
 omega
theorem ref10_Of_dv {v : Int × Sl It} (h : GoodV v) : ∃ d : Dn, ref10_Of v = some d ∧ DV d v.1.toNat fun p => getI (p : Int) v.2.l := by
 obtain ⟨k, t⟩ := v
 obtain ⟨d, d1, d2, d3, d4, d5⟩ := ref10_Of_eq h
 have := DV.of d2 d3
 rw [d4] at this
 exact ⟨d, d1, this.congr fun p => d5 p⟩
theorem sure_good {v : Int × Sl It} (h : okS 2 v.2) (hi : ∀ x ∈ v.2.l, i64r x.2) : GoodV (sureV v) := by
 refine ⟨sureV_right v, sureV_ok h, fun x hx => ?_⟩
 unfold sureV at hx
 split at hx
 ·exact hi x hx
 ·simp [nilS] at hx
theorem ref10_Of_sure {v : Int × Sl It} (h : okS 2 v.2) (hl : v.2.l.length ≤ 9223372036854775807) : ref10_Of v = ref10_Of (sureV v) := by
 have e1 := ref09_Sure_eq v h hl
 have e2 := ref09_Sure_eq (sureV v) (sureV_ok h) (by have := sure_len v; omega)
 have e3 : sureV (sureV v) = sureV v := sure_id (sureV_right v)
 rw [e3] at e2
 obtain ⟨n, s⟩ := v
 generalize sureV (n, s) = u at e1 e2
 obtain ⟨m, t⟩ := u
 unfold ref10_Of
 simp only [e1, e2]
theorem ref10_Of_any {v : Int × Sl It} (h : okS 2 v.2) (hl : v.2.l.length ≤ 9223372036854775807) (hi : ∀ x ∈ v.2.l, i64r x.2) : ∃ d : Dn, ref10_Of v = some d ∧ DV d (sureV v).1.toNat fun p => getI (p : Int) (sureV v).2.l := by
 rw [ref10_Of_sure h hl]
 exact ref10_Of_dv (sure_good h hi)
theorem vecG_congr {n : Nat} {f g : Nat → Option Int} (h : ∀ p, p < n → f p = g p) : vecG n f = vecG n g := gathR_congr fun p _ hp => h p (by omega)
theorem nilD_dv : DV ((0, nilS, nilS) : Dn) 0 fun _ => none :=
 ⟨rfl, by omega, ok_nil, fun x hx => by simp [nilS] at hx, rfl, ok_nil, rfl, fun p => rfl, fun p _ => rfl, fun p x h => by simp at h⟩
theorem sureD_dv {d : Dn} (h : OkD d) : ∃ n f, DV (sureD d) n f := by
 have := DV.of (sureD_ok h) (sureD_right d)
 exact ⟨_, _, this⟩
theorem devec_sure_eq {d : Dn} (h : OkD d) : devec_sure d = some (sureD d) := by
 have e := devec_Right_eq h
 obtain ⟨n, s, t⟩ := d
 unfold devec_sure sureD
 simp only [e, Option.bind_some]
 split <;> rfl
theorem DV.back {d : Dn} {n : Nat} {f : Nat → Option Int} (h : DV d n f) : backL d.2.1.l d.2.2.l = vecG n f := by
 have h1 := right_gath (back_right h.right)
 rw [mo_l, h.num, Int.toNat_natCast] at h1
 rw [h1]
 exact vecG_congr fun p hp => by rw [back_get, h.den, if_pos (by omega), Int.toNat_natCast]
theorem ref10_Back_dv {d : Dn} (h : OkD d) {n : Nat} {f : Nat → Option Int} (hd : DV (sureD d) n f) : ref10_Back d = some ((n : Int), mo 2 (vecG n f)) := by
 rw [ref10_Back_eq h]
 have hb := hd.back
 have hn := hd.num
 unfold backV
 unfold sureD at hb hn
 by_cases hr : rightD d = true
 ·rw [if_pos hr] at hb hn ⊢
  rw [hb, hn]
 ·rw [if_neg hr] at hb hn ⊢
  rw [← hb, ← hn]; rfl
theorem flags_Has_any {s : Sl Int} (hok : okS 1 s) (hu : u64s s.l) (hl : s.l.length ≤ 15000) {p : Int} (hp : i64r p) : flags_Has s p = some (decide (0 ≤ p) && hasB s.l p.toNat) := by
 by_cases h0 : 0 ≤ p
 ·obtain ⟨k, rfl⟩ := Int.eq_ofNat_of_zero_le h0
  rw [decide_eq_true h0, Bool.true_and, Int.toNat_natCast]
  by_cases hk : k < 1000000
  ·exact flags_Has_eq s k hok hu hk
  ·have hw : flags_within s (k : Int) = some false := by
    unfold flags_within divO
    have e1 : ((k : Nat) : Int).tdiv 64 = ((k / 64 : Nat) : Int) := by rw [Int.tdiv_eq_ediv_of_nonneg (by omega)]; rfl
    have := hp.2
    rw [if_pos (by omega), if_pos (by decide), e1, wrap64 (by omega) (by omega)]
    simp only [Option.bind_some]
    rw [if_neg (by omega)]
   unfold flags_Has
   rw [hw, hasB_out (by omega)]; rfl
 ·unfold flags_Has flags_within
  rw [if_neg (by omega), decide_eq_false h0]; rfl
theorem words_len {d : Dn} {n : Nat} {f : Nat → Option Int} (h : DV d n f) : d.2.1.l.length ≤ 64 := by have := h.len; have := h.le; omega
theorem DV.has_eq {d : Dn} {n : Nat} {f : Nat → Option Int} (h : DV d n f) {p : Int} (hp : i64r p) : flags_Has d.2.1 p = some (decide (0 ≤ p) && (f p.toNat).isSome) := by
 rw [flags_Has_any h.has h.bits (by have := words_len h; omega) hp, h.at_]
theorem DV.val_at {d : Dn} {n : Nat} {f : Nat → Option Int} (h : DV d n f) {k : Nat} (hk : k < n) : atS 1 d.2.2 (k : Int) = some ((f k).getD 0) := at_s h.vals (by rw [h.vl, tabM_get _ hk])
theorem DV.vlen {d : Dn} {n : Nat} {f : Nat → Option Int} (h : DV d n f) : d.2.2.l.length = n := by rw [h.vl, tabM_len]
theorem devec_Back_dv {d : Dn} (h : OkD d) {n : Nat} {f : Nat → Option Int} (hd : DV (sureD d) n f) : devec_Back d = some ((n : Int), mo 2 (vecG n f)) := by
 have e := devec_sure_eq h
 obtain ⟨n1, s1, t1⟩ := d
 unfold devec_Back
 simp only [e, Option.bind_some]
 generalize sureD (n1, s1, t1) = u at hd
 obtain ⟨m, s, t⟩ := u
 have hle := hd.le
 have hvl := hd.vlen
 have hnum := hd.num
 simp only at hvl hnum
 obtain ⟨q, q1, q2⟩ := loop_up (b := devec_Back_b1 s t) n (fun j a => a = ((j : Int), gathR 0 j f)) (fun q => q = .inl (vecG n f))
  (by
   rintro j _ hj rfl
   have ha := hd.val_at hj
   have hh := hd.has_eq (p := (j : Int)) (by unfold i64r; omega)
   simp only [Int.toNat_natCast] at ha hh
   have hlen := gathR_len 0 j f
   simp only [devec_Back_b1, ha, hh, Option.bind_some, w_succ hj (by omega)]
   rw [if_pos (by omega), gathR_last, Nat.zero_add, decide_eq_true (show (0 : Int) ≤ (j : Int) by omega), Bool.true_and]
   cases hf : f j with
   | none => exact .inl ⟨_, rfl, by simp⟩
   | some x =>
    have hap : app (gathR 0 j f) [((j : Int), x)] = some (gathR 0 j f ++ [((j : Int), x)]) := app_ok (by simp; unfold bound; omega)
    simp only [Option.isSome_some, if_true, Option.getD_some, hap, Option.bind_some]
    exact .inl ⟨_, rfl, rfl⟩)
  (by
   rintro _ rfl
   exact ⟨_, if_neg (by omega), rfl⟩) 0 (Nat.zero_le _) (0, []) rfl
 rw [q1, q2, hnum]; rfl
theorem flags_New_eq {n : Nat} (h : n ≤ 4096) : flags_New (n : Int) = some (List.replicate ((n + 63) / 64) 0) := by
 unfold flags_New
 have e : (((n : Int) + 63) / 64).toNat = (n + 63) / 64 := by omega
 have hlo : lenOk (((n : Int) + 63) / 64) = some () := by unfold lenOk bound; rw [if_pos ⟨by omega, by omega⟩]
 simp only [flags_words_eq (n := (n : Int)) ⟨by omega, by omega⟩, hlo, Option.bind_some, e]
theorem flags_bit_eq (p : Nat) : flags_bit (p : Int) = some ((2 ^ (p % 64) : Nat) : Int) := by
 unfold flags_bit
 simp only [mod64n, Option.bind_some, shl_one]
theorem put_bits {ws : List Int} {p : Nat} (hu : u64s ws) (hp : p / 64 < ws.length) : ∃ w, atL ws ((p / 64 : Nat) : Int) = some w ∧ (ws.set (p / 64) (orI .u64 w ((2 ^ (p % 64) : Nat) : Int))).length = ws.length ∧ u64s (ws.set (p / 64) (orI .u64 w ((2 ^ (p % 64) : Nat) : Int))) ∧ ∀ i, hasB (ws.set (p / 64) (orI .u64 w ((2 ^ (p % 64) : Nat) : Int))) i = (hasB ws i || decide (i = p)) := by
 have hw := hu _ (List.getElem_mem hp)
 have hat := atL_get hp
 obtain ⟨w, hw2⟩ := Int.eq_ofNat_of_zero_le hw.1
 rw [hw2] at hw hat
 have hwlt : w < 18446744073709551616 := by have := hw.2; omega
 have hk : p % 64 < 64 := Nat.mod_lt _ (by decide)
 have hpow := pow_lt hk
 have hor := or_nat hwlt hpow
 have horl : w ||| 2 ^ (p % 64) < 2 ^ 64 := Nat.or_lt_two_pow (by omega) (by omega)
 refine ⟨(w : Int), hat, by simp, fun x hx => ?_, fun i => ?_⟩
 ·rcases List.mem_or_eq_of_mem_set hx with hx | rfl
  ·exact hu x hx
  ·rw [hor]; unfold u64r; omega
 ·rw [hor]
  by_cases e : i / 64 = p / 64
  ·rw [hasB_word (ws := ws.set _ _) e rfl (by rw [List.getElem?_set, if_pos rfl, if_pos hp]), hasB_word e rfl (by rw [List.getElem?_eq_getElem hp, hw2])]
   simp only [Int.toNat_natCast]
   rw [Nat.testBit_or, Nat.testBit_two_pow]
   congr 1
   by_cases e2 : i = p
   ·subst e2; simp
   ·rw [decide_eq_false e2, decide_eq_false (by omega)]
  ·have hne : (ws.set (p / 64) ((w ||| 2 ^ (p % 64) : Nat) : Int))[i / 64]? = ws[i / 64]? := by rw [List.getElem?_set, if_neg (Ne.symm e)]
   have e2 : i ≠ p := fun h => e (by rw [h])
   rw [decide_eq_false e2, Bool.or_false]
   unfold hasB
   rw [hne]
theorem flags_Of_eq {n : Nat} (hn : n ≤ 4096) {s : Sl Int} (hs : okS 1 s) (hl : s.l.length ≤ 9223372036854775807) : ∃ q, flags_Of (n : Int) s = some q ∧ q.length = (n + 63) / 64 ∧ u64s q ∧ ∀ i, hasB q i = (decide (i < n) && decide ((i : Int) ∈ s.l)) := by
 unfold flags_Of
 rw [flags_New_eq hn]
 simp only [Option.bind_some]
 obtain ⟨q, q1, w, rfl, w1, w2, w3⟩ := loop_up (b := flags_Of_b1 (n : Int) s) s.l.length (fun j st => ∃ w : List Int, st = (w, (j : Int)) ∧ w.length = (n + 63) / 64 ∧ u64s w ∧ ∀ i, hasB w i = (decide (i < n) && decide ((i : Int) ∈ s.l.take j))) (fun q => ∃ w : List Int, q = .inl w ∧ w.length = (n + 63) / 64 ∧ u64s w ∧ ∀ i, hasB w i = (decide (i < n) && decide ((i : Int) ∈ s.l)))
  (by
   rintro j _ hj ⟨w, rfl, g1, g2, g3⟩
   have ej := at_get hs hj
   have htk : s.l.take (j + 1) = s.l.take j ++ [s.l[j]] := by rw [List.take_succ_eq_append_getElem hj]
   rw [htk]
   generalize s.l[j] = x at ej
   simp only [flags_Of_b1, ej, Option.bind_some, w_succ hj hl]
   rw [if_pos (by omega)]
   have same : ¬ (0 ≤ x ∧ x < (n : Int)) → ∀ i, hasB w i = (decide (i < n) && decide ((i : Int) ∈ s.l.take j ++ [x])) := fun h i => by
    rw [g3 i]
    by_cases hi : i < n
    ·rw [decide_eq_true hi]
     simp only [Bool.true_and]
     congr 1
     simp only [List.mem_append, List.mem_cons, List.not_mem_nil, or_false, eq_iff_iff]
     exact ⟨.inl, fun h1 => h1.resolve_right fun e => h (by omega)⟩
    ·rw [decide_eq_false hi]; rfl
   by_cases c1 : x ≥ 0
   ·rw [if_pos c1]
    by_cases c2 : x < (n : Int)
    ·rw [if_pos c2, if_pos (by omega)]
     obtain ⟨p, rfl⟩ := Int.eq_ofNat_of_zero_le c1
     obtain ⟨v, v1, v2, v3, v4⟩ := put_bits (p := p) g2 (by omega)
     simp only [div64n (j := p) (by omega), v1, flags_bit_eq, Option.bind_some, Int.toNat_natCast]
     refine .inl ⟨_, rfl, _, rfl, by rw [v2]; exact g1, v3, fun i => ?_⟩
     rw [v4 i, g3 i]
     by_cases hi : i < n
     ·rw [decide_eq_true hi]
      simp only [Bool.true_and, List.mem_append, List.mem_cons, List.not_mem_nil, or_false, Bool.decide_or]
      congr 1
      by_cases e : i = p
      ·subst e; simp
      ·rw [decide_eq_false e, decide_eq_false (by omega)]
     ·rw [decide_eq_false hi, decide_eq_false (show ¬ i = p by omega)]; rfl
    ·rw [if_neg c2]
     exact .inl ⟨_, rfl, w, rfl, g1, g2, same (by omega)⟩
   ·rw [if_neg c1]
    exact .inl ⟨_, rfl, w, rfl, g1, g2, same (by omega)⟩)
  (by
   rintro _ ⟨w, rfl, g1, g2, g3⟩
   rw [List.take_length] at g3
   refine ⟨.inl w, ?_, w, rfl, g1, g2, g3⟩
   simp only [flags_Of_b1]
   rw [if_neg (by omega)]) 0 (Nat.zero_le _) (List.replicate ((n + 63) / 64) 0, 0) ⟨_, rfl, by simp, fun x hx => by rw [List.eq_of_mem_replicate hx]; unfold u64r; omega, fun i => by rw [has_zero]; simp⟩
 exact ⟨w, by rw [q1]; rfl, w1, w2, w3⟩
theorem spvec_sure_eq (v : Int × Sl It) (hok : okS 2 v.2) (hl : v.2.l.length ≤ 9223372036854775807) : spvec_sure v = some (sureV v) := by
 have e := spvec_Right_eq v hok hl
 obtain ⟨n, s⟩ := v
 unfold spvec_sure sureV
 simp only [e, Option.bind_some]
 split <;> rfl
theorem spvec_Places_eq {v : Int × Sl It} (hok : okS 2 v.2) (hl : v.2.l.length ≤ 9223372036854775807) : spvec_Places v = some ((sureV v).2.l.map (·.1)) := by
 have e := spvec_sure_eq v hok hl
 have k1 := sure_len v
 have k2 := sureV_ok hok
 obtain ⟨n, s⟩ := v
 unfold spvec_Places
 simp only [e, Option.bind_some]
 generalize sureV (n, s) = u at k1 k2
 obtain ⟨m, t⟩ := u
 simp only at k1 k2 ⊢
 obtain ⟨q, q1, q2⟩ := loop_up (b := spvec_Places_b1 t) t.l.length (fun j a => a = ((t.l.take j).map (·.1), (j : Int))) (fun q => q = .inl (t.l.map (·.1)))
  (by
   rintro j _ hj rfl
   have ej := at_get k2 hj
   have ap : app ((t.l.take j).map (·.1)) [t.l[j].1] = some ((t.l.take j).map (·.1) ++ [t.l[j].1]) := app_ok (by simp; unfold bound; omega)
   simp only [spvec_Places_b1, ej, ap, Option.bind_some, w_succ hj (by omega)]
   rw [if_pos (by omega)]
   exact .inl ⟨_, rfl, by rw [List.take_succ_eq_append_getElem hj, List.map_append]; rfl⟩)
  (by
   rintro _ rfl
   exact ⟨_, if_neg (by omega), by rw [List.take_length]⟩) 0 (Nat.zero_le _) ([], 0) rfl
 rw [q1, q2]; rfl
theorem places_bit {k : Nat} {t : Sl It} (h : rightB ((k : Int), t) = true) (p : Nat) : (decide (p < k) && decide ((p : Int) ∈ t.l.map (·.1))) = (getI (p : Int) t.l).isSome := by
 cases hg : getI (p : Int) t.l with
 | none =>
  rw [decide_eq_false (p := (p : Int) ∈ t.l.map (·.1)) (fun hm => by obtain ⟨y, hy⟩ := mem_places.1 hm; rw [hg] at hy; simp at hy)]; simp
 | some y =>
  have := rightI h hg
  rw [decide_eq_true (mem_places.2 ⟨y, hg⟩), decide_eq_true (show p < k by omega)]; rfl
theorem of_loop {n : Nat} {t : Sl It} (h : rightB ((n : Int), t) = true) (hok : okS 2 t) : loopO (devec_Of_b5 t) (0, List.replicate n 0) = some (.inl (tabM n fun p => (getI (p : Int) t.l).getD 0)) := by
 have hlen := right_len h
 simp only at hlen
 rw [tabM_zero]
 obtain ⟨q, q1, q2⟩ := loop_up (b := devec_Of_b5 t) t.l.length (fun j st => st = ((j : Int), tabM n fun p => (getI (p : Int) (t.l.take j)).getD 0)) (fun q => q = .inl (tabM n fun p => (getI (p : Int) t.l).getD 0))
  (by
   rintro j _ hj rfl
   have ej := at_get hok hj
   have hx := right_at h hj
   have htk := getI_take h hj
   rw [List.take_succ_eq_append_getElem hj]
   generalize t.l[j] = x at ej hx htk
   obtain ⟨x1, x2⟩ := x
   simp only at hx htk
   obtain ⟨p, rfl⟩ := Int.eq_ofNat_of_zero_le hx.1
   have hat : atL (tabM n fun p => (getI (p : Int) (t.l.take j)).getD 0) (p : Int) = some ((getI (p : Int) (t.l.take j)).getD 0) := by
    unfold atL; rw [if_pos (by omega), Int.toNat_natCast, tabM_get _ (by omega)]
   simp only [devec_Of_b5, ej, Option.bind_some, hat, Int.toNat_natCast, w_succ hj (by omega)]
   rw [if_pos (by omega), tabM_set _ _ (by omega)]
   refine .inl ⟨_, rfl, ?_⟩
   simp only [Prod.mk.injEq, true_and]
   refine tabM_congr fun i hi => ?_
   rw [getI_append]
   by_cases e : i = p
   ·subst e; rw [if_pos rfl, htk]; simp [getI]
   ·rw [if_neg e]
    have : getI (i : Int) [((p : Int), x2)] = none := by unfold getI; rw [if_neg (by omega)]; rfl
    rw [this]
    cases getI (i : Int) (t.l.take j) <;> rfl)
  (by
   rintro _ rfl
   refine ⟨_, ?_, rfl⟩
   simp only [devec_Of_b5]
   rw [if_neg (by omega), List.take_length]) 0 (Nat.zero_le _) (0, tabM n fun _ => 0) rfl
 rw [q1, q2]
theorem devec_Of_any {v : Int × Sl It} (hok : okS 2 v.2) (hl : v.2.l.length ≤ 9223372036854775807) (hi : ∀ x ∈ v.2.l, i64r x.2) : ∃ d : Dn, devec_Of v = some d ∧ DV d (sureV v).1.toNat fun p => getI (p : Int) (sureV v).2.l := by
 have e1 := spvec_Right_eq v hok hl
 have e2 := spvec_Places_eq hok hl
 by_cases hr : rightB v = true
 ·have es : sureV v = v := sure_id hr
  rw [es] at e2 ⊢
  have hz := right_size hr
  obtain ⟨m, t⟩ := v
  simp only at hz hok hl e2 hi ⊢
  obtain ⟨n, rfl⟩ := Int.eq_ofNat_of_zero_le hz.1
  have hlo : lenOk (n : Int) = some () := by unfold lenOk bound; rw [if_pos ⟨by omega, by omega⟩]
  have hloop := of_loop hr hok
  have h56 : devec_Of_b6 t = devec_Of_b5 t := rfl
  have fin : ∀ (s : Sl Int), okS 1 s → s.l = t.l.map (·.1) → ∃ q, flags_Of (n : Int) s = some q ∧ DV ((n : Int), (⟨true, 1, q⟩ : Sl Int), (⟨true, 1, tabM n fun p => (getI (p : Int) t.l).getD 0⟩ : Sl Int)) n fun p => getI (p : Int) t.l := fun s hs hsl => by
   obtain ⟨q, q1, q2, q3, q4⟩ := flags_Of_eq (n := n) (by omega) hs (by rw [hsl]; simp; omega)
   refine ⟨q, q1, rfl, by omega, .inr rfl, q3, q2, .inr rfl, rfl, fun p => ?_, fun p hp => ?_, fun p x hx => hi _ (getI_in hx)⟩
   ·rw [q4 p, hsl]; exact places_bit hr p
   ·cases hg : getI (p : Int) t.l with
    | none => rfl
    | some y => have := rightI hr hg; omega
  unfold devec_Of
  simp only [e1, hr, Option.bind_some, if_true]
  rw [if_neg (by omega), if_neg (by omega), flags_New_eq (by omega)]
  simp only [hlo, Option.bind_some, e2, Int.toNat_natCast]
  cases hL : t.l.map (·.1) with
  | nil =>
   obtain ⟨q, q1, q2⟩ := fin (⟨false, 0, []⟩ : Sl Int) (.inl rfl) hL.symm
   simp only [q1, hloop, Option.bind_some, Sum.elim_inl]
   exact ⟨_, rfl, q2⟩
  | cons y z =>
   obtain ⟨q, q1, q2⟩ := fin (⟨true, 1, y :: z⟩ : Sl Int) (.inr rfl) hL.symm
   simp only [q1, h56, hloop, Option.bind_some, Sum.elim_inl]
   exact ⟨_, rfl, q2⟩
 ·have es : sureV v = (0, nilS) := by unfold sureV; rw [if_neg hr]
  rw [es]
  obtain ⟨n, s⟩ := v
  unfold devec_Of
  have hf : rightB (n, s) = false := by simpa using hr
  simp only [e1, hf, Option.bind_some, Bool.false_eq_true, if_false]
  exact ⟨_, rfl, nilD_dv.congr fun p => rfl⟩
theorem zero_dv {n : Nat} (hn : n ≤ 4096) {s t : Sl Int} (hs : okS 1 s) (ht : okS 1 t) (es : s.l = List.replicate ((n + 63) / 64) 0) (et : t.l = List.replicate n 0) : DV ((n : Int), s, t) n fun _ => none := by
 refine ⟨rfl, hn, hs, ?_, by rw [es]; simp, ht, ?_, fun p => ?_, fun p _ => rfl, fun p x h => by simp at h⟩
 ·rw [es]; intro x hx; rw [List.eq_of_mem_replicate hx]; unfold u64r; omega
 ·rw [et]; exact tabM_zero n
 ·rw [es, has_zero]; rfl
def sizeN (n : Int) : Nat := if 0 ≤ n ∧ n ≤ 4096 then n.toNat else 0
theorem devec_New_dv (n : Int) : ∃ d : Dn, devec_New n = some d ∧ DV d (sizeN n) fun _ => none := by
 unfold devec_New sizeN
 by_cases h1 : n < 0
 ·rw [if_pos h1, if_neg (by omega)]; exact ⟨_, rfl, nilD_dv⟩
 ·rw [if_neg h1]
  by_cases h2 : n > 4096
  ·rw [if_pos h2, if_neg (by omega)]; exact ⟨_, rfl, nilD_dv⟩
  ·obtain ⟨k, rfl⟩ := Int.eq_ofNat_of_zero_le (show 0 ≤ n by omega)
   have hlo : lenOk (k : Int) = some () := by unfold lenOk bound; rw [if_pos ⟨by omega, by omega⟩]
   rw [if_neg h2, if_pos (by omega), flags_New_eq (by omega)]
   simp only [hlo, Option.bind_some, Int.toNat_natCast]
   exact ⟨_, rfl, zero_dv (by omega) (.inr rfl) (.inr rfl) rfl rfl⟩
theorem ref10_New_dv (n : Int) : ∃ d : Dn, ref10_New n = some d ∧ DV d (sizeN n) fun _ => none := by
 have key : ∀ k : Nat, k ≤ 4096 → ref03_New (k : Int) = some (List.replicate ((k + 63) / 64) 0) ∧ lenOk (k : Int) = some () := fun k hk => by
  have e : (((k : Int) + 63) / 64).toNat = (k + 63) / 64 := by omega
  have hlo : lenOk (((k : Int) + 63) / 64) = some () := by unfold lenOk bound; rw [if_pos ⟨by omega, by omega⟩]
  refine ⟨?_, by unfold lenOk bound; rw [if_pos ⟨by omega, by omega⟩]⟩
  unfold ref03_New
  simp only [ref03_words_eq (n := (k : Int)) ⟨by omega, by omega⟩, hlo, Option.bind_some, e]
 have z := key 0 (by omega)
 have z1 : ref03_New 0 = some [] := z.1
 have z2 : lenOk 0 = some () := z.2
 unfold ref10_New sizeN
 by_cases h1 : n < 0
 ·rw [if_pos h1, if_neg (by omega)]
  simp only [z1, z2, Option.bind_some]
  exact ⟨_, rfl, zero_dv (n := 0) (by decide) (.inr rfl) (.inr rfl) rfl rfl⟩
 ·rw [if_neg h1]
  by_cases h2 : n > 4096
  ·rw [if_pos h2, if_neg (by omega)]
   simp only [z1, z2, Option.bind_some]
   exact ⟨_, rfl, zero_dv (n := 0) (by decide) (.inr rfl) (.inr rfl) rfl rfl⟩
  ·obtain ⟨k, rfl⟩ := Int.eq_ofNat_of_zero_le (show 0 ≤ n by omega)
   obtain ⟨y1, y2⟩ := key k (by omega)
   rw [if_neg h2, if_pos (by omega)]
   simp only [y1, y2, Option.bind_some, Int.toNat_natCast]
   exact ⟨_, rfl, zero_dv (by omega) (.inr rfl) (.inr rfl) rfl rfl⟩
theorem okD_of {d : Dn} (h : inK .i64 d.1 ∧ SlW 1 (fun x => inK .u64 x) d.2.1 ∧ SlW 1 (fun x => inK .i64 x) d.2.2) : OkD d :=
 ⟨h.2.1.ok, u64s_of h.2.1, h.2.2.ok, fun x hx => i64r_of (h.2.2.2.2.2 x hx), by have := h.2.1.2.2.1; unfold maxLen at this; omega, by have := h.2.2.2.2.1; unfold maxLen at this; omega⟩
def smallB (d : Dn) : Bool := decide ((d.2.2.l.length : Int) ≤ 150) && decide ((d.2.1.l.length : Int) ≤ 5)
theorem law10_small_eq (d : Dn) : law10_small d = some (smallB d) := by
 obtain ⟨n, s, t⟩ := d
 unfold law10_small smallB
 by_cases h1 : ((t.l.length : Nat) : Int) ≤ 150
 ·simp only [if_pos h1]
  by_cases h2 : ((s.l.length : Nat) : Int) ≤ 5
  ·simp only [if_pos h2, decide_eq_true h1, decide_eq_true h2]; rfl
  ·simp only [if_neg h2, decide_eq_false h2]; simp
 ·simp only [if_neg h1, decide_eq_false h1]; simp
theorem law10_DevecOf_true (d : Dn) (hd : inK .i64 d.1 ∧ SlW 1 (fun x => inK .u64 x) d.2.1 ∧ SlW 1 (fun x => inK .i64 x) d.2.2) (v : Int × Sl It) (hv : inK .i64 v.1 ∧ SlW 2 WIt v.2) (n : Int) (hn : inK .i64 n) : law10_DevecOf d v n = some true := by
 have od := okD_of hd
 have v1 := few_ok (v := v) hv.2.ok
 have v2 := few_len v
 have v3 := few_vals (WV.vals hv)
 obtain ⟨dn, df, hdv⟩ := sureD_dv od
 have e1 := devec_Right_eq od
 have e2 := ref10_Right_eq od
 have e3 := devec_Back_dv od hdv
 have e4 := ref10_Back_dv od hdv
 obtain ⟨a, a1, a2⟩ := devec_Of_any v1 (by omega) v3
 obtain ⟨b, b1, b2⟩ := ref10_Of_any v1 (by omega) v3
 obtain ⟨p, p1, p2⟩ := devec_New_dv n
 obtain ⟨q, q1, q2⟩ := ref10_New_dv n
 have s1 : ref09_Same ((dn : Int), mo 2 (vecG dn df)) ((dn : Int), mo 2 (vecG dn df)) = some true := same_refl _ (ok_mo _) (by rw [mo_l]; have := gathR_len 0 dn df; have := hdv.le; unfold vecG; omega)
 have s2 := a2.same10 b2 fun _ _ => rfl
 have s3 := p2.same10 q2 fun _ _ => rfl
 have f1 := law09_Few_eq v
 have f2 := law10_small_eq d
 obtain ⟨d1, d2, d3⟩ := d
 generalize fewV v = w at *
 obtain ⟨v1', v2'⟩ := v
 obtain ⟨w1, w2⟩ := w
 obtain ⟨x1, x2, x3⟩ := a
 obtain ⟨y1, y2, y3⟩ := b
 obtain ⟨z1, z2, z3⟩ := p
 obtain ⟨u1, u2, u3⟩ := q
 unfold law10_DevecOf
 simp only [f1, f2, FL_eq, Option.bind_some, if_true, a1, b1, s2, p1, q1, s3]
 cases smallB (d1, d2, d3) with
 | false => rfl
 | true =>
  simp only [if_true, e1, e2, Option.bind_some, e3, e4, s1]
  cases rightD (d1, d2, d3) <;> simp
end Ev
end Go.Proofs.YtjomjfjbpcafhaaDoor
