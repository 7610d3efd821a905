/- BlendMasks: mathematics. Over the functions on data; no number of a type or function is named. -/
import Derived.Test.YtlcfdmjkbaegpaaLf1
import Derived.Test.YtlcfdmjkbaegpaaLf13
import Derived.Test.YtlcfdmjkbaegpaaLf3
import Derived.Test.YtlcfdmjkbaegpaaLf6
import Derived.Test.YtlcfdmjkbaegpaaLf7
import Derived.Test.YtlcfdmjkbaegpaaLf8
import Derived.Test.YtlcfdmjkbaegpaaLw4
import Derived.Test.YtlcfdmjkbaegpaaEvS5
namespace Go.Proofs.Ytlcfdmjkbaegpaa
namespace Ev
open Go
set_option linter.unusedVariables false
set_option linter.unusedSimpArgs false
abbrev It := Int × Int
def WIt (x : It) : Prop := inK .i64 x.1 ∧ inK .i64 x.2
def WV (v : Int × Sl It) : Prop := inK .i64 v.1 ∧ SlW 2 WIt v.2
def okS {α : Type} (w : Nat) (s : Sl α) : Prop := s.l = [] ∨ s.sz = w
theorem SlW.ok {α : Type} {w : Nat} {Q : α → Prop} {s : Sl α} (h : SlW w Q s) : okS w s := .inr h.1
def nilS {α : Type} : Sl α := ⟨false, 0, []⟩
theorem ok_nil {α : Type} {w : Nat} : okS w (nilS : Sl α) := .inl rfl
theorem ok_mo {α : Type} {w : Nat} (l : List α) : okS w (mo w l) := by cases l with | nil => exact .inl rfl | cons x l => exact .inr rfl
/-- Do places rise, and stand below n? -/
def asc : Int → Int → List It → Bool
  | _, _, [] => true
  | a, n, x :: l => decide (a < x.1) && decide (x.1 < n) && asc x.1 n l
def sizeB (n : Int) : Bool := decide (0 ≤ n) && decide (n ≤ 4096)
def rightB (v : Int × Sl It) : Bool := sizeB v.1 && asc (-1) v.1 v.2.l
def sureV (v : Int × Sl It) : Int × Sl It := if rightB v = true then v else (0, nilS)
theorem sureV_ok {v : Int × Sl It} (h : okS 2 v.2) : okS 2 (sureV v).2 := by unfold sureV; split; exact h; exact ok_nil
theorem sureV_right (v : Int × Sl It) : rightB (sureV v) = true := by unfold sureV; split; assumption; rfl
theorem asc_lt {n : Int} : ∀ {a : Int} {l : List It}, asc a n l = true → ∀ x ∈ l, a < x.1 ∧ x.1 < n
  | a, y :: l, h, x, hx => by
    simp only [asc, Bool.and_eq_true, decide_eq_true_eq] at h
    rcases List.mem_cons.1 hx with rfl | hx
    · exact ⟨h.1.1, h.1.2⟩
    · have := asc_lt h.2 x hx; omega
theorem asc_len {n : Int} : ∀ {a : Int} {l : List It}, asc a n l = true → (l.length : Int) ≤ max (n - a - 1) 0
  | a, [], h => by simp; omega
  | a, y :: l, h => by
    simp only [asc, Bool.and_eq_true, decide_eq_true_eq] at h
    have := asc_len h.2
    simp only [List.length_cons]; omega
theorem right_len {v : Int × Sl It} (h : rightB v = true) : v.2.l.length ≤ 4096 := by
  simp only [rightB, sizeB, Bool.and_eq_true, decide_eq_true_eq] at h
  have := asc_len h.2; omega
theorem sure_len (v : Int × Sl It) : (sureV v).2.l.length ≤ 4096 := right_len (sureV_right v)

theorem spvec_size_eq (n : Int) : spvec_size n = some (sizeB n) := by
  unfold spvec_size sizeB
  by_cases h1 : n ≥ 0
  · rw [if_pos h1]
    by_cases h2 : n ≤ 4096
    · rw [if_pos h2, decide_eq_true (show 0 ≤ n from h1), decide_eq_true h2]; rfl
    · rw [if_neg h2, decide_eq_false h2]; simp
  · rw [if_neg h1, decide_eq_false (show ¬ 0 ≤ n from h1)]; rfl
theorem spvec_Right_eq (v : Int × Sl It) (hok : okS 2 v.2) (hl : v.2.l.length ≤ 9223372036854775807) : spvec_Right v = some (rightB v) := by
  obtain ⟨n, s⟩ := v
  unfold spvec_Right rightB
  simp only [spvec_size_eq, Option.bind_some]
  cases hs : sizeB n with
  | false => simp
  | true =>
    simp only [if_true, Bool.true_and]
    obtain ⟨r, h1, h2⟩ := loop_up (b := spvec_Right_b1 n s) s.l.length (fun j a => ∃ la, a = (la, (j : Int)) ∧ asc (-1) n s.l = asc la n (s.l.drop j)) (fun r => (asc (-1) n s.l = true ∧ r = .inl ()) ∨ (asc (-1) n s.l = false ∧ r = .inr false))
      (by
        rintro j _ hj ⟨la, rfl, ha⟩
        rw [List.drop_eq_getElem_cons hj] at ha
        simp only [asc] at ha
        simp only [spvec_Right_b1, at_get hok hj, Option.bind_some, w_succ hj (by simp only at hl; omega)]
        rw [if_pos (by omega)]
        by_cases c1 : s.l[j].1 ≤ la
        · refine .inr ⟨_, if_pos c1, .inr ⟨?_, rfl⟩⟩
          rw [ha, decide_eq_false (by omega)]; rfl
        · rw [if_neg c1]
          by_cases c2 : s.l[j].1 ≥ n
          · refine .inr ⟨_, if_pos c2, .inr ⟨?_, rfl⟩⟩
            rw [ha, decide_eq_false (p := s.l[j].1 < n) (by omega)]; simp
          · refine .inl ⟨_, if_neg c2, _, rfl, ?_⟩
            rw [ha, decide_eq_true (by omega), decide_eq_true (by omega)]; rfl)
      (by
        rintro _ ⟨la, rfl, ha⟩
        refine ⟨_, if_neg (by omega), .inl ⟨?_, rfl⟩⟩
        rw [ha]; simp [asc]) 0 (Nat.zero_le _) (-1, 0) ⟨-1, rfl, rfl⟩
    rw [h1]
    rcases h2 with ⟨h3, rfl⟩ | ⟨h3, rfl⟩ <;> simp [h3]
/-- The reference's way to see whether places rise. -/
theorem asc_iff {n : Int} {l : List It} : ∀ {a : Int}, asc a n l = true ↔ ∀ j (h : j < l.length), (if h0 : j = 0 then a < l[j].1 else l[j - 1].1 < l[j].1) ∧ l[j].1 < n := by
  induction l with
  | nil => intro a; simp [asc]
  | cons x l ih =>
    intro a
    simp only [asc, Bool.and_eq_true, decide_eq_true_eq, ih]
    constructor
    · rintro ⟨⟨h1, h2⟩, h3⟩ j hj
      cases j with
      | zero => exact ⟨by simpa using h1, by simpa using h2⟩
      | succ j =>
        have := h3 j (by simpa using hj)
        refine ⟨?_, by simpa using this.2⟩
        rw [dif_neg (by omega)]
        cases j with
        | zero => simpa using this.1
        | succ j => have := this.1; rw [dif_neg (by omega)] at this; simpa using this
    · intro h
      have h0 := h 0 (by simp)
      refine ⟨⟨by simpa using h0.1, by simpa using h0.2⟩, fun j hj => ?_⟩
      have := h (j + 1) (by simpa using hj)
      rw [dif_neg (by omega)] at this
      refine ⟨?_, by simpa using this.2⟩
      cases j with
      | zero => simpa using this.1
      | succ j => rw [dif_neg (by omega)]; simpa using this.1
theorem asc_iff' {n : Int} {l : List It} : asc (-1) n l = true ↔ ∀ j (h : j < l.length), 0 ≤ l[j].1 ∧ l[j].1 < n ∧ (j ≠ 0 → l[j - 1].1 < l[j].1) := by
  constructor
  · intro h j hj
    have h1 := asc_lt h l[j] (List.getElem_mem hj)
    have h2 := (asc_iff.1 h j hj).1
    exact ⟨by omega, h1.2, fun h0 => by rw [dif_neg h0] at h2; exact h2⟩
  · intro h
    refine asc_iff.2 fun j hj => ⟨?_, (h j hj).2.1⟩
    split
    · have := (h j hj).1; omega
    · rename_i h0; exact (h j hj).2.2 h0
theorem ref09_Right_eq (v : Int × Sl It) (hok : okS 2 v.2) (hl : v.2.l.length ≤ 9223372036854775807) : ref09_Right v = some (rightB v) := by
  obtain ⟨n, s⟩ := v
  simp only at hl
  unfold ref09_Right rightB sizeB
  by_cases h1 : n < 0
  · simp only [if_pos h1, decide_eq_false (show ¬ 0 ≤ n by omega)]; rfl
  by_cases h2 : n > 4096
  · simp only [if_neg h1, if_pos h2, decide_eq_false (show ¬ n ≤ 4096 by omega)]; simp
  simp only [if_neg h1, if_neg h2, decide_eq_true (show 0 ≤ n by omega), decide_eq_true (show n ≤ 4096 by omega), Bool.true_and]
  have hF : ∀ j (hj : j < s.l.length), ¬ (0 ≤ s.l[j].1 ∧ s.l[j].1 < n ∧ (j ≠ 0 → s.l[j - 1].1 < s.l[j].1)) → asc (-1) n s.l = false := fun j hj hh => by
    rw [Bool.eq_false_iff]; intro hc; exact hh (asc_iff'.1 hc j hj)
  obtain ⟨r, h3, h4⟩ := loop_up (b := ref09_Right_b1 n s) s.l.length (fun j a => a = (j : Int) ∧ ∀ i (h : i < s.l.length), i < j → 0 ≤ s.l[i].1 ∧ s.l[i].1 < n ∧ (i ≠ 0 → s.l[i - 1].1 < s.l[i].1)) (fun r => (asc (-1) n s.l = true ∧ r = .inl ()) ∨ (asc (-1) n s.l = false ∧ r = .inr false))
    (by
      rintro j _ hj ⟨rfl, ha⟩
      simp only [ref09_Right_b1, at_get hok hj, Option.bind_some, w_succ hj (by omega)]
      rw [if_pos (by omega)]
      by_cases c1 : s.l[j].1 < 0
      · exact .inr ⟨_, if_pos c1, .inr ⟨hF j hj (by omega), rfl⟩⟩
      rw [if_neg c1]
      by_cases c2 : s.l[j].1 ≥ n
      · exact .inr ⟨_, if_pos c2, .inr ⟨hF j hj (by omega), rfl⟩⟩
      rw [if_neg c2]
      by_cases c3 : (j : Int) > 0
      · rw [if_pos c3]
        have e : IntKind.i64.wrap ((j : Int) - 1) = ((j - 1 : Nat) : Int) := by rw [wrap64 (by omega) (by omega)]; omega
        rw [e, at_get hok (show j - 1 < s.l.length by omega)]
        simp only [Option.bind_some]
        by_cases c4 : s.l[j].1 ≤ s.l[j - 1].1
        · exact .inr ⟨_, if_pos c4, .inr ⟨hF j hj (fun hh => by have := hh.2.2 (by omega); omega), rfl⟩⟩
        · refine .inl ⟨_, if_neg c4, rfl, fun i hi hij => ?_⟩
          by_cases hh : i = j
          · subst hh; exact ⟨by omega, by omega, fun _ => by omega⟩
          · exact ha i hi (by omega)
      · refine .inl ⟨_, if_neg c3, rfl, fun i hi hij => ?_⟩
        by_cases hh : i = j
        · subst hh; exact ⟨by omega, by omega, fun _ => by omega⟩
        · exact ha i hi (by omega))
    (by
      rintro _ ⟨rfl, ha⟩
      exact ⟨_, if_neg (by omega), .inl ⟨asc_iff'.2 fun j hj => ha j hj hj, rfl⟩⟩) 0 (Nat.zero_le _) 0 ⟨rfl, fun i _ h => absurd h (by omega)⟩
  rw [h3]
  rcases h4 with ⟨h5, rfl⟩ | ⟨h5, rfl⟩ <;> simp [h5]
theorem ref09_Sure_eq (v : Int × Sl It) (hok : okS 2 v.2) (hl : v.2.l.length ≤ 9223372036854775807) : ref09_Sure v = some (sureV v) := by
  obtain ⟨n, s⟩ := v
  unfold ref09_Sure sureV
  simp only [ref09_Right_eq (n, s) hok hl, Option.bind_some]
  split <;> rfl
/-- At most sixty items. -/
def fewV (v : Int × Sl It) : Int × Sl It := (v.1, if (v.2.l.length : Int) > 60 then ⟨v.2.nn, v.2.sz, v.2.l.take 60⟩ else v.2)
theorem law09_Few_eq (v : Int × Sl It) : law09_Few v = some (fewV v) := by
  obtain ⟨n, s⟩ := v
  unfold law09_Few fewV
  by_cases h : (s.l.length : Int) > 60
  · simp only [if_pos h]
    have : cutS 2 s 0 60 = some ⟨s.nn, s.sz, s.l.take 60⟩ := by
      unfold cutS; rw [if_pos ⟨by omega, by omega, by omega, .inr rfl⟩]; rfl
    rw [this]; rfl
  · simp only [if_neg h]
theorem few_ok {v : Int × Sl It} (h : okS 2 v.2) : okS 2 (fewV v).2 := by
  unfold fewV
  by_cases hc : (v.2.l.length : Int) > 60
  · simp only [if_pos hc]; rcases h with h | h; exact .inl (by simp [h]); exact .inr h
  · simp only [if_neg hc]; exact h
theorem few_len (v : Int × Sl It) : (fewV v).2.l.length ≤ 60 := by
  unfold fewV
  by_cases hc : (v.2.l.length : Int) > 60
  · simp only [if_pos hc]; simp; omega
  · simp only [if_neg hc]; omega
def i64r (n : Int) : Prop := -9223372036854775808 ≤ n ∧ n ≤ 9223372036854775807
def u64r (n : Int) : Prop := 0 ≤ n ∧ n ≤ 18446744073709551615
theorem i64r_of {n : Int} (h : inK .i64 n) : i64r n := by simpa [inK, i64r, Lit.wf, IntKind.min, IntKind.max, IntKind.signed, IntKind.bits] using h
theorem WV.ok {v : Int × Sl It} (h : WV v) : okS 2 v.2 := h.2.ok
theorem WV.vals {v : Int × Sl It} (h : WV v) : ∀ x ∈ v.2.l, i64r x.2 := fun x hx => i64r_of (h.2.2.2.2 x hx).2
theorem wrap_u64 (n : Int) : IntKind.u64.wrap n = n % 18446744073709551616 := by
  simp [IntKind.wrap, IntKind.signed, IntKind.bits]
def ofW (n : Int) : Int × Int := (if n < 0 then -1 else 0, IntKind.u64.wrap n)
theorem wide_Of_eq {n : Int} (h : i64r n) : wide_Of n = some (ofW n) := by
  unfold wide_Of shr1 ofW shrI
  rw [if_pos (by omega)]
  have e : (2 : Int) ^ (min (63 : Int).toNat IntKind.i64.bits) = 9223372036854775808 := by decide
  rw [e]
  unfold i64r at h
  have : n.fdiv 9223372036854775808 = if n < 0 then -1 else 0 := by
    rw [Int.fdiv_eq_ediv_of_nonneg _ (by omega)]
    split <;> omega
  rw [this]; rfl
/-- A wide number as one of 64 bits. -/
def narrowW (a : Int × Int) : Int × Bool := if a = ofW (IntKind.i64.wrap a.2) then (IntKind.i64.wrap a.2, true) else (0, false)
theorem i64_wrap (n : Int) : i64r (IntKind.i64.wrap n) := by rw [IntKind.wrap_i64]; unfold i64r; omega
theorem filter_take {α : Type} (p : α → Bool) (l : List α) {j : Nat} (hj : j < l.length) : (l.take (j + 1)).filter p = (l.take j).filter p ++ (if p l[j] = true then [l[j]] else []) := by
  rw [List.take_succ_eq_append_getElem hj, List.filter_append]
  congr 1
  by_cases h : p l[j] = true
  · simp [h]
  · simp [h]
/-- Alike: as many items, each the same. -/
theorem sameItems_refl (s : Sl It) (hok : okS 2 s) (hl : s.l.length ≤ 9223372036854775807) : ref07_SameItems s s = some true := by
  unfold ref07_SameItems
  rw [if_neg (by simp)]
  obtain ⟨q, h1, h2⟩ := loop_up (b := ref07_SameItems_b1 s s) s.l.length (fun j a => a = (j : Int)) (fun q => q = .inl ())
    (by
      rintro j _ hj rfl
      simp only [ref07_SameItems_b1, at_get hok hj, Option.bind_some, w_succ hj (by omega)]
      rw [if_pos (by omega)]
      exact .inl ⟨_, if_pos (by simp), rfl⟩)
    (by
      rintro _ rfl
      exact ⟨_, if_neg (by omega), rfl⟩) 0 (Nat.zero_le _) 0 rfl
  subst h2
  rw [h1]; rfl
theorem same_refl (v : Int × Sl It) (hok : okS 2 v.2) (hl : v.2.l.length ≤ 9223372036854775807) : ref09_Same v v = some true := by
  obtain ⟨n, s⟩ := v
  unfold ref09_Same
  simp only [if_true, sameItems_refl s hok hl, Option.bind_some]
/-- What stands at a place. -/
def getI (p : Int) : List It → Option Int
  | [] => none
  | x :: l => if x.1 = p then some x.2 else getI p l
def encO : Option Int → Int × Bool
  | some x => (x, true)
  | none => (0, false)
def itemO (p : Nat) : Option Int → Option It
  | some x => some ((p : Int), x)
  | none => none
def updG (g : Nat → Option Int) (p : Nat) (v : Option Int) : Nat → Option Int := fun q => if q = p then v else g q
/-- What a table has, from a place on. -/
def gathR (a k : Nat) (g : Nat → Option Int) : List It := (List.range' a k).filterMap fun p => itemO p (g p)
theorem gathR_succ (a k : Nat) (g : Nat → Option Int) : gathR a (k + 1) g = (match g a with | some x => [((a : Int), x)] | none => []) ++ gathR (a + 1) k g := by
  unfold gathR
  rw [List.range'_succ, List.filterMap_cons]
  cases h : g a <;> simp [itemO, h]
theorem gathR_app (a k m : Nat) (g : Nat → Option Int) : gathR a (k + m) g = gathR a k g ++ gathR (a + k) m g := by
  unfold gathR
  rw [← List.range'_append_1, List.filterMap_append]
theorem gathR_congr {a k : Nat} {g g' : Nat → Option Int} (h : ∀ p, a ≤ p → p < a + k → g p = g' p) : gathR a k g = gathR a k g' := by
  induction k generalizing a with
  | zero => rfl
  | succ k ih => rw [gathR_succ, gathR_succ, h a (Nat.le_refl _) (by omega), ih fun p h1 h2 => h p (by omega) (by omega)]
theorem gathR_none {a k : Nat} {g : Nat → Option Int} (h : ∀ p, a ≤ p → p < a + k → g p = none) : gathR a k g = [] := by
  induction k generalizing a with
  | zero => rfl
  | succ k ih => rw [gathR_succ, h a (Nat.le_refl _) (by omega), ih fun p h1 h2 => h p (by omega) (by omega)]; rfl
theorem gathR_mem {a k : Nat} {g : Nat → Option Int} {x : It} (h : x ∈ gathR a k g) : ∃ p : Nat, a ≤ p ∧ p < a + k ∧ x.1 = (p : Int) ∧ g p = some x.2 := by
  unfold gathR at h
  obtain ⟨p, hp, he⟩ := List.mem_filterMap.1 h
  rw [List.mem_range'_1] at hp
  cases hg : g p with
  | none => rw [hg] at he; simp [itemO] at he
  | some v => rw [hg] at he; simp only [itemO, Option.some.injEq] at he; subst he; exact ⟨p, hp.1, hp.2, rfl, hg⟩
theorem gathR_asc (a k : Nat) (g : Nat → Option Int) (b n : Int) (hb : b < (a : Int)) (hn : ((a + k : Nat) : Int) ≤ n) : asc b n (gathR a k g) = true := by
  induction k generalizing a b with
  | zero => rfl
  | succ k ih =>
    rw [gathR_succ]
    cases h : g a with
    | none => exact ih (a + 1) b (by omega) (by omega)
    | some v =>
      show (decide (b < (a : Int)) && decide ((a : Int) < n) && asc (a : Int) n (gathR (a + 1) k g)) = true
      rw [decide_eq_true hb, decide_eq_true (by omega), ih (a + 1) a (by omega) (by omega)]; rfl
theorem getI_none {p : Int} : ∀ {l : List It}, (∀ x ∈ l, x.1 ≠ p) → getI p l = none
  | [], _ => rfl
  | x :: l, h => by
    unfold getI
    rw [if_neg (h x List.mem_cons_self)]
    exact getI_none fun y hy => h y (List.mem_cons_of_mem _ hy)
/-- Rising items are what a table of them has. -/
theorem asc_gath {n : Int} : ∀ {l : List It} {a k : Nat}, asc ((a : Int) - 1) n l = true → ((a + k : Nat) : Int) = n → l = gathR a k fun p => getI (p : Int) l
  | [], a, k, h, hn => (gathR_none fun p _ _ => rfl).symm
  | x :: l, a, k, h, hn => by
    simp only [asc, Bool.and_eq_true, decide_eq_true_eq] at h
    obtain ⟨⟨h1, h2⟩, h3⟩ := h
    obtain ⟨q, hq⟩ : ∃ q : Nat, x.1 = (q : Int) := ⟨x.1.toNat, by omega⟩
    have hk : k = (q - a) + ((k - (q - a) - 1) + 1) := by omega
    rw [hk, gathR_app, gathR_succ]
    have e1 : gathR a (q - a) (fun p => getI (p : Int) (x :: l)) = [] := gathR_none fun p p1 p2 => by
      refine getI_none fun y hy => ?_
      rcases List.mem_cons.1 hy with rfl | hy
      · omega
      · have := asc_lt h3 y hy; omega
    have ea : a + (q - a) = q := by omega
    have e2 : getI ((a + (q - a) : Nat) : Int) (x :: l) = some x.2 := by unfold getI; rw [if_pos (by omega)]
    have h3' : asc (((q + 1 : Nat) : Int) - 1) n l = true := by rw [hq] at h3; simpa using h3
    have ih := asc_gath (k := k - (q - a) - 1) h3' (by omega)
    rw [e1, e2, ea]
    have e3 : gathR (q + 1) (k - (q - a) - 1) (fun p => getI (p : Int) (x :: l)) = l := by
      rw [gathR_congr (g' := fun p => getI (p : Int) l) fun p p1 p2 => by
        show getI (p : Int) (x :: l) = _
        rw [getI, if_neg (by omega)]]
      exact ih.symm
    rw [e3, List.nil_append, ← hq]; rfl
/-- A vector of a table. -/
def vecG (n : Nat) (g : Nat → Option Int) : List It := gathR 0 n g
theorem right_vecG {n : Int} {s : Sl It} {g : Nat → Option Int} (h0 : 0 ≤ n) (h1 : n ≤ 4096) (hs : s.l = vecG n.toNat g) : rightB (n, s) = true := by
  simp only [rightB, sizeB, hs, decide_eq_true h0, decide_eq_true h1, Bool.true_and]
  exact gathR_asc _ _ _ _ _ (by omega) (by omega)
/-- With something put at a place. -/
theorem vecG_put {n p : Nat} (hp : p < n) (g : Nat → Option Int) (v : Option Int) : vecG n (updG g p v) = (vecG n g).filter (fun x => decide (x.1 < (p : Int))) ++ ((match v with | some x => [((p : Int), x)] | none => []) ++ (vecG n g).filter (fun x => decide ((p : Int) < x.1))) := by
  have hn : n = p + ((n - p - 1) + 1) := by omega
  have split : ∀ g' : Nat → Option Int, vecG n g' = gathR 0 p g' ++ ((match g' p with | some x => [((p : Int), x)] | none => []) ++ gathR (p + 1) (n - p - 1) g') := fun g' => by
    show gathR 0 n g' = _
    rw [hn, gathR_app, gathR_succ, Nat.zero_add, show p + (n - p - 1 + 1) - p - 1 = n - p - 1 by omega]
  rw [split (updG g p v), split g]
  have a1 : gathR 0 p (updG g p v) = gathR 0 p g := gathR_congr fun q _ q2 => by unfold updG; rw [if_neg (by omega)]
  have a2 : gathR (p + 1) (n - p - 1) (updG g p v) = gathR (p + 1) (n - p - 1) g := gathR_congr fun q q1 _ => by unfold updG; rw [if_neg (by omega)]
  have a3 : updG g p v p = v := by unfold updG; rw [if_pos rfl]
  have m1 : ∀ x ∈ gathR 0 p g, x.1 < (p : Int) := fun x hx => by obtain ⟨q, _, q2, q3, _⟩ := gathR_mem hx; omega
  have m2 : ∀ x ∈ gathR (p + 1) (n - p - 1) g, (p : Int) < x.1 := fun x hx => by obtain ⟨q, q1, _, q3, _⟩ := gathR_mem hx; omega
  have f1 : (gathR 0 p g).filter (fun x => decide (x.1 < (p : Int))) = gathR 0 p g := List.filter_eq_self.2 fun x hx => by simpa using m1 x hx
  have f2 : (gathR 0 p g).filter (fun x => decide ((p : Int) < x.1)) = [] := List.filter_eq_nil_iff.2 fun x hx => by have := m1 x hx; simp; omega
  have f3 : (gathR (p + 1) (n - p - 1) g).filter (fun x => decide (x.1 < (p : Int))) = [] := List.filter_eq_nil_iff.2 fun x hx => by have := m2 x hx; simp; omega
  have f4 : (gathR (p + 1) (n - p - 1) g).filter (fun x => decide ((p : Int) < x.1)) = gathR (p + 1) (n - p - 1) g := List.filter_eq_self.2 fun x hx => by simpa using m2 x hx
  rw [a1, a2, a3, List.filter_append, List.filter_append, List.filter_append, List.filter_append, f1, f2, f3, f4]
  cases g p <;> simp
/-- A right vector's items stand at places below its size. -/
theorem right_at {n : Int} {s : Sl It} (h : rightB (n, s) = true) {j : Nat} (hj : j < s.l.length) : 0 ≤ s.l[j].1 ∧ s.l[j].1 < n := by
  simp only [rightB, Bool.and_eq_true] at h
  have := asc_lt h.2 _ (List.getElem_mem hj); omega
theorem right_size {n : Int} {s : Sl It} (h : rightB (n, s) = true) : 0 ≤ n ∧ n ≤ 4096 := by
  simp only [rightB, sizeB, Bool.and_eq_true, decide_eq_true_eq] at h; omega
theorem sure_id {v : Int × Sl It} (h : rightB v = true) : sureV v = v := by unfold sureV; rw [if_pos h]
theorem asc_mono {n : Int} {l : List It} (h : asc (-1) n l = true) {i k : Nat} (hik : i < k) (hk : k < l.length) : l[i].1 < l[k].1 := by
  have key : ∀ d i (hi : i + d + 1 < l.length), l[i].1 < l[i + d + 1].1 := by
    intro d
    induction d with
    | zero => intro i hi; exact ((asc_iff'.1 h) (i + 1) hi).2.2 (by omega)
    | succ d ih => intro i hi; have h1 := ih i (by omega); have h2 := ((asc_iff'.1 h) (i + (d + 1) + 1) hi).2.2 (by omega); simp only [Nat.add_sub_cancel] at h2; exact Int.lt_trans h1 h2
  have := key (k - i - 1) i (by omega)
  simp only [show i + (k - i - 1) + 1 = k by omega] at this
  exact this
def ltF (p : Nat) (l : List It) : List It := l.filter fun x => decide (x.1 < (p : Int))
def gtF (p : Nat) (l : List It) : List It := l.filter fun x => decide ((p : Int) < x.1)
theorem ltF_take {p : Nat} {l : List It} {j : Nat} (hj : j < l.length) : ltF p (l.take (j + 1)) = ltF p (l.take j) ++ (if decide (l[j].1 < (p : Int)) = true then [l[j]] else []) := filter_take _ l hj
theorem gtF_take {p : Nat} {l : List It} {j : Nat} (hj : j < l.length) : gtF p (l.take (j + 1)) = gtF p (l.take j) ++ (if decide ((p : Int) < l[j].1) = true then [l[j]] else []) := filter_take _ l hj
theorem ltF_len (p : Nat) (l : List It) (j : Nat) : (ltF p (l.take j)).length ≤ j := by
  have := List.length_filter_le (fun x : It => decide (x.1 < (p : Int))) (l.take j)
  have h3 : (l.take j).length ≤ j := by simp; omega
  exact Nat.le_trans this h3
theorem gtF_len (p : Nat) (l : List It) (j : Nat) : (gtF p (l.take j)).length ≤ j := by
  have := List.length_filter_le (fun x : It => decide ((p : Int) < x.1)) (l.take j)
  have h3 : (l.take j).length ≤ j := by simp; omega
  exact Nat.le_trans this h3
theorem ref09_Put_eq (n : Int) (s : Sl It) (p : Nat) (x : Int) (g : Nat → Option Int) (hok : okS 2 s) (h0 : 0 ≤ n) (h1 : n ≤ 4096) (hg : s.l = vecG n.toNat g) (hp : p < n.toNat) : ref09_Put (n, s) (p : Int) x = some (n, mo 2 (vecG n.toNat (updG g p (some x)))) := by
  have hr : rightB (n, s) = true := right_vecG h0 h1 hg
  have hlen : s.l.length ≤ 4096 := right_len hr
  have hasc : asc (-1) n s.l = true := by simp only [rightB, Bool.and_eq_true] at hr; exact hr.2
  unfold ref09_Put
  simp only [ref09_Sure_eq (n, s) hok (show s.l.length ≤ _ by omega), sure_id hr, Option.bind_some]
  rw [if_neg (by omega), if_neg (by omega)]
  obtain ⟨q, q1, q2⟩ := loop_up (b := ref09_Put_b3 (p : Int) x s) s.l.length (fun j a => (a = (false, (j : Int), ltF p (s.l.take j)) ∧ gtF p (s.l.take j) = [] ∧ ∀ y ∈ s.l.take j, y.1 < (p : Int)) ∨ (a = (true, (j : Int), ltF p (s.l.take j) ++ ((p : Int), x) :: gtF p (s.l.take j)) ∧ ∀ i (hi : i < s.l.length), j ≤ i → (p : Int) < s.l[i].1)) (fun q => (q = .inl (false, ltF p s.l) ∧ gtF p s.l = []) ∨ q = .inl (true, ltF p s.l ++ ((p : Int), x) :: gtF p s.l))
    (by
      rintro j a hj ha
      have hb1 := ltF_len p s.l j
      have hb2 := gtF_len p s.l j
      have hl := ltF_take (p := p) hj
      have hgt := gtF_take (p := p) hj
      rcases ha with ⟨rfl, ha, hall⟩ | ⟨rfl, ha⟩
      · simp only [ref09_Put_b3, at_get hok hj, Option.bind_some, w_succ hj (by omega)]
        rw [if_pos (by omega)]
        simp only [Bool.false_eq_true, if_false]
        by_cases c : s.l[j].1 ≥ (p : Int)
        · rw [if_pos c]
          rw [if_neg (by simp; omega), List.append_nil] at hl
          have hafter : ∀ i (hi : i < s.l.length), j + 1 ≤ i → (p : Int) < s.l[i].1 := fun i hi hij => by have := asc_mono hasc (i := j) (k := i) (by omega) hi; omega
          have ap1 : app (ltF p (s.l.take j)) [((p : Int), x)] = some (ltF p (s.l.take j) ++ [((p : Int), x)]) := app_ok (by simp; unfold bound; omega)
          simp only [ap1, Option.bind_some]
          by_cases c2 : s.l[j].1 ≠ (p : Int)
          · rw [if_pos c2]
            rw [if_pos (by simp; omega), ha, List.nil_append] at hgt
            have ap2 : app (ltF p (s.l.take j) ++ [((p : Int), x)]) [(s.l[j].1, s.l[j].2)] = some ((ltF p (s.l.take j) ++ [((p : Int), x)]) ++ [(s.l[j].1, s.l[j].2)]) := app_ok (by simp; unfold bound; omega)
            simp only [ap2, Option.bind_some]
            refine .inl ⟨_, rfl, .inr ⟨?_, hafter⟩⟩
            rw [hl, hgt]; simp
          · rw [if_neg c2]
            rw [if_neg (by simp; omega), ha, List.nil_append] at hgt
            refine .inl ⟨_, rfl, .inr ⟨?_, hafter⟩⟩
            rw [hl, hgt]
        · rw [if_neg c, if_pos (show s.l[j].1 ≠ (p : Int) by omega)]
          rw [if_pos (by simp; omega)] at hl
          rw [if_neg (by simp; omega), List.append_nil] at hgt
          have ap1 : app (ltF p (s.l.take j)) [(s.l[j].1, s.l[j].2)] = some (ltF p (s.l.take j) ++ [(s.l[j].1, s.l[j].2)]) := app_ok (by simp; unfold bound; omega)
          simp only [ap1, Option.bind_some]
          refine .inl ⟨_, rfl, .inl ⟨?_, by rw [hgt, ha], fun y hy => ?_⟩⟩
          · rw [hl]
          · rw [List.take_succ_eq_append_getElem hj] at hy
            rcases List.mem_append.1 hy with hy | hy
            · exact hall y hy
            · simp at hy; subst hy; omega
      · have hj' := ha j hj (Nat.le_refl _)
        simp only [ref09_Put_b3, at_get hok hj, Option.bind_some, w_succ hj (by omega)]
        rw [if_pos (by omega), if_pos trivial, if_pos (show s.l[j].1 ≠ (p : Int) by omega)]
        rw [if_neg (by simp; omega), List.append_nil] at hl
        rw [if_pos (by simp; omega)] at hgt
        have ap1 : app (ltF p (s.l.take j) ++ ((p : Int), x) :: gtF p (s.l.take j)) [(s.l[j].1, s.l[j].2)] = some ((ltF p (s.l.take j) ++ ((p : Int), x) :: gtF p (s.l.take j)) ++ [(s.l[j].1, s.l[j].2)]) := app_ok (by simp; unfold bound; omega)
        simp only [ap1, Option.bind_some]
        refine .inl ⟨_, rfl, .inr ⟨?_, fun i hi hij => ha i hi (by omega)⟩⟩
        rw [hl, hgt]; simp)
    (by
      rintro a (⟨rfl, ha, hall⟩ | ⟨rfl, ha⟩)
      · refine ⟨_, if_neg (by omega), .inl ⟨?_, ?_⟩⟩
        · rw [List.take_length]
        · rw [List.take_length] at ha; exact ha
      · refine ⟨_, if_neg (by omega), .inr ?_⟩
        rw [List.take_length]) 0 (Nat.zero_le _) (false, 0, []) (.inl ⟨rfl, rfl, fun y hy => by simp at hy⟩)
  rw [q1]
  have e := vecG_put hp g (some x)
  rw [← hg] at e
  have hb1 := ltF_len p s.l s.l.length
  rw [List.take_length] at hb1
  rcases q2 with ⟨rfl, hgn⟩ | rfl
  · simp only [Option.bind_some, Sum.elim_inl, Bool.false_eq_true, if_false]
    have ap1 : app (ltF p s.l) [((p : Int), x)] = some (ltF p s.l ++ [((p : Int), x)]) := app_ok (by simp; unfold bound; omega)
    rw [ap1, e]
    have : (s.l.filter fun x => decide ((p : Int) < x.1)) = [] := hgn
    rw [this]; rfl
  · simp only [Option.bind_some, Sum.elim_inl, if_true]
    rw [e]; rfl

/-- Vectors of the same items are told to be the same. -/
theorem sameItems_eq (s s' : Sl It) (hok : okS 2 s) (hok' : okS 2 s') (he : s.l = s'.l) (hl : s.l.length ≤ 9223372036854775807) : ref07_SameItems s s' = some true := by
  unfold ref07_SameItems
  rw [if_neg (by rw [he]; simp)]
  obtain ⟨q, h1, h2⟩ := loop_up (b := ref07_SameItems_b1 s s') s.l.length (fun j a => a = (j : Int)) (fun q => q = .inl ())
    (by
      rintro j _ hj rfl
      have hj' : j < s'.l.length := by rw [← he]; exact hj
      have e2 : s'.l[j] = s.l[j] := by simp only [he]
      simp only [ref07_SameItems_b1, at_get hok hj, at_get hok' hj', e2, Option.bind_some, w_succ hj (by omega)]
      rw [if_pos (by omega)]
      exact .inl ⟨_, if_pos (by simp), rfl⟩)
    (by
      rintro _ rfl
      exact ⟨_, if_neg (by omega), rfl⟩) 0 (Nat.zero_le _) 0 rfl
  subst h2
  rw [h1]; rfl
theorem same_eq (v v' : Int × Sl It) (hok : okS 2 v.2) (hok' : okS 2 v'.2) (hn : v.1 = v'.1) (he : v.2.l = v'.2.l) (hl : v.2.l.length ≤ 9223372036854775807) : ref09_Same v v' = some true := by
  obtain ⟨n, s⟩ := v
  obtain ⟨n', s'⟩ := v'
  simp only at hn he hok hok' hl
  unfold ref09_Same
  simp only [if_pos hn, sameItems_eq s s' hok hok' he hl, Option.bind_some]
theorem asc_low {n : Int} {l : List It} {a b : Int} (hab : a ≤ b) (h : asc b n l = true) : asc a n l = true := by
  cases l with
  | nil => rfl
  | cons x l =>
    simp only [asc, Bool.and_eq_true, decide_eq_true_eq] at h ⊢
    exact ⟨⟨by omega, h.1.2⟩, h.2⟩
theorem wide_Narrow_eq (a : Int × Int) : wide_Narrow a = some (narrowW a) := by
  obtain ⟨a1, a2⟩ := a
  unfold wide_Narrow narrowW
  simp only [wide_Of_eq (i64_wrap a2), Option.bind_some]
  by_cases h : (a1, a2) = ofW (IntKind.i64.wrap a2)
  · have h' : a1 = (ofW (IntKind.i64.wrap a2)).1 ∧ a2 = (ofW (IntKind.i64.wrap a2)).2 := ⟨congrArg Prod.fst h, congrArg Prod.snd h⟩
    rw [if_pos h, if_pos h']
  · have h' : ¬ (a1 = (ofW (IntKind.i64.wrap a2)).1 ∧ a2 = (ofW (IntKind.i64.wrap a2)).2) := fun hh => h (Prod.ext hh.1 hh.2)
    rw [if_neg h, if_neg h']
theorem FL_eq3 : FL = some true := rfl
theorem i64_id {n : Int} (h : i64r n) : IntKind.i64.wrap (IntKind.u64.wrap n) = n := by rw [wrap_u64, IntKind.wrap_i64]; unfold i64r at h; omega
theorem narrow_of {n : Int} (h : i64r n) : narrowW (ofW n) = (n, true) := by
  unfold narrowW
  have e : IntKind.i64.wrap (ofW n).2 = n := i64_id h
  rw [e, if_pos rfl]
theorem blend_sure_eq (v : Int × Sl It) (hok : okS 2 v.2) (hl : v.2.l.length ≤ 9223372036854775807) : blend_sure v = some (sureV v) := by
  obtain ⟨n, s⟩ := v
  unfold blend_sure sureV
  simp only [spvec_Right_eq (n, s) hok hl, Option.bind_some]
  split <;> rfl
theorem at0 {s : Sl It} (hok : okS 2 s) {x : It} {l : List It} (h : s.l = x :: l) : atS 2 s 0 = some x := by
  have := at_get hok (show 0 < s.l.length by rw [h]; simp)
  simpa [h] using this
theorem cut1 {s : Sl It} (hok : okS 2 s) {x : It} {l : List It} (h : s.l = x :: l) : cutS 2 s 1 ((s.l.length : Nat) : Int) = some ⟨s.nn, s.sz, l⟩ := by
  unfold cutS
  have hz : s.sz = 2 := hok.resolve_left (by rw [h]; simp)
  rw [if_pos ⟨by omega, by rw [h]; simp; omega, by omega, by first | exact .inl hz | exact .inr hz | simp [hz]⟩]
  simp [h]
theorem ok_cut {s : Sl It} (hok : okS 2 s) {x : It} {l : List It} (h : s.l = x :: l) : okS 2 (⟨s.nn, s.sz, l⟩ : Sl It) := .inr (hok.resolve_left (by rw [h]; simp))
/-- The first place at which one of two lists has something, what they have there, and the rests. -/
def hd : List It → List It → Int × Option Int × Option Int × List It × List It
  | [], [] => (0, none, none, [], [])
  | x :: l, [] => (x.1, some x.2, none, l, [])
  | [], y :: m => (y.1, none, some y.2, [], m)
  | x :: l, y :: m => if x.1 ≤ y.1 then (if y.1 ≤ x.1 then (y.1, some x.2, some y.2, l, m) else (x.1, some x.2, none, l, y :: m)) else (y.1, none, some y.2, x :: l, m)
theorem hd_len {l m : List It} (h : ¬ (l = [] ∧ m = [])) : (hd l m).2.2.2.1.length + (hd l m).2.2.2.2.length < l.length + m.length := by
  cases l with
  | nil =>
    cases m with
    | nil => simp at h
    | cons y m => simp [hd]
  | cons x l =>
    cases m with
    | nil => simp [hd]
    | cons y m =>
      simp only [hd]
      split
      · split <;> simp <;> omega
      · simp
/-- Pairs put together: `none`: over; `some none`: left out. -/
def mrgN (f : Option Int → Option Int → Option (Option Int)) : Nat → List It → List It → Option (List It)
  | 0, _, _ => some []
  | k + 1, l, m =>
    if l.isEmpty && m.isEmpty then some [] else
    match f (hd l m).2.1 (hd l m).2.2.1 with
    | none => none
    | some none => mrgN f k (hd l m).2.2.2.1 (hd l m).2.2.2.2
    | some (some v) => (mrgN f k (hd l m).2.2.2.1 (hd l m).2.2.2.2).map fun r => ((hd l m).1, v) :: r
def mrg (f : Option Int → Option Int → Option (Option Int)) (l m : List It) : Option (List It) := mrgN f (l.length + m.length) l m
abbrev MR := List It ⊕ (List It ⊕ Empty)
/-- A round of a loop over pairs. -/
def MStep (f : Option Int → Option Int → Option (Option Int)) (b : Sl It × Sl It × List It → Option ((Sl It × Sl It × List It) ⊕ MR)) (s t : Sl It) (o : List It) : Prop :=
  match f (hd s.l t.l).2.1 (hd s.l t.l).2.2.1 with
  | none => ∃ o', b (s, t, o) = some (.inr (.inl o'))
  | some none => ∃ s' t', b (s, t, o) = some (.inl (s', t', o)) ∧ s'.l = (hd s.l t.l).2.2.2.1 ∧ t'.l = (hd s.l t.l).2.2.2.2 ∧ okS 2 s' ∧ okS 2 t'
  | some (some v) => ∃ s' t', b (s, t, o) = some (.inl (s', t', o ++ [((hd s.l t.l).1, v)])) ∧ s'.l = (hd s.l t.l).2.2.2.1 ∧ t'.l = (hd s.l t.l).2.2.2.2 ∧ okS 2 s' ∧ okS 2 t'
theorem hd_vals {Q : Int → Prop} {l m : List It} (hl : ∀ x ∈ l, Q x.2) (hm : ∀ x ∈ m, Q x.2) : (∀ x ∈ (hd l m).2.2.2.1, Q x.2) ∧ (∀ x ∈ (hd l m).2.2.2.2, Q x.2) ∧ (∀ x, (hd l m).2.1 = some x → Q x) ∧ ∀ x, (hd l m).2.2.1 = some x → Q x := by
  cases l with
  | nil =>
    cases m with
    | nil => simp [hd]
    | cons y m => exact ⟨by simp [hd], fun x hx => hm x (List.mem_cons_of_mem _ hx), by simp [hd], fun x hx => by simp [hd] at hx; subst hx; exact hm y List.mem_cons_self⟩
  | cons x l =>
    have a1 := hl x List.mem_cons_self
    have a2 : ∀ z ∈ l, Q z.2 := fun z hz => hl z (List.mem_cons_of_mem _ hz)
    cases m with
    | nil => exact ⟨fun z hz => a2 z hz, by simp [hd], fun z hz => by simp [hd] at hz; subst hz; exact a1, by simp [hd]⟩
    | cons y m =>
      have b1 := hm y List.mem_cons_self
      have b2 : ∀ z ∈ m, Q z.2 := fun z hz => hm z (List.mem_cons_of_mem _ hz)
      simp only [hd]
      split
      · split
        · exact ⟨a2, b2, fun z hz => by simp at hz; subst hz; exact a1, fun z hz => by simp at hz; subst hz; exact b1⟩
        · exact ⟨a2, hm, fun z hz => by simp at hz; subst hz; exact a1, by simp⟩
      · exact ⟨hl, b2, by simp, fun z hz => by simp at hz; subst hz; exact b1⟩
theorem mrg_loop {f : Option Int → Option Int → Option (Option Int)} {Q : Int → Prop} {b : Sl It × Sl It × List It → Option ((Sl It × Sl It × List It) ⊕ MR)} (h0 : ∀ s t o, s.l = [] → t.l = [] → b (s, t, o) = some (.inr (.inr (.inl o))))
    (hs : ∀ s t o, okS 2 s → okS 2 t → (∀ x ∈ s.l, Q x.2) → (∀ x ∈ t.l, Q x.2) → ¬ (s.l = [] ∧ t.l = []) → o.length ≤ 100000 → MStep f b s t o) :
    ∀ (k : Nat) (s t : Sl It) (o : List It), s.l.length + t.l.length ≤ k → okS 2 s → okS 2 t → (∀ x ∈ s.l, Q x.2) → (∀ x ∈ t.l, Q x.2) → o.length + k ≤ 100000 →
      (mrgN f k s.l t.l = none ∧ ∃ o', loopO b (s, t, o) = some (.inl o')) ∨ ∃ r, mrgN f k s.l t.l = some r ∧ loopO b (s, t, o) = some (.inr (.inl (o ++ r)))
  | 0, s, t, o, hk, h1, h2, q1, q2, ho => by
    have e1 : s.l = [] := List.length_eq_zero_iff.1 (by omega)
    have e2 : t.l = [] := List.length_eq_zero_iff.1 (by omega)
    exact .inr ⟨[], rfl, by rw [loopO_done (h0 s t o e1 e2), List.append_nil]⟩
  | k + 1, s, t, o, hk, h1, h2, q1, q2, ho => by
    by_cases he : s.l = [] ∧ t.l = []
    · refine .inr ⟨[], ?_, by rw [loopO_done (h0 s t o he.1 he.2), List.append_nil]⟩
      unfold mrgN; rw [he.1, he.2]; rfl
    · have hm := hs s t o h1 h2 q1 q2 he (by omega)
      have hl := hd_len he
      have hv := hd_vals q1 q2
      unfold MStep at hm
      have hu : mrgN f (k + 1) s.l t.l = (match f (hd s.l t.l).2.1 (hd s.l t.l).2.2.1 with
          | none => none
          | some none => mrgN f k (hd s.l t.l).2.2.2.1 (hd s.l t.l).2.2.2.2
          | some (some v) => (mrgN f k (hd s.l t.l).2.2.2.1 (hd s.l t.l).2.2.2.2).map fun r => ((hd s.l t.l).1, v) :: r) := by
        show (if (s.l.isEmpty && t.l.isEmpty) = true then _ else _) = _
        rw [if_neg (by simpa [List.isEmpty_iff] using he)]
      rw [hu]
      cases hf : f (hd s.l t.l).2.1 (hd s.l t.l).2.2.1 with
      | none =>
        rw [hf] at hm
        obtain ⟨o', e⟩ := hm
        exact .inl ⟨rfl, o', loopO_done e⟩
      | some w =>
        rw [hf] at hm
        cases w with
        | none =>
          obtain ⟨s', t', e, e1, e2, e3, e4⟩ := hm
          rw [loopO_step e]
          have := mrg_loop h0 hs k s' t' o (by rw [e1, e2]; omega) e3 e4 (by rw [e1]; exact hv.1) (by rw [e2]; exact hv.2.1) (by omega)
          rw [e1, e2] at this
          exact this
        | some v =>
          obtain ⟨s', t', e, e1, e2, e3, e4⟩ := hm
          rw [loopO_step e]
          have := mrg_loop h0 hs k s' t' (o ++ [((hd s.l t.l).1, v)]) (by rw [e1, e2]; omega) e3 e4 (by rw [e1]; exact hv.1) (by rw [e2]; exact hv.2.1) (by simp; omega)
          rw [e1, e2] at this
          rcases this with ⟨g1, g2⟩ | ⟨r, g1, g2⟩
          · exact .inl ⟨by rw [g1]; rfl, g2⟩
          · exact .inr ⟨_, by rw [g1]; rfl, by rw [g2, List.append_assoc]; rfl⟩
theorem getI_lt {n : Int} {l : List It} {a p : Int} (h : asc a n l = true) (hp : p ≤ a) : getI p l = none := getI_none fun x hx => by have := asc_lt h x hx; omega
theorem hd_spec {n a : Int} {l m : List It} (hl : asc a n l = true) (hm : asc a n m = true) (h : ¬ (l = [] ∧ m = [])) :
    a < (hd l m).1 ∧ (hd l m).1 < n ∧ (hd l m).2.1 = getI (hd l m).1 l ∧ (hd l m).2.2.1 = getI (hd l m).1 m ∧ asc (hd l m).1 n (hd l m).2.2.2.1 = true ∧ asc (hd l m).1 n (hd l m).2.2.2.2 = true ∧
    (∀ q, q ≠ (hd l m).1 → getI q l = getI q (hd l m).2.2.2.1 ∧ getI q m = getI q (hd l m).2.2.2.2) ∧ ∀ q, q < (hd l m).1 → getI q l = none ∧ getI q m = none := by
  cases l with
  | nil =>
    cases m with
    | nil => simp at h
    | cons y m =>
      simp only [asc, Bool.and_eq_true, decide_eq_true_eq] at hm
      refine ⟨hm.1.1, hm.1.2, rfl, by simp [hd, getI], rfl, hm.2, fun q hq => ⟨rfl, ?_⟩, fun q hq => ⟨rfl, ?_⟩⟩
      · simp only [hd] at hq; simp only [hd, getI]; rw [if_neg (fun e => hq e.symm)]
      · simp only [hd] at hq
        refine getI_none fun x hx => ?_
        rcases List.mem_cons.1 hx with rfl | hx
        · omega
        · have := asc_lt hm.2 x hx; omega
  | cons x l =>
    simp only [asc, Bool.and_eq_true, decide_eq_true_eq] at hl
    have nl : ∀ q, q < x.1 → getI q (x :: l) = none := fun q hq => getI_none fun z hz => by
      rcases List.mem_cons.1 hz with rfl | hz
      · omega
      · have := asc_lt hl.2 z hz; omega
    cases m with
    | nil =>
      refine ⟨hl.1.1, hl.1.2, by simp [hd, getI], rfl, hl.2, rfl, fun q hq => ⟨?_, rfl⟩, fun q hq => ⟨nl q hq, rfl⟩⟩
      simp only [hd] at hq; simp only [hd, getI]; rw [if_neg (fun e => hq e.symm)]
    | cons y m =>
      have hm0 := hm
      simp only [asc, Bool.and_eq_true, decide_eq_true_eq] at hm
      have nm : ∀ q, q < y.1 → getI q (y :: m) = none := fun q hq => getI_none fun z hz => by
        rcases List.mem_cons.1 hz with rfl | hz
        · omega
        · have := asc_lt hm.2 z hz; omega
      simp only [hd]
      by_cases c1 : x.1 ≤ y.1
      · rw [if_pos c1]
        by_cases c2 : y.1 ≤ x.1
        · rw [if_pos c2]
          have e : x.1 = y.1 := by omega
          refine ⟨hm.1.1, hm.1.2, by simp only [getI]; rw [if_pos e], by simp [getI], by rw [← e]; exact hl.2, hm.2, fun q hq => ⟨?_, ?_⟩, fun q hq => ⟨nl q (by simp only at hq; omega), nm q hq⟩⟩
          · simp only [getI]; rw [if_neg (by simp only at hq; omega)]
          · simp only [getI]; rw [if_neg (by simp only at hq; omega)]
        · rw [if_neg c2]
          refine ⟨hl.1.1, hl.1.2, by simp [getI], (nm _ (by omega)).symm, hl.2, ?_, fun q hq => ⟨?_, rfl⟩, fun q hq => ⟨nl q hq, nm q (by simp only at hq; omega)⟩⟩
          · simp only [asc, Bool.and_eq_true, decide_eq_true_eq]; exact ⟨⟨by omega, hm.1.2⟩, hm.2⟩
          · simp only [getI]; rw [if_neg (by simp only at hq; omega)]
      · rw [if_neg c1]
        refine ⟨hm.1.1, hm.1.2, (nl _ (by omega)).symm, by simp [getI], ?_, hm.2, fun q hq => ⟨rfl, ?_⟩, fun q hq => ⟨nl q (by simp only at hq; omega), nm q hq⟩⟩
        · simp only [asc, Bool.and_eq_true, decide_eq_true_eq]; exact ⟨⟨by omega, hl.1.2⟩, hl.2⟩
        · simp only [getI]; rw [if_neg (by simp only at hq; omega)]
theorem mrg_spec {f : Option Int → Option Int → Option (Option Int)} (f0 : f none none = some none) {n : Int} : ∀ (k : Nat) {a : Int} {l m : List It}, l.length + m.length ≤ k → asc a n l = true → asc a n m = true →
    (mrgN f k l m = none → ∃ p, f (getI p l) (getI p m) = none) ∧ ∀ r, mrgN f k l m = some r → asc a n r = true ∧ ∀ p, f (getI p l) (getI p m) = some (getI p r)
  | 0, a, l, m, hk, hl, hm => by
    have e1 : l = [] := List.length_eq_zero_iff.1 (by omega)
    have e2 : m = [] := List.length_eq_zero_iff.1 (by omega)
    subst e1 e2
    exact ⟨fun h => by simp [mrgN] at h, fun r h => by simp only [mrgN, Option.some.injEq] at h; subst h; exact ⟨rfl, fun p => f0⟩⟩
  | k + 1, a, l, m, hk, hl, hm => by
    by_cases he : l = [] ∧ m = []
    · obtain ⟨rfl, rfl⟩ := he
      exact ⟨fun h => by simp [mrgN] at h, fun r h => by simp only [mrgN, List.isEmpty_nil, Bool.and_self, ite_true, Option.some.injEq] at h; subst h; exact ⟨rfl, fun p => f0⟩⟩
    · obtain ⟨s1, s2, s3, s4, s5, s6, s7, s8⟩ := hd_spec hl hm he
      have hlen := hd_len he
      have ih := mrg_spec f0 k (a := (hd l m).1) (l := (hd l m).2.2.2.1) (m := (hd l m).2.2.2.2) (by omega) s5 s6
      have hu : mrgN f (k + 1) l m = (match f (hd l m).2.1 (hd l m).2.2.1 with
          | none => none
          | some none => mrgN f k (hd l m).2.2.2.1 (hd l m).2.2.2.2
          | some (some v) => (mrgN f k (hd l m).2.2.2.1 (hd l m).2.2.2.2).map fun r => ((hd l m).1, v) :: r) := by
        show (if (l.isEmpty && m.isEmpty) = true then _ else _) = _
        rw [if_neg (by simpa [List.isEmpty_iff] using he)]
      rw [hu]
      have back : ∀ p, f (getI p (hd l m).2.2.2.1) (getI p (hd l m).2.2.2.2) = none → f (getI p l) (getI p m) = none := fun p hp => by
        by_cases hq : p = (hd l m).1
        · rw [hq, getI_lt s5 (Int.le_refl _), getI_lt s6 (Int.le_refl _), f0] at hp; simp at hp
        · rw [(s7 p hq).1, (s7 p hq).2]; exact hp
      have fore : ∀ {r : List It}, asc (hd l m).1 n r = true → (∀ p, f (getI p (hd l m).2.2.2.1) (getI p (hd l m).2.2.2.2) = some (getI p r)) → ∀ p, p ≠ (hd l m).1 → f (getI p l) (getI p m) = some (getI p r) := fun hr h p hp => by
        rw [(s7 p hp).1, (s7 p hp).2]; exact h p
      cases hf : f (hd l m).2.1 (hd l m).2.2.1 with
      | none =>
        refine ⟨fun _ => ⟨(hd l m).1, by rw [← s3, ← s4]; exact hf⟩, fun r h => by simp at h⟩
      | some w =>
        cases w with
        | none =>
          refine ⟨fun h => let ⟨p, hp⟩ := ih.1 h; ⟨p, back p hp⟩, fun r h => ?_⟩
          obtain ⟨h1, h2⟩ := ih.2 r h
          refine ⟨asc_low (by omega) h1, fun p => ?_⟩
          by_cases hp : p = (hd l m).1
          · rw [hp, ← s3, ← s4, hf, getI_lt h1 (Int.le_refl _)]
          · exact fore h1 h2 p hp
        | some v =>
          refine ⟨fun h => ?_, fun r h => ?_⟩
          · simp only [Option.map_eq_none_iff] at h
            obtain ⟨p, hp⟩ := ih.1 h
            exact ⟨p, back p hp⟩
          · simp only [Option.map_eq_some_iff] at h
            obtain ⟨r', h0, rfl⟩ := h
            obtain ⟨h1, h2⟩ := ih.2 r' h0
            refine ⟨by simp only [asc, Bool.and_eq_true, decide_eq_true_eq]; exact ⟨⟨s1, s2⟩, h1⟩, fun p => ?_⟩
            by_cases hp : p = (hd l m).1
            · rw [hp, ← s3, ← s4, hf]; simp [getI]
            · rw [fore h1 h2 p hp]; simp only [getI]; rw [if_neg (fun e => hp e.symm)]
/-- Rising lists that have the same are the same. -/
theorem asc_ext {n : Int} {l m : List It} (h0 : 0 ≤ n) (hl : asc (-1) n l = true) (hm : asc (-1) n m = true) (h : ∀ p : Nat, getI (p : Int) l = getI (p : Int) m) : l = m := by
  have e1 := asc_gath (a := 0) (k := n.toNat) (by simpa using hl) (by omega)
  have e2 := asc_gath (a := 0) (k := n.toNat) (by simpa using hm) (by omega)
  rw [e1, e2]
  exact gathR_congr fun p _ _ => h p
abbrev tlS (s : Sl It) (l : List It) : Sl It := ⟨s.nn, s.sz, l⟩
def outM (q : Option (Option Int)) (p : Int) (s t : Sl It) (o : List It) : Option ((Sl It × Sl It × List It) ⊕ MR) :=
  match q with
  | none => some (.inr (.inl o))
  | some none => some (.inl (s, t, o))
  | some (some v) => some (.inl (s, t, o ++ [(p, v)]))
theorem MStep_of {f : Option Int → Option Int → Option (Option Int)} {b : Sl It × Sl It × List It → Option ((Sl It × Sl It × List It) ⊕ MR)} {s t s' t' : Sl It} {o : List It} (e : b (s, t, o) = outM (f (hd s.l t.l).2.1 (hd s.l t.l).2.2.1) (hd s.l t.l).1 s' t' o)
    (e1 : s'.l = (hd s.l t.l).2.2.2.1) (e2 : t'.l = (hd s.l t.l).2.2.2.2) (h1 : okS 2 s') (h2 : okS 2 t') : MStep f b s t o := by
  unfold MStep
  unfold outM at e
  split
  · rename_i h; rw [h] at e; exact ⟨_, e⟩
  · rename_i h; rw [h] at e; exact ⟨_, _, e, e1, e2, h1, h2⟩
  · rename_i v h; rw [h] at e; exact ⟨_, _, e, e1, e2, h1, h2⟩
theorem nil_or {α : Type} (l : List α) : l = [] ∨ ∃ x m, l = x :: m := by cases l with | nil => exact .inl rfl | cons x m => exact .inr ⟨x, m, rfl⟩
theorem MStep_cases {f : Option Int → Option Int → Option (Option Int)} {b : Sl It × Sl It × List It → Option ((Sl It × Sl It × List It) ⊕ MR)} {s t : Sl It} {o : List It} (h1 : okS 2 s) (h2 : okS 2 t) (he : ¬ (s.l = [] ∧ t.l = []))
    (hA : ∀ x l, s.l = x :: l → t.l = [] → b (s, t, o) = outM (f (some x.2) none) x.1 (tlS s l) t o)
    (hE : ∀ y m, s.l = [] → t.l = y :: m → b (s, t, o) = outM (f none (some y.2)) y.1 s (tlS t m) o)
    (hB : ∀ x l y m, s.l = x :: l → t.l = y :: m → x.1 ≤ y.1 → y.1 ≤ x.1 → b (s, t, o) = outM (f (some x.2) (some y.2)) y.1 (tlS s l) (tlS t m) o)
    (hC : ∀ x l y m, s.l = x :: l → t.l = y :: m → x.1 ≤ y.1 → ¬ y.1 ≤ x.1 → b (s, t, o) = outM (f (some x.2) none) x.1 (tlS s l) t o)
    (hD : ∀ x l y m, s.l = x :: l → t.l = y :: m → ¬ x.1 ≤ y.1 → b (s, t, o) = outM (f none (some y.2)) y.1 s (tlS t m) o) : MStep f b s t o := by
  rcases nil_or s.l with hs | ⟨x, l, hs⟩
  · rcases nil_or t.l with ht | ⟨y, m, ht⟩
    · exact absurd ⟨hs, ht⟩ he
    · exact MStep_of (s' := s) (t' := tlS t m) (by rw [hE y m hs ht, hs, ht]; rfl) (by rw [hs, ht]; rfl) (by rw [hs, ht]; rfl) h1 (ok_cut h2 ht)
  · rcases nil_or t.l with ht | ⟨y, m, ht⟩
    · exact MStep_of (s' := tlS s l) (t' := t) (by rw [hA x l hs ht, hs, ht]; rfl) (by rw [hs, ht]; rfl) (by rw [hs, ht]; rfl) (ok_cut h1 hs) h2
    · by_cases c1 : x.1 ≤ y.1
      · by_cases c2 : y.1 ≤ x.1
        · have hh : hd s.l t.l = (y.1, some x.2, some y.2, l, m) := by rw [hs, ht]; show (if _ then _ else _) = _; rw [if_pos c1, if_pos c2]
          exact MStep_of (s' := tlS s l) (t' := tlS t m) (by rw [hB x l y m hs ht c1 c2, hh]) (by rw [hh]) (by rw [hh]) (ok_cut h1 hs) (ok_cut h2 ht)
        · have hh : hd s.l t.l = (x.1, some x.2, none, l, y :: m) := by rw [hs, ht]; show (if _ then _ else _) = _; rw [if_pos c1, if_neg c2]
          exact MStep_of (s' := tlS s l) (t' := t) (by rw [hC x l y m hs ht c1 c2, hh]) (by rw [hh]) (by rw [hh, ht]) (ok_cut h1 hs) h2
      · have hh : hd s.l t.l = (y.1, none, some y.2, x :: l, m) := by rw [hs, ht]; show (if _ then _ else _) = _; rw [if_neg c1]
        exact MStep_of (s' := s) (t' := tlS t m) (by rw [hD x l y m hs ht c1, hh]) (by rw [hh, hs]) (by rw [hh]) h1 (ok_cut h2 ht)
theorem len_pos {s : Sl It} {x : It} {l : List It} (h : s.l = x :: l) : ((s.l.length : Nat) : Int) > 0 := by rw [h, List.length_cons]; omega
theorem len_ne {s : Sl It} {x : It} {l : List It} (h : s.l = x :: l) : ¬ ((s.l.length : Nat) : Int) = 0 := by rw [h, List.length_cons]; omega
theorem len_nil {s : Sl It} (h : s.l = []) : ((s.l.length : Nat) : Int) = 0 := by rw [h]; rfl
theorem len_npos {s : Sl It} (h : s.l = []) : ¬ ((s.l.length : Nat) : Int) > 0 := by rw [h]; simp
theorem val_hd {s : Sl It} {x : It} {l : List It} (h : s.l = x :: l) (q : ∀ x ∈ s.l, i64r x.2) : i64r x.2 := q x (by rw [h]; exact List.mem_cons_self)
theorem app_one {o : List It} (ho : o.length ≤ 100000) (z : It) : app o [z] = some (o ++ [z]) := app_ok (by simp; unfold bound; omega)
theorem i64r_0 : i64r 0 := by unfold i64r; omega
def fO : Option Int → Option Int → Option (Option Int)
  | a, none => some a
  | _, some y => some (some y)
def fB : Option Int → Option Int → Option (Option Int)
  | none, _ => some none
  | some x, none => some (some x)
  | some x, some y => if y > x then some (some x) else some none
theorem over_c1_eq (p : Int) {x y : Int} (ha hb : Bool) (hx : i64r x) (hy : i64r y) : blend_Over_c1 (p, x, y, ha, hb) = some (ofW (if hb = true then y else x), true) := by
  unfold blend_Over_c1
  cases hb <;> simp only [wide_Of_eq hx, wide_Of_eq hy, Option.bind_some] <;> rfl
theorem better_c1_eq (p : Int) {x y : Int} (ha hb : Bool) (hx : i64r x) : blend_Better_c1 (p, x, y, ha, hb) = some (ofW x, ha && (!hb || decide (y > x))) := by
  unfold blend_Better_c1
  simp only [wide_Of_eq hx, Option.bind_some]
  cases ha <;> cases hb <;> simp
  split <;> simp_all
theorem Over_step (s t : Sl It) (o : List It) (h1 : okS 2 s) (h2 : okS 2 t) (q1 : ∀ x ∈ s.l, i64r x.2) (q2 : ∀ x ∈ t.l, i64r x.2) (he : ¬ (s.l = [] ∧ t.l = [])) (ho : o.length ≤ 100000) : MStep (fO) (blend_Over_b1) s t o := by
  refine MStep_cases h1 h2 he (fun x l hs ht => ?_) (fun y m hs ht => ?_) (fun x l y m hs ht c1 c2 => ?_) (fun x l y m hs ht c1 c2 => ?_) (fun x l y m hs ht c1 => ?_) <;> unfold blend_Over_b1 <;> simp only
  · have hx := val_hd hs q1
    rw [if_pos (len_pos hs), if_pos (len_nil ht)]
    simp only [at0 h1 hs, cut1 h1 hs, Option.bind_some]
    simp only [over_c1_eq _ _ _ hx i64r_0, Option.bind_some, Bool.false_eq_true, if_false, if_true, wide_Narrow_eq, narrow_of hx, app_one ho]; rfl
  · have hy := val_hd ht q2
    rw [if_neg (len_npos hs), if_pos (len_pos ht)]
    simp only [at0 h2 ht, cut1 h2 ht, Option.bind_some]
    simp only [over_c1_eq _ _ _ i64r_0 hy, Option.bind_some, if_true, wide_Narrow_eq, narrow_of hy, app_one ho]; rfl
  · have hx := val_hd hs q1
    have hy := val_hd ht q2
    rw [if_pos (len_pos hs), if_neg (len_ne ht)]
    simp only [at0 h1 hs, at0 h2 ht, cut1 h1 hs, cut1 h2 ht, Option.bind_some]
    rw [if_pos c1, if_pos c2]
    simp only [over_c1_eq _ _ _ hx hy, Option.bind_some, if_true, wide_Narrow_eq, narrow_of hy, app_one ho]; rfl
  · have hx := val_hd hs q1
    rw [if_pos (len_pos hs), if_neg (len_ne ht)]
    simp only [at0 h1 hs, at0 h2 ht, cut1 h1 hs, cut1 h2 ht, Option.bind_some]
    rw [if_pos c1, if_neg c2]
    simp only [over_c1_eq _ _ _ hx i64r_0, Option.bind_some, Bool.false_eq_true, if_false, if_true, wide_Narrow_eq, narrow_of hx, app_one ho]; rfl
  · have hy := val_hd ht q2
    rw [if_pos (len_pos hs), if_neg (len_ne ht)]
    simp only [at0 h1 hs, at0 h2 ht, cut1 h1 hs, cut1 h2 ht, Option.bind_some]
    rw [if_neg c1]
    simp only [over_c1_eq _ _ _ i64r_0 hy, Option.bind_some, if_true, wide_Narrow_eq, narrow_of hy, app_one ho]; rfl
theorem Over_end (s t : Sl It) (o : List It) (hs : s.l = []) (ht : t.l = []) : blend_Over_b1 (s, t, o) = some (.inr (.inr (.inl o))) := by
  unfold blend_Over_b1
  simp only
  rw [if_neg (len_npos hs), if_neg (len_npos ht)]
theorem Better_step (s t : Sl It) (o : List It) (h1 : okS 2 s) (h2 : okS 2 t) (q1 : ∀ x ∈ s.l, i64r x.2) (q2 : ∀ x ∈ t.l, i64r x.2) (he : ¬ (s.l = [] ∧ t.l = [])) (ho : o.length ≤ 100000) : MStep (fB) (blend_Better_b1) s t o := by
  refine MStep_cases h1 h2 he (fun x l hs ht => ?_) (fun y m hs ht => ?_) (fun x l y m hs ht c1 c2 => ?_) (fun x l y m hs ht c1 c2 => ?_) (fun x l y m hs ht c1 => ?_) <;> unfold blend_Better_b1 <;> simp only
  · have hx := val_hd hs q1
    rw [if_pos (len_pos hs), if_pos (len_nil ht)]
    simp only [at0 h1 hs, cut1 h1 hs, Option.bind_some]
    simp only [better_c1_eq _ _ _ hx, Option.bind_some, Bool.not_false, Bool.true_or, Bool.true_and, Bool.and_self, if_true, wide_Narrow_eq, narrow_of hx, app_one ho]; rfl
  · have hy := val_hd ht q2
    rw [if_neg (len_npos hs), if_pos (len_pos ht)]
    simp only [at0 h2 ht, cut1 h2 ht, Option.bind_some]
    simp only [better_c1_eq _ _ _ i64r_0, Option.bind_some, Bool.false_and, Bool.false_eq_true, if_false]; rfl
  · have hx := val_hd hs q1
    have hy := val_hd ht q2
    rw [if_pos (len_pos hs), if_neg (len_ne ht)]
    simp only [at0 h1 hs, at0 h2 ht, cut1 h1 hs, cut1 h2 ht, Option.bind_some]
    rw [if_pos c1, if_pos c2]
    simp only [better_c1_eq _ _ _ hx, Option.bind_some, Bool.not_true, Bool.false_or, Bool.true_and]; unfold fB; simp only; by_cases hb : y.2 > x.2 <;> simp [hb, wide_Narrow_eq, narrow_of hx, app_one ho, outM]
  · have hx := val_hd hs q1
    rw [if_pos (len_pos hs), if_neg (len_ne ht)]
    simp only [at0 h1 hs, at0 h2 ht, cut1 h1 hs, cut1 h2 ht, Option.bind_some]
    rw [if_pos c1, if_neg c2]
    simp only [better_c1_eq _ _ _ hx, Option.bind_some, Bool.not_false, Bool.true_or, Bool.true_and, Bool.and_self, if_true, wide_Narrow_eq, narrow_of hx, app_one ho]; rfl
  · have hy := val_hd ht q2
    rw [if_pos (len_pos hs), if_neg (len_ne ht)]
    simp only [at0 h1 hs, at0 h2 ht, cut1 h1 hs, cut1 h2 ht, Option.bind_some]
    rw [if_neg c1]
    simp only [better_c1_eq _ _ _ i64r_0, Option.bind_some, Bool.false_and, Bool.false_eq_true, if_false]; rfl
theorem Better_end (s t : Sl It) (o : List It) (hs : s.l = []) (ht : t.l = []) : blend_Better_b1 (s, t, o) = some (.inr (.inr (.inl o))) := by
  unfold blend_Better_b1
  simp only
  rw [if_neg (len_npos hs), if_neg (len_npos ht)]
/-- What a blend comes to. -/
def blendV (f : Option Int → Option Int → Option (Option Int)) (v w : Int × Sl It) : (Int × Sl It) × Int :=
  if (sureV v).1 ≠ (sureV w).1 then ((0, nilS), 4) else match mrg f (sureV v).2.l (sureV w).2.l with
  | none => ((0, nilS), 12)
  | some r => (((sureV v).1, mo 2 r), 0)
theorem sure_vals {v : Int × Sl It} (h : ∀ x ∈ v.2.l, i64r x.2) : ∀ x ∈ (sureV v).2.l, i64r x.2 := by
  unfold sureV
  split
  · exact h
  · intro x hx; simp [nilS] at hx
theorem mrg_end {f : Option Int → Option Int → Option (Option Int)} {b : Sl It × Sl It × List It → Option ((Sl It × Sl It × List It) ⊕ MR)} (h0 : ∀ s t o, s.l = [] → t.l = [] → b (s, t, o) = some (.inr (.inr (.inl o))))
    (hs : ∀ s t o, okS 2 s → okS 2 t → (∀ x ∈ s.l, i64r x.2) → (∀ x ∈ t.l, i64r x.2) → ¬ (s.l = [] ∧ t.l = []) → o.length ≤ 100000 → MStep f b s t o) {v w : Int × Sl It} (hv : okS 2 v.2) (hw : okS 2 w.2) (qv : ∀ x ∈ v.2.l, i64r x.2) (qw : ∀ x ∈ w.2.l, i64r x.2) (hn : (sureV v).1 = (sureV w).1) :
    (loopO b ((sureV v).2, (sureV w).2, [])).bind (Sum.elim (fun _ => some ((0, (⟨false, 0, []⟩ : Sl It)), 12)) (Sum.elim (fun l => some (((sureV v).1, mo 2 l), 0)) (fun u => u.elim))) = some (blendV f v w) := by
  have l1 := sure_len v
  have l2 := sure_len w
  have := mrg_loop h0 hs ((sureV v).2.l.length + (sureV w).2.l.length) (sureV v).2 (sureV w).2 [] (Nat.le_refl _) (sureV_ok hv) (sureV_ok hw) (sure_vals qv) (sure_vals qw) (by simp; omega)
  unfold blendV mrg
  rw [if_neg (fun h => h hn)]
  rcases this with ⟨g1, o', g2⟩ | ⟨r, g1, g2⟩
  · rw [g1, g2]; rfl
  · rw [g1, g2]; rfl
theorem blend_Over_eq (v w : Int × Sl It) (hv : okS 2 v.2) (hw : okS 2 w.2) (lv : v.2.l.length ≤ 9223372036854775807) (lw : w.2.l.length ≤ 9223372036854775807) (qv : ∀ x ∈ v.2.l, i64r x.2) (qw : ∀ x ∈ w.2.l, i64r x.2) : blend_Over v w = some (blendV fO v w) := by
  unfold blend_Over
  simp only
  rw [blend_sure_eq v hv lv]
  simp only [Option.bind_some]
  rw [blend_sure_eq w hw lw]
  simp only [Option.bind_some]
  by_cases hn : (sureV v).1 = (sureV w).1
  · rw [if_neg (fun h => h hn)]
    exact mrg_end Over_end Over_step hv hw qv qw hn
  · rw [if_pos hn]
    unfold blendV; rw [if_pos hn]; rfl
theorem blend_Better_eq (v w : Int × Sl It) (hv : okS 2 v.2) (hw : okS 2 w.2) (lv : v.2.l.length ≤ 9223372036854775807) (lw : w.2.l.length ≤ 9223372036854775807) (qv : ∀ x ∈ v.2.l, i64r x.2) (qw : ∀ x ∈ w.2.l, i64r x.2) : blend_Better v w = some (blendV fB v w) := by
  unfold blend_Better
  simp only
  rw [blend_sure_eq v hv lv]
  simp only [Option.bind_some]
  rw [blend_sure_eq w hw lw]
  simp only [Option.bind_some]
  by_cases hn : (sureV v).1 = (sureV w).1
  · rw [if_neg (fun h => h hn)]
    exact mrg_end Better_end Better_step hv hw qv qw hn
  · rw [if_pos hn]
    unfold blendV; rw [if_pos hn]; rfl
/-- A list has, place by place, what is asked; or at a place nothing can be. -/
def SpecR (f : Option Int → Option Int → Option (Option Int)) (n : Int) (l m : List It) (q : Option (List It)) : Prop :=
  (q = none → ∃ p, f (getI p l) (getI p m) = none) ∧ ∀ r, q = some r → asc (-1) n r = true ∧ ∀ p, f (getI p l) (getI p m) = some (getI p r)
theorem SpecR.uniq {f : Option Int → Option Int → Option (Option Int)} {n : Int} {l m : List It} {q q' : Option (List It)} (h0 : 0 ≤ n) (h : SpecR f n l m q) (h' : SpecR f n l m q') : q = q' := by
  cases q with
  | none =>
    obtain ⟨p, hp⟩ := h.1 rfl
    cases q' with
    | none => rfl
    | some r =>
      have := (h'.2 r rfl).2 p
      rw [hp] at this; simp at this
  | some r =>
    obtain ⟨a, b⟩ := h.2 r rfl
    cases q' with
    | none =>
      obtain ⟨p, hp⟩ := h'.1 rfl
      rw [b p] at hp; simp at hp
    | some r' =>
      obtain ⟨a', b'⟩ := h'.2 r' rfl
      rw [asc_ext h0 a a' fun p => by have := b p; rw [b' p] at this; simpa using this.symm]
theorem mrg_SpecR {f : Option Int → Option Int → Option (Option Int)} (f0 : f none none = some none) {n : Int} {l m : List It} (hl : asc (-1) n l = true) (hm : asc (-1) n m = true) : SpecR f n l m (mrg f l m) := mrg_spec f0 _ (Nat.le_refl _) hl hm
theorem right_asc {v : Int × Sl It} (h : rightB v = true) : asc (-1) v.1 v.2.l = true := by unfold rightB at h; simp only [Bool.and_eq_true] at h; exact h.2
theorem right_sz {v : Int × Sl It} (h : rightB v = true) : 0 ≤ v.1 ∧ v.1 ≤ 4096 := right_size (n := v.1) (s := v.2) h
theorem has_loop (s : Sl It) (p : Int) (hok : okS 2 s) (hl : s.l.length ≤ 9223372036854775807) : ∃ q, loopO (ref11_has_b1 s p) 0 = some q ∧ q = (match getI p s.l with | some x => .inr (x, true) | none => .inl ()) := by
  refine loop_up (b := ref11_has_b1 s p) s.l.length (fun j a => a = (j : Int) ∧ getI p s.l = getI p (s.l.drop j)) _
    (by
      rintro j _ hj ⟨rfl, hg⟩
      have hd := List.drop_eq_getElem_cons hj
      simp only [ref11_has_b1, at_get hok hj, Option.bind_some, w_succ hj hl]
      rw [if_pos (by omega)]
      by_cases c : s.l[j].1 = p
      · refine .inr ⟨_, if_pos c, ?_⟩
        rw [hg, hd]
        simp only [getI]; rw [if_pos c]
      · refine .inl ⟨_, if_neg c, rfl, ?_⟩
        rw [hg, hd]
        simp only [getI]; rw [if_neg c])
    (by
      rintro _ ⟨rfl, hg⟩
      refine ⟨_, if_neg (by omega), ?_⟩
      rw [hg, List.drop_length]; rfl) 0 (Nat.zero_le _) 0 ⟨rfl, by simp⟩
theorem ref11_has_eq (n : Int) (s : Sl It) (p : Int) (hok : okS 2 s) (hl : s.l.length ≤ 9223372036854775807) : ref11_has (n, s) p = some (encO (getI p s.l)) := by
  obtain ⟨q, h1, h2⟩ := has_loop s p hok hl
  unfold ref11_has
  simp only [h1, Option.bind_some]
  subst h2
  cases getI p s.l <;> rfl
def mtI (f : Option Int → Option Int → Option (Option Int)) : List It → List It → Option (List It)
  | [], _ => some []
  | x :: l, m => match f (some x.2) (getI x.1 m) with
    | none => none
    | some none => mtI f l m
    | some (some v) => (mtI f l m).map fun r => (x.1, v) :: r
theorem mtI_cons (f : Option Int → Option Int → Option (Option Int)) (x : It) (l m : List It) : mtI f (x :: l) m = (match f (some x.2) (getI x.1 m) with
    | none => none
    | some none => mtI f l m
    | some (some v) => (mtI f l m).map fun r => (x.1, v) :: r) := rfl
theorem mtI_spec {f : Option Int → Option Int → Option (Option Int)} (f0 : ∀ b, f none b = some none) {n : Int} {m : List It} : ∀ {l : List It} {a : Int}, asc a n l = true →
    (mtI f l m = none → ∃ p, f (getI p l) (getI p m) = none) ∧ ∀ r, mtI f l m = some r → asc a n r = true ∧ ∀ p, f (getI p l) (getI p m) = some (getI p r)
  | [], a, hl => ⟨fun h => by simp [mtI] at h, fun r h => by simp only [mtI, Option.some.injEq] at h; subst h; exact ⟨rfl, fun p => f0 _⟩⟩
  | x :: l, a, hl => by
    simp only [asc, Bool.and_eq_true, decide_eq_true_eq] at hl
    obtain ⟨⟨s1, s2⟩, s5⟩ := hl
    have ih := mtI_spec (m := m) f0 s5
    have gx : getI x.1 (x :: l) = some x.2 := by simp [getI]
    have gn : ∀ p, p ≠ x.1 → getI p (x :: l) = getI p l := fun p hp => by simp only [getI]; rw [if_neg (fun e => hp e.symm)]
    have hx : f (getI x.1 (x :: l)) (getI x.1 m) = f (some x.2) (getI x.1 m) := by rw [gx]
    have back : ∀ p, f (getI p l) (getI p m) = none → f (getI p (x :: l)) (getI p m) = none := fun p hp => by
      by_cases hq : p = x.1
      · rw [hq, getI_lt s5 (Int.le_refl _), f0] at hp; simp at hp
      · rw [gn p hq]; exact hp
    unfold mtI
    cases hf : f (some x.2) (getI x.1 m) with
    | none => exact ⟨fun _ => ⟨x.1, by rw [hx, hf]⟩, fun r h => by simp at h⟩
    | some w =>
      cases w with
      | none =>
        refine ⟨fun h => let ⟨p, hp⟩ := ih.1 h; ⟨p, back p hp⟩, fun r h => ?_⟩
        obtain ⟨h1, h2⟩ := ih.2 r h
        refine ⟨asc_low (by omega) h1, fun p => ?_⟩
        by_cases hp : p = x.1
        · rw [hp, hx, hf, getI_lt h1 (Int.le_refl _)]
        · rw [gn p hp]; exact h2 p
      | some v =>
        refine ⟨fun h => ?_, fun r h => ?_⟩
        · simp only [Option.map_eq_none_iff] at h
          obtain ⟨p, hp⟩ := ih.1 h
          exact ⟨p, back p hp⟩
        · simp only [Option.map_eq_some_iff] at h
          obtain ⟨r', h0, rfl⟩ := h
          obtain ⟨h1, h2⟩ := ih.2 r' h0
          refine ⟨by simp only [asc, Bool.and_eq_true, decide_eq_true_eq]; exact ⟨⟨s1, s2⟩, h1⟩, fun p => ?_⟩
          by_cases hp : p = x.1
          · rw [hp, hx, hf]; simp [getI]
          · rw [gn p hp, h2 p]; simp only [getI]; rw [if_neg (fun e => hp e.symm)]
abbrev RR := List It ⊕ ((Int × Sl It) × Int)
/-- A round of a loop over the items of one. -/
def IStep (f : Option Int → Option Int → Option (Option Int)) (b : Int × List It → Option ((Int × List It) ⊕ RR)) (x : It) (m : List It) (j : Nat) (o : List It) : Prop :=
  b ((j : Int), o) = match f (some x.2) (getI x.1 m) with
  | none => some (.inr (.inr ((0, (⟨false, 0, []⟩ : Sl It)), 12)))
  | some none => some (.inl (((j + 1 : Nat) : Int), o))
  | some (some v) => some (.inl (((j + 1 : Nat) : Int), o ++ [(x.1, v)]))
theorem mtI_loop {f : Option Int → Option Int → Option (Option Int)} {b : Int × List It → Option ((Int × List It) ⊕ RR)} {l m : List It} (hl : l.length ≤ 4096) (hs : ∀ j o (hj : j < l.length), o.length ≤ 4096 → IStep f b l[j] m j o) (he : ∀ o, b ((l.length : Int), o) = some (.inr (.inl o))) :
    loopO b (0, []) = some (match mtI f l m with | none => .inr ((0, (⟨false, 0, []⟩ : Sl It)), 12) | some r => .inl r) := by
  obtain ⟨q, h1, h2⟩ := loop_up (b := b) l.length (fun j a => ∃ o, a = ((j : Int), o) ∧ o.length ≤ j ∧ mtI f l m = (mtI f (l.drop j) m).map fun r => o ++ r) (fun q => q = (match mtI f l m with | none => .inr ((0, (⟨false, 0, []⟩ : Sl It)), 12) | some r => .inl r))
    (by
      rintro j _ hj ⟨o, rfl, ho, hm⟩
      have := hs j o hj (by omega)
      unfold IStep at this
      rw [List.drop_eq_getElem_cons hj, mtI_cons] at hm
      cases hf : f (some l[j].2) (getI l[j].1 m) with
      | none =>
        rw [hf] at this hm
        refine .inr ⟨_, this, ?_⟩
        have hm' : mtI f l m = none := hm
        simp only [hm']
      | some w =>
        cases w with
        | none =>
          rw [hf] at this hm
          exact .inl ⟨_, this, o, rfl, by omega, hm⟩
        | some v =>
          rw [hf] at this hm
          refine .inl ⟨_, this, _, rfl, by simp; omega, ?_⟩
          rw [hm]
          simp only [Option.map_map]
          congr 1
          funext r
          simp)
    (by
      rintro _ ⟨o, rfl, ho, hm⟩
      refine ⟨_, he o, ?_⟩
      rw [List.drop_length] at hm
      have hm' : mtI f l m = some o := by rw [hm]; simp [mtI]
      simp only [hm']) 0 (Nat.zero_le _) (0, []) ⟨[], rfl, Nat.le_refl _, by simp⟩
  rw [h1, h2]
theorem app_few {o : List It} (ho : o.length ≤ 4096) (z : It) : app o [z] = some (o ++ [z]) := app_one (by omega) z
theorem mtI_mrg {f : Option Int → Option Int → Option (Option Int)} (f0 : ∀ b, f none b = some none) {n : Int} (h0 : 0 ≤ n) {l m : List It} (hl : asc (-1) n l = true) (hm : asc (-1) n m = true) : mtI f l m = mrg f l m :=
  SpecR.uniq h0 (mtI_spec f0 hl) (mrg_SpecR (f0 none) hl hm)
theorem ref11_Better_eq (v w : Int × Sl It) (hv : okS 2 v.2) (hw : okS 2 w.2) (lv : v.2.l.length ≤ 9223372036854775807) (lw : w.2.l.length ≤ 9223372036854775807) : ref11_Better v w = some (blendV fB v w) := by
  have k1 := sure_len v
  have k2 := sure_len w
  have o1 := sureV_ok hv
  have o2 := sureV_ok hw
  have r1 := sureV_right v
  have r2 := sureV_right w
  unfold ref11_Better
  simp only
  rw [ref09_Sure_eq v hv lv]
  simp only [Option.bind_some]
  rw [ref09_Sure_eq w hw lw]
  simp only [Option.bind_some]
  unfold blendV
  by_cases hn : (sureV v).1 = (sureV w).1
  · rw [if_neg (fun h => h hn), if_neg (fun h => h hn)]
    rw [mtI_loop (f := fB) (m := (sureV w).2.l) k1 (fun j o hj ho => ?_) (fun o => ?_), mtI_mrg (fun b => by cases b <;> rfl) (right_sz r1).1 (right_asc r1) (by rw [hn]; exact right_asc r2)]
    · cases mrg fB (sureV v).2.l (sureV w).2.l <;> rfl
    · unfold IStep ref11_Better_b1
      simp only [at_get o1 hj, ref11_has_eq _ _ _ o2 (show (sureV w).2.l.length ≤ _ by omega), Option.bind_some, w_succ hj (show (sureV v).2.l.length ≤ _ by omega)]
      rw [if_pos (by omega)]
      cases hg : getI (sureV v).2.l[j].1 (sureV w).2.l with
      | none => simp [encO, fB, app_few ho]
      | some y =>
        simp only [encO, if_true, fB]
        by_cases hb : (sureV v).2.l[j].2 < y <;> simp [hb, app_few ho]
    · unfold ref11_Better_b1
      simp only
      rw [if_neg (by omega)]
  · rw [if_pos hn, if_pos hn]; rfl
theorem few_vals {v : Int × Sl It} (h : ∀ x ∈ v.2.l, i64r x.2) : ∀ x ∈ (fewV v).2.l, i64r x.2 := by
  unfold fewV
  simp only
  split
  · intro x hx; exact h x (List.mem_of_mem_take hx)
  · exact h
theorem blendV_ok (f : Option Int → Option Int → Option (Option Int)) (v w : Int × Sl It) (hv : okS 2 v.2) (hw : okS 2 w.2) : okS 2 (blendV f v w).1.2 := by
  unfold blendV
  split
  · exact ok_nil
  · split
    · exact ok_nil
    · exact ok_mo _
theorem mrgN_len {f : Option Int → Option Int → Option (Option Int)} : ∀ (k : Nat) (l m r : List It), mrgN f k l m = some r → r.length ≤ k
  | 0, l, m, r, h => by simp only [mrgN, Option.some.injEq] at h; subst h; exact Nat.le_refl _
  | k + 1, l, m, r, h => by
    unfold mrgN at h
    split at h
    · simp only [Option.some.injEq] at h; subst h; exact Nat.zero_le _
    · split at h
      · simp at h
      · have := mrgN_len k _ _ r h; omega
      · simp only [Option.map_eq_some_iff] at h
        obtain ⟨r', h0, rfl⟩ := h
        have := mrgN_len k _ _ r' h0
        simp; omega
theorem blendV_len (f : Option Int → Option Int → Option (Option Int)) (v w : Int × Sl It) : (blendV f v w).1.2.l.length ≤ 8192 := by
  have k1 := sure_len v
  have k2 := sure_len w
  unfold blendV
  split
  · simp [nilS]
  · split
    · simp [nilS]
    · rename_i r hr
      have := mrgN_len _ _ _ _ hr
      simp only [mo_l]; omega
theorem same_self (u : Int × Sl It) (h : okS 2 u.2) (hl : u.2.l.length ≤ 8192) : ref09_Same u u = some true := same_refl u h (by omega)
theorem fO_some (a b : Option Int) : ∃ u, fO a b = some u := by cases b <;> exact ⟨_, rfl⟩
theorem over_some {n : Int} {l m : List It} (hl : asc (-1) n l = true) (hm : asc (-1) n m = true) : ∃ r, mrg fO l m = some r ∧ asc (-1) n r = true ∧ ∀ p, fO (getI p l) (getI p m) = some (getI p r) := by
  have hsp := mrg_SpecR (f := fO) rfl hl hm
  cases hq : mrg fO l m with
  | none =>
    obtain ⟨p, hp⟩ := hsp.1 hq
    obtain ⟨u, hu⟩ := fO_some (getI p l) (getI p m)
    rw [hu] at hp; simp at hp
  | some r => exact ⟨r, rfl, hsp.2 r hq⟩
theorem over_loop (n : Int) (s t : Sl It) (h0 : 0 ≤ n) (h1 : n ≤ 4096) (hs : okS 2 s) (ht : okS 2 t) (hl : asc (-1) n s.l = true) (hm : asc (-1) n t.l = true) (hlen : t.l.length ≤ 4096) :
    ∃ s' : Sl It, loopO (ref11_Over_b1 t) (0, n, s) = some (.inl (n, s')) ∧ okS 2 s' ∧ mrg fO s.l t.l = some s'.l := by
  obtain ⟨q, q1, s', rfl, q2, g, q3, q4⟩ := loop_up (b := ref11_Over_b1 t) t.l.length (fun j a => ∃ s' : Sl It, a = ((j : Int), n, s') ∧ okS 2 s' ∧ ∃ g, s'.l = vecG n.toNat g ∧ (∀ p : Nat, p < n.toNat → fO (g p) (getI (p : Int) (t.l.drop j)) = fO (getI (p : Int) s.l) (getI (p : Int) t.l)) ∧ ∃ a, -1 ≤ a ∧ asc a n (t.l.drop j) = true) (fun q => ∃ s' : Sl It, q = .inl (n, s') ∧ okS 2 s' ∧ ∃ g, s'.l = vecG n.toNat g ∧ ∀ p : Nat, p < n.toNat → some (g p) = fO (getI (p : Int) s.l) (getI (p : Int) t.l))
    (by
      rintro j _ hj ⟨s', rfl, k1, g, k2, k3, a, k4, k5⟩
      rw [List.drop_eq_getElem_cons hj] at k3 k5
      simp only [asc, Bool.and_eq_true, decide_eq_true_eq] at k5
      obtain ⟨⟨k5, k6⟩, k7⟩ := k5
      obtain ⟨x, hx⟩ : ∃ x, x = t.l[j] := ⟨_, rfl⟩
      rw [← hx] at k3 k5 k6 k7
      obtain ⟨k, hk⟩ := Int.eq_ofNat_of_zero_le (show 0 ≤ x.1 by omega)
      have hput := ref09_Put_eq n s' k x.2 g k1 h0 h1 k2 (by omega)
      rw [← hk] at hput
      simp only [ref11_Over_b1, at_get ht hj, ← hx, Option.bind_some, hput, w_succ hj (by omega)]
      rw [if_pos (by omega)]
      refine .inl ⟨_, rfl, _, rfl, ok_mo _, _, mo_l _ _, fun p hp => ?_, x.1, by omega, k7⟩
      rw [← k3 p hp]
      by_cases e : p = k
      · subst e
        have e1 : getI (p : Int) (t.l.drop (j + 1)) = none := getI_lt k7 (by omega)
        have e2 : getI (p : Int) (x :: t.l.drop (j + 1)) = some x.2 := by simp only [getI]; rw [if_pos hk]
        rw [e1, e2]; simp [updG, fO]
      · have e2 : getI (p : Int) (x :: t.l.drop (j + 1)) = getI (p : Int) (t.l.drop (j + 1)) := by simp only [getI]; rw [if_neg (by omega)]
        rw [e2]; unfold updG; rw [if_neg e])
    (by
      rintro _ ⟨s', rfl, k1, g, k2, k3, a, k4, k5⟩
      refine ⟨_, if_neg (by omega), s', rfl, k1, g, k2, fun p hp => ?_⟩
      rw [← k3 p hp, List.drop_length]; rfl) 0 (Nat.zero_le _) (0, n, s) ⟨s, rfl, hs, fun p => getI (p : Int) s.l, by have := asc_gath (a := 0) (k := n.toNat) (by simpa using hl) (by omega); exact this, fun p hp => by simp, -1, by omega, by simpa using hm⟩
  refine ⟨s', q1, q2, ?_⟩
  obtain ⟨r, r1, r2, r3⟩ := over_some hl hm
  rw [r1, q3]
  congr 1
  refine (asc_gath (l := r) (a := 0) (k := n.toNat) (by simpa using r2) (by omega)).trans ?_
  refine gathR_congr fun p _ hp => ?_
  have e1 := q4 p (by omega)
  rw [r3 p] at e1
  simpa using e1.symm
theorem ref11_Over_eq (v w : Int × Sl It) (hv : okS 2 v.2) (hw : okS 2 w.2) (lv : v.2.l.length ≤ 9223372036854775807) (lw : w.2.l.length ≤ 9223372036854775807) :
    ∃ u, ref11_Over v w = some (u, (blendV fO v w).2) ∧ u.1 = (blendV fO v w).1.1 ∧ u.2.l = (blendV fO v w).1.2.l ∧ okS 2 u.2 := by
  have k2 := sure_len w
  have o1 := sureV_ok hv
  have o2 := sureV_ok hw
  have r1 := sureV_right v
  have r2 := sureV_right w
  unfold ref11_Over
  simp only
  rw [ref09_Sure_eq v hv lv]
  simp only [Option.bind_some]
  rw [ref09_Sure_eq w hw lw]
  simp only [Option.bind_some]
  unfold blendV
  by_cases hn : (sureV v).1 = (sureV w).1
  · rw [if_neg (fun h => h hn), if_neg (fun h => h hn)]
    have hz := right_sz r1
    obtain ⟨s', e1, e2, e3⟩ := over_loop (sureV v).1 (sureV v).2 (sureV w).2 hz.1 hz.2 o1 o2 (right_asc r1) (by rw [hn]; exact right_asc r2) k2
    rw [e3, e1]
    exact ⟨_, rfl, rfl, (mo_l _ _).symm, e2⟩
  · rw [if_pos hn, if_pos hn]
    exact ⟨_, rfl, rfl, rfl, ok_nil⟩
theorem div64n {j : Nat} (hj : j < 1000000) : divO .i64 (j : Int) 64 = some ((j / 64 : Nat) : Int) := by
  unfold divO
  rw [if_pos (by decide), Int.tdiv_eq_ediv_of_nonneg (by omega), wrap64 (by omega) (by omega)]; rfl
theorem mod64n {j : Nat} : modO (j : Int) 64 = some ((j % 64 : Nat) : Int) := by
  unfold modO
  rw [if_pos (by decide), Int.tmod_eq_emod_of_nonneg (by omega)]; rfl
theorem and_nat {a b : Nat} (ha : a < 18446744073709551616) (hb : b < 18446744073709551616) : andI .u64 (a : Int) (b : Int) = ((a &&& b : Nat) : Int) := by
  unfold andI
  have hb' : IntKind.u64.bits = 64 := rfl
  rw [hb', BitVec.toNat_and, BitVec.toNat_ofInt, BitVec.toNat_ofInt, wrap_u64]
  have e1 : ((a : Int) % ((2 ^ 64 : Nat) : Int)).toNat = a := by omega
  have e2 : ((b : Int) % ((2 ^ 64 : Nat) : Int)).toNat = b := by omega
  rw [e1, e2]
  have : a &&& b < 2 ^ 64 := Nat.and_lt_two_pow a (by omega)
  omega
def hasB (ws : List Int) (p : Nat) : Bool := match ws[p / 64]? with | some w => w.toNat.testBit (p % 64) | none => false
def u64s (ws : List Int) : Prop := ∀ w ∈ ws, u64r w
theorem and_pow (a k : Nat) : a &&& 2 ^ k ≠ 0 ↔ a.testBit k = true := by
  constructor
  · intro h
    cases hc : a.testBit k with
    | true => rfl
    | false =>
      refine absurd (Nat.eq_of_testBit_eq fun i => ?_) h
      rw [Nat.testBit_and, Nat.testBit_two_pow, Nat.zero_testBit]
      by_cases e : k = i
      · subst e; rw [hc]; rfl
      · rw [decide_eq_false e, Bool.and_false]
  · intro h e
    have : (a &&& 2 ^ k).testBit k = false := by rw [e]; exact Nat.zero_testBit _
    rw [Nat.testBit_and, Nat.testBit_two_pow, h] at this
    simp at this
theorem pow_lt {k : Nat} (hk : k < 64) : 2 ^ k < 18446744073709551616 := Nat.pow_lt_pow_right (by decide) hk
theorem flags_Has_eq (s : Sl Int) (p : Nat) (hok : okS 1 s) (hu : u64s s.l) (hp : p < 1000000) : flags_Has s (p : Int) = some (hasB s.l p) := by
  unfold flags_Has flags_within hasB
  simp only [div64n hp, Option.bind_some]
  rw [if_pos (by omega)]
  by_cases h : p / 64 < s.l.length
  · rw [if_pos (by omega)]
    simp only [Option.bind_some, if_true, at_get hok h]
    have hw := hu _ (List.getElem_mem h)
    have hg : s.l[p / 64]? = some s.l[p / 64] := List.getElem?_eq_getElem h
    rw [hg]
    obtain ⟨w, hw2⟩ := Int.eq_ofNat_of_zero_le hw.1
    rw [hw2] at hw ⊢
    have hk : p % 64 < 64 := Nat.mod_lt _ (by decide)
    have hpow := pow_lt hk
    have hb : flags_bit (p : Int) = some ((2 ^ (p % 64) : Nat) : Int) := by
      unfold flags_bit
      simp only [mod64n, Option.bind_some]
      have e : IntKind.u64.wrap ((p % 64 : Nat) : Int) = ((p % 64 : Nat) : Int) := by rw [wrap_u64]; omega
      rw [e]
      unfold shl1 shlI
      rw [if_pos (by omega)]
      have hmin : min (((p % 64 : Nat) : Int)).toNat IntKind.u64.bits = p % 64 := by
        have : IntKind.u64.bits = 64 := rfl
        omega
      rw [hmin, Int.one_mul, wrap_u64]
      simp only [Option.bind_some]
      congr 1
      have : (2 : Int) ^ (p % 64) = ((2 ^ (p % 64) : Nat) : Int) := by simp
      rw [this]
      clear this
      generalize 2 ^ (p % 64) = z at hpow ⊢
      omega
    rw [hb]
    simp only [Option.bind_some]
    rw [and_nat (by have := hw.2; omega) hpow]
    simp only [Int.toNat_natCast]
    have ht := and_pow w (p % 64)
    cases hc : w.testBit (p % 64) with
    | false => rw [hc] at ht; rw [if_neg (fun h => by have := ht.1 (fun e => h (by rw [e]; rfl)); simp at this)]
    | true => rw [hc] at ht; rw [if_pos (by have := ht.2 rfl; omega)]
  · rw [if_neg (by omega)]
    simp only [Option.bind_some, Bool.false_eq_true, if_false]
    rw [List.getElem?_eq_none (by omega)]
theorem ref03_Has_eq (s : Sl Int) (p : Nat) (hok : okS 1 s) (hu : u64s s.l) (hp : p < 1000000) : ref03_Has s (p : Int) = some (hasB s.l p) := by
  unfold ref03_Has hasB
  simp only [div64n hp, Option.bind_some]
  rw [if_pos (by omega)]
  by_cases h : p / 64 < s.l.length
  · rw [if_pos (by omega)]
    simp only [at_get hok h, mod64n, Option.bind_some]
    have hw := hu _ (List.getElem_mem h)
    have hg : s.l[p / 64]? = some s.l[p / 64] := List.getElem?_eq_getElem h
    rw [hg]
    obtain ⟨w, hw2⟩ := Int.eq_ofNat_of_zero_le hw.1
    rw [hw2] at hw ⊢
    have hk : p % 64 < 64 := Nat.mod_lt _ (by decide)
    have e : IntKind.u64.wrap ((p % 64 : Nat) : Int) = ((p % 64 : Nat) : Int) := by rw [wrap_u64]; omega
    rw [e]
    unfold shr1 shrI
    rw [if_pos (by omega)]
    have hmin : min (((p % 64 : Nat) : Int)).toNat IntKind.u64.bits = p % 64 := by
      have : IntKind.u64.bits = 64 := rfl
      omega
    rw [hmin]
    have h2 : Int.fdiv (w : Int) (2 ^ (p % 64)) = ((w / 2 ^ (p % 64) : Nat) : Int) := by
      have : (2 : Int) ^ (p % 64) = ((2 ^ (p % 64) : Nat) : Int) := by simp
      rw [this, Int.fdiv_eq_ediv_of_nonneg _ (Int.natCast_nonneg _)]; rfl
    rw [h2]
    simp only [Option.bind_some]
    have hle : w / 2 ^ (p % 64) ≤ w := Nat.div_le_self _ _
    have h1 : ((1 : Nat) : Int) = 1 := rfl
    rw [← h1, and_nat (by have := hw.2; omega) (by omega), Nat.and_one_is_mod]
    simp only [Int.toNat_natCast]
    rw [Nat.testBit_eq_decide_div_mod_eq]
    by_cases c : w / 2 ^ (p % 64) % 2 = 1
    · rw [if_pos (by omega), decide_eq_true c]
    · rw [if_neg (by omega), decide_eq_false c]
  · rw [if_neg (by omega)]
    rw [List.getElem?_eq_none (by omega)]
def maskL (ws : List Int) (c : Bool) (l : List It) : List It := l.filter fun x => hasB ws x.1.toNat != c
def maskV (v : Int × Sl It) (ws : List Int) (c : Bool) : Int × Sl It := ((sureV v).1, mo 2 (maskL ws c (sureV v).2.l))
theorem blend_Mask_eq (v : Int × Sl It) (w : Sl Int) (c : Bool) (hv : okS 2 v.2) (lv : v.2.l.length ≤ 9223372036854775807) (hw : okS 1 w) (hu : u64s w.l) : blend_Mask v w c = some (maskV v w.l c) := by
  have k1 := sure_len v
  have o1 := sureV_ok hv
  have r1 := sureV_right v
  unfold blend_Mask
  simp only
  rw [blend_sure_eq v hv lv]
  simp only [Option.bind_some]
  unfold maskV
  generalize sureV v = u at k1 o1 r1
  obtain ⟨n, s⟩ := u
  simp only at k1 o1 ⊢
  obtain ⟨q, h1, h2⟩ := loop_up (b := blend_Mask_b1 w s) s.l.length (fun j a => a = (c, (j : Int), maskL w.l c (s.l.take j))) (fun q => q = .inl (maskL w.l c s.l))
    (by
      rintro j _ hj rfl
      have hx := right_at r1 hj
      have hz := right_sz r1
      simp only at hz
      obtain ⟨k, hk⟩ := Int.eq_ofNat_of_zero_le hx.1
      have hh := flags_Has_eq w k hw hu (by omega)
      rw [← hk] at hh
      have ht : maskL w.l c (s.l.take (j + 1)) = maskL w.l c (s.l.take j) ++ (if (hasB w.l s.l[j].1.toNat != c) = true then [s.l[j]] else []) := filter_take _ s.l hj
      have hlen : (maskL w.l c (s.l.take j)).length ≤ 100000 := by
        have h1 : (maskL w.l c (s.l.take j)).length ≤ (s.l.take j).length := List.length_filter_le _ _
        have h2 : (s.l.take j).length ≤ s.l.length := by simp; omega
        omega
      have hkk : s.l[j].1.toNat = k := by omega
      rw [hkk] at ht
      simp only [blend_Mask_b1, at_get o1 hj, Option.bind_some, w_succ hj (by omega), hh, app_one hlen]
      rw [if_pos (by omega)]
      refine .inl ?_
      rw [ht]
      cases hb : hasB w.l k <;> cases c <;> exact ⟨_, rfl, by simp⟩)
    (by
      rintro _ rfl
      refine ⟨_, if_neg (by omega), ?_⟩
      rw [List.take_length]) 0 (Nat.zero_le _) (c, 0, []) rfl
  rw [h1, h2]; rfl
theorem ref11_Mask_eq (v : Int × Sl It) (w : Sl Int) (c : Bool) (hv : okS 2 v.2) (lv : v.2.l.length ≤ 9223372036854775807) (hw : okS 1 w) (hu : u64s w.l) : ref11_Mask v w c = some (maskV v w.l c) := by
  have k1 := sure_len v
  have o1 := sureV_ok hv
  have r1 := sureV_right v
  unfold ref11_Mask
  simp only
  rw [ref09_Sure_eq v hv lv]
  simp only [Option.bind_some]
  unfold maskV
  generalize sureV v = u at k1 o1 r1
  obtain ⟨n, s⟩ := u
  simp only at k1 o1 ⊢
  obtain ⟨q, h1, h2⟩ := loop_up (b := ref11_Mask_b1 w s) s.l.length (fun j a => a = (c, (j : Int), maskL w.l c (s.l.take j))) (fun q => q = .inl (maskL w.l c s.l))
    (by
      rintro j _ hj rfl
      have hx := right_at r1 hj
      have hz := right_sz r1
      simp only at hz
      obtain ⟨k, hk⟩ := Int.eq_ofNat_of_zero_le hx.1
      have hh := ref03_Has_eq w k hw hu (by omega)
      rw [← hk] at hh
      have ht : maskL w.l c (s.l.take (j + 1)) = maskL w.l c (s.l.take j) ++ (if (hasB w.l s.l[j].1.toNat != c) = true then [s.l[j]] else []) := filter_take _ s.l hj
      have hlen : (maskL w.l c (s.l.take j)).length ≤ 100000 := by
        have h1 : (maskL w.l c (s.l.take j)).length ≤ (s.l.take j).length := List.length_filter_le _ _
        have h2 : (s.l.take j).length ≤ s.l.length := by simp; omega
        omega
      have hkk : s.l[j].1.toNat = k := by omega
      rw [hkk] at ht
      simp only [ref11_Mask_b1, at_get o1 hj, Option.bind_some, w_succ hj (by omega), hh, app_one hlen]
      rw [if_pos (by omega)]
      refine .inl ?_
      rw [ht]
      cases hb : hasB w.l k <;> cases c <;> exact ⟨_, rfl, by simp⟩)
    (by
      rintro _ rfl
      refine ⟨_, if_neg (by omega), ?_⟩
      rw [List.take_length]) 0 (Nat.zero_le _) (c, 0, []) rfl
  rw [h1, h2]; rfl
theorem maskV_ok (v : Int × Sl It) (ws : List Int) (c : Bool) : okS 2 (maskV v ws c).2 := ok_mo _
theorem maskL_len (ws : List Int) (c : Bool) (l : List It) : (maskL ws c l).length ≤ l.length := List.length_filter_le _ _
theorem maskV_len (v : Int × Sl It) (ws : List Int) (c : Bool) : (maskV v ws c).2.l.length ≤ 4096 := by
  have := sure_len v
  have := maskL_len ws c (sureV v).2.l
  unfold maskV; simp only [mo_l]; omega
theorem u64s_of {s : Sl Int} (h : SlW 1 (fun x => inK .u64 x) s) : u64s s.l := fun x hx => by
  have := h.2.2.2 x hx
  simpa [inK, u64r, Lit.wf, IntKind.min, IntKind.max, IntKind.signed, IntKind.bits] using this
theorem law11_BlendMasks_true (v : Int × Sl It) (hv : inK .i64 v.1 ∧ SlW 2 WIt v.2) (w : Int × Sl It) (hw : inK .i64 w.1 ∧ SlW 2 WIt w.2) (s : Sl Int) (hs : SlW 1 (fun x => inK .u64 x) s) : law11_BlendMasks v w s = some true := by
  have v1 := few_ok (v := v) hv.2.ok
  have w1 := few_ok (v := w) hw.2.ok
  have v2 := few_len v
  have w2 := few_len w
  have v3 := few_vals (WV.vals hv)
  have w3 := few_vals (WV.vals hw)
  have hu := u64s_of hs
  have e1 := blend_Over_eq (fewV v) (fewV w) v1 w1 (by omega) (by omega) v3 w3
  obtain ⟨u, e2, g1, g2, g3⟩ := ref11_Over_eq (fewV v) (fewV w) v1 w1 (by omega) (by omega)
  have e3 := blend_Better_eq (fewV v) (fewV w) v1 w1 (by omega) (by omega) v3 w3
  have e4 := ref11_Better_eq (fewV v) (fewV w) v1 w1 (by omega) (by omega)
  have m1 := fun c => blend_Mask_eq (fewV v) s c v1 (by omega) hs.ok hu
  have m2 := fun c => ref11_Mask_eq (fewV v) s c v1 (by omega) hs.ok hu
  have l1 := blendV_len fO (fewV v) (fewV w)
  have s1 : ref09_Same (blendV fO (fewV v) (fewV w)).1 u = some true := same_eq _ _ (blendV_ok _ _ _ v1 w1) g3 g1.symm g2.symm (by omega)
  have s2 : ref09_Same (blendV fB (fewV v) (fewV w)).1 (blendV fB (fewV v) (fewV w)).1 = some true := same_self _ (blendV_ok _ _ _ v1 w1) (blendV_len _ _ _)
  have s3 : ∀ c, ref09_Same (maskV (fewV v) s.l c) (maskV (fewV v) s.l c) = some true := fun c => same_self _ (maskV_ok _ _ _) (by have := maskV_len (fewV v) s.l c; omega)
  unfold law11_BlendMasks
  simp only
  split
  · rfl
  · rw [law09_Few_eq v]
    simp only [Option.bind_some]
    rw [law09_Few_eq w]
    simp only [Option.bind_some, FL_eq3, ite_true]
    simp only [e1, e2, e3, e4, m1, m2, Option.bind_some, s1, s2, s3, ite_true]
end Ev
end Go.Proofs.Ytlcfdmjkbaegpaa
