/- DevecDoes: mathematics. Over the functions on data; no number of a type or function is named. -/
import Derived.Test.YtjomjfjbpcafhaaDoorLf1
import Derived.Test.YtjomjfjbpcafhaaDoorLf2
import Derived.Test.YtjomjfjbpcafhaaDoorLf5
import Derived.Test.YtjomjfjbpcafhaaDoorLf6
import Derived.Test.YtjomjfjbpcafhaaDoorLf7
import Derived.Test.YtjomjfjbpcafhaaDoorLw4
import Derived.Test.YtjomjfjbpcafhaaDoorEvS5
namespace Go.Proofs.YtjomjfjbpcafhaaDoor
namespace Ev
open Go
set_option linter.unusedVariables false
set_option linter.unusedSimpArgs false
abbrev It := Int × Int
def WIt (x : It) : Prop := inK .i64 x.1 ∧ inK .i64 x.2
def WV (v : Int × Sl It) : Prop := inK .i64 v.1 ∧ SlW 2 WIt v.2
def okS {α : Type} (w : Nat) (s : Sl α) : Prop := s.l = [] ∨ s.sz = w
theorem SlW.ok {α : Type} {w : Nat} {Q : α → Prop} {s : Sl α} (h : SlW w Q s) : okS w s := .inr h.1
def nilS {α : Type} : Sl α := ⟨false, 0, []⟩
theorem ok_nil {α : Type} {w : Nat} : okS w (nilS : Sl α) := .inl rfl
theorem ok_mo {α : Type} {w : Nat} (l : List α) : okS w (mo w l) := by cases l with | nil => exact .inl rfl | cons x l => exact .inr rfl
/-- Do places rise, and stand below n? -/
def asc : Int → Int → List It → Bool
  | _, _, [] => true
  | a, n, x :: l => decide (a < x.1) && decide (x.1 < n) && asc x.1 n l
def sizeB (n : Int) : Bool := decide (0 ≤ n) && decide (n ≤ 4096)
def rightB (v : Int × Sl It) : Bool := sizeB v.1 && asc (-1) v.1 v.2.l
def sureV (v : Int × Sl It) : Int × Sl It := if rightB v = true then v else (0, nilS)
theorem asc_lt {n : Int} : ∀ {a : Int} {l : List It}, asc a n l = true → ∀ x ∈ l, a < x.1 ∧ x.1 < n
  | a, y :: l, h, x, hx => by
    simp only [asc, Bool.and_eq_true, decide_eq_true_eq] at h
    rcases List.mem_cons.1 hx with rfl | hx
    · exact ⟨h.1.1, h.1.2⟩
    · have := asc_lt h.2 x hx; omega
theorem asc_len {n : Int} : ∀ {a : Int} {l : List It}, asc a n l = true → (l.length : Int) ≤ max (n - a - 1) 0
  | a, [], h => by simp; omega
  | a, y :: l, h => by
    simp only [asc, Bool.and_eq_true, decide_eq_true_eq] at h
    have := asc_len h.2
    simp only [List.length_cons]; omega
theorem right_len {v : Int × Sl It} (h : rightB v = true) : v.2.l.length ≤ 4096 := by
  simp only [rightB, sizeB, Bool.and_eq_true, decide_eq_true_eq] at h
  have := asc_len h.2; omega
/-- The reference's way to see whether places rise. -/
theorem asc_iff {n : Int} {l : List It} : ∀ {a : Int}, asc a n l = true ↔ ∀ j (h : j < l.length), (if h0 : j = 0 then a < l[j].1 else l[j - 1].1 < l[j].1) ∧ l[j].1 < n := by
  induction l with
  | nil => intro a; simp [asc]
  | cons x l ih =>
    intro a
    simp only [asc, Bool.and_eq_true, decide_eq_true_eq, ih]
    constructor
    · rintro ⟨⟨h1, h2⟩, h3⟩ j hj
      cases j with
      | zero => exact ⟨by simpa using h1, by simpa using h2⟩
      | succ j =>
        have := h3 j (by simpa using hj)
        refine ⟨?_, by simpa using this.2⟩
        rw [dif_neg (by omega)]
        cases j with
        | zero => simpa using this.1
        | succ j => have := this.1; rw [dif_neg (by omega)] at this; simpa using this
    · intro h
      have h0 := h 0 (by simp)
      refine ⟨⟨by simpa using h0.1, by simpa using h0.2⟩, fun j hj => ?_⟩
      have := h (j + 1) (by simpa using hj)
      rw [dif_neg (by omega)] at this
      refine ⟨?_, by simpa using this.2⟩
      cases j with
      | zero => simpa using this.1
      | succ j => rw [dif_neg (by omega)]; simpa using this.1
theorem asc_iff' {n : Int} {l : List It} : asc (-1) n l = true ↔ ∀ j (h : j < l.length), 0 ≤ l[j].1 ∧ l[j].1 < n ∧ (j ≠ 0 → l[j - 1].1 < l[j].1) := by
  constructor
  · intro h j hj
    have h1 := asc_lt h l[j] (List.getElem_mem hj)
    have h2 := (asc_iff.1 h j hj).1
    exact ⟨by omega, h1.2, fun h0 => by rw [dif_neg h0] at h2; exact h2⟩
  · intro h
    refine asc_iff.2 fun j hj => ⟨?_, (h j hj).2.1⟩
    split
    · have := (h j hj).1; omega
    · rename_i h0; exact (h j hj).2.2 h0
theorem ref09_Right_eq (v : Int × Sl It) (hok : okS 2 v.2) (hl : v.2.l.length ≤ 9223372036854775807) : ref09_Right v = some (rightB v) := by
  obtain ⟨n, s⟩ := v
  simp only at hl
  unfold ref09_Right rightB sizeB
  by_cases h1 : n < 0
  · simp only [if_pos h1, decide_eq_false (show ¬ 0 ≤ n by omega)]; rfl
  by_cases h2 : n > 4096
  · simp only [if_neg h1, if_pos h2, decide_eq_false (show ¬ n ≤ 4096 by omega)]; simp
  simp only [if_neg h1, if_neg h2, decide_eq_true (show 0 ≤ n by omega), decide_eq_true (show n ≤ 4096 by omega), Bool.true_and]
  have hF : ∀ j (hj : j < s.l.length), ¬ (0 ≤ s.l[j].1 ∧ s.l[j].1 < n ∧ (j ≠ 0 → s.l[j - 1].1 < s.l[j].1)) → asc (-1) n s.l = false := fun j hj hh => by
    rw [Bool.eq_false_iff]; intro hc; exact hh (asc_iff'.1 hc j hj)
  obtain ⟨r, h3, h4⟩ := loop_up (b := ref09_Right_b1 n s) s.l.length (fun j a => a = (j : Int) ∧ ∀ i (h : i < s.l.length), i < j → 0 ≤ s.l[i].1 ∧ s.l[i].1 < n ∧ (i ≠ 0 → s.l[i - 1].1 < s.l[i].1)) (fun r => (asc (-1) n s.l = true ∧ r = .inl ()) ∨ (asc (-1) n s.l = false ∧ r = .inr false))
    (by
      rintro j _ hj ⟨rfl, ha⟩
      simp only [ref09_Right_b1, at_get hok hj, Option.bind_some, w_succ hj (by omega)]
      rw [if_pos (by omega)]
      by_cases c1 : s.l[j].1 < 0
      · exact .inr ⟨_, if_pos c1, .inr ⟨hF j hj (by omega), rfl⟩⟩
      rw [if_neg c1]
      by_cases c2 : s.l[j].1 ≥ n
      · exact .inr ⟨_, if_pos c2, .inr ⟨hF j hj (by omega), rfl⟩⟩
      rw [if_neg c2]
      by_cases c3 : (j : Int) > 0
      · rw [if_pos c3]
        have e : IntKind.i64.wrap ((j : Int) - 1) = ((j - 1 : Nat) : Int) := by rw [wrap64 (by omega) (by omega)]; omega
        rw [e, at_get hok (show j - 1 < s.l.length by omega)]
        simp only [Option.bind_some]
        by_cases c4 : s.l[j].1 ≤ s.l[j - 1].1
        · exact .inr ⟨_, if_pos c4, .inr ⟨hF j hj (fun hh => by have := hh.2.2 (by omega); omega), rfl⟩⟩
        · refine .inl ⟨_, if_neg c4, rfl, fun i hi hij => ?_⟩
          by_cases hh : i = j
          · subst hh; exact ⟨by omega, by omega, fun _ => by omega⟩
          · exact ha i hi (by omega)
      · refine .inl ⟨_, if_neg c3, rfl, fun i hi hij => ?_⟩
        by_cases hh : i = j
        · subst hh; exact ⟨by omega, by omega, fun _ => by omega⟩
        · exact ha i hi (by omega))
    (by
      rintro _ ⟨rfl, ha⟩
      exact ⟨_, if_neg (by omega), .inl ⟨asc_iff'.2 fun j hj => ha j hj hj, rfl⟩⟩) 0 (Nat.zero_le _) 0 ⟨rfl, fun i _ h => absurd h (by omega)⟩
  rw [h3]
  rcases h4 with ⟨h5, rfl⟩ | ⟨h5, rfl⟩ <;> simp [h5]
theorem ref09_Sure_eq (v : Int × Sl It) (hok : okS 2 v.2) (hl : v.2.l.length ≤ 9223372036854775807) : ref09_Sure v = some (sureV v) := by
  obtain ⟨n, s⟩ := v
  unfold ref09_Sure sureV
  simp only [ref09_Right_eq (n, s) hok hl, Option.bind_some]
  split <;> rfl
def i64r (n : Int) : Prop := -9223372036854775808 ≤ n ∧ n ≤ 9223372036854775807
def u64r (n : Int) : Prop := 0 ≤ n ∧ n ≤ 18446744073709551615
theorem i64r_of {n : Int} (h : inK .i64 n) : i64r n := by simpa [inK, i64r, Lit.wf, IntKind.min, IntKind.max, IntKind.signed, IntKind.bits] using h
theorem WV.ok {v : Int × Sl It} (h : WV v) : okS 2 v.2 := h.2.ok
theorem WV.vals {v : Int × Sl It} (h : WV v) : ∀ x ∈ v.2.l, i64r x.2 := fun x hx => i64r_of (h.2.2.2.2 x hx).2
theorem wrap_u64 (n : Int) : IntKind.u64.wrap n = n % 18446744073709551616 := by
  simp [IntKind.wrap, IntKind.signed, IntKind.bits]
theorem filter_take {α : Type} (p : α → Bool) (l : List α) {j : Nat} (hj : j < l.length) : (l.take (j + 1)).filter p = (l.take j).filter p ++ (if p l[j] = true then [l[j]] else []) := by
  rw [List.take_succ_eq_append_getElem hj, List.filter_append]
  congr 1
  by_cases h : p l[j] = true
  · simp [h]
  · simp [h]
/-- What stands at a place. -/
def getI (p : Int) : List It → Option Int
  | [] => none
  | x :: l => if x.1 = p then some x.2 else getI p l
def encO : Option Int → Int × Bool
  | some x => (x, true)
  | none => (0, false)
def itemO (p : Nat) : Option Int → Option It
  | some x => some ((p : Int), x)
  | none => none
def updG (g : Nat → Option Int) (p : Nat) (v : Option Int) : Nat → Option Int := fun q => if q = p then v else g q
/-- What a table has, from a place on. -/
def gathR (a k : Nat) (g : Nat → Option Int) : List It := (List.range' a k).filterMap fun p => itemO p (g p)
theorem gathR_zero (a : Nat) (g : Nat → Option Int) : gathR a 0 g = [] := rfl
theorem gathR_succ (a k : Nat) (g : Nat → Option Int) : gathR a (k + 1) g = (match g a with | some x => [((a : Int), x)] | none => []) ++ gathR (a + 1) k g := by
  unfold gathR
  rw [List.range'_succ, List.filterMap_cons]
  cases h : g a <;> simp [itemO, h]
theorem gathR_app (a k m : Nat) (g : Nat → Option Int) : gathR a (k + m) g = gathR a k g ++ gathR (a + k) m g := by
  unfold gathR
  rw [← List.range'_append_1, List.filterMap_append]
theorem gathR_last (a k : Nat) (g : Nat → Option Int) : gathR a (k + 1) g = gathR a k g ++ (match g (a + k) with | some x => [(((a + k : Nat) : Int), x)] | none => []) := by
  rw [gathR_app, gathR_succ, gathR_zero, List.append_nil]
theorem gathR_congr {a k : Nat} {g g' : Nat → Option Int} (h : ∀ p, a ≤ p → p < a + k → g p = g' p) : gathR a k g = gathR a k g' := by
  induction k generalizing a with
  | zero => rfl
  | succ k ih => rw [gathR_succ, gathR_succ, h a (Nat.le_refl _) (by omega), ih fun p h1 h2 => h p (by omega) (by omega)]
theorem gathR_none {a k : Nat} {g : Nat → Option Int} (h : ∀ p, a ≤ p → p < a + k → g p = none) : gathR a k g = [] := by
  induction k generalizing a with
  | zero => rfl
  | succ k ih => rw [gathR_succ, h a (Nat.le_refl _) (by omega), ih fun p h1 h2 => h p (by omega) (by omega)]; rfl
theorem gathR_mem {a k : Nat} {g : Nat → Option Int} {x : It} (h : x ∈ gathR a k g) : ∃ p : Nat, a ≤ p ∧ p < a + k ∧ x.1 = (p : Int) ∧ g p = some x.2 := by
  unfold gathR at h
  obtain ⟨p, hp, he⟩ := List.mem_filterMap.1 h
  rw [List.mem_range'_1] at hp
  cases hg : g p with
  | none => rw [hg] at he; simp [itemO] at he
  | some v => rw [hg] at he; simp only [itemO, Option.some.injEq] at he; subst he; exact ⟨p, hp.1, hp.2, rfl, hg⟩
theorem gathR_len (a k : Nat) (g : Nat → Option Int) : (gathR a k g).length ≤ k := by
  have := List.length_filterMap_le (fun p => itemO p (g p)) (List.range' a k)
  simpa [gathR] using this
theorem gathR_asc (a k : Nat) (g : Nat → Option Int) (b n : Int) (hb : b < (a : Int)) (hn : ((a + k : Nat) : Int) ≤ n) : asc b n (gathR a k g) = true := by
  induction k generalizing a b with
  | zero => rfl
  | succ k ih =>
    rw [gathR_succ]
    cases h : g a with
    | none => exact ih (a + 1) b (by omega) (by omega)
    | some v =>
      show (decide (b < (a : Int)) && decide ((a : Int) < n) && asc (a : Int) n (gathR (a + 1) k g)) = true
      rw [decide_eq_true hb, decide_eq_true (by omega), ih (a + 1) a (by omega) (by omega)]; rfl
theorem getI_none {p : Int} : ∀ {l : List It}, (∀ x ∈ l, x.1 ≠ p) → getI p l = none
  | [], _ => rfl
  | x :: l, h => by
    unfold getI
    rw [if_neg (h x List.mem_cons_self)]
    exact getI_none fun y hy => h y (List.mem_cons_of_mem _ hy)
theorem getI_gath (a k : Nat) (g : Nat → Option Int) (p : Nat) (h1 : a ≤ p) (h2 : p < a + k) : getI (p : Int) (gathR a k g) = g p := by
  induction k generalizing a with
  | zero => omega
  | succ k ih =>
    rw [gathR_succ]
    by_cases hp : a = p
    · subst hp
      cases h : g a with
      | some v => simp [getI]
      | none =>
        refine getI_none fun x hx => ?_
        obtain ⟨q, q1, q2, q3, q4⟩ := gathR_mem (by simpa using hx)
        omega
    · have := ih (a + 1) (by omega) (by omega)
      cases h : g a with
      | some v => simp only [List.singleton_append, getI]; rw [if_neg (by omega)]; exact this
      | none => exact this
/-- Rising items are what a table of them has. -/
theorem asc_gath {n : Int} : ∀ {l : List It} {a k : Nat}, asc ((a : Int) - 1) n l = true → ((a + k : Nat) : Int) = n → l = gathR a k fun p => getI (p : Int) l
  | [], a, k, h, hn => (gathR_none fun p _ _ => rfl).symm
  | x :: l, a, k, h, hn => by
    simp only [asc, Bool.and_eq_true, decide_eq_true_eq] at h
    obtain ⟨⟨h1, h2⟩, h3⟩ := h
    obtain ⟨q, hq⟩ : ∃ q : Nat, x.1 = (q : Int) := ⟨x.1.toNat, by omega⟩
    have hk : k = (q - a) + ((k - (q - a) - 1) + 1) := by omega
    rw [hk, gathR_app, gathR_succ]
    have e1 : gathR a (q - a) (fun p => getI (p : Int) (x :: l)) = [] := gathR_none fun p p1 p2 => by
      refine getI_none fun y hy => ?_
      rcases List.mem_cons.1 hy with rfl | hy
      · omega
      · have := asc_lt h3 y hy; omega
    have ea : a + (q - a) = q := by omega
    have e2 : getI ((a + (q - a) : Nat) : Int) (x :: l) = some x.2 := by unfold getI; rw [if_pos (by omega)]
    have h3' : asc (((q + 1 : Nat) : Int) - 1) n l = true := by rw [hq] at h3; simpa using h3
    have ih := asc_gath (k := k - (q - a) - 1) h3' (by omega)
    rw [e1, e2, ea]
    have e3 : gathR (q + 1) (k - (q - a) - 1) (fun p => getI (p : Int) (x :: l)) = l := by
      rw [gathR_congr (g' := fun p => getI (p : Int) l) fun p p1 p2 => by
        show getI (p : Int) (x :: l) = _
        rw [getI, if_neg (by omega)]]
      exact ih.symm
    rw [e3, List.nil_append, ← hq]; rfl
/-- A vector of a table. -/
def vecG (n : Nat) (g : Nat → Option Int) : List It := gathR 0 n g
theorem right_gath {n : Int} {s : Sl It} (h : rightB (n, s) = true) : s.l = vecG n.toNat fun p => getI (p : Int) s.l := by
  simp only [rightB, sizeB, Bool.and_eq_true, decide_eq_true_eq] at h
  exact asc_gath (a := 0) (by simpa using h.2) (by omega)
theorem right_vecG {n : Int} {s : Sl It} {g : Nat → Option Int} (h0 : 0 ≤ n) (h1 : n ≤ 4096) (hs : s.l = vecG n.toNat g) : rightB (n, s) = true := by
  simp only [rightB, sizeB, hs, decide_eq_true h0, decide_eq_true h1, Bool.true_and]
  exact gathR_asc _ _ _ _ _ (by omega) (by omega)
/-- With something put at a place. -/
theorem vecG_put {n p : Nat} (hp : p < n) (g : Nat → Option Int) (v : Option Int) : vecG n (updG g p v) = (vecG n g).filter (fun x => decide (x.1 < (p : Int))) ++ ((match v with | some x => [((p : Int), x)] | none => []) ++ (vecG n g).filter (fun x => decide ((p : Int) < x.1))) := by
  have hn : n = p + ((n - p - 1) + 1) := by omega
  have split : ∀ g' : Nat → Option Int, vecG n g' = gathR 0 p g' ++ ((match g' p with | some x => [((p : Int), x)] | none => []) ++ gathR (p + 1) (n - p - 1) g') := fun g' => by
    show gathR 0 n g' = _
    rw [hn, gathR_app, gathR_succ, Nat.zero_add, show p + (n - p - 1 + 1) - p - 1 = n - p - 1 by omega]
  rw [split (updG g p v), split g]
  have a1 : gathR 0 p (updG g p v) = gathR 0 p g := gathR_congr fun q _ q2 => by unfold updG; rw [if_neg (by omega)]
  have a2 : gathR (p + 1) (n - p - 1) (updG g p v) = gathR (p + 1) (n - p - 1) g := gathR_congr fun q q1 _ => by unfold updG; rw [if_neg (by omega)]
  have a3 : updG g p v p = v := by unfold updG; rw [if_pos rfl]
  have m1 : ∀ x ∈ gathR 0 p g, x.1 < (p : Int) := fun x hx => by obtain ⟨q, _, q2, q3, _⟩ := gathR_mem hx; omega
  have m2 : ∀ x ∈ gathR (p + 1) (n - p - 1) g, (p : Int) < x.1 := fun x hx => by obtain ⟨q, q1, _, q3, _⟩ := gathR_mem hx; omega
  have f1 : (gathR 0 p g).filter (fun x => decide (x.1 < (p : Int))) = gathR 0 p g := List.filter_eq_self.2 fun x hx => by simpa using m1 x hx
  have f2 : (gathR 0 p g).filter (fun x => decide ((p : Int) < x.1)) = [] := List.filter_eq_nil_iff.2 fun x hx => by have := m1 x hx; simp; omega
  have f3 : (gathR (p + 1) (n - p - 1) g).filter (fun x => decide (x.1 < (p : Int))) = [] := List.filter_eq_nil_iff.2 fun x hx => by have := m2 x hx; simp; omega
  have f4 : (gathR (p + 1) (n - p - 1) g).filter (fun x => decide ((p : Int) < x.1)) = gathR (p + 1) (n - p - 1) g := List.filter_eq_self.2 fun x hx => by simpa using m2 x hx
  rw [a1, a2, a3, List.filter_append, List.filter_append, List.filter_append, List.filter_append, f1, f2, f3, f4]
  cases g p <;> simp
/-- A right vector's items stand at places below its size. -/
theorem right_at {n : Int} {s : Sl It} (h : rightB (n, s) = true) {j : Nat} (hj : j < s.l.length) : 0 ≤ s.l[j].1 ∧ s.l[j].1 < n := by
  simp only [rightB, Bool.and_eq_true] at h
  have := asc_lt h.2 _ (List.getElem_mem hj); omega
theorem right_size {n : Int} {s : Sl It} (h : rightB (n, s) = true) : 0 ≤ n ∧ n ≤ 4096 := by
  simp only [rightB, sizeB, Bool.and_eq_true, decide_eq_true_eq] at h; omega
theorem getI_append (p : Int) : ∀ (l m : List It), getI p (l ++ m) = match getI p l with | some x => some x | none => getI p m
  | [], m => rfl
  | x :: l, m => by
    simp only [List.cons_append, getI]
    by_cases h : x.1 = p
    · rw [if_pos h, if_pos h]
    · rw [if_neg h, if_neg h]; exact getI_append p l m
theorem getI_take {n : Int} {s : Sl It} (h : rightB (n, s) = true) {j : Nat} (hj : j < s.l.length) : getI (s.l[j].1) (s.l.take j) = none := by
  simp only [rightB, Bool.and_eq_true] at h
  refine getI_none fun x hx => ?_
  obtain ⟨i, hi, rfl⟩ := List.getElem_of_mem hx
  have hij : i < j := by simp at hi; omega
  rw [List.getElem_take]
  have key : ∀ d i (hi : i + d + 1 < s.l.length), s.l[i].1 < s.l[i + d + 1].1 := by
    intro d
    induction d with
    | zero => intro i hi; exact ((asc_iff'.1 h.2) (i + 1) hi).2.2 (by omega)
    | succ d ih => intro i hi; have h1 := ih i (by omega); have h2 := ((asc_iff'.1 h.2) (i + (d + 1) + 1) hi).2.2 (by omega); simp only [Nat.add_sub_cancel] at h2; exact Int.lt_trans h1 h2
  have := key (j - i - 1) i (by omega)
  simp only [show i + (j - i - 1) + 1 = j by omega] at this
  omega
theorem sure_id {v : Int × Sl It} (h : rightB v = true) : sureV v = v := by unfold sureV; rw [if_pos h]
theorem ref09_Get_eq (n : Int) (s : Sl It) (p : Int) (hok : okS 2 s) (h : rightB (n, s) = true) : ref09_Get (n, s) p = some (encO (getI p s.l)) := by
  have hlen : s.l.length ≤ 4096 := right_len h
  unfold ref09_Get
  simp only [ref09_Sure_eq (n, s) hok (show s.l.length ≤ _ by omega), sure_id h, Option.bind_some]
  obtain ⟨q, h1, h2⟩ := loop_up (b := ref09_Get_b1 p s) s.l.length (fun j a => a = (j : Int) ∧ getI p s.l = getI p (s.l.drop j)) (fun q => (getI p s.l = none ∧ q = .inl ()) ∨ ∃ v, getI p s.l = some v ∧ q = .inr (v, true))
    (by
      rintro j _ hj ⟨rfl, ha⟩
      rw [List.drop_eq_getElem_cons hj] at ha
      simp only [ref09_Get_b1, at_get hok hj, Option.bind_some, w_succ hj (by omega)]
      rw [if_pos (by omega)]
      simp only [getI] at ha
      by_cases c : s.l[j].1 = p
      · rw [if_pos c] at ha
        exact .inr ⟨_, if_pos c, .inr ⟨_, ha, rfl⟩⟩
      · rw [if_neg c] at ha
        exact .inl ⟨_, if_neg c, rfl, ha⟩)
    (by
      rintro _ ⟨rfl, ha⟩
      exact ⟨_, if_neg (by omega), .inl ⟨by rw [ha]; simp [getI], rfl⟩⟩) 0 (Nat.zero_le _) 0 ⟨rfl, rfl⟩
  rw [h1]
  rcases h2 with ⟨h3, rfl⟩ | ⟨v, h3, rfl⟩ <;> rw [h3] <;> rfl

theorem ref09_Drop_eq (n : Int) (s : Sl It) (p : Nat) (g : Nat → Option Int) (hok : okS 2 s) (h0 : 0 ≤ n) (h1 : n ≤ 4096) (hg : s.l = vecG n.toNat g) (hp : p < n.toNat) : ref09_Drop (n, s) (p : Int) = some (n, mo 2 (vecG n.toNat (updG g p none))) := by
  have hr : rightB (n, s) = true := right_vecG h0 h1 hg
  have hlen : s.l.length ≤ 4096 := right_len hr
  unfold ref09_Drop
  simp only [ref09_Sure_eq (n, s) hok (show s.l.length ≤ _ by omega), sure_id hr, Option.bind_some]
  obtain ⟨q, q1, q2⟩ := loop_up (b := ref09_Drop_b1 (p : Int) s) s.l.length (fun j a => a = ((j : Int), (s.l.take j).filter fun x => decide (x.1 ≠ (p : Int)))) (fun q => q = .inl (s.l.filter fun x => decide (x.1 ≠ (p : Int))))
    (by
      rintro j _ hj rfl
      have hb : ((s.l.take j).filter fun x => decide (x.1 ≠ (p : Int))).length + 1 ≤ bound := by
        have := List.length_filter_le (fun x : It => decide (x.1 ≠ (p : Int))) (s.l.take j)
        have h3 : (s.l.take j).length ≤ j := by simp; omega
        unfold bound; omega
      simp only [ref09_Drop_b1, at_get hok hj, Option.bind_some, w_succ hj (by omega)]
      rw [if_pos (by omega)]
      have hf := filter_take (fun x : It => decide (x.1 ≠ (p : Int))) s.l hj
      by_cases c : s.l[j].1 ≠ (p : Int)
      · rw [if_pos (by simpa using c)] at hf
        refine .inl ⟨_, ?_, by rw [hf]⟩
        rw [if_pos c, app_ok (by simpa using hb)]; rfl
      · rw [if_neg (by simpa using c), List.append_nil] at hf
        exact .inl ⟨_, if_neg c, by rw [hf]⟩)
    (by
      rintro _ rfl
      exact ⟨_, if_neg (by omega), by rw [List.take_length]⟩) 0 (Nat.zero_le _) (0, []) rfl
  subst q2
  rw [q1]
  simp only [Option.bind_some, Sum.elim_inl]
  have e : s.l.filter (fun x => decide (x.1 ≠ (p : Int))) = vecG n.toNat (updG g p none) := by
    rw [vecG_put hp, ← hg, List.nil_append]
    have hasc : asc (-1) n s.l = true := by simp only [rightB, Bool.and_eq_true] at hr; exact hr.2
    clear q1 hg hr hlen
    generalize (-1 : Int) = a at hasc
    generalize s.l = l at hasc
    induction l generalizing a with
    | nil => rfl
    | cons x l ih =>
      simp only [asc, Bool.and_eq_true, decide_eq_true_eq] at hasc
      have ih' := ih _ hasc.2
      have hgt := asc_lt hasc.2
      rcases Int.lt_trichotomy x.1 (p : Int) with c | c | c
      · rw [List.filter_cons_of_pos (by simp; omega), List.filter_cons_of_pos (by simpa using c), List.filter_cons_of_neg (by simp; omega), ih']; rfl
      · rw [List.filter_cons_of_neg (by simpa using c), List.filter_cons_of_neg (by simp; omega), List.filter_cons_of_neg (by simp; omega), ih']
      · have e1 : l.filter (fun x => decide (x.1 < (p : Int))) = [] := List.filter_eq_nil_iff.2 fun y hy => by have := hgt y hy; simp; omega
        rw [List.filter_cons_of_pos (by simp; omega), List.filter_cons_of_neg (by simp; omega), List.filter_cons_of_pos (by simpa using c), ih', e1]; rfl
  rw [e]
theorem asc_mono {n : Int} {l : List It} (h : asc (-1) n l = true) {i k : Nat} (hik : i < k) (hk : k < l.length) : l[i].1 < l[k].1 := by
  have key : ∀ d i (hi : i + d + 1 < l.length), l[i].1 < l[i + d + 1].1 := by
    intro d
    induction d with
    | zero => intro i hi; exact ((asc_iff'.1 h) (i + 1) hi).2.2 (by omega)
    | succ d ih => intro i hi; have h1 := ih i (by omega); have h2 := ((asc_iff'.1 h) (i + (d + 1) + 1) hi).2.2 (by omega); simp only [Nat.add_sub_cancel] at h2; exact Int.lt_trans h1 h2
  have := key (k - i - 1) i (by omega)
  simp only [show i + (k - i - 1) + 1 = k by omega] at this
  exact this
def ltF (p : Nat) (l : List It) : List It := l.filter fun x => decide (x.1 < (p : Int))
def gtF (p : Nat) (l : List It) : List It := l.filter fun x => decide ((p : Int) < x.1)
theorem ltF_take {p : Nat} {l : List It} {j : Nat} (hj : j < l.length) : ltF p (l.take (j + 1)) = ltF p (l.take j) ++ (if decide (l[j].1 < (p : Int)) = true then [l[j]] else []) := filter_take _ l hj
theorem gtF_take {p : Nat} {l : List It} {j : Nat} (hj : j < l.length) : gtF p (l.take (j + 1)) = gtF p (l.take j) ++ (if decide ((p : Int) < l[j].1) = true then [l[j]] else []) := filter_take _ l hj
theorem ltF_len (p : Nat) (l : List It) (j : Nat) : (ltF p (l.take j)).length ≤ j := by
  have := List.length_filter_le (fun x : It => decide (x.1 < (p : Int))) (l.take j)
  have h3 : (l.take j).length ≤ j := by simp; omega
  exact Nat.le_trans this h3
theorem gtF_len (p : Nat) (l : List It) (j : Nat) : (gtF p (l.take j)).length ≤ j := by
  have := List.length_filter_le (fun x : It => decide ((p : Int) < x.1)) (l.take j)
  have h3 : (l.take j).length ≤ j := by simp; omega
  exact Nat.le_trans this h3
theorem ref09_Put_eq (n : Int) (s : Sl It) (p : Nat) (x : Int) (g : Nat → Option Int) (hok : okS 2 s) (h0 : 0 ≤ n) (h1 : n ≤ 4096) (hg : s.l = vecG n.toNat g) (hp : p < n.toNat) : ref09_Put (n, s) (p : Int) x = some (n, mo 2 (vecG n.toNat (updG g p (some x)))) := by
  have hr : rightB (n, s) = true := right_vecG h0 h1 hg
  have hlen : s.l.length ≤ 4096 := right_len hr
  have hasc : asc (-1) n s.l = true := by simp only [rightB, Bool.and_eq_true] at hr; exact hr.2
  unfold ref09_Put
  simp only [ref09_Sure_eq (n, s) hok (show s.l.length ≤ _ by omega), sure_id hr, Option.bind_some]
  rw [if_neg (by omega), if_neg (by omega)]
  obtain ⟨q, q1, q2⟩ := loop_up (b := ref09_Put_b3 (p : Int) x s) s.l.length (fun j a => (a = (false, (j : Int), ltF p (s.l.take j)) ∧ gtF p (s.l.take j) = [] ∧ ∀ y ∈ s.l.take j, y.1 < (p : Int)) ∨ (a = (true, (j : Int), ltF p (s.l.take j) ++ ((p : Int), x) :: gtF p (s.l.take j)) ∧ ∀ i (hi : i < s.l.length), j ≤ i → (p : Int) < s.l[i].1)) (fun q => (q = .inl (false, ltF p s.l) ∧ gtF p s.l = []) ∨ q = .inl (true, ltF p s.l ++ ((p : Int), x) :: gtF p s.l))
    (by
      rintro j a hj ha
      have hb1 := ltF_len p s.l j
      have hb2 := gtF_len p s.l j
      have hl := ltF_take (p := p) hj
      have hgt := gtF_take (p := p) hj
      rcases ha with ⟨rfl, ha, hall⟩ | ⟨rfl, ha⟩
      · simp only [ref09_Put_b3, at_get hok hj, Option.bind_some, w_succ hj (by omega)]
        rw [if_pos (by omega)]
        simp only [Bool.false_eq_true, if_false]
        by_cases c : s.l[j].1 ≥ (p : Int)
        · rw [if_pos c]
          rw [if_neg (by simp; omega), List.append_nil] at hl
          have hafter : ∀ i (hi : i < s.l.length), j + 1 ≤ i → (p : Int) < s.l[i].1 := fun i hi hij => by have := asc_mono hasc (i := j) (k := i) (by omega) hi; omega
          have ap1 : app (ltF p (s.l.take j)) [((p : Int), x)] = some (ltF p (s.l.take j) ++ [((p : Int), x)]) := app_ok (by simp; unfold bound; omega)
          simp only [ap1, Option.bind_some]
          by_cases c2 : s.l[j].1 ≠ (p : Int)
          · rw [if_pos c2]
            rw [if_pos (by simp; omega), ha, List.nil_append] at hgt
            have ap2 : app (ltF p (s.l.take j) ++ [((p : Int), x)]) [(s.l[j].1, s.l[j].2)] = some ((ltF p (s.l.take j) ++ [((p : Int), x)]) ++ [(s.l[j].1, s.l[j].2)]) := app_ok (by simp; unfold bound; omega)
            simp only [ap2, Option.bind_some]
            refine .inl ⟨_, rfl, .inr ⟨?_, hafter⟩⟩
            rw [hl, hgt]; simp
          · rw [if_neg c2]
            rw [if_neg (by simp; omega), ha, List.nil_append] at hgt
            refine .inl ⟨_, rfl, .inr ⟨?_, hafter⟩⟩
            rw [hl, hgt]
        · rw [if_neg c, if_pos (show s.l[j].1 ≠ (p : Int) by omega)]
          rw [if_pos (by simp; omega)] at hl
          rw [if_neg (by simp; omega), List.append_nil] at hgt
          have ap1 : app (ltF p (s.l.take j)) [(s.l[j].1, s.l[j].2)] = some (ltF p (s.l.take j) ++ [(s.l[j].1, s.l[j].2)]) := app_ok (by simp; unfold bound; omega)
          simp only [ap1, Option.bind_some]
          refine .inl ⟨_, rfl, .inl ⟨?_, by rw [hgt, ha], fun y hy => ?_⟩⟩
          · rw [hl]
          · rw [List.take_succ_eq_append_getElem hj] at hy
            rcases List.mem_append.1 hy with hy | hy
            · exact hall y hy
            · simp at hy; subst hy; omega
      · have hj' := ha j hj (Nat.le_refl _)
        simp only [ref09_Put_b3, at_get hok hj, Option.bind_some, w_succ hj (by omega)]
        rw [if_pos (by omega), if_pos trivial, if_pos (show s.l[j].1 ≠ (p : Int) by omega)]
        rw [if_neg (by simp; omega), List.append_nil] at hl
        rw [if_pos (by simp; omega)] at hgt
        have ap1 : app (ltF p (s.l.take j) ++ ((p : Int), x) :: gtF p (s.l.take j)) [(s.l[j].1, s.l[j].2)] = some ((ltF p (s.l.take j) ++ ((p : Int), x) :: gtF p (s.l.take j)) ++ [(s.l[j].1, s.l[j].2)]) := app_ok (by simp; unfold bound; omega)
        simp only [ap1, Option.bind_some]
        refine .inl ⟨_, rfl, .inr ⟨?_, fun i hi hij => ha i hi (by omega)⟩⟩
        rw [hl, hgt]; simp)
    (by
      rintro a (⟨rfl, ha, hall⟩ | ⟨rfl, ha⟩)
      · refine ⟨_, if_neg (by omega), .inl ⟨?_, ?_⟩⟩
        · rw [List.take_length]
        · rw [List.take_length] at ha; exact ha
      · refine ⟨_, if_neg (by omega), .inr ?_⟩
        rw [List.take_length]) 0 (Nat.zero_le _) (false, 0, []) (.inl ⟨rfl, rfl, fun y hy => by simp at hy⟩)
  rw [q1]
  have e := vecG_put hp g (some x)
  rw [← hg] at e
  have hb1 := ltF_len p s.l s.l.length
  rw [List.take_length] at hb1
  rcases q2 with ⟨rfl, hgn⟩ | rfl
  · simp only [Option.bind_some, Sum.elim_inl, Bool.false_eq_true, if_false]
    have ap1 : app (ltF p s.l) [((p : Int), x)] = some (ltF p s.l ++ [((p : Int), x)]) := app_ok (by simp; unfold bound; omega)
    rw [ap1, e]
    have : (s.l.filter fun x => decide ((p : Int) < x.1)) = [] := hgn
    rw [this]; rfl
  · simp only [Option.bind_some, Sum.elim_inl, if_true]
    rw [e]; rfl

/-- A right vector, of numbers that are numbers. -/
def GoodV (v : Int × Sl It) : Prop := rightB v = true ∧ okS 2 v.2 ∧ ∀ x ∈ v.2.l, i64r x.2
/-- The first place at which one of two lists has something, what they have there, and the rests. -/
def hd : List It → List It → Int × Option Int × Option Int × List It × List It
  | [], [] => (0, none, none, [], [])
  | x :: l, [] => (x.1, some x.2, none, l, [])
  | [], y :: m => (y.1, none, some y.2, [], m)
  | x :: l, y :: m => if x.1 ≤ y.1 then (if y.1 ≤ x.1 then (y.1, some x.2, some y.2, l, m) else (x.1, some x.2, none, l, y :: m)) else (y.1, none, some y.2, x :: l, m)
theorem div64n {j : Nat} (hj : j < 1000000) : divO .i64 (j : Int) 64 = some ((j / 64 : Nat) : Int) := by
  unfold divO
  rw [if_pos (by decide), Int.tdiv_eq_ediv_of_nonneg (by omega), wrap64 (by omega) (by omega)]; rfl
theorem mod64n {j : Nat} : modO (j : Int) 64 = some ((j % 64 : Nat) : Int) := by
  unfold modO
  rw [if_pos (by decide), Int.tmod_eq_emod_of_nonneg (by omega)]; rfl
theorem and_nat {a b : Nat} (ha : a < 18446744073709551616) (hb : b < 18446744073709551616) : andI .u64 (a : Int) (b : Int) = ((a &&& b : Nat) : Int) := by
  unfold andI
  have hb' : IntKind.u64.bits = 64 := rfl
  rw [hb', BitVec.toNat_and, BitVec.toNat_ofInt, BitVec.toNat_ofInt, wrap_u64]
  have e1 : ((a : Int) % ((2 ^ 64 : Nat) : Int)).toNat = a := by omega
  have e2 : ((b : Int) % ((2 ^ 64 : Nat) : Int)).toNat = b := by omega
  rw [e1, e2]
  have : a &&& b < 2 ^ 64 := Nat.and_lt_two_pow a (by omega)
  omega
def hasB (ws : List Int) (p : Nat) : Bool := match ws[p / 64]? with | some w => w.toNat.testBit (p % 64) | none => false
def u64s (ws : List Int) : Prop := ∀ w ∈ ws, u64r w
theorem and_pow (a k : Nat) : a &&& 2 ^ k ≠ 0 ↔ a.testBit k = true := by
  constructor
  · intro h
    cases hc : a.testBit k with
    | true => rfl
    | false =>
      refine absurd (Nat.eq_of_testBit_eq fun i => ?_) h
      rw [Nat.testBit_and, Nat.testBit_two_pow, Nat.zero_testBit]
      by_cases e : k = i
      · subst e; rw [hc]; rfl
      · rw [decide_eq_false e, Bool.and_false]
  · intro h e
    have : (a &&& 2 ^ k).testBit k = false := by rw [e]; exact Nat.zero_testBit _
    rw [Nat.testBit_and, Nat.testBit_two_pow, h] at this
    simp at this
theorem pow_lt {k : Nat} (hk : k < 64) : 2 ^ k < 18446744073709551616 := Nat.pow_lt_pow_right (by decide) hk
theorem flags_Has_eq (s : Sl Int) (p : Nat) (hok : okS 1 s) (hu : u64s s.l) (hp : p < 1000000) : flags_Has s (p : Int) = some (hasB s.l p) := by
  unfold flags_Has flags_within hasB
  simp only [div64n hp, Option.bind_some]
  rw [if_pos (by omega)]
  by_cases h : p / 64 < s.l.length
  · rw [if_pos (by omega)]
    simp only [Option.bind_some, if_true, at_get hok h]
    have hw := hu _ (List.getElem_mem h)
    have hg : s.l[p / 64]? = some s.l[p / 64] := List.getElem?_eq_getElem h
    rw [hg]
    obtain ⟨w, hw2⟩ := Int.eq_ofNat_of_zero_le hw.1
    rw [hw2] at hw ⊢
    have hk : p % 64 < 64 := Nat.mod_lt _ (by decide)
    have hpow := pow_lt hk
    have hb : flags_bit (p : Int) = some ((2 ^ (p % 64) : Nat) : Int) := by
      unfold flags_bit
      simp only [mod64n, Option.bind_some]
      have e : IntKind.u64.wrap ((p % 64 : Nat) : Int) = ((p % 64 : Nat) : Int) := by rw [wrap_u64]; omega
      rw [e]
      unfold shl1 shlI
      rw [if_pos (by omega)]
      have hmin : min (((p % 64 : Nat) : Int)).toNat IntKind.u64.bits = p % 64 := by
        have : IntKind.u64.bits = 64 := rfl
        omega
      rw [hmin, Int.one_mul, wrap_u64]
      simp only [Option.bind_some]
      congr 1
      have : (2 : Int) ^ (p % 64) = ((2 ^ (p % 64) : Nat) : Int) := by simp
      rw [this]
      clear this
      generalize 2 ^ (p % 64) = z at hpow ⊢
      omega
    rw [hb]
    simp only [Option.bind_some]
    rw [and_nat (by have := hw.2; omega) hpow]
    simp only [Int.toNat_natCast]
    have ht := and_pow w (p % 64)
    cases hc : w.testBit (p % 64) with
    | false => rw [hc] at ht; rw [if_neg (fun h => by have := ht.1 (fun e => h (by rw [e]; rfl)); simp at this)]
    | true => rw [hc] at ht; rw [if_pos (by have := ht.2 rfl; omega)]
  · rw [if_neg (by omega)]
    simp only [Option.bind_some, Bool.false_eq_true, if_false]
    rw [List.getElem?_eq_none (by omega)]
theorem ref03_Has_eq (s : Sl Int) (p : Nat) (hok : okS 1 s) (hu : u64s s.l) (hp : p < 1000000) : ref03_Has s (p : Int) = some (hasB s.l p) := by
  unfold ref03_Has hasB
  simp only [div64n hp, Option.bind_some]
  rw [if_pos (by omega)]
  by_cases h : p / 64 < s.l.length
  · rw [if_pos (by omega)]
    simp only [at_get hok h, mod64n, Option.bind_some]
    have hw := hu _ (List.getElem_mem h)
    have hg : s.l[p / 64]? = some s.l[p / 64] := List.getElem?_eq_getElem h
    rw [hg]
    obtain ⟨w, hw2⟩ := Int.eq_ofNat_of_zero_le hw.1
    rw [hw2] at hw ⊢
    have hk : p % 64 < 64 := Nat.mod_lt _ (by decide)
    have e : IntKind.u64.wrap ((p % 64 : Nat) : Int) = ((p % 64 : Nat) : Int) := by rw [wrap_u64]; omega
    rw [e]
    unfold shr1 shrI
    rw [if_pos (by omega)]
    have hmin : min (((p % 64 : Nat) : Int)).toNat IntKind.u64.bits = p % 64 := by
      have : IntKind.u64.bits = 64 := rfl
      omega
    rw [hmin]
    have h2 : Int.fdiv (w : Int) (2 ^ (p % 64)) = ((w / 2 ^ (p % 64) : Nat) : Int) := by
      have : (2 : Int) ^ (p % 64) = ((2 ^ (p % 64) : Nat) : Int) := by simp
      rw [this, Int.fdiv_eq_ediv_of_nonneg _ (Int.natCast_nonneg _)]; rfl
    rw [h2]
    simp only [Option.bind_some]
    have hle : w / 2 ^ (p % 64) ≤ w := Nat.div_le_self _ _
    have h1 : ((1 : Nat) : Int) = 1 := rfl
    rw [← h1, and_nat (by have := hw.2; omega) (by omega), Nat.and_one_is_mod]
    simp only [Int.toNat_natCast]
    rw [Nat.testBit_eq_decide_div_mod_eq]
    by_cases c : w / 2 ^ (p % 64) % 2 = 1
    · rw [if_pos (by omega), decide_eq_true c]
    · rw [if_neg (by omega), decide_eq_false c]
  · rw [if_neg (by omega)]
    rw [List.getElem?_eq_none (by omega)]
theorem u64s_of {s : Sl Int} (h : SlW 1 (fun x => inK .u64 x) s) : u64s s.l := fun x hx => by
  have := h.2.2.2 x hx
  simpa [inK, u64r, Lit.wf, IntKind.min, IntKind.max, IntKind.signed, IntKind.bits] using this
theorem at_mo {α : Type} {w : Nat} {l : List α} {k : Nat} {x : α} (h : l[k]? = some x) : atS w (mo w l) (k : Int) = some x := by
  have hk := (List.getElem?_eq_some_iff.1 h).1
  have := at_get (w := w) (s := mo w l) (ok_mo l) (j := k) (by rw [mo_l]; exact hk)
  rw [this]
  simp only [mo_l]
  rw [← h, List.getElem?_eq_getElem hk]
theorem at_s {α : Type} {w : Nat} {s : Sl α} (hs : okS w s) {k : Nat} {x : α} (h : s.l[k]? = some x) : atS w s (k : Int) = some x := by
  have hk := (List.getElem?_eq_some_iff.1 h).1
  rw [at_get hs hk, ← h, List.getElem?_eq_getElem hk]
theorem hasB_word {ws : List Int} {p i k : Nat} {w : Int} (hp : p / 64 = i) (hk : p % 64 = k) (hw : ws[i]? = some w) : hasB ws p = w.toNat.testBit k := by unfold hasB; rw [hp, hk, hw]
theorem hasB_out {ws : List Int} {p : Nat} (h : ws.length ≤ p / 64) : hasB ws p = false := by unfold hasB; rw [List.getElem?_eq_none h]
theorem ref03_words_eq {n : Int} (h : 0 ≤ n ∧ n ≤ 4096) : ref03_words n = some ((n + 63) / 64) := by
  unfold ref03_words
  rw [if_neg (by omega)]
  by_cases h1 : n < 1
  · rw [if_pos h1]
    obtain rfl : n = 0 := by omega
    rfl
  · rw [if_neg h1, wrap64 (by omega) (by omega)]
    unfold divO
    rw [if_pos (by decide), Int.tdiv_eq_ediv_of_nonneg (by omega), wrap64 (by omega) (by omega)]; rfl
theorem or_nat {a b : Nat} (ha : a < 18446744073709551616) (hb : b < 18446744073709551616) : orI .u64 (a : Int) (b : Int) = ((a ||| b : Nat) : Int) := by
  unfold orI
  have hb' : IntKind.u64.bits = 64 := rfl
  rw [hb', BitVec.toNat_or, BitVec.toNat_ofInt, BitVec.toNat_ofInt, wrap_u64]
  have e1 : ((a : Int) % ((2 ^ 64 : Nat) : Int)).toNat = a := by omega
  have e2 : ((b : Int) % ((2 ^ 64 : Nat) : Int)).toNat = b := by omega
  rw [e1, e2]
  have : a ||| b < 2 ^ 64 := Nat.or_lt_two_pow (by omega) (by omega)
  omega
theorem shl_one {p : Nat} : shl1 .u64 1 (IntKind.u64.wrap ((p % 64 : Nat) : Int)) = some ((2 ^ (p % 64) : Nat) : Int) := by
  have hk : p % 64 < 64 := Nat.mod_lt _ (by decide)
  have hpow := pow_lt hk
  have e : IntKind.u64.wrap ((p % 64 : Nat) : Int) = ((p % 64 : Nat) : Int) := by rw [wrap_u64]; omega
  rw [e]
  unfold shl1 shlI
  rw [if_pos (by omega)]
  have hmin : min (((p % 64 : Nat) : Int)).toNat IntKind.u64.bits = p % 64 := by
    have : IntKind.u64.bits = 64 := rfl
    omega
  rw [hmin, Int.one_mul, wrap_u64]
  congr 1
  have : (2 : Int) ^ (p % 64) = ((2 ^ (p % 64) : Nat) : Int) := by simp
  rw [this]
  clear this
  generalize 2 ^ (p % 64) = z at hpow ⊢
  omega
/-- A set with a place. -/
theorem ref03_Put_eq (ws : List Int) (p : Nat) (hu : u64s ws) (hl : ws.length ≤ 1000) (hp : p / 64 < ws.length) (hp2 : p < 1000000) : ∃ q, ref03_Put ⟨true, 1, ws⟩ (p : Int) = some q ∧ q.length = ws.length ∧ u64s q ∧ ∀ i, hasB q i = (hasB ws i || decide (i = p)) := by
  have hap : app ([] : List Int) ws = some ([] ++ ws) := app_ok (by simp; unfold bound; omega)
  have hw := hu _ (List.getElem_mem hp)
  have hat := at_mo (w := 1) (l := ws) (List.getElem?_eq_getElem hp)
  obtain ⟨w, hw2⟩ := Int.eq_ofNat_of_zero_le hw.1
  rw [hw2] at hw hat
  have hwlt : w < 18446744073709551616 := by have := hw.2; omega
  have hk : p % 64 < 64 := Nat.mod_lt _ (by decide)
  have hpow := pow_lt hk
  have hor := or_nat hwlt hpow
  have horl : w ||| 2 ^ (p % 64) < 2 ^ 64 := Nat.or_lt_two_pow (by omega) (by omega)
  refine ⟨ws.set (p / 64) ((w ||| 2 ^ (p % 64) : Nat) : Int), ?_, by simp, fun x hx => ?_, fun i => ?_⟩
  · unfold ref03_Put ref03_set
    simp only [hap, Option.bind_some, List.nil_append, div64n hp2, mod64n, shl_one, hat, hor, if_true]
    rw [if_neg (by omega), if_neg (by omega), Int.toNat_natCast]; rfl
  · rcases List.mem_or_eq_of_mem_set hx with hx | rfl
    · exact hu x hx
    · unfold u64r; omega
  · by_cases e : i / 64 = p / 64
    · rw [hasB_word (ws := ws.set _ _) e rfl (by rw [List.getElem?_set, if_pos rfl, if_pos hp]), hasB_word e rfl (by rw [List.getElem?_eq_getElem hp, hw2])]
      simp only [Int.toNat_natCast]
      rw [Nat.testBit_or, Nat.testBit_two_pow]
      congr 1
      by_cases e2 : i = p
      · subst e2; simp
      · rw [decide_eq_false e2, decide_eq_false (by omega)]
    · have hne : (ws.set (p / 64) ((w ||| 2 ^ (p % 64) : Nat) : Int))[i / 64]? = ws[i / 64]? := by rw [List.getElem?_set, if_neg (Ne.symm e)]
      have e2 : i ≠ p := fun h => e (by rw [h])
      rw [decide_eq_false e2, Bool.or_false]
      unfold hasB
      rw [hne]
theorem has_zero (k i : Nat) : hasB (List.replicate k 0) i = false := by
  unfold hasB
  rw [List.getElem?_replicate]
  split
  · rename_i h
    split at h
    · simp only [Option.some.injEq] at h; rw [← h]; simp
    · simp at h
  · rfl
/-- A set of some places. -/
theorem ref03_Of_eq {n : Nat} (hn : n ≤ 4096) (s : Sl Int) (hs : okS 1 s) (hl : s.l.length ≤ 9223372036854775807) : ∃ q, ref03_Of (n : Int) s = some q ∧ ((q.length : Nat) : Int) = ((n : Int) + 63) / 64 ∧ u64s q ∧ ∀ i, hasB q i = (decide (i < n) && decide ((i : Int) ∈ s.l)) := by
  have hwd := ref03_words_eq (n := (n : Int)) ⟨by omega, by omega⟩
  have hlo : lenOk (((n : Int) + 63) / 64) = some () := by unfold lenOk bound; rw [if_pos ⟨by omega, by omega⟩]
  unfold ref03_Of ref03_New
  simp only [hwd, hlo, Option.bind_some]
  obtain ⟨q, q1, w, rfl, w1, w2, w3⟩ := loop_up (b := ref03_Of_b1 (n : Int) s) s.l.length (fun j st => ∃ w : List Int, st = (w, (j : Int)) ∧ ((w.length : Nat) : Int) = ((n : Int) + 63) / 64 ∧ u64s w ∧ ∀ i, hasB w i = (decide (i < n) && decide ((i : Int) ∈ s.l.take j))) (fun q => ∃ w : List Int, q = .inl w ∧ ((w.length : Nat) : Int) = ((n : Int) + 63) / 64 ∧ u64s w ∧ ∀ i, hasB w i = (decide (i < n) && decide ((i : Int) ∈ s.l)))
    (by
      rintro j _ hj ⟨w, rfl, g1, g2, g3⟩
      have ej := at_get hs hj
      have htk : s.l.take (j + 1) = s.l.take j ++ [s.l[j]] := by rw [List.take_succ_eq_append_getElem hj]
      rw [htk]
      generalize s.l[j] = x at ej
      simp only [ref03_Of_b1, ej, Option.bind_some, w_succ hj hl]
      rw [if_pos (by omega)]
      have same : ¬ (0 ≤ x ∧ x < (n : Int)) → ∀ i, hasB w i = (decide (i < n) && decide ((i : Int) ∈ s.l.take j ++ [x])) := fun h i => by
        rw [g3 i]
        by_cases hi : i < n
        · rw [decide_eq_true hi]
          simp only [Bool.true_and]
          congr 1
          simp only [List.mem_append, List.mem_cons, List.not_mem_nil, or_false, eq_iff_iff]
          exact ⟨.inl, fun h1 => h1.resolve_right fun e => h (by omega)⟩
        · rw [decide_eq_false hi]; rfl
      by_cases c1 : x ≥ 0
      · rw [if_pos c1]
        by_cases c2 : x < (n : Int)
        · rw [if_pos c2, if_pos (by omega)]
          obtain ⟨p, rfl⟩ := Int.eq_ofNat_of_zero_le c1
          obtain ⟨v, v1, v2, v3, v4⟩ := ref03_Put_eq w p g2 (by omega) (by omega) (by omega)
          rw [v1]
          simp only [Option.bind_some]
          rw [neL_some (by intro h; rw [h] at v2; simp at v2; omega)]
          refine .inl ⟨_, rfl, v, rfl, by rw [v2]; exact g1, v3, fun i => ?_⟩
          rw [v4 i, g3 i]
          by_cases hi : i < n
          · rw [decide_eq_true hi]
            simp only [Bool.true_and, List.mem_append, List.mem_cons, List.not_mem_nil, or_false, Bool.decide_or]
            congr 1
            by_cases e : i = p
            · subst e; simp
            · rw [decide_eq_false e, decide_eq_false (by omega)]
          · rw [decide_eq_false hi, decide_eq_false (show ¬ i = p by omega)]; rfl
        · rw [if_neg c2]
          exact .inl ⟨_, rfl, w, rfl, g1, g2, same (by omega)⟩
      · rw [if_neg c1]
        exact .inl ⟨_, rfl, w, rfl, g1, g2, same (by omega)⟩)
    (by
      rintro _ ⟨w, rfl, g1, g2, g3⟩
      rw [List.take_length] at g3
      refine ⟨.inl w, ?_, w, rfl, g1, g2, g3⟩
      simp only [ref03_Of_b1]
      rw [if_neg (by omega)]) 0 (Nat.zero_le _) (List.replicate (((n : Int) + 63) / 64).toNat 0, 0) ⟨_, rfl, by simp; omega, fun x hx => by rw [List.eq_of_mem_replicate hx]; unfold u64r; omega, fun i => by rw [has_zero]; simp⟩
  exact ⟨w, by rw [q1]; rfl, w1, w2, w3⟩
theorem bit_of_ne {x : Nat} (h : x ≠ 0) : ∃ i, x.testBit i = true := by
  by_cases hh : ∃ i, x.testBit i = true
  · exact hh
  · refine absurd (Nat.eq_of_testBit_eq (y := 0) fun i => ?_) h
    rw [Nat.zero_testBit]
    cases hb : x.testBit i with
    | false => rfl
    | true => exact absurd ⟨i, hb⟩ hh
theorem shr_nat {w k : Nat} (hw : w < 18446744073709551616) (hk : k < 64) : shr1 .u64 (w : Int) (IntKind.u64.wrap ((k : Nat) : Int)) = some ((w / 2 ^ k : Nat) : Int) := by
  have e : IntKind.u64.wrap ((k : Nat) : Int) = ((k : Nat) : Int) := by rw [wrap_u64]; omega
  rw [e]
  unfold shr1 shrI
  rw [if_pos (by omega)]
  have hmin : min (((k : Nat) : Int)).toNat IntKind.u64.bits = k := by
    have : IntKind.u64.bits = 64 := rfl
    omega
  rw [hmin]
  have : (2 : Int) ^ k = ((2 ^ k : Nat) : Int) := by simp
  rw [this, Int.fdiv_eq_ediv_of_nonneg _ (Int.natCast_nonneg _)]; rfl
theorem bit_lt {w k : Nat} (hw : w < 18446744073709551616) (h : w.testBit k = true) : k < 64 := by
  by_cases hk : k < 64
  · exact hk
  · have : w < 2 ^ k := Nat.lt_of_lt_of_le (show w < 2 ^ 64 by omega) (Nat.pow_le_pow_right (by decide) (by omega))
    rw [Nat.testBit_lt_two_pow this] at h; simp at h
theorem TZ_eq {x : Nat} (h0 : x ≠ 0) (h : x < 18446744073709551616) : ∃ k : Nat, TZ (x : Int) = some (k : Int) ∧ k < 64 := by
  unfold TZ
  rw [if_pos (by omega)]
  exact ⟨_, rfl, by simpa using (Lib.lowest_bit 64 x h0 h).2⟩
theorem next_in {n6 j : Int} {w : Nat} (hw : w < 18446744073709551616) (h0 : 0 ≤ n6 ∧ n6 ≤ 100) (h1 : 0 ≤ j ∧ j ≤ 100) : (w = 0 → loopO (flags_Next_b2 n6 j w) () = some (.inr (.inl ()))) ∧ (w ≠ 0 → ∃ z, 0 ≤ z ∧ loopO (flags_Next_b2 n6 j w) () = some (.inl z)) := by
  constructor
  · intro h
    exact loopO_done (by unfold flags_Next_b2; rw [if_neg (by omega)])
  · intro h
    obtain ⟨k, hk, hlt⟩ := TZ_eq h hw
    refine ⟨_, ?_, loopO_done (by unfold flags_Next_b2; rw [if_pos (by omega), hk]; rfl)⟩
    rw [wrap64 (n := n6 + 1) (by omega) (by omega), wrap64 (n := (n6 + 1) * 64) (by omega) (by omega), wrap64 (n := j * 64) (by omega) (by omega), wrap64 (n := j * 64 + (k : Int)) (by omega) (by omega), wrap64 (by omega) (by omega)]
    omega
/-- Is there a place from n on? -/
theorem flags_Next_neg (s : Sl Int) (n : Nat) (hok : okS 1 s) (hu : u64s s.l) (hl : s.l.length ≤ 64) (hn : n ≤ 4096) : ∃ z, flags_Next s (n : Int) = some z ∧ (z < 0 ↔ ∀ p, n ≤ p → hasB s.l p = false) := by
  unfold flags_Next flags_within
  have hm : maxI (n : Int) 0 = n := by unfold maxI; rw [if_neg (by omega)]
  rw [hm]
  simp only [div64n (show n < 1000000 by omega), Option.bind_some, mod64n]
  rw [if_pos (by omega)]
  by_cases h : n / 64 < s.l.length
  · rw [if_pos (by omega)]
    simp only [Option.bind_some, if_true, at_get hok h]
    have hw := hu _ (List.getElem_mem h)
    have hg : s.l[n / 64]? = some s.l[n / 64] := List.getElem?_eq_getElem h
    obtain ⟨w, hw2⟩ := Int.eq_ofNat_of_zero_le hw.1
    rw [hw2] at hw hg ⊢
    have hwlt : w < 18446744073709551616 := by have := hw.2; omega
    rw [shr_nat hwlt (Nat.mod_lt _ (by decide))]
    simp only [Option.bind_some]
    have hle : w / 2 ^ (n % 64) ≤ w := Nat.div_le_self _ _
    have hdv : ∀ i, (w / 2 ^ (n % 64)).testBit i = w.testBit (i + n % 64) := fun i => by rw [Nat.testBit_div_two_pow]
    by_cases h0 : w / 2 ^ (n % 64) = 0
    · rw [if_neg (by omega)]
      have hsame : ∀ p, p / 64 = n / 64 → n ≤ p → hasB s.l p = false := fun p hp hnp => by
        rw [hasB_word hp rfl hg]
        have := hdv (p % 64 - n % 64)
        rw [h0, Nat.zero_testBit, show p % 64 - n % 64 + n % 64 = p % 64 by omega] at this
        simpa using this.symm
      have hcut : cutS 1 s (IntKind.i64.wrap ((n / 64 : Nat) + 1)) ((s.l.length : Nat) : Int) = some ⟨s.nn, s.sz, s.l.drop (n / 64 + 1)⟩ := by
        rw [w_succ h (by omega)]
        unfold cutS
        rw [if_pos ⟨by omega, by omega, by omega, .inl (hok.resolve_left (by intro e; rw [e] at h; simp at h))⟩]
        simp only [Int.toNat_natCast]
        rw [List.take_of_length_le (by simp)]
      rw [hcut]
      simp only [Option.bind_some]
      have hdm : ∀ x ∈ s.l.drop (n / 64 + 1), u64r x := fun x hx => hu x (List.mem_of_mem_drop hx)
      have hdl : (s.l.drop (n / 64 + 1)).length + (n / 64 + 1) = s.l.length := by simp; omega
      have hdg : ∀ i, (s.l.drop (n / 64 + 1))[i]? = s.l[n / 64 + 1 + i]? := fun i => List.getElem?_drop
      generalize s.l.drop (n / 64 + 1) = d at hdm hdl hdg
      have hget : ∀ i (hi : i < d.length) (h2 : n / 64 + 1 + i < s.l.length), d[i] = s.l[n / 64 + 1 + i] := fun i hi h2 => by
        have := hdg i
        rw [List.getElem?_eq_getElem hi, List.getElem?_eq_getElem h2] at this
        exact Option.some.inj this
      obtain ⟨q, q1, q2⟩ := loop_up (b := flags_Next_b1 ((n / 64 : Nat) : Int) ⟨s.nn, s.sz, d⟩) d.length (fun j a => a = (j : Int) ∧ ∀ i (h : i < d.length), i < j → d[i] = 0) (fun q => (∃ z, q = .inl z ∧ 0 ≤ z ∧ ∃ i, ∃ h : i < d.length, d[i] ≠ 0) ∨ (q = .inr (.inl ()) ∧ ∀ i (h : i < d.length), d[i] = 0))
        (by
          rintro j _ hj ⟨rfl, ha⟩
          have hok' : okS 1 (⟨s.nn, s.sz, d⟩ : Sl Int) := .inr (hok.resolve_left (by intro e; rw [e] at h; simp at h))
          have hjl : j < 64 := by omega
          have hv := hdm _ (List.getElem_mem hj)
          simp only [flags_Next_b1, at_get hok' hj, Option.bind_some]
          rw [if_pos (show (j : Int) < ((d.length : Nat) : Int) by omega)]
          obtain ⟨v, hv2⟩ := Int.eq_ofNat_of_zero_le hv.1
          have hvlt : v < 18446744073709551616 := by have := hv.2; omega
          have hin := next_in (n6 := ((n / 64 : Nat) : Int)) (j := (j : Int)) hvlt ⟨by omega, by omega⟩ ⟨by omega, by omega⟩
          rw [hv2]
          by_cases v0 : v = 0
          · rw [hin.1 v0]
            refine .inl ⟨_, rfl, by rw [w_succ hj (by omega)], fun i hi hij => ?_⟩
            by_cases e : i = j
            · subst e; omega
            · exact ha i hi (by omega)
          · obtain ⟨z, z0, hz⟩ := hin.2 v0
            rw [hz]
            exact .inr ⟨_, rfl, .inl ⟨z, rfl, z0, j, hj, by omega⟩⟩)
        (by
          rintro _ ⟨rfl, ha⟩
          refine ⟨_, if_neg (show ¬ ((d.length : Nat) : Int) < ((d.length : Nat) : Int) by omega), .inr ⟨rfl, fun i hi => ha i hi hi⟩⟩) 0 (Nat.zero_le _) 0 ⟨rfl, fun i hi h0 => absurd h0 (by omega)⟩
      rw [q1]
      rcases q2 with ⟨z, rfl, z0, i, hi, hne⟩ | ⟨rfl, hz⟩
      · refine ⟨z, rfl, ?_⟩
        constructor
        · intro hh; omega
        · intro hh
          exfalso
          have hi' : n / 64 + 1 + i < s.l.length := by omega
          rw [hget i hi hi'] at hne
          have hv := hu _ (List.getElem_mem hi')
          obtain ⟨v, hv2⟩ := Int.eq_ofNat_of_zero_le hv.1
          rw [hv2] at hne hv
          obtain ⟨k, hk⟩ := bit_of_ne (x := v) (by omega)
          have hk2 := bit_lt (by have := hv.2; omega) hk
          have := hh (64 * (n / 64 + 1 + i) + k) (by omega)
          rw [hasB_word (i := n / 64 + 1 + i) (k := k) (w := (v : Int)) (by omega) (by omega) (by rw [List.getElem?_eq_getElem hi', hv2])] at this
          simp only [Int.toNat_natCast] at this
          rw [hk] at this; simp at this
      · refine ⟨-1, rfl, ?_⟩
        refine ⟨fun _ p hp => ?_, fun _ => by decide⟩
        by_cases e : p / 64 = n / 64
        · exact hsame p e hp
        · by_cases hlen : p / 64 < s.l.length
          · have hd : p / 64 - (n / 64 + 1) < d.length := by omega
            have := hz _ hd
            rw [hget _ hd (by omega)] at this
            rw [hasB_word (w := 0) rfl rfl (by rw [List.getElem?_eq_getElem hlen, ← this]; congr 2; omega)]
            simp
          · exact hasB_out (by omega)
    · rw [if_pos (by omega)]
      obtain ⟨k, hk, hk2⟩ := TZ_eq h0 (by omega)
      rw [hk]
      refine ⟨_, rfl, ?_⟩
      rw [wrap64 (by omega) (by omega)]
      constructor
      · intro hh; omega
      · intro hh
        exfalso
        obtain ⟨i, hi⟩ := bit_of_ne h0
        rw [hdv] at hi
        have := bit_lt hwlt hi
        have h2 := hh (64 * (n / 64) + (i + n % 64)) (by omega)
        rw [hasB_word (i := n / 64) (k := i + n % 64) (by omega) (by omega) hg] at h2
        simp only [Int.toNat_natCast] at h2
        rw [hi] at h2; simp at h2
  · rw [if_neg (by omega)]
    simp only [Option.bind_some, Bool.false_eq_true, if_false]
    refine ⟨-1, rfl, ?_⟩
    exact ⟨fun _ p hp => hasB_out (by omega), fun _ => by decide⟩
theorem flags_words_eq {n : Int} (h : 0 ≤ n ∧ n ≤ 4096) : flags_words n = some ((n + 63) / 64) := by
  unfold flags_words
  have e1 : maxI n 0 = n := by unfold maxI; rw [if_neg (by omega)]
  have e2 : minI n 4096 = n := by unfold minI; rw [if_neg (by omega)]
  rw [e1, e2, wrap64 (by omega) (by omega)]
  unfold divO
  rw [if_pos (by decide), Int.tdiv_eq_ediv_of_nonneg (by omega), wrap64 (by omega) (by omega)]; rfl
/-- All places of a set. -/
def placesL (ws : List Int) : List Int := ((List.range (64 * ws.length)).filter (hasB ws)).map fun p : Nat => (p : Int)
def sizeF (n : Int) : Bool := decide (0 ≤ n) && decide (n ≤ 4096)
/-- Are bits a set of n places? -/
def rightF (ws : List Int) (n : Int) : Bool := sizeF n && (decide ((ws.length : Int) = (n + 63) / 64) && (placesL ws).all fun p => decide (p < n))
theorem places_mem {ws : List Int} {p : Int} : p ∈ placesL ws ↔ 0 ≤ p ∧ hasB ws p.toNat = true := by
  unfold placesL
  simp only [List.mem_map, List.mem_filter, List.mem_range]
  constructor
  · rintro ⟨q, ⟨h1, h2⟩, rfl⟩; exact ⟨by omega, by simpa using h2⟩
  · rintro ⟨h1, h2⟩
    refine ⟨p.toNat, ⟨?_, h2⟩, by omega⟩
    by_cases hh : p.toNat < 64 * ws.length
    · exact hh
    · rw [hasB_out (by omega)] at h2; simp at h2
theorem flags_Right_eq (s : Sl Int) (n : Int) (hok : okS 1 s) (hu : u64s s.l) (hl : s.l.length ≤ 9223372036854775807) : flags_Right s n = some (rightF s.l n) := by
  unfold flags_Right rightF sizeF
  by_cases h1 : 0 ≤ n
  · rw [if_pos (show n ≥ 0 from h1), decide_eq_true h1]
    by_cases h2 : n ≤ 4096
    · rw [if_pos h2, decide_eq_true h2, flags_words_eq ⟨h1, h2⟩]
      simp only [Option.bind_some, Bool.and_self, Bool.true_and]
      by_cases h3 : ((s.l.length : Nat) : Int) = (n + 63) / 64
      · rw [if_pos h3, decide_eq_true h3]
        obtain ⟨k, rfl⟩ := Int.eq_ofNat_of_zero_le h1
        obtain ⟨z, z1, z2⟩ := flags_Next_neg s k hok hu (by omega) (by omega)
        rw [z1]
        simp only [Option.bind_some, Bool.true_and]
        have key : (placesL s.l).all (fun p => decide (p < (k : Int))) = true ↔ z < 0 := by
          rw [z2, List.all_eq_true]
          constructor
          · intro h p hp
            cases hb : hasB s.l p with
            | false => rfl
            | true => have := h (p : Int) (places_mem.2 ⟨by omega, by simpa using hb⟩); simp at this; omega
          · intro h p hp
            obtain ⟨p0, p1⟩ := places_mem.1 hp
            rw [decide_eq_true_eq]
            by_cases hh : p < (k : Int)
            · exact hh
            · rw [h p.toNat (by omega)] at p1; simp at p1
        by_cases hz : z < 0
        · rw [if_pos hz, key.2 hz]
        · rw [if_neg hz, Bool.eq_false_iff.2 fun e => hz (key.1 e)]
      · rw [if_neg h3, decide_eq_false h3]; simp
    · rw [if_neg h2, decide_eq_false h2]; simp
  · rw [if_neg (show ¬ n ≥ 0 from h1), decide_eq_false h1]; simp
theorem range_filter_succ (f : Nat → Bool) (j : Nat) : (List.range (j + 1)).filter f = (List.range j).filter f ++ (if f j = true then [j] else []) := by
  rw [List.range_succ, List.filter_append]
  congr 1
  cases hf : f j <;> simp [hf]
theorem ref03_List_eq (s : Sl Int) (hok : okS 1 s) (hu : u64s s.l) (hl : s.l.length ≤ 1000) : ref03_List s = some (placesL s.l) := by
  unfold ref03_List
  obtain ⟨q, q1, q2⟩ := loop_up (b := ref03_List_b1 s) (64 * s.l.length) (fun j a => a = (((List.range j).filter (hasB s.l)).map (fun p : Nat => (p : Int)), (j : Int))) (fun q => q = .inl (placesL s.l))
    (by
      rintro j _ hj rfl
      have hh := ref03_Has_eq s j hok hu (by omega)
      have hlen : (((List.range j).filter (hasB s.l)).map (fun p : Nat => (p : Int))).length ≤ 100000 := by
        have h1 := List.length_filter_le (hasB s.l) (List.range j)
        simp only [List.length_map, List.length_range] at h1 ⊢; omega
      have hap : app (((List.range j).filter (hasB s.l)).map (fun p : Nat => (p : Int))) [(j : Int)] = some (((List.range j).filter (hasB s.l)).map (fun p : Nat => (p : Int)) ++ [(j : Int)]) := app_ok (by simp at hlen ⊢; unfold bound; omega)
      simp only [ref03_List_b1, hh, Option.bind_some, w_succ hj (by omega)]
      rw [wrap64 (n := 64 * ((s.l.length : Nat) : Int)) (by omega) (by omega), if_pos (by omega)]
      refine .inl ?_
      rw [range_filter_succ]
      cases hb : hasB s.l j with
      | true =>
        rw [if_pos rfl, hap]
        exact ⟨_, rfl, by simp⟩
      | false => exact ⟨_, rfl, by simp⟩)
    (by
      rintro _ rfl
      refine ⟨.inl (placesL s.l), ?_, rfl⟩
      simp only [ref03_List_b1]
      rw [wrap64 (n := 64 * ((s.l.length : Nat) : Int)) (by omega) (by omega), if_neg (by omega)]
      rfl) 0 (Nat.zero_le _) ([], 0) rfl
  rw [q1, q2]; rfl
/-- Places rise. -/
theorem places_sorted (ws : List Int) : (placesL ws).Pairwise (· < ·) := by
  unfold placesL
  rw [List.pairwise_map]
  refine List.Pairwise.imp (R := (· < ·)) (fun h => by omega) ?_
  exact List.Pairwise.sublist (List.filter_sublist) List.pairwise_lt_range
theorem places_len (ws : List Int) : (placesL ws).length ≤ 64 * ws.length := by
  unfold placesL
  have h1 := List.length_filter_le (hasB ws) (List.range (64 * ws.length))
  simp only [List.length_map, List.length_range] at h1 ⊢; omega
theorem ref03_Right_eq (s : Sl Int) (n : Int) (hok : okS 1 s) (hu : u64s s.l) (hl : s.l.length ≤ 9223372036854775807) : ref03_Right s n = some (rightF s.l n) := by
  unfold ref03_Right rightF sizeF
  by_cases h1 : n < 0
  · rw [if_pos h1, decide_eq_false (show ¬ 0 ≤ n by omega)]; simp
  by_cases h2 : n > 4096
  · rw [if_neg h1, if_pos h2, decide_eq_false (show ¬ n ≤ 4096 by omega)]; simp
  rw [if_neg h1, if_neg h2, decide_eq_true (show 0 ≤ n by omega), decide_eq_true (show n ≤ 4096 by omega), ref03_words_eq ⟨by omega, by omega⟩]
  simp only [Option.bind_some, Bool.and_self, Bool.true_and]
  by_cases h3 : ((s.l.length : Nat) : Int) = (n + 63) / 64
  · rw [if_neg (fun h => h h3), decide_eq_true h3, ref03_List_eq s hok hu (by omega)]
    simp only [Option.bind_some, Bool.true_and]
    have hsort := places_sorted s.l
    have hlen := places_len s.l
    generalize placesL s.l = l at hsort hlen
    by_cases h4 : l = []
    · subst h4; rw [if_pos (by simp)]; rfl
    · have h5 : 0 < l.length := List.length_pos_iff.2 h4
      rw [if_neg (by omega), wrap64 (by omega) (by omega), show ((l.length : Nat) : Int) - 1 = ((l.length - 1 : Nat) : Int) by omega]
      have hml : (mo 1 l).l = l := mo_l _ _
      have ha := at_get (w := 1) (s := mo 1 l) (ok_mo l) (j := l.length - 1) (by rw [hml]; omega)
      rw [ha]
      simp only [Option.bind_some, hml]
      have key : l.all (fun p => decide (p < n)) = true ↔ l[l.length - 1] < n := by
        rw [List.all_eq_true]
        constructor
        · intro h; simpa using h _ (List.getElem_mem (by omega : l.length - 1 < l.length))
        · intro h p hp
          obtain ⟨i, hi, rfl⟩ := List.mem_iff_getElem.1 hp
          rw [decide_eq_true_eq]
          by_cases e : i = l.length - 1
          · subst e; exact h
          · have := List.pairwise_iff_getElem.1 hsort i (l.length - 1) hi (by omega) (by omega)
            omega
      by_cases hz : l[l.length - 1] < n
      · rw [if_pos hz, key.2 hz]
      · rw [if_neg hz, Bool.eq_false_iff.2 fun e => hz (key.1 e)]
  · rw [if_pos h3, decide_eq_false h3]; simp
/-- Can a dense vector be? -/
def rightD (d : Int × Sl Int × Sl Int) : Bool := rightF d.2.1.l d.1 && (decide ((d.2.2.l.length : Int) = d.1) && (List.range d.2.2.l.length).all fun i => decide (d.2.2.l.getD i 0 = 0) || hasB d.2.1.l i)
theorem getD_lt {l : List Int} {i : Nat} (h : i < l.length) : l.getD i 0 = l[i] := by rw [List.getD_eq_getElem?_getD, List.getElem?_eq_getElem h]; rfl
theorem all_range {n : Nat} {f : Nat → Bool} : (List.range n).all f = true ↔ ∀ i, i < n → f i = true := by
  rw [List.all_eq_true]
  exact ⟨fun h i hi => h i (by simpa using hi), fun h i hi => h i (by simpa using hi)⟩
theorem all_false {n : Nat} {f : Nat → Bool} {i : Nat} (hi : i < n) (h : f i = false) : (List.range n).all f = false := by
  rw [Bool.eq_false_iff]; intro e; have := all_range.1 e i hi; rw [h] at this; simp at this
structure OkD (d : Int × Sl Int × Sl Int) : Prop where
  has : okS 1 d.2.1
  bits : u64s d.2.1.l
  vals : okS 1 d.2.2
  v64 : ∀ x ∈ d.2.2.l, i64r x
  hl : d.2.1.l.length ≤ 9223372036854775807
  vl : d.2.2.l.length ≤ 9223372036854775807
theorem devec_Right_eq {d : Int × Sl Int × Sl Int} (h : OkD d) : devec_Right d = some (rightD d) := by
  obtain ⟨n, s, t⟩ := d
  obtain ⟨h1, h2, h3, h4, h5, h6⟩ := h
  simp only at h1 h2 h3 h4 h5 h6
  unfold devec_Right rightD
  simp only [flags_Right_eq s n h1 h2 h5, Option.bind_some]
  cases hr : rightF s.l n with
  | false => simp
  | true =>
    simp only [if_true, Bool.true_and]
    by_cases hn : ((t.l.length : Nat) : Int) = n
    · rw [if_neg (fun h => h hn), decide_eq_true hn]
      simp only [Bool.true_and]
      have hb : n ≤ 4096 := by unfold rightF sizeF at hr; simp only [Bool.and_eq_true, decide_eq_true_eq] at hr; exact hr.1.2
      obtain ⟨q, q1, q2⟩ := loop_up (b := devec_Right_b1 s t) t.l.length (fun j a => a = (j : Int) ∧ ∀ i, i < j → (decide (t.l.getD i 0 = 0) || hasB s.l i) = true) (fun q => ((List.range t.l.length).all (fun i => decide (t.l.getD i 0 = 0) || hasB s.l i) = true ∧ q = .inl ()) ∨ ((List.range t.l.length).all (fun i => decide (t.l.getD i 0 = 0) || hasB s.l i) = false ∧ q = .inr false))
        (by
          rintro j _ hj ⟨rfl, ha⟩
          have hh := flags_Has_eq s j h1 h2 (by omega)
          have hd := getD_lt hj
          simp only [devec_Right_b1, at_get h3 hj, Option.bind_some, hh, w_succ hj (by omega)]
          rw [if_pos (by omega)]
          have next : (decide (t.l.getD j 0 = 0) || hasB s.l j) = true → ∀ i, i < j + 1 → (decide (t.l.getD i 0 = 0) || hasB s.l i) = true := fun h i hi => by
            by_cases e : i = j
            · rw [e]; exact h
            · exact ha i (by omega)
          by_cases h0 : t.l[j] = 0
          · rw [if_neg (fun h => h h0)]
            exact .inl ⟨_, rfl, rfl, next (by rw [hd, decide_eq_true h0]; rfl)⟩
          · rw [if_pos h0]
            cases hb : hasB s.l j with
            | true => exact .inl ⟨_, rfl, rfl, next (by rw [hb]; simp)⟩
            | false => exact .inr ⟨_, rfl, .inr ⟨all_false hj (by rw [hd, hb, decide_eq_false h0]; rfl), rfl⟩⟩)
        (by
          rintro _ ⟨rfl, ha⟩
          exact ⟨_, if_neg (by omega), .inl ⟨all_range.2 ha, rfl⟩⟩) 0 (Nat.zero_le _) 0 ⟨rfl, fun i hi => absurd hi (by omega)⟩
      rw [q1]
      rcases q2 with ⟨e, rfl⟩ | ⟨e, rfl⟩ <;> rw [e] <;> rfl
    · rw [if_pos hn, decide_eq_false hn]; simp
theorem ref10_Right_eq {d : Int × Sl Int × Sl Int} (h : OkD d) : ref10_Right d = some (rightD d) := by
  obtain ⟨n, s, t⟩ := d
  obtain ⟨h1, h2, h3, h4, h5, h6⟩ := h
  simp only at h1 h2 h3 h4 h5 h6
  unfold ref10_Right rightD
  simp only
  have hsz : rightF s.l n = true → 0 ≤ n ∧ n ≤ 4096 := fun hr => by unfold rightF sizeF at hr; simp only [Bool.and_eq_true, decide_eq_true_eq] at hr; exact hr.1
  by_cases z1 : n < 0
  · rw [if_pos z1]
    cases hr : rightF s.l n with
    | false => rfl
    | true => have := hsz hr; omega
  by_cases z2 : n > 4096
  · rw [if_neg z1, if_pos z2]
    cases hr : rightF s.l n with
    | false => rfl
    | true => have := hsz hr; omega
  rw [if_neg z1, if_neg z2, ref03_Right_eq s n h1 h2 h5]
  simp only [Option.bind_some]
  cases hr : rightF s.l n with
  | false => simp
  | true =>
    simp only [if_true, Bool.true_and]
    by_cases hn : ((t.l.length : Nat) : Int) = n
    · rw [if_neg (fun h => h hn), decide_eq_true hn]
      simp only [Bool.true_and]
      obtain ⟨q, q1, q2⟩ := loop_up (b := ref10_Right_b1 n s t) t.l.length (fun j a => a = (j : Int) ∧ ∀ i, i < j → (decide (t.l.getD i 0 = 0) || hasB s.l i) = true) (fun q => ((List.range t.l.length).all (fun i => decide (t.l.getD i 0 = 0) || hasB s.l i) = true ∧ q = .inl ()) ∨ ((List.range t.l.length).all (fun i => decide (t.l.getD i 0 = 0) || hasB s.l i) = false ∧ q = .inr false))
        (by
          rintro j _ hj ⟨rfl, ha⟩
          have hh := ref03_Has_eq s j h1 h2 (by omega)
          have hd := getD_lt hj
          simp only [ref10_Right_b1, at_get h3 hj, Option.bind_some, hh, w_succ hj (by omega)]
          rw [if_pos (by omega)]
          have next : (decide (t.l.getD j 0 = 0) || hasB s.l j) = true → ∀ i, i < j + 1 → (decide (t.l.getD i 0 = 0) || hasB s.l i) = true := fun h i hi => by
            by_cases e : i = j
            · rw [e]; exact h
            · exact ha i (by omega)
          cases hb : hasB s.l j with
          | true => exact .inl ⟨_, rfl, rfl, next (by rw [hb]; simp)⟩
          | false =>
            simp only [Bool.false_eq_true, if_false]
            by_cases h0 : t.l[j] = 0
            · rw [if_neg (fun h => h h0)]
              exact .inl ⟨_, rfl, rfl, next (by rw [hd, decide_eq_true h0]; rfl)⟩
            · rw [if_pos h0]
              exact .inr ⟨_, rfl, .inr ⟨all_false hj (by rw [hd, hb, decide_eq_false h0]; rfl), rfl⟩⟩)
        (by
          rintro _ ⟨rfl, ha⟩
          exact ⟨_, if_neg (by omega), .inl ⟨all_range.2 ha, rfl⟩⟩) 0 (Nat.zero_le _) 0 ⟨rfl, fun i hi => absurd hi (by omega)⟩
      rw [q1]
      rcases q2 with ⟨e, rfl⟩ | ⟨e, rfl⟩ <;> rw [e] <;> rfl
    · rw [if_pos hn, decide_eq_false hn]; simp
/-- The items of a dense vector. -/
def backL (ws vs : List Int) : List It := (placesL ws).map fun p => (p, vs.getD p.toNat 0)
def backV (d : Int × Sl Int × Sl Int) : Int × Sl It := if rightD d = true then (d.1, mo 2 (backL d.2.1.l d.2.2.l)) else (0, nilS)
theorem rightD_spec {d : Int × Sl Int × Sl Int} (h : rightD d = true) : 0 ≤ d.1 ∧ d.1 ≤ 4096 ∧ (d.2.1.l.length : Int) = (d.1 + 63) / 64 ∧ (∀ p ∈ placesL d.2.1.l, 0 ≤ p ∧ p < d.1) ∧ (d.2.2.l.length : Int) = d.1 := by
  unfold rightD rightF sizeF at h
  simp only [Bool.and_eq_true, decide_eq_true_eq, List.all_eq_true] at h
  obtain ⟨⟨⟨a, b⟩, c, e⟩, f, g⟩ := h
  exact ⟨a, b, c, fun p hp => ⟨(places_mem.1 hp).1, e p hp⟩, f⟩
theorem asc_map {n : Int} (f : Int → Int) : ∀ {l : List Int} {a : Int}, l.Pairwise (· < ·) → (∀ p ∈ l, a < p ∧ p < n) → asc a n (l.map fun p => (p, f p)) = true
  | [], a, _, _ => rfl
  | x :: l, a, h1, h2 => by
    rw [List.pairwise_cons] at h1
    have hx := h2 x List.mem_cons_self
    simp only [List.map_cons, asc, Bool.and_eq_true, decide_eq_true_eq]
    exact ⟨hx, asc_map f h1.2 fun p hp => ⟨h1.1 p hp, (h2 p (List.mem_cons_of_mem _ hp)).2⟩⟩
theorem back_right {d : Int × Sl Int × Sl Int} (h : rightD d = true) : rightB (d.1, mo 2 (backL d.2.1.l d.2.2.l)) = true := by
  obtain ⟨h1, h2, h3, h4, h5⟩ := rightD_spec h
  simp only [rightB, sizeB, mo_l, Bool.and_eq_true, decide_eq_true_eq]
  exact ⟨⟨h1, h2⟩, asc_map _ (places_sorted _) fun p hp => ⟨by have := (h4 p hp).1; omega, (h4 p hp).2⟩⟩
theorem getI_map {f : Int → Int} {p : Int} : ∀ {l : List Int}, getI p (l.map fun q => (q, f q)) = if p ∈ l then some (f p) else none
  | [] => by simp [getI]
  | x :: l => by
    simp only [List.map_cons, getI]
    by_cases e : x = p
    · subst e; simp
    · rw [if_neg e, getI_map]
      simp [Ne.symm e]
/-- What a dense vector has at a place. -/
def denB (d : Int × Sl Int × Sl Int) (k : Int) : Option Int := if 0 ≤ k ∧ hasB d.2.1.l k.toNat = true then some (d.2.2.l.getD k.toNat 0) else none
theorem back_get (d : Int × Sl Int × Sl Int) (k : Int) : getI k (backL d.2.1.l d.2.2.l) = denB d k := by
  unfold backL denB
  rw [getI_map (f := fun p => d.2.2.l.getD p.toNat 0)]
  by_cases h : 0 ≤ k ∧ hasB d.2.1.l k.toNat = true
  · rw [if_pos (places_mem.2 h), if_pos h]
  · rw [if_neg (fun e => h (places_mem.1 e)), if_neg h]
theorem ref10_Back_eq {d : Int × Sl Int × Sl Int} (h : OkD d) : ref10_Back d = some (backV d) := by
  have hR := ref10_Right_eq h
  obtain ⟨n, s, t⟩ := d
  obtain ⟨h1, h2, h3, h4, h5, h6⟩ := h
  simp only at h1 h2 h3 h4 h5 h6
  unfold ref10_Back backV
  simp only [hR, Option.bind_some]
  cases hr : rightD (n, s, t) with
  | false => rfl
  | true =>
    obtain ⟨r1, r2, r3, r4, r5⟩ := rightD_spec hr
    simp only at r1 r2 r3 r4 r5
    simp only [if_true]
    rw [ref03_List_eq s h1 h2 (by omega)]
    simp only [Option.bind_some]
    have hlen := places_len s.l
    unfold backL
    generalize placesL s.l = l at r4 hlen
    obtain ⟨q, q1, q2⟩ := loop_up (b := ref10_Back_b1 t l) l.length (fun j a => a = ((j : Int), (l.take j).map fun p => (p, t.l.getD p.toNat 0))) (fun q => q = .inl (l.map fun p => (p, t.l.getD p.toNat 0)))
      (by
        rintro j _ hj rfl
        have hml : (mo 1 l).l = l := mo_l _ _
        have ha := at_get (w := 1) (s := mo 1 l) (ok_mo l) (j := j) (by rw [hml]; exact hj)
        have hp := r4 _ (List.getElem_mem hj)
        have hk : l[j].toNat < t.l.length := by omega
        have hb := at_get (w := 1) (s := t) h3 hk
        rw [show ((l[j].toNat : Nat) : Int) = l[j] by omega] at hb
        have hlen2 : ((l.take j).map fun p => (p, t.l.getD p.toNat 0)).length ≤ 100000 := by simp; omega
        have hap : app ((l.take j).map fun p => (p, t.l.getD p.toNat 0)) [(l[j], t.l[l[j].toNat])] = some ((l.take j).map (fun p => (p, t.l.getD p.toNat 0)) ++ [(l[j], t.l[l[j].toNat])]) := app_ok (by simp at hlen2 ⊢; unfold bound; omega)
        simp only [ref10_Back_b1, ha, hml, hb, Option.bind_some, hap, w_succ hj (by omega)]
        rw [if_pos (by omega)]
        refine .inl ⟨_, rfl, ?_⟩
        rw [List.take_succ_eq_append_getElem hj, List.map_append, List.map_cons, List.map_nil, getD_lt hk])
      (by
        rintro _ rfl
        refine ⟨_, if_neg (by omega), ?_⟩
        rw [List.take_length]) 0 (Nat.zero_le _) (0, []) rfl
    rw [q1, q2]; rfl
abbrev Dn := Int × Sl Int × Sl Int
def sureD (d : Dn) : Dn := if rightD d = true then d else (0, nilS, nilS)
theorem sureD_right (d : Dn) : rightD (sureD d) = true := by unfold sureD; split; assumption; rfl
theorem sureD_ok {d : Dn} (h : OkD d) : OkD (sureD d) := by
  unfold sureD
  split
  · exact h
  · exact ⟨ok_nil, fun x hx => by simp [nilS] at hx, ok_nil, fun x hx => by simp [nilS] at hx, by simp [nilS], by simp [nilS]⟩
theorem getI_in {p y : Int} : ∀ {l : List It}, getI p l = some y → (p, y) ∈ l
  | x :: l, h => by
    unfold getI at h
    split at h
    · rename_i e
      simp only [Option.some.injEq] at h
      rw [← e, ← h]; exact List.mem_cons_self
    · exact List.mem_cons_of_mem _ (getI_in h)
theorem sizeF_iff2 {n : Int} : sizeF n = true ↔ 0 ≤ n ∧ n ≤ 4096 := by unfold sizeF; simp
def tabM (n : Nat) (f : Nat → Int) : List Int := (List.range n).map f
theorem tabM_len (n : Nat) (f : Nat → Int) : (tabM n f).length = n := by unfold tabM; simp
theorem tabM_get {n k : Nat} (f : Nat → Int) (h : k < n) : (tabM n f)[k]? = some (f k) := by
  unfold tabM
  rw [List.getElem?_map, List.getElem?_range h]; rfl
theorem tabM_getD {n k : Nat} (f : Nat → Int) (h : k < n) : (tabM n f).getD k 0 = f k := by rw [List.getD_eq_getElem?_getD, tabM_get f h]; rfl
theorem tabM_set {n k : Nat} (f : Nat → Int) (v : Int) (h : k < n) : (tabM n f).set k v = tabM n fun i => if i = k then v else f i := by
  refine List.ext_getElem? fun i => ?_
  rw [List.getElem?_set]
  by_cases hi : i < n
  · by_cases e : k = i
    · subst e; rw [if_pos rfl, if_pos (by rw [tabM_len]; omega), tabM_get _ hi, if_pos rfl]
    · rw [if_neg e, tabM_get _ hi, tabM_get _ hi, if_neg (Ne.symm e)]
  · rw [if_neg (by omega)]
    rw [List.getElem?_eq_none (by rw [tabM_len]; omega), List.getElem?_eq_none (by rw [tabM_len]; omega)]
theorem tabM_congr {n : Nat} {f g : Nat → Int} (h : ∀ k, k < n → f k = g k) : tabM n f = tabM n g := by
  unfold tabM
  refine List.map_congr_left fun k hk => h k ?_
  simpa using hk
theorem tabM_zero (n : Nat) : List.replicate n (0 : Int) = tabM n fun _ => 0 := by
  refine List.ext_getElem? fun i => ?_
  by_cases hi : i < n
  · rw [tabM_get _ hi, List.getElem?_replicate, if_pos hi]
  · rw [List.getElem?_eq_none (by simp; omega), List.getElem?_eq_none (by rw [tabM_len]; omega)]
theorem tabM_mem {n : Nat} {f : Nat → Int} {x : Int} (h : x ∈ tabM n f) : ∃ k, k < n ∧ f k = x := by
  unfold tabM at h
  obtain ⟨k, hk, rfl⟩ := List.mem_map.1 h
  exact ⟨k, by simpa using hk, rfl⟩
theorem mem_places {p : Int} {l : List It} : p ∈ l.map (·.1) ↔ ∃ y, getI p l = some y := by
  induction l with
  | nil => simp [getI]
  | cons x l ih =>
    simp only [List.map_cons, List.mem_cons, getI]
    by_cases h : x.1 = p
    · rw [if_pos h]; exact ⟨fun _ => ⟨_, rfl⟩, fun _ => .inl h.symm⟩
    · rw [if_neg h, ← ih]; exact ⟨fun h1 => h1.resolve_left (Ne.symm h), .inr⟩
/-- A vector as a dense one. -/
theorem ref10_Of_eq {k : Int} {t : Sl It} (h : GoodV (k, t)) : ∃ d : Dn, ref10_Of (k, t) = some d ∧ OkD d ∧ rightD d = true ∧ d.1 = k ∧ ∀ p, denB d p = getI p t.l := by
  have hz := right_size h.1
  have hlen := right_len h.1
  simp only at hlen
  obtain ⟨n, rfl⟩ := Int.eq_ofNat_of_zero_le hz.1
  have hnew : ref03_New (n : Int) = some (List.replicate (((n : Int) + 63) / 64).toNat 0) := by
    unfold ref03_New
    have hlo : lenOk (((n : Int) + 63) / 64) = some () := by unfold lenOk bound; rw [if_pos ⟨by omega, by omega⟩]
    simp only [ref03_words_eq (n := (n : Int)) ⟨by omega, by omega⟩, hlo, Option.bind_some]
  have hlo : lenOk (n : Int) = some () := by unfold lenOk bound; rw [if_pos ⟨by omega, by omega⟩]
  have hok : okS 2 t := h.2.1
  unfold ref10_Of
  simp only [ref09_Sure_eq ((n : Int), t) hok (show t.l.length ≤ _ by omega), sure_id h.1, Option.bind_some, hnew, hlo, Int.toNat_natCast]
  rw [if_neg (by omega), if_neg (by omega), tabM_zero]
  obtain ⟨q, q1, q2⟩ := loop_up (b := ref10_Of_b3 t) t.l.length (fun j st => st = ((t.l.take j).map (·.1), (j : Int), tabM n fun p => (getI (p : Int) (t.l.take j)).getD 0)) (fun q => q = .inl (t.l.map (·.1), tabM n fun p => (getI (p : Int) t.l).getD 0))
    (by
      rintro j _ hj rfl
      have ej := at_get hok hj
      have hx := right_at h.1 hj
      have htk := getI_take h.1 hj
      rw [List.take_succ_eq_append_getElem hj]
      generalize t.l[j] = x at ej hx htk
      obtain ⟨x1, x2⟩ := x
      simp only at hx htk
      obtain ⟨p, rfl⟩ := Int.eq_ofNat_of_zero_le hx.1
      have ap : app ((t.l.take j).map (·.1)) [(p : Int)] = some ((t.l.take j).map (·.1) ++ [(p : Int)]) := app_ok (by simp; unfold bound; omega)
      have hat : atL (tabM n fun p => (getI (p : Int) (t.l.take j)).getD 0) (p : Int) = some ((getI (p : Int) (t.l.take j)).getD 0) := by
        unfold atL; rw [if_pos (by omega), Int.toNat_natCast, tabM_get _ (by omega)]
      simp only [ref10_Of_b3, ej, Option.bind_some, ap, hat, Int.toNat_natCast, w_succ hj (by omega)]
      rw [if_pos (by omega), tabM_set _ _ (by omega)]
      refine .inl ⟨_, rfl, ?_⟩
      rw [List.map_append]
      simp only [List.map_cons, List.map_nil, Prod.mk.injEq, true_and]
      refine tabM_congr fun i hi => ?_
      rw [getI_append]
      by_cases e : i = p
      · subst e; rw [if_pos rfl, htk]; simp [getI]
      · rw [if_neg e]
        have : getI (i : Int) [((p : Int), x2)] = none := by unfold getI; rw [if_neg (by omega)]; rfl
        rw [this]
        cases getI (i : Int) (t.l.take j) <;> rfl)
    (by
      rintro _ rfl
      refine ⟨.inl (t.l.map (·.1), tabM n fun p => (getI (p : Int) t.l).getD 0), ?_, rfl⟩
      simp only [ref10_Of_b3]
      rw [if_neg (by omega), List.take_length]) 0 (Nat.zero_le _) ([], 0, tabM n fun _ => 0) rfl
  rw [q1, q2]
  obtain ⟨w, w1, w2, w3, w4⟩ := ref03_Of_eq (n := n) (by omega) (mo 1 (t.l.map (·.1))) (ok_mo _) (by rw [mo_l]; simp; omega)
  simp only [Option.bind_some, Sum.elim_inl, w1]
  rw [mo_l] at w4
  have hbit : ∀ p : Nat, hasB w p = (getI (p : Int) t.l).isSome := fun p => by
    rw [w4 p]
    cases hg : getI (p : Int) t.l with
    | none =>
      rw [decide_eq_false (p := (p : Int) ∈ t.l.map (·.1)) (fun hm => by obtain ⟨y, hy⟩ := mem_places.1 hm; rw [hg] at hy; simp at hy)]; simp
    | some y =>
      have hm := mem_places.2 ⟨y, hg⟩
      rw [decide_eq_true hm]
      have : p < n := by
        obtain ⟨x, hx, hxp⟩ := List.mem_map.1 hm
        obtain ⟨j, hj, rfl⟩ := List.mem_iff_getElem.1 hx
        have := right_at h.1 hj
        omega
      rw [decide_eq_true this]; rfl
  refine ⟨_, rfl, ⟨.inr rfl, w3, .inr rfl, fun x hx => ?_, show w.length ≤ _ by omega, by simp only [tabM_len]; omega⟩, ?_, rfl, fun p => ?_⟩
  · obtain ⟨k, hk, rfl⟩ := tabM_mem hx
    cases hg : getI (k : Int) t.l with
    | none => simp [i64r]
    | some y => exact h.2.2 _ (getI_in hg)
  · unfold rightD rightF
    simp only [mo_l, tabM_len, Bool.and_eq_true, decide_eq_true_eq, List.all_eq_true]
    refine ⟨⟨sizeF_iff2.2 ⟨by omega, by omega⟩, w2, fun p hp => ?_⟩, trivial, fun i hi => ?_⟩
    · obtain ⟨p0, p1⟩ := places_mem.1 hp
      rw [w4] at p1
      simp only [Bool.and_eq_true, decide_eq_true_eq] at p1
      omega
    · have hi' : i < n := by simpa using hi
      rw [tabM_getD _ hi', hbit]
      cases getI (i : Int) t.l <;> simp
  · unfold denB
    simp only [mo_l]
    by_cases hp : 0 ≤ p
    · obtain ⟨p, rfl⟩ := Int.eq_ofNat_of_zero_le hp
      simp only [Int.toNat_natCast]
      rw [hbit]
      cases hg : getI (p : Int) t.l with
      | none => simp
      | some y =>
        have : p < n := by
          obtain ⟨x, hx, hxp⟩ := List.mem_map.1 (mem_places.2 ⟨y, hg⟩)
          obtain ⟨j, hj, rfl⟩ := List.mem_iff_getElem.1 hx
          have := right_at h.1 hj
          omega
        rw [if_pos ⟨hp, rfl⟩, tabM_getD _ this, hg]; rfl
    · rw [if_neg (fun hh => hp hh.1)]
      refine (getI_none fun x hx e => ?_).symm
      obtain ⟨j, hj, rfl⟩ := List.mem_iff_getElem.1 hx
      have := right_at h.1 hj
      omega
theorem GoodV.len {v : Int × Sl It} (h : GoodV v) : v.2.l.length ≤ 4096 := right_len h.1
theorem FL_eq : FL = some true := rfl
/-- A dense vector has `f` at its places. -/
structure DV (d : Dn) (n : Nat) (f : Nat → Option Int) : Prop where
  num : d.1 = (n : Int)
  le : n ≤ 4096
  has : okS 1 d.2.1
  bits : u64s d.2.1.l
  len : d.2.1.l.length = (n + 63) / 64
  vals : okS 1 d.2.2
  vl : d.2.2.l = tabM n fun p => (f p).getD 0
  at_ : ∀ p, hasB d.2.1.l p = (f p).isSome
  none_ : ∀ p, n ≤ p → f p = none
  v64 : ∀ p x, f p = some x → i64r x
theorem DV.ok {d : Dn} {n : Nat} {f : Nat → Option Int} (h : DV d n f) : OkD d := by
  refine ⟨h.has, h.bits, h.vals, fun x hx => ?_, ?_, ?_⟩
  · rw [h.vl] at hx
    obtain ⟨k, hk, rfl⟩ := tabM_mem hx
    cases e : f k with
    | none => simp [i64r]
    | some y => exact h.v64 k y e
  · have := h.len; have := h.le; omega
  · have := h.le; rw [h.vl, tabM_len]; omega
theorem DV.right {d : Dn} {n : Nat} {f : Nat → Option Int} (h : DV d n f) : rightD d = true := by
  unfold rightD rightF
  rw [h.num, h.vl, tabM_len]
  have hl := h.le
  have hw := h.len
  simp only [Bool.and_eq_true, decide_eq_true_eq, List.all_eq_true]
  refine ⟨⟨sizeF_iff2.2 ⟨by omega, by omega⟩, by omega, fun p hp => ?_⟩, trivial, fun i hi => ?_⟩
  · obtain ⟨p0, p1⟩ := places_mem.1 hp
    rw [h.at_] at p1
    by_cases hlt : p.toNat < n
    · omega
    · rw [h.none_ _ (by omega)] at p1; simp at p1
  · have hi' : i < n := by simpa using hi
    rw [tabM_getD _ hi', h.at_]
    cases f i <;> simp
theorem DV.den {d : Dn} {n : Nat} {f : Nat → Option Int} (h : DV d n f) (p : Int) : denB d p = if 0 ≤ p then f p.toNat else none := by
  unfold denB
  by_cases hp : 0 ≤ p
  · rw [if_pos hp, h.at_]
    cases e : f p.toNat with
    | none => simp
    | some y =>
      have hlt : p.toNat < n := by
        by_cases hlt : p.toNat < n
        · exact hlt
        · rw [h.none_ _ (by omega)] at e; simp at e
      rw [if_pos ⟨hp, rfl⟩, h.vl, tabM_getD _ hlt, e]; rfl
  · rw [if_neg (fun e => hp e.1), if_neg hp]
/-- A dense vector that can be. -/
theorem DV.of {d : Dn} (h : OkD d) (hr : rightD d = true) : DV d d.1.toNat fun p => denB d (p : Int) := by
  obtain ⟨h1, h2, h3, h4, h5⟩ := rightD_spec hr
  have hall : ∀ i, i < d.2.2.l.length → d.2.2.l.getD i 0 = 0 ∨ hasB d.2.1.l i = true := fun i hi => by
    unfold rightD at hr
    simp only [Bool.and_eq_true, decide_eq_true_eq] at hr
    have := all_range.1 hr.2.2 i hi
    simpa using this
  have hin : ∀ p, hasB d.2.1.l p = true → (p : Int) < d.1 := fun p hp => (h4 (p : Int) (places_mem.2 ⟨by omega, by simpa using hp⟩)).2
  have hden : ∀ p : Nat, denB d (p : Int) = if hasB d.2.1.l p = true then some (d.2.2.l.getD p 0) else none := fun p => by
    unfold denB
    simp only [Int.toNat_natCast]
    by_cases e : hasB d.2.1.l p = true
    · rw [if_pos ⟨by omega, e⟩, if_pos e]
    · rw [if_neg (fun x => e x.2), if_neg e]
  refine ⟨by omega, by omega, h.has, h.bits, by omega, h.vals, ?_, fun p => ?_, fun p hp => ?_, fun p x hx => ?_⟩
  · refine List.ext_getElem? fun i => ?_
    by_cases hi : i < d.1.toNat
    · have hi2 : i < d.2.2.l.length := by omega
      rw [tabM_get _ hi, hden, List.getElem?_eq_getElem hi2, ← getD_lt hi2]
      rcases hall i hi2 with e | e
      · split
        · rfl
        · rw [e]; rfl
      · rw [if_pos e]; rfl
    · rw [List.getElem?_eq_none (by omega), List.getElem?_eq_none (by rw [tabM_len]; omega)]
  · rw [hden]
    cases e : hasB d.2.1.l p <;> simp
  · rw [hden, if_neg (fun e => by have := hin p e; omega)]
  · rw [hden] at hx
    split at hx
    · rename_i e
      simp only [Option.some.injEq] at hx
      subst hx
      have := hin p e
      have hp2 : p < d.2.2.l.length := by omega
      rw [getD_lt hp2]
      exact h.v64 _ (List.getElem_mem hp2)
    · simp at hx
theorem DV.congr {d : Dn} {n : Nat} {f g : Nat → Option Int} (h : DV d n f) (e : ∀ p, f p = g p) : DV d n g := by
  have : f = g := funext e
  rw [← this]; exact h
theorem words_eq {a b : List Int} (ha : u64s a) (hb : u64s b) (hl : a.length = b.length) (h : ∀ p, hasB a p = hasB b p) : a = b := by
  refine List.ext_getElem? fun i => ?_
  by_cases hi : i < a.length
  · have hi2 : i < b.length := by omega
    rw [List.getElem?_eq_getElem hi, List.getElem?_eq_getElem hi2]
    congr 1
    have h1 := ha _ (List.getElem_mem hi)
    have h2 := hb _ (List.getElem_mem hi2)
    have : a[i].toNat = b[i].toNat := Nat.eq_of_testBit_eq fun k => by
      by_cases hk : k < 64
      · have e := h (64 * i + k)
        rw [hasB_word (i := i) (k := k) (by omega) (by omega) (List.getElem?_eq_getElem hi), hasB_word (i := i) (k := k) (by omega) (by omega) (List.getElem?_eq_getElem hi2)] at e
        exact e
      · have p1 : 2 ^ 64 ≤ 2 ^ k := Nat.pow_le_pow_right (by decide) (by omega)
        have p2 : (2 : Nat) ^ 64 = 18446744073709551616 := by decide
        have q1 := h1.2
        have q2 := h2.2
        rw [Nat.testBit_lt_two_pow (by omega), Nat.testBit_lt_two_pow (by omega)]
    have q1 := h1.1
    have q2 := h2.1
    omega
  · rw [List.getElem?_eq_none (by omega), List.getElem?_eq_none (by omega)]
theorem ref03_Same_eq {a b : Sl Int} (ha : okS 1 a) (hb : okS 1 b) (he : a.l = b.l) (hl : a.l.length ≤ 9223372036854775807) : ref03_Same a b = some true := by
  unfold ref03_Same
  rw [if_neg (by rw [he]; simp)]
  obtain ⟨q, q1, q2⟩ := loop_up (b := ref03_Same_b1 a b) a.l.length (fun j st => st = (j : Int)) (fun q => q = .inl ())
    (by
      rintro j _ hj rfl
      have e1 := at_s ha (List.getElem?_eq_getElem hj)
      have e2 := at_s hb (k := j) (x := a.l[j]) (by rw [← he]; exact List.getElem?_eq_getElem hj)
      simp only [ref03_Same_b1, e1, e2, Option.bind_some, w_succ hj hl]
      rw [if_pos (by omega), if_neg (by simp)]
      exact .inl ⟨_, rfl, rfl⟩)
    (by
      rintro _ rfl
      exact ⟨_, if_neg (by omega), rfl⟩) 0 (Nat.zero_le _) 0 rfl
  rw [q1, q2]; rfl
theorem ref07_SameVals_eq {a b : Sl Int} (ha : okS 1 a) (hb : okS 1 b) (he : a.l = b.l) (hl : a.l.length ≤ 9223372036854775807) : ref07_SameVals a b = some true := by
  unfold ref07_SameVals
  rw [if_neg (by rw [he]; simp)]
  obtain ⟨q, q1, q2⟩ := loop_up (b := ref07_SameVals_b1 a b) a.l.length (fun j st => st = (j : Int)) (fun q => q = .inl ())
    (by
      rintro j _ hj rfl
      have e1 := at_s ha (List.getElem?_eq_getElem hj)
      have e2 := at_s hb (k := j) (x := a.l[j]) (by rw [← he]; exact List.getElem?_eq_getElem hj)
      simp only [ref07_SameVals_b1, e1, e2, Option.bind_some, w_succ hj hl]
      rw [if_pos (by omega), if_neg (by simp)]
      exact .inl ⟨_, rfl, rfl⟩)
    (by
      rintro _ rfl
      exact ⟨_, if_neg (by omega), rfl⟩) 0 (Nat.zero_le _) 0 rfl
  rw [q1, q2]; rfl
/-- Two dense vectors that have the same. -/
theorem DV.same {d e : Dn} {n : Nat} {f g : Nat → Option Int} (h : DV d n f) (k : DV e n g) (hfg : ∀ p, p < n → f p = g p) : d.1 = e.1 ∧ d.2.1.l = e.2.1.l ∧ d.2.2.l = e.2.2.l := by
  have hall : ∀ p, f p = g p := fun p => by
    by_cases hp : p < n
    · exact hfg p hp
    · rw [h.none_ p (by omega), k.none_ p (by omega)]
  refine ⟨h.num.trans k.num.symm, words_eq h.bits k.bits (by rw [h.len, k.len]) fun p => by rw [h.at_, k.at_, hall], ?_⟩
  rw [h.vl, k.vl]
  exact tabM_congr fun i _ => by rw [hall]
theorem DV.same10 {d e : Dn} {n : Nat} {f g : Nat → Option Int} (h : DV d n f) (k : DV e n g) (hfg : ∀ p, p < n → f p = g p) : ref10_Same d e = some true := by
  obtain ⟨e1, e2, e3⟩ := h.same k hfg
  have h1 := h.has
  have h2 := k.has
  have h3 := h.vals
  have h4 := k.vals
  have h5 := h.ok.hl
  have h6 := h.ok.vl
  obtain ⟨n1, s1, t1⟩ := d
  obtain ⟨n2, s2, t2⟩ := e
  simp only at e1 e2 e3 h1 h2 h3 h4 h5 h6
  unfold ref10_Same
  simp only
  rw [if_pos e1, ref03_Same_eq h1 h2 e2 h5]
  simp only [Option.bind_some, if_true]
  rw [ref07_SameVals_eq h3 h4 e3 h6]; rfl
theorem ref10_Of_dv {v : Int × Sl It} (h : GoodV v) : ∃ d : Dn, ref10_Of v = some d ∧ DV d v.1.toNat fun p => getI (p : Int) v.2.l := by
  obtain ⟨k, t⟩ := v
  obtain ⟨d, d1, d2, d3, d4, d5⟩ := ref10_Of_eq h
  have := DV.of d2 d3
  rw [d4] at this
  exact ⟨d, d1, this.congr fun p => d5 p⟩
theorem getI_vecG {n p : Nat} (g : Nat → Option Int) (h : p < n) : getI (p : Int) (vecG n g) = g p := getI_gath 0 n g p (by omega) (by omega)
theorem vecG_congr {n : Nat} {f g : Nat → Option Int} (h : ∀ p, p < n → f p = g p) : vecG n f = vecG n g := gathR_congr fun p _ hp => h p (by omega)
theorem nilD_dv : DV ((0, nilS, nilS) : Dn) 0 fun _ => none :=
  ⟨rfl, by omega, ok_nil, fun x hx => by simp [nilS] at hx, rfl, ok_nil, rfl, fun p => rfl, fun p _ => rfl, fun p x h => by simp at h⟩
theorem sureD_dv {d : Dn} (h : OkD d) : ∃ n f, DV (sureD d) n f := by
  have := DV.of (sureD_ok h) (sureD_right d)
  exact ⟨_, _, this⟩
theorem devec_sure_eq {d : Dn} (h : OkD d) : devec_sure d = some (sureD d) := by
  have e := devec_Right_eq h
  obtain ⟨n, s, t⟩ := d
  unfold devec_sure sureD
  simp only [e, Option.bind_some]
  split <;> rfl
theorem DV.back {d : Dn} {n : Nat} {f : Nat → Option Int} (h : DV d n f) : backL d.2.1.l d.2.2.l = vecG n f := by
  have h1 := right_gath (back_right h.right)
  rw [mo_l, h.num, Int.toNat_natCast] at h1
  rw [h1]
  exact vecG_congr fun p hp => by rw [back_get, h.den, if_pos (by omega), Int.toNat_natCast]
theorem ref10_Back_dv {d : Dn} (h : OkD d) {n : Nat} {f : Nat → Option Int} (hd : DV (sureD d) n f) : ref10_Back d = some ((n : Int), mo 2 (vecG n f)) := by
  rw [ref10_Back_eq h]
  have hb := hd.back
  have hn := hd.num
  unfold backV
  unfold sureD at hb hn
  by_cases hr : rightD d = true
  · rw [if_pos hr] at hb hn ⊢
    rw [hb, hn]
  · rw [if_neg hr] at hb hn ⊢
    rw [← hb, ← hn]; rfl
theorem flags_Has_any {s : Sl Int} (hok : okS 1 s) (hu : u64s s.l) (hl : s.l.length ≤ 15000) {p : Int} (hp : i64r p) : flags_Has s p = some (decide (0 ≤ p) && hasB s.l p.toNat) := by
  by_cases h0 : 0 ≤ p
  · obtain ⟨k, rfl⟩ := Int.eq_ofNat_of_zero_le h0
    rw [decide_eq_true h0, Bool.true_and, Int.toNat_natCast]
    by_cases hk : k < 1000000
    · exact flags_Has_eq s k hok hu hk
    · have hw : flags_within s (k : Int) = some false := by
        unfold flags_within divO
        have e1 : ((k : Nat) : Int).tdiv 64 = ((k / 64 : Nat) : Int) := by rw [Int.tdiv_eq_ediv_of_nonneg (by omega)]; rfl
        have := hp.2
        rw [if_pos (by omega), if_pos (by decide), e1, wrap64 (by omega) (by omega)]
        simp only [Option.bind_some]
        rw [if_neg (by omega)]
      unfold flags_Has
      rw [hw, hasB_out (by omega)]; rfl
  · unfold flags_Has flags_within
    rw [if_neg (by omega), decide_eq_false h0]; rfl
theorem words_len {d : Dn} {n : Nat} {f : Nat → Option Int} (h : DV d n f) : d.2.1.l.length ≤ 64 := by have := h.len; have := h.le; omega
theorem DV.has_eq {d : Dn} {n : Nat} {f : Nat → Option Int} (h : DV d n f) {p : Int} (hp : i64r p) : flags_Has d.2.1 p = some (decide (0 ≤ p) && (f p.toNat).isSome) := by
  rw [flags_Has_any h.has h.bits (by have := words_len h; omega) hp, h.at_]
theorem DV.val_at {d : Dn} {n : Nat} {f : Nat → Option Int} (h : DV d n f) {k : Nat} (hk : k < n) : atS 1 d.2.2 (k : Int) = some ((f k).getD 0) := at_s h.vals (by rw [h.vl, tabM_get _ hk])
theorem DV.vlen {d : Dn} {n : Nat} {f : Nat → Option Int} (h : DV d n f) : d.2.2.l.length = n := by rw [h.vl, tabM_len]
theorem flags_New_eq {n : Nat} (h : n ≤ 4096) : flags_New (n : Int) = some (List.replicate ((n + 63) / 64) 0) := by
  unfold flags_New
  have e : (((n : Int) + 63) / 64).toNat = (n + 63) / 64 := by omega
  have hlo : lenOk (((n : Int) + 63) / 64) = some () := by unfold lenOk bound; rw [if_pos ⟨by omega, by omega⟩]
  simp only [flags_words_eq (n := (n : Int)) ⟨by omega, by omega⟩, hlo, Option.bind_some, e]
theorem flags_bit_eq (p : Nat) : flags_bit (p : Int) = some ((2 ^ (p % 64) : Nat) : Int) := by
  unfold flags_bit
  simp only [mod64n, Option.bind_some, shl_one]
/-- A word with a bit, in its set. -/
theorem put_bits {ws : List Int} {p : Nat} (hu : u64s ws) (hp : p / 64 < ws.length) : ∃ w, atL ws ((p / 64 : Nat) : Int) = some w ∧ (ws.set (p / 64) (orI .u64 w ((2 ^ (p % 64) : Nat) : Int))).length = ws.length ∧ u64s (ws.set (p / 64) (orI .u64 w ((2 ^ (p % 64) : Nat) : Int))) ∧ ∀ i, hasB (ws.set (p / 64) (orI .u64 w ((2 ^ (p % 64) : Nat) : Int))) i = (hasB ws i || decide (i = p)) := by
  have hw := hu _ (List.getElem_mem hp)
  have hat := atL_get hp
  obtain ⟨w, hw2⟩ := Int.eq_ofNat_of_zero_le hw.1
  rw [hw2] at hw hat
  have hwlt : w < 18446744073709551616 := by have := hw.2; omega
  have hk : p % 64 < 64 := Nat.mod_lt _ (by decide)
  have hpow := pow_lt hk
  have hor := or_nat hwlt hpow
  have horl : w ||| 2 ^ (p % 64) < 2 ^ 64 := Nat.or_lt_two_pow (by omega) (by omega)
  refine ⟨(w : Int), hat, by simp, fun x hx => ?_, fun i => ?_⟩
  · rcases List.mem_or_eq_of_mem_set hx with hx | rfl
    · exact hu x hx
    · rw [hor]; unfold u64r; omega
  · rw [hor]
    by_cases e : i / 64 = p / 64
    · rw [hasB_word (ws := ws.set _ _) e rfl (by rw [List.getElem?_set, if_pos rfl, if_pos hp]), hasB_word e rfl (by rw [List.getElem?_eq_getElem hp, hw2])]
      simp only [Int.toNat_natCast]
      rw [Nat.testBit_or, Nat.testBit_two_pow]
      congr 1
      by_cases e2 : i = p
      · subst e2; simp
      · rw [decide_eq_false e2, decide_eq_false (by omega)]
    · have hne : (ws.set (p / 64) ((w ||| 2 ^ (p % 64) : Nat) : Int))[i / 64]? = ws[i / 64]? := by rw [List.getElem?_set, if_neg (Ne.symm e)]
      have e2 : i ≠ p := fun h => e (by rw [h])
      rw [decide_eq_false e2, Bool.or_false]
      unfold hasB
      rw [hne]
def cntB (f : Nat → Bool) (n : Nat) : Nat := ((List.range n).filter f).length
theorem cntB_succ (f : Nat → Bool) (n : Nat) : cntB f (n + 1) = cntB f n + if f n = true then 1 else 0 := by
  unfold cntB
  rw [List.range_succ, List.filter_append, List.length_append]
  congr 1
  by_cases h : f n = true
  · rw [if_pos h]; simp [h]
  · rw [if_neg h]; simp [h]
theorem cntB_add (f : Nat → Bool) (a b : Nat) : cntB f (a + b) = cntB f a + cntB (fun i => f (a + i)) b := by
  induction b with
  | zero => simp [cntB]
  | succ b ih => rw [← Nat.add_assoc, cntB_succ, cntB_succ, ih, Nat.add_assoc]
theorem cntB_congr {f g : Nat → Bool} {n : Nat} (h : ∀ i, i < n → f i = g i) : cntB f n = cntB g n := by
  unfold cntB
  congr 1
  exact List.filter_congr fun i hi => h i (by simpa using hi)
theorem cntB_le (f : Nat → Bool) (n : Nat) : cntB f n ≤ n := by
  unfold cntB
  have := List.length_filter_le f (List.range n)
  simpa using this
theorem cntB_none {f : Nat → Bool} {n : Nat} (h : ∀ i, i < n → f i = false) : cntB f n = 0 := by
  induction n with
  | zero => rfl
  | succ n ih => rw [cntB_succ, ih fun i hi => h i (by omega), if_neg (by rw [h n (by omega)]; simp)]
theorem flags_ones_eq {w : Nat} (hw : w < 18446744073709551616) : flags_ones (w : Int) = some ((cntB w.testBit 64 : Nat) : Int) := by
  unfold flags_ones
  have shr : ∀ v : Nat, v < 18446744073709551616 → shr1 .u64 (v : Int) 1 = some ((v / 2 : Nat) : Int) := fun v hv => by
    have h := shr_nat (w := v) (k := 1) hv (by decide)
    have e : IntKind.u64.wrap ((1 : Nat) : Int) = 1 := by rw [wrap_u64]; rfl
    rw [e] at h
    simpa using h
  have low : ∀ v : Nat, v < 18446744073709551616 → andI .u64 (v : Int) 1 = ((v % 2 : Nat) : Int) := fun v hv => by
    have h1 : ((1 : Nat) : Int) = 1 := rfl
    rw [← h1, and_nat hv (by omega), Nat.and_one_is_mod]
  have p64 : w / 2 ^ 64 = 0 := Nat.div_eq_of_lt (by omega)
  obtain ⟨q, q1, q2⟩ := loop_up (b := flags_ones_b1) 64 (fun j a => a = (((w / 2 ^ j : Nat) : Int), ((cntB w.testBit j : Nat) : Int))) (fun q => q = .inl ((cntB w.testBit 64 : Nat) : Int))
    (by
      rintro j _ hj rfl
      have hle : w / 2 ^ j ≤ w := Nat.div_le_self _ _
      have hc := cntB_le w.testBit j
      have hs := cntB_succ w.testBit j
      have hd : w / 2 ^ (j + 1) = w / 2 ^ j / 2 := by rw [Nat.pow_succ, Nat.div_div_eq_div_mul]
      have hb : w.testBit j = decide (w / 2 ^ j % 2 = 1) := Nat.testBit_eq_decide_div_mod_eq
      simp only [flags_ones_b1]
      by_cases h0 : w / 2 ^ j = 0
      · rw [if_pos (by omega)]
        refine .inr ⟨_, rfl, ?_⟩
        have hz : ∀ i, i < 64 - j → w.testBit (j + i) = false := fun i hi => by
          rw [Nat.testBit_eq_decide_div_mod_eq, Nat.pow_add, ← Nat.div_div_eq_div_mul, h0, Nat.zero_div]; rfl
        have := cntB_add w.testBit j (64 - j)
        rw [show j + (64 - j) = 64 by omega, cntB_none hz] at this
        rw [this]; rfl
      · rw [if_neg (by omega), low _ (by omega), shr _ (by omega)]
        refine .inl ?_
        rw [hd, hs, hb]
        by_cases c : w / 2 ^ j % 2 = 1
        · have e1 : (((w / 2 ^ j % 2 : Nat) : Int) = 1) := by omega
          rw [if_pos e1, decide_eq_true c, wrap64 (by omega) (by omega)]
          exact ⟨_, rfl, rfl⟩
        · have e1 : ¬ (((w / 2 ^ j % 2 : Nat) : Int) = 1) := by omega
          rw [if_neg e1, decide_eq_false c]
          exact ⟨_, rfl, rfl⟩)
    (by
      rintro _ rfl
      refine ⟨_, ?_, rfl⟩
      simp only [flags_ones_b1]
      rw [if_pos (by omega)]) 0 (Nat.zero_le _) ((w : Int), 0) (by simp [cntB])
  rw [q1, q2]; rfl
theorem flags_Count_eq {s : Sl Int} (hok : okS 1 s) (hu : u64s s.l) (hl : s.l.length ≤ 15000) : flags_Count s = some (((placesL s.l).length : Nat) : Int) := by
  have hp : (placesL s.l).length = cntB (hasB s.l) (64 * s.l.length) := by unfold placesL cntB; rw [List.length_map]
  rw [hp]
  unfold flags_Count
  obtain ⟨q, q1, q2⟩ := loop_up (b := flags_Count_b1 s) s.l.length (fun j a => a = (((cntB (hasB s.l) (64 * j) : Nat) : Int), (j : Int))) (fun q => q = .inl ((cntB (hasB s.l) (64 * s.l.length) : Nat) : Int))
    (by
      rintro j _ hj rfl
      have ej := at_get hok hj
      have hw := hu _ (List.getElem_mem hj)
      obtain ⟨w, hw2⟩ := Int.eq_ofNat_of_zero_le hw.1
      have hwlt := hw.2
      rw [hw2] at ej hwlt
      have hone := flags_ones_eq (w := w) (by omega)
      have h1 := cntB_le (hasB s.l) (64 * j)
      have h2 := cntB_le w.testBit 64
      have hadd : cntB (hasB s.l) (64 * (j + 1)) = cntB (hasB s.l) (64 * j) + cntB w.testBit 64 := by
        rw [show 64 * (j + 1) = 64 * j + 64 by omega, cntB_add]
        congr 1
        refine cntB_congr fun i hi => ?_
        rw [hasB_word (i := j) (k := i) (by omega) (by omega) (List.getElem?_eq_getElem hj), hw2, Int.toNat_natCast]
      simp only [flags_Count_b1, ej, hone, Option.bind_some, w_succ hj (by omega)]
      rw [if_pos (by omega), wrap64 (by omega) (by omega), hadd]
      exact .inl ⟨_, rfl, rfl⟩)
    (by
      rintro _ rfl
      refine ⟨_, ?_, rfl⟩
      simp only [flags_Count_b1]
      rw [if_neg (by omega)]) 0 (Nat.zero_le _) (0, 0) rfl
  rw [q1, q2]; rfl
theorem DV.places_len {d : Dn} {n : Nat} {f : Nat → Option Int} (h : DV d n f) : (placesL d.2.1.l).length = (vecG n f).length := by
  have := congrArg List.length h.back
  rw [← this]; unfold backL; rw [List.length_map]
theorem devec_Count_any {d : Dn} (h : OkD d) {n : Nat} {f : Nat → Option Int} (hd : DV (sureD d) n f) : devec_Count d = some (((vecG n f).length : Nat) : Int) := by
  have e := devec_sure_eq h
  obtain ⟨n1, s1, t1⟩ := d
  unfold devec_Count
  simp only [e, Option.bind_some]
  generalize sureD (n1, s1, t1) = u at hd
  have hw := words_len hd
  have hc := flags_Count_eq hd.has hd.bits (by omega)
  rw [hd.places_len] at hc
  obtain ⟨m, s, t⟩ := u
  simp only at hc ⊢
  rw [hc]; rfl
theorem devec_Get_any {d : Dn} (h : OkD d) {n : Nat} {f : Nat → Option Int} (hd : DV (sureD d) n f) {p : Int} (hp : i64r p) : devec_Get d p = some (encO (if 0 ≤ p then f p.toNat else none)) := by
  have e := devec_sure_eq h
  obtain ⟨n1, s1, t1⟩ := d
  unfold devec_Get
  simp only [e, Option.bind_some]
  generalize sureD (n1, s1, t1) = u at hd
  have hh := hd.has_eq hp
  have hv := @DV.val_at _ _ _ hd
  have hno := hd.none_
  obtain ⟨m, s, t⟩ := u
  simp only at hh hv ⊢
  rw [hh]
  simp only [Option.bind_some]
  by_cases h0 : 0 ≤ p
  · rw [decide_eq_true h0, if_pos h0, Bool.true_and]
    cases hf : f p.toNat with
    | none => rfl
    | some y =>
      have hlt : p.toNat < n := by
        by_cases c : p.toNat < n
        · exact c
        · rw [hno _ (by omega)] at hf; simp at hf
      have := hv hlt
      rw [Int.toNat_of_nonneg h0, hf] at this
      simp only [Option.isSome_some, if_true, this, Option.bind_some]; rfl
  · rw [decide_eq_false h0, if_neg h0]; rfl
theorem hasB_getD (ws : List Int) (p : Nat) : hasB ws p = (ws.getD (p / 64) 0).toNat.testBit (p % 64) := by
  unfold hasB
  rw [List.getD_eq_getElem?_getD]
  cases ws[p / 64]? with
  | none => simp
  | some w => rfl
theorem u64_getD {ws : List Int} (h : u64s ws) (i : Nat) : u64r (ws.getD i 0) := by
  rw [List.getD_eq_getElem?_getD]
  cases e : ws[i]? with
  | none => unfold u64r; simp
  | some w => exact h w (List.mem_of_getElem? e)
theorem flags_Both_eq {a b : Sl Int} (ha : okS 1 a) (hb : okS 1 b) (ua : u64s a.l) (ub : u64s b.l) (hl : a.l.length ≤ 15000) : ∃ q, flags_Both a b = some q ∧ q.length = a.l.length ∧ u64s q ∧ ∀ i, hasB q i = (hasB a.l i && hasB b.l i) := by
  have hlo : lenOk ((a.l.length : Nat) : Int) = some () := by unfold lenOk bound; rw [if_pos ⟨by omega, by omega⟩]
  unfold flags_Both
  simp only [hlo, Option.bind_some, Int.toNat_natCast]
  generalize hA : (fun i : Nat => andI .u64 (a.l.getD i 0) (b.l.getD i 0)) = A
  have hAi : ∀ i, A i = (((a.l.getD i 0).toNat &&& (b.l.getD i 0).toNat : Nat) : Int) := fun i => by
    rw [← hA]
    have h1 := u64_getD ua i
    have h2 := u64_getD ub i
    have := and_nat (a := (a.l.getD i 0).toNat) (b := (b.l.getD i 0).toNat) (by have := h1.2; omega) (by have := h2.2; omega)
    rw [Int.toNat_of_nonneg h1.1, Int.toNat_of_nonneg h2.1] at this
    exact this
  obtain ⟨q, q1, q2⟩ := loop_up (b := flags_Both_b1 a b) a.l.length (fun j st => st = (tabM a.l.length (fun i => if i < j then A i else 0), (j : Int))) (fun q => q = .inl (tabM a.l.length A))
    (by
      rintro j _ hj rfl
      have ea := at_get ha hj
      have hget : ∀ x : Int, tabM a.l.length (fun i => if i < j + 1 then A i else 0) = (tabM a.l.length fun i => if i < j then A i else 0).set j (A j) := fun x => by
        rw [tabM_set _ _ hj]
        refine tabM_congr fun k hk => ?_
        by_cases e : k = j
        · subst e; rw [if_pos (by omega), if_pos rfl]
        · rw [if_neg e]
          by_cases c : k < j
          · rw [if_pos (by omega), if_pos c]
          · rw [if_neg (by omega), if_neg c]
      have hat : atL (tabM a.l.length fun i => if i < j then A i else 0) (j : Int) = some 0 := by
        unfold atL; rw [if_pos (by omega), Int.toNat_natCast, tabM_get _ hj, if_neg (by omega)]
      have da : a.l.getD j 0 = a.l[j] := getD_lt hj
      have hAj : A j = andI .u64 (a.l.getD j 0) (b.l.getD j 0) := by rw [← hA]
      simp only [flags_Both_b1, List.length_replicate, Int.toNat_natCast]
      rw [if_pos (by omega), if_pos (by omega), ea]
      simp only [Option.bind_some]
      by_cases hb2 : j < b.l.length
      · have eb := at_get hb hb2
        have db : b.l.getD j 0 = b.l[j] := getD_lt hb2
        rw [if_pos (by omega), eb]
        simp only [flags_Both_c1, Option.bind_some, hat, w_succ hj (by omega)]
        refine .inl ⟨_, rfl, ?_⟩
        rw [hget 0, hAj, da, db]
      · have db : b.l.getD j 0 = 0 := by rw [List.getD_eq_getElem?_getD, List.getElem?_eq_none (by omega)]; rfl
        rw [if_neg (by omega)]
        simp only [flags_Both_c1, Option.bind_some, hat, w_succ hj (by omega)]
        refine .inl ⟨_, rfl, ?_⟩
        rw [hget 0, hAj, da, db])
    (by
      rintro _ rfl
      refine ⟨.inl (tabM a.l.length A), ?_, rfl⟩
      simp only [flags_Both_b1, List.length_replicate, Int.toNat_natCast]
      rw [if_neg (by omega)]
      congr 3
      exact tabM_congr fun k hk => by rw [if_pos hk]) 0 (Nat.zero_le _) (List.replicate a.l.length 0, 0) (by rw [tabM_zero]; congr 1)
  refine ⟨tabM a.l.length A, by rw [q1, q2]; rfl, tabM_len _ _, fun x hx => ?_, fun i => ?_⟩
  · obtain ⟨k, hk, rfl⟩ := tabM_mem hx
    rw [hAi]
    have h2 := u64_getD ub k
    have := Nat.and_le_right (n := (a.l.getD k 0).toNat) (m := (b.l.getD k 0).toNat)
    have := h2.2
    unfold u64r; omega
  · rw [hasB_getD, hasB_getD, hasB_getD]
    by_cases hi : i / 64 < a.l.length
    · rw [tabM_getD _ hi, hAi, Int.toNat_natCast, Nat.testBit_and]
    · have e1 : (tabM a.l.length A).getD (i / 64) 0 = 0 := by rw [List.getD_eq_getElem?_getD, List.getElem?_eq_none (by rw [tabM_len]; omega)]; rfl
      have e2 : a.l.getD (i / 64) 0 = 0 := by rw [List.getD_eq_getElem?_getD, List.getElem?_eq_none (by omega)]; rfl
      rw [e1, e2]; simp
/-- What a vector has at places of a set. -/
def onlyF (f : Nat → Option Int) (ws : List Int) : Nat → Option Int := fun p => if hasB ws p = true then f p else none
theorem devec_Only_any {d : Dn} (h : OkD d) {n : Nat} {f : Nat → Option Int} (hd : DV (sureD d) n f) {s : Sl Int} (hs : okS 1 s) (hu : u64s s.l) (hl : s.l.length ≤ 15000) : ∃ e : Dn, devec_Only d s = some e ∧ DV e n (onlyF f s.l) := by
  have e := devec_sure_eq h
  obtain ⟨n1, s1, t1⟩ := d
  unfold devec_Only
  simp only [e, Option.bind_some]
  generalize sureD (n1, s1, t1) = u at hd
  have hle := hd.le
  have hnum := hd.num
  have hwl := words_len hd
  obtain ⟨q, c1, c2, c3, c4⟩ := flags_Both_eq hd.has hs hd.bits hu (by omega)
  have hvl := hd.vlen
  have hva := @DV.val_at _ _ _ hd
  have hha := fun (j : Nat) (hj : j < n) => hd.has_eq (p := (j : Int)) (by unfold i64r; omega)
  have hbits := hd.at_
  have hlen := hd.len
  have hnone := hd.none_
  have hv64 := hd.v64
  obtain ⟨m, a, t⟩ := u
  simp only at hnum c1 c2 c4 hvl hva hha hbits hlen ⊢
  subst hnum
  have hlo : lenOk (n : Int) = some () := by unfold lenOk bound; rw [if_pos ⟨by omega, by omega⟩]
  rw [if_neg (by omega), if_neg (by omega), flags_New_eq hle]
  simp only [hlo, c1, Option.bind_some, Int.toNat_natCast]
  obtain ⟨r, r1, r2⟩ := loop_up (b := devec_Only_b3 s a t) n (fun j st => st = ((j : Int), tabM n fun p => if p < j then (onlyF f s.l p).getD 0 else 0)) (fun q => q = .inl (tabM n fun p => (onlyF f s.l p).getD 0))
    (by
      rintro j _ hj rfl
      have ha := hva hj
      have hh := hha j hj
      have hf := flags_Has_eq s j hs hu (by omega)
      rw [decide_eq_true (show (0 : Int) ≤ (j : Int) by omega), Bool.true_and, Int.toNat_natCast] at hh
      have hat : atL (tabM n fun p => if p < j then (onlyF f s.l p).getD 0 else 0) (j : Int) = some 0 := by
        unfold atL; rw [if_pos (by omega), Int.toNat_natCast, tabM_get _ hj, if_neg (by omega)]
      have same : (onlyF f s.l j).getD 0 = 0 → (tabM n fun p => if p < j then (onlyF f s.l p).getD 0 else 0) = tabM n fun p => if p < j + 1 then (onlyF f s.l p).getD 0 else 0 := fun h0 => tabM_congr fun k hk => by
        by_cases e : k = j
        · subst e; rw [if_neg (by omega), if_pos (by omega), h0]
        · by_cases c : k < j
          · rw [if_pos c, if_pos (by omega)]
          · rw [if_neg c, if_neg (by omega)]
      have next : ((tabM n fun p => if p < j then (onlyF f s.l p).getD 0 else 0).set j ((onlyF f s.l j).getD 0)) = tabM n fun p => if p < j + 1 then (onlyF f s.l p).getD 0 else 0 := by
        rw [tabM_set _ _ hj]
        refine tabM_congr fun k hk => ?_
        by_cases e : k = j
        · subst e; rw [if_pos rfl, if_pos (by omega)]
        · rw [if_neg e]
          by_cases c : k < j
          · rw [if_pos c, if_pos (by omega)]
          · rw [if_neg c, if_neg (by omega)]
      simp only [devec_Only_b3, ha, hh, hf, hat, Option.bind_some, w_succ hj (by omega), Int.toNat_natCast]
      rw [if_pos (by omega)]
      refine .inl ?_
      cases hfj : f j with
      | none =>
        simp only [Option.isSome_none, Bool.false_eq_true, if_false]
        exact ⟨_, rfl, by rw [same (by unfold onlyF; rw [hfj]; split <;> rfl)]⟩
      | some y =>
        simp only [Option.isSome_some, if_true, Option.getD_some]
        cases hb : hasB s.l j with
        | false =>
          simp only [Bool.false_eq_true, if_false]
          exact ⟨_, rfl, by rw [same (by unfold onlyF; rw [hb]; rfl)]⟩
        | true =>
          simp only [if_true]
          refine ⟨_, rfl, ?_⟩
          rw [← next]
          have : (onlyF f s.l j).getD 0 = y := by unfold onlyF; rw [hb, if_pos rfl, hfj]; rfl
          rw [this])
    (by
      rintro _ rfl
      refine ⟨.inl (tabM n fun p => (onlyF f s.l p).getD 0), ?_, rfl⟩
      simp only [devec_Only_b3]
      rw [if_neg (by omega)]
      congr 3
      exact tabM_congr fun k hk => by rw [if_pos hk]) 0 (Nat.zero_le _) (0, List.replicate n 0) (by rw [tabM_zero]; congr 1)
  rw [r1, r2]
  refine ⟨_, rfl, rfl, hle, .inr rfl, c3, by rw [show ((⟨true, 1, q⟩ : Sl Int).l.length = q.length) from rfl, c2]; exact hlen, .inr rfl, rfl, fun p => ?_, fun p hp => ?_, fun p x hx => ?_⟩
  · show hasB q p = _
    rw [c4, hbits]
    unfold onlyF
    cases hasB s.l p <;> cases f p <;> rfl
  · unfold onlyF; rw [hnone p hp]; split <;> rfl
  · unfold onlyF at hx
    split at hx
    · exact hv64 p x hx
    · simp at hx
theorem vecG_good {n : Nat} {f : Nat → Option Int} (hn : n ≤ 4096) (hf : ∀ p x, f p = some x → i64r x) : GoodV ((n : Int), mo 2 (vecG n f)) := by
  refine ⟨right_vecG (by omega) (by omega) (by rw [mo_l, Int.toNat_natCast]), ok_mo _, fun x hx => ?_⟩
  rw [mo_l] at hx
  obtain ⟨p, _, _, _, hp⟩ := gathR_mem hx
  exact hf p _ hp
theorem vecG_inj {n : Nat} {f : Nat → Option Int} {x : It} (h : x ∈ vecG n f) : ∃ p : Nat, p < n ∧ x.1 = (p : Int) ∧ f p = some x.2 := by
  obtain ⟨p, _, h2, h3, h4⟩ := gathR_mem h
  exact ⟨p, by omega, h3, h4⟩
theorem getI_vecG_any {n : Nat} {f : Nat → Option Int} (h : ∀ p, n ≤ p → f p = none) (p : Int) : getI p (vecG n f) = if 0 ≤ p then f p.toNat else none := by
  by_cases h0 : 0 ≤ p
  · rw [if_pos h0]
    obtain ⟨k, rfl⟩ := Int.eq_ofNat_of_zero_le h0
    rw [Int.toNat_natCast]
    by_cases hk : k < n
    · exact getI_vecG f hk
    · rw [h k (by omega)]
      refine getI_none fun x hx e => ?_
      obtain ⟨q, q1, q2, _⟩ := vecG_inj hx
      omega
  · rw [if_neg h0]
    refine getI_none fun x hx e => ?_
    obtain ⟨q, q1, q2, _⟩ := vecG_inj hx
    omega
theorem clone_eq {s : Sl Int} (hl : s.l.length ≤ 15000) : flags_clone s = some s.l := by
  have hlo : lenOk ((s.l.length : Nat) : Int) = some () := by unfold lenOk bound; rw [if_pos ⟨by omega, by omega⟩]
  have hc : cpL (List.replicate s.l.length (0 : Int)) s.l = some s.l := by
    unfold cpL
    rw [if_pos (by simp)]
    simp
  unfold flags_clone
  simp only [hlo, Option.bind_some, Int.toNat_natCast, hc]
theorem within_eq {s : Sl Int} {p : Nat} (hp : p < 1000000) : flags_within s (p : Int) = some (decide (p / 64 < s.l.length)) := by
  unfold flags_within
  rw [if_pos (by omega), div64n hp]
  simp only [Option.bind_some]
  by_cases h : p / 64 < s.l.length
  · rw [if_pos (by omega), decide_eq_true h]
  · rw [if_neg (by omega), decide_eq_false h]
theorem flags_Put_eq {s : Sl Int} (hu : u64s s.l) (hl : s.l.length ≤ 15000) {p : Nat} (hp : p / 64 < s.l.length) : ∃ q, flags_Put s (p : Int) = some q ∧ q.length = s.l.length ∧ u64s q ∧ ∀ i, hasB q i = (hasB s.l i || decide (i = p)) := by
  obtain ⟨w, w1, w2, w3, w4⟩ := put_bits hu hp
  unfold flags_Put
  rw [clone_eq hl]
  simp only [Option.bind_some]
  rw [within_eq (by omega), decide_eq_true hp]
  simp only [Option.bind_some, if_true, div64n (j := p) (by omega), w1, flags_bit_eq, Int.toNat_natCast]
  exact ⟨_, rfl, w2, w3, w4⟩
theorem andNot_nat {a b : Nat} (ha : a < 18446744073709551616) (hb : b < 18446744073709551616) : ∃ c : Nat, andNotI .u64 (a : Int) (b : Int) = (c : Int) ∧ c < 18446744073709551616 ∧ ∀ i, c.testBit i = (a.testBit i && !b.testBit i) := by
  have ea : (BitVec.ofInt 64 (a : Int)).toNat = a := by rw [BitVec.toNat_ofInt]; omega
  have eb : (BitVec.ofInt 64 (b : Int)).toNat = b := by rw [BitVec.toNat_ofInt]; omega
  refine ⟨(BitVec.ofInt 64 (a : Int) &&& ~~~ BitVec.ofInt 64 (b : Int)).toNat, ?_, ?_, fun i => ?_⟩
  · unfold andNotI
    have hb' : IntKind.u64.bits = 64 := rfl
    rw [hb', wrap_u64]
    have := (BitVec.ofInt 64 (a : Int) &&& ~~~ BitVec.ofInt 64 (b : Int)).isLt
    omega
  · have := (BitVec.ofInt 64 (a : Int) &&& ~~~ BitVec.ofInt 64 (b : Int)).isLt
    omega
  · rw [BitVec.testBit_toNat, BitVec.getLsbD_and, BitVec.getLsbD_not, ← BitVec.testBit_toNat, ← BitVec.testBit_toNat, ea, eb]
    by_cases hi : i < 64
    · rw [decide_eq_true hi, Bool.true_and]
    · have : a.testBit i = false := Nat.testBit_lt_two_pow (Nat.lt_of_lt_of_le (show a < 2 ^ 64 by omega) (Nat.pow_le_pow_right (by decide) (by omega)))
      rw [this]; simp
theorem drop_bits {ws : List Int} {p : Nat} (hu : u64s ws) (hp : p / 64 < ws.length) : ∃ w, atL ws ((p / 64 : Nat) : Int) = some w ∧ (ws.set (p / 64) (andNotI .u64 w ((2 ^ (p % 64) : Nat) : Int))).length = ws.length ∧ u64s (ws.set (p / 64) (andNotI .u64 w ((2 ^ (p % 64) : Nat) : Int))) ∧ ∀ i, hasB (ws.set (p / 64) (andNotI .u64 w ((2 ^ (p % 64) : Nat) : Int))) i = (hasB ws i && !decide (i = p)) := by
  have hw := hu _ (List.getElem_mem hp)
  have hat := atL_get hp
  obtain ⟨w, hw2⟩ := Int.eq_ofNat_of_zero_le hw.1
  rw [hw2] at hw hat
  have hk : p % 64 < 64 := Nat.mod_lt _ (by decide)
  obtain ⟨c, c1, c2, c3⟩ := andNot_nat (a := w) (by have := hw.2; omega) (pow_lt hk)
  refine ⟨(w : Int), hat, by simp, fun x hx => ?_, fun i => ?_⟩
  · rcases List.mem_or_eq_of_mem_set hx with hx | rfl
    · exact hu x hx
    · rw [c1]; unfold u64r; omega
  · rw [c1]
    by_cases e : i / 64 = p / 64
    · rw [hasB_word (ws := ws.set _ _) e rfl (by rw [List.getElem?_set, if_pos rfl, if_pos hp]), hasB_word e rfl (by rw [List.getElem?_eq_getElem hp, hw2])]
      simp only [Int.toNat_natCast]
      rw [c3, Nat.testBit_two_pow]
      congr 2
      by_cases e2 : i = p
      · subst e2; simp
      · rw [decide_eq_false e2, decide_eq_false (by omega)]
    · have hne : (ws.set (p / 64) (c : Int))[i / 64]? = ws[i / 64]? := by rw [List.getElem?_set, if_neg (Ne.symm e)]
      have e2 : i ≠ p := fun h => e (by rw [h])
      rw [decide_eq_false e2, Bool.not_false, Bool.and_true]
      unfold hasB
      rw [hne]
theorem flags_Drop_eq {s : Sl Int} (hu : u64s s.l) (hl : s.l.length ≤ 15000) {p : Nat} (hp : p / 64 < s.l.length) : ∃ q, flags_Drop s (p : Int) = some q ∧ q.length = s.l.length ∧ u64s q ∧ ∀ i, hasB q i = (hasB s.l i && !decide (i = p)) := by
  obtain ⟨w, w1, w2, w3, w4⟩ := drop_bits hu hp
  unfold flags_Drop
  rw [clone_eq hl]
  simp only [Option.bind_some]
  rw [within_eq (by omega), decide_eq_true hp]
  simp only [Option.bind_some, if_true, div64n (j := p) (by omega), w1, flags_bit_eq, Int.toNat_natCast]
  exact ⟨_, rfl, w2, w3, w4⟩
/-- A function with another value at a place, if the place is one of n. -/
def putF (n : Nat) (f : Nat → Option Int) (p : Int) (v : Option Int) : Nat → Option Int := if 0 ≤ p ∧ p < (n : Int) then updG f p.toNat v else f
theorem devec_Set_any {d : Dn} (h : OkD d) {n : Nat} {f : Nat → Option Int} (hd : DV (sureD d) n f) {p x : Int} (hx : i64r x) : ∃ e : Dn, devec_Set d p x = some e ∧ DV e n (putF n f p (some x)) := by
  have e := devec_sure_eq h
  obtain ⟨n1, s1, t1⟩ := d
  unfold devec_Set
  simp only [e, Option.bind_some]
  generalize sureD (n1, s1, t1) = u at hd
  have hle := hd.le
  have hnum := hd.num
  have hwl := words_len hd
  have hvl := hd.vlen
  have hb := hd.bits
  have hat := hd.at_
  have hlen := hd.len
  have hnone := hd.none_
  have hv64 := hd.v64
  have hvv := hd.vl
  obtain ⟨m, a, t⟩ := u
  simp only at hnum hwl hvl hb hat hlen hvv ⊢
  subst hnum
  have lo1 : lenOk ((a.l.length : Nat) : Int) = some () := by unfold lenOk bound; rw [if_pos ⟨by omega, by omega⟩]
  have lo2 : lenOk ((t.l.length : Nat) : Int) = some () := by unfold lenOk bound; rw [if_pos ⟨by omega, by omega⟩]
  have c1 : cpL (List.replicate a.l.length (0 : Int)) a.l = some a.l := by unfold cpL; rw [if_pos (by simp)]; simp
  have c2 : cpL (List.replicate t.l.length (0 : Int)) t.l = some t.l := by unfold cpL; rw [if_pos (by simp)]; simp
  simp only [lo1, lo2, Option.bind_some, Int.toNat_natCast, c1, c2]
  unfold putF
  have same : DV ((n : Int), (⟨true, 1, a.l⟩ : Sl Int), (⟨true, 1, t.l⟩ : Sl Int)) n f := ⟨rfl, hle, .inr rfl, hb, hlen, .inr rfl, hvv, hat, hnone, hv64⟩
  by_cases z1 : p ≥ 0
  · rw [if_pos z1]
    by_cases z2 : p < (n : Int)
    · rw [if_pos z2, if_pos ⟨z1, z2⟩]
      obtain ⟨k, rfl⟩ := Int.eq_ofNat_of_zero_le z1
      obtain ⟨q, q1, q2, q3, q4⟩ := flags_Put_eq (s := ⟨true, 1, a.l⟩) hb (by show a.l.length ≤ _; omega) (p := k) (by show k / 64 < a.l.length; omega)
      have ht := atL_get (l := t.l) (j := k) (by omega)
      simp only [q1, ht, Option.bind_some, Int.toNat_natCast]
      refine ⟨_, rfl, rfl, hle, .inr rfl, q3, by show q.length = _; rw [q2]; exact hlen, .inr rfl, ?_, fun i => ?_, fun i hi => ?_, fun i y hy => ?_⟩
      · show t.l.set k x = _
        rw [hvv, tabM_set _ _ (by omega)]
        refine tabM_congr fun i hi => ?_
        unfold updG
        split <;> rfl
      · show hasB q i = _
        rw [q4, hat]
        unfold updG
        by_cases e : i = k
        · rw [if_pos e, decide_eq_true e]; simp
        · rw [if_neg e, decide_eq_false e, Bool.or_false]
      · unfold updG; rw [if_neg (by omega), hnone i hi]
      · unfold updG at hy
        split at hy
        · simp only [Option.some.injEq] at hy; rw [← hy]; exact hx
        · exact hv64 i y hy
    · rw [if_neg z2, if_neg (fun h => z2 h.2)]
      exact ⟨_, rfl, same⟩
  · rw [if_neg z1, if_neg (fun h => z1 h.1)]
    exact ⟨_, rfl, same⟩
theorem devec_Drop_any {d : Dn} (h : OkD d) {n : Nat} {f : Nat → Option Int} (hd : DV (sureD d) n f) {p : Int} : ∃ e : Dn, devec_Drop d p = some e ∧ DV e n (putF n f p none) := by
  have e := devec_sure_eq h
  obtain ⟨n1, s1, t1⟩ := d
  unfold devec_Drop
  simp only [e, Option.bind_some]
  generalize sureD (n1, s1, t1) = u at hd
  have hle := hd.le
  have hnum := hd.num
  have hwl := words_len hd
  have hvl := hd.vlen
  have hb := hd.bits
  have hat := hd.at_
  have hlen := hd.len
  have hnone := hd.none_
  have hv64 := hd.v64
  have hvv := hd.vl
  obtain ⟨m, a, t⟩ := u
  simp only at hnum hwl hvl hb hat hlen hvv ⊢
  subst hnum
  have lo1 : lenOk ((a.l.length : Nat) : Int) = some () := by unfold lenOk bound; rw [if_pos ⟨by omega, by omega⟩]
  have lo2 : lenOk ((t.l.length : Nat) : Int) = some () := by unfold lenOk bound; rw [if_pos ⟨by omega, by omega⟩]
  have c1 : cpL (List.replicate a.l.length (0 : Int)) a.l = some a.l := by unfold cpL; rw [if_pos (by simp)]; simp
  have c2 : cpL (List.replicate t.l.length (0 : Int)) t.l = some t.l := by unfold cpL; rw [if_pos (by simp)]; simp
  simp only [lo1, lo2, Option.bind_some, Int.toNat_natCast, c1, c2]
  unfold putF
  have same : DV ((n : Int), (⟨true, 1, a.l⟩ : Sl Int), (⟨true, 1, t.l⟩ : Sl Int)) n f := ⟨rfl, hle, .inr rfl, hb, hlen, .inr rfl, hvv, hat, hnone, hv64⟩
  by_cases z1 : p ≥ 0
  · rw [if_pos z1]
    by_cases z2 : p < (n : Int)
    · rw [if_pos z2, if_pos ⟨z1, z2⟩]
      obtain ⟨k, rfl⟩ := Int.eq_ofNat_of_zero_le z1
      obtain ⟨q, q1, q2, q3, q4⟩ := flags_Drop_eq (s := ⟨true, 1, a.l⟩) hb (by show a.l.length ≤ _; omega) (p := k) (by show k / 64 < a.l.length; omega)
      have ht := atL_get (l := t.l) (j := k) (by omega)
      simp only [q1, ht, Option.bind_some, Int.toNat_natCast]
      refine ⟨_, rfl, rfl, hle, .inr rfl, q3, by show q.length = _; rw [q2]; exact hlen, .inr rfl, ?_, fun i => ?_, fun i hi => ?_, fun i y hy => ?_⟩
      · show t.l.set k 0 = _
        rw [hvv, tabM_set _ _ (by omega)]
        refine tabM_congr fun i hi => ?_
        unfold updG
        split <;> rfl
      · show hasB q i = _
        rw [q4, hat]
        unfold updG
        by_cases e : i = k
        · rw [if_pos e, decide_eq_true e]; simp
        · rw [if_neg e, decide_eq_false e, Bool.not_false, Bool.and_true]
      · unfold updG; rw [if_neg (by omega), hnone i hi]
      · unfold updG at hy
        split at hy
        · simp at hy
        · exact hv64 i y hy
    · rw [if_neg z2, if_neg (fun h => z2 h.2)]
      exact ⟨_, rfl, same⟩
  · rw [if_neg z1, if_neg (fun h => z1 h.1)]
    exact ⟨_, rfl, same⟩
theorem filt_loop {p : Int} {s : Sl It} (hok : okS 2 s) (hlen : s.l.length ≤ 4096) : loopO (ref09_Drop_b1 p s) (0, []) = some (.inl (s.l.filter fun x => decide (x.1 ≠ p))) := by
  obtain ⟨q, q1, q2⟩ := loop_up (b := ref09_Drop_b1 p s) s.l.length (fun j a => a = ((j : Int), (s.l.take j).filter fun x => decide (x.1 ≠ p))) (fun q => q = .inl (s.l.filter fun x => decide (x.1 ≠ p)))
    (by
      rintro j _ hj rfl
      have hb : ((s.l.take j).filter fun x => decide (x.1 ≠ p)).length + 1 ≤ bound := by
        have := List.length_filter_le (fun x : It => decide (x.1 ≠ p)) (s.l.take j)
        have h3 : (s.l.take j).length ≤ j := by simp; omega
        unfold bound; omega
      simp only [ref09_Drop_b1, at_get hok hj, Option.bind_some, w_succ hj (by omega)]
      rw [if_pos (by omega)]
      have hf := filter_take (fun x : It => decide (x.1 ≠ p)) s.l hj
      by_cases c : s.l[j].1 ≠ p
      · rw [if_pos (by simpa using c)] at hf
        refine .inl ⟨_, ?_, by rw [hf]⟩
        rw [if_pos c, app_ok (by simpa using hb)]; rfl
      · rw [if_neg (by simpa using c), List.append_nil] at hf
        exact .inl ⟨_, if_neg c, by rw [hf]⟩)
    (by
      rintro _ rfl
      exact ⟨_, if_neg (by omega), by rw [List.take_length]⟩) 0 (Nat.zero_le _) (0, []) rfl
  rw [q1, q2]
theorem filt_out {n : Nat} {f : Nat → Option Int} {p : Int} (h : ¬ (0 ≤ p ∧ p < (n : Int))) : (vecG n f).filter (fun x => decide (x.1 ≠ p)) = vecG n f := List.filter_eq_self.2 fun x hx => by
  obtain ⟨q, q1, q2, _⟩ := vecG_inj hx
  simp only [decide_eq_true_eq]; omega
theorem vecS {n : Nat} {f : Nat → Option Int} (hn : n ≤ 4096) : ref09_Sure ((n : Int), mo 2 (vecG n f)) = some ((n : Int), mo 2 (vecG n f)) ∧ (mo 2 (vecG n f)).l.length ≤ 4096 := by
  have hl := gathR_len 0 n f
  have hr : rightB ((n : Int), mo 2 (vecG n f)) = true := right_vecG (by omega) (by omega) (by rw [mo_l, Int.toNat_natCast])
  have hlen : (mo 2 (vecG n f)).l.length ≤ 4096 := by rw [mo_l]; unfold vecG; omega
  exact ⟨by rw [ref09_Sure_eq _ (ok_mo _) (by show (mo 2 (vecG n f)).l.length ≤ _; omega), sure_id hr], hlen⟩
theorem ref09_Put_vec {n : Nat} {f : Nat → Option Int} (hn : n ≤ 4096) (p x : Int) : ref09_Put ((n : Int), mo 2 (vecG n f)) p x = some ((n : Int), mo 2 (vecG n (putF n f p (some x)))) := by
  unfold putF
  by_cases h : 0 ≤ p ∧ p < (n : Int)
  · rw [if_pos h]
    obtain ⟨k, rfl⟩ := Int.eq_ofNat_of_zero_le h.1
    have := ref09_Put_eq (n : Int) (mo 2 (vecG n f)) k x f (ok_mo _) (by omega) (by omega) (by rw [mo_l, Int.toNat_natCast]) (by omega)
    rw [this, Int.toNat_natCast, Int.toNat_natCast]
  · rw [if_neg h]
    obtain ⟨s1, s2⟩ := vecS (n := n) (f := f) hn
    have hl := filt_loop (p := p) (s := mo 2 (vecG n f)) (ok_mo _) s2
    rw [mo_l, filt_out h] at hl
    have b1 : ref09_Put_b1 p (mo 2 (vecG n f)) = ref09_Drop_b1 p (mo 2 (vecG n f)) := rfl
    have b2 : ref09_Put_b2 p (mo 2 (vecG n f)) = ref09_Drop_b1 p (mo 2 (vecG n f)) := rfl
    unfold ref09_Put
    simp only [s1, Option.bind_some]
    by_cases z1 : p < 0
    · rw [if_pos z1, b1, hl]; rfl
    · rw [if_neg z1, if_pos (by omega), b2, hl]; rfl
theorem ref09_Drop_vec {n : Nat} {f : Nat → Option Int} (hn : n ≤ 4096) (p : Int) : ref09_Drop ((n : Int), mo 2 (vecG n f)) p = some ((n : Int), mo 2 (vecG n (putF n f p none))) := by
  unfold putF
  by_cases h : 0 ≤ p ∧ p < (n : Int)
  · rw [if_pos h]
    obtain ⟨k, rfl⟩ := Int.eq_ofNat_of_zero_le h.1
    have := ref09_Drop_eq (n : Int) (mo 2 (vecG n f)) k f (ok_mo _) (by omega) (by omega) (by rw [mo_l, Int.toNat_natCast]) (by omega)
    rw [this, Int.toNat_natCast, Int.toNat_natCast]
  · rw [if_neg h]
    obtain ⟨s1, s2⟩ := vecS (n := n) (f := f) hn
    have hl := filt_loop (p := p) (s := mo 2 (vecG n f)) (ok_mo _) s2
    rw [mo_l, filt_out h] at hl
    unfold ref09_Drop
    simp only [s1, Option.bind_some, hl]; rfl
theorem putF_none {n : Nat} {f : Nat → Option Int} (h : ∀ p, n ≤ p → f p = none) (p : Int) (v : Option Int) : ∀ q, n ≤ q → putF n f p v q = none := fun q hq => by
  unfold putF
  split
  · unfold updG; rw [if_neg (by omega), h q hq]
  · exact h q hq
theorem putF_v64 {n : Nat} {f : Nat → Option Int} (h : ∀ p x, f p = some x → i64r x) {p : Int} {v : Option Int} (hv : ∀ x, v = some x → i64r x) : ∀ q x, putF n f p v q = some x → i64r x := fun q x hx => by
  unfold putF at hx
  split at hx
  · unfold updG at hx
    split at hx
    · exact hv x hx
    · exact h q x hx
  · exact h q x hx
/-- The reference makes a dense vector of a function's items. -/
theorem ref10_Of_vec {n : Nat} {f : Nat → Option Int} (hn : n ≤ 4096) (hf : ∀ p x, f p = some x → i64r x) (h0 : ∀ p, n ≤ p → f p = none) : ∃ d : Dn, ref10_Of ((n : Int), mo 2 (vecG n f)) = some d ∧ DV d n f := by
  obtain ⟨d, d1, d2⟩ := ref10_Of_dv (vecG_good hn hf)
  refine ⟨d, d1, ?_⟩
  have d3 : DV d n fun p => getI (p : Int) (vecG n f) := by
    have := d2
    rw [mo_l] at this
    exact this
  exact d3.congr fun p => by rw [getI_vecG_any h0, if_pos (by omega), Int.toNat_natCast]
theorem ref10_Set_any {d : Dn} (h : OkD d) {n : Nat} {f : Nat → Option Int} (hd : DV (sureD d) n f) {p x : Int} (hx : i64r x) : ∃ e : Dn, ref10_Set d p x = some e ∧ DV e n (putF n f p (some x)) := by
  have e1 := ref10_Back_dv h hd
  have e2 := ref09_Put_vec (f := f) hd.le p x
  obtain ⟨e, e3, e4⟩ := ref10_Of_vec (f := putF n f p (some x)) hd.le (putF_v64 hd.v64 fun y hy => by simp only [Option.some.injEq] at hy; rw [← hy]; exact hx) (putF_none hd.none_ _ _)
  obtain ⟨n1, s1, t1⟩ := d
  unfold ref10_Set
  simp only [e1, e2, Option.bind_some]
  exact ⟨e, by rw [e3]; rfl, e4⟩
theorem ref10_Drop_any {d : Dn} (h : OkD d) {n : Nat} {f : Nat → Option Int} (hd : DV (sureD d) n f) {p : Int} : ∃ e : Dn, ref10_Drop d p = some e ∧ DV e n (putF n f p none) := by
  have e1 := ref10_Back_dv h hd
  have e2 := ref09_Drop_vec (f := f) hd.le p
  obtain ⟨e, e3, e4⟩ := ref10_Of_vec (f := putF n f p none) hd.le (putF_v64 hd.v64 fun y hy => by simp at hy) (putF_none hd.none_ _ _)
  obtain ⟨n1, s1, t1⟩ := d
  unfold ref10_Drop
  simp only [e1, e2, Option.bind_some]
  exact ⟨e, by rw [e3]; rfl, e4⟩
theorem ref10_Get_any {d : Dn} (h : OkD d) {n : Nat} {f : Nat → Option Int} (hd : DV (sureD d) n f) (p : Int) : ref10_Get d p = some (encO (if 0 ≤ p then f p.toNat else none)) := by
  have e1 := ref10_Back_dv h hd
  have hle := hd.le
  have hr : rightB ((n : Int), mo 2 (vecG n f)) = true := right_vecG (by omega) (by omega) (by rw [mo_l, Int.toNat_natCast])
  have e2 := ref09_Get_eq (n : Int) (mo 2 (vecG n f)) p (ok_mo _) hr
  rw [mo_l, getI_vecG_any hd.none_] at e2
  obtain ⟨n1, s1, t1⟩ := d
  unfold ref10_Get
  simp only [e1, Option.bind_some]
  rw [e2]; rfl
theorem ref10_Count_any {d : Dn} (h : OkD d) {n : Nat} {f : Nat → Option Int} (hd : DV (sureD d) n f) : ref10_Count d = some (((vecG n f).length : Nat) : Int) := by
  have e1 := ref10_Back_dv h hd
  obtain ⟨n1, s1, t1⟩ := d
  unfold ref10_Count
  simp only [e1, Option.bind_some, mo_l]
theorem vecG_filter (n : Nat) (f : Nat → Option Int) (ws : List Int) : (vecG n f).filter (fun x => hasB ws x.1.toNat) = vecG n (onlyF f ws) := by
  unfold vecG
  induction n with
  | zero => rfl
  | succ n ih =>
    rw [gathR_last, gathR_last, List.filter_append, ih]
    congr 1
    unfold onlyF
    simp only [Nat.zero_add]
    cases hf : f n with
    | none => cases hasB ws n <;> rfl
    | some y => cases hb : hasB ws n <;> simp [hb]
theorem ref10_Only_any {d : Dn} (h : OkD d) {n : Nat} {f : Nat → Option Int} (hd : DV (sureD d) n f) {s : Sl Int} (hs : okS 1 s) (hu : u64s s.l) : ∃ e : Dn, ref10_Only d s = some e ∧ DV e n (onlyF f s.l) := by
  have e1 := ref10_Back_dv h hd
  have hle := hd.le
  obtain ⟨s1', s2'⟩ := vecS (n := n) (f := f) hle
  obtain ⟨q, q1, q2⟩ := loop_up (b := ref10_Only_b1 s (mo 2 (vecG n f))) (mo 2 (vecG n f)).l.length (fun j a => a = ((j : Int), ((mo 2 (vecG n f)).l.take j).filter fun x => hasB s.l x.1.toNat)) (fun q => q = .inl ((mo 2 (vecG n f)).l.filter fun x => hasB s.l x.1.toNat))
    (by
      rintro j _ hj rfl
      have hb : (((mo 2 (vecG n f)).l.take j).filter fun x => hasB s.l x.1.toNat).length + 1 ≤ bound := by
        have := List.length_filter_le (fun x : It => hasB s.l x.1.toNat) ((mo 2 (vecG n f)).l.take j)
        have h3 : ((mo 2 (vecG n f)).l.take j).length ≤ j := by simp; omega
        unfold bound; omega
      have hmem := List.getElem_mem hj
      have hat := at_get (w := 2) (s := mo 2 (vecG n f)) (ok_mo _) hj
      have hf := filter_take (fun x : It => hasB s.l x.1.toNat) (mo 2 (vecG n f)).l hj
      generalize (mo 2 (vecG n f)).l[j] = y at hmem hat hf
      rw [mo_l] at hmem
      obtain ⟨k, k1, k2, _⟩ := vecG_inj hmem
      obtain ⟨y1, y2⟩ := y
      simp only at k2 hf
      subst k2
      have hh := ref03_Has_eq s k hs hu (by omega)
      simp only [ref10_Only_b1, hat, hh, Option.bind_some, w_succ hj (by omega)]
      rw [if_pos (by omega)]
      rw [Int.toNat_natCast] at hf
      cases c : hasB s.l k with
      | true =>
        rw [if_pos c] at hf
        refine .inl ⟨_, ?_, by rw [hf]⟩
        rw [if_pos rfl, app_ok (by simpa using hb)]; rfl
      | false =>
        rw [if_neg (by rw [c]; simp), List.append_nil] at hf
        exact .inl ⟨_, if_neg (by simp), by rw [hf]⟩)
    (by
      rintro _ rfl
      exact ⟨_, if_neg (by omega), by rw [List.take_length]⟩) 0 (Nat.zero_le _) (0, []) rfl
  rw [mo_l, vecG_filter] at q2
  obtain ⟨e, e3, e4⟩ := ref10_Of_vec (f := onlyF f s.l) hle (fun p x hx => by
    unfold onlyF at hx
    split at hx
    · exact hd.v64 p x hx
    · simp at hx) (fun p hp => by unfold onlyF; rw [hd.none_ p hp]; split <;> rfl)
  obtain ⟨n1, s1, t1⟩ := d
  unfold ref10_Only
  simp only [e1, Option.bind_some]
  rw [q1, q2]
  simp only [Option.bind_some, Sum.elim_inl]
  exact ⟨e, by rw [e3]; rfl, e4⟩
theorem low_bit {x : Nat} (h0 : x ≠ 0) (h : x < 18446744073709551616) : ∃ k : Nat, TZ (x : Int) = some (k : Int) ∧ k < 64 ∧ x.testBit k = true ∧ (∀ i, i < k → x.testBit i = false) ∧ andI .u64 (x : Int) (IntKind.u64.wrap ((x : Int) - 1)) = ((x &&& (x - 1) : Nat) : Int) ∧ ∀ i, (x &&& (x - 1)).testBit i = (x.testBit i && !decide (i = k)) := by
  obtain ⟨m, e1, e2⟩ := Lib.ctzFrom_spec 64 x (by omega) (by omega)
  have ec : Lib.ctz 64 x = Lib.ctzFrom 64 x := by unfold Lib.ctz; rw [if_neg h0]
  generalize hk : Lib.ctzFrom 64 x = k at e1 e2 ec
  have hpos : 0 < 2 ^ k := Nat.two_pow_pos k
  have hx : ∀ i, x.testBit i = (decide (i ≥ k) && (2 * m + 1).testBit (i - k)) := fun i => by rw [e1, Nat.testBit_two_pow_mul]
  have hx1 : x - 1 = 2 ^ k * (2 * m) + (2 ^ k - 1) := by
    rw [e1, Nat.mul_add, Nat.mul_one]; omega
  have hy : ∀ i, (x - 1).testBit i = if i < k then (2 ^ k - 1).testBit i else (2 * m).testBit (i - k) := fun i => by
    rw [hx1, Nat.testBit_two_pow_mul_add _ (by omega)]
  have odd : ∀ j, (2 * m + 1).testBit j = if j = 0 then true else m.testBit (j - 1) := fun j => by
    cases j with
    | zero => rw [if_pos rfl, Nat.testBit_zero]; simp
    | succ j => rw [if_neg (by omega), Nat.testBit_succ, show (2 * m + 1) / 2 = m by omega]; rfl
  have even : ∀ j, (2 * m).testBit j = if j = 0 then false else m.testBit (j - 1) := fun j => by
    cases j with
    | zero => rw [if_pos rfl, Nat.testBit_zero]; simp
    | succ j => rw [if_neg (by omega), Nat.testBit_succ, show (2 * m) / 2 = m by omega]; rfl
  refine ⟨k, ?_, e2, ?_, fun i hi => ?_, ?_, fun i => ?_⟩
  · unfold TZ
    rw [if_pos (by omega), Int.toNat_natCast, ec]
  · rw [hx, decide_eq_true (by omega), odd, if_pos (by omega)]; rfl
  · rw [hx, decide_eq_false (by omega)]; rfl
  · have e3 : IntKind.u64.wrap ((x : Int) - 1) = ((x - 1 : Nat) : Int) := by rw [wrap_u64]; omega
    rw [e3, and_nat h (by omega)]
  · rw [Nat.testBit_and, hx, hy]
    rcases Nat.lt_trichotomy i k with c | c | c
    · rw [decide_eq_false (show ¬ i ≥ k by omega)]; rfl
    · subst c
      rw [if_neg (by omega), even, if_pos (by omega), decide_eq_true (show i = i from rfl)]; simp
    · rw [decide_eq_true (show i ≥ k by omega), if_neg (by omega), odd, even, if_neg (by omega), if_neg (by omega), decide_eq_false (show ¬ i = k by omega)]
      cases m.testBit (i - k - 1) <;> rfl
/-- What a part has so far. -/
def PartI (ws : List Int) (F T B : Nat) (l : List Int) : Prop := l.length = (T + 63) / 64 ∧ u64s l ∧ ∀ q, hasB l q = (decide (q < T) && (hasB ws (q + F) && decide (q + F < B)))
theorem part_in {ws : List Int} {F To i w : Nat} (hFT : F < To) (hTo : To ≤ 4096) (hi : i < 64) (hw : w < 18446744073709551616) (hws : ∀ k, k < 64 → hasB ws (64 * i + k) = w.testBit k) {l : List Int} (hl : PartI ws F (To - F) (64 * i) l) :
    ∃ r, loopO (flags_Part_b2 (F : Int) (To : Int) (i : Int)) ((w : Int), l) = some r ∧ ((∃ l', r = .inl l' ∧ ∃ B, To ≤ B ∧ PartI ws F (To - F) B l') ∨ ∃ l', r = .inr (.inl l') ∧ PartI ws F (To - F) (64 * (i + 1)) l') := by
  have hmax : maxI (F : Int) 0 = (F : Int) := by unfold maxI; rw [if_neg (by omega)]
  refine loop_up (b := flags_Part_b2 (F : Int) (To : Int) (i : Int)) 64 (fun j a => ∃ t w' : Nat, ∃ l : List Int, j ≤ t ∧ t ≤ 64 ∧ a = ((w' : Int), l) ∧ w' < 18446744073709551616 ∧ (∀ k, w'.testBit k = (w.testBit k && decide (t ≤ k))) ∧ PartI ws F (To - F) (64 * i + t) l) _ ?_ ?_ 0 (Nat.zero_le _) _ ⟨0, w, l, Nat.le_refl _, by omega, rfl, hw, fun k => by simp, hl⟩
  · rintro j _ hj ⟨t, w', l, t1, t2, rfl, w1, w2, l1, l2, l3⟩
    by_cases h0 : w' = 0
    · subst h0
      refine .inr ⟨.inr (.inl l), by unfold flags_Part_b2; simp only; rw [if_neg (by omega)], .inr ⟨l, rfl, l1, l2, fun q => ?_⟩⟩
      rw [l3 q]
      by_cases c : 64 * i + t ≤ q + F ∧ q + F < 64 * (i + 1)
      · have e := hws (q + F - 64 * i) (by omega)
        rw [show 64 * i + (q + F - 64 * i) = q + F by omega] at e
        have e2 := w2 (q + F - 64 * i)
        rw [Nat.zero_testBit, decide_eq_true (show t ≤ q + F - 64 * i by omega), Bool.and_true] at e2
        rw [e, ← e2]; simp
      · rw [show decide (q + F < 64 * i + t) = decide (q + F < 64 * (i + 1)) by simp only [decide_eq_decide]; omega]
    · obtain ⟨k, k1, k2, k3, k4, k5, k6⟩ := low_bit h0 w1
      have hk3 := w2 k
      rw [k3] at hk3
      have hwk : w.testBit k = true := by cases hb : w.testBit k with | true => rfl | false => rw [hb] at hk3; simp at hk3
      have htk : t ≤ k := by
        rw [hwk] at hk3
        simpa using hk3.symm
      have hlow : ∀ k', t ≤ k' → k' < k → w.testBit k' = false := fun k' c1 c2 => by
        have := w2 k'
        rw [k4 k' c2, decide_eq_true c1, Bool.and_true] at this
        exact this.symm
      have hgap : ∀ p, 64 * i + t ≤ p → p < 64 * i + k → hasB ws p = false := fun p c1 c2 => by
        have e := hws (p - 64 * i) (by omega)
        rw [show 64 * i + (p - 64 * i) = p by omega] at e
        rw [e]; exact hlow _ (by omega) (by omega)
      have e1 : IntKind.i64.wrap ((i : Int) * 64) = ((64 * i : Nat) : Int) := by rw [wrap64 (by omega) (by omega)]; omega
      have e2 : IntKind.i64.wrap (((64 * i : Nat) : Int) + (k : Int)) = ((64 * i + k : Nat) : Int) := by rw [wrap64 (by omega) (by omega)]; omega
      have hle2 : w' &&& (w' - 1) ≤ w' := Nat.and_le_left
      have w2' : ∀ k', (w' &&& (w' - 1)).testBit k' = (w.testBit k' && decide (k + 1 ≤ k')) := fun k' => by
        rw [k6, w2]
        rcases Nat.lt_trichotomy k' k with c | c | c
        · rw [decide_eq_false (show ¬ k + 1 ≤ k' by omega)]
          by_cases c2 : t ≤ k'
          · rw [hlow k' c2 c]; simp
          · rw [decide_eq_false c2]; simp
        · subst c; simp
        · rw [decide_eq_true (show t ≤ k' by omega), decide_eq_true (show k + 1 ≤ k' by omega), decide_eq_false (show ¬ k' = k by omega)]; simp
      unfold flags_Part_b2
      simp only [k1, Option.bind_some, e1, e2, hmax]
      rw [if_pos (by omega)]
      by_cases z1 : To ≤ 64 * i + k
      · rw [if_pos (by omega)]
        refine .inr ⟨_, rfl, .inl ⟨l, rfl, 64 * i + k, z1, l1, l2, fun q => ?_⟩⟩
        rw [l3 q]
        by_cases c : 64 * i + t ≤ q + F ∧ q + F < 64 * i + k
        · rw [hgap _ c.1 c.2]; simp
        · rw [show decide (q + F < 64 * i + t) = decide (q + F < 64 * i + k) by simp only [decide_eq_decide]; omega]
      · rw [if_neg (by omega)]
        by_cases z2 : F ≤ 64 * i + k
        · have e3 : IntKind.i64.wrap (((64 * i + k : Nat) : Int) - (F : Int)) = ((64 * i + k - F : Nat) : Int) := by rw [wrap64 (by omega) (by omega)]; omega
          rw [if_pos (by omega), e3]
          have hin : (64 * i + k - F) / 64 < l.length := by rw [l1]; omega
          obtain ⟨v, v1, v2, v3, v4⟩ := put_bits (p := 64 * i + k - F) l2 hin
          rw [within_eq (s := ⟨true, 1, l⟩) (by omega)]
          simp only [decide_eq_true hin, Option.bind_some, if_true, div64n (j := 64 * i + k - F) (by omega), v1, flags_bit_eq, k5, Int.toNat_natCast]
          refine .inl ⟨_, rfl, k + 1, _, _, by omega, by omega, rfl, by omega, w2', by rw [v2]; exact l1, v3, fun q => ?_⟩
          rw [v4, l3 q]
          by_cases c : q = 64 * i + k - F
          · have e := hws k k2
            rw [hwk] at e
            rw [decide_eq_true c, show q + F = 64 * i + k by omega, e, decide_eq_true (show q < To - F by omega), decide_eq_true (show 64 * i + k < 64 * i + (k + 1) by omega)]; simp
          · rw [decide_eq_false c, Bool.or_false]
            by_cases c2 : 64 * i + t ≤ q + F ∧ q + F < 64 * i + k
            · rw [hgap _ c2.1 c2.2]; simp
            · rw [show decide (q + F < 64 * i + t) = decide (q + F < 64 * i + (k + 1)) by simp only [decide_eq_decide]; omega]
        · rw [if_neg (by omega), k5]
          refine .inl ⟨_, rfl, k + 1, _, l, by omega, by omega, rfl, by omega, w2', l1, l2, fun q => ?_⟩
          rw [l3 q, show decide (q + F < 64 * i + t) = decide (q + F < 64 * i + (k + 1)) by simp only [decide_eq_decide]; omega]
  · rintro _ ⟨t, w', l, t1, t2, rfl, w1, w2, l1, l2, l3⟩
    have h0 : w' = 0 := Nat.eq_of_testBit_eq fun k => by
      rw [w2, Nat.zero_testBit]
      by_cases hk : k < 64
      · rw [decide_eq_false (by omega)]; simp
      · have : w.testBit k = false := by
          cases hb : w.testBit k with
          | false => rfl
          | true => exact absurd (bit_lt hw hb) hk
        rw [this]; rfl
    subst h0
    obtain rfl : t = 64 := by omega
    exact ⟨.inr (.inl l), by unfold flags_Part_b2; simp only; rw [if_neg (by omega)], .inr ⟨l, rfl, l1, l2, l3⟩⟩
theorem flags_Part_eq {s : Sl Int} (hs : okS 1 s) (hu : u64s s.l) (hl : s.l.length ≤ 64) {F To : Nat} (hFT : F < To) (hTo : To ≤ 4096) : ∃ q, flags_Part s (F : Int) (To : Int) = some q ∧ q.length = (To - F + 63) / 64 ∧ u64s q ∧ ∀ i, hasB q i = (decide (i < To - F) && hasB s.l (i + F)) := by
  have hmax : maxI (F : Int) 0 = (F : Int) := by unfold maxI; rw [if_neg (by omega)]
  have e1 : IntKind.i64.wrap ((To : Int) - (F : Int)) = ((To - F : Nat) : Int) := by rw [wrap64 (by omega) (by omega)]; omega
  unfold flags_Part
  rw [hmax, if_neg (by omega), e1, flags_New_eq (by omega)]
  simp only [Option.bind_some]
  have done : ∀ l B, (To ≤ B ∨ 64 * s.l.length ≤ B) → PartI s.l F (To - F) B l → l.length = (To - F + 63) / 64 ∧ u64s l ∧ ∀ i, hasB l i = (decide (i < To - F) && hasB s.l (i + F)) := fun l B hB ⟨h1, h2, h3⟩ => by
    refine ⟨h1, h2, fun i => ?_⟩
    rw [h3 i]
    by_cases c : i < To - F
    · by_cases c2 : i + F < B
      · rw [decide_eq_true c2, Bool.and_true]
      · rw [hasB_out (ws := s.l) (p := i + F) (by omega)]; simp
    · rw [decide_eq_false c]; rfl
  obtain ⟨r, r1, r2⟩ := loop_up (b := flags_Part_b1 s (F : Int) (To : Int)) s.l.length (fun j a => ∃ l, a = ((j : Int), l) ∧ PartI s.l F (To - F) (64 * j) l) (fun r => ∃ l B, (r = .inl l ∨ r = .inr (.inl l)) ∧ (To ≤ B ∨ 64 * s.l.length ≤ B) ∧ PartI s.l F (To - F) B l)
    (by
      rintro j _ hj ⟨l, rfl, hP⟩
      have ej := at_get hs hj
      have hw := hu _ (List.getElem_mem hj)
      obtain ⟨w, hw2⟩ := Int.eq_ofNat_of_zero_le hw.1
      have hwlt := hw.2
      rw [hw2] at ej hwlt
      obtain ⟨q, q1, q2⟩ := part_in (ws := s.l) hFT hTo (i := j) (w := w) (by omega) (by omega) (fun k hk => by rw [hasB_word (i := j) (k := k) (by omega) (by omega) (List.getElem?_eq_getElem hj), hw2, Int.toNat_natCast]) hP
      simp only [flags_Part_b1, ej, q1, Option.bind_some]
      rw [if_pos (by omega)]
      rcases q2 with ⟨l', rfl, B, b1, b2⟩ | ⟨l', rfl, b2⟩
      · exact .inr ⟨_, rfl, l', B, .inl rfl, .inl b1, b2⟩
      · refine .inl ⟨_, ?_, l', rfl, b2⟩
        simp only [Sum.elim_inr, Sum.elim_inl, w_succ hj (by omega)])
    (by
      rintro _ ⟨l, rfl, hP⟩
      refine ⟨.inr (.inl l), ?_, l, _, .inr rfl, .inr (Nat.le_refl _), hP⟩
      simp only [flags_Part_b1]
      rw [if_neg (by omega)]) 0 (Nat.zero_le _) (0, List.replicate ((To - F + 63) / 64) 0) ⟨_, rfl, by simp, fun x hx => by rw [List.eq_of_mem_replicate hx]; unfold u64r; omega, fun q => by rw [has_zero]; simp⟩
  rw [r1]
  obtain ⟨l, B, hr, hB, hP⟩ := r2
  refine ⟨l, ?_, done l B hB hP⟩
  rcases hr with rfl | rfl <;> rfl
def partN (n : Nat) (a b : Int) : Nat := min b.toNat n - a.toNat
def partF (n : Nat) (f : Nat → Option Int) (a b : Int) : Nat → Option Int := fun p => if p < partN n a b then f (p + a.toNat) else none
theorem partF_none (n : Nat) (f : Nat → Option Int) (a b : Int) : ∀ p, partN n a b ≤ p → partF n f a b p = none := fun p hp => by unfold partF; rw [if_neg (by omega)]
theorem partF_v64 {n : Nat} {f : Nat → Option Int} (h : ∀ p x, f p = some x → i64r x) (a b : Int) : ∀ p x, partF n f a b p = some x → i64r x := fun p x hx => by
  unfold partF at hx
  split at hx
  · exact h _ x hx
  · simp at hx
theorem part_zero {n : Nat} {f : Nat → Option Int} {a b : Int} (h : partN n a b = 0) : partF n f a b = fun _ => none := funext fun p => partF_none n f a b p (by omega)
theorem part_cases (n : Nat) (a b : Int) : (minI b (n : Int) ≤ maxI a 0 ∧ partN n a b = 0) ∨ (¬ minI b (n : Int) ≤ maxI a 0 ∧ ∃ F To : Nat, maxI a 0 = (F : Int) ∧ minI b (n : Int) = (To : Int) ∧ F < To ∧ To ≤ n ∧ a.toNat = F ∧ partN n a b = To - F) := by
  unfold minI maxI partN
  by_cases c : (if (n : Int) < b then (n : Int) else b) ≤ (if 0 > a then 0 else a)
  · refine .inl ⟨c, ?_⟩
    split at c <;> split at c <;> omega
  · refine .inr ⟨c, a.toNat, min b.toNat n, ?_, ?_, ?_, by omega, rfl, rfl⟩
    · split <;> omega
    · split at c <;> split at c <;> split <;> omega
    · split at c <;> split at c <;> omega
theorem devec_Part_any {d : Dn} (h : OkD d) {n : Nat} {f : Nat → Option Int} (hd : DV (sureD d) n f) (a b : Int) : ∃ e : Dn, devec_Part d a b = some e ∧ DV e (partN n a b) (partF n f a b) := by
  have e := devec_sure_eq h
  obtain ⟨n1, s1, t1⟩ := d
  unfold devec_Part
  simp only [e, Option.bind_some]
  generalize sureD (n1, s1, t1) = u at hd
  have hle := hd.le
  have hnum := hd.num
  have hwl := words_len hd
  have hvl := hd.vlen
  have hb := hd.bits
  have hat := hd.at_
  have hhas := hd.has
  have hvals := hd.vals
  have hv64 := hd.v64
  have hvv := hd.vl
  obtain ⟨m, s, t⟩ := u
  simp only at hnum hwl hvl hb hat hvv hhas hvals ⊢
  subst hnum
  rcases part_cases n a b with ⟨c1, c2⟩ | ⟨c1, F, To, c2, c3, c4, c5, c6, c7⟩
  · rw [if_pos c1, part_zero c2, c2]
    exact ⟨_, rfl, nilD_dv⟩
  · rw [if_neg c1, c2, c3, c7]
    have e1 : IntKind.i64.wrap ((To : Int) - (F : Int)) = ((To - F : Nat) : Int) := by rw [wrap64 (by omega) (by omega)]; omega
    have hlo : lenOk ((To - F : Nat) : Int) = some () := by unfold lenOk bound; rw [if_pos ⟨by omega, by omega⟩]
    obtain ⟨q, q1, q2, q3, q4⟩ := flags_Part_eq hhas hb hwl c4 (by omega)
    have hsz : t.sz = 1 := hvals.resolve_left (by intro h; rw [h] at hvl; simp at hvl; omega)
    have hcut : cutS 1 t (F : Int) (To : Int) = some ⟨t.nn, t.sz, (t.l.drop F).take (To - F)⟩ := by
      unfold cutS
      rw [if_pos ⟨by omega, by omega, by omega, .inl hsz⟩, Int.toNat_natCast, Int.toNat_natCast]
    have hlen : ((t.l.drop F).take (To - F)).length = To - F := by simp; omega
    have hcp : cpL (List.replicate (To - F) (0 : Int)) ((t.l.drop F).take (To - F)) = some ((t.l.drop F).take (To - F)) := by
      unfold cpL
      rw [if_pos (by rw [hlen]; simp), hlen]
      simp
    rw [e1, if_neg (by omega), if_neg (by omega), flags_New_eq (by omega)]
    simp only [hlo, q1, hcut, Option.bind_some, Int.toNat_natCast, hcp]
    have hpf : ∀ p, partF n f a b p = if p < To - F then f (p + F) else none := fun p => by unfold partF; rw [c7, c6]
    refine ⟨_, rfl, rfl, by omega, .inr rfl, q3, by exact q2, .inr rfl, ?_, fun p => ?_, ?_, partF_v64 hv64 a b⟩
    · show (t.l.drop F).take (To - F) = _
      refine List.ext_getElem? fun i => ?_
      by_cases hi : i < To - F
      · rw [List.getElem?_take, if_pos hi, List.getElem?_drop, hvv, tabM_get _ (by omega), tabM_get _ hi, hpf, if_pos hi, Nat.add_comm F i]
      · rw [List.getElem?_eq_none (by rw [hlen]; omega), List.getElem?_eq_none (by rw [tabM_len]; omega)]
    · show hasB q p = _
      rw [q4, hpf, hat]
      by_cases hi : p < To - F
      · rw [decide_eq_true hi, if_pos hi]; rfl
      · rw [decide_eq_false hi, if_neg hi]; rfl
    · have := partF_none n f a b
      rwa [c7] at this
def selP (F To : Nat) (x : It) : Option It := if (F : Int) ≤ x.1 then (if x.1 < (To : Int) then some (x.1 - (F : Int), x.2) else none) else none
theorem part_vec {n : Nat} {f g : Nat → Option Int} {F To : Nat} (hFT : F < To) (hTo : To ≤ n) (hg : ∀ p, p < To - F → g p = f (p + F)) : (vecG n f).filterMap (selP F To) = vecG (To - F) g := by
  have e : vecG n f = gathR 0 F f ++ (gathR F (To - F) f ++ gathR To (n - To) f) := by
    have h1 := gathR_app 0 F (n - F) f
    have h2 := gathR_app F (To - F) (n - To) f
    rw [show F + (n - F) = n by omega, Nat.zero_add] at h1
    rw [show To - F + (n - To) = n - F by omega, show F + (To - F) = To by omega] at h2
    unfold vecG
    rw [h1, h2]
  have k1 : (gathR 0 F f).filterMap (selP F To) = [] := List.filterMap_eq_nil_iff.2 fun x hx => by
    obtain ⟨p, _, p2, p3, _⟩ := gathR_mem hx
    unfold selP; rw [if_neg (by omega)]
  have k3 : (gathR To (n - To) f).filterMap (selP F To) = [] := List.filterMap_eq_nil_iff.2 fun x hx => by
    obtain ⟨p, p1, p2, p3, _⟩ := gathR_mem hx
    unfold selP; rw [if_pos (by omega), if_neg (by omega)]
  have k2 : ∀ k, k ≤ To - F → (gathR F k f).filterMap (selP F To) = gathR 0 k g := fun k hk => by
    induction k with
    | zero => rfl
    | succ k ih =>
      rw [gathR_last, gathR_last, List.filterMap_append, ih (by omega), Nat.zero_add, hg k (by omega), Nat.add_comm k F]
      congr 1
      cases f (F + k) with
      | none => rfl
      | some y =>
        have : selP F To (((F + k : Nat) : Int), y) = some ((k : Int), y) := by
          unfold selP
          rw [if_pos (by simp only; omega), if_pos (by simp only; omega)]
          congr 2
          simp only; omega
        show List.filterMap (selP F To) [(((F + k : Nat) : Int), y)] = [((k : Int), y)]
        rw [List.filterMap_cons, this]; rfl
  rw [e, List.filterMap_append, List.filterMap_append, k1, k3, k2 _ (Nat.le_refl _)]
  simp [vecG]
theorem ref09_Part_vec {n : Nat} {f : Nat → Option Int} (hn : n ≤ 4096) (a b : Int) : ref09_Part ((n : Int), mo 2 (vecG n f)) a b = some (((partN n a b : Nat) : Int), mo 2 (vecG (partN n a b) (partF n f a b))) := by
  obtain ⟨s1, s2⟩ := vecS (n := n) (f := f) hn
  unfold ref09_Part
  simp only [s1, Option.bind_some]
  rcases part_cases n a b with ⟨c1, c2⟩ | ⟨c1, F, To, c2, c3, c4, c5, c6, c7⟩
  · rw [if_pos c1, c2]; rfl
  · rw [if_neg c1, c7]
    have hpf : ∀ p, p < To - F → partF n f a b p = f (p + F) := fun p hp => by unfold partF; rw [c7, c6, if_pos hp]
    have hpv := part_vec (n := n) c4 c5 hpf
    have e1 : IntKind.i64.wrap ((To : Int) - (F : Int)) = ((To - F : Nat) : Int) := by rw [wrap64 (by omega) (by omega)]; omega
    obtain ⟨q, q1, q2⟩ := loop_up (b := ref09_Part_b1 a b (n : Int) (mo 2 (vecG n f))) (mo 2 (vecG n f)).l.length (fun j st => st = ((j : Int), ((mo 2 (vecG n f)).l.take j).filterMap (selP F To))) (fun q => q = .inl ((mo 2 (vecG n f)).l.filterMap (selP F To)))
      (by
        rintro j _ hj rfl
        have hb : (((mo 2 (vecG n f)).l.take j).filterMap (selP F To)).length + 1 ≤ bound := by
          have := List.length_filterMap_le (selP F To) ((mo 2 (vecG n f)).l.take j)
          have h3 : ((mo 2 (vecG n f)).l.take j).length ≤ j := by simp; omega
          unfold bound; omega
        have hmem := List.getElem_mem hj
        have hat := at_get (w := 2) (s := mo 2 (vecG n f)) (ok_mo _) hj
        have htk := List.take_succ_eq_append_getElem hj
        rw [htk, List.filterMap_append]
        generalize (mo 2 (vecG n f)).l[j] = y at hmem hat
        rw [mo_l] at hmem
        obtain ⟨k, k1, k2, _⟩ := vecG_inj hmem
        obtain ⟨y1, y2⟩ := y
        simp only at k2
        subst k2
        simp only [ref09_Part_b1, hat, Option.bind_some, w_succ hj (by omega), c2, c3]
        rw [if_pos (by omega)]
        refine .inl ?_
        by_cases z1 : F ≤ k
        · rw [if_pos (by omega)]
          by_cases z2 : k < To
          · rw [if_pos (by omega), wrap64 (by omega) (by omega)]
            have hsel : selP F To ((k : Int), y2) = some ((k : Int) - (F : Int), y2) := by unfold selP; rw [if_pos (by simp only; omega), if_pos (by simp only; omega)]
            rw [app_ok (by simpa using hb)]
            exact ⟨_, rfl, by simp [hsel]⟩
          · rw [if_neg (by omega)]
            have hsel : selP F To ((k : Int), y2) = none := by unfold selP; rw [if_pos (by simp only; omega), if_neg (by simp only; omega)]
            exact ⟨_, rfl, by simp [hsel]⟩
        · rw [if_neg (by omega)]
          have hsel : selP F To ((k : Int), y2) = none := by unfold selP; rw [if_neg (by simp only; omega)]
          exact ⟨_, rfl, by simp [hsel]⟩)
      (by
        rintro _ rfl
        exact ⟨_, if_neg (by omega), by rw [List.take_length]⟩) 0 (Nat.zero_le _) (0, []) rfl
    rw [q1, q2, c2, c3, e1]
    simp only [Option.bind_some, Sum.elim_inl, mo_l, hpv]
theorem ref10_Part_any {d : Dn} (h : OkD d) {n : Nat} {f : Nat → Option Int} (hd : DV (sureD d) n f) (a b : Int) : ∃ e : Dn, ref10_Part d a b = some e ∧ DV e (partN n a b) (partF n f a b) := by
  have e1 := ref10_Back_dv h hd
  have hle := hd.le
  have e2 := ref09_Part_vec (f := f) hle a b
  obtain ⟨e, e3, e4⟩ := ref10_Of_vec (n := partN n a b) (f := partF n f a b) (by unfold partN; omega) (partF_v64 hd.v64 a b) (partF_none n f a b)
  obtain ⟨n1, s1, t1⟩ := d
  unfold ref10_Part
  simp only [e1, e2, Option.bind_some]
  exact ⟨e, by rw [e3]; rfl, e4⟩
theorem okD_of {d : Dn} (h : inK .i64 d.1 ∧ SlW 1 (fun x => inK .u64 x) d.2.1 ∧ SlW 1 (fun x => inK .i64 x) d.2.2) : OkD d :=
  ⟨h.2.1.ok, u64s_of h.2.1, h.2.2.ok, fun x hx => i64r_of (h.2.2.2.2.2 x hx), by have := h.2.1.2.2.1; unfold maxLen at this; omega, by have := h.2.2.2.2.1; unfold maxLen at this; omega⟩
def smallB (d : Dn) : Bool := decide ((d.2.2.l.length : Int) ≤ 150) && decide ((d.2.1.l.length : Int) ≤ 5)
theorem law10_small_eq (d : Dn) : law10_small d = some (smallB d) := by
  obtain ⟨n, s, t⟩ := d
  unfold law10_small smallB
  by_cases h1 : ((t.l.length : Nat) : Int) ≤ 150
  · simp only [if_pos h1]
    by_cases h2 : ((s.l.length : Nat) : Int) ≤ 5
    · simp only [if_pos h2, decide_eq_true h1, decide_eq_true h2]; rfl
    · simp only [if_neg h2, decide_eq_false h2]; simp
  · simp only [if_neg h1, decide_eq_false h1]; simp
theorem law10_DevecDoes_true (d : Dn) (hd : inK .i64 d.1 ∧ SlW 1 (fun x => inK .u64 x) d.2.1 ∧ SlW 1 (fun x => inK .i64 x) d.2.2) (x : It × It) (hx : WIt x.1 ∧ WIt x.2) (s : Sl Int) (hs : SlW 1 (fun x => inK .u64 x) s) : law10_DevecDoes d x s = some true := by
  have od := okD_of hd
  have hp : i64r x.1.1 := i64r_of hx.1.1
  have hv : i64r x.1.2 := i64r_of hx.1.2
  have hu := u64s_of hs
  obtain ⟨n, f, hdv⟩ := sureD_dv od
  have f2 := law10_small_eq d
  have e1 := devec_Get_any od hdv hp
  have e2 := ref10_Get_any od hdv x.1.1
  obtain ⟨a, a1, a2⟩ := devec_Set_any od hdv (p := x.1.1) hv
  obtain ⟨b, b1, b2⟩ := ref10_Set_any od hdv (p := x.1.1) hv
  have s1 := a2.same10 b2 fun _ _ => rfl
  obtain ⟨a', a3, a4⟩ := devec_Drop_any od hdv (p := x.1.1)
  obtain ⟨b', b3, b4⟩ := ref10_Drop_any od hdv (p := x.1.1)
  have s2 := a4.same10 b4 fun _ _ => rfl
  have c1 := devec_Count_any od hdv
  have c2 := ref10_Count_any od hdv
  obtain ⟨p, p1, p2⟩ := devec_Part_any od hdv x.1.1 x.2.1
  obtain ⟨q, q1, q2⟩ := ref10_Part_any od hdv x.1.1 x.2.1
  have s3 := p2.same10 q2 fun _ _ => rfl
  by_cases c : ((s.l.length : Nat) : Int) > 5
  · obtain ⟨d1, d2, d3⟩ := d
    obtain ⟨⟨x1, x2⟩, ⟨x3, x4⟩⟩ := x
    unfold law10_DevecDoes
    simp only [f2, Option.bind_some]
    rw [if_pos c]
    cases smallB (d1, d2, d3) <;> rfl
  obtain ⟨g, g1, g2⟩ := devec_Only_any od hdv hs.ok hu (by omega)
  obtain ⟨h, h1, h2⟩ := ref10_Only_any od hdv hs.ok hu
  have s4 := g2.same10 h2 fun _ _ => rfl
  obtain ⟨d1, d2, d3⟩ := d
  obtain ⟨⟨x1, x2⟩, ⟨x3, x4⟩⟩ := x
  obtain ⟨y1, y2, y3⟩ := a
  obtain ⟨y4, y5, y6⟩ := b
  obtain ⟨y7, y8, y9⟩ := a'
  obtain ⟨z1, z2, z3⟩ := b'
  obtain ⟨z4, z5, z6⟩ := p
  obtain ⟨z7, z8, z9⟩ := q
  obtain ⟨u1, u2, u3⟩ := g
  obtain ⟨u4, u5, u6⟩ := h
  simp only at e1 e2 a1 b1 a3 b3 p1 q1 g1 h1
  unfold law10_DevecDoes
  simp only [f2, Option.bind_some]
  rw [if_neg c]
  cases smallB (d1, d2, d3) with
  | false => rfl
  | true =>
    simp only [if_true, e1, e2, Option.bind_some, FL_eq]
    generalize encO (if 0 ≤ x1 then f x1.toNat else none) = w
    obtain ⟨w1, w2⟩ := w
    simp only [a1, b1, s1, a3, b3, s2, c1, c2, g1, h1, s4, p1, q1, s3, Option.bind_some, if_true]
    cases w2 <;> simp
end Ev
end Go.Proofs.YtjomjfjbpcafhaaDoor
