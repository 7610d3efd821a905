/- Texts of a claim, joined. -/
import Derived.Test.YtmiaonncbefmmaaDoorZT9
import Derived.Test.YtmiaonncbefmmaaDoorZT5
import Derived.Test.YtmiaonncbefmmaaDoorZT7
import Derived.Test.YtmiaonncbefmmaaDoorZT8
set_option linter.unusedVariables false
set_option linter.unusedSimpArgs false
section
namespace Go.Proofs.YtmiaonncbefmmaaDoor
namespace Ev
open Go
set_option linter.unusedVariables false
set_option linter.unusedSimpArgs false
abbrev It := Int × Int
def WIt (x : It) : Prop := inK .i64 x.1 ∧ inK .i64 x.2
def WV (v : Int × Sl It) : Prop := inK .i64 v.1 ∧ SlW 2 WIt v.2
def okS {α : Type} (w : Nat) (s : Sl α) : Prop := s.l = [] ∨ s.sz = w
theorem SlW.ok {α : Type} {w : Nat} {Q : α → Prop} {s : Sl α} (h : SlW w Q s) : okS w s := .inr h.1
def nilS {α : Type} : Sl α := ⟨false, 0, []⟩
theorem ok_nil {α : Type} {w : Nat} : okS w (nilS : Sl α) := .inl rfl
theorem ok_mo {α : Type} {w : Nat} (l : List α) : okS w (mo w l) := by cases l with | nil => exact .inl rfl | cons x l => exact .inr rfl
def asc : Int → Int → List It → Bool
 | _, _, [] => true
 | a, n, x :: l => decide (a < x.1) && decide (x.1 < n) && asc x.1 n l
def sizeB (n : Int) : Bool := decide (0 ≤ n) && decide (n ≤ 4096)
def rightB (v : Int × Sl It) : Bool := sizeB v.1 && asc (-1) v.1 v.2.l
def sureV (v : Int × Sl It) : Int × Sl It := if rightB v = true then v else (0, nilS)
theorem sureV_ok {v : Int × Sl It} (h : okS 2 v.2) : okS 2 (sureV v).2 := by unfold sureV; split; exact h; exact ok_nil
theorem sureV_right (v : Int × Sl It) : rightB (sureV v) = true := by unfold sureV; split; assumption; rfl
theorem asc_lt {n : Int} : ∀ {a : Int} {l : List It}, asc a n l = true → ∀ x ∈ l, a < x.1 ∧ x.1 < n
 | a, y :: l, h, x, hx => by
  simp only [asc, Bool.and_eq_true, decide_eq_true_eq] at h
  rcases List.mem_cons.1 hx with rfl | hx
  ·exact ⟨h.1.1, h.1.2⟩
  ·have := asc_lt h.2 x hx; omega
theorem asc_len {n : Int} : ∀ {a : Int} {l : List It}, asc a n l = true → (l.length : Int) ≤ max (n - a - 1) 0
 | a, [], h => by simp; omega
 | a, y :: l, h => by
  simp only [asc, Bool.and_eq_true, decide_eq_true_eq] at h
  have := asc_len h.2
  simp only [List.length_cons]; omega
theorem right_len {v : Int × Sl It} (h : rightB v = true) : v.2.l.length ≤ 4096 := by
 simp only [rightB, sizeB, Bool.and_eq_true, decide_eq_true_eq] at h
 have := asc_len h.2; omega
theorem sure_len (v : Int × Sl It) : (sureV v).2.l.length ≤ 4096 := right_len (sureV_right v)
theorem spvec_size_eq (n : Int) : spvec_size n = some (sizeB n) := by
 unfold spvec_size sizeB
 by_cases h1 : n ≥ 0
 ·rw [if_pos h1]
  by_cases h2 : n ≤ 4096
  ·rw [if_pos h2, decide_eq_true (show 0 ≤ n from h1), decide_eq_true h2]; rfl
  ·rw [if_neg h2, decide_eq_false h2]; simp
 ·rw [if_neg h1, decide_eq_false (show ¬ 0 ≤ n from h1)]; rfl
theorem spvec_Right_eq (v : Int × Sl It) (hok : okS 2 v.2) (hl : v.2.l.length ≤ 9223372036854775807) : spvec_Right v = some (rightB v) := by
 obtain ⟨n, s⟩ := v
 unfold spvec_Right rightB
 simp only [spvec_size_eq, Option.bind_some]
 cases hs : sizeB n with
 | false => simp
 | true =>
  simp only [if_true, Bool.true_and]
  obtain ⟨r, h1, h2⟩ := loop_up (b := spvec_Right_b1 n s) s.l.length (fun j a => ∃ la, a = (la, (j : Int)) ∧ asc (-1) n s.l = asc la n (s.l.drop j)) (fun r => (asc (-1) n s.l = true ∧ r = .inl ()) ∨ (asc (-1) n s.l = false ∧ r = .inr false))
   (by
    rintro j _ hj ⟨la, rfl, ha⟩
    rw [List.drop_eq_getElem_cons hj] at ha
    simp only [asc] at ha
    simp only [spvec_Right_b1, at_get hok hj, Option.bind_some, w_succ hj (by simp only at hl; omega)]
    rw [if_pos (by omega)]
    by_cases c1 : s.l[j].1 ≤ la
    ·refine .inr ⟨_, if_pos c1, .inr ⟨?_, rfl⟩⟩
     rw [ha, decide_eq_false (by omega)]; rfl
    ·rw [if_neg c1]
     by_cases c2 : s.l[j].1 ≥ n
     ·refine .inr ⟨_, if_pos c2, .inr ⟨?_, rfl⟩⟩
      rw [ha, decide_eq_false (p := s.l[j].1 < n) (by omega)]; simp
     ·refine .inl ⟨_, if_neg c2, _, rfl, ?_⟩
      rw [ha, decide_eq_true (by omega), decide_eq_true (by omega)]; rfl)
   (by
    rintro _ ⟨la, rfl, ha⟩
    refine ⟨_, if_neg (by omega), .inl ⟨?_, rfl⟩⟩
    rw [ha]; simp [asc]) 0 (Nat.zero_le _) (-1, 0) ⟨-1, rfl, rfl⟩
  rw [h1]
  rcases h2 with ⟨h3, rfl⟩ | ⟨h3, rfl⟩ <;> simp [h3]
theorem asc_iff {n : Int} {l : List It} : ∀ {a : Int}, asc a n l = true ↔ ∀ j (h : j < l.length), (if h0 : j = 0 then a < l[j].1 else l[j - 1].1 < l[j].1) ∧ l[j].1 < n := by
 induction l with
 | nil => intro a; simp [asc]
 | cons x l ih =>
  intro a
  simp only [asc, Bool.and_eq_true, decide_eq_true_eq, ih]
  constructor
  ·rintro ⟨⟨h1, h2⟩, h3⟩ j hj
   cases j with
   | zero => exact ⟨by simpa using h1, by simpa using h2⟩
   | succ j =>
    have := h3 j (by simpa using hj)
    refine ⟨?_, by simpa using this.2⟩
    rw [dif_neg (by omega)]
    cases j with
    | zero => simpa using this.1
    | succ j => have := this.1; rw [dif_neg (by omega)] at this; simpa using this
  ·intro h
   have h0 := h 0 (by simp)
   refine ⟨⟨by simpa using h0.1, by simpa using h0.2⟩, fun j hj => ?_⟩
   have := h (j + 1) (by simpa using hj)
   rw [dif_neg (by omega)] at this
   refine ⟨?_, by simpa using this.2⟩
   cases j with
   | zero => simpa using this.1
   | succ j => rw [dif_neg (by omega)]; simpa using this.1
theorem asc_iff' {n : Int} {l : List It} : asc (-1) n l = true ↔ ∀ j (h : j < l.length), 0 ≤ l[j].1 ∧ l[j].1 < n ∧ (j ≠ 0 → l[j - 1].1 < l[j].1) := by
 constructor
 ·intro h j hj
  have h1 := asc_lt h l[j] (List.getElem_mem hj)
  have h2 := (asc_iff.1 h j hj).1
  exact ⟨by omega, h1.2, fun h0 => by rw [dif_neg h0] at h2; exact h2⟩
 ·intro h
  refine asc_iff.2 fun j hj => ⟨?_, (h j hj).2.1⟩
  split
  ·have := (h j hj).1; omega
  ·rename_i h0; exact (h j hj).2.2 h0
end Ev
end Go.Proofs.YtmiaonncbefmmaaDoor
end
section
namespace Go.Proofs.YtmiaonncbefmmaaDoor
namespace Ev
open Go
set_option linter.unusedVariables false
set_option linter.unusedSimpArgs false
def i64r (n : Int) : Prop := -9223372036854775808 ≤ n ∧ n ≤ 9223372036854775807
def u64r (n : Int) : Prop := 0 ≤ n ∧ n ≤ 18446744073709551615
theorem i64r_of {n : Int} (h : inK .i64 n) : i64r n := by simpa [inK, i64r, Lit.wf, IntKind.min, IntKind.max, IntKind.signed, IntKind.bits] using h
theorem WV.ok {v : Int × Sl It} (h : WV v) : okS 2 v.2 := h.2.ok
theorem WV.vals {v : Int × Sl It} (h : WV v) : ∀ x ∈ v.2.l, i64r x.2 := fun x hx => i64r_of (h.2.2.2.2 x hx).2
theorem wrap_u64 (n : Int) : IntKind.u64.wrap n = n % 18446744073709551616 := by
 simp [IntKind.wrap, IntKind.signed, IntKind.bits]
theorem u64_wrap (n : Int) : u64r (IntKind.u64.wrap n) := by rw [wrap_u64]; unfold u64r; omega
theorem u64_id {n : Int} (h : u64r n) : IntKind.u64.wrap (IntKind.i64.wrap n) = n := by rw [wrap_u64, IntKind.wrap_i64]; unfold u64r at h; omega
def ofW (n : Int) : Int × Int := (if n < 0 then -1 else 0, IntKind.u64.wrap n)
theorem ref01_Of_eq (n : Int) : ref01_Of n = some (ofW n) := by
 unfold ref01_Of ofW
 by_cases h : n < 0
 ·simp only [if_pos h]
 ·simp only [if_neg h]
theorem ofW_lo (n : Int) : u64r (ofW n).2 := u64_wrap n
def lessW (a b : Int × Int) : Bool := decide (a.1 < b.1) || (decide (a.1 = b.1) && decide (a.2 < b.2))
theorem ref01_Compare_lt (a b : Int × Int) : ∃ c, ref01_Compare a b = some c ∧ (c < 0 ↔ lessW a b = true) := by
 obtain ⟨a1, a2⟩ := a; obtain ⟨b1, b2⟩ := b
 unfold ref01_Compare lessW
 simp only
 by_cases h2 : a1 < b1
 ·rw [if_pos h2]; exact ⟨-1, rfl, by simp [h2]⟩
 rw [if_neg h2]
 by_cases h3 : a1 = b1
 ·rw [if_pos h3]
  by_cases h4 : a2 < b2
  ·rw [if_pos h4]; exact ⟨-1, rfl, by simp [h3, h4]⟩
  ·rw [if_neg h4]
   by_cases h5 : a1 = b1 ∧ a2 = b2
   ·rw [if_pos h5]; exact ⟨0, rfl, by simp [h3]; omega⟩
   ·rw [if_neg h5]; exact ⟨1, rfl, by simp [h3]; omega⟩
 ·rw [if_neg h3]
  by_cases h5 : a1 = b1 ∧ a2 = b2
  ·exact absurd h5.1 h3
  ·rw [if_neg h5]; exact ⟨1, rfl, by simp [h3]; omega⟩
def lessrW (a b : Int × Int) : Int × Int := if lessW b a = true then b else a
def truthW (b : Bool) : Int × Int := if b = true then (0, 1) else (0, 0)
def addW (a b : Int × Int) : Int × Int := if IntKind.u64.wrap (a.2 + b.2) < a.2 then (IntKind.i64.wrap (IntKind.i64.wrap (a.1 + b.1) + 1), IntKind.u64.wrap (a.2 + b.2)) else (IntKind.i64.wrap (a.1 + b.1), IntKind.u64.wrap (a.2 + b.2))
def ringAdd (r : Int) (a b : Int × Int) : Int × Int :=
 if r = 1 ∨ r = 3 ∨ r = 4 then lessrW a b else if r = 2 then truthW (!(decide (a.1 = 0 ∧ a.2 = 0) && decide (b.1 = 0 ∧ b.2 = 0))) else if r = 5 then addW a b else (0, 0)
theorem ref01_Add_eq (a b : Int × Int) : ref01_Add a b = some (addW a b) := by
 obtain ⟨a1, a2⟩ := a; obtain ⟨b1, b2⟩ := b
 unfold ref01_Add addW
 simp only
 split <;> rfl
theorem ref02_truth_eq (b : Bool) : ref02_truth b = some (truthW b) := by unfold ref02_truth truthW; cases b <;> rfl
theorem ref02_Add_eq (r : Int) (a b : Int × Int) : ref02_Add r a b = some (ringAdd r a b) := by
 obtain ⟨a1, a2⟩ := a; obtain ⟨b1, b2⟩ := b
 have hl : ((ref01_Compare (b1, b2) (a1, a2)).bind fun n => if n < 0 then some (b1, b2) else some (a1, a2)) = some (lessrW (a1, a2) (b1, b2)) := by
  obtain ⟨c, h1, h2⟩ := ref01_Compare_lt (b1, b2) (a1, a2)
  simp only [h1, Option.bind_some]
  unfold lessrW
  by_cases hc : c < 0
  ·rw [if_pos hc, if_pos (h2.1 hc)]
  ·rw [if_neg hc, if_neg (fun h => hc (h2.2 h))]
 unfold ref02_Add ringAdd
 simp only [hl, ref02_truth_eq, ref01_Add_eq, Option.bind_some]
 by_cases h1 : r = 1
 ·simp only [if_pos h1, if_pos (show r = 1 ∨ r = 3 ∨ r = 4 from .inl h1)]
 by_cases h3 : r = 3
 ·simp only [if_neg h1, if_pos h3, if_pos (show r = 1 ∨ r = 3 ∨ r = 4 from .inr (.inl h3))]
 by_cases h4 : r = 4
 ·simp only [if_neg h1, if_neg h3, if_pos h4, if_pos (show r = 1 ∨ r = 3 ∨ r = 4 from .inr (.inr h4))]
 simp only [if_neg h1, if_neg h3, if_neg h4, if_neg (show ¬ (r = 1 ∨ r = 3 ∨ r = 4) by omega)]
 by_cases h2 : r = 2
 ·simp only [if_pos h2]
  by_cases ha : a1 = 0 ∧ a2 = 0
  ·by_cases hb : b1 = 0 ∧ b2 = 0
   ·simp [if_pos ha, if_pos hb, ha, hb]
   ·rw [if_pos ha, if_neg hb, decide_eq_true ha, decide_eq_false hb]; rfl
  ·rw [if_neg ha, decide_eq_false ha]; rfl
 ·simp only [if_neg h2]
  by_cases h5 : r = 5
  ·simp only [if_pos h5]
  ·simp only [if_neg h5]
theorem ringAdd_lo {r : Int} {a b : Int × Int} (ha : u64r a.2) (hb : u64r b.2) : u64r (ringAdd r a b).2 := by
 have h0 : u64r 0 := by unfold u64r; omega
 have h1 : u64r 1 := by unfold u64r; omega
 unfold ringAdd lessrW truthW addW
 split
 ·split <;> assumption
 ·split
  ·split <;> assumption
  ·split
   ·split <;> exact u64_wrap _
   ·exact h0
def narrowW (a : Int × Int) : Int × Bool := if a = ofW (IntKind.i64.wrap a.2) then (IntKind.i64.wrap a.2, true) else (0, false)
theorem i64_wrap (n : Int) : i64r (IntKind.i64.wrap n) := by rw [IntKind.wrap_i64]; unfold i64r; omega
theorem ref01_Narrow_eq {a : Int × Int} (h : u64r a.2) : ref01_Narrow a = some (narrowW a) := by
 obtain ⟨a1, a2⟩ := a
 unfold ref01_Narrow narrowW ofW
 simp only [u64_id h, Prod.mk.injEq, and_true]
 by_cases hn : IntKind.i64.wrap a2 < 0
 ·have hg : ¬ IntKind.i64.wrap a2 ≥ 0 := by omega
  simp only [if_pos hn, if_neg hg]
  by_cases h1 : a1 = 0
  ·have : ¬ a1 = -1 := by omega
   simp only [if_pos h1, if_neg this]
  ·simp only [if_neg h1]
   split <;> rfl
 ·have hg : IntKind.i64.wrap a2 ≥ 0 := by omega
  simp only [if_neg hn, if_pos hg]
  by_cases h1 : a1 = 0
  ·simp only [if_pos h1]
  ·simp only [if_neg h1]
   split <;> rfl
theorem ref02_Is_eq (r : Int) : ref02_Is r = some (decide (1 ≤ r) && decide (r ≤ 5)) := by
 unfold ref02_Is
 by_cases h1 : r ≥ 1
 ·rw [if_pos h1, decide_eq_true (show 1 ≤ r from h1)]
  by_cases h2 : r ≤ 5
  ·rw [if_pos h2, decide_eq_true h2]; rfl
  ·rw [if_neg h2, decide_eq_false h2]; rfl
 ·rw [if_neg h1, decide_eq_false (show ¬ 1 ≤ r from h1)]; rfl
end Ev
end Go.Proofs.YtmiaonncbefmmaaDoor
end
section
namespace Go.Proofs.YtmiaonncbefmmaaDoor
namespace Ev
open Go
set_option linter.unusedVariables false
set_option linter.unusedSimpArgs false
def okR (r : Int) : Bool := decide (1 ≤ r) && decide (r ≤ 5)
end Ev
end Go.Proofs.YtmiaonncbefmmaaDoor
end
section
namespace Go.Proofs.YtmiaonncbefmmaaDoor
namespace Ev
open Go
set_option linter.unusedVariables false
set_option linter.unusedSimpArgs false
def getI (p : Int) : List It → Option Int
 | [] => none
 | x :: l => if x.1 = p then some x.2 else getI p l
def itemO (p : Nat) : Option Int → Option It
 | some x => some ((p : Int), x)
 | none => none
def gathR (a k : Nat) (g : Nat → Option Int) : List It := (List.range' a k).filterMap fun p => itemO p (g p)
theorem gathR_zero (a : Nat) (g : Nat → Option Int) : gathR a 0 g = [] := rfl
theorem gathR_succ (a k : Nat) (g : Nat → Option Int) : gathR a (k + 1) g = (match g a with | some x => [((a : Int), x)] | none => []) ++ gathR (a + 1) k g := by
 unfold gathR
 rw [List.range'_succ, List.filterMap_cons]
 cases h : g a <;> simp [itemO, h]
theorem gathR_app (a k m : Nat) (g : Nat → Option Int) : gathR a (k + m) g = gathR a k g ++ gathR (a + k) m g := by
 unfold gathR
 rw [← List.range'_append_1, List.filterMap_append]
theorem gathR_last (a k : Nat) (g : Nat → Option Int) : gathR a (k + 1) g = gathR a k g ++ (match g (a + k) with | some x => [(((a + k : Nat) : Int), x)] | none => []) := by
 rw [gathR_app, gathR_succ, gathR_zero, List.append_nil]
theorem gathR_congr {a k : Nat} {g g' : Nat → Option Int} (h : ∀ p, a ≤ p → p < a + k → g p = g' p) : gathR a k g = gathR a k g' := by
 induction k generalizing a with
 | zero => rfl
 | succ k ih => rw [gathR_succ, gathR_succ, h a (Nat.le_refl _) (by omega), ih fun p h1 h2 => h p (by omega) (by omega)]
theorem gathR_none {a k : Nat} {g : Nat → Option Int} (h : ∀ p, a ≤ p → p < a + k → g p = none) : gathR a k g = [] := by
 induction k generalizing a with
 | zero => rfl
 | succ k ih => rw [gathR_succ, h a (Nat.le_refl _) (by omega), ih fun p h1 h2 => h p (by omega) (by omega)]; rfl
theorem gathR_mem {a k : Nat} {g : Nat → Option Int} {x : It} (h : x ∈ gathR a k g) : ∃ p : Nat, a ≤ p ∧ p < a + k ∧ x.1 = (p : Int) ∧ g p = some x.2 := by
 unfold gathR at h
 obtain ⟨p, hp, he⟩ := List.mem_filterMap.1 h
 rw [List.mem_range'_1] at hp
 cases hg : g p with
 | none => rw [hg] at he; simp [itemO] at he
 | some v => rw [hg] at he; simp only [itemO, Option.some.injEq] at he; subst he; exact ⟨p, hp.1, hp.2, rfl, hg⟩
theorem gathR_len (a k : Nat) (g : Nat → Option Int) : (gathR a k g).length ≤ k := by
 have := List.length_filterMap_le (fun p => itemO p (g p)) (List.range' a k)
 simpa [gathR] using this
theorem gathR_asc (a k : Nat) (g : Nat → Option Int) (b n : Int) (hb : b < (a : Int)) (hn : ((a + k : Nat) : Int) ≤ n) : asc b n (gathR a k g) = true := by
 induction k generalizing a b with
 | zero => rfl
 | succ k ih =>
  rw [gathR_succ]
  cases h : g a with
  | none => exact ih (a + 1) b (by omega) (by omega)
  | some v =>
   show (decide (b < (a : Int)) && decide ((a : Int) < n) && asc (a : Int) n (gathR (a + 1) k g)) = true
   rw [decide_eq_true hb, decide_eq_true (by omega), ih (a + 1) a (by omega) (by omega)]; rfl
theorem getI_none {p : Int} : ∀ {l : List It}, (∀ x ∈ l, x.1 ≠ p) → getI p l = none
 | [], _ => rfl
 | x :: l, h => by
  unfold getI
  rw [if_neg (h x List.mem_cons_self)]
  exact getI_none fun y hy => h y (List.mem_cons_of_mem _ hy)
theorem getI_gath (a k : Nat) (g : Nat → Option Int) (p : Nat) (h1 : a ≤ p) (h2 : p < a + k) : getI (p : Int) (gathR a k g) = g p := by
 induction k generalizing a with
 | zero => omega
 | succ k ih =>
  rw [gathR_succ]
  by_cases hp : a = p
  ·subst hp
   cases h : g a with
   | some v => simp [getI]
   | none =>
    refine getI_none fun x hx => ?_
    obtain ⟨q, q1, q2, q3, q4⟩ := gathR_mem (by simpa using hx)
    omega
  ·have := ih (a + 1) (by omega) (by omega)
   cases h : g a with
   | some v => simp only [List.singleton_append, getI]; rw [if_neg (by omega)]; exact this
   | none => exact this
theorem asc_gath {n : Int} : ∀ {l : List It} {a k : Nat}, asc ((a : Int) - 1) n l = true → ((a + k : Nat) : Int) = n → l = gathR a k fun p => getI (p : Int) l
 | [], a, k, h, hn => (gathR_none fun p _ _ => rfl).symm
 | x :: l, a, k, h, hn => by
  simp only [asc, Bool.and_eq_true, decide_eq_true_eq] at h
  obtain ⟨⟨h1, h2⟩, h3⟩ := h
  obtain ⟨q, hq⟩ : ∃ q : Nat, x.1 = (q : Int) := ⟨x.1.toNat, by omega⟩
  have hk : k = (q - a) + ((k - (q - a) - 1) + 1) := by omega
  rw [hk, gathR_app, gathR_succ]
  have e1 : gathR a (q - a) (fun p => getI (p : Int) (x :: l)) = [] := gathR_none fun p p1 p2 => by
   refine getI_none fun y hy => ?_
   rcases List.mem_cons.1 hy with rfl | hy
   ·omega
   ·have := asc_lt h3 y hy; omega
  have ea : a + (q - a) = q := by omega
  have e2 : getI ((a + (q - a) : Nat) : Int) (x :: l) = some x.2 := by unfold getI; rw [if_pos (by omega)]
  have h3' : asc (((q + 1 : Nat) : Int) - 1) n l = true := by rw [hq] at h3; simpa using h3
  have ih := asc_gath (k := k - (q - a) - 1) h3' (by omega)
  rw [e1, e2, ea]
  have e3 : gathR (q + 1) (k - (q - a) - 1) (fun p => getI (p : Int) (x :: l)) = l := by
   rw [gathR_congr (g' := fun p => getI (p : Int) l) fun p p1 p2 => by
    show getI (p : Int) (x :: l) = _
    rw [getI, if_neg (by omega)]]
   exact ih.symm
  rw [e3, List.nil_append, ← hq]; rfl
def vecG (n : Nat) (g : Nat → Option Int) : List It := gathR 0 n g
theorem right_gath {n : Int} {s : Sl It} (h : rightB (n, s) = true) : s.l = vecG n.toNat fun p => getI (p : Int) s.l := by
 simp only [rightB, sizeB, Bool.and_eq_true, decide_eq_true_eq] at h
 exact asc_gath (a := 0) (by simpa using h.2) (by omega)
theorem right_vecG {n : Int} {s : Sl It} {g : Nat → Option Int} (h0 : 0 ≤ n) (h1 : n ≤ 4096) (hs : s.l = vecG n.toNat g) : rightB (n, s) = true := by
 simp only [rightB, sizeB, hs, decide_eq_true h0, decide_eq_true h1, Bool.true_and]
 exact gathR_asc _ _ _ _ _ (by omega) (by omega)
end Ev
end Go.Proofs.YtmiaonncbefmmaaDoor
end
section
namespace Go.Proofs.YtmiaonncbefmmaaDoor
namespace Ev
open Go
set_option linter.unusedVariables false
set_option linter.unusedSimpArgs false
theorem right_at {n : Int} {s : Sl It} (h : rightB (n, s) = true) {j : Nat} (hj : j < s.l.length) : 0 ≤ s.l[j].1 ∧ s.l[j].1 < n := by
 simp only [rightB, Bool.and_eq_true] at h
 have := asc_lt h.2 _ (List.getElem_mem hj); omega
theorem right_size {n : Int} {s : Sl It} (h : rightB (n, s) = true) : 0 ≤ n ∧ n ≤ 4096 := by
 simp only [rightB, sizeB, Bool.and_eq_true, decide_eq_true_eq] at h; omega
theorem getI_append (p : Int) : ∀ (l m : List It), getI p (l ++ m) = match getI p l with | some x => some x | none => getI p m
 | [], m => rfl
 | x :: l, m => by
  simp only [List.cons_append, getI]
  by_cases h : x.1 = p
  ·rw [if_pos h, if_pos h]
  ·rw [if_neg h, if_neg h]; exact getI_append p l m
theorem getI_take {n : Int} {s : Sl It} (h : rightB (n, s) = true) {j : Nat} (hj : j < s.l.length) : getI (s.l[j].1) (s.l.take j) = none := by
 simp only [rightB, Bool.and_eq_true] at h
 refine getI_none fun x hx => ?_
 obtain ⟨i, hi, rfl⟩ := List.getElem_of_mem hx
 have hij : i < j := by simp at hi; omega
 rw [List.getElem_take]
 have key : ∀ d i (hi : i + d + 1 < s.l.length), s.l[i].1 < s.l[i + d + 1].1 := by
  intro d
  induction d with
  | zero => intro i hi; exact ((asc_iff'.1 h.2) (i + 1) hi).2.2 (by omega)
  | succ d ih => intro i hi; have h1 := ih i (by omega); have h2 := ((asc_iff'.1 h.2) (i + (d + 1) + 1) hi).2.2 (by omega); simp only [Nat.add_sub_cancel] at h2; exact Int.lt_trans h1 h2
 have := key (j - i - 1) i (by omega)
 simp only [show i + (j - i - 1) + 1 = j by omega] at this
 omega
theorem sure_id {v : Int × Sl It} (h : rightB v = true) : sureV v = v := by unfold sureV; rw [if_pos h]
end Ev
end Go.Proofs.YtmiaonncbefmmaaDoor
end
section
namespace Go.Proofs.YtmiaonncbefmmaaDoor
namespace Ev
open Go
set_option linter.unusedVariables false
set_option linter.unusedSimpArgs false
end Ev
end Go.Proofs.YtmiaonncbefmmaaDoor
end
section
namespace Go.Proofs.YtmiaonncbefmmaaDoor
namespace Ev
open Go
set_option linter.unusedVariables false
set_option linter.unusedSimpArgs false
abbrev Ed := Int × Int × Int
def belowB (a b : Ed) : Bool := decide (a.1 < b.1) || (decide (a.1 = b.1) && decide (a.2.1 < b.2.1))
theorem below_eq (a b : Ed) : ref05_below a b = some (belowB a b) := by
 obtain ⟨a1, a2, a3⟩ := a; obtain ⟨b1, b2, b3⟩ := b
 unfold ref05_below belowB
 simp only
 by_cases h1 : a1 < b1
 ·simp [h1]
 ·by_cases h2 : a1 = b1
  ·by_cases h3 : a2 < b2
   ·simp [h2, h3]
   ·simp [h2, h3]
  ·simp [h1, h2]
def Rises (l : List Ed) : Prop := ∀ i j (hi : i < l.length) (hj : j < l.length), i < j → belowB l[i] l[j] = true
theorem below_trans {a b c : Ed} (h1 : belowB a b = true) (h2 : belowB b c = true) : belowB a c = true := by
 simp only [belowB, Bool.or_eq_true, Bool.and_eq_true, decide_eq_true_eq] at *; omega
theorem mo_at {α : Type} {w : Nat} {l : List α} {j : Nat} (hj : j < l.length) : atS w (mo w l) (j : Int) = some l[j] := by
 have := at_get (s := mo w l) (w := w) (ok_mo l) (j := j) (by rw [mo_l]; exact hj)
 rw [this]
 congr 1
 simp only [mo_l]
def insAt {α : Type} (l : List α) (i : Nat) (x : α) : List α := l.take i ++ x :: l.drop i
theorem insAt_len {α : Type} {l : List α} {i : Nat} {x : α} (hi : i ≤ l.length) : (insAt l i x).length = l.length + 1 := by unfold insAt; simp; omega
theorem ins_get {α : Type} {l : List α} {i k : Nat} {x : α} (hi : i ≤ l.length) (hk : k < (l.take i ++ x :: l.drop i).length) (hk2 : k < l.length + 1) : (l.take i ++ x :: l.drop i)[k] = if h1 : k < i then l[k]'(by omega) else if h2 : k = i then x else l[k - 1]'(by omega) := by
 rw [List.getElem_append]
 have ht : (l.take i).length = i := by simp; omega
 by_cases h1 : k < i
 ·rw [dif_pos (by omega), dif_pos h1, List.getElem_take]
 ·rw [dif_neg (by omega), dif_neg h1]
  by_cases h2 : k = i
  ·subst h2; simp [ht]
  ·rw [dif_neg h2]
   obtain ⟨m, hm⟩ : ∃ m, k - (l.take i).length = m + 1 := ⟨k - i - 1, by omega⟩
   simp only [hm, List.getElem_cons_succ, List.getElem_drop]
   congr 1; omega
theorem insAt_get {α : Type} {l : List α} {i k : Nat} {x : α} (hi : i ≤ l.length) (hk : k < (insAt l i x).length) : (insAt l i x)[k] = if h1 : k < i then l[k]'(by omega) else if h2 : k = i then x else l[k - 1]'(by rw [insAt_len hi] at hk; omega) := ins_get hi hk (by rw [insAt_len hi] at hk; exact hk)
theorem shift_end {α : Type} {l X : List α} {z x : α} {i : Nat} (hi : i ≤ l.length) (hl : X.length = l.length + 1) (h : ∀ k (hk : k < X.length), X[k] = if h0 : k ≤ i then (l ++ [z])[k]'(by simp; omega) else (l ++ [z])[k - 1]'(by simp; omega)) : X.set i x = insAt l i x := by
 refine List.ext_getElem (by rw [List.length_set, hl, insAt_len hi]) fun k h1 h2 => ?_
 have hk : k < X.length := by simpa using h1
 rw [insAt_get hi, List.getElem_set]
 by_cases c1 : i = k
 ·subst c1; rw [if_pos rfl, dif_neg (by omega), dif_pos rfl]
 rw [if_neg c1, h k hk]
 by_cases c2 : k < i
 ·rw [dif_pos (by omega), dif_pos c2, List.getElem_append_left (by omega)]
 ·rw [dif_neg (by omega), dif_neg c2, dif_neg (fun e => c1 e.symm), List.getElem_append_left (by omega)]
theorem set_get {α : Type} {X : List α} {j k : Nat} {y : α} (hk : k < (X.set j y).length) : (X.set j y)[k] = if j = k then y else X[k]'(by simpa using hk) := List.getElem_set hk
theorem shift_step {α : Type} {A X : List α} {j : Nat} (hX : X.length = A.length) (hj : j < X.length) (hj0 : 0 < j) (h : ∀ k (hk : k < X.length), X[k] = if h0 : k ≤ j then A[k]'(by omega) else A[k - 1]'(by omega)) :
  ∀ k (hk : k < (X.set j (X[j - 1]'(by omega))).length), (X.set j (X[j - 1]'(by omega)))[k] = if h0 : k ≤ j - 1 then A[k]'(by rw [List.length_set] at hk; omega) else A[k - 1]'(by rw [List.length_set] at hk; omega) := by
 intro k hk
 have hk' : k < X.length := by simpa using hk
 rw [set_get]
 by_cases c : j = k
 ·subst c
  have e := h (j - 1) (by omega)
  rw [dif_pos (by omega)] at e
  rw [if_pos rfl, dif_neg (by omega)]
  exact e
 ·rw [if_neg c, h k hk']
  by_cases c2 : k ≤ j
  ·rw [dif_pos c2, dif_pos (by omega)]
  ·rw [dif_neg c2, dif_neg (by omega)]
def ShI {α : Type} (A X : List α) (j : Nat) : Prop := X.length = A.length ∧ ∀ k (h1 : k < X.length) (h2 : k < A.length), X[k] = if h0 : k ≤ j then A[k] else A[k - 1]'(by omega)
theorem loop_down {A R : Type} {b : A → Option (A ⊕ R)} (at' : Nat) (I : Nat → A → Prop) (Q : R → Prop) (hs : ∀ j a, at' < j → I j a → ∃ a', b a = some (.inl a') ∧ I (j - 1) a') (he : ∀ a, I at' a → ∃ r, b a = some (.inr r) ∧ Q r) (j : Nat) (hj : at' ≤ j) (a : A) (ha : I j a) : ∃ r, loopO b a = some r ∧ Q r := by
 obtain ⟨k, rfl⟩ : ∃ k, j = at' + k := ⟨j - at', by omega⟩
 induction k generalizing a with
 | zero => obtain ⟨r, h1, h2⟩ := he a ha; exact ⟨r, loopO_done h1, h2⟩
 | succ k ih =>
  obtain ⟨a', h1, h2⟩ := hs (at' + (k + 1)) a (by omega) ha
  obtain ⟨r, h3, h4⟩ := ih a' (by omega) (by simpa using h2)
  exact ⟨r, (loopO_step h1).trans h3, h4⟩
theorem ShI.step {α : Type} {A X : List α} {j : Nat} (h : ShI A X j) (hj : j < X.length) (hj0 : 0 < j) : ShI A (X.set j (X[j - 1]'(by omega))) (j - 1) := by
 obtain ⟨h1, h2⟩ := h
 refine ⟨by rw [List.length_set]; exact h1, fun k k1 k2 => ?_⟩
 exact shift_step h1 hj hj0 (fun k hk => h2 k hk (by omega)) k k1
theorem w_pred {j : Nat} (h : 0 < j) (hn : j ≤ 9223372036854775807) : IntKind.i64.wrap ((j : Int) - 1) = ((j - 1 : Nat) : Int) := by rw [wrap64 (by omega) (by omega)]; omega
theorem shift3 (at' : Nat) (A : List Ed) (B : List (Int × Int)) (h0 : 0 < A.length) (hAB : A.length = B.length) (hl : A.length ≤ 1000000) (ha : at' < A.length) : ∃ X Y, loopO (ref05_Combine_b3 (at' : Int)) (A, B, ((A.length - 1 : Nat) : Int)) = some (.inl (X, Y)) ∧ ShI A X at' ∧ ShI B Y at' := by
 obtain ⟨r, h1, X, Y, rfl, h2, h3⟩ := loop_down (b := ref05_Combine_b3 (at' : Int)) at' (fun j a => ∃ X Y, a = (X, Y, (j : Int)) ∧ j < A.length ∧ ShI A X j ∧ ShI B Y j) (fun r => ∃ X Y, r = .inl (X, Y) ∧ ShI A X at' ∧ ShI B Y at')
  (by
   rintro j _ hj ⟨X, Y, rfl, hjA, hX, hY⟩
   have e1 := hX.1
   have e2 := hY.1
   simp only [ref05_Combine_b3]
   rw [if_pos (by omega), w_pred (by omega) (by omega), mo_at (show j - 1 < X.length by omega), mo_at (show j < X.length by omega), mo_at (show j - 1 < Y.length by omega), mo_at (show j < Y.length by omega)]
   exact ⟨_, rfl, _, _, rfl, by omega, hX.step (by omega) (by omega), hY.step (by omega) (by omega)⟩)
  (by
   rintro _ ⟨X, Y, rfl, hjA, hX, hY⟩
   exact ⟨_, if_neg (by omega), X, Y, rfl, hX, hY⟩) (A.length - 1) (by omega) (A, B, ((A.length - 1 : Nat) : Int)) ⟨A, B, rfl, by omega, ⟨rfl, fun k k1 k2 => by rw [dif_pos (by omega)]⟩, ⟨rfl, fun k k1 k2 => by rw [dif_pos (by omega)]⟩⟩
 exact ⟨X, Y, h1, h2, h3⟩
structure SumW (r : Int) (K : Ed → Prop) (P : Int × Int → Prop) : Prop where
 lo : ∀ a, P a → u64r a.2
 one : ∀ y, K y → P (ofW y.2.2)
 add : ∀ a b, P a → P b → P (ringAdd r a b)
structure CI (K : Ed → Prop) (P : Int × Int → Prop) (c : Nat) (E : List Ed) (S : List (Int × Int)) : Prop where
 len : E.length = S.length
 few : E.length ≤ c
 rise : Rises E
 ends : ∀ x ∈ E, ∃ y, K y ∧ x.1 = y.1 ∧ x.2.1 = y.2.1
 lo : ∀ x ∈ S, P x
theorem below_keys {a b a' b' : Ed} (h1 : a.1 = a'.1) (h2 : a.2.1 = a'.2.1) (h3 : b.1 = b'.1) (h4 : b.2.1 = b'.2.1) : belowB a b = belowB a' b' := by unfold belowB; rw [h1, h2, h3, h4]
theorem CI.ins {K : Ed → Prop} {P : Int × Int → Prop} {c : Nat} {E : List Ed} {S : List (Int × Int)} (h : CI K P c E S) {e : Ed} (he : K e) {i : Nat} (hi : i ≤ E.length) (hb : ∀ k (hk : k < E.length), k < i → belowB E[k] e = true) (ha : ∀ (hk : i < E.length), belowB e E[i] = true) {s : Int × Int} (hs : P s) (w : Int) : CI K P (c + 1) (insAt E i (e.1, e.2.1, w)) (insAt S i s) := by
 have hiS : i ≤ S.length := by rw [← h.len]; exact hi
 refine ⟨by rw [insAt_len hi, insAt_len hiS, h.len], by rw [insAt_len hi]; have := h.few; omega, fun a b h1 h2 hab => ?_, fun x hx => ?_, fun x hx => ?_⟩
 ·have hla := h1
  have hlb := h2
  rw [insAt_len hi] at hla hlb
  rw [insAt_get hi, insAt_get hi]
  have hafter : ∀ k (hk : k < E.length), i ≤ k → belowB e E[k] = true := fun k hk hik => by
   by_cases c : k = i
   ·subst c; exact ha hk
   ·exact below_trans (ha (by omega)) (h.rise i k (by omega) hk (by omega))
  by_cases c1 : a < i
  ·rw [dif_pos c1]
   by_cases c2 : b < i
   ·rw [dif_pos c2]; exact h.rise a b (by omega) (by omega) hab
   ·rw [dif_neg c2]
    by_cases c3 : b = i
    ·rw [dif_pos c3]; exact (below_keys (a := E[a]) (b := (e.1, e.2.1, w)) (a' := E[a]) (b' := e) rfl rfl rfl rfl).trans (hb a (by omega) c1)
    ·rw [dif_neg c3]; exact h.rise a (b - 1) (by omega) (by omega) (by omega)
  ·rw [dif_neg c1, dif_neg (show ¬ b < i by omega), dif_neg (show ¬ b = i by omega)]
   by_cases c3 : a = i
   ·rw [dif_pos c3]; exact (below_keys (a := (e.1, e.2.1, w)) (b := E[b - 1]) (a' := e) (b' := E[b - 1]) rfl rfl rfl rfl).trans (hafter (b - 1) (by omega) (by omega))
   ·rw [dif_neg c3]; exact h.rise (a - 1) (b - 1) (by omega) (by omega) (by omega)
 ·unfold insAt at hx
  rcases List.mem_append.1 hx with hx | hx
  ·exact h.ends x (List.mem_of_mem_take hx)
  ·rcases List.mem_cons.1 hx with rfl | hx
   ·exact ⟨e, he, rfl, rfl⟩
   ·exact h.ends x (List.mem_of_mem_drop hx)
 ·unfold insAt at hx
  rcases List.mem_append.1 hx with hx | hx
  ·exact h.lo x (List.mem_of_mem_take hx)
  ·rcases List.mem_cons.1 hx with rfl | hx
   ·exact hs
   ·exact h.lo x (List.mem_of_mem_drop hx)
theorem place2 (s : Sl Ed) (E : List Ed) (j : Nat) (hok : okS 3 s) (hj : j < s.l.length) (hE : E.length ≤ 1000000) : ∃ i : Nat, i ≤ E.length ∧ loopO (ref05_Combine_b2 s E (j : Int)) 0 = some (.inl (i : Int)) ∧ (∀ k (hk : k < E.length), k < i → belowB E[k] s.l[j] = true) ∧ (∀ hk : i < E.length, belowB E[i] s.l[j] = false) := by
 obtain ⟨r, h1, i, rfl, h2⟩ := loop_up (b := ref05_Combine_b2 s E (j : Int)) E.length (fun i a => a = (i : Int) ∧ ∀ k (hk : k < E.length), k < i → belowB E[k] s.l[j] = true) (fun r => ∃ i : Nat, r = .inl (i : Int) ∧ i ≤ E.length ∧ (∀ k (hk : k < E.length), k < i → belowB E[k] s.l[j] = true) ∧ (∀ hk : i < E.length, belowB E[i] s.l[j] = false))
  (by
   rintro i _ hi ⟨rfl, ha⟩
   simp only [ref05_Combine_b2, mo_at hi, at_get hok hj, Option.bind_some, below_eq, w_succ hi (by omega)]
   rw [if_pos (by omega)]
   cases c : belowB E[i] s.l[j] with
   | true =>
    refine .inl ⟨_, if_pos rfl, rfl, fun k hk hki => ?_⟩
    by_cases e : k = i
    ·subst e; exact c
    ·exact ha k hk (by omega)
   | false =>
    exact .inr ⟨_, if_neg (by simp), i, rfl, by omega, ha, fun _ => c⟩)
  (by
   rintro _ ⟨rfl, ha⟩
   exact ⟨_, if_neg (by omega), _, rfl, Nat.le_refl _, ha, fun hk => absurd hk (by omega)⟩) 0 (Nat.zero_le _) 0 ⟨rfl, fun k _ h => absurd h (by omega)⟩
 exact ⟨i, h2.1, h1, h2.2⟩
theorem comb_loop (r : Int) (s : Sl Ed) (hok : okS 3 s) (hl : s.l.length ≤ 5000) (K : Ed → Prop) (P : Int × Int → Prop) (hP : SumW r K P) (hK : ∀ x ∈ s.l, K x) : ∃ E S, loopO (ref05_Combine_b1 r s) ([], [], 0) = some (.inl (E, S)) ∧ CI K P s.l.length E S := by
 obtain ⟨q, h1, E, S, rfl, h2⟩ := loop_up (b := ref05_Combine_b1 r s) s.l.length (fun j a => ∃ E S, a = (E, S, (j : Int)) ∧ CI K P j E S) (fun q => ∃ E S, q = .inl (E, S) ∧ CI K P s.l.length E S)
  (by
   rintro j _ hj ⟨E, S, rfl, hI⟩
   have hfew := hI.few
   have hlen := hI.len
   obtain ⟨i, hi, hp, hb, hnb⟩ := place2 s E j hok hj (by omega)
   have hKj : K s.l[j] := hK _ (List.getElem_mem hj)
   simp only [ref05_Combine_b1, hp, at_get hok hj, Option.bind_some, Sum.elim_inl, ref01_Of_eq, w_succ hj (by omega)]
   rw [if_pos (by omega)]
   have happ1 : app E ([(0, 0, 0)] : List Ed) = some (E ++ [(0, 0, 0)]) := app_ok (by simp; unfold bound; omega)
   have happ2 : app S ([(0, 0)] : List (Int × Int)) = some (S ++ [(0, 0)]) := app_ok (by simp; unfold bound; omega)
   have hW : IntKind.i64.wrap ((((E ++ ([(0, 0, 0)] : List Ed)).length : Nat) : Int) - 1) = (((E ++ ([(0, 0, 0)] : List Ed)).length - 1 : Nat) : Int) := w_pred (by simp) (by simp; omega)
   have hins : (∀ hk : i < E.length, belowB s.l[j] E[i] = true) → ∃ X Y, ShI (E ++ [(0, 0, 0)]) X i ∧ ShI (S ++ [(0, 0)]) Y i ∧ i < X.length ∧ i < Y.length ∧ loopO (ref05_Combine_b3 (i : Int)) (E ++ [(0, 0, 0)], S ++ [(0, 0)], (((E ++ ([(0, 0, 0)] : List Ed)).length - 1 : Nat) : Int)) = some (.inl (X, Y)) ∧ loopO (ref05_Combine_b4 (i : Int)) (E ++ [(0, 0, 0)], S ++ [(0, 0)], (((E ++ ([(0, 0, 0)] : List Ed)).length - 1 : Nat) : Int)) = some (.inl (X, Y)) ∧ CI K P (j + 1) (X.set i (s.l[j].1, s.l[j].2.1, 0)) (Y.set i (ofW s.l[j].2.2)) := fun hab => by
    obtain ⟨X, Y, g1, g2, g3⟩ := shift3 i (E ++ [(0, 0, 0)]) (S ++ [(0, 0)]) (by simp) (by simp [hlen]) (by simp; omega) (by simp; omega)
    have lX : X.length = E.length + 1 := by rw [g2.1]; simp
    have lY : Y.length = S.length + 1 := by rw [g3.1]; simp
    refine ⟨X, Y, g2, g3, by omega, by omega, g1, g1, ?_⟩
    rw [shift_end (l := E) (z := (0, 0, 0)) hi lX (fun k hk => g2.2 k hk (by simp; omega)), shift_end (l := S) (z := (0, 0)) (by omega) lY (fun k hk => g3.2 k hk (by simp; omega))]
    exact hI.ins hKj hi hb hab (hP.one _ hKj) 0
   by_cases c : (i : Int) < (E.length : Int)
   ·rw [if_pos c]
    have ci : i < E.length := by omega
    simp only [mo_at ci, Option.bind_some, below_eq]
    cases c2 : belowB s.l[j] E[i] with
    | true =>
     have c' : belowB (s.l[j].1, s.l[j].2.1, s.l[j].2.2) (E[i].1, E[i].2.1, E[i].2.2) = true := c2
     obtain ⟨X, Y, g1, g2, g3, g4, g5, g6, g7⟩ := hins fun _ => c2
     simp only [c', if_true, happ1, happ2, Option.bind_some, hW, g5, Sum.elim_inl, mo_at g3, mo_at g4, Int.toNat_natCast]
     exact .inl ⟨_, rfl, _, _, rfl, g7⟩
    | false =>
     have c' : belowB (s.l[j].1, s.l[j].2.1, s.l[j].2.2) (E[i].1, E[i].2.1, E[i].2.2) = false := c2
     have cS : i < S.length := by omega
     simp only [c', Bool.false_eq_true, if_false, mo_at cS, Option.bind_some, ref02_Add_eq, Int.toNat_natCast]
     refine .inl ⟨_, rfl, _, _, rfl, ?_⟩
     refine ⟨by rw [List.length_set]; exact hI.len, by omega, hI.rise, hI.ends, fun x hx => ?_⟩
     rcases List.mem_or_eq_of_mem_set hx with hx | rfl
     ·exact hI.lo x hx
     ·exact hP.add _ _ (hI.lo _ (List.getElem_mem cS)) (hP.one _ hKj)
   ·rw [if_neg c]
    obtain ⟨X, Y, g1, g2, g3, g4, g5, g6, g7⟩ := hins fun hk => absurd hk (by omega)
    simp only [happ1, happ2, Option.bind_some, hW, g6, Sum.elim_inl, mo_at g3, mo_at g4, Int.toNat_natCast]
    exact .inl ⟨_, rfl, _, _, rfl, g7⟩)
  (by
   rintro _ ⟨E, S, rfl, hI⟩
   exact ⟨_, if_neg (by omega), E, S, rfl, hI⟩) 0 (Nat.zero_le _) ([], [], 0) ⟨[], [], rfl, ⟨rfl, Nat.le_refl _, fun i j hi => absurd hi (by simp), fun x hx => by simp at hx, fun x hx => by simp at hx⟩⟩
 exact ⟨E, S, h1, h2⟩
end Ev
end Go.Proofs.YtmiaonncbefmmaaDoor
end
section
namespace Go.Proofs.YtmiaonncbefmmaaDoor
namespace Ev
open Go
set_option linter.unusedVariables false
set_option linter.unusedSimpArgs false
theorem narrow_r (a : Int × Int) : i64r (narrowW a).1 := by
 unfold narrowW
 split
 ·exact i64_wrap _
 ·unfold i64r; omega
structure CE (K : Ed → Prop) (c : Nat) (E : List Ed) : Prop where
 few : E.length ≤ c
 rise : Rises E
 ends : ∀ x ∈ E, ∃ y, K y ∧ x.1 = y.1 ∧ x.2.1 = y.2.1
 vals : ∀ x ∈ E, i64r x.2.2
theorem narrow_loop (K : Ed → Prop) (P : Int × Int → Prop) (hP : ∀ a, P a → u64r a.2) (c : Nat) (E : List Ed) (S : List (Int × Int)) (h : CI K P c E S) (hc : c ≤ 5000) : ∃ r, loopO (ref05_Combine_b5 S) (E, 0) = some r ∧ ((r = .inr (⟨false, 0, []⟩, 12) ∧ ∃ x, P x ∧ (narrowW x).2 = false) ∨ ∃ E', r = .inl E' ∧ CE K c E') := by
 have hfew := h.few
 have hlen := h.len
 refine loop_up (b := ref05_Combine_b5 S) E.length (fun j a => ∃ X, a = (X, (j : Int)) ∧ X.length = E.length ∧ (∀ k (h1 : k < X.length) (h2 : k < E.length), X[k].1 = E[k].1 ∧ X[k].2.1 = E[k].2.1) ∧ ∀ k (h1 : k < X.length), k < j → i64r X[k].2.2) (fun r => (r = .inr (⟨false, 0, []⟩, 12) ∧ ∃ x, P x ∧ (narrowW x).2 = false) ∨ ∃ E', r = .inl E' ∧ CE K c E')
  (by
   rintro j _ hj ⟨X, rfl, hX, hk, hv⟩
   have hjX : j < X.length := by omega
   have hjS : j < S.length := by omega
   have hlo := hP _ (h.lo _ (List.getElem_mem hjS))
   simp only [ref05_Combine_b5, mo_at hjS, mo_at hjX, Option.bind_some, w_succ hj (by omega), Int.toNat_natCast]
   have hn : ref01_Narrow (S[j].1, S[j].2) = some (narrowW S[j]) := ref01_Narrow_eq hlo
   rw [if_pos (by omega), hn]
   cases hb : (narrowW S[j]).2 with
   | true =>
    refine .inl ⟨(X.set j (X[j].1, X[j].2.1, (narrowW S[j]).1), ((j + 1 : Nat) : Int)), ?_, _, rfl, by rw [List.length_set]; exact hX, fun k h1 h2 => ?_, fun k h1 hkj => ?_⟩
    ·show (if (narrowW S[j]).2 = true then _ else _) = _
     rw [if_pos hb]
    ·have h1' : k < X.length := by simpa using h1
     rw [set_get]
     by_cases e : j = k
     ·subst e; rw [if_pos rfl]; exact hk j h1' h2
     ·rw [if_neg e]; exact hk k h1' h2
    ·have h1' : k < X.length := by simpa using h1
     rw [set_get]
     by_cases e : j = k
     ·subst e; rw [if_pos rfl]; exact narrow_r _
     ·rw [if_neg e]; exact hv k h1' (by omega)
   | false =>
    refine .inr ⟨_, ?_, .inl ⟨rfl, S[j], h.lo _ (List.getElem_mem hjS), hb⟩⟩
    show (if (narrowW S[j]).2 = true then _ else _) = _
    rw [if_neg (by rw [hb]; simp)])
  (by
   rintro _ ⟨X, rfl, hX, hk, hv⟩
   simp only [ref05_Combine_b5]
   refine ⟨_, if_neg (by omega), .inr ⟨X, rfl, by omega, fun i j hi hj hij => ?_, fun x hx => ?_, fun x hx => ?_⟩⟩
   ·have e1 := hk i hi (by omega)
    have e2 := hk j hj (by omega)
    rw [below_keys e1.1 e1.2 e2.1 e2.2]
    exact h.rise i j (by omega) (by omega) hij
   ·obtain ⟨i, hi, rfl⟩ := List.getElem_of_mem hx
    have e1 := hk i hi (by omega)
    obtain ⟨y, y1, y2, y3⟩ := h.ends _ (List.getElem_mem (show i < E.length by omega))
    exact ⟨y, y1, e1.1.trans y2, e1.2.trans y3⟩
   ·obtain ⟨i, hi, rfl⟩ := List.getElem_of_mem hx
    exact hv i hi (by omega)) 0 (Nat.zero_le _) (E, 0) ⟨E, rfl, rfl, fun k _ _ => ⟨rfl, rfl⟩, fun k _ h => absurd h (by omega)⟩
theorem ref05_Combine_eq (r : Int) (s : Sl Ed) (hr : okR r = true) (hok : okS 3 s) (hl : s.l.length ≤ 5000) (K : Ed → Prop) (P : Int × Int → Prop) (hP : SumW r K P) (hK : ∀ x ∈ s.l, K x) : ∃ o, ref05_Combine r s = some o ∧ ((o = (⟨false, 0, []⟩, 12) ∧ ∃ x, P x ∧ (narrowW x).2 = false) ∨ ∃ E, o = (mo 3 E, 0) ∧ CE K s.l.length E) := by
 obtain ⟨E, S, h1, h2⟩ := comb_loop r s hok hl K P hP hK
 obtain ⟨q, h3, h4⟩ := narrow_loop K P hP.lo _ E S h2 hl
 unfold okR at hr
 unfold ref05_Combine
 simp only [ref02_Is_eq, hr, Option.bind_some, if_true, h1, Sum.elim_inl, h3]
 rcases h4 with ⟨rfl, hx⟩ | ⟨E', rfl, h5⟩
 ·exact ⟨_, rfl, .inl ⟨rfl, hx⟩⟩
 ·exact ⟨_, rfl, .inr ⟨E', rfl, h5⟩⟩
def GoodV (v : Int × Sl It) : Prop := rightB v = true ∧ okS 2 v.2 ∧ ∀ x ∈ v.2.l, i64r x.2
theorem good_nil : GoodV (0, nilS) := ⟨rfl, ok_nil, fun x hx => by simp [nilS] at hx⟩
def KOf (n : Int) (Q : Int → Prop) (y : Ed) : Prop := y.1 = 0 ∧ 0 ≤ y.2.1 ∧ y.2.1 < n ∧ Q y.2.2
theorem ref09_Of_any (r n : Int) (s : Sl It) (hr : okR r = true) (hok : okS 2 s) (h0 : 0 ≤ n) (hn : n ≤ 4096) (hl : s.l.length ≤ 5000) (Q : Int → Prop) (hs : ∀ x ∈ s.l, 0 ≤ x.1 ∧ x.1 < n ∧ Q x.2) (P : Int × Int → Prop) (hP : SumW r (KOf n Q) P) : ∃ v e, ref09_Of r n s = some (v, e) ∧ GoodV v ∧ (v.1 = n ∨ ∃ x, P x ∧ (narrowW x).2 = false) := by
 have hr' := hr
 unfold okR at hr'
 unfold ref09_Of
 simp only [ref02_Is_eq, hr', Option.bind_some, if_true]
 rw [if_neg (by omega), if_neg (by omega)]
 obtain ⟨q, h1, h2⟩ := loop_up (b := ref09_Of_b1 n s) s.l.length (fun j a => a = ((s.l.take j).map (fun x => ((0, x.1, x.2) : Ed)), (j : Int))) (fun q => q = .inl (s.l.map fun x => ((0, x.1, x.2) : Ed)))
  (by
   rintro j _ hj rfl
   have hx := hs _ (List.getElem_mem hj)
   have ha : app ((s.l.take j).map (fun x => ((0, x.1, x.2) : Ed))) [(0, s.l[j].1, s.l[j].2)] = some ((s.l.take j).map (fun x => ((0, x.1, x.2) : Ed)) ++ [(0, s.l[j].1, s.l[j].2)]) := app_ok (by simp; unfold bound; omega)
   simp only [ref09_Of_b1, at_get hok hj, Option.bind_some, w_succ hj (by omega), ha]
   rw [if_pos (by omega), if_neg (by omega), if_neg (by omega)]
   refine .inl ⟨_, rfl, ?_⟩
   rw [List.take_succ_eq_append_getElem hj, List.map_append]; rfl)
  (by
   rintro _ rfl
   exact ⟨_, if_neg (by omega), by rw [List.take_length]⟩) 0 (Nat.zero_le _) ([], 0) rfl
 subst h2
 rw [h1]
 simp only [Option.bind_some, Sum.elim_inl]
 obtain ⟨o, h3, h4⟩ := ref05_Combine_eq r (mo 3 (s.l.map fun x => ((0, x.1, x.2) : Ed))) hr (ok_mo _) (by rw [mo_l]; simpa using hl) (KOf n Q) P hP (fun x hx => by
  rw [mo_l] at hx
  obtain ⟨y, hy, rfl⟩ := List.mem_map.1 hx
  exact ⟨rfl, hs y hy⟩)
 rw [h3]
 rcases h4 with ⟨rfl, hbad⟩ | ⟨E, rfl, hE⟩
 ·exact ⟨_, _, rfl, good_nil, .inr hbad⟩
 have hfew : E.length ≤ 5000 := by have := hE.few; rw [mo_l] at this; simp at this; omega
 simp only [Option.bind_some, ne_eq, not_true, if_false]
 obtain ⟨q, h5, h6⟩ := loop_up (b := ref09_Of_b2 (mo 3 E)) E.length (fun j a => a = ((j : Int), (E.take j).map (fun x => ((x.2.1, x.2.2) : It)))) (fun q => q = .inl (E.map fun x => ((x.2.1, x.2.2) : It)))
  (by
   rintro j _ hj rfl
   have ha : app ((E.take j).map (fun x => ((x.2.1, x.2.2) : It))) [(E[j].2.1, E[j].2.2)] = some ((E.take j).map (fun x => ((x.2.1, x.2.2) : It)) ++ [(E[j].2.1, E[j].2.2)]) := app_ok (by simp; unfold bound; omega)
   simp only [ref09_Of_b2, mo_at hj, mo_l, Option.bind_some, w_succ hj (by omega), ha]
   rw [if_pos (by omega)]
   refine .inl ⟨_, rfl, ?_⟩
   rw [List.take_succ_eq_append_getElem hj, List.map_append]; rfl)
  (by
   rintro _ rfl
   simp only [ref09_Of_b2, mo_l]
   exact ⟨_, if_neg (by omega), by rw [List.take_length]⟩) 0 (Nat.zero_le _) (0, []) rfl
 subst h6
 rw [h5]
 refine ⟨_, _, rfl, ⟨?_, ok_mo _, fun x hx => ?_⟩, .inl rfl⟩
 ·simp only [rightB, sizeB, mo_l, decide_eq_true h0, decide_eq_true hn, Bool.true_and]
  refine asc_iff'.2 fun j hj => ?_
  have hjE : j < E.length := by simpa using hj
  obtain ⟨y, ⟨y1, y2, y3, _⟩, y4, y5⟩ := hE.ends _ (List.getElem_mem hjE)
  simp only [List.getElem_map]
  refine ⟨by omega, by omega, fun hj0 => ?_⟩
  obtain ⟨z, ⟨z1, z2, z3, _⟩, z4, z5⟩ := hE.ends _ (List.getElem_mem (show j - 1 < E.length by omega))
  have := hE.rise (j - 1) j (by omega) hjE (by omega)
  simp only [belowB, Bool.or_eq_true, Bool.and_eq_true, decide_eq_true_eq] at this
  omega
 ·rw [mo_l] at hx
  obtain ⟨y, hy, rfl⟩ := List.mem_map.1 hx
  exact hE.vals y hy
theorem pw_any (r : Int) (K : Ed → Prop) : SumW r K fun a => u64r a.2 := ⟨fun a h => h, fun y hy => ofW_lo _, fun a b ha hb => ringAdd_lo ha hb⟩
theorem ref09_Of_good (r n : Int) (s : Sl It) (hr : okR r = true) (hok : okS 2 s) (h0 : 0 ≤ n) (hn : n ≤ 4096) (hl : s.l.length ≤ 5000) (hs : ∀ x ∈ s.l, 0 ≤ x.1 ∧ x.1 < n) : ∃ v e, ref09_Of r n s = some (v, e) ∧ GoodV v := by
 obtain ⟨v, e, h1, h2, _⟩ := ref09_Of_any r n s hr hok h0 hn hl (fun _ => True) (fun x hx => ⟨(hs x hx).1, (hs x hx).2, trivial⟩) _ (pw_any r _)
 exact ⟨v, e, h1, h2⟩
theorem law09_Some_good (n : Int) (s : Sl It) (hn : 0 ≤ n ∧ n ≤ 255) (hok : okS 2 s) (hl : s.l.length ≤ 9223372036854775807) : ∃ v, law09_Some n s = some v ∧ GoodV v := by
 unfold law09_Some
 have hw : IntKind.i64.wrap n = n := wrap64 (by omega) (by omega)
 obtain ⟨k, hk, k0, k1⟩ : ∃ k, modO n 60 = some k ∧ 0 ≤ k ∧ k < 60 := by
  refine ⟨n.tmod 60, by unfold modO; rw [if_pos (by omega)], ?_, ?_⟩
  ·exact Int.tmod_nonneg _ hn.1
  ·exact Int.tmod_lt_of_pos _ (by omega)
 rw [hw, hk]
 simp only [Option.bind_some]
 obtain ⟨q, h1, l, rfl, h2, h3⟩ := loop_up (b := law09_Some_b1 s k) (if 0 < k then min s.l.length 60 else 0) (fun j a => ∃ l, a = (l, (j : Int)) ∧ l.length ≤ j ∧ ∀ x ∈ l, 0 ≤ x.1 ∧ x.1 < k) (fun q => ∃ l, q = .inl l ∧ l.length ≤ 60 ∧ ∀ x ∈ l, 0 ≤ x.1 ∧ x.1 < k)
  (by
   rintro j _ hj ⟨l, rfl, hlj, hlk⟩
   have hk0 : 0 < k := by
    by_cases c : 0 < k
    ·exact c
    ·rw [if_neg c] at hj; omega
   rw [if_pos hk0] at hj
   have hj1 : j < s.l.length := by omega
   have hj2 : j < 60 := by omega
   simp only [law09_Some_b1, at_get hok hj1, Option.bind_some, w_succ hj1 (by omega)]
   rw [if_pos (by omega), if_pos (by omega), if_pos (by omega)]
   by_cases c : s.l[j].1 ≥ 0
   ·rw [if_pos c]
    have hm : modO s.l[j].1 k = some (s.l[j].1.tmod k) := by unfold modO; rw [if_pos (by omega)]
    have ha : app l [(s.l[j].1.tmod k, s.l[j].2)] = some (l ++ [(s.l[j].1.tmod k, s.l[j].2)]) := app_ok (by simp; unfold bound; omega)
    simp only [hm, ha, Option.bind_some]
    refine .inl ⟨_, rfl, _, rfl, by simp; omega, fun x hx => ?_⟩
    rcases List.mem_append.1 hx with hx | hx
    ·exact hlk x hx
    ·simp only [List.mem_singleton] at hx
     subst hx
     exact ⟨Int.tmod_nonneg _ c, Int.tmod_lt_of_pos _ hk0⟩
   ·rw [if_neg c]
    exact .inl ⟨_, rfl, l, rfl, by omega, hlk⟩)
  (by
   rintro _ ⟨l, rfl, hlj, hlk⟩
   have hb : l.length ≤ 60 := by
    by_cases c : 0 < k
    ·rw [if_pos c] at hlj; omega
    ·rw [if_neg c] at hlj; omega
   refine ⟨.inl l, ?_, l, rfl, hb, hlk⟩
   simp only [law09_Some_b1]
   by_cases c : 0 < k
   ·rw [if_pos c]
    by_cases c1 : ((min s.l.length 60 : Nat) : Int) < (s.l.length : Int)
    ·rw [if_pos c1, if_neg (by omega)]
    ·rw [if_neg c1]
   ·rw [if_neg c]
    by_cases c1 : ((0 : Nat) : Int) < (s.l.length : Int)
    ·rw [if_pos c1, if_pos (by omega), if_neg (by omega)]
    ·rw [if_neg c1]) 0 (Nat.zero_le _) ([], 0) ⟨[], rfl, Nat.le_refl _, fun x hx => by simp at hx⟩
 rw [h1]
 simp only [Option.bind_some, Sum.elim_inl]
 obtain ⟨v, e, g1, g2⟩ := ref09_Of_good 1 k (mo 2 l) (by decide) (ok_mo _) k0 (by omega) (by rw [mo_l]; omega) (fun x hx => h3 x (by rw [mo_l] at hx; exact hx))
 rw [g1]
 exact ⟨_, rfl, g2⟩
end Ev
end Go.Proofs.YtmiaonncbefmmaaDoor
end
section
namespace Go.Proofs.YtmiaonncbefmmaaDoor
namespace Ev
open Go
set_option linter.unusedVariables false
set_option linter.unusedSimpArgs false
theorem u8_of {n : Int} (h : inK .u8 n) : 0 ≤ n ∧ n ≤ 255 := by simpa [inK, Lit.wf, IntKind.min, IntKind.max, IntKind.signed, IntKind.bits] using h
end Ev
end Go.Proofs.YtmiaonncbefmmaaDoor
end
section
namespace Go.Proofs.YtmiaonncbefmmaaDoor
namespace Ev
open Go
set_option linter.unusedVariables false
set_option linter.unusedSimpArgs false
end Ev
end Go.Proofs.YtmiaonncbefmmaaDoor
end
section
namespace Go.Proofs.YtmiaonncbefmmaaDoor
namespace Ev
open Go
set_option linter.unusedVariables false
set_option linter.unusedSimpArgs false
end Ev
end Go.Proofs.YtmiaonncbefmmaaDoor
end
section
namespace Go.Proofs.YtmiaonncbefmmaaDoor
namespace Ev
open Go
set_option linter.unusedVariables false
set_option linter.unusedSimpArgs false
end Ev
end Go.Proofs.YtmiaonncbefmmaaDoor
end
section
namespace Go.Proofs.YtmiaonncbefmmaaDoor
namespace Ev
open Go
set_option linter.unusedVariables false
set_option linter.unusedSimpArgs false
end Ev
end Go.Proofs.YtmiaonncbefmmaaDoor
end
section
namespace Go.Proofs.YtmiaonncbefmmaaDoor
namespace Ev
open Go
set_option linter.unusedVariables false
set_option linter.unusedSimpArgs false
def hd : List It → List It → Int × Option Int × Option Int × List It × List It
 | [], [] => (0, none, none, [], [])
 | x :: l, [] => (x.1, some x.2, none, l, [])
 | [], y :: m => (y.1, none, some y.2, [], m)
 | x :: l, y :: m => if x.1 ≤ y.1 then (if y.1 ≤ x.1 then (y.1, some x.2, some y.2, l, m) else (x.1, some x.2, none, l, y :: m)) else (y.1, none, some y.2, x :: l, m)
end Ev
end Go.Proofs.YtmiaonncbefmmaaDoor
end
section
namespace Go.Proofs.YtmiaonncbefmmaaDoor
namespace Ev
open Go
set_option linter.unusedVariables false
set_option linter.unusedSimpArgs false
end Ev
end Go.Proofs.YtmiaonncbefmmaaDoor
end
section
namespace Go.Proofs.YtmiaonncbefmmaaDoor
namespace Ev
open Go
set_option linter.unusedVariables false
set_option linter.unusedSimpArgs false
theorem GoodV.len {v : Int × Sl It} (h : GoodV v) : v.2.l.length ≤ 4096 := right_len h.1
end Ev
end Go.Proofs.YtmiaonncbefmmaaDoor
end
section
namespace Go.Proofs.YtmiaonncbefmmaaDoor
namespace Ev
open Go
set_option linter.unusedVariables false
set_option linter.unusedSimpArgs false
def SpecR (f : Option Int → Option Int → Option (Option Int)) (n : Int) (l m : List It) (q : Option (List It)) : Prop :=
 (q = none → ∃ p, f (getI p l) (getI p m) = none) ∧ ∀ r, q = some r → asc (-1) n r = true ∧ ∀ p, f (getI p l) (getI p m) = some (getI p r)
theorem SpecR.swap {f g : Option Int → Option Int → Option (Option Int)} (hfg : ∀ a b, f a b = g b a) {n : Int} {l m : List It} {q : Option (List It)} (h : SpecR f n l m q) : SpecR g n m l q :=
 ⟨fun e => let ⟨p, hp⟩ := h.1 e; ⟨p, by rw [← hfg]; exact hp⟩, fun r e => ⟨(h.2 r e).1, fun p => by rw [← hfg]; exact (h.2 r e).2 p⟩⟩
abbrev RR := List It ⊕ ((Int × Sl It) × Int)
end Ev
end Go.Proofs.YtmiaonncbefmmaaDoor
end
section
namespace Go.Proofs.YtmiaonncbefmmaaDoor
namespace Ev
open Go
set_option linter.unusedVariables false
set_option linter.unusedSimpArgs false
theorem div64n {j : Nat} (hj : j < 1000000) : divO .i64 (j : Int) 64 = some ((j / 64 : Nat) : Int) := by
 unfold divO
 rw [if_pos (by decide), Int.tdiv_eq_ediv_of_nonneg (by omega), wrap64 (by omega) (by omega)]; rfl
theorem mod64n {j : Nat} : modO (j : Int) 64 = some ((j % 64 : Nat) : Int) := by
 unfold modO
 rw [if_pos (by decide), Int.tmod_eq_emod_of_nonneg (by omega)]; rfl
theorem and_nat {a b : Nat} (ha : a < 18446744073709551616) (hb : b < 18446744073709551616) : andI .u64 (a : Int) (b : Int) = ((a &&& b : Nat) : Int) := by
 unfold andI
 have hb' : IntKind.u64.bits = 64 := rfl
 rw [hb', BitVec.toNat_and, BitVec.toNat_ofInt, BitVec.toNat_ofInt, wrap_u64]
 have e1 : ((a : Int) % ((2 ^ 64 : Nat) : Int)).toNat = a := by omega
 have e2 : ((b : Int) % ((2 ^ 64 : Nat) : Int)).toNat = b := by omega
 rw [e1, e2]
 have : a &&& b < 2 ^ 64 := Nat.and_lt_two_pow a (by omega)
 omega
def hasB (ws : List Int) (p : Nat) : Bool := match ws[p / 64]? with | some w => w.toNat.testBit (p % 64) | none => false
def u64s (ws : List Int) : Prop := ∀ w ∈ ws, u64r w
theorem and_pow (a k : Nat) : a &&& 2 ^ k ≠ 0 ↔ a.testBit k = true := by
 constructor
 ·intro h
  cases hc : a.testBit k with
  | true => rfl
  | false =>
   refine absurd (Nat.eq_of_testBit_eq fun i => ?_) h
   rw [Nat.testBit_and, Nat.testBit_two_pow, Nat.zero_testBit]
   by_cases e : k = i
   ·subst e; rw [hc]; rfl
   ·rw [decide_eq_false e, Bool.and_false]
 ·intro h e
  have : (a &&& 2 ^ k).testBit k = false := by rw [e]; exact Nat.zero_testBit _
  rw [Nat.testBit_and, Nat.testBit_two_pow, h] at this
  simp at this
theorem pow_lt {k : Nat} (hk : k < 64) : 2 ^ k < 18446744073709551616 := Nat.pow_lt_pow_right (by decide) hk
theorem flags_Has_eq (s : Sl Int) (p : Nat) (hok : okS 1 s) (hu : u64s s.l) (hp : p < 1000000) : flags_Has s (p : Int) = some (hasB s.l p) := by
 unfold flags_Has flags_within hasB
 simp only [div64n hp, Option.bind_some]
 rw [if_pos (by omega)]
 by_cases h : p / 64 < s.l.length
 ·rw [if_pos (by omega)]
  simp only [Option.bind_some, if_true, at_get hok h]
  have hw := hu _ (List.getElem_mem h)
  have hg : s.l[p / 64]? = some s.l[p / 64] := List.getElem?_eq_getElem h
  rw [hg]
  obtain ⟨w, hw2⟩ := Int.eq_ofNat_of_zero_le hw.1
  rw [hw2] at hw ⊢
  have hk : p % 64 < 64 := Nat.mod_lt _ (by decide)
  have hpow := pow_lt hk
  have hb : flags_bit (p : Int) = some ((2 ^ (p % 64) : Nat) : Int) := by
   unfold flags_bit
   simp only [mod64n, Option.bind_some]
   have e : IntKind.u64.wrap ((p % 64 : Nat) : Int) = ((p % 64 : Nat) : Int) := by rw [wrap_u64]; omega
   rw [e]
   unfold shl1 shlI
   rw [if_pos (by omega)]
   have hmin : min (((p % 64 : Nat) : Int)).toNat IntKind.u64.bits = p % 64 := by
    have : IntKind.u64.bits = 64 := rfl
    omega
   rw [hmin, Int.one_mul, wrap_u64]
   simp only [Option.bind_some]
   congr 1
   have : (2 : Int) ^ (p % 64) = ((2 ^ (p % 64) : Nat) : Int) := by simp
   rw [this]
   clear this
   generalize 2 ^ (p % 64) = z at hpow ⊢
   omega
  rw [hb]
  simp only [Option.bind_some]
  rw [and_nat (by have := hw.2; omega) hpow]
  simp only [Int.toNat_natCast]
  have ht := and_pow w (p % 64)
  cases hc : w.testBit (p % 64) with
  | false => rw [hc] at ht; rw [if_neg (fun h => by have := ht.1 (fun e => h (by rw [e]; rfl)); simp at this)]
  | true => rw [hc] at ht; rw [if_pos (by have := ht.2 rfl; omega)]
 ·rw [if_neg (by omega)]
  simp only [Option.bind_some, Bool.false_eq_true, if_false]
  rw [List.getElem?_eq_none (by omega)]
end Ev
end Go.Proofs.YtmiaonncbefmmaaDoor
end
section
namespace Go.Proofs.YtmiaonncbefmmaaDoor
namespace Ev
open Go
set_option linter.unusedVariables false
set_option linter.unusedSimpArgs false
theorem at_s {α : Type} {w : Nat} {s : Sl α} (hs : okS w s) {k : Nat} {x : α} (h : s.l[k]? = some x) : atS w s (k : Int) = some x := by
 have hk := (List.getElem?_eq_some_iff.1 h).1
 rw [at_get hs hk, ← h, List.getElem?_eq_getElem hk]
theorem hasB_word {ws : List Int} {p i k : Nat} {w : Int} (hp : p / 64 = i) (hk : p % 64 = k) (hw : ws[i]? = some w) : hasB ws p = w.toNat.testBit k := by unfold hasB; rw [hp, hk, hw]
theorem hasB_out {ws : List Int} {p : Nat} (h : ws.length ≤ p / 64) : hasB ws p = false := by unfold hasB; rw [List.getElem?_eq_none h]
theorem or_nat {a b : Nat} (ha : a < 18446744073709551616) (hb : b < 18446744073709551616) : orI .u64 (a : Int) (b : Int) = ((a ||| b : Nat) : Int) := by
 unfold orI
 have hb' : IntKind.u64.bits = 64 := rfl
 rw [hb', BitVec.toNat_or, BitVec.toNat_ofInt, BitVec.toNat_ofInt, wrap_u64]
 have e1 : ((a : Int) % ((2 ^ 64 : Nat) : Int)).toNat = a := by omega
 have e2 : ((b : Int) % ((2 ^ 64 : Nat) : Int)).toNat = b := by omega
 rw [e1, e2]
 have : a ||| b < 2 ^ 64 := Nat.or_lt_two_pow (by omega) (by omega)
 omega
theorem shl_one {p : Nat} : shl1 .u64 1 (IntKind.u64.wrap ((p % 64 : Nat) : Int)) = some ((2 ^ (p % 64) : Nat) : Int) := by
 have hk : p % 64 < 64 := Nat.mod_lt _ (by decide)
 have hpow := pow_lt hk
 have e : IntKind.u64.wrap ((p % 64 : Nat) : Int) = ((p % 64 : Nat) : Int) := by rw [wrap_u64]; omega
 rw [e]
 unfold shl1 shlI
 rw [if_pos (by omega)]
 have hmin : min (((p % 64 : Nat) : Int)).toNat IntKind.u64.bits = p % 64 := by
  have : IntKind.u64.bits = 64 := rfl
  omega
 rw [hmin, Int.one_mul, wrap_u64]
 congr 1
 have : (2 : Int) ^ (p % 64) = ((2 ^ (p % 64) : Nat) : Int) := by simp
 rw [this]
 clear this
 generalize 2 ^ (p % 64) = z at hpow ⊢
 omega
theorem has_zero (k i : Nat) : hasB (List.replicate k 0) i = false := by
 unfold hasB
 rw [List.getElem?_replicate]
 split
 ·rename_i h
  split at h
  ·simp only [Option.some.injEq] at h; rw [← h]; simp
  ·simp at h
 ·rfl
end Ev
end Go.Proofs.YtmiaonncbefmmaaDoor
end
section
namespace Go.Proofs.YtmiaonncbefmmaaDoor
namespace Ev
open Go
set_option linter.unusedVariables false
set_option linter.unusedSimpArgs false
abbrev E3 := Int × Int × Int
def bel (a b : E3) : Bool := decide (a.1 < b.1) || (decide (a.1 = b.1) && decide (a.2.1 < b.2.1))
abbrev rises (l : List E3) : Prop := l.Pairwise fun a b => bel a b = true
end Ev
end Go.Proofs.YtmiaonncbefmmaaDoor
end
section
namespace Go.Proofs.YtmiaonncbefmmaaDoor
namespace Ev
open Go
set_option linter.unusedVariables false
set_option linter.unusedSimpArgs false
theorem bit_of_ne {x : Nat} (h : x ≠ 0) : ∃ i, x.testBit i = true := by
 by_cases hh : ∃ i, x.testBit i = true
 ·exact hh
 ·refine absurd (Nat.eq_of_testBit_eq (y := 0) fun i => ?_) h
  rw [Nat.zero_testBit]
  cases hb : x.testBit i with
  | false => rfl
  | true => exact absurd ⟨i, hb⟩ hh
theorem shr_nat {w k : Nat} (hw : w < 18446744073709551616) (hk : k < 64) : shr1 .u64 (w : Int) (IntKind.u64.wrap ((k : Nat) : Int)) = some ((w / 2 ^ k : Nat) : Int) := by
 have e : IntKind.u64.wrap ((k : Nat) : Int) = ((k : Nat) : Int) := by rw [wrap_u64]; omega
 rw [e]
 unfold shr1 shrI
 rw [if_pos (by omega)]
 have hmin : min (((k : Nat) : Int)).toNat IntKind.u64.bits = k := by
  have : IntKind.u64.bits = 64 := rfl
  omega
 rw [hmin]
 have : (2 : Int) ^ k = ((2 ^ k : Nat) : Int) := by simp
 rw [this, Int.fdiv_eq_ediv_of_nonneg _ (Int.natCast_nonneg _)]; rfl
theorem bit_lt {w k : Nat} (hw : w < 18446744073709551616) (h : w.testBit k = true) : k < 64 := by
 by_cases hk : k < 64
 ·exact hk
 ·have : w < 2 ^ k := Nat.lt_of_lt_of_le (show w < 2 ^ 64 by omega) (Nat.pow_le_pow_right (by decide) (by omega))
  rw [Nat.testBit_lt_two_pow this] at h; simp at h
theorem TZ_eq {x : Nat} (h0 : x ≠ 0) (h : x < 18446744073709551616) : ∃ k : Nat, TZ (x : Int) = some (k : Int) ∧ k < 64 := by
 unfold TZ
 rw [if_pos (by omega)]
 exact ⟨_, rfl, by simpa using (Lib.lowest_bit 64 x h0 h).2⟩
theorem next_in {n6 j : Int} {w : Nat} (hw : w < 18446744073709551616) (h0 : 0 ≤ n6 ∧ n6 ≤ 100) (h1 : 0 ≤ j ∧ j ≤ 100) : (w = 0 → loopO (flags_Next_b2 n6 j w) () = some (.inr (.inl ()))) ∧ (w ≠ 0 → ∃ z, 0 ≤ z ∧ loopO (flags_Next_b2 n6 j w) () = some (.inl z)) := by
 constructor
 ·intro h
  exact loopO_done (by unfold flags_Next_b2; rw [if_neg (by omega)])
 ·intro h
  obtain ⟨k, hk, hlt⟩ := TZ_eq h hw
  refine ⟨_, ?_, loopO_done (by unfold flags_Next_b2; rw [if_pos (by omega), hk]; rfl)⟩
  rw [wrap64 (n := n6 + 1) (by omega) (by omega), wrap64 (n := (n6 + 1) * 64) (by omega) (by omega), wrap64 (n := j * 64) (by omega) (by omega), wrap64 (n := j * 64 + (k : Int)) (by omega) (by omega), wrap64 (by omega) (by omega)]
  omega
theorem flags_Next_neg (s : Sl Int) (n : Nat) (hok : okS 1 s) (hu : u64s s.l) (hl : s.l.length ≤ 64) (hn : n ≤ 4096) : ∃ z, flags_Next s (n : Int) = some z ∧ (z < 0 ↔ ∀ p, n ≤ p → hasB s.l p = false) := by
 unfold flags_Next flags_within
 have hm : maxI (n : Int) 0 = n := by unfold maxI; rw [if_neg (by omega)]
 rw [hm]
 simp only [div64n (show n < 1000000 by omega), Option.bind_some, mod64n]
 rw [if_pos (by omega)]
 by_cases h : n / 64 < s.l.length
 ·rw [if_pos (by omega)]
  simp only [Option.bind_some, if_true, at_get hok h]
  have hw := hu _ (List.getElem_mem h)
  have hg : s.l[n / 64]? = some s.l[n / 64] := List.getElem?_eq_getElem h
  obtain ⟨w, hw2⟩ := Int.eq_ofNat_of_zero_le hw.1
  rw [hw2] at hw hg ⊢
  have hwlt : w < 18446744073709551616 := by have := hw.2; omega
  rw [shr_nat hwlt (Nat.mod_lt _ (by decide))]
  simp only [Option.bind_some]
  have hle : w / 2 ^ (n % 64) ≤ w := Nat.div_le_self _ _
  have hdv : ∀ i, (w / 2 ^ (n % 64)).testBit i = w.testBit (i + n % 64) := fun i => by rw [Nat.testBit_div_two_pow]
  by_cases h0 : w / 2 ^ (n % 64) = 0
  ·rw [if_neg (by omega)]
   have hsame : ∀ p, p / 64 = n / 64 → n ≤ p → hasB s.l p = false := fun p hp hnp => by
    rw [hasB_word hp rfl hg]
    have := hdv (p % 64 - n % 64)
    rw [h0, Nat.zero_testBit, show p % 64 - n % 64 + n % 64 = p % 64 by omega] at this
    simpa using this.symm
   have hcut : cutS 1 s (IntKind.i64.wrap ((n / 64 : Nat) + 1)) ((s.l.length : Nat) : Int) = some ⟨s.nn, s.sz, s.l.drop (n / 64 + 1)⟩ := by
    rw [w_succ h (by omega)]
    unfold cutS
    rw [if_pos ⟨by omega, by omega, by omega, .inl (hok.resolve_left (by intro e; rw [e] at h; simp at h))⟩]
    simp only [Int.toNat_natCast]
    rw [List.take_of_length_le (by simp)]
   rw [hcut]
   simp only [Option.bind_some]
   have hdm : ∀ x ∈ s.l.drop (n / 64 + 1), u64r x := fun x hx => hu x (List.mem_of_mem_drop hx)
   have hdl : (s.l.drop (n / 64 + 1)).length + (n / 64 + 1) = s.l.length := by simp; omega
   have hdg : ∀ i, (s.l.drop (n / 64 + 1))[i]? = s.l[n / 64 + 1 + i]? := fun i => List.getElem?_drop
   generalize s.l.drop (n / 64 + 1) = d at hdm hdl hdg
   have hget : ∀ i (hi : i < d.length) (h2 : n / 64 + 1 + i < s.l.length), d[i] = s.l[n / 64 + 1 + i] := fun i hi h2 => by
    have := hdg i
    rw [List.getElem?_eq_getElem hi, List.getElem?_eq_getElem h2] at this
    exact Option.some.inj this
   obtain ⟨q, q1, q2⟩ := loop_up (b := flags_Next_b1 ((n / 64 : Nat) : Int) ⟨s.nn, s.sz, d⟩) d.length (fun j a => a = (j : Int) ∧ ∀ i (h : i < d.length), i < j → d[i] = 0) (fun q => (∃ z, q = .inl z ∧ 0 ≤ z ∧ ∃ i, ∃ h : i < d.length, d[i] ≠ 0) ∨ (q = .inr (.inl ()) ∧ ∀ i (h : i < d.length), d[i] = 0))
    (by
     rintro j _ hj ⟨rfl, ha⟩
     have hok' : okS 1 (⟨s.nn, s.sz, d⟩ : Sl Int) := .inr (hok.resolve_left (by intro e; rw [e] at h; simp at h))
     have hjl : j < 64 := by omega
     have hv := hdm _ (List.getElem_mem hj)
     simp only [flags_Next_b1, at_get hok' hj, Option.bind_some]
     rw [if_pos (show (j : Int) < ((d.length : Nat) : Int) by omega)]
     obtain ⟨v, hv2⟩ := Int.eq_ofNat_of_zero_le hv.1
     have hvlt : v < 18446744073709551616 := by have := hv.2; omega
     have hin := next_in (n6 := ((n / 64 : Nat) : Int)) (j := (j : Int)) hvlt ⟨by omega, by omega⟩ ⟨by omega, by omega⟩
     rw [hv2]
     by_cases v0 : v = 0
     ·rw [hin.1 v0]
      refine .inl ⟨_, rfl, by rw [w_succ hj (by omega)], fun i hi hij => ?_⟩
      by_cases e : i = j
      ·subst e; omega
      ·exact ha i hi (by omega)
     ·obtain ⟨z, z0, hz⟩ := hin.2 v0
      rw [hz]
      exact .inr ⟨_, rfl, .inl ⟨z, rfl, z0, j, hj, by omega⟩⟩)
    (by
     rintro _ ⟨rfl, ha⟩
     refine ⟨_, if_neg (show ¬ ((d.length : Nat) : Int) < ((d.length : Nat) : Int) by omega), .inr ⟨rfl, fun i hi => ha i hi hi⟩⟩) 0 (Nat.zero_le _) 0 ⟨rfl, fun i hi h0 => absurd h0 (by omega)⟩
   rw [q1]
   rcases q2 with ⟨z, rfl, z0, i, hi, hne⟩ | ⟨rfl, hz⟩
   ·refine ⟨z, rfl, ?_⟩
    constructor
    ·intro hh; omega
    ·intro hh
     exfalso
     have hi' : n / 64 + 1 + i < s.l.length := by omega
     rw [hget i hi hi'] at hne
     have hv := hu _ (List.getElem_mem hi')
     obtain ⟨v, hv2⟩ := Int.eq_ofNat_of_zero_le hv.1
     rw [hv2] at hne hv
     obtain ⟨k, hk⟩ := bit_of_ne (x := v) (by omega)
     have hk2 := bit_lt (by have := hv.2; omega) hk
     have := hh (64 * (n / 64 + 1 + i) + k) (by omega)
     rw [hasB_word (i := n / 64 + 1 + i) (k := k) (w := (v : Int)) (by omega) (by omega) (by rw [List.getElem?_eq_getElem hi', hv2])] at this
     simp only [Int.toNat_natCast] at this
     rw [hk] at this; simp at this
   ·refine ⟨-1, rfl, ?_⟩
    refine ⟨fun _ p hp => ?_, fun _ => by decide⟩
    by_cases e : p / 64 = n / 64
    ·exact hsame p e hp
    ·by_cases hlen : p / 64 < s.l.length
     ·have hd : p / 64 - (n / 64 + 1) < d.length := by omega
      have := hz _ hd
      rw [hget _ hd (by omega)] at this
      rw [hasB_word (w := 0) rfl rfl (by rw [List.getElem?_eq_getElem hlen, ← this]; congr 2; omega)]
      simp
     ·exact hasB_out (by omega)
  ·rw [if_pos (by omega)]
   obtain ⟨k, hk, hk2⟩ := TZ_eq h0 (by omega)
   rw [hk]
   refine ⟨_, rfl, ?_⟩
   rw [wrap64 (by omega) (by omega)]
   constructor
   ·intro hh; omega
   ·intro hh
    exfalso
    obtain ⟨i, hi⟩ := bit_of_ne h0
    rw [hdv] at hi
    have := bit_lt hwlt hi
    have h2 := hh (64 * (n / 64) + (i + n % 64)) (by omega)
    rw [hasB_word (i := n / 64) (k := i + n % 64) (by omega) (by omega) hg] at h2
    simp only [Int.toNat_natCast] at h2
    rw [hi] at h2; simp at h2
 ·rw [if_neg (by omega)]
  simp only [Option.bind_some, Bool.false_eq_true, if_false]
  refine ⟨-1, rfl, ?_⟩
  exact ⟨fun _ p hp => hasB_out (by omega), fun _ => by decide⟩
theorem flags_words_eq {n : Int} (h : 0 ≤ n ∧ n ≤ 4096) : flags_words n = some ((n + 63) / 64) := by
 unfold flags_words
 have e1 : maxI n 0 = n := by unfold maxI; rw [if_neg (by omega)]
 have e2 : minI n 4096 = n := by unfold minI; rw [if_neg (by omega)]
 rw [e1, e2, wrap64 (by omega) (by omega)]
 unfold divO
 rw [if_pos (by decide), Int.tdiv_eq_ediv_of_nonneg (by omega), wrap64 (by omega) (by omega)]; rfl
def placesL (ws : List Int) : List Int := ((List.range (64 * ws.length)).filter (hasB ws)).map fun p : Nat => (p : Int)
def sizeF (n : Int) : Bool := decide (0 ≤ n) && decide (n ≤ 4096)
def rightF (ws : List Int) (n : Int) : Bool := sizeF n && (decide ((ws.length : Int) = (n + 63) / 64) && (placesL ws).all fun p => decide (p < n))
theorem places_mem {ws : List Int} {p : Int} : p ∈ placesL ws ↔ 0 ≤ p ∧ hasB ws p.toNat = true := by
 unfold placesL
 simp only [List.mem_map, List.mem_filter, List.mem_range]
 constructor
 ·rintro ⟨q, ⟨h1, h2⟩, rfl⟩; exact ⟨by omega, by simpa using h2⟩
 ·rintro ⟨h1, h2⟩
  refine ⟨p.toNat, ⟨?_, h2⟩, by omega⟩
  by_cases hh : p.toNat < 64 * ws.length
  ·exact hh
  ·rw [hasB_out (by omega)] at h2; simp at h2
theorem flags_Right_eq (s : Sl Int) (n : Int) (hok : okS 1 s) (hu : u64s s.l) (hl : s.l.length ≤ 9223372036854775807) : flags_Right s n = some (rightF s.l n) := by
 unfold flags_Right rightF sizeF
 by_cases h1 : 0 ≤ n
 ·rw [if_pos (show n ≥ 0 from h1), decide_eq_true h1]
  by_cases h2 : n ≤ 4096
  ·rw [if_pos h2, decide_eq_true h2, flags_words_eq ⟨h1, h2⟩]
   simp only [Option.bind_some, Bool.and_self, Bool.true_and]
   by_cases h3 : ((s.l.length : Nat) : Int) = (n + 63) / 64
   ·rw [if_pos h3, decide_eq_true h3]
    obtain ⟨k, rfl⟩ := Int.eq_ofNat_of_zero_le h1
    obtain ⟨z, z1, z2⟩ := flags_Next_neg s k hok hu (by omega) (by omega)
    rw [z1]
    simp only [Option.bind_some, Bool.true_and]
    have key : (placesL s.l).all (fun p => decide (p < (k : Int))) = true ↔ z < 0 := by
     rw [z2, List.all_eq_true]
     constructor
     ·intro h p hp
      cases hb : hasB s.l p with
      | false => rfl
      | true => have := h (p : Int) (places_mem.2 ⟨by omega, by simpa using hb⟩); simp at this; omega
     ·intro h p hp
      obtain ⟨p0, p1⟩ := places_mem.1 hp
      rw [decide_eq_true_eq]
      by_cases hh : p < (k : Int)
      ·exact hh
      ·rw [h p.toNat (by omega)] at p1; simp at p1
    by_cases hz : z < 0
    ·rw [if_pos hz, key.2 hz]
    ·rw [if_neg hz, Bool.eq_false_iff.2 fun e => hz (key.1 e)]
   ·rw [if_neg h3, decide_eq_false h3]; simp
  ·rw [if_neg h2, decide_eq_false h2]; simp
 ·rw [if_neg (show ¬ n ≥ 0 from h1), decide_eq_false h1]; simp
theorem places_sorted (ws : List Int) : (placesL ws).Pairwise (· < ·) := by
 unfold placesL
 rw [List.pairwise_map]
 refine List.Pairwise.imp (R := (· < ·)) (fun h => by omega) ?_
 exact List.Pairwise.sublist (List.filter_sublist) List.pairwise_lt_range
end Ev
end Go.Proofs.YtmiaonncbefmmaaDoor
end
section
namespace Go.Proofs.YtmiaonncbefmmaaDoor
namespace Ev
open Go
set_option linter.unusedVariables false
set_option linter.unusedSimpArgs false
def rightD (d : Int × Sl Int × Sl Int) : Bool := rightF d.2.1.l d.1 && (decide ((d.2.2.l.length : Int) = d.1) && (List.range d.2.2.l.length).all fun i => decide (d.2.2.l.getD i 0 = 0) || hasB d.2.1.l i)
theorem getD_lt {l : List Int} {i : Nat} (h : i < l.length) : l.getD i 0 = l[i] := by rw [List.getD_eq_getElem?_getD, List.getElem?_eq_getElem h]; rfl
theorem all_range {n : Nat} {f : Nat → Bool} : (List.range n).all f = true ↔ ∀ i, i < n → f i = true := by
 rw [List.all_eq_true]
 exact ⟨fun h i hi => h i (by simpa using hi), fun h i hi => h i (by simpa using hi)⟩
theorem all_false {n : Nat} {f : Nat → Bool} {i : Nat} (hi : i < n) (h : f i = false) : (List.range n).all f = false := by
 rw [Bool.eq_false_iff]; intro e; have := all_range.1 e i hi; rw [h] at this; simp at this
structure OkD (d : Int × Sl Int × Sl Int) : Prop where
 has : okS 1 d.2.1
 bits : u64s d.2.1.l
 vals : okS 1 d.2.2
 v64 : ∀ x ∈ d.2.2.l, i64r x
 hl : d.2.1.l.length ≤ 9223372036854775807
 vl : d.2.2.l.length ≤ 9223372036854775807
theorem devec_Right_eq {d : Int × Sl Int × Sl Int} (h : OkD d) : devec_Right d = some (rightD d) := by
 obtain ⟨n, s, t⟩ := d
 obtain ⟨h1, h2, h3, h4, h5, h6⟩ := h
 simp only at h1 h2 h3 h4 h5 h6
 unfold devec_Right rightD
 simp only [flags_Right_eq s n h1 h2 h5, Option.bind_some]
 cases hr : rightF s.l n with
 | false => simp
 | true =>
  simp only [if_true, Bool.true_and]
  by_cases hn : ((t.l.length : Nat) : Int) = n
  ·rw [if_neg (fun h => h hn), decide_eq_true hn]
   simp only [Bool.true_and]
   have hb : n ≤ 4096 := by unfold rightF sizeF at hr; simp only [Bool.and_eq_true, decide_eq_true_eq] at hr; exact hr.1.2
   obtain ⟨q, q1, q2⟩ := loop_up (b := devec_Right_b1 s t) t.l.length (fun j a => a = (j : Int) ∧ ∀ i, i < j → (decide (t.l.getD i 0 = 0) || hasB s.l i) = true) (fun q => ((List.range t.l.length).all (fun i => decide (t.l.getD i 0 = 0) || hasB s.l i) = true ∧ q = .inl ()) ∨ ((List.range t.l.length).all (fun i => decide (t.l.getD i 0 = 0) || hasB s.l i) = false ∧ q = .inr false))
    (by
     rintro j _ hj ⟨rfl, ha⟩
     have hh := flags_Has_eq s j h1 h2 (by omega)
     have hd := getD_lt hj
     simp only [devec_Right_b1, at_get h3 hj, Option.bind_some, hh, w_succ hj (by omega)]
     rw [if_pos (by omega)]
     have next : (decide (t.l.getD j 0 = 0) || hasB s.l j) = true → ∀ i, i < j + 1 → (decide (t.l.getD i 0 = 0) || hasB s.l i) = true := fun h i hi => by
      by_cases e : i = j
      ·rw [e]; exact h
      ·exact ha i (by omega)
     by_cases h0 : t.l[j] = 0
     ·rw [if_neg (fun h => h h0)]
      exact .inl ⟨_, rfl, rfl, next (by rw [hd, decide_eq_true h0]; rfl)⟩
     ·rw [if_pos h0]
      cases hb : hasB s.l j with
      | true => exact .inl ⟨_, rfl, rfl, next (by rw [hb]; simp)⟩
      | false => exact .inr ⟨_, rfl, .inr ⟨all_false hj (by rw [hd, hb, decide_eq_false h0]; rfl), rfl⟩⟩)
    (by
     rintro _ ⟨rfl, ha⟩
     exact ⟨_, if_neg (by omega), .inl ⟨all_range.2 ha, rfl⟩⟩) 0 (Nat.zero_le _) 0 ⟨rfl, fun i hi => absurd hi (by omega)⟩
   rw [q1]
   rcases q2 with ⟨e, rfl⟩ | ⟨e, rfl⟩ <;> rw [e] <;> rfl
  ·rw [if_pos hn, decide_eq_false hn]; simp
def backL (ws vs : List Int) : List It := (placesL ws).map fun p => (p, vs.getD p.toNat 0)
theorem rightD_spec {d : Int × Sl Int × Sl Int} (h : rightD d = true) : 0 ≤ d.1 ∧ d.1 ≤ 4096 ∧ (d.2.1.l.length : Int) = (d.1 + 63) / 64 ∧ (∀ p ∈ placesL d.2.1.l, 0 ≤ p ∧ p < d.1) ∧ (d.2.2.l.length : Int) = d.1 := by
 unfold rightD rightF sizeF at h
 simp only [Bool.and_eq_true, decide_eq_true_eq, List.all_eq_true] at h
 obtain ⟨⟨⟨a, b⟩, c, e⟩, f, g⟩ := h
 exact ⟨a, b, c, fun p hp => ⟨(places_mem.1 hp).1, e p hp⟩, f⟩
theorem asc_map {n : Int} (f : Int → Int) : ∀ {l : List Int} {a : Int}, l.Pairwise (· < ·) → (∀ p ∈ l, a < p ∧ p < n) → asc a n (l.map fun p => (p, f p)) = true
 | [], a, _, _ => rfl
 | x :: l, a, h1, h2 => by
  rw [List.pairwise_cons] at h1
  have hx := h2 x List.mem_cons_self
  simp only [List.map_cons, asc, Bool.and_eq_true, decide_eq_true_eq]
  exact ⟨hx, asc_map f h1.2 fun p hp => ⟨h1.1 p hp, (h2 p (List.mem_cons_of_mem _ hp)).2⟩⟩
theorem back_right {d : Int × Sl Int × Sl Int} (h : rightD d = true) : rightB (d.1, mo 2 (backL d.2.1.l d.2.2.l)) = true := by
 obtain ⟨h1, h2, h3, h4, h5⟩ := rightD_spec h
 simp only [rightB, sizeB, mo_l, Bool.and_eq_true, decide_eq_true_eq]
 exact ⟨⟨h1, h2⟩, asc_map _ (places_sorted _) fun p hp => ⟨by have := (h4 p hp).1; omega, (h4 p hp).2⟩⟩
theorem getI_map {f : Int → Int} {p : Int} : ∀ {l : List Int}, getI p (l.map fun q => (q, f q)) = if p ∈ l then some (f p) else none
 | [] => by simp [getI]
 | x :: l => by
  simp only [List.map_cons, getI]
  by_cases e : x = p
  ·subst e; simp
  ·rw [if_neg e, getI_map]
   simp [Ne.symm e]
def denB (d : Int × Sl Int × Sl Int) (k : Int) : Option Int := if 0 ≤ k ∧ hasB d.2.1.l k.toNat = true then some (d.2.2.l.getD k.toNat 0) else none
theorem back_get (d : Int × Sl Int × Sl Int) (k : Int) : getI k (backL d.2.1.l d.2.2.l) = denB d k := by
 unfold backL denB
 rw [getI_map (f := fun p => d.2.2.l.getD p.toNat 0)]
 by_cases h : 0 ≤ k ∧ hasB d.2.1.l k.toNat = true
 ·rw [if_pos (places_mem.2 h), if_pos h]
 ·rw [if_neg (fun e => h (places_mem.1 e)), if_neg h]
end Ev
end Go.Proofs.YtmiaonncbefmmaaDoor
end
section
namespace Go.Proofs.YtmiaonncbefmmaaDoor
namespace Ev
open Go
set_option linter.unusedVariables false
set_option linter.unusedSimpArgs false
end Ev
end Go.Proofs.YtmiaonncbefmmaaDoor
end
section
namespace Go.Proofs.YtmiaonncbefmmaaDoor
namespace Ev
open Go
set_option linter.unusedVariables false
set_option linter.unusedSimpArgs false
abbrev Dn := Int × Sl Int × Sl Int
def sureD (d : Dn) : Dn := if rightD d = true then d else (0, nilS, nilS)
end Ev
end Go.Proofs.YtmiaonncbefmmaaDoor
end
section
namespace Go.Proofs.YtmiaonncbefmmaaDoor
namespace Ev
open Go
set_option linter.unusedVariables false
set_option linter.unusedSimpArgs false
end Ev
end Go.Proofs.YtmiaonncbefmmaaDoor
end
section
namespace Go.Proofs.YtmiaonncbefmmaaDoor
namespace Ev
open Go
set_option linter.unusedVariables false
set_option linter.unusedSimpArgs false
end Ev
end Go.Proofs.YtmiaonncbefmmaaDoor
end
section
namespace Go.Proofs.YtmiaonncbefmmaaDoor
namespace Ev
open Go
set_option linter.unusedVariables false
set_option linter.unusedSimpArgs false
theorem getI_in {p y : Int} : ∀ {l : List It}, getI p l = some y → (p, y) ∈ l
 | x :: l, h => by
  unfold getI at h
  split at h
  ·rename_i e
   simp only [Option.some.injEq] at h
   rw [← e, ← h]; exact List.mem_cons_self
  ·exact List.mem_cons_of_mem _ (getI_in h)
theorem sizeF_iff2 {n : Int} : sizeF n = true ↔ 0 ≤ n ∧ n ≤ 4096 := by unfold sizeF; simp
def tabM (n : Nat) (f : Nat → Int) : List Int := (List.range n).map f
theorem tabM_len (n : Nat) (f : Nat → Int) : (tabM n f).length = n := by unfold tabM; simp
theorem tabM_get {n k : Nat} (f : Nat → Int) (h : k < n) : (tabM n f)[k]? = some (f k) := by
 unfold tabM
 rw [List.getElem?_map, List.getElem?_range h]; rfl
theorem tabM_getD {n k : Nat} (f : Nat → Int) (h : k < n) : (tabM n f).getD k 0 = f k := by rw [List.getD_eq_getElem?_getD, tabM_get f h]; rfl
theorem tabM_set {n k : Nat} (f : Nat → Int) (v : Int) (h : k < n) : (tabM n f).set k v = tabM n fun i => if i = k then v else f i := by
 refine List.ext_getElem? fun i => ?_
 rw [List.getElem?_set]
 by_cases hi : i < n
 ·by_cases e : k = i
  ·subst e; rw [if_pos rfl, if_pos (by rw [tabM_len]; omega), tabM_get _ hi, if_pos rfl]
  ·rw [if_neg e, tabM_get _ hi, tabM_get _ hi, if_neg (Ne.symm e)]
 ·rw [if_neg (by omega)]
  rw [List.getElem?_eq_none (by rw [tabM_len]; omega), List.getElem?_eq_none (by rw [tabM_len]; omega)]
theorem tabM_congr {n : Nat} {f g : Nat → Int} (h : ∀ k, k < n → f k = g k) : tabM n f = tabM n g := by
 unfold tabM
 refine List.map_congr_left fun k hk => h k ?_
 simpa using hk
theorem tabM_zero (n : Nat) : List.replicate n (0 : Int) = tabM n fun _ => 0 := by
 refine List.ext_getElem? fun i => ?_
 by_cases hi : i < n
 ·rw [tabM_get _ hi, List.getElem?_replicate, if_pos hi]
 ·rw [List.getElem?_eq_none (by simp; omega), List.getElem?_eq_none (by rw [tabM_len]; omega)]
theorem tabM_mem {n : Nat} {f : Nat → Int} {x : Int} (h : x ∈ tabM n f) : ∃ k, k < n ∧ f k = x := by
 unfold tabM at h
 obtain ⟨k, hk, rfl⟩ := List.mem_map.1 h
 exact ⟨k, by simpa using hk, rfl⟩
theorem mem_places {p : Int} {l : List It} : p ∈ l.map (·.1) ↔ ∃ y, getI p l = some y := by
 induction l with
 | nil => simp [getI]
 | cons x l ih =>
  simp only [List.map_cons, List.mem_cons, getI]
  by_cases h : x.1 = p
  ·rw [if_pos h]; exact ⟨fun _ => ⟨_, rfl⟩, fun _ => .inl h.symm⟩
  ·rw [if_neg h, ← ih]; exact ⟨fun h1 => h1.resolve_left (Ne.symm h), .inr⟩
end Ev
end Go.Proofs.YtmiaonncbefmmaaDoor
end
section
namespace Go.Proofs.YtmiaonncbefmmaaDoor
namespace Ev
open Go
set_option linter.unusedVariables false
set_option linter.unusedSimpArgs false
end Ev
end Go.Proofs.YtmiaonncbefmmaaDoor
end
section
namespace Go.Proofs.YtmiaonncbefmmaaDoor
namespace Ev
open Go
set_option linter.unusedVariables false
set_option linter.unusedSimpArgs false
theorem sureD_id {d : Dn} (h : rightD d = true) : sureD d = d := by unfold sureD; rw [if_pos h]
end Ev
end Go.Proofs.YtmiaonncbefmmaaDoor
end
section
namespace Go.Proofs.YtmiaonncbefmmaaDoor
namespace Ev
open Go
set_option linter.unusedVariables false
set_option linter.unusedSimpArgs false
structure DV (d : Dn) (n : Nat) (f : Nat → Option Int) : Prop where
 num : d.1 = (n : Int)
 le : n ≤ 4096
 has : okS 1 d.2.1
 bits : u64s d.2.1.l
 len : d.2.1.l.length = (n + 63) / 64
 vals : okS 1 d.2.2
 vl : d.2.2.l = tabM n fun p => (f p).getD 0
 at_ : ∀ p, hasB d.2.1.l p = (f p).isSome
 none_ : ∀ p, n ≤ p → f p = none
 v64 : ∀ p x, f p = some x → i64r x
theorem DV.ok {d : Dn} {n : Nat} {f : Nat → Option Int} (h : DV d n f) : OkD d := by
 refine ⟨h.has, h.bits, h.vals, fun x hx => ?_, ?_, ?_⟩
 ·rw [h.vl] at hx
  obtain ⟨k, hk, rfl⟩ := tabM_mem hx
  cases e : f k with
  | none => simp [i64r]
  | some y => exact h.v64 k y e
 ·have := h.len; have := h.le; omega
 ·have := h.le; rw [h.vl, tabM_len]; omega
theorem DV.right {d : Dn} {n : Nat} {f : Nat → Option Int} (h : DV d n f) : rightD d = true := by
 unfold rightD rightF
 rw [h.num, h.vl, tabM_len]
 have hl := h.le
 have hw := h.len
 simp only [Bool.and_eq_true, decide_eq_true_eq, List.all_eq_true]
 refine ⟨⟨sizeF_iff2.2 ⟨by omega, by omega⟩, by omega, fun p hp => ?_⟩, trivial, fun i hi => ?_⟩
 ·obtain ⟨p0, p1⟩ := places_mem.1 hp
  rw [h.at_] at p1
  by_cases hlt : p.toNat < n
  ·omega
  ·rw [h.none_ _ (by omega)] at p1; simp at p1
 ·have hi' : i < n := by simpa using hi
  rw [tabM_getD _ hi', h.at_]
  cases f i <;> simp
theorem DV.den {d : Dn} {n : Nat} {f : Nat → Option Int} (h : DV d n f) (p : Int) : denB d p = if 0 ≤ p then f p.toNat else none := by
 unfold denB
 by_cases hp : 0 ≤ p
 ·rw [if_pos hp, h.at_]
  cases e : f p.toNat with
  | none => simp
  | some y =>
   have hlt : p.toNat < n := by
    by_cases hlt : p.toNat < n
    ·exact hlt
    ·rw [h.none_ _ (by omega)] at e; simp at e
   rw [if_pos ⟨hp, rfl⟩, h.vl, tabM_getD _ hlt, e]; rfl
 ·rw [if_neg (fun e => hp e.1), if_neg hp]
theorem DV.of {d : Dn} (h : OkD d) (hr : rightD d = true) : DV d d.1.toNat fun p => denB d (p : Int) := by
 obtain ⟨h1, h2, h3, h4, h5⟩ := rightD_spec hr
 have hall : ∀ i, i < d.2.2.l.length → d.2.2.l.getD i 0 = 0 ∨ hasB d.2.1.l i = true := fun i hi => by
  unfold rightD at hr
  simp only [Bool.and_eq_true, decide_eq_true_eq] at hr
  have := all_range.1 hr.2.2 i hi
  simpa using this
 have hin : ∀ p, hasB d.2.1.l p = true → (p : Int) < d.1 := fun p hp => (h4 (p : Int) (places_mem.2 ⟨by omega, by simpa using hp⟩)).2
 have hden : ∀ p : Nat, denB d (p : Int) = if hasB d.2.1.l p = true then some (d.2.2.l.getD p 0) else none := fun p => by
  unfold denB
  simp only [Int.toNat_natCast]
  by_cases e : hasB d.2.1.l p = true
  ·rw [if_pos ⟨by omega, e⟩, if_pos e]
  ·rw [if_neg (fun x => e x.2), if_neg e]
 refine ⟨by omega, by omega, h.has, h.bits, by omega, h.vals, ?_, fun p => ?_, fun p hp => ?_, fun p x hx => ?_⟩
 ·refine List.ext_getElem? fun i => ?_
  by_cases hi : i < d.1.toNat
  ·have hi2 : i < d.2.2.l.length := by omega
   rw [tabM_get _ hi, hden, List.getElem?_eq_getElem hi2, ← getD_lt hi2]
   rcases hall i hi2 with e | e
   ·split
    ·rfl
    ·rw [e]; rfl
   ·rw [if_pos e]; rfl
  ·rw [List.getElem?_eq_none (by omega), List.getElem?_eq_none (by rw [tabM_len]; omega)]
 ·rw [hden]
  cases e : hasB d.2.1.l p <;> simp
 ·rw [hden, if_neg (fun e => by have := hin p e; omega)]
 ·rw [hden] at hx
  split at hx
  ·rename_i e
   simp only [Option.some.injEq] at hx
   subst hx
   have := hin p e
   have hp2 : p < d.2.2.l.length := by omega
   rw [getD_lt hp2]
   exact h.v64 _ (List.getElem_mem hp2)
  ·simp at hx
theorem DV.congr {d : Dn} {n : Nat} {f g : Nat → Option Int} (h : DV d n f) (e : ∀ p, f p = g p) : DV d n g := by
 have : f = g := funext e
 rw [← this]; exact h
theorem words_eq {a b : List Int} (ha : u64s a) (hb : u64s b) (hl : a.length = b.length) (h : ∀ p, hasB a p = hasB b p) : a = b := by
 refine List.ext_getElem? fun i => ?_
 by_cases hi : i < a.length
 ·have hi2 : i < b.length := by omega
  rw [List.getElem?_eq_getElem hi, List.getElem?_eq_getElem hi2]
  congr 1
  have h1 := ha _ (List.getElem_mem hi)
  have h2 := hb _ (List.getElem_mem hi2)
  have : a[i].toNat = b[i].toNat := Nat.eq_of_testBit_eq fun k => by
   by_cases hk : k < 64
   ·have e := h (64 * i + k)
    rw [hasB_word (i := i) (k := k) (by omega) (by omega) (List.getElem?_eq_getElem hi), hasB_word (i := i) (k := k) (by omega) (by omega) (List.getElem?_eq_getElem hi2)] at e
    exact e
   ·have p1 : 2 ^ 64 ≤ 2 ^ k := Nat.pow_le_pow_right (by decide) (by omega)
    have p2 : (2 : Nat) ^ 64 = 18446744073709551616 := by decide
    have q1 := h1.2
    have q2 := h2.2
    rw [Nat.testBit_lt_two_pow (by omega), Nat.testBit_lt_two_pow (by omega)]
  have q1 := h1.1
  have q2 := h2.1
  omega
 ·rw [List.getElem?_eq_none (by omega), List.getElem?_eq_none (by omega)]
theorem DV.same {d e : Dn} {n : Nat} {f g : Nat → Option Int} (h : DV d n f) (k : DV e n g) (hfg : ∀ p, p < n → f p = g p) : d.1 = e.1 ∧ d.2.1.l = e.2.1.l ∧ d.2.2.l = e.2.2.l := by
 have hall : ∀ p, f p = g p := fun p => by
  by_cases hp : p < n
  ·exact hfg p hp
  ·rw [h.none_ p (by omega), k.none_ p (by omega)]
 refine ⟨h.num.trans k.num.symm, words_eq h.bits k.bits (by rw [h.len, k.len]) fun p => by rw [h.at_, k.at_, hall], ?_⟩
 rw [h.vl, k.vl]
 exact tabM_congr fun i _ => by rw [hall]
theorem rightI {k : Int} {t : Sl It} (h : rightB (k, t) = true) {p : Int} {y : Int} (hp : getI p t.l = some y) : 0 ≤ p ∧ p < k := by
 obtain ⟨x, hx, hxp⟩ := List.mem_map.1 (mem_places.2 ⟨y, hp⟩)
 obtain ⟨j, hj, rfl⟩ := List.mem_iff_getElem.1 hx
 have := right_at h hj
 omega
end Ev
end Go.Proofs.YtmiaonncbefmmaaDoor
end
