/- PullParts: mathematics. Over the functions on data; no number of a type or function is named. -/
import Derived.Test.YtlcfdmjkbaegpaaDoorLf1
import Derived.Test.YtlcfdmjkbaegpaaDoorLf2
import Derived.Test.YtlcfdmjkbaegpaaDoorLf3
import Derived.Test.YtlcfdmjkbaegpaaDoorLf4
import Derived.Test.YtlcfdmjkbaegpaaDoorLf8
import Derived.Test.YtlcfdmjkbaegpaaDoorLwPP
import Derived.Test.YtlcfdmjkbaegpaaDoorEvS5
namespace Go.Proofs.YtlcfdmjkbaegpaaDoor
namespace Ev
open Go
set_option linter.unusedVariables false
set_option linter.unusedSimpArgs false
abbrev It := Int × Int
def WIt (x : It) : Prop := inK .i64 x.1 ∧ inK .i64 x.2
def WV (v : Int × Sl It) : Prop := inK .i64 v.1 ∧ SlW 2 WIt v.2
def okS {α : Type} (w : Nat) (s : Sl α) : Prop := s.l = [] ∨ s.sz = w
theorem SlW.ok {α : Type} {w : Nat} {Q : α → Prop} {s : Sl α} (h : SlW w Q s) : okS w s := .inr h.1
def nilS {α : Type} : Sl α := ⟨false, 0, []⟩
theorem ok_nil {α : Type} {w : Nat} : okS w (nilS : Sl α) := .inl rfl
theorem ok_mo {α : Type} {w : Nat} (l : List α) : okS w (mo w l) := by cases l with | nil => exact .inl rfl | cons x l => exact .inr rfl
def asc : Int → Int → List It → Bool
 | _, _, [] => true
 | a, n, x :: l => decide (a < x.1) && decide (x.1 < n) && asc x.1 n l
def sizeB (n : Int) : Bool := decide (0 ≤ n) && decide (n ≤ 4096)
def rightB (v : Int × Sl It) : Bool := sizeB v.1 && asc (-1) v.1 v.2.l
def sureV (v : Int × Sl It) : Int × Sl It := if rightB v = true then v else (0, nilS)
theorem asc_lt {n : Int} : ∀ {a : Int} {l : List It}, asc a n l = true → ∀ x ∈ l, a < x.1 ∧ x.1 < n
 | a, y :: l, h, x, hx => by
  simp only [asc, Bool.and_eq_true, decide_eq_true_eq] at h
  rcases List.mem_cons.1 hx with rfl | hx
  ·exact ⟨h.1.1, h.1.2⟩
  ·have := asc_lt h.2 x hx; omega
theorem asc_len {n : Int} : ∀ {a : Int} {l : List It}, asc a n l = true → (l.length : Int) ≤ max (n - a - 1) 0
 | a, [], h => by simp; omega
 | a, y :: l, h => by
  simp only [asc, Bool.and_eq_true, decide_eq_true_eq] at h
  have := asc_len h.2
  simp only [List.length_cons]; omega
theorem right_len {v : Int × Sl It} (h : rightB v = true) : v.2.l.length ≤ 4096 := by
 simp only [rightB, sizeB, Bool.and_eq_true, decide_eq_true_eq] at h
 have := asc_len h.2; omega
theorem asc_iff {n : Int} {l : List It} : ∀ {a : Int}, asc a n l = true ↔ ∀ j (h : j < l.length), (if h0 : j = 0 then a < l[j].1 else l[j - 1].1 < l[j].1) ∧ l[j].1 < n := by
 induction l with
 | nil => intro a; simp [asc]
 | cons x l ih =>
  intro a
  simp only [asc, Bool.and_eq_true, decide_eq_true_eq, ih]
  constructor
  ·rintro ⟨⟨h1, h2⟩, h3⟩ j hj
   cases j with
   | zero => exact ⟨by simpa using h1, by simpa using h2⟩
   | succ j =>
    have := h3 j (by simpa using hj)
    refine ⟨?_, by simpa using this.2⟩
    rw [dif_neg (by omega)]
    cases j with
    | zero => simpa using this.1
    | succ j => have := this.1; rw [dif_neg (by omega)] at this; simpa using this
  ·intro h
   have h0 := h 0 (by simp)
   refine ⟨⟨by simpa using h0.1, by simpa using h0.2⟩, fun j hj => ?_⟩
   have := h (j + 1) (by simpa using hj)
   rw [dif_neg (by omega)] at this
   refine ⟨?_, by simpa using this.2⟩
   cases j with
   | zero => simpa using this.1
   | succ j => rw [dif_neg (by omega)]; simpa using this.1
theorem asc_iff' {n : Int} {l : List It} : asc (-1) n l = true ↔ ∀ j (h : j < l.length), 0 ≤ l[j].1 ∧ l[j].1 < n ∧ (j ≠ 0 → l[j - 1].1 < l[j].1) := by
 constructor
 ·intro h j hj
  have h1 := asc_lt h l[j] (List.getElem_mem hj)
  have h2 := (asc_iff.1 h j hj).1
  exact ⟨by omega, h1.2, fun h0 => by rw [dif_neg h0] at h2; exact h2⟩
 ·intro h
  refine asc_iff.2 fun j hj => ⟨?_, (h j hj).2.1⟩
  split
  ·have := (h j hj).1; omega
  ·rename_i h0; exact (h j hj).2.2 h0
theorem ref09_Right_eq (v : Int × Sl It) (hok : okS 2 v.2) (hl : v.2.l.length ≤ 9223372036854775807) : ref09_Right v = some (rightB v) := by
 obtain ⟨n, s⟩ := v
 simp only at hl
 unfold ref09_Right rightB sizeB
 by_cases h1 : n < 0
 ·simp only [if_pos h1, decide_eq_false (show ¬ 0 ≤ n by omega)]; rfl
 by_cases h2 : n > 4096
 ·simp only [if_neg h1, if_pos h2, decide_eq_false (show ¬ n ≤ 4096 by omega)]; simp
 simp only [if_neg h1, if_neg h2, decide_eq_true (show 0 ≤ n by omega), decide_eq_true (show n ≤ 4096 by omega), Bool.true_and]
 have hF : ∀ j (hj : j < s.l.length), ¬ (0 ≤ s.l[j].1 ∧ s.l[j].1 < n ∧ (j ≠ 0 → s.l[j - 1].1 < s.l[j].1)) → asc (-1) n s.l = false := fun j hj hh => by
  rw [Bool.eq_false_iff]; intro hc; exact hh (asc_iff'.1 hc j hj)
 obtain ⟨r, h3, h4⟩ := loop_up (b := ref09_Right_b1 n s) s.l.length (fun j a => a = (j : Int) ∧ ∀ i (h : i < s.l.length), i < j → 0 ≤ s.l[i].1 ∧ s.l[i].1 < n ∧ (i ≠ 0 → s.l[i - 1].1 < s.l[i].1)) (fun r => (asc (-1) n s.l = true ∧ r = .inl ()) ∨ (asc (-1) n s.l = false ∧ r = .inr false))
  (by
   rintro j _ hj ⟨rfl, ha⟩
   simp only [ref09_Right_b1, at_get hok hj, Option.bind_some, w_succ hj (by omega)]
   rw [if_pos (by omega)]
   by_cases c1 : s.l[j].1 < 0
   ·exact .inr ⟨_, if_pos c1, .inr ⟨hF j hj (by omega), rfl⟩⟩
   rw [if_neg c1]
   by_cases c2 : s.l[j].1 ≥ n
   ·exact .inr ⟨_, if_pos c2, .inr ⟨hF j hj (by omega), rfl⟩⟩
   rw [if_neg c2]
   by_cases c3 : (j : Int) > 0
   ·rw [if_pos c3]
    have e : IntKind.i64.wrap ((j : Int) - 1) = ((j - 1 : Nat) : Int) := by rw [wrap64 (by omega) (by omega)]; omega
    rw [e, at_get hok (show j - 1 < s.l.length by omega)]
    simp only [Option.bind_some]
    by_cases c4 : s.l[j].1 ≤ s.l[j - 1].1
    ·exact .inr ⟨_, if_pos c4, .inr ⟨hF j hj (fun hh => by have := hh.2.2 (by omega); omega), rfl⟩⟩
    ·refine .inl ⟨_, if_neg c4, rfl, fun i hi hij => ?_⟩
     by_cases hh : i = j
     ·subst hh; exact ⟨by omega, by omega, fun _ => by omega⟩
     ·exact ha i hi (by omega)
   ·refine .inl ⟨_, if_neg c3, rfl, fun i hi hij => ?_⟩
    by_cases hh : i = j
    ·subst hh; exact ⟨by omega, by omega, fun _ => by omega⟩
    ·exact ha i hi (by omega))
  (by
   rintro _ ⟨rfl, ha⟩
   exact ⟨_, if_neg (by omega), .inl ⟨asc_iff'.2 fun j hj => ha j hj hj, rfl⟩⟩) 0 (Nat.zero_le _) 0 ⟨rfl, fun i _ h => absurd h (by omega)⟩
 rw [h3]
 rcases h4 with ⟨h5, rfl⟩ | ⟨h5, rfl⟩ <;> simp [h5]
theorem ref09_Sure_eq (v : Int × Sl It) (hok : okS 2 v.2) (hl : v.2.l.length ≤ 9223372036854775807) : ref09_Sure v = some (sureV v) := by
 obtain ⟨n, s⟩ := v
 unfold ref09_Sure sureV
 simp only [ref09_Right_eq (n, s) hok hl, Option.bind_some]
 split <;> rfl
def i64r (n : Int) : Prop := -9223372036854775808 ≤ n ∧ n ≤ 9223372036854775807
def u64r (n : Int) : Prop := 0 ≤ n ∧ n ≤ 18446744073709551615
theorem i64r_of {n : Int} (h : inK .i64 n) : i64r n := by simpa [inK, i64r, Lit.wf, IntKind.min, IntKind.max, IntKind.signed, IntKind.bits] using h
theorem WV.ok {v : Int × Sl It} (h : WV v) : okS 2 v.2 := h.2.ok
theorem WV.vals {v : Int × Sl It} (h : WV v) : ∀ x ∈ v.2.l, i64r x.2 := fun x hx => i64r_of (h.2.2.2.2 x hx).2
theorem wrap_u64 (n : Int) : IntKind.u64.wrap n = n % 18446744073709551616 := by
 simp [IntKind.wrap, IntKind.signed, IntKind.bits]
theorem u64_wrap (n : Int) : u64r (IntKind.u64.wrap n) := by rw [wrap_u64]; unfold u64r; omega
theorem u64_id {n : Int} (h : u64r n) : IntKind.u64.wrap (IntKind.i64.wrap n) = n := by rw [wrap_u64, IntKind.wrap_i64]; unfold u64r at h; omega
def ofW (n : Int) : Int × Int := (if n < 0 then -1 else 0, IntKind.u64.wrap n)
theorem wide_Of_eq {n : Int} (h : i64r n) : wide_Of n = some (ofW n) := by
 unfold wide_Of shr1 ofW shrI
 rw [if_pos (by omega)]
 have e : (2 : Int) ^ (min (63 : Int).toNat IntKind.i64.bits) = 9223372036854775808 := by decide
 rw [e]
 unfold i64r at h
 have : n.fdiv 9223372036854775808 = if n < 0 then -1 else 0 := by
  rw [Int.fdiv_eq_ediv_of_nonneg _ (by omega)]
  split <;> omega
 rw [this]; rfl
theorem ref01_Of_eq (n : Int) : ref01_Of n = some (ofW n) := by
 unfold ref01_Of ofW
 by_cases h : n < 0
 ·simp only [if_pos h]
 ·simp only [if_neg h]
theorem ofW_lo (n : Int) : u64r (ofW n).2 := u64_wrap n
def lessW (a b : Int × Int) : Bool := decide (a.1 < b.1) || (decide (a.1 = b.1) && decide (a.2 < b.2))
theorem wide_Compare_lt (a b : Int × Int) : ∃ c, wide_Compare a b = some c ∧ (c < 0 ↔ lessW a b = true) := by
 obtain ⟨a1, a2⟩ := a; obtain ⟨b1, b2⟩ := b
 unfold wide_Compare lessW
 simp only
 by_cases h1 : a1 = b1 ∧ a2 = b2
 ·rw [if_pos h1]; exact ⟨0, rfl, by simp; omega⟩
 rw [if_neg h1]
 by_cases h2 : a1 < b1
 ·rw [if_pos h2]; exact ⟨-1, rfl, by simp [h2]⟩
 rw [if_neg h2]
 by_cases h3 : a1 = b1
 ·rw [if_pos h3]
  by_cases h4 : a2 < b2
  ·rw [if_pos h4]; exact ⟨-1, rfl, by simp [h3, h4]⟩
  ·rw [if_neg h4]; exact ⟨1, rfl, by simp [h3]; omega⟩
 ·rw [if_neg h3]; exact ⟨1, rfl, by simp [h3]; omega⟩
theorem ref01_Compare_lt (a b : Int × Int) : ∃ c, ref01_Compare a b = some c ∧ (c < 0 ↔ lessW a b = true) := by
 obtain ⟨a1, a2⟩ := a; obtain ⟨b1, b2⟩ := b
 unfold ref01_Compare lessW
 simp only
 by_cases h2 : a1 < b1
 ·rw [if_pos h2]; exact ⟨-1, rfl, by simp [h2]⟩
 rw [if_neg h2]
 by_cases h3 : a1 = b1
 ·rw [if_pos h3]
  by_cases h4 : a2 < b2
  ·rw [if_pos h4]; exact ⟨-1, rfl, by simp [h3, h4]⟩
  ·rw [if_neg h4]
   by_cases h5 : a1 = b1 ∧ a2 = b2
   ·rw [if_pos h5]; exact ⟨0, rfl, by simp [h3]; omega⟩
   ·rw [if_neg h5]; exact ⟨1, rfl, by simp [h3]; omega⟩
 ·rw [if_neg h3]
  by_cases h5 : a1 = b1 ∧ a2 = b2
  ·exact absurd h5.1 h3
  ·rw [if_neg h5]; exact ⟨1, rfl, by simp [h3]; omega⟩
def lessrW (a b : Int × Int) : Int × Int := if lessW b a = true then b else a
def truthW (b : Bool) : Int × Int := if b = true then (0, 1) else (0, 0)
def addW (a b : Int × Int) : Int × Int := if IntKind.u64.wrap (a.2 + b.2) < a.2 then (IntKind.i64.wrap (IntKind.i64.wrap (a.1 + b.1) + 1), IntKind.u64.wrap (a.2 + b.2)) else (IntKind.i64.wrap (a.1 + b.1), IntKind.u64.wrap (a.2 + b.2))
def ringAdd (r : Int) (a b : Int × Int) : Int × Int :=
 if r = 1 ∨ r = 3 ∨ r = 4 then lessrW a b else if r = 2 then truthW (!(decide (a.1 = 0 ∧ a.2 = 0) && decide (b.1 = 0 ∧ b.2 = 0))) else if r = 5 then addW a b else (0, 0)
theorem ring_lesser_eq (a b : Int × Int) : ring_lesser a b = some (lessrW a b) := by
 obtain ⟨a1, a2⟩ := a; obtain ⟨b1, b2⟩ := b
 unfold ring_lesser lessrW
 obtain ⟨c, h1, h2⟩ := wide_Compare_lt (b1, b2) (a1, a2)
 simp only [h1, Option.bind_some]
 by_cases hc : c < 0
 ·rw [if_pos hc, if_pos (h2.1 hc)]
 ·rw [if_neg hc, if_neg (fun h => hc (h2.2 h))]
theorem ring_truth_eq (b : Bool) : ring_truth b = some (truthW b) := by
 unfold ring_truth truthW
 cases b
 ·rfl
 ·simp only [if_true, wide_Of_eq (show i64r 1 by unfold i64r; omega), Option.bind_some]; rfl
theorem wide_Add_eq (a b : Int × Int) : wide_Add a b = some (addW a b) := by
 obtain ⟨a1, a2⟩ := a; obtain ⟨b1, b2⟩ := b
 unfold wide_Add addW
 simp only
 split <;> rfl
theorem ref01_Add_eq (a b : Int × Int) : ref01_Add a b = some (addW a b) := by
 obtain ⟨a1, a2⟩ := a; obtain ⟨b1, b2⟩ := b
 unfold ref01_Add addW
 simp only
 split <;> rfl
theorem ring_Add_eq (r : Int) (a b : Int × Int) : ring_Add r a b = some (ringAdd r a b) := by
 obtain ⟨a1, a2⟩ := a; obtain ⟨b1, b2⟩ := b
 unfold ring_Add ringAdd
 simp only [ring_lesser_eq, ring_truth_eq, wide_Add_eq, Option.bind_some]
 by_cases h1 : r = 1
 ·simp only [if_pos h1, if_pos (show r = 1 ∨ r = 3 ∨ r = 4 from .inl h1)]
 by_cases h3 : r = 3
 ·simp only [if_neg h1, if_pos h3, if_pos (show r = 1 ∨ r = 3 ∨ r = 4 from .inr (.inl h3))]
 by_cases h4 : r = 4
 ·simp only [if_neg h1, if_neg h3, if_pos h4, if_pos (show r = 1 ∨ r = 3 ∨ r = 4 from .inr (.inr h4))]
 simp only [if_neg h1, if_neg h3, if_neg h4, if_neg (show ¬ (r = 1 ∨ r = 3 ∨ r = 4) by omega)]
 by_cases h2 : r = 2
 ·simp only [if_pos h2]
  by_cases ha : a1 = 0 ∧ a2 = 0
  ·by_cases hb : b1 = 0 ∧ b2 = 0
   ·simp [if_pos ha, if_pos hb, ha, hb]
   ·rw [if_pos ha, if_neg hb, decide_eq_true ha, decide_eq_false hb]; rfl
  ·rw [if_neg ha, decide_eq_false ha]; rfl
 ·simp only [if_neg h2]
  by_cases h5 : r = 5
  ·simp only [if_pos h5]
  ·simp only [if_neg h5]
theorem ref02_truth_eq (b : Bool) : ref02_truth b = some (truthW b) := by unfold ref02_truth truthW; cases b <;> rfl
theorem ref02_Add_eq (r : Int) (a b : Int × Int) : ref02_Add r a b = some (ringAdd r a b) := by
 obtain ⟨a1, a2⟩ := a; obtain ⟨b1, b2⟩ := b
 have hl : ((ref01_Compare (b1, b2) (a1, a2)).bind fun n => if n < 0 then some (b1, b2) else some (a1, a2)) = some (lessrW (a1, a2) (b1, b2)) := by
  obtain ⟨c, h1, h2⟩ := ref01_Compare_lt (b1, b2) (a1, a2)
  simp only [h1, Option.bind_some]
  unfold lessrW
  by_cases hc : c < 0
  ·rw [if_pos hc, if_pos (h2.1 hc)]
  ·rw [if_neg hc, if_neg (fun h => hc (h2.2 h))]
 unfold ref02_Add ringAdd
 simp only [hl, ref02_truth_eq, ref01_Add_eq, Option.bind_some]
 by_cases h1 : r = 1
 ·simp only [if_pos h1, if_pos (show r = 1 ∨ r = 3 ∨ r = 4 from .inl h1)]
 by_cases h3 : r = 3
 ·simp only [if_neg h1, if_pos h3, if_pos (show r = 1 ∨ r = 3 ∨ r = 4 from .inr (.inl h3))]
 by_cases h4 : r = 4
 ·simp only [if_neg h1, if_neg h3, if_pos h4, if_pos (show r = 1 ∨ r = 3 ∨ r = 4 from .inr (.inr h4))]
 simp only [if_neg h1, if_neg h3, if_neg h4, if_neg (show ¬ (r = 1 ∨ r = 3 ∨ r = 4) by omega)]
 by_cases h2 : r = 2
 ·simp only [if_pos h2]
  by_cases ha : a1 = 0 ∧ a2 = 0
  ·by_cases hb : b1 = 0 ∧ b2 = 0
   ·simp [if_pos ha, if_pos hb, ha, hb]
   ·rw [if_pos ha, if_neg hb, decide_eq_true ha, decide_eq_false hb]; rfl
  ·rw [if_neg ha, decide_eq_false ha]; rfl
 ·simp only [if_neg h2]
  by_cases h5 : r = 5
  ·simp only [if_pos h5]
  ·simp only [if_neg h5]
theorem ringAdd_lo {r : Int} {a b : Int × Int} (ha : u64r a.2) (hb : u64r b.2) : u64r (ringAdd r a b).2 := by
 have h0 : u64r 0 := by unfold u64r; omega
 have h1 : u64r 1 := by unfold u64r; omega
 unfold ringAdd lessrW truthW addW
 split
 ·split <;> assumption
 ·split
  ·split <;> assumption
  ·split
   ·split <;> exact u64_wrap _
   ·exact h0
def narrowW (a : Int × Int) : Int × Bool := if a = ofW (IntKind.i64.wrap a.2) then (IntKind.i64.wrap a.2, true) else (0, false)
theorem i64_wrap (n : Int) : i64r (IntKind.i64.wrap n) := by rw [IntKind.wrap_i64]; unfold i64r; omega
theorem ref01_Narrow_eq {a : Int × Int} (h : u64r a.2) : ref01_Narrow a = some (narrowW a) := by
 obtain ⟨a1, a2⟩ := a
 unfold ref01_Narrow narrowW ofW
 simp only [u64_id h, Prod.mk.injEq, and_true]
 by_cases hn : IntKind.i64.wrap a2 < 0
 ·have hg : ¬ IntKind.i64.wrap a2 ≥ 0 := by omega
  simp only [if_pos hn, if_neg hg]
  by_cases h1 : a1 = 0
  ·have : ¬ a1 = -1 := by omega
   simp only [if_pos h1, if_neg this]
  ·simp only [if_neg h1]
   split <;> rfl
 ·have hg : IntKind.i64.wrap a2 ≥ 0 := by omega
  simp only [if_neg hn, if_pos hg]
  by_cases h1 : a1 = 0
  ·simp only [if_pos h1]
  ·simp only [if_neg h1]
   split <;> rfl
theorem ring_Is_eq (r : Int) : ring_Is r = some (decide (1 ≤ r) && decide (r ≤ 5)) := by
 unfold ring_Is
 by_cases h1 : r ≥ 1
 ·rw [if_pos h1, decide_eq_true (show 1 ≤ r from h1)]
  by_cases h2 : r ≤ 5
  ·rw [if_pos h2, decide_eq_true h2]; rfl
  ·rw [if_neg h2, decide_eq_false h2]; rfl
 ·rw [if_neg h1, decide_eq_false (show ¬ 1 ≤ r from h1)]; rfl
theorem ref02_Is_eq (r : Int) : ref02_Is r = some (decide (1 ≤ r) && decide (r ≤ 5)) := ring_Is_eq r
def okR (r : Int) : Bool := decide (1 ≤ r) && decide (r ≤ 5)
def getI (p : Int) : List It → Option Int
 | [] => none
 | x :: l => if x.1 = p then some x.2 else getI p l
theorem getI_none {p : Int} : ∀ {l : List It}, (∀ x ∈ l, x.1 ≠ p) → getI p l = none
 | [], _ => rfl
 | x :: l, h => by
  unfold getI
  rw [if_neg (h x List.mem_cons_self)]
  exact getI_none fun y hy => h y (List.mem_cons_of_mem _ hy)
theorem right_at {n : Int} {s : Sl It} (h : rightB (n, s) = true) {j : Nat} (hj : j < s.l.length) : 0 ≤ s.l[j].1 ∧ s.l[j].1 < n := by
 simp only [rightB, Bool.and_eq_true] at h
 have := asc_lt h.2 _ (List.getElem_mem hj); omega
theorem right_size {n : Int} {s : Sl It} (h : rightB (n, s) = true) : 0 ≤ n ∧ n ≤ 4096 := by
 simp only [rightB, sizeB, Bool.and_eq_true, decide_eq_true_eq] at h; omega
theorem getI_append (p : Int) : ∀ (l m : List It), getI p (l ++ m) = match getI p l with | some x => some x | none => getI p m
 | [], m => rfl
 | x :: l, m => by
  simp only [List.cons_append, getI]
  by_cases h : x.1 = p
  ·rw [if_pos h, if_pos h]
  ·rw [if_neg h, if_neg h]; exact getI_append p l m
theorem getI_take {n : Int} {s : Sl It} (h : rightB (n, s) = true) {j : Nat} (hj : j < s.l.length) : getI (s.l[j].1) (s.l.take j) = none := by
 simp only [rightB, Bool.and_eq_true] at h
 refine getI_none fun x hx => ?_
 obtain ⟨i, hi, rfl⟩ := List.getElem_of_mem hx
 have hij : i < j := by simp at hi; omega
 rw [List.getElem_take]
 have key : ∀ d i (hi : i + d + 1 < s.l.length), s.l[i].1 < s.l[i + d + 1].1 := by
  intro d
  induction d with
  | zero => intro i hi; exact ((asc_iff'.1 h.2) (i + 1) hi).2.2 (by omega)
  | succ d ih => intro i hi; have h1 := ih i (by omega); have h2 := ((asc_iff'.1 h.2) (i + (d + 1) + 1) hi).2.2 (by omega); simp only [Nat.add_sub_cancel] at h2; exact Int.lt_trans h1 h2
 have := key (j - i - 1) i (by omega)
 simp only [show i + (j - i - 1) + 1 = j by omega] at this
 omega
theorem sure_id {v : Int × Sl It} (h : rightB v = true) : sureV v = v := by unfold sureV; rw [if_pos h]
abbrev Ed := Int × Int × Int
def belowB (a b : Ed) : Bool := decide (a.1 < b.1) || (decide (a.1 = b.1) && decide (a.2.1 < b.2.1))
theorem below_eq (a b : Ed) : ref05_below a b = some (belowB a b) := by
 obtain ⟨a1, a2, a3⟩ := a; obtain ⟨b1, b2, b3⟩ := b
 unfold ref05_below belowB
 simp only
 by_cases h1 : a1 < b1
 ·simp [h1]
 ·by_cases h2 : a1 = b1
  ·by_cases h3 : a2 < b2
   ·simp [h2, h3]
   ·simp [h2, h3]
  ·simp [h1, h2]
def Rises (l : List Ed) : Prop := ∀ i j (hi : i < l.length) (hj : j < l.length), i < j → belowB l[i] l[j] = true
theorem below_trans {a b c : Ed} (h1 : belowB a b = true) (h2 : belowB b c = true) : belowB a c = true := by
 simp only [belowB, Bool.or_eq_true, Bool.and_eq_true, decide_eq_true_eq] at *; omega
theorem mo_at {α : Type} {w : Nat} {l : List α} {j : Nat} (hj : j < l.length) : atS w (mo w l) (j : Int) = some l[j] := by
 have := at_get (s := mo w l) (w := w) (ok_mo l) (j := j) (by rw [mo_l]; exact hj)
 rw [this]
 congr 1
 simp only [mo_l]
def insAt {α : Type} (l : List α) (i : Nat) (x : α) : List α := l.take i ++ x :: l.drop i
theorem insAt_len {α : Type} {l : List α} {i : Nat} {x : α} (hi : i ≤ l.length) : (insAt l i x).length = l.length + 1 := by unfold insAt; simp; omega
theorem ins_get {α : Type} {l : List α} {i k : Nat} {x : α} (hi : i ≤ l.length) (hk : k < (l.take i ++ x :: l.drop i).length) (hk2 : k < l.length + 1) : (l.take i ++ x :: l.drop i)[k] = if h1 : k < i then l[k]'(by omega) else if h2 : k = i then x else l[k - 1]'(by omega) := by
 rw [List.getElem_append]
 have ht : (l.take i).length = i := by simp; omega
 by_cases h1 : k < i
 ·rw [dif_pos (by omega), dif_pos h1, List.getElem_take]
 ·rw [dif_neg (by omega), dif_neg h1]
  by_cases h2 : k = i
  ·subst h2; simp [ht]
  ·rw [dif_neg h2]
   obtain ⟨m, hm⟩ : ∃ m, k - (l.take i).length = m + 1 := ⟨k - i - 1, by omega⟩
   simp only [hm, List.getElem_cons_succ, List.getElem_drop]
   congr 1; omega
theorem insAt_get {α : Type} {l : List α} {i k : Nat} {x : α} (hi : i ≤ l.length) (hk : k < (insAt l i x).length) : (insAt l i x)[k] = if h1 : k < i then l[k]'(by omega) else if h2 : k = i then x else l[k - 1]'(by rw [insAt_len hi] at hk; omega) := ins_get hi hk (by rw [insAt_len hi] at hk; exact hk)
theorem shift_end {α : Type} {l X : List α} {z x : α} {i : Nat} (hi : i ≤ l.length) (hl : X.length = l.length + 1) (h : ∀ k (hk : k < X.length), X[k] = if h0 : k ≤ i then (l ++ [z])[k]'(by simp; omega) else (l ++ [z])[k - 1]'(by simp; omega)) : X.set i x = insAt l i x := by
 refine List.ext_getElem (by rw [List.length_set, hl, insAt_len hi]) fun k h1 h2 => ?_
 have hk : k < X.length := by simpa using h1
 rw [insAt_get hi, List.getElem_set]
 by_cases c1 : i = k
 ·subst c1; rw [if_pos rfl, dif_neg (by omega), dif_pos rfl]
 rw [if_neg c1, h k hk]
 by_cases c2 : k < i
 ·rw [dif_pos (by omega), dif_pos c2, List.getElem_append_left (by omega)]
 ·rw [dif_neg (by omega), dif_neg c2, dif_neg (fun e => c1 e.symm), List.getElem_append_left (by omega)]
theorem set_get {α : Type} {X : List α} {j k : Nat} {y : α} (hk : k < (X.set j y).length) : (X.set j y)[k] = if j = k then y else X[k]'(by simpa using hk) := List.getElem_set hk
theorem shift_step {α : Type} {A X : List α} {j : Nat} (hX : X.length = A.length) (hj : j < X.length) (hj0 : 0 < j) (h : ∀ k (hk : k < X.length), X[k] = if h0 : k ≤ j then A[k]'(by omega) else A[k - 1]'(by omega)) :
  ∀ k (hk : k < (X.set j (X[j - 1]'(by omega))).length), (X.set j (X[j - 1]'(by omega)))[k] = if h0 : k ≤ j - 1 then A[k]'(by rw [List.length_set] at hk; omega) else A[k - 1]'(by rw [List.length_set] at hk; omega) := by
 intro k hk
 have hk' : k < X.length := by simpa using hk
 rw [set_get]
 by_cases c : j = k
 ·subst c
  have e := h (j - 1) (by omega)
  rw [dif_pos (by omega)] at e
  rw [if_pos rfl, dif_neg (by omega)]
  exact e
 ·rw [if_neg c, h k hk']
  by_cases c2 : k ≤ j
  ·rw [dif_pos c2, dif_pos (by omega)]
  ·rw [dif_neg c2, dif_neg (by omega)]
def ShI {α : Type} (A X : List α) (j : Nat) : Prop := X.length = A.length ∧ ∀ k (h1 : k < X.length) (h2 : k < A.length), X[k] = if h0 : k ≤ j then A[k] else A[k - 1]'(by omega)
theorem loop_down {A R : Type} {b : A → Option (A ⊕ R)} (at' : Nat) (I : Nat → A → Prop) (Q : R → Prop) (hs : ∀ j a, at' < j → I j a → ∃ a', b a = some (.inl a') ∧ I (j - 1) a') (he : ∀ a, I at' a → ∃ r, b a = some (.inr r) ∧ Q r) (j : Nat) (hj : at' ≤ j) (a : A) (ha : I j a) : ∃ r, loopO b a = some r ∧ Q r := by
 obtain ⟨k, rfl⟩ : ∃ k, j = at' + k := ⟨j - at', by omega⟩
 induction k generalizing a with
 | zero => obtain ⟨r, h1, h2⟩ := he a ha; exact ⟨r, loopO_done h1, h2⟩
 | succ k ih =>
  obtain ⟨a', h1, h2⟩ := hs (at' + (k + 1)) a (by omega) ha
  obtain ⟨r, h3, h4⟩ := ih a' (by omega) (by simpa using h2)
  exact ⟨r, (loopO_step h1).trans h3, h4⟩
theorem ShI.step {α : Type} {A X : List α} {j : Nat} (h : ShI A X j) (hj : j < X.length) (hj0 : 0 < j) : ShI A (X.set j (X[j - 1]'(by omega))) (j - 1) := by
 obtain ⟨h1, h2⟩ := h
 refine ⟨by rw [List.length_set]; exact h1, fun k k1 k2 => ?_⟩
 exact shift_step h1 hj hj0 (fun k hk => h2 k hk (by omega)) k k1
theorem w_pred {j : Nat} (h : 0 < j) (hn : j ≤ 9223372036854775807) : IntKind.i64.wrap ((j : Int) - 1) = ((j - 1 : Nat) : Int) := by rw [wrap64 (by omega) (by omega)]; omega
theorem shift3 (at' : Nat) (A : List Ed) (B : List (Int × Int)) (h0 : 0 < A.length) (hAB : A.length = B.length) (hl : A.length ≤ 1000000) (ha : at' < A.length) : ∃ X Y, loopO (ref05_Combine_b3 (at' : Int)) (A, B, ((A.length - 1 : Nat) : Int)) = some (.inl (X, Y)) ∧ ShI A X at' ∧ ShI B Y at' := by
 obtain ⟨r, h1, X, Y, rfl, h2, h3⟩ := loop_down (b := ref05_Combine_b3 (at' : Int)) at' (fun j a => ∃ X Y, a = (X, Y, (j : Int)) ∧ j < A.length ∧ ShI A X j ∧ ShI B Y j) (fun r => ∃ X Y, r = .inl (X, Y) ∧ ShI A X at' ∧ ShI B Y at')
  (by
   rintro j _ hj ⟨X, Y, rfl, hjA, hX, hY⟩
   have e1 := hX.1
   have e2 := hY.1
   simp only [ref05_Combine_b3]
   rw [if_pos (by omega), w_pred (by omega) (by omega), mo_at (show j - 1 < X.length by omega), mo_at (show j < X.length by omega), mo_at (show j - 1 < Y.length by omega), mo_at (show j < Y.length by omega)]
   exact ⟨_, rfl, _, _, rfl, by omega, hX.step (by omega) (by omega), hY.step (by omega) (by omega)⟩)
  (by
   rintro _ ⟨X, Y, rfl, hjA, hX, hY⟩
   exact ⟨_, if_neg (by omega), X, Y, rfl, hX, hY⟩) (A.length - 1) (by omega) (A, B, ((A.length - 1 : Nat) : Int)) ⟨A, B, rfl, by omega, ⟨rfl, fun k k1 k2 => by rw [dif_pos (by omega)]⟩, ⟨rfl, fun k k1 k2 => by rw [dif_pos (by omega)]⟩⟩
 exact ⟨X, Y, h1, h2, h3⟩
structure SumW (r : Int) (K : Ed → Prop) (P : Int × Int → Prop) : Prop where
 lo : ∀ a, P a → u64r a.2
 one : ∀ y, K y → P (ofW y.2.2)
 add : ∀ a b, P a → P b → P (ringAdd r a b)
structure CI (K : Ed → Prop) (P : Int × Int → Prop) (c : Nat) (E : List Ed) (S : List (Int × Int)) : Prop where
 len : E.length = S.length
 few : E.length ≤ c
 rise : Rises E
 ends : ∀ x ∈ E, ∃ y, K y ∧ x.1 = y.1 ∧ x.2.1 = y.2.1
 lo : ∀ x ∈ S, P x
theorem below_keys {a b a' b' : Ed} (h1 : a.1 = a'.1) (h2 : a.2.1 = a'.2.1) (h3 : b.1 = b'.1) (h4 : b.2.1 = b'.2.1) : belowB a b = belowB a' b' := by unfold belowB; rw [h1, h2, h3, h4]
theorem CI.ins {K : Ed → Prop} {P : Int × Int → Prop} {c : Nat} {E : List Ed} {S : List (Int × Int)} (h : CI K P c E S) {e : Ed} (he : K e) {i : Nat} (hi : i ≤ E.length) (hb : ∀ k (hk : k < E.length), k < i → belowB E[k] e = true) (ha : ∀ (hk : i < E.length), belowB e E[i] = true) {s : Int × Int} (hs : P s) (w : Int) : CI K P (c + 1) (insAt E i (e.1, e.2.1, w)) (insAt S i s) := by
 have hiS : i ≤ S.length := by rw [← h.len]; exact hi
 refine ⟨by rw [insAt_len hi, insAt_len hiS, h.len], by rw [insAt_len hi]; have := h.few; omega, fun a b h1 h2 hab => ?_, fun x hx => ?_, fun x hx => ?_⟩
 ·have hla := h1
  have hlb := h2
  rw [insAt_len hi] at hla hlb
  rw [insAt_get hi, insAt_get hi]
  have hafter : ∀ k (hk : k < E.length), i ≤ k → belowB e E[k] = true := fun k hk hik => by
   by_cases c : k = i
   ·subst c; exact ha hk
   ·exact below_trans (ha (by omega)) (h.rise i k (by omega) hk (by omega))
  by_cases c1 : a < i
  ·rw [dif_pos c1]
   by_cases c2 : b < i
   ·rw [dif_pos c2]; exact h.rise a b (by omega) (by omega) hab
   ·rw [dif_neg c2]
    by_cases c3 : b = i
    ·rw [dif_pos c3]; exact (below_keys (a := E[a]) (b := (e.1, e.2.1, w)) (a' := E[a]) (b' := e) rfl rfl rfl rfl).trans (hb a (by omega) c1)
    ·rw [dif_neg c3]; exact h.rise a (b - 1) (by omega) (by omega) (by omega)
  ·rw [dif_neg c1, dif_neg (show ¬ b < i by omega), dif_neg (show ¬ b = i by omega)]
   by_cases c3 : a = i
   ·rw [dif_pos c3]; exact (below_keys (a := (e.1, e.2.1, w)) (b := E[b - 1]) (a' := e) (b' := E[b - 1]) rfl rfl rfl rfl).trans (hafter (b - 1) (by omega) (by omega))
   ·rw [dif_neg c3]; exact h.rise (a - 1) (b - 1) (by omega) (by omega) (by omega)
 ·unfold insAt at hx
  rcases List.mem_append.1 hx with hx | hx
  ·exact h.ends x (List.mem_of_mem_take hx)
  ·rcases List.mem_cons.1 hx with rfl | hx
   ·exact ⟨e, he, rfl, rfl⟩
   ·exact h.ends x (List.mem_of_mem_drop hx)
 ·unfold insAt at hx
  rcases List.mem_append.1 hx with hx | hx
  ·exact h.lo x (List.mem_of_mem_take hx)
  ·rcases List.mem_cons.1 hx with rfl | hx
   ·exact hs
   ·exact h.lo x (List.mem_of_mem_drop hx)
theorem place2 (s : Sl Ed) (E : List Ed) (j : Nat) (hok : okS 3 s) (hj : j < s.l.length) (hE : E.length ≤ 1000000) : ∃ i : Nat, i ≤ E.length ∧ loopO (ref05_Combine_b2 s E (j : Int)) 0 = some (.inl (i : Int)) ∧ (∀ k (hk : k < E.length), k < i → belowB E[k] s.l[j] = true) ∧ (∀ hk : i < E.length, belowB E[i] s.l[j] = false) := by
 obtain ⟨r, h1, i, rfl, h2⟩ := loop_up (b := ref05_Combine_b2 s E (j : Int)) E.length (fun i a => a = (i : Int) ∧ ∀ k (hk : k < E.length), k < i → belowB E[k] s.l[j] = true) (fun r => ∃ i : Nat, r = .inl (i : Int) ∧ i ≤ E.length ∧ (∀ k (hk : k < E.length), k < i → belowB E[k] s.l[j] = true) ∧ (∀ hk : i < E.length, belowB E[i] s.l[j] = false))
  (by
   rintro i _ hi ⟨rfl, ha⟩
   simp only [ref05_Combine_b2, mo_at hi, at_get hok hj, Option.bind_some, below_eq, w_succ hi (by omega)]
   rw [if_pos (by omega)]
   cases c : belowB E[i] s.l[j] with
   | true =>
    refine .inl ⟨_, if_pos rfl, rfl, fun k hk hki => ?_⟩
    by_cases e : k = i
    ·subst e; exact c
    ·exact ha k hk (by omega)
   | false =>
    exact .inr ⟨_, if_neg (by simp), i, rfl, by omega, ha, fun _ => c⟩)
  (by
   rintro _ ⟨rfl, ha⟩
   exact ⟨_, if_neg (by omega), _, rfl, Nat.le_refl _, ha, fun hk => absurd hk (by omega)⟩) 0 (Nat.zero_le _) 0 ⟨rfl, fun k _ h => absurd h (by omega)⟩
 exact ⟨i, h2.1, h1, h2.2⟩
theorem comb_loop (r : Int) (s : Sl Ed) (hok : okS 3 s) (hl : s.l.length ≤ 5000) (K : Ed → Prop) (P : Int × Int → Prop) (hP : SumW r K P) (hK : ∀ x ∈ s.l, K x) : ∃ E S, loopO (ref05_Combine_b1 r s) ([], [], 0) = some (.inl (E, S)) ∧ CI K P s.l.length E S := by
 obtain ⟨q, h1, E, S, rfl, h2⟩ := loop_up (b := ref05_Combine_b1 r s) s.l.length (fun j a => ∃ E S, a = (E, S, (j : Int)) ∧ CI K P j E S) (fun q => ∃ E S, q = .inl (E, S) ∧ CI K P s.l.length E S)
  (by
   rintro j _ hj ⟨E, S, rfl, hI⟩
   have hfew := hI.few
   have hlen := hI.len
   obtain ⟨i, hi, hp, hb, hnb⟩ := place2 s E j hok hj (by omega)
   have hKj : K s.l[j] := hK _ (List.getElem_mem hj)
   simp only [ref05_Combine_b1, hp, at_get hok hj, Option.bind_some, Sum.elim_inl, ref01_Of_eq, w_succ hj (by omega)]
   rw [if_pos (by omega)]
   have happ1 : app E ([(0, 0, 0)] : List Ed) = some (E ++ [(0, 0, 0)]) := app_ok (by simp; unfold bound; omega)
   have happ2 : app S ([(0, 0)] : List (Int × Int)) = some (S ++ [(0, 0)]) := app_ok (by simp; unfold bound; omega)
   have hW : IntKind.i64.wrap ((((E ++ ([(0, 0, 0)] : List Ed)).length : Nat) : Int) - 1) = (((E ++ ([(0, 0, 0)] : List Ed)).length - 1 : Nat) : Int) := w_pred (by simp) (by simp; omega)
   have hins : (∀ hk : i < E.length, belowB s.l[j] E[i] = true) → ∃ X Y, ShI (E ++ [(0, 0, 0)]) X i ∧ ShI (S ++ [(0, 0)]) Y i ∧ i < X.length ∧ i < Y.length ∧ loopO (ref05_Combine_b3 (i : Int)) (E ++ [(0, 0, 0)], S ++ [(0, 0)], (((E ++ ([(0, 0, 0)] : List Ed)).length - 1 : Nat) : Int)) = some (.inl (X, Y)) ∧ loopO (ref05_Combine_b4 (i : Int)) (E ++ [(0, 0, 0)], S ++ [(0, 0)], (((E ++ ([(0, 0, 0)] : List Ed)).length - 1 : Nat) : Int)) = some (.inl (X, Y)) ∧ CI K P (j + 1) (X.set i (s.l[j].1, s.l[j].2.1, 0)) (Y.set i (ofW s.l[j].2.2)) := fun hab => by
    obtain ⟨X, Y, g1, g2, g3⟩ := shift3 i (E ++ [(0, 0, 0)]) (S ++ [(0, 0)]) (by simp) (by simp [hlen]) (by simp; omega) (by simp; omega)
    have lX : X.length = E.length + 1 := by rw [g2.1]; simp
    have lY : Y.length = S.length + 1 := by rw [g3.1]; simp
    refine ⟨X, Y, g2, g3, by omega, by omega, g1, g1, ?_⟩
    rw [shift_end (l := E) (z := (0, 0, 0)) hi lX (fun k hk => g2.2 k hk (by simp; omega)), shift_end (l := S) (z := (0, 0)) (by omega) lY (fun k hk => g3.2 k hk (by simp; omega))]
    exact hI.ins hKj hi hb hab (hP.one _ hKj) 0
   by_cases c : (i : Int) < (E.length : Int)
   ·rw [if_pos c]
    have ci : i < E.length := by omega
    simp only [mo_at ci, Option.bind_some, below_eq]
    cases c2 : belowB s.l[j] E[i] with
    | true =>
     have c' : belowB (s.l[j].1, s.l[j].2.1, s.l[j].2.2) (E[i].1, E[i].2.1, E[i].2.2) = true := c2
     obtain ⟨X, Y, g1, g2, g3, g4, g5, g6, g7⟩ := hins fun _ => c2
     simp only [c', if_true, happ1, happ2, Option.bind_some, hW, g5, Sum.elim_inl, mo_at g3, mo_at g4, Int.toNat_natCast]
     exact .inl ⟨_, rfl, _, _, rfl, g7⟩
    | false =>
     have c' : belowB (s.l[j].1, s.l[j].2.1, s.l[j].2.2) (E[i].1, E[i].2.1, E[i].2.2) = false := c2
     have cS : i < S.length := by omega
     simp only [c', Bool.false_eq_true, if_false, mo_at cS, Option.bind_some, ref02_Add_eq, Int.toNat_natCast]
     refine .inl ⟨_, rfl, _, _, rfl, ?_⟩
     refine ⟨by rw [List.length_set]; exact hI.len, by omega, hI.rise, hI.ends, fun x hx => ?_⟩
     rcases List.mem_or_eq_of_mem_set hx with hx | rfl
     ·exact hI.lo x hx
     ·exact hP.add _ _ (hI.lo _ (List.getElem_mem cS)) (hP.one _ hKj)
   ·rw [if_neg c]
    obtain ⟨X, Y, g1, g2, g3, g4, g5, g6, g7⟩ := hins fun hk => absurd hk (by omega)
    simp only [happ1, happ2, Option.bind_some, hW, g6, Sum.elim_inl, mo_at g3, mo_at g4, Int.toNat_natCast]
    exact .inl ⟨_, rfl, _, _, rfl, g7⟩)
  (by
   rintro _ ⟨E, S, rfl, hI⟩
   exact ⟨_, if_neg (by omega), E, S, rfl, hI⟩) 0 (Nat.zero_le _) ([], [], 0) ⟨[], [], rfl, ⟨rfl, Nat.le_refl _, fun i j hi => absurd hi (by simp), fun x hx => by simp at hx, fun x hx => by simp at hx⟩⟩
 exact ⟨E, S, h1, h2⟩
theorem narrow_r (a : Int × Int) : i64r (narrowW a).1 := by
 unfold narrowW
 split
 ·exact i64_wrap _
 ·unfold i64r; omega
structure CE (K : Ed → Prop) (c : Nat) (E : List Ed) : Prop where
 few : E.length ≤ c
 rise : Rises E
 ends : ∀ x ∈ E, ∃ y, K y ∧ x.1 = y.1 ∧ x.2.1 = y.2.1
 vals : ∀ x ∈ E, i64r x.2.2
theorem narrow_loop (K : Ed → Prop) (P : Int × Int → Prop) (hP : ∀ a, P a → u64r a.2) (c : Nat) (E : List Ed) (S : List (Int × Int)) (h : CI K P c E S) (hc : c ≤ 5000) : ∃ r, loopO (ref05_Combine_b5 S) (E, 0) = some r ∧ ((r = .inr (⟨false, 0, []⟩, 12) ∧ ∃ x, P x ∧ (narrowW x).2 = false) ∨ ∃ E', r = .inl E' ∧ CE K c E') := by
 have hfew := h.few
 have hlen := h.len
 refine loop_up (b := ref05_Combine_b5 S) E.length (fun j a => ∃ X, a = (X, (j : Int)) ∧ X.length = E.length ∧ (∀ k (h1 : k < X.length) (h2 : k < E.length), X[k].1 = E[k].1 ∧ X[k].2.1 = E[k].2.1) ∧ ∀ k (h1 : k < X.length), k < j → i64r X[k].2.2) (fun r => (r = .inr (⟨false, 0, []⟩, 12) ∧ ∃ x, P x ∧ (narrowW x).2 = false) ∨ ∃ E', r = .inl E' ∧ CE K c E')
  (by
   rintro j _ hj ⟨X, rfl, hX, hk, hv⟩
   have hjX : j < X.length := by omega
   have hjS : j < S.length := by omega
   have hlo := hP _ (h.lo _ (List.getElem_mem hjS))
   simp only [ref05_Combine_b5, mo_at hjS, mo_at hjX, Option.bind_some, w_succ hj (by omega), Int.toNat_natCast]
   have hn : ref01_Narrow (S[j].1, S[j].2) = some (narrowW S[j]) := ref01_Narrow_eq hlo
   rw [if_pos (by omega), hn]
   cases hb : (narrowW S[j]).2 with
   | true =>
    refine .inl ⟨(X.set j (X[j].1, X[j].2.1, (narrowW S[j]).1), ((j + 1 : Nat) : Int)), ?_, _, rfl, by rw [List.length_set]; exact hX, fun k h1 h2 => ?_, fun k h1 hkj => ?_⟩
    ·show (if (narrowW S[j]).2 = true then _ else _) = _
     rw [if_pos hb]
    ·have h1' : k < X.length := by simpa using h1
     rw [set_get]
     by_cases e : j = k
     ·subst e; rw [if_pos rfl]; exact hk j h1' h2
     ·rw [if_neg e]; exact hk k h1' h2
    ·have h1' : k < X.length := by simpa using h1
     rw [set_get]
     by_cases e : j = k
     ·subst e; rw [if_pos rfl]; exact narrow_r _
     ·rw [if_neg e]; exact hv k h1' (by omega)
   | false =>
    refine .inr ⟨_, ?_, .inl ⟨rfl, S[j], h.lo _ (List.getElem_mem hjS), hb⟩⟩
    show (if (narrowW S[j]).2 = true then _ else _) = _
    rw [if_neg (by rw [hb]; simp)])
  (by
   rintro _ ⟨X, rfl, hX, hk, hv⟩
   simp only [ref05_Combine_b5]
   refine ⟨_, if_neg (by omega), .inr ⟨X, rfl, by omega, fun i j hi hj hij => ?_, fun x hx => ?_, fun x hx => ?_⟩⟩
   ·have e1 := hk i hi (by omega)
    have e2 := hk j hj (by omega)
    rw [below_keys e1.1 e1.2 e2.1 e2.2]
    exact h.rise i j (by omega) (by omega) hij
   ·obtain ⟨i, hi, rfl⟩ := List.getElem_of_mem hx
    have e1 := hk i hi (by omega)
    obtain ⟨y, y1, y2, y3⟩ := h.ends _ (List.getElem_mem (show i < E.length by omega))
    exact ⟨y, y1, e1.1.trans y2, e1.2.trans y3⟩
   ·obtain ⟨i, hi, rfl⟩ := List.getElem_of_mem hx
    exact hv i hi (by omega)) 0 (Nat.zero_le _) (E, 0) ⟨E, rfl, rfl, fun k _ _ => ⟨rfl, rfl⟩, fun k _ h => absurd h (by omega)⟩
theorem ref05_Combine_eq (r : Int) (s : Sl Ed) (hr : okR r = true) (hok : okS 3 s) (hl : s.l.length ≤ 5000) (K : Ed → Prop) (P : Int × Int → Prop) (hP : SumW r K P) (hK : ∀ x ∈ s.l, K x) : ∃ o, ref05_Combine r s = some o ∧ ((o = (⟨false, 0, []⟩, 12) ∧ ∃ x, P x ∧ (narrowW x).2 = false) ∨ ∃ E, o = (mo 3 E, 0) ∧ CE K s.l.length E) := by
 obtain ⟨E, S, h1, h2⟩ := comb_loop r s hok hl K P hP hK
 obtain ⟨q, h3, h4⟩ := narrow_loop K P hP.lo _ E S h2 hl
 unfold okR at hr
 unfold ref05_Combine
 simp only [ref02_Is_eq, hr, Option.bind_some, if_true, h1, Sum.elim_inl, h3]
 rcases h4 with ⟨rfl, hx⟩ | ⟨E', rfl, h5⟩
 ·exact ⟨_, rfl, .inl ⟨rfl, hx⟩⟩
 ·exact ⟨_, rfl, .inr ⟨E', rfl, h5⟩⟩
def GoodV (v : Int × Sl It) : Prop := rightB v = true ∧ okS 2 v.2 ∧ ∀ x ∈ v.2.l, i64r x.2
theorem good_nil : GoodV (0, nilS) := ⟨rfl, ok_nil, fun x hx => by simp [nilS] at hx⟩
def KOf (n : Int) (Q : Int → Prop) (y : Ed) : Prop := y.1 = 0 ∧ 0 ≤ y.2.1 ∧ y.2.1 < n ∧ Q y.2.2
theorem ref09_Of_any (r n : Int) (s : Sl It) (hr : okR r = true) (hok : okS 2 s) (h0 : 0 ≤ n) (hn : n ≤ 4096) (hl : s.l.length ≤ 5000) (Q : Int → Prop) (hs : ∀ x ∈ s.l, 0 ≤ x.1 ∧ x.1 < n ∧ Q x.2) (P : Int × Int → Prop) (hP : SumW r (KOf n Q) P) : ∃ v e, ref09_Of r n s = some (v, e) ∧ GoodV v ∧ (v.1 = n ∨ ∃ x, P x ∧ (narrowW x).2 = false) := by
 have hr' := hr
 unfold okR at hr'
 unfold ref09_Of
 simp only [ref02_Is_eq, hr', Option.bind_some, if_true]
 rw [if_neg (by omega), if_neg (by omega)]
 obtain ⟨q, h1, h2⟩ := loop_up (b := ref09_Of_b1 n s) s.l.length (fun j a => a = ((s.l.take j).map (fun x => ((0, x.1, x.2) : Ed)), (j : Int))) (fun q => q = .inl (s.l.map fun x => ((0, x.1, x.2) : Ed)))
  (by
   rintro j _ hj rfl
   have hx := hs _ (List.getElem_mem hj)
   have ha : app ((s.l.take j).map (fun x => ((0, x.1, x.2) : Ed))) [(0, s.l[j].1, s.l[j].2)] = some ((s.l.take j).map (fun x => ((0, x.1, x.2) : Ed)) ++ [(0, s.l[j].1, s.l[j].2)]) := app_ok (by simp; unfold bound; omega)
   simp only [ref09_Of_b1, at_get hok hj, Option.bind_some, w_succ hj (by omega), ha]
   rw [if_pos (by omega), if_neg (by omega), if_neg (by omega)]
   refine .inl ⟨_, rfl, ?_⟩
   rw [List.take_succ_eq_append_getElem hj, List.map_append]; rfl)
  (by
   rintro _ rfl
   exact ⟨_, if_neg (by omega), by rw [List.take_length]⟩) 0 (Nat.zero_le _) ([], 0) rfl
 subst h2
 rw [h1]
 simp only [Option.bind_some, Sum.elim_inl]
 obtain ⟨o, h3, h4⟩ := ref05_Combine_eq r (mo 3 (s.l.map fun x => ((0, x.1, x.2) : Ed))) hr (ok_mo _) (by rw [mo_l]; simpa using hl) (KOf n Q) P hP (fun x hx => by
  rw [mo_l] at hx
  obtain ⟨y, hy, rfl⟩ := List.mem_map.1 hx
  exact ⟨rfl, hs y hy⟩)
 rw [h3]
 rcases h4 with ⟨rfl, hbad⟩ | ⟨E, rfl, hE⟩
 ·exact ⟨_, _, rfl, good_nil, .inr hbad⟩
 have hfew : E.length ≤ 5000 := by have := hE.few; rw [mo_l] at this; simp at this; omega
 simp only [Option.bind_some, ne_eq, not_true, if_false]
 obtain ⟨q, h5, h6⟩ := loop_up (b := ref09_Of_b2 (mo 3 E)) E.length (fun j a => a = ((j : Int), (E.take j).map (fun x => ((x.2.1, x.2.2) : It)))) (fun q => q = .inl (E.map fun x => ((x.2.1, x.2.2) : It)))
  (by
   rintro j _ hj rfl
   have ha : app ((E.take j).map (fun x => ((x.2.1, x.2.2) : It))) [(E[j].2.1, E[j].2.2)] = some ((E.take j).map (fun x => ((x.2.1, x.2.2) : It)) ++ [(E[j].2.1, E[j].2.2)]) := app_ok (by simp; unfold bound; omega)
   simp only [ref09_Of_b2, mo_at hj, mo_l, Option.bind_some, w_succ hj (by omega), ha]
   rw [if_pos (by omega)]
   refine .inl ⟨_, rfl, ?_⟩
   rw [List.take_succ_eq_append_getElem hj, List.map_append]; rfl)
  (by
   rintro _ rfl
   simp only [ref09_Of_b2, mo_l]
   exact ⟨_, if_neg (by omega), by rw [List.take_length]⟩) 0 (Nat.zero_le _) (0, []) rfl
 subst h6
 rw [h5]
 refine ⟨_, _, rfl, ⟨?_, ok_mo _, fun x hx => ?_⟩, .inl rfl⟩
 ·simp only [rightB, sizeB, mo_l, decide_eq_true h0, decide_eq_true hn, Bool.true_and]
  refine asc_iff'.2 fun j hj => ?_
  have hjE : j < E.length := by simpa using hj
  obtain ⟨y, ⟨y1, y2, y3, _⟩, y4, y5⟩ := hE.ends _ (List.getElem_mem hjE)
  simp only [List.getElem_map]
  refine ⟨by omega, by omega, fun hj0 => ?_⟩
  obtain ⟨z, ⟨z1, z2, z3, _⟩, z4, z5⟩ := hE.ends _ (List.getElem_mem (show j - 1 < E.length by omega))
  have := hE.rise (j - 1) j (by omega) hjE (by omega)
  simp only [belowB, Bool.or_eq_true, Bool.and_eq_true, decide_eq_true_eq] at this
  omega
 ·rw [mo_l] at hx
  obtain ⟨y, hy, rfl⟩ := List.mem_map.1 hx
  exact hE.vals y hy
def OfN (a : Int × Int) : Prop := ∃ n, i64r n ∧ a = ofW n
theorem pw_min (n : Int) : SumW 1 (KOf n i64r) OfN := ⟨fun a h => by obtain ⟨m, _, rfl⟩ := h; exact ofW_lo _, fun y hy => ⟨_, hy.2.2.2, rfl⟩, fun a b ha hb => by
 unfold ringAdd lessrW
 rw [if_pos (.inl rfl)]
 split
 ·exact hb
 ·exact ha⟩
theorem ofN_narrow {a : Int × Int} (h : OfN a) : (narrowW a).2 = true := by
 obtain ⟨m, hm, rfl⟩ := h
 unfold narrowW
 have e : IntKind.i64.wrap (ofW m).2 = m := by show IntKind.i64.wrap (IntKind.u64.wrap m) = m; rw [wrap_u64, IntKind.wrap_i64]; unfold i64r at hm; omega
 rw [e, if_pos rfl]
theorem ref09_Of_min (n : Int) (s : Sl It) (hok : okS 2 s) (h0 : 0 ≤ n) (hn : n ≤ 4096) (hl : s.l.length ≤ 5000) (hs : ∀ x ∈ s.l, 0 ≤ x.1 ∧ x.1 < n ∧ i64r x.2) : ∃ v e, ref09_Of 1 n s = some (v, e) ∧ GoodV v ∧ v.1 = n := by
 obtain ⟨v, e, h1, h2, h3⟩ := ref09_Of_any 1 n s (by decide) hok h0 hn hl i64r hs _ (pw_min n)
 refine ⟨v, e, h1, h2, h3.resolve_right ?_⟩
 rintro ⟨x, hx, hb⟩
 rw [ofN_narrow hx] at hb
 simp at hb
theorem addW_eq {a b : Int × Int} (ha : u64r a.2) (hb : u64r b.2) : addW a b = ((a.1 + b.1 + (a.2 + b.2) / 18446744073709551616 + 9223372036854775808) % 18446744073709551616 - 9223372036854775808, (a.2 + b.2) % 18446744073709551616) := by
 unfold u64r at ha hb
 unfold addW
 simp only [wrap_u64, IntKind.wrap_i64]
 split
 ·refine Prod.ext ?_ rfl; simp only; omega
 ·refine Prod.ext ?_ rfl; simp only; omega
def toW (z : Int) : Int × Int := ((z / 18446744073709551616 + 9223372036854775808) % 18446744073709551616 - 9223372036854775808, z % 18446744073709551616)
theorem toW_lo (z : Int) : u64r (toW z).2 := by unfold toW u64r; simp only; omega
theorem ofW_toW {n : Int} (h : i64r n) : ofW n = toW n := by
 unfold ofW toW i64r at *
 rw [wrap_u64]
 refine Prod.ext ?_ rfl
 simp only
 split <;> omega
theorem toW_add (a b : Int) : addW (toW a) (toW b) = toW (a + b) := by
 rw [addW_eq (toW_lo a) (toW_lo b)]
 unfold toW
 refine Prod.ext ?_ ?_ <;> simp only <;> omega
theorem toW_period (z k : Int) : toW (z + k * 340282366920938463463374607431768211456) = toW z := by
 unfold toW
 refine Prod.ext ?_ ?_ <;> simp only <;> omega
theorem wide_Add_toW (a b : Int) : wide_Add (toW a) (toW b) = some (toW (a + b)) := by rw [wide_Add_eq, toW_add]
theorem and_low {n : Int} (h : u64r n) : andI .u64 n 4294967295 = n % 4294967296 := by
 obtain ⟨h0, h1⟩ := h
 obtain ⟨m, rfl⟩ := Int.eq_ofNat_of_zero_le h0
 unfold andI
 have hb : IntKind.u64.bits = 64 := rfl
 rw [hb, wrap_u64]
 have e1 : (BitVec.ofInt 64 (m : Int)).toNat = m := by rw [BitVec.toNat_ofInt]; omega
 have e2 : (BitVec.ofInt 64 4294967295).toNat = 2 ^ 32 - 1 := by decide
 rw [BitVec.toNat_and, e1, e2, Nat.and_two_pow_sub_one_eq_mod]
 omega
theorem shr_32 {n : Int} (h : u64r n) : shr1 .u64 n 32 = some (n / 4294967296) := by
 unfold shr1 shrI
 rw [if_pos (by decide)]
 have e : (2 : Int) ^ (min (32 : Int).toNat IntKind.u64.bits) = 4294967296 := by decide
 rw [e, Int.fdiv_eq_ediv_of_nonneg _ (by decide)]
theorem prod_le {a b : Int} (ha : 0 ≤ a) (ha' : a ≤ 4294967295) (hb : 0 ≤ b) (hb' : b ≤ 4294967295) : 0 ≤ a * b ∧ a * b ≤ 18446744065119617025 :=
 ⟨Int.mul_nonneg ha hb, by have := Int.mul_le_mul ha' hb' hb (by decide); omega⟩
theorem wide_products_eq {a b : Int} (ha : u64r a) (hb : u64r b) : wide_products a b = some ((a % 4294967296) * (b % 4294967296), (a % 4294967296) * (b / 4294967296), (a / 4294967296) * (b % 4294967296), (a / 4294967296) * (b / 4294967296)) := by
 unfold wide_products
 rw [shr_32 ha, shr_32 hb]
 simp only [Option.bind_some, and_low ha, and_low hb]
 unfold u64r at ha hb
 have w : ∀ {x y : Int}, 0 ≤ x → x ≤ 4294967295 → 0 ≤ y → y ≤ 4294967295 → IntKind.u64.wrap (x * y) = x * y := fun h1 h2 h3 h4 => by
  have := prod_le h1 h2 h3 h4
  rw [wrap_u64]; exact Int.emod_eq_of_lt this.1 (by omega)
 rw [w (by omega) (by omega) (by omega) (by omega), w (by omega) (by omega) (by omega) (by omega), w (by omega) (by omega) (by omega) (by omega), w (by omega) (by omega) (by omega) (by omega)]
theorem wide_Left_32 {n : Int} (h : u64r n) : wide_Left (0, n) 32 = some (toW (n * 4294967296)) := by
 unfold wide_Left
 simp only
 rw [if_neg (by decide), if_neg (by decide), if_neg (by decide)]
 have e1 : IntKind.u64.wrap 0 = 0 := by decide
 have e2 : IntKind.u64.wrap 32 = 32 := by decide
 have e3 : IntKind.u64.wrap (IntKind.i64.wrap (64 - 32)) = 32 := by decide
 rw [e1, e2, e3, shr_32 h]
 unfold shl1 shlI
 have e : (2 : Int) ^ (min (32 : Int).toNat IntKind.u64.bits) = 4294967296 := by decide
 simp only [e, Option.bind_some, if_pos (show (0 : Int) ≤ 32 by decide), Int.zero_mul, e1]
 have hor : orI .u64 0 (n / 4294967296) = n / 4294967296 := by
  unfold u64r at h
  obtain ⟨m, hm⟩ := Int.eq_ofNat_of_zero_le (show 0 ≤ n / 4294967296 by omega)
  rw [hm]
  unfold orI
  have hb : IntKind.u64.bits = 64 := rfl
  have e0 : BitVec.ofInt 64 0 = 0#64 := by decide
  rw [hb, wrap_u64, e0, BitVec.zero_or, BitVec.toNat_ofInt]
  omega
 rw [hor, IntKind.wrap_i64, wrap_u64]
 unfold toW
 unfold u64r at h
 congr 1
 refine Prod.ext ?_ ?_ <;> simp only <;> omega
theorem wide_Mul_eq {x y : Int} (hx : i64r x) (hy : i64r y) : wide_Mul x y = some (toW (x * y)) := by
 unfold wide_Mul
 have hux := u64_wrap x
 have huy := u64_wrap y
 have gx : IntKind.u64.wrap x = x + (if x < 0 then 18446744073709551616 else 0) := by rw [wrap_u64]; unfold i64r at hx; split <;> omega
 have gy : IntKind.u64.wrap y = y + (if y < 0 then 18446744073709551616 else 0) := by rw [wrap_u64]; unfold i64r at hy; split <;> omega
 generalize hX : IntKind.u64.wrap x = X at hux gx
 generalize hY : IntKind.u64.wrap y = Y at huy gy
 rw [wide_products_eq hux huy]
 simp only [Option.bind_some]
 unfold u64r at hux huy
 generalize ha : X % 4294967296 = a
 generalize hA : X / 4294967296 = A
 generalize hb : Y % 4294967296 = b
 generalize hB : Y / 4294967296 = B
 have hXe : X = A * 4294967296 + a := by omega
 have hYe : Y = B * 4294967296 + b := by omega
 have p0 := prod_le (a := a) (b := b) (by omega) (by omega) (by omega) (by omega)
 have p1 := prod_le (a := a) (b := B) (by omega) (by omega) (by omega) (by omega)
 have p2 := prod_le (a := A) (b := b) (by omega) (by omega) (by omega) (by omega)
 have p3 := prod_le (a := A) (b := B) (by omega) (by omega) (by omega) (by omega)
 have hXY : X * Y = (A * B) * 18446744073709551616 + (a * B + A * b) * 4294967296 + a * b := by
  rw [hXe, hYe, Int.add_mul, Int.mul_add, Int.mul_add]
  have q1 : A * 4294967296 * (B * 4294967296) = A * B * 18446744073709551616 := by
   rw [Int.mul_assoc, Int.mul_left_comm 4294967296 B, ← Int.mul_assoc]; rfl
  have q2 : A * 4294967296 * b = A * b * 4294967296 := by rw [Int.mul_assoc, Int.mul_comm 4294967296 b, ← Int.mul_assoc]
  have q3 : a * (B * 4294967296) = a * B * 4294967296 := by rw [Int.mul_assoc]
  rw [q1, q2, q3]
  omega
 generalize hab : a * b = ab at *
 generalize haB : a * B = aB at *
 generalize hAb : A * b = Ab at *
 generalize hAB : A * B = AB at *
 rw [wide_Left_32 (n := aB) ⟨by omega, by omega⟩]
 simp only [Option.bind_some]
 have e0 : ((IntKind.i64.wrap AB, ab) : Int × Int) = toW (AB * 18446744073709551616 + ab) := by
  rw [IntKind.wrap_i64]; unfold toW
  refine Prod.ext ?_ ?_ <;> simp only <;> omega
 rw [e0, show ((toW (aB * 4294967296)).1, (toW (aB * 4294967296)).2) = toW (aB * 4294967296) from rfl, wide_Add_toW]
 simp only [Option.bind_some]
 rw [wide_Left_32 (n := Ab) ⟨by omega, by omega⟩]
 simp only [Option.bind_some]
 rw [show ∀ z, ((toW z).1, (toW z).2) = toW z from fun _ => rfl, show ∀ z, ((toW z).1, (toW z).2) = toW z from fun _ => rfl, wide_Add_toW]
 simp only [Option.bind_some]
 have e1 : AB * 18446744073709551616 + ab + aB * 4294967296 + Ab * 4294967296 = X * Y := by omega
 rw [e1]
 have hsub : ∀ z w : Int, (IntKind.i64.wrap ((toW z).1 - w), (toW z).2) = toW (z - w * 18446744073709551616) := fun z w => by
  rw [IntKind.wrap_i64]; unfold toW
  refine Prod.ext ?_ ?_ <;> simp only <;> omega
 have hsub2 : ∀ z w v : Int, (IntKind.i64.wrap (IntKind.i64.wrap ((toW z).1 - w) - v), (toW z).2) = toW (z - w * 18446744073709551616 - v * 18446744073709551616) := fun z w v => by
  rw [IntKind.wrap_i64, IntKind.wrap_i64]; unfold toW
  refine Prod.ext ?_ ?_ <;> simp only <;> omega
 by_cases hx0 : x < 0
 ·rw [if_pos hx0]
  rw [if_pos hx0] at gx
  by_cases hy0 : y < 0
  ·rw [if_pos hy0, hsub2]
   rw [if_pos hy0] at gy
   have : X * Y - y * 18446744073709551616 - x * 18446744073709551616 = x * y + 1 * 340282366920938463463374607431768211456 := by
    rw [gx, gy, Int.add_mul, Int.mul_add, Int.mul_add]
    rw [Int.mul_comm x 18446744073709551616]
    omega
   rw [this, toW_period]
  ·rw [if_neg hy0, hsub]
   rw [if_neg hy0] at gy
   have : X * Y - y * 18446744073709551616 = x * y := by
    rw [gx, gy, Int.add_zero, Int.add_mul, Int.mul_comm 18446744073709551616 y]; omega
   rw [this]
 ·rw [if_neg hx0]
  rw [if_neg hx0] at gx
  by_cases hy0 : y < 0
  ·rw [if_pos hy0, hsub]
   rw [if_pos hy0] at gy
   have : X * Y - x * 18446744073709551616 = x * y := by
    rw [gx, gy, Int.add_zero, Int.mul_add]; omega
   rw [this]
  ·rw [if_neg hy0]
   rw [if_neg hy0] at gy
   rw [gx, gy, Int.add_zero, Int.add_zero]
def infI : Int := 4611686018427387904
def ringMul (r x y : Int) : Int × Int :=
 if r = 1 then (if infI ≤ x ∨ infI ≤ y then ofW infI else lessrW (toW (x + y)) (ofW infI))
 else if r = 2 then truthW (!decide (x = 0) && !decide (y = 0))
 else if r = 4 then (if infI ≤ x ∨ infI ≤ y then ofW infI else ofW y)
 else if r = 3 then (if infI ≤ x ∨ infI ≤ y then ofW infI else ofW x)
 else if r = 5 then toW (x * y) else (0, 0)
theorem inf_r : i64r infI := by unfold i64r infI; omega
theorem ring_Mul_eq (r : Int) {x y : Int} (hx : i64r x) (hy : i64r y) : ring_Mul r x y = some (ringMul r x y) := by
 have hi := inf_r
 unfold ring_Mul ringMul
 have hI : (4611686018427387904 : Int) = infI := rfl
 rw [hI]
 by_cases h1 : r = 1
 ·rw [if_pos h1, if_pos h1]
  by_cases c1 : x ≥ infI
  ·rw [if_pos c1, if_pos (.inl c1), wide_Of_eq hi]; rfl
  ·rw [if_neg c1]
   by_cases c2 : y ≥ infI
   ·rw [if_pos c2, if_pos (.inr c2), wide_Of_eq hi]; rfl
   ·rw [if_neg c2, if_neg (by omega), wide_Of_eq hx, wide_Of_eq hy]
    simp only [Option.bind_some]
    rw [show ∀ z, ((ofW z).1, (ofW z).2) = ofW z from fun _ => rfl, show ∀ z, ((ofW z).1, (ofW z).2) = ofW z from fun _ => rfl, ofW_toW hx, ofW_toW hy, wide_Add_toW]
    simp only [Option.bind_some]
    rw [wide_Of_eq hi]
    simp only [Option.bind_some]
    rw [show ∀ z, ((ofW z).1, (ofW z).2) = ofW z from fun _ => rfl, show ∀ z, ((toW z).1, (toW z).2) = toW z from fun _ => rfl, ring_lesser_eq]; rfl
 ·rw [if_neg h1, if_neg h1]
  by_cases h2 : r = 2
  ·rw [if_pos h2, if_pos h2]
   by_cases c1 : x = 0
   ·rw [if_neg (by simpa using c1), ring_truth_eq]; simp [c1]
   ·rw [if_pos c1]
    by_cases c2 : y = 0
    ·rw [if_neg (by simpa using c2), ring_truth_eq]; simp [c2]
    ·rw [if_pos c2, ring_truth_eq]; simp [c1, c2]
  ·rw [if_neg h2, if_neg h2]
   by_cases h4 : r = 4
   ·rw [if_pos h4, if_pos h4]
    by_cases c2 : y ≥ infI
    ·rw [if_pos c2, if_pos (.inr c2), wide_Of_eq hi]; rfl
    ·rw [if_neg c2]
     by_cases c1 : x ≥ infI
     ·rw [if_pos c1, if_pos (.inl c1), wide_Of_eq hi]; rfl
     ·rw [if_neg c1, if_neg (by omega), wide_Of_eq hy]; rfl
   ·rw [if_neg h4, if_neg h4]
    by_cases h3 : r = 3
    ·rw [if_pos h3, if_pos h3]
     by_cases c1 : x ≥ infI
     ·rw [if_pos c1, if_pos (.inl c1), wide_Of_eq hi]; rfl
     ·rw [if_neg c1]
      by_cases c2 : y ≥ infI
      ·rw [if_pos c2, if_pos (.inr c2), wide_Of_eq hi]; rfl
      ·rw [if_neg c2, if_neg (by omega), wide_Of_eq hx]; rfl
    ·rw [if_neg h3, if_neg h3]
     by_cases h5 : r = 5
     ·rw [if_pos h5, if_pos h5, wide_Mul_eq hx hy]; rfl
     ·rw [if_neg h5, if_neg h5]
theorem FL_eq3 : FL = some true := rfl
theorem u8_of {n : Int} (h : inK .u8 n) : 0 ≤ n ∧ n ≤ 255 := by simpa [inK, Lit.wf, IntKind.min, IntKind.max, IntKind.signed, IntKind.bits] using h
def hd : List It → List It → Int × Option Int × Option Int × List It × List It
 | [], [] => (0, none, none, [], [])
 | x :: l, [] => (x.1, some x.2, none, l, [])
 | [], y :: m => (y.1, none, some y.2, [], m)
 | x :: l, y :: m => if x.1 ≤ y.1 then (if y.1 ≤ x.1 then (y.1, some x.2, some y.2, l, m) else (x.1, some x.2, none, l, y :: m)) else (y.1, none, some y.2, x :: l, m)
theorem right_asc {v : Int × Sl It} (h : rightB v = true) : asc (-1) v.1 v.2.l = true := by unfold rightB at h; simp only [Bool.and_eq_true] at h; exact h.2
theorem div64n {j : Nat} (hj : j < 1000000) : divO .i64 (j : Int) 64 = some ((j / 64 : Nat) : Int) := by
 unfold divO
 rw [if_pos (by decide), Int.tdiv_eq_ediv_of_nonneg (by omega), wrap64 (by omega) (by omega)]; rfl
theorem mod64n {j : Nat} : modO (j : Int) 64 = some ((j % 64 : Nat) : Int) := by
 unfold modO
 rw [if_pos (by decide), Int.tmod_eq_emod_of_nonneg (by omega)]; rfl
theorem and_nat {a b : Nat} (ha : a < 18446744073709551616) (hb : b < 18446744073709551616) : andI .u64 (a : Int) (b : Int) = ((a &&& b : Nat) : Int) := by
 unfold andI
 have hb' : IntKind.u64.bits = 64 := rfl
 rw [hb', BitVec.toNat_and, BitVec.toNat_ofInt, BitVec.toNat_ofInt, wrap_u64]
 have e1 : ((a : Int) % ((2 ^ 64 : Nat) : Int)).toNat = a := by omega
 have e2 : ((b : Int) % ((2 ^ 64 : Nat) : Int)).toNat = b := by omega
 rw [e1, e2]
 have : a &&& b < 2 ^ 64 := Nat.and_lt_two_pow a (by omega)
 omega
def hasB (ws : List Int) (p : Nat) : Bool := match ws[p / 64]? with | some w => w.toNat.testBit (p % 64) | none => false
def u64s (ws : List Int) : Prop := ∀ w ∈ ws, u64r w
theorem and_pow (a k : Nat) : a &&& 2 ^ k ≠ 0 ↔ a.testBit k = true := by
 constructor
 ·intro h
  cases hc : a.testBit k with
  | true => rfl
  | false =>
   refine absurd (Nat.eq_of_testBit_eq fun i => ?_) h
   rw [Nat.testBit_and, Nat.testBit_two_pow, Nat.zero_testBit]
   by_cases e : k = i
   ·subst e; rw [hc]; rfl
   ·rw [decide_eq_false e, Bool.and_false]
 ·intro h e
  have : (a &&& 2 ^ k).testBit k = false := by rw [e]; exact Nat.zero_testBit _
  rw [Nat.testBit_and, Nat.testBit_two_pow, h] at this
  simp at this
theorem pow_lt {k : Nat} (hk : k < 64) : 2 ^ k < 18446744073709551616 := Nat.pow_lt_pow_right (by decide) hk
theorem flags_Has_eq (s : Sl Int) (p : Nat) (hok : okS 1 s) (hu : u64s s.l) (hp : p < 1000000) : flags_Has s (p : Int) = some (hasB s.l p) := by
 unfold flags_Has flags_within hasB
 simp only [div64n hp, Option.bind_some]
 rw [if_pos (by omega)]
 by_cases h : p / 64 < s.l.length
 ·rw [if_pos (by omega)]
  simp only [Option.bind_some, if_true, at_get hok h]
  have hw := hu _ (List.getElem_mem h)
  have hg : s.l[p / 64]? = some s.l[p / 64] := List.getElem?_eq_getElem h
  rw [hg]
  obtain ⟨w, hw2⟩ := Int.eq_ofNat_of_zero_le hw.1
  rw [hw2] at hw ⊢
  have hk : p % 64 < 64 := Nat.mod_lt _ (by decide)
  have hpow := pow_lt hk
  have hb : flags_bit (p : Int) = some ((2 ^ (p % 64) : Nat) : Int) := by
   unfold flags_bit
   simp only [mod64n, Option.bind_some]
   have e : IntKind.u64.wrap ((p % 64 : Nat) : Int) = ((p % 64 : Nat) : Int) := by rw [wrap_u64]; omega
   rw [e]
   unfold shl1 shlI
   rw [if_pos (by omega)]
   have hmin : min (((p % 64 : Nat) : Int)).toNat IntKind.u64.bits = p % 64 := by
    have : IntKind.u64.bits = 64 := rfl
    omega
   rw [hmin, Int.one_mul, wrap_u64]
   simp only [Option.bind_some]
   congr 1
   have : (2 : Int) ^ (p % 64) = ((2 ^ (p % 64) : Nat) : Int) := by simp
   rw [this]
   clear this
   generalize 2 ^ (p % 64) = z at hpow ⊢
   omega
  rw [hb]
  simp only [Option.bind_some]
  rw [and_nat (by have := hw.2; omega) hpow]
  simp only [Int.toNat_natCast]
  have ht := and_pow w (p % 64)
  cases hc : w.testBit (p % 64) with
  | false => rw [hc] at ht; rw [if_neg (fun h => by have := ht.1 (fun e => h (by rw [e]; rfl)); simp at this)]
  | true => rw [hc] at ht; rw [if_pos (by have := ht.2 rfl; omega)]
 ·rw [if_neg (by omega)]
  simp only [Option.bind_some, Bool.false_eq_true, if_false]
  rw [List.getElem?_eq_none (by omega)]
theorem u64s_of {s : Sl Int} (h : SlW 1 (fun x => inK .u64 x) s) : u64s s.l := fun x hx => by
 have := h.2.2.2 x hx
 simpa [inK, u64r, Lit.wf, IntKind.min, IntKind.max, IntKind.signed, IntKind.bits] using this
theorem at_mo {α : Type} {w : Nat} {l : List α} {k : Nat} {x : α} (h : l[k]? = some x) : atS w (mo w l) (k : Int) = some x := by
 have hk := (List.getElem?_eq_some_iff.1 h).1
 have := at_get (w := w) (s := mo w l) (ok_mo l) (j := k) (by rw [mo_l]; exact hk)
 rw [this]
 simp only [mo_l]
 rw [← h, List.getElem?_eq_getElem hk]
theorem hasB_word {ws : List Int} {p i k : Nat} {w : Int} (hp : p / 64 = i) (hk : p % 64 = k) (hw : ws[i]? = some w) : hasB ws p = w.toNat.testBit k := by unfold hasB; rw [hp, hk, hw]
theorem hasB_out {ws : List Int} {p : Nat} (h : ws.length ≤ p / 64) : hasB ws p = false := by unfold hasB; rw [List.getElem?_eq_none h]
theorem ref03_words_eq {n : Int} (h : 0 ≤ n ∧ n ≤ 4096) : ref03_words n = some ((n + 63) / 64) := by
 unfold ref03_words
 rw [if_neg (by omega)]
 by_cases h1 : n < 1
 ·rw [if_pos h1]
  obtain rfl : n = 0 := by omega
  rfl
 ·rw [if_neg h1, wrap64 (by omega) (by omega)]
  unfold divO
  rw [if_pos (by decide), Int.tdiv_eq_ediv_of_nonneg (by omega), wrap64 (by omega) (by omega)]; rfl
theorem or_nat {a b : Nat} (ha : a < 18446744073709551616) (hb : b < 18446744073709551616) : orI .u64 (a : Int) (b : Int) = ((a ||| b : Nat) : Int) := by
 unfold orI
 have hb' : IntKind.u64.bits = 64 := rfl
 rw [hb', BitVec.toNat_or, BitVec.toNat_ofInt, BitVec.toNat_ofInt, wrap_u64]
 have e1 : ((a : Int) % ((2 ^ 64 : Nat) : Int)).toNat = a := by omega
 have e2 : ((b : Int) % ((2 ^ 64 : Nat) : Int)).toNat = b := by omega
 rw [e1, e2]
 have : a ||| b < 2 ^ 64 := Nat.or_lt_two_pow (by omega) (by omega)
 omega
theorem shl_one {p : Nat} : shl1 .u64 1 (IntKind.u64.wrap ((p % 64 : Nat) : Int)) = some ((2 ^ (p % 64) : Nat) : Int) := by
 have hk : p % 64 < 64 := Nat.mod_lt _ (by decide)
 have hpow := pow_lt hk
 have e : IntKind.u64.wrap ((p % 64 : Nat) : Int) = ((p % 64 : Nat) : Int) := by rw [wrap_u64]; omega
 rw [e]
 unfold shl1 shlI
 rw [if_pos (by omega)]
 have hmin : min (((p % 64 : Nat) : Int)).toNat IntKind.u64.bits = p % 64 := by
  have : IntKind.u64.bits = 64 := rfl
  omega
 rw [hmin, Int.one_mul, wrap_u64]
 congr 1
 have : (2 : Int) ^ (p % 64) = ((2 ^ (p % 64) : Nat) : Int) := by simp
 rw [this]
 clear this
 generalize 2 ^ (p % 64) = z at hpow ⊢
 omega
theorem ref03_Put_eq (ws : List Int) (p : Nat) (hu : u64s ws) (hl : ws.length ≤ 1000) (hp : p / 64 < ws.length) (hp2 : p < 1000000) : ∃ q, ref03_Put ⟨true, 1, ws⟩ (p : Int) = some q ∧ q.length = ws.length ∧ u64s q ∧ ∀ i, hasB q i = (hasB ws i || decide (i = p)) := by
 have hap : app ([] : List Int) ws = some ([] ++ ws) := app_ok (by simp; unfold bound; omega)
 have hw := hu _ (List.getElem_mem hp)
 have hat := at_mo (w := 1) (l := ws) (List.getElem?_eq_getElem hp)
 obtain ⟨w, hw2⟩ := Int.eq_ofNat_of_zero_le hw.1
 rw [hw2] at hw hat
 have hwlt : w < 18446744073709551616 := by have := hw.2; omega
 have hk : p % 64 < 64 := Nat.mod_lt _ (by decide)
 have hpow := pow_lt hk
 have hor := or_nat hwlt hpow
 have horl : w ||| 2 ^ (p % 64) < 2 ^ 64 := Nat.or_lt_two_pow (by omega) (by omega)
 refine ⟨ws.set (p / 64) ((w ||| 2 ^ (p % 64) : Nat) : Int), ?_, by simp, fun x hx => ?_, fun i => ?_⟩
 ·unfold ref03_Put ref03_set
  simp only [hap, Option.bind_some, List.nil_append, div64n hp2, mod64n, shl_one, hat, hor, if_true]
  rw [if_neg (by omega), if_neg (by omega), Int.toNat_natCast]; rfl
 ·rcases List.mem_or_eq_of_mem_set hx with hx | rfl
  ·exact hu x hx
  ·unfold u64r; omega
 ·by_cases e : i / 64 = p / 64
  ·rw [hasB_word (ws := ws.set _ _) e rfl (by rw [List.getElem?_set, if_pos rfl, if_pos hp]), hasB_word e rfl (by rw [List.getElem?_eq_getElem hp, hw2])]
   simp only [Int.toNat_natCast]
   rw [Nat.testBit_or, Nat.testBit_two_pow]
   congr 1
   by_cases e2 : i = p
   ·subst e2; simp
   ·rw [decide_eq_false e2, decide_eq_false (by omega)]
  ·have hne : (ws.set (p / 64) ((w ||| 2 ^ (p % 64) : Nat) : Int))[i / 64]? = ws[i / 64]? := by rw [List.getElem?_set, if_neg (Ne.symm e)]
   have e2 : i ≠ p := fun h => e (by rw [h])
   rw [decide_eq_false e2, Bool.or_false]
   unfold hasB
   rw [hne]
theorem has_zero (k i : Nat) : hasB (List.replicate k 0) i = false := by
 unfold hasB
 rw [List.getElem?_replicate]
 split
 ·rename_i h
  split at h
  ·simp only [Option.some.injEq] at h; rw [← h]; simp
  ·simp at h
 ·rfl
theorem ref03_Of_eq {n : Nat} (hn : n ≤ 4096) (s : Sl Int) (hs : okS 1 s) (hl : s.l.length ≤ 9223372036854775807) : ∃ q, ref03_Of (n : Int) s = some q ∧ ((q.length : Nat) : Int) = ((n : Int) + 63) / 64 ∧ u64s q ∧ ∀ i, hasB q i = (decide (i < n) && decide ((i : Int) ∈ s.l)) := by
 have hwd := ref03_words_eq (n := (n : Int)) ⟨by omega, by omega⟩
 have hlo : lenOk (((n : Int) + 63) / 64) = some () := by unfold lenOk bound; rw [if_pos ⟨by omega, by omega⟩]
 unfold ref03_Of ref03_New
 simp only [hwd, hlo, Option.bind_some]
 obtain ⟨q, q1, w, rfl, w1, w2, w3⟩ := loop_up (b := ref03_Of_b1 (n : Int) s) s.l.length (fun j st => ∃ w : List Int, st = (w, (j : Int)) ∧ ((w.length : Nat) : Int) = ((n : Int) + 63) / 64 ∧ u64s w ∧ ∀ i, hasB w i = (decide (i < n) && decide ((i : Int) ∈ s.l.take j))) (fun q => ∃ w : List Int, q = .inl w ∧ ((w.length : Nat) : Int) = ((n : Int) + 63) / 64 ∧ u64s w ∧ ∀ i, hasB w i = (decide (i < n) && decide ((i : Int) ∈ s.l)))
  (by
   rintro j _ hj ⟨w, rfl, g1, g2, g3⟩
   have ej := at_get hs hj
   have htk : s.l.take (j + 1) = s.l.take j ++ [s.l[j]] := by rw [List.take_succ_eq_append_getElem hj]
   rw [htk]
   generalize s.l[j] = x at ej
   simp only [ref03_Of_b1, ej, Option.bind_some, w_succ hj hl]
   rw [if_pos (by omega)]
   have same : ¬ (0 ≤ x ∧ x < (n : Int)) → ∀ i, hasB w i = (decide (i < n) && decide ((i : Int) ∈ s.l.take j ++ [x])) := fun h i => by
    rw [g3 i]
    by_cases hi : i < n
    ·rw [decide_eq_true hi]
     simp only [Bool.true_and]
     congr 1
     simp only [List.mem_append, List.mem_cons, List.not_mem_nil, or_false, eq_iff_iff]
     exact ⟨.inl, fun h1 => h1.resolve_right fun e => h (by omega)⟩
    ·rw [decide_eq_false hi]; rfl
   by_cases c1 : x ≥ 0
   ·rw [if_pos c1]
    by_cases c2 : x < (n : Int)
    ·rw [if_pos c2, if_pos (by omega)]
     obtain ⟨p, rfl⟩ := Int.eq_ofNat_of_zero_le c1
     obtain ⟨v, v1, v2, v3, v4⟩ := ref03_Put_eq w p g2 (by omega) (by omega) (by omega)
     rw [v1]
     simp only [Option.bind_some]
     rw [neL_some (by intro h; rw [h] at v2; simp at v2; omega)]
     refine .inl ⟨_, rfl, v, rfl, by rw [v2]; exact g1, v3, fun i => ?_⟩
     rw [v4 i, g3 i]
     by_cases hi : i < n
     ·rw [decide_eq_true hi]
      simp only [Bool.true_and, List.mem_append, List.mem_cons, List.not_mem_nil, or_false, Bool.decide_or]
      congr 1
      by_cases e : i = p
      ·subst e; simp
      ·rw [decide_eq_false e, decide_eq_false (by omega)]
     ·rw [decide_eq_false hi, decide_eq_false (show ¬ i = p by omega)]; rfl
    ·rw [if_neg c2]
     exact .inl ⟨_, rfl, w, rfl, g1, g2, same (by omega)⟩
   ·rw [if_neg c1]
    exact .inl ⟨_, rfl, w, rfl, g1, g2, same (by omega)⟩)
  (by
   rintro _ ⟨w, rfl, g1, g2, g3⟩
   rw [List.take_length] at g3
   refine ⟨.inl w, ?_, w, rfl, g1, g2, g3⟩
   simp only [ref03_Of_b1]
   rw [if_neg (by omega)]) 0 (Nat.zero_le _) (List.replicate (((n : Int) + 63) / 64).toNat 0, 0) ⟨_, rfl, by simp; omega, fun x hx => by rw [List.eq_of_mem_replicate hx]; unfold u64r; omega, fun i => by rw [has_zero]; simp⟩
 exact ⟨w, by rw [q1]; rfl, w1, w2, w3⟩
theorem bit_of_ne {x : Nat} (h : x ≠ 0) : ∃ i, x.testBit i = true := by
 by_cases hh : ∃ i, x.testBit i = true
 ·exact hh
 ·refine absurd (Nat.eq_of_testBit_eq (y := 0) fun i => ?_) h
  rw [Nat.zero_testBit]
  cases hb : x.testBit i with
  | false => rfl
  | true => exact absurd ⟨i, hb⟩ hh
theorem shr_nat {w k : Nat} (hw : w < 18446744073709551616) (hk : k < 64) : shr1 .u64 (w : Int) (IntKind.u64.wrap ((k : Nat) : Int)) = some ((w / 2 ^ k : Nat) : Int) := by
 have e : IntKind.u64.wrap ((k : Nat) : Int) = ((k : Nat) : Int) := by rw [wrap_u64]; omega
 rw [e]
 unfold shr1 shrI
 rw [if_pos (by omega)]
 have hmin : min (((k : Nat) : Int)).toNat IntKind.u64.bits = k := by
  have : IntKind.u64.bits = 64 := rfl
  omega
 rw [hmin]
 have : (2 : Int) ^ k = ((2 ^ k : Nat) : Int) := by simp
 rw [this, Int.fdiv_eq_ediv_of_nonneg _ (Int.natCast_nonneg _)]; rfl
theorem bit_lt {w k : Nat} (hw : w < 18446744073709551616) (h : w.testBit k = true) : k < 64 := by
 by_cases hk : k < 64
 ·exact hk
 ·have : w < 2 ^ k := Nat.lt_of_lt_of_le (show w < 2 ^ 64 by omega) (Nat.pow_le_pow_right (by decide) (by omega))
  rw [Nat.testBit_lt_two_pow this] at h; simp at h
theorem TZ_eq {x : Nat} (h0 : x ≠ 0) (h : x < 18446744073709551616) : ∃ k : Nat, TZ (x : Int) = some (k : Int) ∧ k < 64 := by
 unfold TZ
 rw [if_pos (by omega)]
 exact ⟨_, rfl, by simpa using (Lib.lowest_bit 64 x h0 h).2⟩
theorem next_in {n6 j : Int} {w : Nat} (hw : w < 18446744073709551616) (h0 : 0 ≤ n6 ∧ n6 ≤ 100) (h1 : 0 ≤ j ∧ j ≤ 100) : (w = 0 → loopO (flags_Next_b2 n6 j w) () = some (.inr (.inl ()))) ∧ (w ≠ 0 → ∃ z, 0 ≤ z ∧ loopO (flags_Next_b2 n6 j w) () = some (.inl z)) := by
 constructor
 ·intro h
  exact loopO_done (by unfold flags_Next_b2; rw [if_neg (by omega)])
 ·intro h
  obtain ⟨k, hk, hlt⟩ := TZ_eq h hw
  refine ⟨_, ?_, loopO_done (by unfold flags_Next_b2; rw [if_pos (by omega), hk]; rfl)⟩
  rw [wrap64 (n := n6 + 1) (by omega) (by omega), wrap64 (n := (n6 + 1) * 64) (by omega) (by omega), wrap64 (n := j * 64) (by omega) (by omega), wrap64 (n := j * 64 + (k : Int)) (by omega) (by omega), wrap64 (by omega) (by omega)]
  omega
theorem flags_Next_neg (s : Sl Int) (n : Nat) (hok : okS 1 s) (hu : u64s s.l) (hl : s.l.length ≤ 64) (hn : n ≤ 4096) : ∃ z, flags_Next s (n : Int) = some z ∧ (z < 0 ↔ ∀ p, n ≤ p → hasB s.l p = false) := by
 unfold flags_Next flags_within
 have hm : maxI (n : Int) 0 = n := by unfold maxI; rw [if_neg (by omega)]
 rw [hm]
 simp only [div64n (show n < 1000000 by omega), Option.bind_some, mod64n]
 rw [if_pos (by omega)]
 by_cases h : n / 64 < s.l.length
 ·rw [if_pos (by omega)]
  simp only [Option.bind_some, if_true, at_get hok h]
  have hw := hu _ (List.getElem_mem h)
  have hg : s.l[n / 64]? = some s.l[n / 64] := List.getElem?_eq_getElem h
  obtain ⟨w, hw2⟩ := Int.eq_ofNat_of_zero_le hw.1
  rw [hw2] at hw hg ⊢
  have hwlt : w < 18446744073709551616 := by have := hw.2; omega
  rw [shr_nat hwlt (Nat.mod_lt _ (by decide))]
  simp only [Option.bind_some]
  have hle : w / 2 ^ (n % 64) ≤ w := Nat.div_le_self _ _
  have hdv : ∀ i, (w / 2 ^ (n % 64)).testBit i = w.testBit (i + n % 64) := fun i => by rw [Nat.testBit_div_two_pow]
  by_cases h0 : w / 2 ^ (n % 64) = 0
  ·rw [if_neg (by omega)]
   have hsame : ∀ p, p / 64 = n / 64 → n ≤ p → hasB s.l p = false := fun p hp hnp => by
    rw [hasB_word hp rfl hg]
    have := hdv (p % 64 - n % 64)
    rw [h0, Nat.zero_testBit, show p % 64 - n % 64 + n % 64 = p % 64 by omega] at this
    simpa using this.symm
   have hcut : cutS 1 s (IntKind.i64.wrap ((n / 64 : Nat) + 1)) ((s.l.length : Nat) : Int) = some ⟨s.nn, s.sz, s.l.drop (n / 64 + 1)⟩ := by
    rw [w_succ h (by omega)]
    unfold cutS
    rw [if_pos ⟨by omega, by omega, by omega, .inl (hok.resolve_left (by intro e; rw [e] at h; simp at h))⟩]
    simp only [Int.toNat_natCast]
    rw [List.take_of_length_le (by simp)]
   rw [hcut]
   simp only [Option.bind_some]
   have hdm : ∀ x ∈ s.l.drop (n / 64 + 1), u64r x := fun x hx => hu x (List.mem_of_mem_drop hx)
   have hdl : (s.l.drop (n / 64 + 1)).length + (n / 64 + 1) = s.l.length := by simp; omega
   have hdg : ∀ i, (s.l.drop (n / 64 + 1))[i]? = s.l[n / 64 + 1 + i]? := fun i => List.getElem?_drop
   generalize s.l.drop (n / 64 + 1) = d at hdm hdl hdg
   have hget : ∀ i (hi : i < d.length) (h2 : n / 64 + 1 + i < s.l.length), d[i] = s.l[n / 64 + 1 + i] := fun i hi h2 => by
    have := hdg i
    rw [List.getElem?_eq_getElem hi, List.getElem?_eq_getElem h2] at this
    exact Option.some.inj this
   obtain ⟨q, q1, q2⟩ := loop_up (b := flags_Next_b1 ((n / 64 : Nat) : Int) ⟨s.nn, s.sz, d⟩) d.length (fun j a => a = (j : Int) ∧ ∀ i (h : i < d.length), i < j → d[i] = 0) (fun q => (∃ z, q = .inl z ∧ 0 ≤ z ∧ ∃ i, ∃ h : i < d.length, d[i] ≠ 0) ∨ (q = .inr (.inl ()) ∧ ∀ i (h : i < d.length), d[i] = 0))
    (by
     rintro j _ hj ⟨rfl, ha⟩
     have hok' : okS 1 (⟨s.nn, s.sz, d⟩ : Sl Int) := .inr (hok.resolve_left (by intro e; rw [e] at h; simp at h))
     have hjl : j < 64 := by omega
     have hv := hdm _ (List.getElem_mem hj)
     simp only [flags_Next_b1, at_get hok' hj, Option.bind_some]
     rw [if_pos (show (j : Int) < ((d.length : Nat) : Int) by omega)]
     obtain ⟨v, hv2⟩ := Int.eq_ofNat_of_zero_le hv.1
     have hvlt : v < 18446744073709551616 := by have := hv.2; omega
     have hin := next_in (n6 := ((n / 64 : Nat) : Int)) (j := (j : Int)) hvlt ⟨by omega, by omega⟩ ⟨by omega, by omega⟩
     rw [hv2]
     by_cases v0 : v = 0
     ·rw [hin.1 v0]
      refine .inl ⟨_, rfl, by rw [w_succ hj (by omega)], fun i hi hij => ?_⟩
      by_cases e : i = j
      ·subst e; omega
      ·exact ha i hi (by omega)
     ·obtain ⟨z, z0, hz⟩ := hin.2 v0
      rw [hz]
      exact .inr ⟨_, rfl, .inl ⟨z, rfl, z0, j, hj, by omega⟩⟩)
    (by
     rintro _ ⟨rfl, ha⟩
     refine ⟨_, if_neg (show ¬ ((d.length : Nat) : Int) < ((d.length : Nat) : Int) by omega), .inr ⟨rfl, fun i hi => ha i hi hi⟩⟩) 0 (Nat.zero_le _) 0 ⟨rfl, fun i hi h0 => absurd h0 (by omega)⟩
   rw [q1]
   rcases q2 with ⟨z, rfl, z0, i, hi, hne⟩ | ⟨rfl, hz⟩
   ·refine ⟨z, rfl, ?_⟩
    constructor
    ·intro hh; omega
    ·intro hh
     exfalso
     have hi' : n / 64 + 1 + i < s.l.length := by omega
     rw [hget i hi hi'] at hne
     have hv := hu _ (List.getElem_mem hi')
     obtain ⟨v, hv2⟩ := Int.eq_ofNat_of_zero_le hv.1
     rw [hv2] at hne hv
     obtain ⟨k, hk⟩ := bit_of_ne (x := v) (by omega)
     have hk2 := bit_lt (by have := hv.2; omega) hk
     have := hh (64 * (n / 64 + 1 + i) + k) (by omega)
     rw [hasB_word (i := n / 64 + 1 + i) (k := k) (w := (v : Int)) (by omega) (by omega) (by rw [List.getElem?_eq_getElem hi', hv2])] at this
     simp only [Int.toNat_natCast] at this
     rw [hk] at this; simp at this
   ·refine ⟨-1, rfl, ?_⟩
    refine ⟨fun _ p hp => ?_, fun _ => by decide⟩
    by_cases e : p / 64 = n / 64
    ·exact hsame p e hp
    ·by_cases hlen : p / 64 < s.l.length
     ·have hd : p / 64 - (n / 64 + 1) < d.length := by omega
      have := hz _ hd
      rw [hget _ hd (by omega)] at this
      rw [hasB_word (w := 0) rfl rfl (by rw [List.getElem?_eq_getElem hlen, ← this]; congr 2; omega)]
      simp
     ·exact hasB_out (by omega)
  ·rw [if_pos (by omega)]
   obtain ⟨k, hk, hk2⟩ := TZ_eq h0 (by omega)
   rw [hk]
   refine ⟨_, rfl, ?_⟩
   rw [wrap64 (by omega) (by omega)]
   constructor
   ·intro hh; omega
   ·intro hh
    exfalso
    obtain ⟨i, hi⟩ := bit_of_ne h0
    rw [hdv] at hi
    have := bit_lt hwlt hi
    have h2 := hh (64 * (n / 64) + (i + n % 64)) (by omega)
    rw [hasB_word (i := n / 64) (k := i + n % 64) (by omega) (by omega) hg] at h2
    simp only [Int.toNat_natCast] at h2
    rw [hi] at h2; simp at h2
 ·rw [if_neg (by omega)]
  simp only [Option.bind_some, Bool.false_eq_true, if_false]
  refine ⟨-1, rfl, ?_⟩
  exact ⟨fun _ p hp => hasB_out (by omega), fun _ => by decide⟩
theorem flags_words_eq {n : Int} (h : 0 ≤ n ∧ n ≤ 4096) : flags_words n = some ((n + 63) / 64) := by
 unfold flags_words
 have e1 : maxI n 0 = n := by unfold maxI; rw [if_neg (by omega)]
 have e2 : minI n 4096 = n := by unfold minI; rw [if_neg (by omega)]
 rw [e1, e2, wrap64 (by omega) (by omega)]
 unfold divO
 rw [if_pos (by decide), Int.tdiv_eq_ediv_of_nonneg (by omega), wrap64 (by omega) (by omega)]; rfl
def placesL (ws : List Int) : List Int := ((List.range (64 * ws.length)).filter (hasB ws)).map fun p : Nat => (p : Int)
def sizeF (n : Int) : Bool := decide (0 ≤ n) && decide (n ≤ 4096)
def rightF (ws : List Int) (n : Int) : Bool := sizeF n && (decide ((ws.length : Int) = (n + 63) / 64) && (placesL ws).all fun p => decide (p < n))
theorem places_mem {ws : List Int} {p : Int} : p ∈ placesL ws ↔ 0 ≤ p ∧ hasB ws p.toNat = true := by
 unfold placesL
 simp only [List.mem_map, List.mem_filter, List.mem_range]
 constructor
 ·rintro ⟨q, ⟨h1, h2⟩, rfl⟩; exact ⟨by omega, by simpa using h2⟩
 ·rintro ⟨h1, h2⟩
  refine ⟨p.toNat, ⟨?_, h2⟩, by omega⟩
  by_cases hh : p.toNat < 64 * ws.length
  ·exact hh
  ·rw [hasB_out (by omega)] at h2; simp at h2
theorem flags_Right_eq (s : Sl Int) (n : Int) (hok : okS 1 s) (hu : u64s s.l) (hl : s.l.length ≤ 9223372036854775807) : flags_Right s n = some (rightF s.l n) := by
 unfold flags_Right rightF sizeF
 by_cases h1 : 0 ≤ n
 ·rw [if_pos (show n ≥ 0 from h1), decide_eq_true h1]
  by_cases h2 : n ≤ 4096
  ·rw [if_pos h2, decide_eq_true h2, flags_words_eq ⟨h1, h2⟩]
   simp only [Option.bind_some, Bool.and_self, Bool.true_and]
   by_cases h3 : ((s.l.length : Nat) : Int) = (n + 63) / 64
   ·rw [if_pos h3, decide_eq_true h3]
    obtain ⟨k, rfl⟩ := Int.eq_ofNat_of_zero_le h1
    obtain ⟨z, z1, z2⟩ := flags_Next_neg s k hok hu (by omega) (by omega)
    rw [z1]
    simp only [Option.bind_some, Bool.true_and]
    have key : (placesL s.l).all (fun p => decide (p < (k : Int))) = true ↔ z < 0 := by
     rw [z2, List.all_eq_true]
     constructor
     ·intro h p hp
      cases hb : hasB s.l p with
      | false => rfl
      | true => have := h (p : Int) (places_mem.2 ⟨by omega, by simpa using hb⟩); simp at this; omega
     ·intro h p hp
      obtain ⟨p0, p1⟩ := places_mem.1 hp
      rw [decide_eq_true_eq]
      by_cases hh : p < (k : Int)
      ·exact hh
      ·rw [h p.toNat (by omega)] at p1; simp at p1
    by_cases hz : z < 0
    ·rw [if_pos hz, key.2 hz]
    ·rw [if_neg hz, Bool.eq_false_iff.2 fun e => hz (key.1 e)]
   ·rw [if_neg h3, decide_eq_false h3]; simp
  ·rw [if_neg h2, decide_eq_false h2]; simp
 ·rw [if_neg (show ¬ n ≥ 0 from h1), decide_eq_false h1]; simp
def rightD (d : Int × Sl Int × Sl Int) : Bool := rightF d.2.1.l d.1 && (decide ((d.2.2.l.length : Int) = d.1) && (List.range d.2.2.l.length).all fun i => decide (d.2.2.l.getD i 0 = 0) || hasB d.2.1.l i)
theorem getD_lt {l : List Int} {i : Nat} (h : i < l.length) : l.getD i 0 = l[i] := by rw [List.getD_eq_getElem?_getD, List.getElem?_eq_getElem h]; rfl
theorem all_range {n : Nat} {f : Nat → Bool} : (List.range n).all f = true ↔ ∀ i, i < n → f i = true := by
 rw [List.all_eq_true]
 exact ⟨fun h i hi => h i (by simpa using hi), fun h i hi => h i (by simpa using hi)⟩
theorem all_false {n : Nat} {f : Nat → Bool} {i : Nat} (hi : i < n) (h : f i = false) : (List.range n).all f = false := by
 rw [Bool.eq_false_iff]; intro e; have := all_range.1 e i hi; rw [h] at this; simp at this
structure OkD (d : Int × Sl Int × Sl Int) : Prop where
 has : okS 1 d.2.1
 bits : u64s d.2.1.l
 vals : okS 1 d.2.2
 v64 : ∀ x ∈ d.2.2.l, i64r x
 hl : d.2.1.l.length ≤ 9223372036854775807
 vl : d.2.2.l.length ≤ 9223372036854775807
theorem devec_Right_eq {d : Int × Sl Int × Sl Int} (h : OkD d) : devec_Right d = some (rightD d) := by
 obtain ⟨n, s, t⟩ := d
 obtain ⟨h1, h2, h3, h4, h5, h6⟩ := h
 simp only at h1 h2 h3 h4 h5 h6
 unfold devec_Right rightD
 simp only [flags_Right_eq s n h1 h2 h5, Option.bind_some]
 cases hr : rightF s.l n with
 | false => simp
 | true =>
  simp only [if_true, Bool.true_and]
  by_cases hn : ((t.l.length : Nat) : Int) = n
  ·rw [if_neg (fun h => h hn), decide_eq_true hn]
   simp only [Bool.true_and]
   have hb : n ≤ 4096 := by unfold rightF sizeF at hr; simp only [Bool.and_eq_true, decide_eq_true_eq] at hr; exact hr.1.2
   obtain ⟨q, q1, q2⟩ := loop_up (b := devec_Right_b1 s t) t.l.length (fun j a => a = (j : Int) ∧ ∀ i, i < j → (decide (t.l.getD i 0 = 0) || hasB s.l i) = true) (fun q => ((List.range t.l.length).all (fun i => decide (t.l.getD i 0 = 0) || hasB s.l i) = true ∧ q = .inl ()) ∨ ((List.range t.l.length).all (fun i => decide (t.l.getD i 0 = 0) || hasB s.l i) = false ∧ q = .inr false))
    (by
     rintro j _ hj ⟨rfl, ha⟩
     have hh := flags_Has_eq s j h1 h2 (by omega)
     have hd := getD_lt hj
     simp only [devec_Right_b1, at_get h3 hj, Option.bind_some, hh, w_succ hj (by omega)]
     rw [if_pos (by omega)]
     have next : (decide (t.l.getD j 0 = 0) || hasB s.l j) = true → ∀ i, i < j + 1 → (decide (t.l.getD i 0 = 0) || hasB s.l i) = true := fun h i hi => by
      by_cases e : i = j
      ·rw [e]; exact h
      ·exact ha i (by omega)
     by_cases h0 : t.l[j] = 0
     ·rw [if_neg (fun h => h h0)]
      exact .inl ⟨_, rfl, rfl, next (by rw [hd, decide_eq_true h0]; rfl)⟩
     ·rw [if_pos h0]
      cases hb : hasB s.l j with
      | true => exact .inl ⟨_, rfl, rfl, next (by rw [hb]; simp)⟩
      | false => exact .inr ⟨_, rfl, .inr ⟨all_false hj (by rw [hd, hb, decide_eq_false h0]; rfl), rfl⟩⟩)
    (by
     rintro _ ⟨rfl, ha⟩
     exact ⟨_, if_neg (by omega), .inl ⟨all_range.2 ha, rfl⟩⟩) 0 (Nat.zero_le _) 0 ⟨rfl, fun i hi => absurd hi (by omega)⟩
   rw [q1]
   rcases q2 with ⟨e, rfl⟩ | ⟨e, rfl⟩ <;> rw [e] <;> rfl
  ·rw [if_pos hn, decide_eq_false hn]; simp
theorem rightD_spec {d : Int × Sl Int × Sl Int} (h : rightD d = true) : 0 ≤ d.1 ∧ d.1 ≤ 4096 ∧ (d.2.1.l.length : Int) = (d.1 + 63) / 64 ∧ (∀ p ∈ placesL d.2.1.l, 0 ≤ p ∧ p < d.1) ∧ (d.2.2.l.length : Int) = d.1 := by
 unfold rightD rightF sizeF at h
 simp only [Bool.and_eq_true, decide_eq_true_eq, List.all_eq_true] at h
 obtain ⟨⟨⟨a, b⟩, c, e⟩, f, g⟩ := h
 exact ⟨a, b, c, fun p hp => ⟨(places_mem.1 hp).1, e p hp⟩, f⟩
theorem asc_map {n : Int} (f : Int → Int) : ∀ {l : List Int} {a : Int}, l.Pairwise (· < ·) → (∀ p ∈ l, a < p ∧ p < n) → asc a n (l.map fun p => (p, f p)) = true
 | [], a, _, _ => rfl
 | x :: l, a, h1, h2 => by
  rw [List.pairwise_cons] at h1
  have hx := h2 x List.mem_cons_self
  simp only [List.map_cons, asc, Bool.and_eq_true, decide_eq_true_eq]
  exact ⟨hx, asc_map f h1.2 fun p hp => ⟨h1.1 p hp, (h2 p (List.mem_cons_of_mem _ hp)).2⟩⟩
def denB (d : Int × Sl Int × Sl Int) (k : Int) : Option Int := if 0 ≤ k ∧ hasB d.2.1.l k.toNat = true then some (d.2.2.l.getD k.toNat 0) else none
abbrev Mx := Int × Int × Sl Int × Sl Int × Sl Int
def ascI (a n : Int) (l : List Int) : Bool := asc a n (l.map fun k => (k, 0))
theorem ascI_cons (a n x : Int) (l : List Int) : ascI a n (x :: l) = (decide (a < x) && decide (x < n) && ascI x n l) := rfl
theorem ascI_iff {n : Int} {l : List Int} : ascI (-1) n l = true ↔ ∀ j (h : j < l.length), 0 ≤ l[j] ∧ l[j] < n ∧ (j ≠ 0 → l[j - 1]'(by omega) < l[j]) := by
 unfold ascI
 rw [asc_iff']
 constructor
 ·intro h j hj
  have := h j (by simpa using hj)
  simpa using this
 ·intro h j hj
  have := h j (by simpa using hj)
  simpa using this
theorem csr_size_eq (n : Int) : csr_size n = some (sizeF n) := by
 unfold csr_size sizeF
 by_cases h1 : n ≥ 0
 ·rw [if_pos h1]
  by_cases h2 : n ≤ 4096
  ·rw [if_pos h2, decide_eq_true (show 0 ≤ n from h1), decide_eq_true h2]; rfl
  ·rw [if_neg h2, decide_eq_false h2]; simp
 ·rw [if_neg h1, decide_eq_false (show ¬ 0 ≤ n from h1)]; rfl
theorem csr_rises_eq (s : Sl Int) (n : Int) (hok : okS 1 s) (hl : s.l.length ≤ 9223372036854775807) : csr_rises s n = some (ascI (-1) n s.l) := by
 unfold csr_rises
 obtain ⟨r, h1, h2⟩ := loop_up (b := csr_rises_b1 s n) s.l.length (fun j a => ∃ la, a = (la, (j : Int)) ∧ ascI (-1) n s.l = ascI la n (s.l.drop j)) (fun r => (ascI (-1) n s.l = true ∧ r = .inl ()) ∨ (ascI (-1) n s.l = false ∧ r = .inr false))
  (by
   rintro j _ hj ⟨la, rfl, ha⟩
   rw [List.drop_eq_getElem_cons hj, ascI_cons] at ha
   simp only [csr_rises_b1, at_get hok hj, Option.bind_some, w_succ hj hl]
   rw [if_pos (by omega)]
   by_cases c1 : s.l[j] ≤ la
   ·refine .inr ⟨_, if_pos c1, .inr ⟨?_, rfl⟩⟩
    rw [ha, decide_eq_false (by omega)]; rfl
   ·rw [if_neg c1]
    by_cases c2 : s.l[j] ≥ n
    ·refine .inr ⟨_, if_pos c2, .inr ⟨?_, rfl⟩⟩
     rw [ha, decide_eq_false (p := s.l[j] < n) (by omega)]; simp
    ·refine .inl ⟨_, if_neg c2, _, rfl, ?_⟩
     rw [ha, decide_eq_true (by omega), decide_eq_true (by omega)]; rfl)
  (by
   rintro _ ⟨la, rfl, ha⟩
   refine ⟨_, if_neg (by omega), .inl ⟨?_, rfl⟩⟩
   rw [ha, List.drop_length]; rfl) 0 (Nat.zero_le _) (-1, 0) ⟨-1, rfl, rfl⟩
 rw [h1]
 rcases h2 with ⟨h3, rfl⟩ | ⟨h3, rfl⟩ <;> rw [h3] <;> rfl
def cutL {α : Type} (l : List α) (f t : Int) : List α := (l.drop f.toNat).take (t.toNat - f.toNat)
theorem cutL_len {α : Type} {l : List α} {f t : Int} (h : 0 ≤ f ∧ f ≤ t ∧ t ≤ l.length) : (cutL l f t).length = t.toNat - f.toNat := by
 unfold cutL; simp; omega
theorem cutL_get {α : Type} {l : List α} {f t : Int} (h : 0 ≤ f ∧ f ≤ t ∧ t ≤ l.length) {j : Nat} (hj : j < t.toNat - f.toNat) : (cutL l f t)[j]'(by rw [cutL_len h]; exact hj) = l[f.toNat + j]'(by omega) := by
 unfold cutL; simp
def rowOk (c : Int) (st co : List Int) (i : Nat) : Bool := decide (0 ≤ st.getD i 0) && (decide (st.getD i 0 ≤ st.getD (i + 1) 0) && (decide (st.getD (i + 1) 0 ≤ co.length) && ascI (-1) c (cutL co (st.getD i 0) (st.getD (i + 1) 0))))
def rightM (m : Mx) : Bool := sizeF m.1 && (sizeF m.2.1 && (decide ((m.2.2.1.l.length : Int) = m.1 + 1) && (decide (m.2.2.1.l.getD 0 0 = 0) && (decide (m.2.2.2.1.l.length = m.2.2.2.2.l.length) && (decide (m.2.2.2.1.l.length ≤ 65536) && (decide (m.2.2.1.l.getD m.1.toNat 0 = m.2.2.2.1.l.length) && (List.range m.1.toNat).all (rowOk m.2.1 m.2.2.1.l m.2.2.2.1.l)))))))
structure OkM (m : Mx) : Prop where
 st : okS 1 m.2.2.1
 co : okS 1 m.2.2.2.1
 va : okS 1 m.2.2.2.2
 v64 : ∀ x ∈ m.2.2.2.2.l, i64r x
 sl : m.2.2.1.l.length ≤ 9223372036854775807
 cl : m.2.2.2.1.l.length ≤ 9223372036854775807
 vl : m.2.2.2.2.l.length ≤ 9223372036854775807
theorem rowOk_false {n : Nat} {c : Int} {st co : List Int} {i : Nat} (hi : i < n) (h : rowOk c st co i = false) : (List.range n).all (rowOk c st co) = false := all_false hi h
theorem sizeF_iff {n : Int} : sizeF n = true ↔ 0 ≤ n ∧ n ≤ 4096 := by unfold sizeF; simp
theorem rows_csr {n : Nat} {c : Int} {s t : Sl Int} (hs : okS 1 s) (ht : okS 1 t) (hn : n ≤ 4096) (hl : s.l.length = n + 1) (h0 : s.l.getD 0 0 = 0) (tl : t.l.length ≤ 65536) : ∃ q, loopO (csr_Right_b1 (n : Int) c s t) 0 = some q ∧ (((List.range n).all (rowOk c s.l t.l) = true ∧ q = .inl ()) ∨ ((List.range n).all (rowOk c s.l t.l) = false ∧ q = .inr false)) := by
 refine loop_up (b := csr_Right_b1 (n : Int) c s t) n (fun j a => a = (j : Int) ∧ 0 ≤ s.l.getD j 0 ∧ ∀ i, i < j → rowOk c s.l t.l i = true) _ ?_ ?_ 0 (Nat.zero_le _) 0 ⟨rfl, by omega, fun i hi => absurd hi (by omega)⟩
 ·rintro j _ hj ⟨rfl, hp, ha⟩
  have e1 := at_get hs (j := j) (by omega)
  have e2 := at_get hs (j := j + 1) (by omega)
  rw [← getD_lt] at e1 e2
  simp only [csr_Right_b1, e1, Option.bind_some, w_succ hj (by omega)]
  rw [if_pos (by omega), e2]
  simp only [Option.bind_some]
  by_cases c1 : s.l.getD (j + 1) 0 < s.l.getD j 0
  ·rw [if_pos c1]
   exact .inr ⟨_, rfl, .inr ⟨rowOk_false hj (by unfold rowOk; rw [decide_eq_false (p := s.l.getD j 0 ≤ s.l.getD (j + 1) 0) (by omega)]; simp), rfl⟩⟩
  rw [if_neg c1]
  by_cases c2 : s.l.getD (j + 1) 0 > ((t.l.length : Nat) : Int)
  ·rw [if_pos c2]
   exact .inr ⟨_, rfl, .inr ⟨rowOk_false hj (by unfold rowOk; rw [decide_eq_false (p := s.l.getD (j + 1) 0 ≤ (t.l.length : Int)) (by omega)]; simp), rfl⟩⟩
  rw [if_neg c2]
  have hc : cutS 1 t (s.l.getD j 0) (s.l.getD (j + 1) 0) = some ⟨t.nn, t.sz, cutL t.l (s.l.getD j 0) (s.l.getD (j + 1) 0)⟩ := by
   unfold cutS
   have hz : t.sz = 1 ∨ s.l.getD j 0 = 0 := by
    rcases ht with h | h
    ·right; rw [h] at c2; simp only [List.length_nil] at c2; omega
    ·exact .inl h
   rw [if_pos ⟨hp, by omega, by omega, hz⟩]; rfl
  rw [hc]
  simp only [Option.bind_some]
  have hcl : (cutL t.l (s.l.getD j 0) (s.l.getD (j + 1) 0)).length ≤ 65536 := by rw [cutL_len ⟨hp, by omega, by omega⟩]; omega
  have hok : okS 1 (⟨t.nn, t.sz, cutL t.l (s.l.getD j 0) (s.l.getD (j + 1) 0)⟩ : Sl Int) := by
   rcases ht with h | h
   ·left; unfold cutL; simp [h]
   ·exact .inr h
  rw [csr_rises_eq _ c hok (show (cutL t.l (s.l.getD j 0) (s.l.getD (j + 1) 0)).length ≤ _ by omega)]
  simp only [Option.bind_some]
  have hr : rowOk c s.l t.l j = ascI (-1) c (cutL t.l (s.l.getD j 0) (s.l.getD (j + 1) 0)) := by
   unfold rowOk
   rw [decide_eq_true hp, decide_eq_true (p := s.l.getD j 0 ≤ s.l.getD (j + 1) 0) (by omega), decide_eq_true (p := s.l.getD (j + 1) 0 ≤ (t.l.length : Int)) (by omega)]
   simp
  cases hb : ascI (-1) c (cutL t.l (s.l.getD j 0) (s.l.getD (j + 1) 0)) with
  | true =>
   refine .inl ⟨_, rfl, rfl, by omega, fun i hi => ?_⟩
   by_cases e : i = j
   ·rw [e, hr, hb]
   ·exact ha i (by omega)
  | false => exact .inr ⟨_, rfl, .inr ⟨rowOk_false hj (by rw [hr, hb]), rfl⟩⟩
 ·rintro _ ⟨rfl, hp, ha⟩
  exact ⟨_, if_neg (by omega), .inl ⟨all_range.2 ha, rfl⟩⟩
theorem csr_Right_eq {m : Mx} (h : OkM m) : csr_Right m = some (rightM m) := by
 obtain ⟨n, c, s, t, v⟩ := m
 obtain ⟨h1, h2, h3, h4, h5, h6, h7⟩ := h
 simp only at h1 h2 h3 h4 h5 h6 h7
 unfold csr_Right rightM
 simp only [csr_size_eq, Option.bind_some]
 cases z1 : sizeF n with
 | false => rfl
 | true =>
  cases z2 : sizeF c with
  | false => rfl
  | true =>
   obtain ⟨a1, a2⟩ := sizeF_iff.1 z1
   simp only [if_true, Bool.true_and]
   rw [wrap64 (n := n + 1) (by omega) (by omega)]
   by_cases g1 : ((s.l.length : Nat) : Int) = n + 1
   ·rw [if_neg (fun h => h g1), decide_eq_true g1]
    have e0 := at_get h1 (j := 0) (by omega)
    rw [← getD_lt] at e0
    have e0' : atS 1 s 0 = some (s.l.getD 0 0) := e0
    rw [e0']
    simp only [Option.bind_some, Bool.true_and]
    by_cases g2 : s.l.getD 0 0 = 0
    ·rw [if_neg (fun h => h g2), decide_eq_true g2]
     simp only [Bool.true_and]
     by_cases g3 : t.l.length = v.l.length
     ·rw [if_neg (fun h => h (by omega)), decide_eq_true g3]
      simp only [Bool.true_and]
      by_cases g4 : t.l.length ≤ 65536
      ·rw [if_neg (by omega), decide_eq_true g4]
       simp only [Bool.true_and]
       obtain ⟨k, rfl⟩ := Int.eq_ofNat_of_zero_le a1
       have en := at_get h1 (j := k) (by omega)
       rw [← getD_lt] at en
       rw [en]
       simp only [Option.bind_some, Int.toNat_natCast]
       by_cases g5 : s.l.getD k 0 = ((t.l.length : Nat) : Int)
       ·rw [if_neg (fun h => h g5), decide_eq_true g5]
        simp only [Bool.true_and]
        obtain ⟨q, q1, q2⟩ := rows_csr (c := c) h1 h2 (by omega) (n := k) (by omega) g2 g4
        rw [q1]
        rcases q2 with ⟨e, rfl⟩ | ⟨e, rfl⟩ <;> rw [e] <;> rfl
       ·rw [if_pos g5, decide_eq_false g5]; rfl
      ·rw [if_pos (by omega), decide_eq_false g4]; rfl
     ·rw [if_pos (fun h => g3 (by omega)), decide_eq_false g3]; rfl
    ·rw [if_pos g2, decide_eq_false g2]; rfl
   ·rw [if_pos g1, decide_eq_false g1]; rfl
def sureM (m : Mx) : Mx := if rightM m = true then m else (0, 0, ⟨true, 1, [0]⟩, nilS, nilS)
theorem pull_sure_eq {m : Mx} (h : OkM m) : pull_sure m = some (sureM m) := by
 have hR := csr_Right_eq h
 obtain ⟨n, c, s, t, v⟩ := m
 unfold pull_sure sureM
 simp only [hR, Option.bind_some]
 split <;> rfl
theorem sureM_ok {m : Mx} (h : OkM m) : OkM (sureM m) := by
 unfold sureM
 split
 ·exact h
 ·exact ⟨.inr rfl, ok_nil, ok_nil, fun x hx => by simp [nilS] at hx, by simp, by simp [nilS], by simp [nilS]⟩
theorem sureM_right (m : Mx) : rightM (sureM m) = true := by unfold sureM; split; assumption; rfl
theorem rightM_spec {m : Mx} (h : rightM m = true) : (0 ≤ m.1 ∧ m.1 ≤ 4096) ∧ (0 ≤ m.2.1 ∧ m.2.1 ≤ 4096) ∧ (m.2.2.1.l.length : Int) = m.1 + 1 ∧ m.2.2.2.1.l.length = m.2.2.2.2.l.length ∧ m.2.2.2.1.l.length ≤ 65536 ∧ ∀ i : Nat, (i : Int) < m.1 → 0 ≤ m.2.2.1.l.getD i 0 ∧ m.2.2.1.l.getD i 0 ≤ m.2.2.1.l.getD (i + 1) 0 ∧ m.2.2.1.l.getD (i + 1) 0 ≤ m.2.2.2.1.l.length ∧ ascI (-1) m.2.1 (cutL m.2.2.2.1.l (m.2.2.1.l.getD i 0) (m.2.2.1.l.getD (i + 1) 0)) = true := by
 unfold rightM at h
 simp only [Bool.and_eq_true, decide_eq_true_eq, sizeF_iff] at h
 obtain ⟨h1, h2, h3, h4, h5, h6, h7, h8⟩ := h
 refine ⟨h1, h2, h3, h5, h6, fun i hi => ?_⟩
 have := all_range.1 h8 i (by omega)
 unfold rowOk at this
 simpa only [Bool.and_eq_true, decide_eq_true_eq] using this
abbrev Wd := Int × Int
abbrev Dn := Int × Sl Int × Sl Int
def stepS (r : Int) (h : Int → Option Int) (acc : Option Wd) (x : Int × Int) : Option Wd :=
 match h x.1 with
 | none => acc
 | some y => some (match acc with | none => ringMul r x.2 y | some a => ringAdd r a (ringMul r x.2 y))
def rowSum (r : Int) (h : Int → Option Int) : List (Int × Int) → Option Wd → Option Wd
 | [], acc => acc
 | x :: l, acc => rowSum r h l (stepS r h acc x)
def accB : Option Wd → Bool
 | none => false
 | some _ => true
def accW : Option Wd → Wd
 | none => (0, 0)
 | some w => w
theorem row_gen {R : Type} {b : Bool × Int × Int × Int → Option ((Bool × Int × Int × Int) ⊕ ((Bool × Int × Int) ⊕ R))} {r : Int} {h : Int → Option Int} {items : List (Int × Int)} {f : Int}
  (hs : ∀ j acc (hj : j < items.length), b (accB acc, f + (j : Int), accW acc) = some (.inl (accB (stepS r h acc items[j]), f + ((j + 1 : Nat) : Int), accW (stepS r h acc items[j]))))
  (he : ∀ acc, b (accB acc, f + (items.length : Int), accW acc) = some (.inr (.inl (accB acc, accW acc)))) : loopO b (false, f, 0, 0) = some (.inl (accB (rowSum r h items none), accW (rowSum r h items none))) := by
 obtain ⟨q, q1, q2⟩ := loop_up (b := b) items.length (fun j a => ∃ acc, a = (accB acc, f + (j : Int), accW acc) ∧ rowSum r h (items.drop j) acc = rowSum r h items none) (fun q => q = .inl (accB (rowSum r h items none), accW (rowSum r h items none)))
  (by
   rintro j _ hj ⟨acc, rfl, ha⟩
   rw [List.drop_eq_getElem_cons hj] at ha
   exact .inl ⟨_, hs j acc hj, _, rfl, ha⟩)
  (by
   rintro _ ⟨acc, rfl, ha⟩
   rw [List.drop_length] at ha
   refine ⟨_, he acc, ?_⟩
   rw [← ha]; rfl) 0 (Nat.zero_le _) (false, f, 0, 0) ⟨none, by simp [accB, accW], by simp⟩
 rw [q1, q2]
def itemsM (m : Mx) (i : Nat) : List (Int × Int) := (cutL m.2.2.2.1.l (m.2.2.1.l.getD i 0) (m.2.2.1.l.getD (i + 1) 0)).zip (cutL m.2.2.2.2.l (m.2.2.1.l.getD i 0) (m.2.2.1.l.getD (i + 1) 0))
structure RowAt (m : Mx) (i : Nat) (f t : Int) : Prop where
 f1 : atS 1 m.2.2.1 (i : Int) = some f
 t1 : atS 1 m.2.2.1 (IntKind.i64.wrap ((i : Int) + 1)) = some t
 len : ((itemsM m i).length : Int) = t - f
 get : ∀ j (hj : j < (itemsM m i).length), atS 1 m.2.2.2.1 (f + (j : Int)) = some (itemsM m i)[j].1 ∧ atS 1 m.2.2.2.2 (f + (j : Int)) = some (itemsM m i)[j].2 ∧ 0 ≤ (itemsM m i)[j].1 ∧ (itemsM m i)[j].1 < m.2.1 ∧ i64r (itemsM m i)[j].2 ∧ f + (j : Int) < t ∧ IntKind.i64.wrap (f + (j : Int) + 1) = f + ((j + 1 : Nat) : Int)
theorem row_at {m : Mx} (h : OkM m) (hr : rightM m = true) {i : Nat} (hi : (i : Int) < m.1) : ∃ f t, RowAt m i f t := by
 obtain ⟨r1, r2, r3, r4, r5, r6⟩ := rightM_spec hr
 obtain ⟨p1, p2, p3, p4⟩ := r6 i hi
 have e1 := at_get h.st (j := i) (by omega)
 have e2 := at_get h.st (j := i + 1) (by omega)
 rw [← getD_lt] at e1 e2
 have w1 : IntKind.i64.wrap ((i : Int) + 1) = ((i + 1 : Nat) : Int) := w_succ (n := m.1.toNat) (by omega) (by omega)
 refine ⟨m.2.2.1.l.getD i 0, m.2.2.1.l.getD (i + 1) 0, e1, by rw [w1]; exact e2, ?_, fun j hj => ?_⟩
 ·unfold itemsM
  rw [List.length_zip, cutL_len ⟨p1, p2, p3⟩, cutL_len ⟨p1, p2, by omega⟩]; omega
 ·have hlen : j < (m.2.2.1.l.getD (i + 1) 0).toNat - (m.2.2.1.l.getD i 0).toNat := by
   unfold itemsM at hj
   rw [List.length_zip, cutL_len ⟨p1, p2, p3⟩] at hj; omega
  have g1 := cutL_get (l := m.2.2.2.1.l) ⟨p1, p2, p3⟩ hlen
  have g2 := cutL_get (l := m.2.2.2.2.l) (f := m.2.2.1.l.getD i 0) (t := m.2.2.1.l.getD (i + 1) 0) ⟨p1, p2, by omega⟩ hlen
  have hc := ascI_iff.1 p4 j (by rw [cutL_len ⟨p1, p2, p3⟩]; exact hlen)
  have hz : (itemsM m i)[j] = (m.2.2.2.1.l[(m.2.2.1.l.getD i 0).toNat + j]'(by omega), m.2.2.2.2.l[(m.2.2.1.l.getD i 0).toNat + j]'(by omega)) := by
   simp only [itemsM, List.getElem_zip, g1, g2]
  rw [hz]
  simp only
  rw [g1] at hc
  have a1 := at_get h.co (j := (m.2.2.1.l.getD i 0).toNat + j) (by omega)
  have a2 := at_get h.va (j := (m.2.2.1.l.getD i 0).toNat + j) (by omega)
  rw [show (((m.2.2.1.l.getD i 0).toNat + j : Nat) : Int) = m.2.2.1.l.getD i 0 + (j : Int) by omega] at a1 a2
  refine ⟨a1, a2, hc.1, hc.2.1, ?_, by omega, ?_⟩
  ·exact h.v64 _ (List.getElem_mem _)
  ·rw [wrap64 (by omega) (by omega)]; omega
theorem denB_i64 {d : Dn} (h : OkD d) {k y : Int} (hk : denB d k = some y) : i64r y := by
 unfold denB at hk
 split at hk
 ·simp only [Option.some.injEq] at hk
  rw [← hk, List.getD_eq_getElem?_getD]
  cases hg : d.2.2.l[k.toNat]? with
  | none => simp [i64r]
  | some x => exact h.v64 x (List.mem_of_getElem? hg)
 ·simp at hk
theorem row_pull {r : Int} {m : Mx} {d : Dn} (hd : OkD d) (hrd : rightD d = true) (hc : d.1 = m.2.1) {i : Nat} {f t : Int} (R : RowAt m i f t) {b : Bool × Int × Int × Int → Option ((Bool × Int × Int × Int) ⊕ ((Bool × Int × Int) ⊕ Empty))}
  (hb : b = pull_Sums_b5 r d.2.1 d.2.2 m.2.2.1 m.2.2.2.1 m.2.2.2.2 (i : Int) ∨ b = pull_Sums_b6 r d.2.1 d.2.2 m.2.2.1 m.2.2.2.1 m.2.2.2.2 (i : Int)) : loopO b (false, f, 0, 0) = some (.inl (accB (rowSum r (denB d) (itemsM m i) none), accW (rowSum r (denB d) (itemsM m i) none))) := by
 obtain ⟨r1, r2, r3, r4, r5⟩ := rightD_spec hrd
 refine row_gen (fun j acc hj => ?_) fun acc => ?_
 ·obtain ⟨g1, g2, g3, g4, g5, g6, g7⟩ := R.get j hj
  generalize (itemsM m i)[j] = x at *
  have hh := flags_Has_eq d.2.1 x.1.toNat hd.has hd.bits (by omega)
  rw [show ((x.1.toNat : Nat) : Int) = x.1 by omega] at hh
  have hv := at_get (s := d.2.2) hd.vals (j := x.1.toNat) (by omega)
  rw [← getD_lt, show ((x.1.toNat : Nat) : Int) = x.1 by omega] at hv
  have key : ∀ y, denB d x.1 = some y → ring_Mul r x.2 y = some (ringMul r x.2 y) := fun y hy => ring_Mul_eq r g5 (denB_i64 hd hy)
  have hden : denB d x.1 = if hasB d.2.1.l x.1.toNat = true then some (d.2.2.l.getD x.1.toNat 0) else none := by
   unfold denB
   by_cases hx : hasB d.2.1.l x.1.toNat = true
   ·rw [if_pos ⟨g3, hx⟩, if_pos hx]
   ·rw [if_neg (fun e => hx e.2), if_neg hx]
  have go : b (accB acc, f + (j : Int), accW acc) = some (.inl (accB (stepS r (denB d) acc x), f + ((j + 1 : Nat) : Int), accW (stepS r (denB d) acc x))) := by
   unfold stepS
   rcases hb with rfl | rfl
   ·cases hx : hasB d.2.1.l x.1.toNat with
    | false =>
     rw [hx] at hden hh
     rw [show denB d x.1 = none by rw [hden]; simp]
     simp only [pull_Sums_b5, R.t1, g1, g7, hh, Option.bind_some, if_pos g6]
     rfl
    | true =>
     rw [hx] at hden hh
     rw [if_pos rfl] at hden
     have hk := key _ hden
     rw [hden]
     simp only [pull_Sums_b5, R.t1, g1, g2, g7, hh, hv, Option.bind_some, if_pos g6, hk]
     cases acc with
     | none => rfl
     | some w => simp only [accB, accW, if_true, ring_Add_eq, Option.bind_some]
   ·cases hx : hasB d.2.1.l x.1.toNat with
    | false =>
     rw [hx] at hden hh
     rw [show denB d x.1 = none by rw [hden]; simp]
     simp only [pull_Sums_b6, R.t1, g1, g7, hh, Option.bind_some, if_pos g6]
     rfl
    | true =>
     rw [hx] at hden hh
     rw [if_pos rfl] at hden
     have hk := key _ hden
     rw [hden]
     simp only [pull_Sums_b6, R.t1, g1, g2, g7, hh, hv, Option.bind_some, if_pos g6, hk]
     cases acc with
     | none => rfl
     | some w => simp only [accB, accW, if_true, ring_Add_eq, Option.bind_some]
  exact go
 ·have hn : ¬ f + ((itemsM m i).length : Int) < t := by rw [R.len]; omega
  rcases hb with rfl | rfl
  ·simp only [pull_Sums_b5, R.t1, Option.bind_some, if_neg hn]
  ·simp only [pull_Sums_b6, R.t1, Option.bind_some, if_neg hn]
def sumI (r : Int) (h : Int → Option Int) (m : Mx) (ask : Nat → Bool) (i : Nat) : Option (Int × Wd) := if ask i = true then (rowSum r h (itemsM m i) none).map fun w => ((i : Int), w) else none
def sumsL (r : Int) (h : Int → Option Int) (m : Mx) (ask : Nat → Bool) (n : Nat) : List (Int × Wd) := (List.range n).filterMap (sumI r h m ask)
theorem sumsL_succ (r : Int) (h : Int → Option Int) (m : Mx) (ask : Nat → Bool) (n : Nat) : sumsL r h m ask (n + 1) = sumsL r h m ask n ++ (sumI r h m ask n).toList := by
 unfold sumsL
 rw [List.range_succ, List.filterMap_append]
 congr 1
 all_goals (cases hs : sumI r h m ask n <;> simp [hs])
theorem sumsL_len (r : Int) (h : Int → Option Int) (m : Mx) (ask : Nat → Bool) (n : Nat) : (sumsL r h m ask n).length ≤ n := by
 unfold sumsL
 have := List.length_filterMap_le (sumI r h m ask) (List.range n)
 simpa using this
def sureD (d : Dn) : Dn := if rightD d = true then d else (0, nilS, nilS)
theorem sureD_right (d : Dn) : rightD (sureD d) = true := by unfold sureD; split; assumption; rfl
theorem sureD_ok {d : Dn} (h : OkD d) : OkD (sureD d) := by
 unfold sureD
 split
 ·exact h
 ·exact ⟨ok_nil, fun x hx => by simp [nilS] at hx, ok_nil, fun x hx => by simp [nilS] at hx, by simp [nilS], by simp [nilS]⟩
def askB (ws : List Int) (o : Bool) (i : Nat) : Bool := hasB ws i != o
def sumsV (r : Int) (m : Mx) (d : Dn) (ws : List Int) (o : Bool) : Sl (Int × Wd) × Int :=
 if okR r = true then (if (sureD d).1 = (sureM m).2.1 then (mo 3 (sumsL r (denB (sureD d)) (sureM m) (askB ws o) (sureM m).1.toNat), 0) else (nilS, 4)) else (nilS, 8)
theorem app_sum {l : List (Int × Wd)} (hl : l.length ≤ 5000) (x : Int × Wd) : app l [x] = some (l ++ [x]) := app_ok (by simp; unfold bound; omega)
theorem sums_pull {r : Int} {m : Mx} {d : Dn} (hm : OkM m) (hrm : rightM m = true) (hd : OkD d) (hrd : rightD d = true) (hc : d.1 = m.2.1) {s : Sl Int} (hs : okS 1 s) (hu : u64s s.l) (o : Bool) :
  loopO (pull_Sums_b4 r d.2.1 d.2.2 s m.1 m.2.2.1 m.2.2.2.1 m.2.2.2.2) (0, o, []) = some (.inl (sumsL r (denB d) m (askB s.l o) m.1.toNat)) := by
 obtain ⟨r1, r2, r3, r4, r5, r6⟩ := rightM_spec hrm
 obtain ⟨q, q1, q2⟩ := loop_up (b := pull_Sums_b4 r d.2.1 d.2.2 s m.1 m.2.2.1 m.2.2.2.1 m.2.2.2.2) m.1.toNat (fun j a => a = ((j : Int), o, sumsL r (denB d) m (askB s.l o) j)) (fun q => q = .inl (sumsL r (denB d) m (askB s.l o) m.1.toNat))
  (by
   rintro j _ hj rfl
   have hjm : (j : Int) < m.1 := by omega
   obtain ⟨f, t, R⟩ := row_at hm hrm hjm
   have hh := flags_Has_eq s j hs hu (by omega)
   have h5 := row_pull (r := r) hd hrd hc R (.inl rfl)
   have h6 := row_pull (r := r) hd hrd hc R (.inr rfl)
   have hlen := sumsL_len r (denB d) m (askB s.l o) j
   have hap := fun x => app_sum (l := sumsL r (denB d) m (askB s.l o) j) (by omega) x
   simp only [pull_Sums_b4, hh, R.f1, h5, h6, Option.bind_some, Sum.elim_inl, w_succ hj (by omega), if_pos hjm, hap]
   rw [sumsL_succ]
   refine .inl ?_
   have hI : sumI r (denB d) m (askB s.l o) j = if (hasB s.l j != o) = true then (rowSum r (denB d) (itemsM m j) none).map (fun w => ((j : Int), w)) else none := rfl
   rw [hI]
   cases hb : hasB s.l j <;> cases o <;> cases hx : rowSum r (denB d) (itemsM m j) none <;> exact ⟨_, rfl, by simp [accW]⟩)
  (by
   rintro _ rfl
   refine ⟨_, if_neg (by omega), rfl⟩) 0 (Nat.zero_le _) (0, o, []) rfl
 rw [q1, q2]
theorem items_none {m : Mx} (hrm : rightM m = true) (h0 : m.2.1 = 0) {i : Nat} (hi : (i : Int) < m.1) : itemsM m i = [] := by
 obtain ⟨r1, r2, r3, r4, r5, r6⟩ := rightM_spec hrm
 obtain ⟨p1, p2, p3, p4⟩ := r6 i hi
 unfold itemsM
 cases hl : cutL m.2.2.2.1.l (m.2.2.1.l.getD i 0) (m.2.2.1.l.getD (i + 1) 0) with
 | nil => rfl
 | cons x l =>
  exfalso
  have := ascI_iff.1 p4 0 (by rw [hl]; simp)
  omega
theorem sums_none {r : Int} {m : Mx} {h : Int → Option Int} (hrm : rightM m = true) (h0 : m.2.1 = 0) (ask : Nat → Bool) : sumsL r h m ask m.1.toNat = [] := by
 unfold sumsL
 rw [List.filterMap_eq_nil_iff]
 intro i hi
 rw [List.mem_range] at hi
 unfold sumI
 rw [items_none hrm h0 (by omega)]
 simp [rowSum]
theorem sums_pull0 {r : Int} {m : Mx} (hm : OkM m) (hrm : rightM m = true) (h0 : m.2.1 = 0) {s : Sl Int} (hs : okS 1 s) (hu : u64s s.l) (o : Bool) : loopO (pull_Sums_b1 s m.1 m.2.2.1 m.2.2.2.1 m.2.2.2.2) (0, o) = some (.inl ()) := by
 obtain ⟨r1, r2, r3, r4, r5, r6⟩ := rightM_spec hrm
 obtain ⟨q, q1, q2⟩ := loop_up (b := pull_Sums_b1 s m.1 m.2.2.1 m.2.2.2.1 m.2.2.2.2) m.1.toNat (fun j a => a = ((j : Int), o)) (fun q => q = .inl ())
  (by
   rintro j _ hj rfl
   have hjm : (j : Int) < m.1 := by omega
   obtain ⟨f, t, R⟩ := row_at hm hrm hjm
   have hh := flags_Has_eq s j hs hu (by omega)
   have hl := R.len
   rw [items_none hrm h0 hjm] at hl
   simp only [List.length_nil] at hl
   have h2 : loopO (pull_Sums_b2 m.2.2.1 m.2.2.2.1 m.2.2.2.2 (j : Int)) f = some (.inl ()) := loopO_done (by simp only [pull_Sums_b2, R.t1, Option.bind_some]; rw [if_neg (by omega)])
   have h3 : loopO (pull_Sums_b3 m.2.2.1 m.2.2.2.1 m.2.2.2.2 (j : Int)) f = some (.inl ()) := loopO_done (by simp only [pull_Sums_b3, R.t1, Option.bind_some]; rw [if_neg (by omega)])
   simp only [pull_Sums_b1, hh, R.f1, h2, h3, Option.bind_some, Sum.elim_inl, w_succ hj (by omega), if_pos hjm]
   refine .inl ?_
   cases hb : hasB s.l j <;> cases o <;> exact ⟨_, rfl, rfl⟩)
  (by
   rintro _ rfl
   refine ⟨_, if_neg (by omega), rfl⟩) 0 (Nat.zero_le _) (0, o) rfl
 rw [q1, q2]
theorem pull_Sums_eq {r : Int} {m : Mx} {d : Dn} (hm : OkM m) (hd : OkD d) {s : Sl Int} (hs : okS 1 s) (hu : u64s s.l) (o : Bool) : pull_Sums r m d s o = some (sumsV r m d s.l o) := by
 have e1 := pull_sure_eq hm
 have e2 := devec_Right_eq hd
 have hm' := sureM_ok hm
 have hrm := sureM_right m
 have hd' := sureD_ok hd
 have hrd := sureD_right d
 obtain ⟨m1, m2, m3, m4, m5⟩ := m
 obtain ⟨d1, d2, d3⟩ := d
 unfold pull_Sums sumsV
 simp only [ring_Is_eq, Option.bind_some]
 by_cases c : okR r = true
 ·have c' : (decide (1 ≤ r) && decide (r ≤ 5)) = true := c
  rw [if_pos c', if_pos c, e1]
  simp only [Option.bind_some, e2]
  generalize sureM (m1, m2, m3, m4, m5) = u at hm' hrm ⊢
  cases hr : rightD (d1, d2, d3) with
  | true =>
   rw [show sureD (d1, d2, d3) = (d1, d2, d3) by unfold sureD; rw [if_pos hr]] at hd' hrd ⊢
   simp only [if_true]
   by_cases hn : d1 = u.2.1
   ·rw [if_neg (fun h => h hn), if_pos hn]
    have := sums_pull (r := r) hm' hrm hd' hrd hn hs hu o
    simp only at this
    rw [this]; rfl
   ·rw [if_pos hn, if_neg hn]; rfl
  | false =>
   rw [show sureD (d1, d2, d3) = (0, nilS, nilS) by unfold sureD; rw [if_neg (by rw [hr]; simp)]] at hd' hrd ⊢
   simp only [Bool.false_eq_true, if_false]
   by_cases hn : (0 : Int) = u.2.1
   ·rw [if_neg (fun h => h hn), if_pos hn]
    have := sums_pull0 (r := r) hm' hrm hn.symm hs hu o
    rw [this, sums_none hrm hn.symm]; rfl
   ·rw [if_pos hn, if_neg hn]; rfl
 ·have c' : ¬ (decide (1 ≤ r) && decide (r ≤ 5)) = true := c
  rw [if_neg c', if_neg c]; rfl
abbrev E3 := Int × Int × Int
def bel (a b : E3) : Bool := decide (a.1 < b.1) || (decide (a.1 = b.1) && decide (a.2.1 < b.2.1))
theorem bel_iff {a b : E3} : bel a b = true ↔ a.1 < b.1 ∨ a.1 = b.1 ∧ a.2.1 < b.2.1 := by unfold bel; simp
theorem ref05_below_eq (a b : E3) : ref05_below a b = some (bel a b) := by
 obtain ⟨a1, a2, a3⟩ := a
 obtain ⟨b1, b2, b3⟩ := b
 unfold ref05_below bel
 simp only
 by_cases h1 : a1 < b1
 ·rw [if_pos h1, decide_eq_true h1]; rfl
 ·rw [if_neg h1, decide_eq_false h1]
  by_cases h2 : a1 = b1
  ·rw [if_pos h2, decide_eq_true h2]
   by_cases h3 : a2 < b2
   ·rw [if_pos h3, decide_eq_true h3]; rfl
   ·rw [if_neg h3, decide_eq_false h3]; rfl
  ·rw [if_neg h2, decide_eq_false h2]; rfl
def insE {α : Type} (l : List α) (k : Nat) (y : α) : List α := l.take k ++ y :: l.drop k
theorem insE_len {α : Type} {l : List α} {k : Nat} (y : α) : (insE l k y).length = l.length + 1 := by unfold insE; simp; omega
theorem insE_at {α : Type} {l : List α} {k : Nat} (hk : k ≤ l.length) (y : α) : (insE l k y)[k]? = some y := by
 unfold insE
 rw [List.getElem?_append_right (by rw [List.length_take]; omega), List.length_take, Nat.min_eq_left hk, Nat.sub_self]; rfl
theorem insE_set {α : Type} {l : List α} {k : Nat} (hk : k ≤ l.length) (y x : α) : (insE l k y).set k x = insE l k x := by
 unfold insE
 rw [List.set_append_right _ _ (by rw [List.length_take]; omega), List.length_take, Nat.min_eq_left hk, Nat.sub_self]; rfl
theorem insE_last {α : Type} (l : List α) (y : α) : insE l l.length y = l ++ [y] := by unfold insE; simp
theorem insE_pred {α : Type} {l : List α} {k : Nat} (hk : k + 1 ≤ l.length) (y : α) : (insE l (k + 1) y)[k]? = some l[k] ∧ insE l (k + 1) l[k] = insE l k l[k] := by
 unfold insE
 constructor
 ·rw [List.getElem?_append_left (by simp; omega), List.getElem?_take, if_pos (by omega), List.getElem?_eq_getElem]
 ·rw [List.take_succ_eq_append_getElem (by omega), List.append_assoc, List.drop_eq_getElem_cons (i := k) (by omega)]; rfl
theorem insE_mem {α : Type} {l : List α} {k : Nat} {y x : α} (h : x ∈ insE l k y) : x = y ∨ x ∈ l := by
 unfold insE at h
 rcases List.mem_append.1 h with h | h
 ·exact .inr (List.mem_of_mem_take h)
 ·rcases List.mem_cons.1 h with h | h
  ·exact .inl h
  ·exact .inr (List.mem_of_mem_drop h)
abbrev RC := (List E3 × List (Int × Int) × Int) ⊕ ((List E3 × List (Int × Int)) ⊕ (Sl E3 × Int))
theorem shift_one {b : List E3 × List (Int × Int) × Int → Option ((List E3 × List (Int × Int) × Int) ⊕ ((List E3 × List (Int × Int)) ⊕ RC))} {a : Nat} (hb : b = ref05_Combine_b3 (a : Int) ∨ b = ref05_Combine_b4 (a : Int)) {l : List E3} {s : List (Int × Int)} (hl : s.length = l.length) (hn : l.length ≤ 100000) (ha : a ≤ l.length) (y : E3) (z : Int × Int) :
  ∃ y' z', loopO b (l ++ [y], s ++ [z], (l.length : Int)) = some (.inl (insE l a y', insE s a z')) := by
 have step : ∀ (k : Nat) y z, a < k + 1 → k + 1 ≤ l.length → ∃ y' z', b (insE l (k + 1) y, insE s (k + 1) z, ((k + 1 : Nat) : Int)) = some (.inl (insE l k y', insE s k z', (k : Int))) := fun k y z h1 hk => by
  have hks : k + 1 ≤ s.length := by omega
  have e1 := at_mo (w := 3) (insE_pred hk y).1
  have e2 := at_mo (w := 3) (insE_at hk y)
  have e3 := at_mo (w := 2) (insE_pred hks z).1
  have e4 := at_mo (w := 2) (insE_at hks z)
  have hw : IntKind.i64.wrap (((k + 1 : Nat) : Int) - 1) = (k : Int) := by rw [wrap64 (by omega) (by omega)]; omega
  have t1 : ((k + 1 : Nat) : Int).toNat = k + 1 := Int.toNat_natCast _
  refine ⟨l[k], s[k], ?_⟩
  rw [← (insE_pred hk y).2, ← (insE_pred hks z).2, ← insE_set hk y l[k], ← insE_set hks z s[k]]
  rcases hb with rfl | rfl
  ·simp only [ref05_Combine_b3, hw, e1, e2, e3, e4, Option.bind_some, t1]
   rw [if_pos (by omega)]
  ·simp only [ref05_Combine_b4, hw, e1, e2, e3, e4, Option.bind_some, t1]
   rw [if_pos (by omega)]
 have stop : ∀ y z, b (insE l a y, insE s a z, (a : Int)) = some (.inr (.inl (insE l a y, insE s a z))) := fun y z => by
  rcases hb with rfl | rfl
  ·simp only [ref05_Combine_b3]; rw [if_neg (by omega)]
  ·simp only [ref05_Combine_b4]; rw [if_neg (by omega)]
 obtain ⟨q, q1, y', z', q2⟩ := loop_up (b := b) (l.length - a) (fun j st => ∃ y z, st = (insE l (l.length - j) y, insE s (l.length - j) z, ((l.length - j : Nat) : Int))) (fun q => ∃ y z, q = .inl (insE l a y, insE s a z))
  (by
   rintro j _ hj ⟨y, z, rfl⟩
   obtain ⟨k, hk⟩ : ∃ k, l.length - j = k + 1 := ⟨l.length - j - 1, by omega⟩
   rw [hk]
   obtain ⟨y', z', e⟩ := step k y z (by omega) (by omega)
   exact .inl ⟨_, e, y', z', by rw [show l.length - (j + 1) = k by omega]⟩)
  (by
   rintro _ ⟨y, z, rfl⟩
   rw [show l.length - (l.length - a) = a by omega]
   exact ⟨_, stop y z, y, z, rfl⟩) 0 (Nat.zero_le _) (l ++ [y], s ++ [z], (l.length : Int)) ⟨y, z, by rw [Nat.sub_zero, insE_last, ← hl, insE_last, hl]⟩
 exact ⟨y', z', by rw [q1, q2]⟩
theorem find_at {s2 : Sl E3} {l : List E3} {i : Nat} (hs : okS 3 s2) (hi : i < s2.l.length) (hn : l.length ≤ 100000) : ∃ a : Nat, a ≤ l.length ∧ loopO (ref05_Combine_b2 s2 l (i : Int)) 0 = some (.inl (a : Int)) ∧ (∀ j (h : j < l.length), j < a → bel l[j] s2.l[i] = true) ∧ ∀ h : a < l.length, bel l[a] s2.l[i] = false := by
 have ei := at_get hs hi
 obtain ⟨q, q1, a, h1, rfl, h2, h3⟩ := loop_up (b := ref05_Combine_b2 s2 l (i : Int)) l.length (fun j a => a = (j : Int) ∧ ∀ k (h : k < l.length), k < j → bel l[k] s2.l[i] = true) (fun q => ∃ a : Nat, a ≤ l.length ∧ q = .inl (a : Int) ∧ (∀ j (h : j < l.length), j < a → bel l[j] s2.l[i] = true) ∧ ∀ h : a < l.length, bel l[a] s2.l[i] = false)
  (by
   rintro j _ hj ⟨rfl, ha⟩
   have ej := at_mo (w := 3) (List.getElem?_eq_getElem hj)
   simp only [ref05_Combine_b2, ej, ei, Option.bind_some, ref05_below_eq, w_succ hj (by omega)]
   rw [if_pos (by omega)]
   cases hb : bel l[j] s2.l[i] with
   | true =>
    refine .inl ⟨_, rfl, rfl, fun k hk hkj => ?_⟩
    by_cases e : k = j
    ·subst e; exact hb
    ·exact ha k hk (by omega)
   | false => exact .inr ⟨_, rfl, j, by omega, rfl, ha, fun _ => hb⟩)
  (by
   rintro _ ⟨rfl, ha⟩
   refine ⟨.inl (l.length : Int), ?_, l.length, Nat.le_refl _, rfl, ha, fun h => absurd h (by omega)⟩
   simp only [ref05_Combine_b2]
   rw [if_neg (by omega)]) 0 (Nat.zero_le _) 0 ⟨rfl, fun k h hk => absurd hk (by omega)⟩
 exact ⟨a, h1, q1, h2, h3⟩
abbrev rises (l : List E3) : Prop := l.Pairwise fun a b => bel a b = true
theorem bel_trans {a b c : E3} (h1 : bel a b = true) (h2 : bel b c = true) : bel a c = true := by
 rw [bel_iff] at *; omega
theorem rises_ins {l : List E3} {a : Nat} {x : E3} (hp : rises l) (h1 : ∀ j (h : j < l.length), j < a → bel l[j] x = true) (h2 : ∀ h : a < l.length, bel x l[a] = true) : rises (insE l a x) := by
 have hsplit : rises (l.take a ++ l.drop a) := by rw [List.take_append_drop]; exact hp
 unfold rises at hsplit
 rw [List.pairwise_append] at hsplit
 obtain ⟨s1, s2, s3⟩ := hsplit
 unfold insE rises
 rw [List.pairwise_append, List.pairwise_cons]
 have hx : ∀ y ∈ l.drop a, bel x y = true := fun y hy => by
  by_cases ha : a < l.length
  ·rw [List.drop_eq_getElem_cons ha] at hy s2
   rcases List.mem_cons.1 hy with rfl | hy
   ·exact h2 ha
   ·exact bel_trans (h2 ha) ((List.pairwise_cons.1 s2).1 y hy)
  ·rw [List.drop_eq_nil_of_le (by omega)] at hy; simp at hy
 refine ⟨s1, ⟨hx, s2⟩, fun y hy z hz => ?_⟩
 obtain ⟨j, hj, rfl⟩ := List.mem_iff_getElem.1 hy
 have hj' : j < a ∧ j < l.length := by simp at hj; omega
 rw [List.getElem_take]
 rcases List.mem_cons.1 hz with rfl | hz
 ·exact h1 j hj'.2 hj'.1
 ·exact bel_trans (h1 j hj'.2 hj'.1) (hx z hz)
def placed (s : List E3) (l : List E3) : Prop := ∀ x ∈ l, ∃ y ∈ s, y.1 = x.1 ∧ y.2.1 = x.2.1
theorem combine_one {r : Int} {s2 : Sl E3} (hs : okS 3 s2) (hn : s2.l.length ≤ 65536) : ∃ l s, loopO (ref05_Combine_b1 r s2) ([], [], 0) = some (.inl (l, s)) ∧ s.length = l.length ∧ l.length ≤ s2.l.length ∧ rises l ∧ placed s2.l l ∧ ∀ w ∈ s, u64r w.2 := by
 obtain ⟨q, q1, l, s, rfl, h1, h2, h3, h4, h5⟩ := loop_up (b := ref05_Combine_b1 r s2) s2.l.length (fun j st => ∃ l s, st = (l, s, (j : Int)) ∧ s.length = l.length ∧ l.length ≤ j ∧ rises l ∧ placed s2.l l ∧ ∀ w ∈ s, u64r w.2) (fun q => ∃ l s, q = .inl (l, s) ∧ s.length = l.length ∧ l.length ≤ s2.l.length ∧ rises l ∧ placed s2.l l ∧ ∀ w ∈ s, u64r w.2)
  (by
   rintro j _ hj ⟨l, s, rfl, g1, g2, g3, g4, g5⟩
   obtain ⟨a, a1, a2, a3, a4⟩ := find_at (l := l) hs hj (by omega)
   have ej := at_get hs hj
   have hx : ∃ y ∈ s2.l, y.1 = s2.l[j].1 ∧ y.2.1 = s2.l[j].2.1 := ⟨_, List.getElem_mem hj, rfl, rfl⟩
   generalize s2.l[j] = x at ej a3 a4 hx
   have ap1 : app l [((0 : Int), (0 : Int), (0 : Int))] = some (l ++ [(0, 0, 0)]) := app_ok (by simp; unfold bound; omega)
   have ap2 : app s [((0 : Int), (0 : Int))] = some (s ++ [(0, 0)]) := app_ok (by simp; unfold bound; omega)
   have hw1 : IntKind.i64.wrap ((((l ++ [((0 : Int), (0 : Int), (0 : Int))]).length : Nat) : Int) - 1) = (l.length : Int) := by rw [wrap64 (by simp only [List.length_append, List.length_cons, List.length_nil]; omega) (by simp only [List.length_append, List.length_cons, List.length_nil]; omega)]; simp only [List.length_append, List.length_cons, List.length_nil]; omega
   have ta : ((a : Nat) : Int).toNat = a := Int.toNat_natCast _
   obtain ⟨y3, z3, sh3⟩ := shift_one (b := ref05_Combine_b3 (a : Int)) (.inl rfl) g1 (by omega) a1 (0, 0, 0) (0, 0)
   obtain ⟨y4, z4, sh4⟩ := shift_one (b := ref05_Combine_b4 (a : Int)) (.inr rfl) g1 (by omega) a1 (0, 0, 0) (0, 0)
   have hal : a ≤ s.length := by omega
   have i3 := at_mo (w := 3) (insE_at a1 y3)
   have j3 := at_mo (w := 2) (insE_at hal z3)
   have i4 := at_mo (w := 3) (insE_at a1 y4)
   have j4 := at_mo (w := 2) (insE_at hal z4)
   have new : (∀ h : a < l.length, bel x l[a] = true) → rises (insE l a (x.1, x.2.1, 0)) ∧ placed s2.l (insE l a (x.1, x.2.1, 0)) ∧ ∀ w ∈ insE s a (ofW x.2.2), u64r w.2 := fun h => by
    refine ⟨rises_ins g3 a3 h, fun y hy => ?_, fun w hw => ?_⟩
    ·rcases insE_mem hy with rfl | hy
     ·exact hx
     ·exact g4 y hy
    ·rcases insE_mem hw with rfl | hw
     ·exact ofW_lo _
     ·exact g5 w hw
   simp only [ref05_Combine_b1, a2, ej, Option.bind_some, Sum.elim_inl, ref01_Of_eq, w_succ hj (by omega)]
   rw [if_pos (by omega)]
   by_cases c1 : a < l.length
   ·have ea := at_mo (w := 3) (List.getElem?_eq_getElem c1)
    have es := at_mo (w := 2) (List.getElem?_eq_getElem (show a < s.length by omega))
    rw [if_pos (by omega)]
    simp only [ea, Option.bind_some, ref05_below_eq]
    cases hb : bel x l[a] with
    | true =>
     simp only [if_true, ap1, ap2, Option.bind_some, hw1, sh3, Sum.elim_inl, i3, j3, ta]
     rw [insE_set a1, insE_set hal]
     exact .inl ⟨_, rfl, _, _, rfl, by rw [insE_len, insE_len]; omega, by rw [insE_len]; omega, new fun _ => hb⟩
    | false =>
     simp only [Bool.false_eq_true, if_false, es, Option.bind_some, ref02_Add_eq, ta]
     refine .inl ⟨_, rfl, _, _, rfl, by simp; omega, by omega, g3, g4, fun w hw => ?_⟩
     rcases List.mem_or_eq_of_mem_set hw with hw | rfl
     ·exact g5 w hw
     ·exact ringAdd_lo (g5 _ (List.getElem_mem _)) (ofW_lo _)
   ·rw [if_neg (by omega)]
    simp only [ap1, ap2, Option.bind_some, hw1, sh4, Sum.elim_inl, i4, j4, ta]
    rw [insE_set a1, insE_set hal]
    exact .inl ⟨_, rfl, _, _, rfl, by rw [insE_len, insE_len]; omega, by rw [insE_len]; omega, new fun h => absurd h c1⟩)
  (by
   rintro _ ⟨l, s, rfl, g⟩
   exact ⟨.inl (l, s), by simp only [ref05_Combine_b1]; rw [if_neg (by omega)], l, s, rfl, g⟩) 0 (Nat.zero_le _) ([], [], 0) ⟨[], [], rfl, rfl, Nat.le_refl _, List.Pairwise.nil, (fun x hx => by simp at hx), fun x hx => by simp at hx⟩
 exact ⟨l, s, q1, h1, h2, h3, h4, h5⟩
theorem combine_spec {r : Int} (hr : okR r = true) {s2 : Sl E3} (hs : okS 3 s2) (hn : s2.l.length ≤ 65536) : ref05_Combine r s2 = some (nilS, 12) ∨ ∃ l, ref05_Combine r s2 = some (mo 3 l, 0) ∧ l.length ≤ s2.l.length ∧ rises l ∧ placed s2.l l ∧ ∀ x ∈ l, i64r x.2.2 := by
 obtain ⟨l, s, q1, h1, h2, h3, h4, h5⟩ := combine_one (r := r) hs hn
 have hr' : (decide (1 ≤ r) && decide (r ≤ 5)) = true := hr
 unfold ref05_Combine
 simp only [ref02_Is_eq, Option.bind_some]
 rw [if_pos hr', q1]
 simp only [Option.bind_some, Sum.elim_inl]
 obtain ⟨q, p1, p2⟩ := loop_up (b := ref05_Combine_b5 s) l.length (fun j st => ∃ m : List E3, st = (m, (j : Int)) ∧ m.length = l.length ∧ (∀ i (h : i < m.length) (h' : i < l.length), m[i].1 = l[i].1 ∧ m[i].2.1 = l[i].2.1) ∧ ∀ i (h : i < m.length), i < j → i64r m[i].2.2) (fun q => q = .inr (nilS, 12) ∨ ∃ m : List E3, q = .inl m ∧ m.length = l.length ∧ (∀ i (h : i < m.length) (h' : i < l.length), m[i].1 = l[i].1 ∧ m[i].2.1 = l[i].2.1) ∧ ∀ i (h : i < m.length), i64r m[i].2.2)
  (by
   rintro j _ hj ⟨m, rfl, g1, g2, g3⟩
   have hjs : j < s.length := by omega
   have es := at_mo (w := 2) (List.getElem?_eq_getElem hjs)
   have em := at_mo (w := 3) (List.getElem?_eq_getElem (show j < m.length by omega))
   have tj : ((j : Nat) : Int).toNat = j := Int.toNat_natCast _
   have hnr := ref01_Narrow_eq (h5 _ (List.getElem_mem hjs))
   have hnv := narrow_r s[j]
   simp only [ref05_Combine_b5, es, em, Option.bind_some, tj, w_succ hj (by omega), hnr]
   rw [if_pos (by omega)]
   generalize narrowW s[j] = w at hnv
   by_cases c : w.2 = true
   ·rw [if_pos c]
    refine .inl ⟨_, rfl, _, rfl, by simp; omega, fun i h h' => ?_, fun i h hi => ?_⟩
    ·rw [List.getElem_set]
     by_cases e : j = i
     ·subst e; rw [if_pos rfl]; exact g2 j (by omega) h'
     ·rw [if_neg e]; exact g2 i (by simpa using h) h'
    ·rw [List.getElem_set]
     by_cases e : j = i
     ·rw [if_pos e]; exact hnv
     ·rw [if_neg e]; exact g3 i (by simpa using h) (by omega)
   ·rw [if_neg c]
    exact .inr ⟨_, rfl, .inl rfl⟩)
  (by
   rintro _ ⟨m, rfl, g1, g2, g3⟩
   exact ⟨.inl m, by simp only [ref05_Combine_b5]; rw [if_neg (by omega)], .inr ⟨m, rfl, g1, g2, fun i h => g3 i h (by omega)⟩⟩) 0 (Nat.zero_le _) (l, 0) ⟨l, rfl, rfl, fun _ _ _ => ⟨rfl, rfl⟩, fun i h hi => absurd hi (by omega)⟩
 rw [p1]
 rcases p2 with rfl | ⟨m, rfl, g1, g2, g3⟩
 ·exact .inl rfl
 ·refine .inr ⟨m, rfl, by omega, ?_, fun x hx => ?_, fun x hx => ?_⟩
  ·refine List.pairwise_iff_getElem.2 fun i j hi hj hij => ?_
   have := List.pairwise_iff_getElem.1 h3 i j (by omega) (by omega) hij
   have e1 := g2 i hi (by omega)
   have e2 := g2 j hj (by omega)
   rw [bel_iff] at this ⊢
   rw [e1.1, e1.2, e2.1, e2.2]
   exact this
  ·obtain ⟨i, hi, rfl⟩ := List.mem_iff_getElem.1 hx
   obtain ⟨y, y1, y2, y3⟩ := h4 _ (List.getElem_mem (show i < l.length by omega))
   have e1 := g2 i hi (by omega)
   exact ⟨y, y1, by rw [e1.1, y2], by rw [e1.2, y3]⟩
  ·obtain ⟨i, hi, rfl⟩ := List.mem_iff_getElem.1 hx
   exact g3 i hi
theorem getI_in {p y : Int} : ∀ {l : List It}, getI p l = some y → (p, y) ∈ l
 | x :: l, h => by
  unfold getI at h
  split at h
  ·rename_i e
   simp only [Option.some.injEq] at h
   rw [← e, ← h]; exact List.mem_cons_self
  ·exact List.mem_cons_of_mem _ (getI_in h)
theorem sizeF_iff2 {n : Int} : sizeF n = true ↔ 0 ≤ n ∧ n ≤ 4096 := by unfold sizeF; simp
def tabM (n : Nat) (f : Nat → Int) : List Int := (List.range n).map f
theorem tabM_len (n : Nat) (f : Nat → Int) : (tabM n f).length = n := by unfold tabM; simp
theorem tabM_get {n k : Nat} (f : Nat → Int) (h : k < n) : (tabM n f)[k]? = some (f k) := by
 unfold tabM
 rw [List.getElem?_map, List.getElem?_range h]; rfl
theorem tabM_getD {n k : Nat} (f : Nat → Int) (h : k < n) : (tabM n f).getD k 0 = f k := by rw [List.getD_eq_getElem?_getD, tabM_get f h]; rfl
theorem tabM_set {n k : Nat} (f : Nat → Int) (v : Int) (h : k < n) : (tabM n f).set k v = tabM n fun i => if i = k then v else f i := by
 refine List.ext_getElem? fun i => ?_
 rw [List.getElem?_set]
 by_cases hi : i < n
 ·by_cases e : k = i
  ·subst e; rw [if_pos rfl, if_pos (by rw [tabM_len]; omega), tabM_get _ hi, if_pos rfl]
  ·rw [if_neg e, tabM_get _ hi, tabM_get _ hi, if_neg (Ne.symm e)]
 ·rw [if_neg (by omega)]
  rw [List.getElem?_eq_none (by rw [tabM_len]; omega), List.getElem?_eq_none (by rw [tabM_len]; omega)]
theorem tabM_congr {n : Nat} {f g : Nat → Int} (h : ∀ k, k < n → f k = g k) : tabM n f = tabM n g := by
 unfold tabM
 refine List.map_congr_left fun k hk => h k ?_
 simpa using hk
theorem tabM_zero (n : Nat) : List.replicate n (0 : Int) = tabM n fun _ => 0 := by
 refine List.ext_getElem? fun i => ?_
 by_cases hi : i < n
 ·rw [tabM_get _ hi, List.getElem?_replicate, if_pos hi]
 ·rw [List.getElem?_eq_none (by simp; omega), List.getElem?_eq_none (by rw [tabM_len]; omega)]
theorem tabM_mem {n : Nat} {f : Nat → Int} {x : Int} (h : x ∈ tabM n f) : ∃ k, k < n ∧ f k = x := by
 unfold tabM at h
 obtain ⟨k, hk, rfl⟩ := List.mem_map.1 h
 exact ⟨k, by simpa using hk, rfl⟩
theorem mem_places {p : Int} {l : List It} : p ∈ l.map (·.1) ↔ ∃ y, getI p l = some y := by
 induction l with
 | nil => simp [getI]
 | cons x l ih =>
  simp only [List.map_cons, List.mem_cons, getI]
  by_cases h : x.1 = p
  ·rw [if_pos h]; exact ⟨fun _ => ⟨_, rfl⟩, fun _ => .inl h.symm⟩
  ·rw [if_neg h, ← ih]; exact ⟨fun h1 => h1.resolve_left (Ne.symm h), .inr⟩
theorem ref10_Of_eq {k : Int} {t : Sl It} (h : GoodV (k, t)) : ∃ d : Dn, ref10_Of (k, t) = some d ∧ OkD d ∧ rightD d = true ∧ d.1 = k ∧ ∀ p, denB d p = getI p t.l := by
 have hz := right_size h.1
 have hlen := right_len h.1
 simp only at hlen
 obtain ⟨n, rfl⟩ := Int.eq_ofNat_of_zero_le hz.1
 have hnew : ref03_New (n : Int) = some (List.replicate (((n : Int) + 63) / 64).toNat 0) := by
  unfold ref03_New
  have hlo : lenOk (((n : Int) + 63) / 64) = some () := by unfold lenOk bound; rw [if_pos ⟨by omega, by omega⟩]
  simp only [ref03_words_eq (n := (n : Int)) ⟨by omega, by omega⟩, hlo, Option.bind_some]
 have hlo : lenOk (n : Int) = some () := by unfold lenOk bound; rw [if_pos ⟨by omega, by omega⟩]
 have hok : okS 2 t := h.2.1
 unfold ref10_Of
 simp only [ref09_Sure_eq ((n : Int), t) hok (show t.l.length ≤ _ by omega), sure_id h.1, Option.bind_some, hnew, hlo, Int.toNat_natCast]
 rw [if_neg (by omega), if_neg (by omega), tabM_zero]
 obtain ⟨q, q1, q2⟩ := loop_up (b := ref10_Of_b3 t) t.l.length (fun j st => st = ((t.l.take j).map (·.1), (j : Int), tabM n fun p => (getI (p : Int) (t.l.take j)).getD 0)) (fun q => q = .inl (t.l.map (·.1), tabM n fun p => (getI (p : Int) t.l).getD 0))
  (by
   rintro j _ hj rfl
   have ej := at_get hok hj
   have hx := right_at h.1 hj
   have htk := getI_take h.1 hj
   rw [List.take_succ_eq_append_getElem hj]
   generalize t.l[j] = x at ej hx htk
   obtain ⟨x1, x2⟩ := x
   simp only at hx htk
   obtain ⟨p, rfl⟩ := Int.eq_ofNat_of_zero_le hx.1
   have ap : app ((t.l.take j).map (·.1)) [(p : Int)] = some ((t.l.take j).map (·.1) ++ [(p : Int)]) := app_ok (by simp; unfold bound; omega)
   have hat : atL (tabM n fun p => (getI (p : Int) (t.l.take j)).getD 0) (p : Int) = some ((getI (p : Int) (t.l.take j)).getD 0) := by
    unfold atL; rw [if_pos (by omega), Int.toNat_natCast, tabM_get _ (by omega)]
   simp only [ref10_Of_b3, ej, Option.bind_some, ap, hat, Int.toNat_natCast, w_succ hj (by omega)]
   rw [if_pos (by omega), tabM_set _ _ (by omega)]
   refine .inl ⟨_, rfl, ?_⟩
   rw [List.map_append]
   simp only [List.map_cons, List.map_nil, Prod.mk.injEq, true_and]
   refine tabM_congr fun i hi => ?_
   rw [getI_append]
   by_cases e : i = p
   ·subst e; rw [if_pos rfl, htk]; simp [getI]
   ·rw [if_neg e]
    have : getI (i : Int) [((p : Int), x2)] = none := by unfold getI; rw [if_neg (by omega)]; rfl
    rw [this]
    cases getI (i : Int) (t.l.take j) <;> rfl)
  (by
   rintro _ rfl
   refine ⟨.inl (t.l.map (·.1), tabM n fun p => (getI (p : Int) t.l).getD 0), ?_, rfl⟩
   simp only [ref10_Of_b3]
   rw [if_neg (by omega), List.take_length]) 0 (Nat.zero_le _) ([], 0, tabM n fun _ => 0) rfl
 rw [q1, q2]
 obtain ⟨w, w1, w2, w3, w4⟩ := ref03_Of_eq (n := n) (by omega) (mo 1 (t.l.map (·.1))) (ok_mo _) (by rw [mo_l]; simp; omega)
 simp only [Option.bind_some, Sum.elim_inl, w1]
 rw [mo_l] at w4
 have hbit : ∀ p : Nat, hasB w p = (getI (p : Int) t.l).isSome := fun p => by
  rw [w4 p]
  cases hg : getI (p : Int) t.l with
  | none =>
   rw [decide_eq_false (p := (p : Int) ∈ t.l.map (·.1)) (fun hm => by obtain ⟨y, hy⟩ := mem_places.1 hm; rw [hg] at hy; simp at hy)]; simp
  | some y =>
   have hm := mem_places.2 ⟨y, hg⟩
   rw [decide_eq_true hm]
   have : p < n := by
    obtain ⟨x, hx, hxp⟩ := List.mem_map.1 hm
    obtain ⟨j, hj, rfl⟩ := List.mem_iff_getElem.1 hx
    have := right_at h.1 hj
    omega
   rw [decide_eq_true this]; rfl
 refine ⟨_, rfl, ⟨.inr rfl, w3, .inr rfl, fun x hx => ?_, show w.length ≤ _ by omega, by simp only [tabM_len]; omega⟩, ?_, rfl, fun p => ?_⟩
 ·obtain ⟨k, hk, rfl⟩ := tabM_mem hx
  cases hg : getI (k : Int) t.l with
  | none => simp [i64r]
  | some y => exact h.2.2 _ (getI_in hg)
 ·unfold rightD rightF
  simp only [mo_l, tabM_len, Bool.and_eq_true, decide_eq_true_eq, List.all_eq_true]
  refine ⟨⟨sizeF_iff2.2 ⟨by omega, by omega⟩, w2, fun p hp => ?_⟩, trivial, fun i hi => ?_⟩
  ·obtain ⟨p0, p1⟩ := places_mem.1 hp
   rw [w4] at p1
   simp only [Bool.and_eq_true, decide_eq_true_eq] at p1
   omega
  ·have hi' : i < n := by simpa using hi
   rw [tabM_getD _ hi', hbit]
   cases getI (i : Int) t.l <;> simp
 ·unfold denB
  simp only [mo_l]
  by_cases hp : 0 ≤ p
  ·obtain ⟨p, rfl⟩ := Int.eq_ofNat_of_zero_le hp
   simp only [Int.toNat_natCast]
   rw [hbit]
   cases hg : getI (p : Int) t.l with
   | none => simp
   | some y =>
    have : p < n := by
     obtain ⟨x, hx, hxp⟩ := List.mem_map.1 (mem_places.2 ⟨y, hg⟩)
     obtain ⟨j, hj, rfl⟩ := List.mem_iff_getElem.1 hx
     have := right_at h.1 hj
     omega
    rw [if_pos ⟨hp, rfl⟩, tabM_getD _ this, hg]; rfl
  ·rw [if_neg (fun hh => hp hh.1)]
   refine (getI_none fun x hx e => ?_).symm
   obtain ⟨j, hj, rfl⟩ := List.mem_iff_getElem.1 hx
   have := right_at h.1 hj
   omega
def tabN (n : Nat) (f : Nat → Int) : List Int := (List.range (n + 1)).map f
theorem tabN_len (n : Nat) (f : Nat → Int) : (tabN n f).length = n + 1 := by unfold tabN; simp
theorem tabN_get {n k : Nat} (f : Nat → Int) (h : k ≤ n) : (tabN n f)[k]? = some (f k) := by
 unfold tabN
 rw [List.getElem?_map, List.getElem?_range (by omega)]; rfl
theorem tabN_getD {n k : Nat} (f : Nat → Int) (h : k ≤ n) : (tabN n f).getD k 0 = f k := by rw [List.getD_eq_getElem?_getD, tabN_get f h]; rfl
theorem tabN_congr {n : Nat} {f g : Nat → Int} (h : ∀ k, k ≤ n → f k = g k) : tabN n f = tabN n g := by
 unfold tabN
 refine List.map_congr_left fun k hk => h k ?_
 simp at hk; omega
theorem tabN_set {n k : Nat} (f : Nat → Int) (v : Int) (h : k ≤ n) : (tabN n f).set k v = tabN n fun i => if i = k then v else f i := by
 refine List.ext_getElem? fun i => ?_
 rw [List.getElem?_set]
 by_cases hi : i ≤ n
 ·rw [tabN_get _ hi]
  by_cases e : k = i
  ·subst e; rw [if_pos rfl, if_pos (by rw [tabN_len]; omega), tabN_get _ hi, if_pos rfl]
  ·rw [if_neg e, tabN_get _ hi, if_neg (Ne.symm e)]
 ·rw [if_neg (by omega)]
  rw [List.getElem?_eq_none (by rw [tabN_len]; omega), List.getElem?_eq_none (by rw [tabN_len]; omega)]
theorem tabN_zero (n : Nat) : List.replicate (n + 1) (0 : Int) = tabN n fun _ => 0 := by
 refine List.ext_getElem? fun i => ?_
 by_cases hi : i ≤ n
 ·rw [tabN_get _ hi, List.getElem?_replicate, if_pos (by omega)]
 ·rw [List.getElem?_eq_none (by simp; omega), List.getElem?_eq_none (by rw [tabN_len]; omega)]
def cntR (l : List E3) (k : Nat) : Nat := l.countP fun x => decide (x.1 < (k : Int))
theorem cntR_le (l : List E3) (k : Nat) : cntR l k ≤ l.length := List.countP_le_length
theorem cntR_app (l : List E3) (x : E3) (k : Nat) : cntR (l ++ [x]) k = cntR l k + if x.1 < (k : Int) then 1 else 0 := by
 unfold cntR
 rw [List.countP_append]
 congr 1
 by_cases h : x.1 < (k : Int) <;> simp [h]
theorem count_in {n : Nat} (hn : n ≤ 4096) {row : Nat} (hr : row < n) {f : Nat → Int} (hf : ∀ k, 0 ≤ f k ∧ f k ≤ 100000) : loopO (ref07_built_b2 (n : Int)) ((((row + 1 : Nat) : Int)), tabN n f) = some (.inl (tabN n fun i => f i + if row < i then 1 else 0)) := by
 obtain ⟨q, q1, q2⟩ := loop_up (b := ref07_built_b2 (n : Int)) (n - row) (fun j st => st = (((row + 1 + j : Nat) : Int), tabN n fun i => f i + if row < i ∧ i ≤ row + j then 1 else 0)) (fun q => q = .inl (tabN n fun i => f i + if row < i then 1 else 0))
  (by
   rintro j _ hj rfl
   have hat : atL (tabN n fun i => f i + if row < i ∧ i ≤ row + j then 1 else 0) ((row + 1 + j : Nat) : Int) = some (f (row + 1 + j)) := by
    unfold atL
    rw [if_pos (by omega), Int.toNat_natCast, tabN_get _ (by omega), if_neg (by omega), Int.add_zero]
   have hfk := hf (row + 1 + j)
   simp only [ref07_built_b2, hat, Option.bind_some, Int.toNat_natCast]
   rw [if_pos (by omega), wrap64 (n := f (row + 1 + j) + 1) (by omega) (by omega), tabN_set _ _ (by omega), wrap64 (n := ((row + 1 + j : Nat) : Int) + 1) (by omega) (by omega)]
   refine .inl ⟨_, rfl, ?_⟩
   rw [Prod.mk.injEq]
   refine ⟨by omega, tabN_congr fun i hi => ?_⟩
   by_cases e : i = row + 1 + j
   ·rw [if_pos e, e, if_pos (by omega)]
   ·rw [if_neg e]
    by_cases h1 : row < i ∧ i ≤ row + j
    ·rw [if_pos h1, if_pos (by omega)]
    ·rw [if_neg h1, if_neg (by omega)])
  (by
   rintro _ rfl
   refine ⟨_, ?_, rfl⟩
   simp only [ref07_built_b2]
   rw [if_neg (by omega)]
   congr 3
   refine tabN_congr fun i hi => ?_
   by_cases h1 : row < i
   ·rw [if_pos h1, if_pos (by omega)]
   ·rw [if_neg h1, if_neg (by omega)]) 0 (Nat.zero_le _) (((row + 1 : Nat) : Int), tabN n f) (by
    rw [Prod.mk.injEq]
    refine ⟨by omega, tabN_congr fun i hi => ?_⟩
    rw [if_neg (by omega), Int.add_zero])
 rw [q1, q2]
def matV (n c : Int) (l : List E3) : Mx := (n, c, ⟨true, 1, tabN n.toNat fun k => ((cntR l k : Nat) : Int)⟩, mo 1 (l.map (·.2.1)), mo 1 (l.map (·.2.2)))
theorem built_eq {n c : Int} (hn : 0 ≤ n ∧ n ≤ 4096) {s : Sl E3} (hs : okS 3 s) (hl : s.l.length ≤ 65536) (hr : ∀ x ∈ s.l, 0 ≤ x.1 ∧ x.1 < n) : ref07_built n c s = some (matV n c s.l) := by
 obtain ⟨k, rfl⟩ := Int.eq_ofNat_of_zero_le hn.1
 unfold ref07_built matV
 rw [wrap64 (by omega) (by omega)]
 have hlo : lenOk ((k : Int) + 1) = some () := by unfold lenOk bound; rw [if_pos ⟨by omega, by omega⟩]
 rw [hlo]
 have tk : ((k : Int) + 1).toNat = k + 1 := by omega
 simp only [Option.bind_some, tk, Int.toNat_natCast]
 rw [tabN_zero]
 obtain ⟨q, q1, q2⟩ := loop_up (b := ref07_built_b1 (k : Int) s) s.l.length (fun j st => st = ((j : Int), tabN k (fun i => ((cntR (s.l.take j) i : Nat) : Int)), (s.l.take j).map (·.2.1), (s.l.take j).map (·.2.2))) (fun q => q = .inl (tabN k (fun i => ((cntR s.l i : Nat) : Int)), s.l.map (·.2.1), s.l.map (·.2.2)))
  (by
   rintro j _ hj rfl
   have ej := at_get hs hj
   have hx := hr _ (List.getElem_mem hj)
   obtain ⟨row, hrow⟩ := Int.eq_ofNat_of_zero_le hx.1
   have hlen : (s.l.take j).length ≤ 65536 := by simp; omega
   have ap1 : app ((s.l.take j).map (·.2.1)) [s.l[j].2.1] = some ((s.l.take j).map (·.2.1) ++ [s.l[j].2.1]) := app_ok (by simp at hlen ⊢; unfold bound; omega)
   have ap2 : app ((s.l.take j).map (·.2.2)) [s.l[j].2.2] = some ((s.l.take j).map (·.2.2) ++ [s.l[j].2.2]) := app_ok (by simp at hlen ⊢; unfold bound; omega)
   have hw : IntKind.i64.wrap (s.l[j].1 + 1) = ((row + 1 : Nat) : Int) := by rw [wrap64 (by omega) (by omega)]; omega
   have hin := count_in (n := k) (by omega) (row := row) (by omega) (f := fun i => ((cntR (s.l.take j) i : Nat) : Int)) (fun i => by have := cntR_le (s.l.take j) i; omega)
   simp only [ref07_built_b1, ej, Option.bind_some, ap1, ap2, hw, hin, Sum.elim_inl, w_succ hj (by omega)]
   rw [if_pos (by omega)]
   refine .inl ⟨_, rfl, ?_⟩
   rw [List.take_succ_eq_append_getElem hj, List.map_append, List.map_append]
   simp only [List.map_cons, List.map_nil, Prod.mk.injEq, and_true, true_and]
   refine tabN_congr fun i hi => ?_
   rw [cntR_app, hrow]
   by_cases h : row < i
   ·rw [if_pos h, if_pos (by omega)]; omega
   ·rw [if_neg h, if_neg (by omega)]; omega)
  (by
   rintro _ rfl
   refine ⟨.inl (tabN k (fun i => ((cntR s.l i : Nat) : Int)), s.l.map (·.2.1), s.l.map (·.2.2)), ?_, rfl⟩
   simp only [ref07_built_b1]
   rw [if_neg (by omega), List.take_length]) 0 (Nat.zero_le _) (0, tabN k (fun _ => 0), [], []) rfl
 rw [q1, q2]; rfl
theorem split_lt {l : List E3} (h : l.Pairwise fun a b => a.1 ≤ b.1) (k : Int) : (l.filter fun x => decide (x.1 < k)) ++ (l.filter fun x => !decide (x.1 < k)) = l := by
 induction l with
 | nil => rfl
 | cons x l ih =>
  rw [List.pairwise_cons] at h
  have ih := ih h.2
  by_cases c : x.1 < k
  ·rw [List.filter_cons_of_pos (by simp [c]), List.filter_cons_of_neg (by simp [c]), List.cons_append, ih]
  ·have e1 : (l.filter fun x => decide (x.1 < k)) = [] := by
    rw [List.filter_eq_nil_iff]
    intro y hy
    have := h.1 y hy
    simp; omega
   rw [e1, List.nil_append] at ih
   rw [List.filter_cons_of_neg (by simp [c]), List.filter_cons_of_pos (by simp [c]), e1, List.nil_append, ih]
theorem take_lt {l : List E3} (h : l.Pairwise fun a b => a.1 ≤ b.1) (k : Nat) : l.take (cntR l k) = (l.filter fun x => decide (x.1 < (k : Int))) ∧ l.drop (cntR l k) = l.filter fun x => !decide (x.1 < (k : Int)) := by
 have e := split_lt h (k : Int)
 have hl : cntR l k = (l.filter fun x => decide (x.1 < (k : Int))).length := by unfold cntR; rw [List.countP_eq_length_filter]
 have key : ∀ A B : List E3, A ++ B = l → l.take A.length = A ∧ l.drop A.length = B := by
  rintro A B rfl
  exact ⟨List.take_left, List.drop_left⟩
 rw [hl]
 exact key _ _ e
def rowE (l : List E3) (i : Nat) : List E3 := (l.filter fun x => !decide (x.1 < (i : Int))).filter fun x => decide (x.1 < ((i + 1 : Nat) : Int))
theorem rowE_mem {l : List E3} {i : Nat} {x : E3} : x ∈ rowE l i ↔ x ∈ l ∧ x.1 = (i : Int) := by
 unfold rowE
 simp only [List.mem_filter, Bool.not_eq_true', decide_eq_false_iff_not, decide_eq_true_eq]
 constructor
 ·rintro ⟨⟨h1, h2⟩, h3⟩; exact ⟨h1, by omega⟩
 ·rintro ⟨h1, h2⟩; exact ⟨⟨h1, by omega⟩, by omega⟩
theorem rises_le {l : List E3} (h : rises l) : l.Pairwise fun a b => a.1 ≤ b.1 := h.imp fun hb => by rw [bel_iff] at hb; omega
theorem row_cut {l : List E3} (h : rises l) (i : Nat) : cntR l i ≤ cntR l (i + 1) ∧ (l.drop (cntR l i)).take (cntR l (i + 1) - cntR l i) = rowE l i := by
 have hle := rises_le h
 have e1 := (take_lt hle i).2
 have hmono : cntR l i ≤ cntR l (i + 1) := by
  unfold cntR
  refine List.countP_mono_left fun x _ hx => ?_
  simp only [decide_eq_true_eq] at hx ⊢; omega
 refine ⟨hmono, ?_⟩
 rw [e1]
 have hg : (l.filter fun x => !decide (x.1 < (i : Int))).Pairwise fun a b => a.1 ≤ b.1 := hle.sublist List.filter_sublist
 have e2 := (take_lt hg (i + 1)).1
 have hc : cntR (l.filter fun x => !decide (x.1 < (i : Int))) (i + 1) = cntR l (i + 1) - cntR l i := by
  have h1 : cntR l (i + 1) = cntR (l.filter fun x => decide (x.1 < (i : Int))) (i + 1) + cntR (l.filter fun x => !decide (x.1 < (i : Int))) (i + 1) := by
   conv => lhs; rw [← split_lt hle (i : Int)]
   unfold cntR
   rw [List.countP_append]
  have h2 : cntR (l.filter fun x => decide (x.1 < (i : Int))) (i + 1) = cntR l i := by
   unfold cntR
   rw [List.countP_filter]
   refine List.countP_congr fun x _ => ?_
   simp only [Bool.and_eq_true, decide_eq_true_eq]
   omega
  omega
 rw [← hc, e2]; rfl
theorem row_sorted {l : List E3} (h : rises l) (i : Nat) : ((rowE l i).map (·.2.1)).Pairwise (· < ·) := by
 rw [List.pairwise_map]
 have hs : rises (rowE l i) := h.sublist (List.filter_sublist.trans List.filter_sublist)
 refine hs.imp_of_mem fun {a b} ha hb hab => ?_
 have h1 := (rowE_mem.1 ha).2
 have h2 := (rowE_mem.1 hb).2
 rw [bel_iff] at hab; omega
theorem cutL_map {α β : Type} (f : α → β) (l : List α) (a b : Int) : cutL (l.map f) a b = (cutL l a b).map f := by unfold cutL; rw [← List.map_drop, ← List.map_take]
theorem matV_right {n c : Int} (hn : 0 ≤ n ∧ n ≤ 4096) (hc : 0 ≤ c ∧ c ≤ 4096) {l : List E3} (hl : l.length ≤ 65536) (h : rises l) (hp : ∀ x ∈ l, (0 ≤ x.1 ∧ x.1 < n) ∧ 0 ≤ x.2.1 ∧ x.2.1 < c) : rightM (matV n c l) = true := by
 have h0 : cntR l 0 = 0 := by
  unfold cntR
  rw [List.countP_eq_zero]
  intro x hx
  have := (hp x hx).1.1
  simp; omega
 have hN : cntR l n.toNat = l.length := by
  unfold cntR
  rw [List.countP_eq_length]
  intro x hx
  have := (hp x hx).1.2
  simp; omega
 unfold rightM matV
 simp only [mo_l, Bool.and_eq_true, decide_eq_true_eq, sizeF_iff, List.length_map, tabN_len]
 refine ⟨hn, hc, by omega, ?_, trivial, hl, ?_, ?_⟩
 ·rw [tabN_getD _ (Nat.zero_le _), h0]; rfl
 ·rw [tabN_getD _ (Nat.le_refl _), hN]
 ·refine all_range.2 fun i hi => ?_
  unfold rowOk
  rw [tabN_getD _ (by omega), tabN_getD _ (by omega)]
  obtain ⟨r1, r2⟩ := row_cut h i
  have hle := cntR_le l (i + 1)
  simp only [Bool.and_eq_true, decide_eq_true_eq, List.length_map]
  refine ⟨by omega, by omega, by omega, ?_⟩
  have e : cutL (l.map (·.2.1)) ((cntR l i : Nat) : Int) ((cntR l (i + 1) : Nat) : Int) = (rowE l i).map (·.2.1) := by
   rw [cutL_map]
   unfold cutL
   rw [Int.toNat_natCast, Int.toNat_natCast, r2]
  rw [e]
  exact asc_map (fun _ => 0) (row_sorted h i) fun p hp' => by
   obtain ⟨x, hx, rfl⟩ := List.mem_map.1 hp'
   have := (hp x (rowE_mem.1 hx).1).2
   omega
theorem matV_ok {n c : Int} (hn : 0 ≤ n ∧ n ≤ 4096) {l : List E3} (hl : l.length ≤ 65536) (hv : ∀ x ∈ l, i64r x.2.2) : OkM (matV n c l) := by
 refine ⟨.inr rfl, ok_mo _, ok_mo _, fun y hy => ?_, ?_, ?_, ?_⟩
 ·unfold matV at hy
  simp only [mo_l] at hy
  obtain ⟨x, hx, rfl⟩ := List.mem_map.1 hy
  exact hv x hx
 ·unfold matV; simp only [tabN_len]; omega
 ·unfold matV; simp only [mo_l, List.length_map]; omega
 ·unfold matV; simp only [mo_l, List.length_map]; omega
theorem of_spec {r n c : Int} (hr : okR r = true) (hn : 0 ≤ n ∧ n ≤ 4096) (hc : 0 ≤ c ∧ c ≤ 4096) {s : Sl E3} (hs : okS 3 s) (hl : s.l.length ≤ 65536) (hp : ∀ x ∈ s.l, (0 ≤ x.1 ∧ x.1 < n) ∧ 0 ≤ x.2.1 ∧ x.2.1 < c) :
  ref07_Of r n c s = some ((0, 0, nilS, nilS, nilS), 12) ∨ ∃ l, ref07_Of r n c s = some (matV n c l, 0) ∧ l.length ≤ s.l.length ∧ rises l ∧ placed s.l l ∧ ∀ x ∈ l, i64r x.2.2 := by
 have hr' : (decide (1 ≤ r) && decide (r ≤ 5)) = true := hr
 unfold ref07_Of
 simp only [ref02_Is_eq, Option.bind_some]
 rw [if_pos hr', if_neg (by omega), if_neg (by omega), if_neg (by omega), if_neg (by omega), if_neg (by omega)]
 obtain ⟨q, q1, q2⟩ := loop_up (b := ref07_Of_b1 n c s) s.l.length (fun j st => st = (s.l.take j, (j : Int))) (fun q => q = .inl s.l)
  (by
   rintro j _ hj rfl
   have ej := at_get hs hj
   obtain ⟨p1, p2⟩ := hp _ (List.getElem_mem hj)
   rw [List.take_succ_eq_append_getElem hj]
   generalize s.l[j] = x at ej p1 p2
   obtain ⟨x1, x2, x3⟩ := x
   simp only at p1 p2
   have ap : app (s.l.take j) [(x1, x2, x3)] = some (s.l.take j ++ [(x1, x2, x3)]) := app_ok (by simp; unfold bound; omega)
   simp only [ref07_Of_b1, ej, Option.bind_some, ap, w_succ hj (by omega)]
   rw [if_pos (by omega), if_neg (by omega), if_neg (by omega), if_neg (by omega), if_neg (by omega)]
   exact .inl ⟨_, rfl, rfl⟩)
  (by
   rintro _ rfl
   refine ⟨.inl s.l, ?_, rfl⟩
   simp only [ref07_Of_b1]
   rw [if_neg (by omega), List.take_length]) 0 (Nat.zero_le _) ([], 0) rfl
 rw [q1, q2]
 simp only [Option.bind_some, Sum.elim_inl]
 rcases combine_spec hr (s2 := mo 3 s.l) (ok_mo _) (by rw [mo_l]; exact hl) with h | ⟨l, h, g1, g2, g3, g4⟩
 ·left
  rw [h]
  simp only [Option.bind_some]
  rw [if_pos (by decide)]; rfl
 ·right
  rw [mo_l] at g1 g3
  refine ⟨l, ?_, g1, g2, g3, g4⟩
  rw [h]
  simp only [Option.bind_some]
  rw [if_neg (by decide)]
  obtain ⟨q, q1, q2⟩ := loop_up (b := ref07_Of_b2 (mo 3 l)) l.length (fun j st => st = (l.take j, (j : Int))) (fun q => q = .inl l)
   (by
    rintro j _ hj rfl
    have ej := at_mo (w := 3) (List.getElem?_eq_getElem hj)
    have ap : app (l.take j) [l[j]] = some (l.take j ++ [l[j]]) := app_ok (by simp; unfold bound; omega)
    have ap' : app (l.take j) [(l[j].1, l[j].2.1, l[j].2.2)] = some (l.take j ++ [l[j]]) := ap
    simp only [ref07_Of_b2, ej, Option.bind_some, ap', w_succ hj (by omega), mo_l]
    rw [if_pos (by omega)]
    exact .inl ⟨_, rfl, by rw [List.take_succ_eq_append_getElem hj]⟩)
   (by
    rintro _ rfl
    refine ⟨.inl l, ?_, rfl⟩
    simp only [ref07_Of_b2, mo_l]
    rw [if_neg (by omega), List.take_length]) 0 (Nat.zero_le _) ([], 0) rfl
  rw [q1, q2]
  simp only [Option.bind_some, Sum.elim_inl]
  rw [built_eq hn (ok_mo _) (by rw [mo_l]; omega) (by
   rw [mo_l]
   intro x hx
   obtain ⟨y, y1, y2, y3⟩ := g3 x hx
   have := (hp y y1).1
   rw [← y2]; exact this)]
  simp only [Option.bind_some, mo_l]
def size40 (n : Int) : Int := n.tmod 40
theorem law07_Size_eq {n : Int} (h : 0 ≤ n ∧ n ≤ 255) : law07_Size n = some (size40 n) ∧ 0 ≤ size40 n ∧ size40 n < 40 := by
 unfold law07_Size size40 modO
 rw [wrap64 (by omega) (by omega), if_pos (by decide), Int.tmod_eq_emod_of_nonneg (by omega)]
 exact ⟨rfl, by omega, by omega⟩
theorem some_mat (a : Int × Int) (ha : (0 ≤ a.1 ∧ a.1 ≤ 255) ∧ 0 ≤ a.2 ∧ a.2 ≤ 255) (s : Sl E3) (hs : okS 3 s) (hl : s.l.length ≤ 9223372036854775807) : ∃ l, law07_Some a s = some (matV (size40 a.1) (size40 a.2) l) ∧ l.length ≤ 60 ∧ rises l ∧ (∀ x ∈ l, (0 ≤ x.1 ∧ x.1 < size40 a.1) ∧ 0 ≤ x.2.1 ∧ x.2.1 < size40 a.2) ∧ ∀ x ∈ l, i64r x.2.2 := by
 obtain ⟨a1, a2⟩ := a
 simp only at ha
 obtain ⟨z1, z2, z3⟩ := law07_Size_eq ha.1
 obtain ⟨y1, y2, y3⟩ := law07_Size_eq ha.2
 have hfew : ∃ t : Sl E3, law07_Few s = some t ∧ okS 3 t ∧ t.l.length ≤ 60 := by
  unfold law07_Few
  by_cases c : ((s.l.length : Nat) : Int) > 60
  ·rw [if_pos c]
   have hc : cutS 3 s 0 60 = some ⟨s.nn, s.sz, s.l.take 60⟩ := by
    unfold cutS
    rw [if_pos ⟨by omega, by omega, by omega, .inr rfl⟩]; rfl
   rw [hc]
   exact ⟨_, rfl, by
    rcases hs with h | h
    ·left; simp [h]
    ·exact .inr h, by simp; omega⟩
  ·rw [if_neg c]; exact ⟨s, rfl, hs, by omega⟩
 obtain ⟨t, t1, t2, t3⟩ := hfew
 unfold law07_Some
 simp only [z1, y1, t1, Option.bind_some]
 generalize size40 a1 = n at z2 z3 ⊢
 generalize size40 a2 = c at y2 y3 ⊢
 obtain ⟨q, q1, u, rfl, u1, u2⟩ := loop_up (b := law07_Some_b1 n c t) t.l.length (fun j st => ∃ u : List E3, st = (u, (j : Int)) ∧ u.length ≤ j ∧ ∀ x ∈ u, (0 ≤ x.1 ∧ x.1 < n) ∧ 0 ≤ x.2.1 ∧ x.2.1 < c) (fun q => ∃ u : List E3, q = .inl u ∧ u.length ≤ t.l.length ∧ ∀ x ∈ u, (0 ≤ x.1 ∧ x.1 < n) ∧ 0 ≤ x.2.1 ∧ x.2.1 < c)
  (by
   rintro j _ hj ⟨u, rfl, g1, g2⟩
   have ej := at_get t2 hj
   generalize t.l[j] = x at ej
   simp only [law07_Some_b1, ej, Option.bind_some, w_succ hj (by omega)]
   rw [if_pos (by omega)]
   by_cases c1 : x.1 < 0
   ·rw [if_pos c1]; exact .inl ⟨_, rfl, u, rfl, by omega, g2⟩
   by_cases c2 : x.2.1 < 0
   ·rw [if_neg c1, if_pos c2]; exact .inl ⟨_, rfl, u, rfl, by omega, g2⟩
   by_cases c3 : n = 0
   ·rw [if_neg c1, if_neg c2, if_pos c3]; exact .inl ⟨_, rfl, u, rfl, by omega, g2⟩
   by_cases c4 : c = 0
   ·rw [if_neg c1, if_neg c2, if_neg c3, if_pos c4]; exact .inl ⟨_, rfl, u, rfl, by omega, g2⟩
   rw [if_neg c1, if_neg c2, if_neg c3, if_neg c4]
   have m1 : modO x.1 n = some (x.1 % n) := by unfold modO; rw [if_pos c3, Int.tmod_eq_emod_of_nonneg (by omega)]
   have m2 : modO x.2.1 c = some (x.2.1 % c) := by unfold modO; rw [if_pos c4, Int.tmod_eq_emod_of_nonneg (by omega)]
   have ap : ∀ z : E3, app u [z] = some (u ++ [z]) := fun z => app_ok (by simp; unfold bound; omega)
   simp only [m1, m2, Option.bind_some, ap]
   refine .inl ⟨_, rfl, _, rfl, by simp; omega, fun y hy => ?_⟩
   rcases List.mem_append.1 hy with hy | hy
   ·exact g2 y hy
   ·simp only [List.mem_cons, List.not_mem_nil, or_false] at hy
    subst hy
    have h1 := Int.emod_nonneg x.1 c3
    have h2 := Int.emod_lt_of_pos x.1 (show 0 < n by omega)
    have h3 := Int.emod_nonneg x.2.1 c4
    have h4 := Int.emod_lt_of_pos x.2.1 (show 0 < c by omega)
    exact ⟨⟨h1, h2⟩, h3, h4⟩)
  (by
   rintro _ ⟨u, rfl, g1, g2⟩
   refine ⟨.inl u, ?_, u, rfl, g1, g2⟩
   simp only [law07_Some_b1]
   rw [if_neg (by omega)]) 0 (Nat.zero_le _) ([], 0) ⟨[], rfl, Nat.le_refl _, fun x hx => by simp at hx⟩
 rw [q1]
 simp only [Option.bind_some, Sum.elim_inl]
 rcases of_spec (r := 1) (by decide) (n := n) (c := c) ⟨by omega, by omega⟩ ⟨by omega, by omega⟩ (s := mo 3 u) (ok_mo _) (by rw [mo_l]; omega) (by rw [mo_l]; exact u2) with h | ⟨l, h, g1, g2, g3, g4⟩
 ·refine ⟨[], ?_, by simp, List.Pairwise.nil, fun x hx => by simp at hx, fun x hx => by simp at hx⟩
  rw [h]
  simp only [Option.bind_some, nilS]
  rw [if_pos (by decide), wrap64 (by omega) (by omega)]
  have hlo : lenOk (n + 1) = some () := by unfold lenOk bound; rw [if_pos ⟨by omega, by omega⟩]
  rw [hlo]
  simp only [Option.bind_some]
  unfold matV
  rw [show (n + 1).toNat = n.toNat + 1 by omega, tabN_zero]
  rfl
 ·rw [mo_l] at g1 g3
  refine ⟨l, ?_, by omega, g2, fun x hx => ?_, g4⟩
  ·rw [h]
   simp only [Option.bind_some]
   unfold matV
   simp only
   rw [if_neg (by decide)]
  ·obtain ⟨y, k1, k2, k3⟩ := g3 x hx
   have := u2 y k1
   rw [← k2, ← k3]; exact this
theorem law09_Some_at (n : Int) (s : Sl It) (hn : 0 ≤ n ∧ n ≤ 255) (hok : okS 2 s) (hl : s.l.length ≤ 9223372036854775807) (hv : ∀ x ∈ s.l, i64r x.2) : ∃ v, law09_Some n s = some v ∧ GoodV v ∧ v.1 = n.tmod 60 := by
 unfold law09_Some
 have hw : IntKind.i64.wrap n = n := wrap64 (by omega) (by omega)
 obtain ⟨k, hk, k0, k1, k2⟩ : ∃ k, modO n 60 = some k ∧ 0 ≤ k ∧ k < 60 ∧ k = n.tmod 60 := by
  refine ⟨n.tmod 60, by unfold modO; rw [if_pos (by omega)], ?_, ?_, rfl⟩
  ·exact Int.tmod_nonneg _ hn.1
  ·exact Int.tmod_lt_of_pos _ (by omega)
 rw [hw, hk]
 simp only [Option.bind_some]
 obtain ⟨q, h1, l, rfl, h2, h3⟩ := loop_up (b := law09_Some_b1 s k) (if 0 < k then min s.l.length 60 else 0) (fun j a => ∃ l, a = (l, (j : Int)) ∧ l.length ≤ j ∧ ∀ x ∈ l, 0 ≤ x.1 ∧ x.1 < k ∧ i64r x.2) (fun q => ∃ l, q = .inl l ∧ l.length ≤ 60 ∧ ∀ x ∈ l, 0 ≤ x.1 ∧ x.1 < k ∧ i64r x.2)
  (by
   rintro j _ hj ⟨l, rfl, hlj, hlk⟩
   have hk0 : 0 < k := by
    by_cases c : 0 < k
    ·exact c
    ·rw [if_neg c] at hj; omega
   rw [if_pos hk0] at hj
   have hj1 : j < s.l.length := by omega
   have hj2 : j < 60 := by omega
   simp only [law09_Some_b1, at_get hok hj1, Option.bind_some, w_succ hj1 (by omega)]
   rw [if_pos (by omega), if_pos (by omega), if_pos (by omega)]
   by_cases c : s.l[j].1 ≥ 0
   ·rw [if_pos c]
    have hm : modO s.l[j].1 k = some (s.l[j].1.tmod k) := by unfold modO; rw [if_pos (by omega)]
    have ha : app l [(s.l[j].1.tmod k, s.l[j].2)] = some (l ++ [(s.l[j].1.tmod k, s.l[j].2)]) := app_ok (by simp; unfold bound; omega)
    simp only [hm, ha, Option.bind_some]
    refine .inl ⟨_, rfl, _, rfl, by simp; omega, fun x hx => ?_⟩
    rcases List.mem_append.1 hx with hx | hx
    ·exact hlk x hx
    ·simp only [List.mem_singleton] at hx
     subst hx
     exact ⟨Int.tmod_nonneg _ c, Int.tmod_lt_of_pos _ hk0, by have := hv s.l[j] (List.getElem_mem hj1); exact this⟩
   ·rw [if_neg c]
    exact .inl ⟨_, rfl, l, rfl, by omega, hlk⟩)
  (by
   rintro _ ⟨l, rfl, hlj, hlk⟩
   have hb : l.length ≤ 60 := by
    by_cases c : 0 < k
    ·rw [if_pos c] at hlj; omega
    ·rw [if_neg c] at hlj; omega
   refine ⟨.inl l, ?_, l, rfl, hb, hlk⟩
   simp only [law09_Some_b1]
   by_cases c : 0 < k
   ·rw [if_pos c]
    by_cases c1 : ((min s.l.length 60 : Nat) : Int) < (s.l.length : Int)
    ·rw [if_pos c1, if_neg (by omega)]
    ·rw [if_neg c1]
   ·rw [if_neg c]
    by_cases c1 : ((0 : Nat) : Int) < (s.l.length : Int)
    ·rw [if_pos c1, if_pos (by omega), if_neg (by omega)]
    ·rw [if_neg c1]) 0 (Nat.zero_le _) ([], 0) ⟨[], rfl, Nat.le_refl _, fun x hx => by simp at hx⟩
 rw [h1]
 simp only [Option.bind_some, Sum.elim_inl]
 obtain ⟨v, e, g1, g2, g3⟩ := ref09_Of_min k (mo 2 l) (ok_mo _) k0 (by omega) (by rw [mo_l]; omega) (fun x hx => h3 x (by rw [mo_l] at hx; exact hx))
 rw [g1]
 exact ⟨_, rfl, g2, by rw [g3, k2]⟩
theorem good_mo {n : Int} {r : List It} (h0 : 0 ≤ n) (h1 : n ≤ 4096) (ha : asc (-1) n r = true) (hr : ∀ x ∈ r, i64r x.2) : GoodV (n, mo 2 r) := by
 refine ⟨?_, ok_mo _, by simpa only [mo_l] using hr⟩
 unfold rightB sizeB
 simp only [mo_l, ha, decide_eq_true h0, decide_eq_true h1, Bool.and_self]
abbrev Tk := Int × (Int × Int) × Sl E3 × Sl It × Sl It × Sl Int × Bool
structure OkT (t : Tk) : Prop where
 n1 : 0 ≤ t.2.1.1 ∧ t.2.1.1 ≤ 255
 n2 : 0 ≤ t.2.1.2 ∧ t.2.1.2 ≤ 255
 l : okS 3 t.2.2.1
 ll : t.2.2.1.l.length ≤ 9223372036854775807
 x : okS 2 t.2.2.2.1
 xl : t.2.2.2.1.l.length ≤ 9223372036854775807
 xv : ∀ q ∈ t.2.2.2.1.l, i64r q.2
 y : okS 2 t.2.2.2.2.1
 yl : t.2.2.2.2.1.l.length ≤ 9223372036854775807
 yv : ∀ q ∈ t.2.2.2.2.1.l, i64r q.2
 f : okS 1 t.2.2.2.2.2.1
 fu : u64s t.2.2.2.2.2.1.l
def rightR (r : Int) : Int := if r < 1 then 1 else if r > 5 then 1 else r
theorem rightR_ok (r : Int) : okR (rightR r) = true := by
 unfold rightR okR
 split
 ·decide
 ·split
  ·decide
  ·rw [decide_eq_true (by omega), decide_eq_true (by omega)]; rfl
theorem law13_Right_eq (r : Int) : law13_Right r = some (rightR r) := by
 unfold law13_Right rightR
 split
 ·rfl
 ·split <;> rfl
theorem andI_i64 (a b : Int) : i64r (andI .i64 a b) := by unfold andI; exact i64_wrap _
def valR (r n : Int) : Int := if r = 5 then n else if r = 2 then andI .i64 n 1 else if (andI .i64 n 4611686018427387903).tmod 5 = 0 then 4611686018427387904 else andI .i64 n 4611686018427387903
theorem law02_Value_eq (r n : Int) : law02_Value r n = some (valR r n) := by
 unfold law02_Value valR modO
 split
 ·rfl
 ·split
  ·rfl
  ·rw [if_pos (by decide)]
   simp only [Option.bind_some]
   split <;> rfl
theorem valR_i64 {r n : Int} (h : i64r n) : i64r (valR r n) := by
 unfold valR
 split
 ·exact h
 ·split
  ·exact andI_i64 _ _
  ·split
   ·unfold i64r; omega
   ·exact andI_i64 _ _
def facR (r n : Int) : Int := if r = 5 then n.tmod 2147483648 else valR r n
theorem law02_Factor_eq (r n : Int) : law02_Factor r n = some (facR r n) := by
 unfold law02_Factor facR modO
 split
 ·rw [if_pos (by decide)]; rfl
 ·rw [law02_Value_eq]; rfl
theorem facR_i64 {r n : Int} (h : i64r n) : i64r (facR r n) := by
 unfold facR
 split
 ·have h1 := Int.tmod_lt_of_pos n (show (0 : Int) < 2147483648 by decide)
  have h2 := Int.lt_tmod_of_pos n (show (0 : Int) < 2147483648 by decide)
  unfold i64r; omega
 ·exact valR_i64 h
def mapE (f : Int → Int) (l : List E3) : List E3 := l.map fun x => (x.1, x.2.1, f x.2.2)
theorem mapE_len (f : Int → Int) (l : List E3) : (mapE f l).length = l.length := by unfold mapE; simp
theorem mapE_rises {f : Int → Int} {l : List E3} (h : rises l) : rises (mapE f l) := by
 unfold mapE rises
 rw [List.pairwise_map]
 refine h.imp fun hb => ?_
 rw [bel_iff] at hb ⊢; exact hb
theorem mapE_mat (n c : Int) (f : Int → Int) (l : List E3) : matV n c (mapE f l) = (n, c, (matV n c l).2.2.1, (matV n c l).2.2.2.1, mo 1 ((l.map (·.2.2)).map f)) := by
 unfold matV mapE
 have e : ∀ k, cntR (l.map fun x => (x.1, x.2.1, f x.2.2)) k = cntR l k := fun k => by
  unfold cntR
  rw [List.countP_map]; rfl
 simp only [e, List.map_map]
 rfl
theorem task_mat (t : Tk) (h : OkT t) : ∃ l, law13_Task_Matrix t = some (matV (size40 t.2.1.1) (size40 t.2.1.2) (mapE (facR (rightR t.1)) l)) ∧ l.length ≤ 60 ∧ rises l ∧ (∀ x ∈ l, (0 ≤ x.1 ∧ x.1 < size40 t.2.1.1) ∧ 0 ≤ x.2.1 ∧ x.2.1 < size40 t.2.1.2) ∧ ∀ x ∈ l, i64r x.2.2 := by
 obtain ⟨r, ⟨n1, n2⟩, s, x, y, f, o⟩ := t
 obtain ⟨h1, h2, h3, h4, _, _, _, _, _, _, _, _⟩ := h
 simp only at h1 h2 h3 h4 ⊢
 obtain ⟨l, e, g1, g2, g3, g4⟩ := some_mat (n1, n2) ⟨h1, h2⟩ s h3 h4
 simp only at e g3
 refine ⟨l, ?_, g1, g2, g3, g4⟩
 rw [mapE_mat]
 unfold law13_Task_Matrix
 unfold matV at e ⊢
 simp only [e, Option.bind_some, law13_Right_eq]
 have hvl : (l.map (·.2.2)).length ≤ 60 := by simpa using g1
 generalize l.map (·.2.2) = v at hvl
 obtain ⟨q, q1, q2⟩ := loop_up (b := law13_Task_Matrix_b1 (mo 1 v) (rightR r)) v.length (fun j st => st = ((v.take j).map (facR (rightR r)), (j : Int))) (fun q => q = .inl (v.map (facR (rightR r))))
  (by
   rintro j _ hj rfl
   have ej := at_mo (w := 1) (List.getElem?_eq_getElem hj)
   have ap : ∀ z, app ((v.take j).map (facR (rightR r))) [z] = some ((v.take j).map (facR (rightR r)) ++ [z]) := fun z => app_ok (by simp; unfold bound; omega)
   simp only [law13_Task_Matrix_b1, ej, Option.bind_some, law02_Factor_eq, ap, mo_l, w_succ hj (by omega)]
   rw [if_pos (by omega)]
   exact .inl ⟨_, rfl, by rw [List.take_succ_eq_append_getElem hj, List.map_append]; rfl⟩)
  (by
   rintro _ rfl
   refine ⟨.inl (v.map (facR (rightR r))), ?_, rfl⟩
   simp only [law13_Task_Matrix_b1, mo_l]
   rw [if_neg (by omega), List.take_length]) 0 (Nat.zero_le _) ([], 0) rfl
 rw [q1, q2]; rfl
structure TaskM (t : Tk) (m : Mx) : Prop where
 e : law13_Task_Matrix t = some m
 ok : OkM m
 right : rightM m = true
 n : m.1 = size40 t.2.1.1
 c : m.2.1 = size40 t.2.1.2
theorem task_m (t : Tk) (h : OkT t) : ∃ m, TaskM t m := by
 obtain ⟨l, e, g1, g2, g3, g4⟩ := task_mat t h
 obtain ⟨_, a2, a3⟩ := law07_Size_eq h.n1
 obtain ⟨_, b2, b3⟩ := law07_Size_eq h.n2
 refine ⟨_, e, matV_ok ⟨by omega, by omega⟩ (by rw [mapE_len]; omega) fun x hx => ?_, matV_right ⟨by omega, by omega⟩ ⟨by omega, by omega⟩ (by rw [mapE_len]; omega) (mapE_rises g2) fun x hx => ?_, rfl, rfl⟩
 ·unfold mapE at hx
  obtain ⟨y, hy, rfl⟩ := List.mem_map.1 hx
  exact facR_i64 (g4 y hy)
 ·unfold mapE at hx
  obtain ⟨y, hy, rfl⟩ := List.mem_map.1 hx
  exact g3 y hy
theorem asc_mapV {n : Int} {f : Int → Int} : ∀ {l : List It} {a : Int}, asc a n l = true → asc a n (l.map fun x => (x.1, f x.2)) = true
 | [], _, _ => rfl
 | x :: l, a, h => by
  simp only [List.map_cons, asc, Bool.and_eq_true, decide_eq_true_eq] at h ⊢
  exact ⟨h.1, asc_mapV h.2⟩
theorem task_vec (t : Tk) (h : OkT t) (s : Sl It) (hs : okS 2 s) (hl : s.l.length ≤ 9223372036854775807) (hv : ∀ q ∈ s.l, i64r q.2) : ∃ u : Sl It, law13_Task_Vector t s = some (size40 t.2.1.2, u) ∧ GoodV (size40 t.2.1.2, u) ∧ ∃ w : List It, GoodV (size40 t.2.1.2, mo 2 w) ∧ u = mo 2 (w.map fun x => (x.1, valR (rightR t.1) x.2)) := by
 obtain ⟨r, ⟨n1, n2⟩, s4, x, y, f, o⟩ := t
 have h2 := h.n2
 simp only at h2 ⊢
 obtain ⟨z1, z2, z3⟩ := law07_Size_eq h2
 have hw8 : IntKind.u8.wrap (size40 n2) = size40 n2 := by
  have : IntKind.u8.wrap (size40 n2) = size40 n2 % 256 := by simp [IntKind.wrap, IntKind.signed, IntKind.bits]
  rw [this]; omega
 obtain ⟨⟨k, t⟩, e1, g1, g2⟩ := law09_Some_at (size40 n2) s ⟨by omega, by omega⟩ hs hl hv
 have hk : k = size40 n2 := by
  simp only at g2
  rw [g2, Int.tmod_eq_emod_of_nonneg (by omega)]; omega
 subst hk
 have hz := right_size g1.1
 have hlen := right_len g1.1
 simp only at hlen
 refine ⟨mo 2 (t.l.map fun x => (x.1, valR (rightR r) x.2)), ?_, ?_, t.l, ?_, rfl⟩
 ·unfold law13_Task_Vector
  simp only [z1, hw8, e1, Option.bind_some]
  have hok : okS 2 t := g1.2.1
  obtain ⟨q, q1, q2⟩ := loop_up (b := law13_Task_Vector_b1 r t) t.l.length (fun j st => st = ((t.l.take j).map (fun x => (x.1, valR (rightR r) x.2)), (j : Int))) (fun q => q = .inl (t.l.map fun x => (x.1, valR (rightR r) x.2)))
   (by
    rintro j _ hj rfl
    have ej := at_get hok hj
    have ap : ∀ z : It, app ((t.l.take j).map (fun x => (x.1, valR (rightR r) x.2))) [z] = some ((t.l.take j).map (fun x => (x.1, valR (rightR r) x.2)) ++ [z]) := fun z => app_ok (by simp; unfold bound; omega)
    simp only [law13_Task_Vector_b1, ej, Option.bind_some, law13_Right_eq, law02_Value_eq, ap, w_succ hj (by omega)]
    rw [if_pos (by omega)]
    exact .inl ⟨_, rfl, by rw [List.take_succ_eq_append_getElem hj, List.map_append]; rfl⟩)
   (by
    rintro _ rfl
    refine ⟨.inl (t.l.map fun x => (x.1, valR (rightR r) x.2)), ?_, rfl⟩
    simp only [law13_Task_Vector_b1]
    rw [if_neg (by omega), List.take_length]) 0 (Nat.zero_le _) ([], 0) rfl
  rw [q1, q2]; rfl
 ·refine good_mo hz.1 hz.2 (asc_mapV (right_asc g1.1)) fun x hx => ?_
  obtain ⟨y, hy, rfl⟩ := List.mem_map.1 hx
  exact valR_i64 (g1.2.2 y hy)
 ·exact good_mo hz.1 hz.2 (right_asc g1.1) g1.2.2
theorem task_rows (t : Tk) (h : OkT t) : ∃ s : Sl Int, law13_Task_Rows t = some s ∧ okS 1 s ∧ u64s s.l := by
 obtain ⟨r, ⟨n1, n2⟩, s4, x, y, f, o⟩ := t
 have h1 := h.f
 have h2 := h.fu
 simp only at h1 h2
 unfold law13_Task_Rows
 simp only
 by_cases c : ((f.l.length : Nat) : Int) > 2
 ·rw [if_pos c]
  have hc : cutS 1 f 0 2 = some ⟨f.nn, f.sz, f.l.take 2⟩ := by
   unfold cutS
   rw [if_pos ⟨by omega, by omega, by omega, .inr rfl⟩]; rfl
  rw [hc]
  refine ⟨_, rfl, ?_, fun w hw => h2 w (List.mem_of_mem_take hw)⟩
  rcases h1 with h | h
  ·left; simp [h]
  ·exact .inr h
 ·rw [if_neg c]; exact ⟨f, rfl, h1, h2⟩
theorem okT_of {t : Tk} (h : inK .i64 t.1 ∧ (inK .u8 t.2.1.1 ∧ inK .u8 t.2.1.2) ∧ SlW 3 (fun x : E3 => inK .i64 x.1 ∧ inK .i64 x.2.1 ∧ inK .i64 x.2.2) t.2.2.1 ∧ SlW 2 (fun x : It => inK .i64 x.1 ∧ inK .i64 x.2) t.2.2.2.1 ∧ SlW 2 (fun x : It => inK .i64 x.1 ∧ inK .i64 x.2) t.2.2.2.2.1 ∧ SlW 1 (fun x => inK .u64 x) t.2.2.2.2.2.1 ∧ True) : OkT t := by
 obtain ⟨_, ⟨h1, h2⟩, h3, h4, h5, h6, _⟩ := h
 exact ⟨u8_of h1, u8_of h2, h3.ok, h3.2.2.1, h4.ok, h4.2.2.1, fun q hq => i64r_of (h4.2.2.2 q hq).2, h5.ok, h5.2.2.1, fun q hq => i64r_of (h5.2.2.2 q hq).2, h6.ok, u64s_of h6⟩
theorem sumsL_filter (r : Int) (h : Int → Option Int) (m : Mx) (ask : Nat → Bool) (n : Nat) : sumsL r h m ask n = (sumsL r h m (fun _ => true) n).filter fun x => ask x.1.toNat := by
 induction n with
 | zero => rfl
 | succ n ih =>
  rw [sumsL_succ, sumsL_succ, List.filter_append, ih]
  congr 1
  unfold sumI
  rw [if_pos rfl]
  cases hs : rowSum r h (itemsM m n) none with
  | none => cases ask n <;> rfl
  | some w =>
   by_cases c : ask n = true
   ·rw [if_pos c]
    simp [c]
   ·rw [if_neg c]
    simp [c]
theorem rowSum_none {r : Int} {h : Int → Option Int} (hn : ∀ k, h k = none) : ∀ l, rowSum r h l none = none
 | [] => rfl
 | x :: l => by
  show rowSum r h l (stepS r h none x) = none
  unfold stepS
  rw [hn]
  exact rowSum_none hn l
theorem sumsL_none {r : Int} {h : Int → Option Int} (hn : ∀ k, h k = none) (m : Mx) (ask : Nat → Bool) (n : Nat) : sumsL r h m ask n = [] := by
 unfold sumsL
 rw [List.filterMap_eq_nil_iff]
 intro i _
 unfold sumI
 rw [rowSum_none hn]
 split <;> rfl
theorem filt_at {α : Type} {P : α → Bool} {l : List α} {t : Nat} (ht : t < l.length) (hp : P l[t] = true) : (l.filter P)[(l.take t).countP P]? = some l[t] := by
 have e : l = l.take t ++ l[t] :: l.drop (t + 1) := by
  rw [← List.drop_eq_getElem_cons ht, List.take_append_drop]
 have e2 : l.filter P = (l.take t).filter P ++ l[t] :: (l.drop (t + 1)).filter P := by
  conv => lhs; rw [e]
  rw [List.filter_append, List.filter_cons_of_pos hp]
 rw [e2, List.countP_eq_length_filter, List.getElem?_append_right (Nat.le_refl _), Nat.sub_self]; rfl
theorem count_succ {α : Type} {P : α → Bool} {l : List α} {t : Nat} (ht : t < l.length) : (l.take (t + 1)).countP P = (l.take t).countP P + if P l[t] = true then 1 else 0 := by
 rw [List.take_succ_eq_append_getElem ht, List.countP_append]
 congr 1
 by_cases h : P l[t] = true
 ·rw [if_pos h]; simp [h]
 ·rw [if_neg h]; simp [h]
theorem ref10_New_eq {k : Int} (hk : 0 ≤ k ∧ k ≤ 4096) : ∃ d : Dn, ref10_New k = some d ∧ OkD d ∧ rightD d = true ∧ d.1 = k ∧ ∀ p, denB d p = none := by
 obtain ⟨n, rfl⟩ := Int.eq_ofNat_of_zero_le hk.1
 have hnew : ref03_New (n : Int) = some (List.replicate (((n : Int) + 63) / 64).toNat 0) := by
  unfold ref03_New
  have hlo : lenOk (((n : Int) + 63) / 64) = some () := by unfold lenOk bound; rw [if_pos ⟨by omega, by omega⟩]
  simp only [ref03_words_eq (n := (n : Int)) ⟨by omega, by omega⟩, hlo, Option.bind_some]
 have hlo : lenOk (n : Int) = some () := by unfold lenOk bound; rw [if_pos ⟨by omega, by omega⟩]
 unfold ref10_New
 rw [if_neg (by omega), if_neg (by omega)]
 simp only [hnew, hlo, Option.bind_some, Int.toNat_natCast]
 have hz : ∀ i, hasB (List.replicate (((n : Int) + 63) / 64).toNat 0) i = false := fun i => has_zero _ i
 have hpl : placesL (List.replicate (((n : Int) + 63) / 64).toNat 0) = [] := by
  refine List.eq_nil_iff_forall_not_mem.2 fun p hp => ?_
  have := (places_mem.1 hp).2
  rw [hz] at this; simp at this
 refine ⟨_, rfl, ⟨.inr rfl, fun x hx => ?_, .inr rfl, fun x hx => ?_, by simp only [List.length_replicate]; omega, by simp only [List.length_replicate]; omega⟩, ?_, rfl, fun p => ?_⟩
 ·rw [List.eq_of_mem_replicate hx]; unfold u64r; omega
 ·rw [List.eq_of_mem_replicate hx]; unfold i64r; omega
 ·unfold rightD rightF
  simp only [List.length_replicate, hpl, List.all_nil, Bool.and_true, Bool.and_eq_true, decide_eq_true_eq]
  refine ⟨⟨sizeF_iff2.2 ⟨by omega, by omega⟩, by omega⟩, trivial, all_range.2 fun i hi => ?_⟩
  rw [List.getD_eq_getElem?_getD, List.getElem?_replicate, if_pos hi]; rfl
 ·unfold denB
  simp only
  rw [hz, if_neg (fun h => by simp at h)]
theorem sureM_id {m : Mx} (h : rightM m = true) : sureM m = m := by unfold sureM; rw [if_pos h]
theorem sureD_id {d : Dn} (h : rightD d = true) : sureD d = d := by unfold sureD; rw [if_pos h]
theorem sumsV_eq {r : Int} {m : Mx} {d : Dn} (hr : okR r = true) (hm : rightM m = true) (hd : rightD d = true) (hc : d.1 = m.2.1) (ws : List Int) (o : Bool) : sumsV r m d ws o = (mo 3 (sumsL r (denB d) m (askB ws o) m.1.toNat), 0) := by
 unfold sumsV
 rw [if_pos hr, sureM_id hm, sureD_id hd, if_pos hc]
theorem law13_PullParts_true (t : Tk) (ht : inK .i64 t.1 ∧ (inK .u8 t.2.1.1 ∧ inK .u8 t.2.1.2) ∧ SlW 3 (fun x : E3 => inK .i64 x.1 ∧ inK .i64 x.2.1 ∧ inK .i64 x.2.2) t.2.2.1 ∧ SlW 2 (fun x : It => inK .i64 x.1 ∧ inK .i64 x.2) t.2.2.2.1 ∧ SlW 2 (fun x : It => inK .i64 x.1 ∧ inK .i64 x.2) t.2.2.2.2.1 ∧ SlW 1 (fun x => inK .u64 x) t.2.2.2.2.2.1 ∧ True) : law13_PullParts t = some true := by
 have OT := okT_of ht
 obtain ⟨m, e1, o1, rm, mn, mc⟩ := task_m t OT
 obtain ⟨u, e2, o2, _⟩ := task_vec t OT t.2.2.2.1 OT.x OT.xl OT.xv
 obtain ⟨d, e3, o3, rd, dn, _⟩ := ref10_Of_eq o2
 obtain ⟨f, e4, o4, o5⟩ := task_rows t OT
 have hc : d.1 = m.2.1 := by rw [dn, mc]
 obtain ⟨⟨z1, z2⟩, ⟨z3, z4⟩, _⟩ := rightM_spec rm
 obtain ⟨d0, e5, p3, rd0, dn0, den0⟩ := ref10_New_eq ⟨z3, z4⟩
 have hR := rightR_ok t.1
 have f1 := fun o => pull_Sums_eq (r := rightR t.1) o1 o3 o4 o5 o
 have f2 := pull_Sums_eq (r := rightR t.1) o1 o3 (s := nilS) ok_nil (fun x hx => by simp [nilS] at hx) true
 have f3 := pull_Sums_eq (r := rightR t.1) o1 p3 (s := nilS) ok_nil (fun x hx => by simp [nilS] at hx) true
 have k0 : sumsV (rightR t.1) m d0 (nilS : Sl Int).l true = (mo 3 [], 0) := by
  rw [sumsV_eq hR rm rd0 dn0, sumsL_none den0]
 rw [k0] at f3
 have k1 := sumsV_eq hR rm rd hc f.l false
 have k2 := sumsV_eq hR rm rd hc f.l true
 have k3 := sumsV_eq hR rm rd hc (nilS : Sl Int).l true
 have hall : sumsL (rightR t.1) (denB d) m (askB (nilS : Sl Int).l true) m.1.toNat = sumsL (rightR t.1) (denB d) m (fun _ => true) m.1.toNat := by
  have e : askB (nilS : Sl Int).l true = fun _ => true := by funext i; rfl
  rw [e]
 have hlen := sumsL_len (rightR t.1) (denB d) m (fun _ => true) m.1.toNat
 rw [sumsL_filter] at k1 k2
 rw [hall] at k3
 generalize sumsL (rightR t.1) (denB d) m (fun _ => true) m.1.toNat = A at k1 k2 k3 hlen
 have g1 := f1 false
 have g2 := f1 true
 rw [k1] at g1
 rw [k2] at g2
 rw [k3] at f2
 have eP : (fun x : Int × Wd => askB f.l false x.1.toNat) = fun x => hasB f.l x.1.toNat := by
  funext x; unfold askB; cases hasB f.l x.1.toNat <;> rfl
 have eN : (fun x : Int × Wd => askB f.l true x.1.toNat) = fun x => !hasB f.l x.1.toNat := by
  funext x; unfold askB; cases hasB f.l x.1.toNat <;> rfl
 rw [eP] at g1
 rw [eN] at g2
 generalize hPd : (fun x : Int × Wd => hasB f.l x.1.toNat) = P at g1
 have hNd : (fun x : Int × Wd => !hasB f.l x.1.toNat) = fun x => !P x := by rw [← hPd]
 rw [hNd] at g2
 have hsum : (A.filter P).length + (A.filter fun x => !P x).length = A.length := by
  clear k1 k2 k3 g1 g2 f2 hlen hall
  induction A with
  | nil => rfl
  | cons x l ih => cases hb : P x <;> simp [List.filter_cons, hb] at ih ⊢ <;> omega
 generalize hN : (fun x : Int × Wd => !P x) = Nn at g2 hsum
 have hNP : ∀ x, Nn x = !P x := fun x => by rw [← hN]
 have hloop : loopO (law13_PullParts_b1 (mo 3 (A.filter P)) (mo 3 (A.filter Nn)) (mo 3 A)) (0, 0, 0) = some (.inl ()) := by
  obtain ⟨q, q1, q2⟩ := loop_up (b := law13_PullParts_b1 (mo 3 (A.filter P)) (mo 3 (A.filter Nn)) (mo 3 A)) A.length (fun j a => a = ((((A.take j).countP P : Nat) : Int), (((A.take j).countP Nn : Nat) : Int), (j : Int))) (fun q => q = .inl ())
   (by
    rintro j _ hj rfl
    have ej := at_mo (w := 3) (List.getElem?_eq_getElem hj)
    have c1 := count_succ (P := P) hj
    have c2 := count_succ (P := Nn) hj
    rw [hNP] at c2
    have b1 : (A.take j).countP P ≤ (A.filter P).length := by rw [← List.countP_eq_length_filter]; exact List.Sublist.countP_le (List.take_sublist _ _)
    have b2 : (A.take j).countP Nn ≤ (A.filter Nn).length := by rw [← List.countP_eq_length_filter]; exact List.Sublist.countP_le (List.take_sublist _ _)
    cases hb : P A[j] with
    | true =>
     have ha := filt_at (P := P) hj hb
     have hlt := (List.getElem?_eq_some_iff.1 ha).1
     have ea := at_mo (w := 3) ha
     rw [hb, if_pos rfl] at c1
     rw [hb] at c2
     simp only [Bool.not_true, Bool.false_eq_true, if_false, Nat.add_zero] at c2
     simp only [law13_PullParts_b1, ej, ea, Option.bind_some, mo_l, w_succ hj (by omega), w_succ hlt (by omega)]
     rw [if_pos (by omega), if_pos (by omega), if_pos (by simp)]
     exact .inl ⟨_, rfl, by rw [c1, c2]⟩
    | false =>
     have ha : (A.filter Nn)[(A.take j).countP Nn]? = some A[j] := filt_at (P := Nn) hj (by rw [hNP, hb]; rfl)
     have hlt : (A.take j).countP Nn < (A.filter Nn).length := (List.getElem?_eq_some_iff.1 ha).1
     have ea := at_mo (w := 3) ha
     rw [hb] at c1 c2
     simp only [Bool.not_false, if_true, Bool.false_eq_true, if_false, Nat.add_zero] at c1 c2
     by_cases hi : (A.take j).countP P < (A.filter P).length
     ·have ep := at_mo (w := 3) (List.getElem?_eq_getElem hi)
      have hpp : P (A.filter P)[(A.take j).countP P] = true := (List.mem_filter.1 (List.getElem_mem hi)).2
      have hne : (A.filter P)[(A.take j).countP P] ≠ A[j] := fun e => by rw [e, hb] at hpp; simp at hpp
      generalize (A.filter P)[(A.take j).countP P] = v at ep hne
      generalize A[j] = x at ej ea hne
      simp only [law13_PullParts_b1, ej, ea, ep, Option.bind_some, mo_l, w_succ hj (by omega), w_succ hlt (by omega)]
      rw [if_pos (by omega), if_pos (by omega), if_neg (fun h => hne (Prod.ext h.1 (Prod.ext h.2.1 h.2.2))), if_pos (by omega), if_pos (by simp)]
      exact .inl ⟨_, rfl, by rw [c1, c2]⟩
     ·simp only [law13_PullParts_b1, ej, ea, Option.bind_some, mo_l, w_succ hj (by omega), w_succ hlt (by omega)]
      rw [if_pos (by omega), if_neg (by omega), if_pos (by omega), if_pos (by simp)]
      exact .inl ⟨_, rfl, by rw [c1, c2]⟩)
   (by
    rintro _ rfl
    refine ⟨.inl (), ?_, rfl⟩
    simp only [law13_PullParts_b1, mo_l]
    rw [if_neg (by omega)]) 0 (Nat.zero_le _) (0, 0, 0) rfl
  rw [q1, q2]
 obtain ⟨r, ⟨n1, n2⟩, s4, x, y, fs, o⟩ := t
 unfold law13_PullParts
 simp only at e1 e2 e3 e4 g1 g2 f2 f3 ⊢
 rw [show (⟨false, 0, []⟩ : Sl Int) = nilS from rfl]
 obtain ⟨m1, m2, m3, m4, m5⟩ := m
 obtain ⟨da, db, dc⟩ := d
 obtain ⟨d0a, d0b, d0c⟩ := d0
 simp only at e5 ⊢
 simp only [law13_Right_eq, e1, e2, e3, e4, e5, g1, g2, f2, f3, Option.bind_some, mo_l, FL_eq3]
 rw [if_neg (by decide), if_neg (by decide), if_neg (by decide), if_neg (by decide)]
 rw [wrap64 (by omega) (by omega), if_neg (fun h => h (by omega)), if_neg (fun h => h rfl), hloop]
 rfl
end Ev
end Go.Proofs.YtlcfdmjkbaegpaaDoor
