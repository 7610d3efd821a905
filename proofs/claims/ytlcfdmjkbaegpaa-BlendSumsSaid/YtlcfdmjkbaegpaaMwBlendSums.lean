/- BlendSums: mathematics. Over the functions on data; no number of a type or function is named. -/
import Derived.Test.YtlcfdmjkbaegpaaLf1
import Derived.Test.YtlcfdmjkbaegpaaLf10
import Derived.Test.YtlcfdmjkbaegpaaLf11
import Derived.Test.YtlcfdmjkbaegpaaLf12
import Derived.Test.YtlcfdmjkbaegpaaLf2
import Derived.Test.YtlcfdmjkbaegpaaLf5
import Derived.Test.YtlcfdmjkbaegpaaLf6
import Derived.Test.YtlcfdmjkbaegpaaLw3
import Derived.Test.YtlcfdmjkbaegpaaEvS5
namespace Go.Proofs.Ytlcfdmjkbaegpaa
namespace Ev
open Go
set_option linter.unusedVariables false
set_option linter.unusedSimpArgs false
abbrev It := Int × Int
def WIt (x : It) : Prop := inK .i64 x.1 ∧ inK .i64 x.2
def WV (v : Int × Sl It) : Prop := inK .i64 v.1 ∧ SlW 2 WIt v.2
def okS {α : Type} (w : Nat) (s : Sl α) : Prop := s.l = [] ∨ s.sz = w
theorem SlW.ok {α : Type} {w : Nat} {Q : α → Prop} {s : Sl α} (h : SlW w Q s) : okS w s := .inr h.1
def nilS {α : Type} : Sl α := ⟨false, 0, []⟩
theorem ok_nil {α : Type} {w : Nat} : okS w (nilS : Sl α) := .inl rfl
theorem ok_mo {α : Type} {w : Nat} (l : List α) : okS w (mo w l) := by cases l with | nil => exact .inl rfl | cons x l => exact .inr rfl
/-- Do places rise, and stand below n? -/
def asc : Int → Int → List It → Bool
  | _, _, [] => true
  | a, n, x :: l => decide (a < x.1) && decide (x.1 < n) && asc x.1 n l
def sizeB (n : Int) : Bool := decide (0 ≤ n) && decide (n ≤ 4096)
def rightB (v : Int × Sl It) : Bool := sizeB v.1 && asc (-1) v.1 v.2.l
def sureV (v : Int × Sl It) : Int × Sl It := if rightB v = true then v else (0, nilS)
theorem sureV_ok {v : Int × Sl It} (h : okS 2 v.2) : okS 2 (sureV v).2 := by unfold sureV; split; exact h; exact ok_nil
theorem sureV_right (v : Int × Sl It) : rightB (sureV v) = true := by unfold sureV; split; assumption; rfl
theorem asc_lt {n : Int} : ∀ {a : Int} {l : List It}, asc a n l = true → ∀ x ∈ l, a < x.1 ∧ x.1 < n
  | a, y :: l, h, x, hx => by
    simp only [asc, Bool.and_eq_true, decide_eq_true_eq] at h
    rcases List.mem_cons.1 hx with rfl | hx
    · exact ⟨h.1.1, h.1.2⟩
    · have := asc_lt h.2 x hx; omega
theorem asc_len {n : Int} : ∀ {a : Int} {l : List It}, asc a n l = true → (l.length : Int) ≤ max (n - a - 1) 0
  | a, [], h => by simp; omega
  | a, y :: l, h => by
    simp only [asc, Bool.and_eq_true, decide_eq_true_eq] at h
    have := asc_len h.2
    simp only [List.length_cons]; omega
theorem right_len {v : Int × Sl It} (h : rightB v = true) : v.2.l.length ≤ 4096 := by
  simp only [rightB, sizeB, Bool.and_eq_true, decide_eq_true_eq] at h
  have := asc_len h.2; omega
theorem sure_len (v : Int × Sl It) : (sureV v).2.l.length ≤ 4096 := right_len (sureV_right v)

theorem spvec_size_eq (n : Int) : spvec_size n = some (sizeB n) := by
  unfold spvec_size sizeB
  by_cases h1 : n ≥ 0
  · rw [if_pos h1]
    by_cases h2 : n ≤ 4096
    · rw [if_pos h2, decide_eq_true (show 0 ≤ n from h1), decide_eq_true h2]; rfl
    · rw [if_neg h2, decide_eq_false h2]; simp
  · rw [if_neg h1, decide_eq_false (show ¬ 0 ≤ n from h1)]; rfl
theorem spvec_Right_eq (v : Int × Sl It) (hok : okS 2 v.2) (hl : v.2.l.length ≤ 9223372036854775807) : spvec_Right v = some (rightB v) := by
  obtain ⟨n, s⟩ := v
  unfold spvec_Right rightB
  simp only [spvec_size_eq, Option.bind_some]
  cases hs : sizeB n with
  | false => simp
  | true =>
    simp only [if_true, Bool.true_and]
    obtain ⟨r, h1, h2⟩ := loop_up (b := spvec_Right_b1 n s) s.l.length (fun j a => ∃ la, a = (la, (j : Int)) ∧ asc (-1) n s.l = asc la n (s.l.drop j)) (fun r => (asc (-1) n s.l = true ∧ r = .inl ()) ∨ (asc (-1) n s.l = false ∧ r = .inr false))
      (by
        rintro j _ hj ⟨la, rfl, ha⟩
        rw [List.drop_eq_getElem_cons hj] at ha
        simp only [asc] at ha
        simp only [spvec_Right_b1, at_get hok hj, Option.bind_some, w_succ hj (by simp only at hl; omega)]
        rw [if_pos (by omega)]
        by_cases c1 : s.l[j].1 ≤ la
        · refine .inr ⟨_, if_pos c1, .inr ⟨?_, rfl⟩⟩
          rw [ha, decide_eq_false (by omega)]; rfl
        · rw [if_neg c1]
          by_cases c2 : s.l[j].1 ≥ n
          · refine .inr ⟨_, if_pos c2, .inr ⟨?_, rfl⟩⟩
            rw [ha, decide_eq_false (p := s.l[j].1 < n) (by omega)]; simp
          · refine .inl ⟨_, if_neg c2, _, rfl, ?_⟩
            rw [ha, decide_eq_true (by omega), decide_eq_true (by omega)]; rfl)
      (by
        rintro _ ⟨la, rfl, ha⟩
        refine ⟨_, if_neg (by omega), .inl ⟨?_, rfl⟩⟩
        rw [ha]; simp [asc]) 0 (Nat.zero_le _) (-1, 0) ⟨-1, rfl, rfl⟩
    rw [h1]
    rcases h2 with ⟨h3, rfl⟩ | ⟨h3, rfl⟩ <;> simp [h3]
/-- The reference's way to see whether places rise. -/
theorem asc_iff {n : Int} {l : List It} : ∀ {a : Int}, asc a n l = true ↔ ∀ j (h : j < l.length), (if h0 : j = 0 then a < l[j].1 else l[j - 1].1 < l[j].1) ∧ l[j].1 < n := by
  induction l with
  | nil => intro a; simp [asc]
  | cons x l ih =>
    intro a
    simp only [asc, Bool.and_eq_true, decide_eq_true_eq, ih]
    constructor
    · rintro ⟨⟨h1, h2⟩, h3⟩ j hj
      cases j with
      | zero => exact ⟨by simpa using h1, by simpa using h2⟩
      | succ j =>
        have := h3 j (by simpa using hj)
        refine ⟨?_, by simpa using this.2⟩
        rw [dif_neg (by omega)]
        cases j with
        | zero => simpa using this.1
        | succ j => have := this.1; rw [dif_neg (by omega)] at this; simpa using this
    · intro h
      have h0 := h 0 (by simp)
      refine ⟨⟨by simpa using h0.1, by simpa using h0.2⟩, fun j hj => ?_⟩
      have := h (j + 1) (by simpa using hj)
      rw [dif_neg (by omega)] at this
      refine ⟨?_, by simpa using this.2⟩
      cases j with
      | zero => simpa using this.1
      | succ j => rw [dif_neg (by omega)]; simpa using this.1
theorem asc_iff' {n : Int} {l : List It} : asc (-1) n l = true ↔ ∀ j (h : j < l.length), 0 ≤ l[j].1 ∧ l[j].1 < n ∧ (j ≠ 0 → l[j - 1].1 < l[j].1) := by
  constructor
  · intro h j hj
    have h1 := asc_lt h l[j] (List.getElem_mem hj)
    have h2 := (asc_iff.1 h j hj).1
    exact ⟨by omega, h1.2, fun h0 => by rw [dif_neg h0] at h2; exact h2⟩
  · intro h
    refine asc_iff.2 fun j hj => ⟨?_, (h j hj).2.1⟩
    split
    · have := (h j hj).1; omega
    · rename_i h0; exact (h j hj).2.2 h0
theorem ref09_Right_eq (v : Int × Sl It) (hok : okS 2 v.2) (hl : v.2.l.length ≤ 9223372036854775807) : ref09_Right v = some (rightB v) := by
  obtain ⟨n, s⟩ := v
  simp only at hl
  unfold ref09_Right rightB sizeB
  by_cases h1 : n < 0
  · simp only [if_pos h1, decide_eq_false (show ¬ 0 ≤ n by omega)]; rfl
  by_cases h2 : n > 4096
  · simp only [if_neg h1, if_pos h2, decide_eq_false (show ¬ n ≤ 4096 by omega)]; simp
  simp only [if_neg h1, if_neg h2, decide_eq_true (show 0 ≤ n by omega), decide_eq_true (show n ≤ 4096 by omega), Bool.true_and]
  have hF : ∀ j (hj : j < s.l.length), ¬ (0 ≤ s.l[j].1 ∧ s.l[j].1 < n ∧ (j ≠ 0 → s.l[j - 1].1 < s.l[j].1)) → asc (-1) n s.l = false := fun j hj hh => by
    rw [Bool.eq_false_iff]; intro hc; exact hh (asc_iff'.1 hc j hj)
  obtain ⟨r, h3, h4⟩ := loop_up (b := ref09_Right_b1 n s) s.l.length (fun j a => a = (j : Int) ∧ ∀ i (h : i < s.l.length), i < j → 0 ≤ s.l[i].1 ∧ s.l[i].1 < n ∧ (i ≠ 0 → s.l[i - 1].1 < s.l[i].1)) (fun r => (asc (-1) n s.l = true ∧ r = .inl ()) ∨ (asc (-1) n s.l = false ∧ r = .inr false))
    (by
      rintro j _ hj ⟨rfl, ha⟩
      simp only [ref09_Right_b1, at_get hok hj, Option.bind_some, w_succ hj (by omega)]
      rw [if_pos (by omega)]
      by_cases c1 : s.l[j].1 < 0
      · exact .inr ⟨_, if_pos c1, .inr ⟨hF j hj (by omega), rfl⟩⟩
      rw [if_neg c1]
      by_cases c2 : s.l[j].1 ≥ n
      · exact .inr ⟨_, if_pos c2, .inr ⟨hF j hj (by omega), rfl⟩⟩
      rw [if_neg c2]
      by_cases c3 : (j : Int) > 0
      · rw [if_pos c3]
        have e : IntKind.i64.wrap ((j : Int) - 1) = ((j - 1 : Nat) : Int) := by rw [wrap64 (by omega) (by omega)]; omega
        rw [e, at_get hok (show j - 1 < s.l.length by omega)]
        simp only [Option.bind_some]
        by_cases c4 : s.l[j].1 ≤ s.l[j - 1].1
        · exact .inr ⟨_, if_pos c4, .inr ⟨hF j hj (fun hh => by have := hh.2.2 (by omega); omega), rfl⟩⟩
        · refine .inl ⟨_, if_neg c4, rfl, fun i hi hij => ?_⟩
          by_cases hh : i = j
          · subst hh; exact ⟨by omega, by omega, fun _ => by omega⟩
          · exact ha i hi (by omega)
      · refine .inl ⟨_, if_neg c3, rfl, fun i hi hij => ?_⟩
        by_cases hh : i = j
        · subst hh; exact ⟨by omega, by omega, fun _ => by omega⟩
        · exact ha i hi (by omega))
    (by
      rintro _ ⟨rfl, ha⟩
      exact ⟨_, if_neg (by omega), .inl ⟨asc_iff'.2 fun j hj => ha j hj hj, rfl⟩⟩) 0 (Nat.zero_le _) 0 ⟨rfl, fun i _ h => absurd h (by omega)⟩
  rw [h3]
  rcases h4 with ⟨h5, rfl⟩ | ⟨h5, rfl⟩ <;> simp [h5]
theorem ref09_Sure_eq (v : Int × Sl It) (hok : okS 2 v.2) (hl : v.2.l.length ≤ 9223372036854775807) : ref09_Sure v = some (sureV v) := by
  obtain ⟨n, s⟩ := v
  unfold ref09_Sure sureV
  simp only [ref09_Right_eq (n, s) hok hl, Option.bind_some]
  split <;> rfl
/-- At most sixty items. -/
def fewV (v : Int × Sl It) : Int × Sl It := (v.1, if (v.2.l.length : Int) > 60 then ⟨v.2.nn, v.2.sz, v.2.l.take 60⟩ else v.2)
theorem law09_Few_eq (v : Int × Sl It) : law09_Few v = some (fewV v) := by
  obtain ⟨n, s⟩ := v
  unfold law09_Few fewV
  by_cases h : (s.l.length : Int) > 60
  · simp only [if_pos h]
    have : cutS 2 s 0 60 = some ⟨s.nn, s.sz, s.l.take 60⟩ := by
      unfold cutS; rw [if_pos ⟨by omega, by omega, by omega, .inr rfl⟩]; rfl
    rw [this]; rfl
  · simp only [if_neg h]
theorem few_ok {v : Int × Sl It} (h : okS 2 v.2) : okS 2 (fewV v).2 := by
  unfold fewV
  by_cases hc : (v.2.l.length : Int) > 60
  · simp only [if_pos hc]; rcases h with h | h; exact .inl (by simp [h]); exact .inr h
  · simp only [if_neg hc]; exact h
theorem few_len (v : Int × Sl It) : (fewV v).2.l.length ≤ 60 := by
  unfold fewV
  by_cases hc : (v.2.l.length : Int) > 60
  · simp only [if_pos hc]; simp; omega
  · simp only [if_neg hc]; omega
def i64r (n : Int) : Prop := -9223372036854775808 ≤ n ∧ n ≤ 9223372036854775807
def u64r (n : Int) : Prop := 0 ≤ n ∧ n ≤ 18446744073709551615
theorem i64r_of {n : Int} (h : inK .i64 n) : i64r n := by simpa [inK, i64r, Lit.wf, IntKind.min, IntKind.max, IntKind.signed, IntKind.bits] using h
theorem WV.ok {v : Int × Sl It} (h : WV v) : okS 2 v.2 := h.2.ok
theorem WV.vals {v : Int × Sl It} (h : WV v) : ∀ x ∈ v.2.l, i64r x.2 := fun x hx => i64r_of (h.2.2.2.2 x hx).2
theorem wrap_u64 (n : Int) : IntKind.u64.wrap n = n % 18446744073709551616 := by
  simp [IntKind.wrap, IntKind.signed, IntKind.bits]
theorem u64_wrap (n : Int) : u64r (IntKind.u64.wrap n) := by rw [wrap_u64]; unfold u64r; omega
theorem u64_id {n : Int} (h : u64r n) : IntKind.u64.wrap (IntKind.i64.wrap n) = n := by rw [wrap_u64, IntKind.wrap_i64]; unfold u64r at h; omega
def ofW (n : Int) : Int × Int := (if n < 0 then -1 else 0, IntKind.u64.wrap n)
theorem wide_Of_eq {n : Int} (h : i64r n) : wide_Of n = some (ofW n) := by
  unfold wide_Of shr1 ofW shrI
  rw [if_pos (by omega)]
  have e : (2 : Int) ^ (min (63 : Int).toNat IntKind.i64.bits) = 9223372036854775808 := by decide
  rw [e]
  unfold i64r at h
  have : n.fdiv 9223372036854775808 = if n < 0 then -1 else 0 := by
    rw [Int.fdiv_eq_ediv_of_nonneg _ (by omega)]
    split <;> omega
  rw [this]; rfl
theorem ref01_Of_eq (n : Int) : ref01_Of n = some (ofW n) := by
  unfold ref01_Of ofW
  by_cases h : n < 0
  · simp only [if_pos h]
  · simp only [if_neg h]
theorem ofW_lo (n : Int) : u64r (ofW n).2 := u64_wrap n
/-- Which of two is less. -/
def lessW (a b : Int × Int) : Bool := decide (a.1 < b.1) || (decide (a.1 = b.1) && decide (a.2 < b.2))
theorem wide_Compare_lt (a b : Int × Int) : ∃ c, wide_Compare a b = some c ∧ (c < 0 ↔ lessW a b = true) := by
  obtain ⟨a1, a2⟩ := a; obtain ⟨b1, b2⟩ := b
  unfold wide_Compare lessW
  simp only
  by_cases h1 : a1 = b1 ∧ a2 = b2
  · rw [if_pos h1]; exact ⟨0, rfl, by simp; omega⟩
  rw [if_neg h1]
  by_cases h2 : a1 < b1
  · rw [if_pos h2]; exact ⟨-1, rfl, by simp [h2]⟩
  rw [if_neg h2]
  by_cases h3 : a1 = b1
  · rw [if_pos h3]
    by_cases h4 : a2 < b2
    · rw [if_pos h4]; exact ⟨-1, rfl, by simp [h3, h4]⟩
    · rw [if_neg h4]; exact ⟨1, rfl, by simp [h3]; omega⟩
  · rw [if_neg h3]; exact ⟨1, rfl, by simp [h3]; omega⟩
theorem ref01_Compare_lt (a b : Int × Int) : ∃ c, ref01_Compare a b = some c ∧ (c < 0 ↔ lessW a b = true) := by
  obtain ⟨a1, a2⟩ := a; obtain ⟨b1, b2⟩ := b
  unfold ref01_Compare lessW
  simp only
  by_cases h2 : a1 < b1
  · rw [if_pos h2]; exact ⟨-1, rfl, by simp [h2]⟩
  rw [if_neg h2]
  by_cases h3 : a1 = b1
  · rw [if_pos h3]
    by_cases h4 : a2 < b2
    · rw [if_pos h4]; exact ⟨-1, rfl, by simp [h3, h4]⟩
    · rw [if_neg h4]
      by_cases h5 : a1 = b1 ∧ a2 = b2
      · rw [if_pos h5]; exact ⟨0, rfl, by simp [h3]; omega⟩
      · rw [if_neg h5]; exact ⟨1, rfl, by simp [h3]; omega⟩
  · rw [if_neg h3]
    by_cases h5 : a1 = b1 ∧ a2 = b2
    · exact absurd h5.1 h3
    · rw [if_neg h5]; exact ⟨1, rfl, by simp [h3]; omega⟩
def lessrW (a b : Int × Int) : Int × Int := if lessW b a = true then b else a
def truthW (b : Bool) : Int × Int := if b = true then (0, 1) else (0, 0)
def addW (a b : Int × Int) : Int × Int := if IntKind.u64.wrap (a.2 + b.2) < a.2 then (IntKind.i64.wrap (IntKind.i64.wrap (a.1 + b.1) + 1), IntKind.u64.wrap (a.2 + b.2)) else (IntKind.i64.wrap (a.1 + b.1), IntKind.u64.wrap (a.2 + b.2))
/-- What two come to, by a ring. -/
def ringAdd (r : Int) (a b : Int × Int) : Int × Int :=
  if r = 1 ∨ r = 3 ∨ r = 4 then lessrW a b else if r = 2 then truthW (!(decide (a.1 = 0 ∧ a.2 = 0) && decide (b.1 = 0 ∧ b.2 = 0))) else if r = 5 then addW a b else (0, 0)
theorem ring_lesser_eq (a b : Int × Int) : ring_lesser a b = some (lessrW a b) := by
  obtain ⟨a1, a2⟩ := a; obtain ⟨b1, b2⟩ := b
  unfold ring_lesser lessrW
  obtain ⟨c, h1, h2⟩ := wide_Compare_lt (b1, b2) (a1, a2)
  simp only [h1, Option.bind_some]
  by_cases hc : c < 0
  · rw [if_pos hc, if_pos (h2.1 hc)]
  · rw [if_neg hc, if_neg (fun h => hc (h2.2 h))]
theorem ring_truth_eq (b : Bool) : ring_truth b = some (truthW b) := by
  unfold ring_truth truthW
  cases b
  · rfl
  · simp only [if_true, wide_Of_eq (show i64r 1 by unfold i64r; omega), Option.bind_some]; rfl
theorem wide_Add_eq (a b : Int × Int) : wide_Add a b = some (addW a b) := by
  obtain ⟨a1, a2⟩ := a; obtain ⟨b1, b2⟩ := b
  unfold wide_Add addW
  simp only
  split <;> rfl
theorem ref01_Add_eq (a b : Int × Int) : ref01_Add a b = some (addW a b) := by
  obtain ⟨a1, a2⟩ := a; obtain ⟨b1, b2⟩ := b
  unfold ref01_Add addW
  simp only
  split <;> rfl
theorem ring_Add_eq (r : Int) (a b : Int × Int) : ring_Add r a b = some (ringAdd r a b) := by
  obtain ⟨a1, a2⟩ := a; obtain ⟨b1, b2⟩ := b
  unfold ring_Add ringAdd
  simp only [ring_lesser_eq, ring_truth_eq, wide_Add_eq, Option.bind_some]
  by_cases h1 : r = 1
  · simp only [if_pos h1, if_pos (show r = 1 ∨ r = 3 ∨ r = 4 from .inl h1)]
  by_cases h3 : r = 3
  · simp only [if_neg h1, if_pos h3, if_pos (show r = 1 ∨ r = 3 ∨ r = 4 from .inr (.inl h3))]
  by_cases h4 : r = 4
  · simp only [if_neg h1, if_neg h3, if_pos h4, if_pos (show r = 1 ∨ r = 3 ∨ r = 4 from .inr (.inr h4))]
  simp only [if_neg h1, if_neg h3, if_neg h4, if_neg (show ¬ (r = 1 ∨ r = 3 ∨ r = 4) by omega)]
  by_cases h2 : r = 2
  · simp only [if_pos h2]
    by_cases ha : a1 = 0 ∧ a2 = 0
    · by_cases hb : b1 = 0 ∧ b2 = 0
      · simp [if_pos ha, if_pos hb, ha, hb]
      · rw [if_pos ha, if_neg hb, decide_eq_true ha, decide_eq_false hb]; rfl
    · rw [if_neg ha, decide_eq_false ha]; rfl
  · simp only [if_neg h2]
    by_cases h5 : r = 5
    · simp only [if_pos h5]
    · simp only [if_neg h5]
theorem ref02_truth_eq (b : Bool) : ref02_truth b = some (truthW b) := by unfold ref02_truth truthW; cases b <;> rfl
theorem ref02_Add_eq (r : Int) (a b : Int × Int) : ref02_Add r a b = some (ringAdd r a b) := by
  obtain ⟨a1, a2⟩ := a; obtain ⟨b1, b2⟩ := b
  have hl : ((ref01_Compare (b1, b2) (a1, a2)).bind fun n => if n < 0 then some (b1, b2) else some (a1, a2)) = some (lessrW (a1, a2) (b1, b2)) := by
    obtain ⟨c, h1, h2⟩ := ref01_Compare_lt (b1, b2) (a1, a2)
    simp only [h1, Option.bind_some]
    unfold lessrW
    by_cases hc : c < 0
    · rw [if_pos hc, if_pos (h2.1 hc)]
    · rw [if_neg hc, if_neg (fun h => hc (h2.2 h))]
  unfold ref02_Add ringAdd
  simp only [hl, ref02_truth_eq, ref01_Add_eq, Option.bind_some]
  by_cases h1 : r = 1
  · simp only [if_pos h1, if_pos (show r = 1 ∨ r = 3 ∨ r = 4 from .inl h1)]
  by_cases h3 : r = 3
  · simp only [if_neg h1, if_pos h3, if_pos (show r = 1 ∨ r = 3 ∨ r = 4 from .inr (.inl h3))]
  by_cases h4 : r = 4
  · simp only [if_neg h1, if_neg h3, if_pos h4, if_pos (show r = 1 ∨ r = 3 ∨ r = 4 from .inr (.inr h4))]
  simp only [if_neg h1, if_neg h3, if_neg h4, if_neg (show ¬ (r = 1 ∨ r = 3 ∨ r = 4) by omega)]
  by_cases h2 : r = 2
  · simp only [if_pos h2]
    by_cases ha : a1 = 0 ∧ a2 = 0
    · by_cases hb : b1 = 0 ∧ b2 = 0
      · simp [if_pos ha, if_pos hb, ha, hb]
      · rw [if_pos ha, if_neg hb, decide_eq_true ha, decide_eq_false hb]; rfl
    · rw [if_neg ha, decide_eq_false ha]; rfl
  · simp only [if_neg h2]
    by_cases h5 : r = 5
    · simp only [if_pos h5]
    · simp only [if_neg h5]
theorem ringAdd_lo {r : Int} {a b : Int × Int} (ha : u64r a.2) (hb : u64r b.2) : u64r (ringAdd r a b).2 := by
  have h0 : u64r 0 := by unfold u64r; omega
  have h1 : u64r 1 := by unfold u64r; omega
  unfold ringAdd lessrW truthW addW
  split
  · split <;> assumption
  · split
    · split <;> assumption
    · split
      · split <;> exact u64_wrap _
      · exact h0
/-- A wide number as one of 64 bits. -/
def narrowW (a : Int × Int) : Int × Bool := if a = ofW (IntKind.i64.wrap a.2) then (IntKind.i64.wrap a.2, true) else (0, false)
theorem i64_wrap (n : Int) : i64r (IntKind.i64.wrap n) := by rw [IntKind.wrap_i64]; unfold i64r; omega
theorem ref01_Narrow_eq {a : Int × Int} (h : u64r a.2) : ref01_Narrow a = some (narrowW a) := by
  obtain ⟨a1, a2⟩ := a
  unfold ref01_Narrow narrowW ofW
  simp only [u64_id h, Prod.mk.injEq, and_true]
  by_cases hn : IntKind.i64.wrap a2 < 0
  · have hg : ¬ IntKind.i64.wrap a2 ≥ 0 := by omega
    simp only [if_pos hn, if_neg hg]
    by_cases h1 : a1 = 0
    · have : ¬ a1 = -1 := by omega
      simp only [if_pos h1, if_neg this]
    · simp only [if_neg h1]
      split <;> rfl
  · have hg : IntKind.i64.wrap a2 ≥ 0 := by omega
    simp only [if_neg hn, if_pos hg]
    by_cases h1 : a1 = 0
    · simp only [if_pos h1]
    · simp only [if_neg h1]
      split <;> rfl
theorem ring_Is_eq (r : Int) : ring_Is r = some (decide (1 ≤ r) && decide (r ≤ 5)) := by
  unfold ring_Is
  by_cases h1 : r ≥ 1
  · rw [if_pos h1, decide_eq_true (show 1 ≤ r from h1)]
    by_cases h2 : r ≤ 5
    · rw [if_pos h2, decide_eq_true h2]; rfl
    · rw [if_neg h2, decide_eq_false h2]; rfl
  · rw [if_neg h1, decide_eq_false (show ¬ 1 ≤ r from h1)]; rfl
theorem ref02_Is_eq (r : Int) : ref02_Is r = some (decide (1 ≤ r) && decide (r ≤ 5)) := ring_Is_eq r
def okR (r : Int) : Bool := decide (1 ≤ r) && decide (r ≤ 5)
/-- Alike: as many items, each the same. -/
theorem sameItems_refl (s : Sl It) (hok : okS 2 s) (hl : s.l.length ≤ 9223372036854775807) : ref07_SameItems s s = some true := by
  unfold ref07_SameItems
  rw [if_neg (by simp)]
  obtain ⟨q, h1, h2⟩ := loop_up (b := ref07_SameItems_b1 s s) s.l.length (fun j a => a = (j : Int)) (fun q => q = .inl ())
    (by
      rintro j _ hj rfl
      simp only [ref07_SameItems_b1, at_get hok hj, Option.bind_some, w_succ hj (by omega)]
      rw [if_pos (by omega)]
      exact .inl ⟨_, if_pos (by simp), rfl⟩)
    (by
      rintro _ rfl
      exact ⟨_, if_neg (by omega), rfl⟩) 0 (Nat.zero_le _) 0 rfl
  subst h2
  rw [h1]; rfl
theorem same_refl (v : Int × Sl It) (hok : okS 2 v.2) (hl : v.2.l.length ≤ 9223372036854775807) : ref09_Same v v = some true := by
  obtain ⟨n, s⟩ := v
  unfold ref09_Same
  simp only [if_true, sameItems_refl s hok hl, Option.bind_some]
/-- What stands at a place. -/
def getI (p : Int) : List It → Option Int
  | [] => none
  | x :: l => if x.1 = p then some x.2 else getI p l
def encO : Option Int → Int × Bool
  | some x => (x, true)
  | none => (0, false)
def itemO (p : Nat) : Option Int → Option It
  | some x => some ((p : Int), x)
  | none => none
/-- What a table has, from a place on. -/
def gathR (a k : Nat) (g : Nat → Option Int) : List It := (List.range' a k).filterMap fun p => itemO p (g p)
theorem gathR_zero (a : Nat) (g : Nat → Option Int) : gathR a 0 g = [] := rfl
theorem gathR_succ (a k : Nat) (g : Nat → Option Int) : gathR a (k + 1) g = (match g a with | some x => [((a : Int), x)] | none => []) ++ gathR (a + 1) k g := by
  unfold gathR
  rw [List.range'_succ, List.filterMap_cons]
  cases h : g a <;> simp [itemO, h]
theorem gathR_app (a k m : Nat) (g : Nat → Option Int) : gathR a (k + m) g = gathR a k g ++ gathR (a + k) m g := by
  unfold gathR
  rw [← List.range'_append_1, List.filterMap_append]
theorem gathR_last (a k : Nat) (g : Nat → Option Int) : gathR a (k + 1) g = gathR a k g ++ (match g (a + k) with | some x => [(((a + k : Nat) : Int), x)] | none => []) := by
  rw [gathR_app, gathR_succ, gathR_zero, List.append_nil]
theorem gathR_congr {a k : Nat} {g g' : Nat → Option Int} (h : ∀ p, a ≤ p → p < a + k → g p = g' p) : gathR a k g = gathR a k g' := by
  induction k generalizing a with
  | zero => rfl
  | succ k ih => rw [gathR_succ, gathR_succ, h a (Nat.le_refl _) (by omega), ih fun p h1 h2 => h p (by omega) (by omega)]
theorem gathR_none {a k : Nat} {g : Nat → Option Int} (h : ∀ p, a ≤ p → p < a + k → g p = none) : gathR a k g = [] := by
  induction k generalizing a with
  | zero => rfl
  | succ k ih => rw [gathR_succ, h a (Nat.le_refl _) (by omega), ih fun p h1 h2 => h p (by omega) (by omega)]; rfl
theorem gathR_mem {a k : Nat} {g : Nat → Option Int} {x : It} (h : x ∈ gathR a k g) : ∃ p : Nat, a ≤ p ∧ p < a + k ∧ x.1 = (p : Int) ∧ g p = some x.2 := by
  unfold gathR at h
  obtain ⟨p, hp, he⟩ := List.mem_filterMap.1 h
  rw [List.mem_range'_1] at hp
  cases hg : g p with
  | none => rw [hg] at he; simp [itemO] at he
  | some v => rw [hg] at he; simp only [itemO, Option.some.injEq] at he; subst he; exact ⟨p, hp.1, hp.2, rfl, hg⟩
theorem gathR_len (a k : Nat) (g : Nat → Option Int) : (gathR a k g).length ≤ k := by
  have := List.length_filterMap_le (fun p => itemO p (g p)) (List.range' a k)
  simpa [gathR] using this
theorem gathR_asc (a k : Nat) (g : Nat → Option Int) (b n : Int) (hb : b < (a : Int)) (hn : ((a + k : Nat) : Int) ≤ n) : asc b n (gathR a k g) = true := by
  induction k generalizing a b with
  | zero => rfl
  | succ k ih =>
    rw [gathR_succ]
    cases h : g a with
    | none => exact ih (a + 1) b (by omega) (by omega)
    | some v =>
      show (decide (b < (a : Int)) && decide ((a : Int) < n) && asc (a : Int) n (gathR (a + 1) k g)) = true
      rw [decide_eq_true hb, decide_eq_true (by omega), ih (a + 1) a (by omega) (by omega)]; rfl
theorem getI_none {p : Int} : ∀ {l : List It}, (∀ x ∈ l, x.1 ≠ p) → getI p l = none
  | [], _ => rfl
  | x :: l, h => by
    unfold getI
    rw [if_neg (h x List.mem_cons_self)]
    exact getI_none fun y hy => h y (List.mem_cons_of_mem _ hy)
theorem getI_gath (a k : Nat) (g : Nat → Option Int) (p : Nat) (h1 : a ≤ p) (h2 : p < a + k) : getI (p : Int) (gathR a k g) = g p := by
  induction k generalizing a with
  | zero => omega
  | succ k ih =>
    rw [gathR_succ]
    by_cases hp : a = p
    · subst hp
      cases h : g a with
      | some v => simp [getI]
      | none =>
        refine getI_none fun x hx => ?_
        obtain ⟨q, q1, q2, q3, q4⟩ := gathR_mem (by simpa using hx)
        omega
    · have := ih (a + 1) (by omega) (by omega)
      cases h : g a with
      | some v => simp only [List.singleton_append, getI]; rw [if_neg (by omega)]; exact this
      | none => exact this
/-- Rising items are what a table of them has. -/
theorem asc_gath {n : Int} : ∀ {l : List It} {a k : Nat}, asc ((a : Int) - 1) n l = true → ((a + k : Nat) : Int) = n → l = gathR a k fun p => getI (p : Int) l
  | [], a, k, h, hn => (gathR_none fun p _ _ => rfl).symm
  | x :: l, a, k, h, hn => by
    simp only [asc, Bool.and_eq_true, decide_eq_true_eq] at h
    obtain ⟨⟨h1, h2⟩, h3⟩ := h
    obtain ⟨q, hq⟩ : ∃ q : Nat, x.1 = (q : Int) := ⟨x.1.toNat, by omega⟩
    have hk : k = (q - a) + ((k - (q - a) - 1) + 1) := by omega
    rw [hk, gathR_app, gathR_succ]
    have e1 : gathR a (q - a) (fun p => getI (p : Int) (x :: l)) = [] := gathR_none fun p p1 p2 => by
      refine getI_none fun y hy => ?_
      rcases List.mem_cons.1 hy with rfl | hy
      · omega
      · have := asc_lt h3 y hy; omega
    have ea : a + (q - a) = q := by omega
    have e2 : getI ((a + (q - a) : Nat) : Int) (x :: l) = some x.2 := by unfold getI; rw [if_pos (by omega)]
    have h3' : asc (((q + 1 : Nat) : Int) - 1) n l = true := by rw [hq] at h3; simpa using h3
    have ih := asc_gath (k := k - (q - a) - 1) h3' (by omega)
    rw [e1, e2, ea]
    have e3 : gathR (q + 1) (k - (q - a) - 1) (fun p => getI (p : Int) (x :: l)) = l := by
      rw [gathR_congr (g' := fun p => getI (p : Int) l) fun p p1 p2 => by
        show getI (p : Int) (x :: l) = _
        rw [getI, if_neg (by omega)]]
      exact ih.symm
    rw [e3, List.nil_append, ← hq]; rfl
theorem right_size {n : Int} {s : Sl It} (h : rightB (n, s) = true) : 0 ≤ n ∧ n ≤ 4096 := by
  simp only [rightB, sizeB, Bool.and_eq_true, decide_eq_true_eq] at h; omega
/-- Wide numbers, one after another: the order of addition is free. -/
theorem lessW_iff (a b : Int × Int) : lessW a b = true ↔ a.1 < b.1 ∨ a.1 = b.1 ∧ a.2 < b.2 := by unfold lessW; simp
theorem addW_eq {a b : Int × Int} (ha : u64r a.2) (hb : u64r b.2) : addW a b = ((a.1 + b.1 + (a.2 + b.2) / 18446744073709551616 + 9223372036854775808) % 18446744073709551616 - 9223372036854775808, (a.2 + b.2) % 18446744073709551616) := by
  unfold u64r at ha hb
  unfold addW
  simp only [wrap_u64, IntKind.wrap_i64]
  split
  · refine Prod.ext ?_ rfl; simp only; omega
  · refine Prod.ext ?_ rfl; simp only; omega
theorem asc_low {n : Int} {l : List It} {a b : Int} (hab : a ≤ b) (h : asc b n l = true) : asc a n l = true := by
  cases l with
  | nil => rfl
  | cons x l =>
    simp only [asc, Bool.and_eq_true, decide_eq_true_eq] at h ⊢
    exact ⟨⟨by omega, h.1.2⟩, h.2⟩
/-- A whole number, in two halves. -/
def toW (z : Int) : Int × Int := ((z / 18446744073709551616 + 9223372036854775808) % 18446744073709551616 - 9223372036854775808, z % 18446744073709551616)
theorem toW_lo (z : Int) : u64r (toW z).2 := by unfold toW u64r; simp only; omega
theorem ofW_toW {n : Int} (h : i64r n) : ofW n = toW n := by
  unfold ofW toW i64r at *
  rw [wrap_u64]
  refine Prod.ext ?_ rfl
  simp only
  split <;> omega
theorem toW_add (a b : Int) : addW (toW a) (toW b) = toW (a + b) := by
  rw [addW_eq (toW_lo a) (toW_lo b)]
  unfold toW
  refine Prod.ext ?_ ?_ <;> simp only <;> omega
theorem toW_period (z k : Int) : toW (z + k * 340282366920938463463374607431768211456) = toW z := by
  unfold toW
  refine Prod.ext ?_ ?_ <;> simp only <;> omega
theorem ref01_Add_toW (a b : Int) : ref01_Add (toW a) (toW b) = some (toW (a + b)) := by rw [ref01_Add_eq, toW_add]
theorem wide_Add_toW (a b : Int) : wide_Add (toW a) (toW b) = some (toW (a + b)) := by rw [wide_Add_eq, toW_add]
theorem compl_u64 {n : Int} (h : u64r n) : complI .u64 n = 18446744073709551615 - n := by
  obtain ⟨h0, h1⟩ := h
  obtain ⟨m, rfl⟩ := Int.eq_ofNat_of_zero_le h0
  unfold complI xorI
  have e : (if IntKind.u64.signed = true then (-1 : Int) else IntKind.u64.max) = 18446744073709551615 := by decide
  rw [e]
  have hb : IntKind.u64.bits = 64 := rfl
  rw [hb]
  have hx : BitVec.ofInt 64 18446744073709551615 = BitVec.allOnes 64 := by decide
  rw [hx, BitVec.allOnes_xor, wrap_u64]
  have : (~~~ BitVec.ofInt 64 (m : Int)).toNat = 18446744073709551615 - m := by
    rw [BitVec.toNat_not]
    have : (BitVec.ofInt 64 (m : Int)).toNat = m := by
      rw [BitVec.toNat_ofInt]
      omega
    omega
  rw [this]
  omega
theorem compl_i64 {n : Int} (h : i64r n) : complI .i64 n = -1 - n := by
  obtain ⟨h0, h1⟩ := h
  unfold complI xorI
  have e : (if IntKind.i64.signed = true then (-1 : Int) else IntKind.i64.max) = -1 := by decide
  rw [e]
  have hb : IntKind.i64.bits = 64 := rfl
  rw [hb]
  have hx : BitVec.ofInt 64 (-1) = BitVec.allOnes 64 := by decide
  rw [hx, BitVec.allOnes_xor, IntKind.wrap_i64]
  have : ((~~~ BitVec.ofInt 64 n).toNat : Int) = (18446744073709551615 - n % 18446744073709551616) := by
    rw [BitVec.toNat_not]
    have : ((BitVec.ofInt 64 n).toNat : Int) = n % 18446744073709551616 := by
      rw [BitVec.toNat_ofInt]
      omega
    omega
  rw [this]
  omega
theorem toW_hi (z : Int) : i64r (toW z).1 := by unfold toW i64r; simp only; omega
theorem ref01_Minus_toW (a : Int) : ref01_Minus (toW a) = some (toW (-a)) := by
  unfold ref01_Minus
  have h1 := compl_i64 (toW_hi a)
  have h2 := compl_u64 (toW_lo a)
  have e : ((complI .i64 (toW a).1, complI .u64 (toW a).2) : Int × Int) = toW (-1 - a) := by
    rw [h1, h2]
    unfold toW
    refine Prod.ext ?_ ?_ <;> simp only <;> omega
  have e1 : ((0, 1) : Int × Int) = toW 1 := by decide
  simp only
  rw [e, e1, ref01_Add_toW]
  simp only [Option.bind_some]
  rw [show -1 - a + 1 = -a by omega]
theorem mul_loop {b : Int × Int × Int × Int × Int → Option ((Int × Int × Int × Int × Int) ⊕ ((Int × Int) ⊕ (Int × Int)))} (hb : b = ref01_Mul_b1 ∨ b = ref01_Mul_b2) : ∀ (n : Nat) (X O : Int), n ≤ 18446744073709551615 → loopO b ((n : Int), (toW X).1, (toW X).2, (toW O).1, (toW O).2) = some (.inl (toW (O + X * n))) := by
  intro n
  induction n using Nat.strongRecOn with
  | _ n ih =>
    intro X O hn
    have hb1 : ∀ a, b a = ref01_Mul_b1 a := by
      rcases hb with rfl | rfl
      · exact fun _ => rfl
      · exact fun _ => rfl
    by_cases h0 : n = 0
    · subst h0
      refine loopO_done ?_
      rw [hb1]
      unfold ref01_Mul_b1
      simp
    · have hm : modO (n : Int) 2 = some ((n % 2 : Nat) : Int) := by
        unfold modO
        rw [if_pos (by decide), Int.tmod_eq_emod_of_nonneg (by omega)]; rfl
      have hd : divO .u64 (n : Int) 2 = some ((n / 2 : Nat) : Int) := by
        unfold divO
        rw [if_pos (by decide), Int.tdiv_eq_ediv_of_nonneg (by omega), wrap_u64]
        congr 1
        omega
      have hxx := ref01_Add_toW X X
      have hox := ref01_Add_toW O X
      by_cases hp : n % 2 = 1
      · have hs : b ((n : Int), (toW X).1, (toW X).2, (toW O).1, (toW O).2) = some (.inl (((n / 2 : Nat) : Int), (toW (X + X)).1, (toW (X + X)).2, (toW (O + X)).1, (toW (O + X)).2)) := by
          rw [hb1]
          unfold ref01_Mul_b1
          simp only
          rw [if_pos (by omega), hm]
          simp only [Option.bind_some]
          rw [if_pos (by omega), hox]
          simp only [Option.bind_some]
          rw [hxx]
          simp only [Option.bind_some]
          rw [hd]; rfl
        rw [loopO_step hs, ih (n / 2) (by omega) _ _ (by omega)]
        congr 3
        have : (n : Int) = 2 * ((n / 2 : Nat) : Int) + 1 := by omega
        rw [this, Int.mul_add, Int.add_mul, Int.two_mul, Int.mul_add]
        omega
      · have hs : b ((n : Int), (toW X).1, (toW X).2, (toW O).1, (toW O).2) = some (.inl (((n / 2 : Nat) : Int), (toW (X + X)).1, (toW (X + X)).2, (toW O).1, (toW O).2)) := by
          rw [hb1]
          unfold ref01_Mul_b1
          simp only
          rw [if_pos (by omega), hm]
          simp only [Option.bind_some]
          rw [if_neg (by omega), hxx]
          simp only [Option.bind_some]
          rw [hd]; rfl
        rw [loopO_step hs, ih (n / 2) (by omega) _ _ (by omega)]
        congr 3
        have : (n : Int) = 2 * ((n / 2 : Nat) : Int) := by omega
        rw [this, Int.add_mul, Int.two_mul, Int.mul_add]
theorem ref01_Mul_eq {x y : Int} (hx : i64r x) (hy : i64r y) : ref01_Mul x y = some (toW (x * y)) := by
  unfold ref01_Mul
  rw [ref01_Of_eq, ofW_toW hx]
  simp only [Option.bind_some]
  obtain ⟨y0, y1⟩ := hy
  have hz : ((0 : Int), (0 : Int)) = toW 0 := by decide
  have hz1 : (toW 0).1 = 0 := by decide
  have hz2 : (toW 0).2 = 0 := by decide
  by_cases hn : y < 0
  · rw [if_pos hn]
    have e : IntKind.u64.wrap (0 - IntKind.u64.wrap y) = (((-y).toNat : Nat) : Int) := by rw [wrap_u64, wrap_u64]; omega
    have := mul_loop (.inl rfl) (-y).toNat x 0 (by omega)
    rw [hz1, hz2] at this
    rw [e, this]
    simp only [Option.bind_some, Sum.elim_inl]
    rw [show ((toW (0 + x * (((-y).toNat : Nat) : Int))).1, (toW (0 + x * (((-y).toNat : Nat) : Int))).2) = toW (0 + x * (((-y).toNat : Nat) : Int)) from rfl, ref01_Minus_toW]
    simp only [Option.bind_some]
    have : (((-y).toNat : Nat) : Int) = -y := by omega
    rw [this, Int.mul_neg, show -(0 + -(x * y)) = x * y by omega]
  · rw [if_neg hn]
    have e : IntKind.u64.wrap y = ((y.toNat : Nat) : Int) := by rw [wrap_u64]; omega
    have := mul_loop (.inr rfl) y.toNat x 0 (by omega)
    rw [hz1, hz2] at this
    rw [e, this]
    simp only [Option.bind_some, Sum.elim_inl]
    congr 1
    have : ((y.toNat : Nat) : Int) = y := by omega
    rw [this, Int.zero_add]
theorem and_low {n : Int} (h : u64r n) : andI .u64 n 4294967295 = n % 4294967296 := by
  obtain ⟨h0, h1⟩ := h
  obtain ⟨m, rfl⟩ := Int.eq_ofNat_of_zero_le h0
  unfold andI
  have hb : IntKind.u64.bits = 64 := rfl
  rw [hb, wrap_u64]
  have e1 : (BitVec.ofInt 64 (m : Int)).toNat = m := by rw [BitVec.toNat_ofInt]; omega
  have e2 : (BitVec.ofInt 64 4294967295).toNat = 2 ^ 32 - 1 := by decide
  rw [BitVec.toNat_and, e1, e2, Nat.and_two_pow_sub_one_eq_mod]
  omega
theorem shr_32 {n : Int} (h : u64r n) : shr1 .u64 n 32 = some (n / 4294967296) := by
  unfold shr1 shrI
  rw [if_pos (by decide)]
  have e : (2 : Int) ^ (min (32 : Int).toNat IntKind.u64.bits) = 4294967296 := by decide
  rw [e, Int.fdiv_eq_ediv_of_nonneg _ (by decide)]
theorem prod_le {a b : Int} (ha : 0 ≤ a) (ha' : a ≤ 4294967295) (hb : 0 ≤ b) (hb' : b ≤ 4294967295) : 0 ≤ a * b ∧ a * b ≤ 18446744065119617025 :=
  ⟨Int.mul_nonneg ha hb, by have := Int.mul_le_mul ha' hb' hb (by decide); omega⟩
theorem wide_products_eq {a b : Int} (ha : u64r a) (hb : u64r b) : wide_products a b = some ((a % 4294967296) * (b % 4294967296), (a % 4294967296) * (b / 4294967296), (a / 4294967296) * (b % 4294967296), (a / 4294967296) * (b / 4294967296)) := by
  unfold wide_products
  rw [shr_32 ha, shr_32 hb]
  simp only [Option.bind_some, and_low ha, and_low hb]
  unfold u64r at ha hb
  have w : ∀ {x y : Int}, 0 ≤ x → x ≤ 4294967295 → 0 ≤ y → y ≤ 4294967295 → IntKind.u64.wrap (x * y) = x * y := fun h1 h2 h3 h4 => by
    have := prod_le h1 h2 h3 h4
    rw [wrap_u64]; exact Int.emod_eq_of_lt this.1 (by omega)
  rw [w (by omega) (by omega) (by omega) (by omega), w (by omega) (by omega) (by omega) (by omega), w (by omega) (by omega) (by omega) (by omega), w (by omega) (by omega) (by omega) (by omega)]
theorem wide_Left_32 {n : Int} (h : u64r n) : wide_Left (0, n) 32 = some (toW (n * 4294967296)) := by
  unfold wide_Left
  simp only
  rw [if_neg (by decide), if_neg (by decide), if_neg (by decide)]
  have e1 : IntKind.u64.wrap 0 = 0 := by decide
  have e2 : IntKind.u64.wrap 32 = 32 := by decide
  have e3 : IntKind.u64.wrap (IntKind.i64.wrap (64 - 32)) = 32 := by decide
  rw [e1, e2, e3, shr_32 h]
  unfold shl1 shlI
  have e : (2 : Int) ^ (min (32 : Int).toNat IntKind.u64.bits) = 4294967296 := by decide
  simp only [e, Option.bind_some, if_pos (show (0 : Int) ≤ 32 by decide), Int.zero_mul, e1]
  have hor : orI .u64 0 (n / 4294967296) = n / 4294967296 := by
    unfold u64r at h
    obtain ⟨m, hm⟩ := Int.eq_ofNat_of_zero_le (show 0 ≤ n / 4294967296 by omega)
    rw [hm]
    unfold orI
    have hb : IntKind.u64.bits = 64 := rfl
    have e0 : BitVec.ofInt 64 0 = 0#64 := by decide
    rw [hb, wrap_u64, e0, BitVec.zero_or, BitVec.toNat_ofInt]
    omega
  rw [hor, IntKind.wrap_i64, wrap_u64]
  unfold toW
  unfold u64r at h
  congr 1
  refine Prod.ext ?_ ?_ <;> simp only <;> omega
theorem wide_Mul_eq {x y : Int} (hx : i64r x) (hy : i64r y) : wide_Mul x y = some (toW (x * y)) := by
  unfold wide_Mul
  have hux := u64_wrap x
  have huy := u64_wrap y
  have gx : IntKind.u64.wrap x = x + (if x < 0 then 18446744073709551616 else 0) := by rw [wrap_u64]; unfold i64r at hx; split <;> omega
  have gy : IntKind.u64.wrap y = y + (if y < 0 then 18446744073709551616 else 0) := by rw [wrap_u64]; unfold i64r at hy; split <;> omega
  generalize hX : IntKind.u64.wrap x = X at hux gx
  generalize hY : IntKind.u64.wrap y = Y at huy gy
  rw [wide_products_eq hux huy]
  simp only [Option.bind_some]
  unfold u64r at hux huy
  generalize ha : X % 4294967296 = a
  generalize hA : X / 4294967296 = A
  generalize hb : Y % 4294967296 = b
  generalize hB : Y / 4294967296 = B
  have hXe : X = A * 4294967296 + a := by omega
  have hYe : Y = B * 4294967296 + b := by omega
  have p0 := prod_le (a := a) (b := b) (by omega) (by omega) (by omega) (by omega)
  have p1 := prod_le (a := a) (b := B) (by omega) (by omega) (by omega) (by omega)
  have p2 := prod_le (a := A) (b := b) (by omega) (by omega) (by omega) (by omega)
  have p3 := prod_le (a := A) (b := B) (by omega) (by omega) (by omega) (by omega)
  have hXY : X * Y = (A * B) * 18446744073709551616 + (a * B + A * b) * 4294967296 + a * b := by
    rw [hXe, hYe, Int.add_mul, Int.mul_add, Int.mul_add]
    have q1 : A * 4294967296 * (B * 4294967296) = A * B * 18446744073709551616 := by
      rw [Int.mul_assoc, Int.mul_left_comm 4294967296 B, ← Int.mul_assoc]; rfl
    have q2 : A * 4294967296 * b = A * b * 4294967296 := by rw [Int.mul_assoc, Int.mul_comm 4294967296 b, ← Int.mul_assoc]
    have q3 : a * (B * 4294967296) = a * B * 4294967296 := by rw [Int.mul_assoc]
    rw [q1, q2, q3]
    omega
  generalize hab : a * b = ab at *
  generalize haB : a * B = aB at *
  generalize hAb : A * b = Ab at *
  generalize hAB : A * B = AB at *
  rw [wide_Left_32 (n := aB) ⟨by omega, by omega⟩]
  simp only [Option.bind_some]
  have e0 : ((IntKind.i64.wrap AB, ab) : Int × Int) = toW (AB * 18446744073709551616 + ab) := by
    rw [IntKind.wrap_i64]; unfold toW
    refine Prod.ext ?_ ?_ <;> simp only <;> omega
  rw [e0, show ((toW (aB * 4294967296)).1, (toW (aB * 4294967296)).2) = toW (aB * 4294967296) from rfl, wide_Add_toW]
  simp only [Option.bind_some]
  rw [wide_Left_32 (n := Ab) ⟨by omega, by omega⟩]
  simp only [Option.bind_some]
  rw [show ∀ z, ((toW z).1, (toW z).2) = toW z from fun _ => rfl, show ∀ z, ((toW z).1, (toW z).2) = toW z from fun _ => rfl, wide_Add_toW]
  simp only [Option.bind_some]
  have e1 : AB * 18446744073709551616 + ab + aB * 4294967296 + Ab * 4294967296 = X * Y := by omega
  rw [e1]
  have hsub : ∀ z w : Int, (IntKind.i64.wrap ((toW z).1 - w), (toW z).2) = toW (z - w * 18446744073709551616) := fun z w => by
    rw [IntKind.wrap_i64]; unfold toW
    refine Prod.ext ?_ ?_ <;> simp only <;> omega
  have hsub2 : ∀ z w v : Int, (IntKind.i64.wrap (IntKind.i64.wrap ((toW z).1 - w) - v), (toW z).2) = toW (z - w * 18446744073709551616 - v * 18446744073709551616) := fun z w v => by
    rw [IntKind.wrap_i64, IntKind.wrap_i64]; unfold toW
    refine Prod.ext ?_ ?_ <;> simp only <;> omega
  by_cases hx0 : x < 0
  · rw [if_pos hx0]
    rw [if_pos hx0] at gx
    by_cases hy0 : y < 0
    · rw [if_pos hy0, hsub2]
      rw [if_pos hy0] at gy
      have : X * Y - y * 18446744073709551616 - x * 18446744073709551616 = x * y + 1 * 340282366920938463463374607431768211456 := by
        rw [gx, gy, Int.add_mul, Int.mul_add, Int.mul_add]
        rw [Int.mul_comm x 18446744073709551616]
        omega
      rw [this, toW_period]
    · rw [if_neg hy0, hsub]
      rw [if_neg hy0] at gy
      have : X * Y - y * 18446744073709551616 = x * y := by
        rw [gx, gy, Int.add_zero, Int.add_mul, Int.mul_comm 18446744073709551616 y]; omega
      rw [this]
  · rw [if_neg hx0]
    rw [if_neg hx0] at gx
    by_cases hy0 : y < 0
    · rw [if_pos hy0, hsub]
      rw [if_pos hy0] at gy
      have : X * Y - x * 18446744073709551616 = x * y := by
        rw [gx, gy, Int.add_zero, Int.mul_add]; omega
      rw [this]
    · rw [if_neg hy0]
      rw [if_neg hy0] at gy
      rw [gx, gy, Int.add_zero, Int.add_zero]
theorem wide_Narrow_eq (a : Int × Int) : wide_Narrow a = some (narrowW a) := by
  obtain ⟨a1, a2⟩ := a
  unfold wide_Narrow narrowW
  simp only [wide_Of_eq (i64_wrap a2), Option.bind_some]
  by_cases h : (a1, a2) = ofW (IntKind.i64.wrap a2)
  · have h' : a1 = (ofW (IntKind.i64.wrap a2)).1 ∧ a2 = (ofW (IntKind.i64.wrap a2)).2 := ⟨congrArg Prod.fst h, congrArg Prod.snd h⟩
    rw [if_pos h, if_pos h']
  · have h' : ¬ (a1 = (ofW (IntKind.i64.wrap a2)).1 ∧ a2 = (ofW (IntKind.i64.wrap a2)).2) := fun hh => h (Prod.ext hh.1 hh.2)
    rw [if_neg h, if_neg h']
/-- A ring's product. -/
def infI : Int := 4611686018427387904
def ringMul (r x y : Int) : Int × Int :=
  if r = 1 then (if infI ≤ x ∨ infI ≤ y then ofW infI else lessrW (toW (x + y)) (ofW infI))
  else if r = 2 then truthW (!decide (x = 0) && !decide (y = 0))
  else if r = 4 then (if infI ≤ x ∨ infI ≤ y then ofW infI else ofW y)
  else if r = 3 then (if infI ≤ x ∨ infI ≤ y then ofW infI else ofW x)
  else if r = 5 then toW (x * y) else (0, 0)
theorem inf_r : i64r infI := by unfold i64r infI; omega
theorem ring_Mul_eq (r : Int) {x y : Int} (hx : i64r x) (hy : i64r y) : ring_Mul r x y = some (ringMul r x y) := by
  have hi := inf_r
  unfold ring_Mul ringMul
  have hI : (4611686018427387904 : Int) = infI := rfl
  rw [hI]
  by_cases h1 : r = 1
  · rw [if_pos h1, if_pos h1]
    by_cases c1 : x ≥ infI
    · rw [if_pos c1, if_pos (.inl c1), wide_Of_eq hi]; rfl
    · rw [if_neg c1]
      by_cases c2 : y ≥ infI
      · rw [if_pos c2, if_pos (.inr c2), wide_Of_eq hi]; rfl
      · rw [if_neg c2, if_neg (by omega), wide_Of_eq hx, wide_Of_eq hy]
        simp only [Option.bind_some]
        rw [show ∀ z, ((ofW z).1, (ofW z).2) = ofW z from fun _ => rfl, show ∀ z, ((ofW z).1, (ofW z).2) = ofW z from fun _ => rfl, ofW_toW hx, ofW_toW hy, wide_Add_toW]
        simp only [Option.bind_some]
        rw [wide_Of_eq hi]
        simp only [Option.bind_some]
        rw [show ∀ z, ((ofW z).1, (ofW z).2) = ofW z from fun _ => rfl, show ∀ z, ((toW z).1, (toW z).2) = toW z from fun _ => rfl, ring_lesser_eq]; rfl
  · rw [if_neg h1, if_neg h1]
    by_cases h2 : r = 2
    · rw [if_pos h2, if_pos h2]
      by_cases c1 : x = 0
      · rw [if_neg (by simpa using c1), ring_truth_eq]; simp [c1]
      · rw [if_pos c1]
        by_cases c2 : y = 0
        · rw [if_neg (by simpa using c2), ring_truth_eq]; simp [c2]
        · rw [if_pos c2, ring_truth_eq]; simp [c1, c2]
    · rw [if_neg h2, if_neg h2]
      by_cases h4 : r = 4
      · rw [if_pos h4, if_pos h4]
        by_cases c2 : y ≥ infI
        · rw [if_pos c2, if_pos (.inr c2), wide_Of_eq hi]; rfl
        · rw [if_neg c2]
          by_cases c1 : x ≥ infI
          · rw [if_pos c1, if_pos (.inl c1), wide_Of_eq hi]; rfl
          · rw [if_neg c1, if_neg (by omega), wide_Of_eq hy]; rfl
      · rw [if_neg h4, if_neg h4]
        by_cases h3 : r = 3
        · rw [if_pos h3, if_pos h3]
          by_cases c1 : x ≥ infI
          · rw [if_pos c1, if_pos (.inl c1), wide_Of_eq hi]; rfl
          · rw [if_neg c1]
            by_cases c2 : y ≥ infI
            · rw [if_pos c2, if_pos (.inr c2), wide_Of_eq hi]; rfl
            · rw [if_neg c2, if_neg (by omega), wide_Of_eq hx]; rfl
        · rw [if_neg h3, if_neg h3]
          by_cases h5 : r = 5
          · rw [if_pos h5, if_pos h5, wide_Mul_eq hx hy]; rfl
          · rw [if_neg h5, if_neg h5]
theorem cmp_gt (a b : Int × Int) : ∃ c, ref01_Compare a b = some c ∧ (c > 0 ↔ lessW a b = false ∧ a ≠ b) := by
  obtain ⟨a1, a2⟩ := a; obtain ⟨b1, b2⟩ := b
  unfold ref01_Compare lessW
  simp only
  by_cases h1 : a1 < b1
  · exact ⟨-1, by simp [h1], by simp [h1]⟩
  · by_cases h2 : a1 = b1
    · by_cases h3 : a2 < b2
      · exact ⟨-1, by simp [h1, h2, h3], by simp [h2, h3]⟩
      · by_cases h4 : a2 = b2
        · exact ⟨0, by simp [h1, h2, h3, h4], by simp [h2, h4]⟩
        · refine ⟨1, by simp [h1, h2, h3, h4], ?_⟩
          simp [h2, h3, h4]
    · refine ⟨1, by simp [h1, h2], ?_⟩
      simp [h1, h2]
theorem ref02_Mul_eq (r : Int) {x y : Int} (hx : i64r x) (hy : i64r y) : ref02_Mul r x y = some (ringMul r x y) := by
  have hi := inf_r
  unfold ref02_Mul
  have hI : (4611686018427387904 : Int) = infI := rfl
  rw [hI]
  have hof : ∀ z, ref01_Of z = some (ofW z) := ref01_Of_eq
  have hadd : ref01_Add (ofW x) (ofW y) = some (toW (x + y)) := by rw [ofW_toW hx, ofW_toW hy, ref01_Add_toW]
  have hmul := ref01_Mul_eq hx hy
  have ht : ∀ b, ref02_truth b = some (truthW b) := ref02_truth_eq
  have eta : ∀ p : Int × Int, (p.1, p.2) = p := fun _ => rfl
  have chain : ∀ (F1 F3 F4 : Option (Int × Int)), (r = 1 → F1 = some (ringMul r x y)) → (r = 3 → F3 = some (ringMul r x y)) → (r = 4 → F4 = some (ringMul r x y)) →
      (if r = 1 then F1 else if r = 3 then F3 else if r = 4 then F4 else if r = 2 then (if x ≠ 0 then (if y ≠ 0 then ((ref02_truth true).bind fun (a, b) => some (a, b)) else ((ref02_truth false).bind fun (a, b) => some (a, b))) else ((ref02_truth false).bind fun (a, b) => some (a, b))) else if r = 5 then ((ref01_Mul x y).bind fun (a, b) => some (a, b)) else some (0, 0)) = some (ringMul r x y) := by
    intro F1 F3 F4 g1 g3 g4
    by_cases h1 : r = 1
    · rw [if_pos h1]; exact g1 h1
    · rw [if_neg h1]
      by_cases h3 : r = 3
      · rw [if_pos h3]; exact g3 h3
      · rw [if_neg h3]
        by_cases h4 : r = 4
        · rw [if_pos h4]; exact g4 h4
        · rw [if_neg h4]
          unfold ringMul
          rw [if_neg h1]
          by_cases h2 : r = 2
          · rw [if_pos h2, if_pos h2]
            by_cases z1 : x = 0
            · rw [if_neg (by simpa using z1), ht]; simp [z1]
            · rw [if_pos z1]
              by_cases z2 : y = 0
              · rw [if_neg (by simpa using z2), ht]; simp [z2]
              · rw [if_pos z2, ht]; simp [z1, z2]
          · rw [if_neg h2, if_neg h2, if_neg h4, if_neg h3]
            by_cases h5 : r = 5
            · rw [if_pos h5, if_pos h5, hmul]; rfl
            · rw [if_neg h5, if_neg h5]
  have far : infI ≤ x ∨ infI ≤ y → (r = 1 → some (ofW infI) = some (ringMul r x y)) ∧ (r = 3 → some (ofW infI) = some (ringMul r x y)) ∧ (r = 4 → some (ofW infI) = some (ringMul r x y)) := fun hf => by
    refine ⟨fun h => ?_, fun h => ?_, fun h => ?_⟩ <;> subst h <;> unfold ringMul <;> simp [hf]
  by_cases c1 : x ≥ infI
  · rw [if_pos c1]
    obtain ⟨f1, f3, f4⟩ := far (.inl c1)
    refine chain _ _ _ (fun h => ?_) (fun h => ?_) fun h => ?_
    · rw [hof, hof]; simp only [Option.bind_some, eta, hadd, hof]; exact f1 h
    · rw [hof]; exact f3 h
    · rw [hof]; exact f4 h
  · rw [if_neg c1]
    by_cases c2 : y ≥ infI
    · rw [if_pos c2]
      obtain ⟨f1, f3, f4⟩ := far (.inr c2)
      refine chain _ _ _ (fun h => ?_) (fun h => ?_) fun h => ?_
      · rw [hof, hof]; simp only [Option.bind_some, eta, hadd, hof]; exact f1 h
      · rw [hof]; exact f3 h
      · rw [hof]; exact f4 h
    · rw [if_neg c2]
      have nf : ¬ (infI ≤ x ∨ infI ≤ y) := by omega
      refine chain _ _ _ (fun h => ?_) (fun h => ?_) fun h => ?_
      · rw [hof, hof]
        simp only [Option.bind_some, eta, hadd, hof]
        obtain ⟨c, h6, h7⟩ := cmp_gt (toW (x + y)) (ofW infI)
        rw [h6]
        simp only [Option.bind_some]
        unfold ringMul lessrW
        rw [if_pos h, if_neg nf]
        by_cases hc : c > 0
        · rw [if_pos hc]
          have h8 := h7.1 hc
          have h9 : lessW (ofW infI) (toW (x + y)) = true := by
            have a1 := h8.1; have a2 := h8.2
            rw [lessW_iff]
            have : ¬ (lessW (toW (x + y)) (ofW infI) = true) := by rw [a1]; simp
            rw [lessW_iff] at this
            by_cases e1 : (toW (x + y)).1 = (ofW infI).1
            · by_cases e2 : (toW (x + y)).2 = (ofW infI).2
              · exact absurd (Prod.ext e1 e2) a2
              · omega
            · omega
          rw [if_pos h9]
        · rw [if_neg hc]
          have h9 : ¬ lessW (ofW infI) (toW (x + y)) = true := fun h9 => by
            apply hc
            rw [h7]
            rw [lessW_iff] at h9
            refine ⟨?_, fun e => ?_⟩
            · rw [Bool.eq_false_iff]; intro hh; rw [lessW_iff] at hh; omega
            · rw [e] at h9; omega
          rw [if_neg h9]
      · rw [hof]; unfold ringMul; subst h; simp [nf]
      · rw [hof]; unfold ringMul; subst h; simp [nf]
theorem FL_eq3 : FL = some true := rfl
theorem i64_id {n : Int} (h : i64r n) : IntKind.i64.wrap (IntKind.u64.wrap n) = n := by rw [wrap_u64, IntKind.wrap_i64]; unfold i64r at h; omega
theorem narrow_of {n : Int} (h : i64r n) : narrowW (ofW n) = (n, true) := by
  unfold narrowW
  have e : IntKind.i64.wrap (ofW n).2 = n := i64_id h
  rw [e, if_pos rfl]
theorem blend_sure_eq (v : Int × Sl It) (hok : okS 2 v.2) (hl : v.2.l.length ≤ 9223372036854775807) : blend_sure v = some (sureV v) := by
  obtain ⟨n, s⟩ := v
  unfold blend_sure sureV
  simp only [spvec_Right_eq (n, s) hok hl, Option.bind_some]
  split <;> rfl
theorem at0 {s : Sl It} (hok : okS 2 s) {x : It} {l : List It} (h : s.l = x :: l) : atS 2 s 0 = some x := by
  have := at_get hok (show 0 < s.l.length by rw [h]; simp)
  simpa [h] using this
theorem cut1 {s : Sl It} (hok : okS 2 s) {x : It} {l : List It} (h : s.l = x :: l) : cutS 2 s 1 ((s.l.length : Nat) : Int) = some ⟨s.nn, s.sz, l⟩ := by
  unfold cutS
  have hz : s.sz = 2 := hok.resolve_left (by rw [h]; simp)
  rw [if_pos ⟨by omega, by rw [h]; simp; omega, by omega, by first | exact .inl hz | exact .inr hz | simp [hz]⟩]
  simp [h]
theorem ok_cut {s : Sl It} (hok : okS 2 s) {x : It} {l : List It} (h : s.l = x :: l) : okS 2 (⟨s.nn, s.sz, l⟩ : Sl It) := .inr (hok.resolve_left (by rw [h]; simp))
/-- The first place at which one of two lists has something, what they have there, and the rests. -/
def hd : List It → List It → Int × Option Int × Option Int × List It × List It
  | [], [] => (0, none, none, [], [])
  | x :: l, [] => (x.1, some x.2, none, l, [])
  | [], y :: m => (y.1, none, some y.2, [], m)
  | x :: l, y :: m => if x.1 ≤ y.1 then (if y.1 ≤ x.1 then (y.1, some x.2, some y.2, l, m) else (x.1, some x.2, none, l, y :: m)) else (y.1, none, some y.2, x :: l, m)
theorem hd_len {l m : List It} (h : ¬ (l = [] ∧ m = [])) : (hd l m).2.2.2.1.length + (hd l m).2.2.2.2.length < l.length + m.length := by
  cases l with
  | nil =>
    cases m with
    | nil => simp at h
    | cons y m => simp [hd]
  | cons x l =>
    cases m with
    | nil => simp [hd]
    | cons y m =>
      simp only [hd]
      split
      · split <;> simp <;> omega
      · simp
/-- Pairs put together: `none`: over; `some none`: left out. -/
def mrgN (f : Option Int → Option Int → Option (Option Int)) : Nat → List It → List It → Option (List It)
  | 0, _, _ => some []
  | k + 1, l, m =>
    if l.isEmpty && m.isEmpty then some [] else
    match f (hd l m).2.1 (hd l m).2.2.1 with
    | none => none
    | some none => mrgN f k (hd l m).2.2.2.1 (hd l m).2.2.2.2
    | some (some v) => (mrgN f k (hd l m).2.2.2.1 (hd l m).2.2.2.2).map fun r => ((hd l m).1, v) :: r
def mrg (f : Option Int → Option Int → Option (Option Int)) (l m : List It) : Option (List It) := mrgN f (l.length + m.length) l m
abbrev MR := List It ⊕ (List It ⊕ Empty)
/-- A round of a loop over pairs. -/
def MStep (f : Option Int → Option Int → Option (Option Int)) (b : Sl It × Sl It × List It → Option ((Sl It × Sl It × List It) ⊕ MR)) (s t : Sl It) (o : List It) : Prop :=
  match f (hd s.l t.l).2.1 (hd s.l t.l).2.2.1 with
  | none => ∃ o', b (s, t, o) = some (.inr (.inl o'))
  | some none => ∃ s' t', b (s, t, o) = some (.inl (s', t', o)) ∧ s'.l = (hd s.l t.l).2.2.2.1 ∧ t'.l = (hd s.l t.l).2.2.2.2 ∧ okS 2 s' ∧ okS 2 t'
  | some (some v) => ∃ s' t', b (s, t, o) = some (.inl (s', t', o ++ [((hd s.l t.l).1, v)])) ∧ s'.l = (hd s.l t.l).2.2.2.1 ∧ t'.l = (hd s.l t.l).2.2.2.2 ∧ okS 2 s' ∧ okS 2 t'
theorem hd_vals {Q : Int → Prop} {l m : List It} (hl : ∀ x ∈ l, Q x.2) (hm : ∀ x ∈ m, Q x.2) : (∀ x ∈ (hd l m).2.2.2.1, Q x.2) ∧ (∀ x ∈ (hd l m).2.2.2.2, Q x.2) ∧ (∀ x, (hd l m).2.1 = some x → Q x) ∧ ∀ x, (hd l m).2.2.1 = some x → Q x := by
  cases l with
  | nil =>
    cases m with
    | nil => simp [hd]
    | cons y m => exact ⟨by simp [hd], fun x hx => hm x (List.mem_cons_of_mem _ hx), by simp [hd], fun x hx => by simp [hd] at hx; subst hx; exact hm y List.mem_cons_self⟩
  | cons x l =>
    have a1 := hl x List.mem_cons_self
    have a2 : ∀ z ∈ l, Q z.2 := fun z hz => hl z (List.mem_cons_of_mem _ hz)
    cases m with
    | nil => exact ⟨fun z hz => a2 z hz, by simp [hd], fun z hz => by simp [hd] at hz; subst hz; exact a1, by simp [hd]⟩
    | cons y m =>
      have b1 := hm y List.mem_cons_self
      have b2 : ∀ z ∈ m, Q z.2 := fun z hz => hm z (List.mem_cons_of_mem _ hz)
      simp only [hd]
      split
      · split
        · exact ⟨a2, b2, fun z hz => by simp at hz; subst hz; exact a1, fun z hz => by simp at hz; subst hz; exact b1⟩
        · exact ⟨a2, hm, fun z hz => by simp at hz; subst hz; exact a1, by simp⟩
      · exact ⟨hl, b2, by simp, fun z hz => by simp at hz; subst hz; exact b1⟩
theorem mrg_loop {f : Option Int → Option Int → Option (Option Int)} {Q : Int → Prop} {b : Sl It × Sl It × List It → Option ((Sl It × Sl It × List It) ⊕ MR)} (h0 : ∀ s t o, s.l = [] → t.l = [] → b (s, t, o) = some (.inr (.inr (.inl o))))
    (hs : ∀ s t o, okS 2 s → okS 2 t → (∀ x ∈ s.l, Q x.2) → (∀ x ∈ t.l, Q x.2) → ¬ (s.l = [] ∧ t.l = []) → o.length ≤ 100000 → MStep f b s t o) :
    ∀ (k : Nat) (s t : Sl It) (o : List It), s.l.length + t.l.length ≤ k → okS 2 s → okS 2 t → (∀ x ∈ s.l, Q x.2) → (∀ x ∈ t.l, Q x.2) → o.length + k ≤ 100000 →
      (mrgN f k s.l t.l = none ∧ ∃ o', loopO b (s, t, o) = some (.inl o')) ∨ ∃ r, mrgN f k s.l t.l = some r ∧ loopO b (s, t, o) = some (.inr (.inl (o ++ r)))
  | 0, s, t, o, hk, h1, h2, q1, q2, ho => by
    have e1 : s.l = [] := List.length_eq_zero_iff.1 (by omega)
    have e2 : t.l = [] := List.length_eq_zero_iff.1 (by omega)
    exact .inr ⟨[], rfl, by rw [loopO_done (h0 s t o e1 e2), List.append_nil]⟩
  | k + 1, s, t, o, hk, h1, h2, q1, q2, ho => by
    by_cases he : s.l = [] ∧ t.l = []
    · refine .inr ⟨[], ?_, by rw [loopO_done (h0 s t o he.1 he.2), List.append_nil]⟩
      unfold mrgN; rw [he.1, he.2]; rfl
    · have hm := hs s t o h1 h2 q1 q2 he (by omega)
      have hl := hd_len he
      have hv := hd_vals q1 q2
      unfold MStep at hm
      have hu : mrgN f (k + 1) s.l t.l = (match f (hd s.l t.l).2.1 (hd s.l t.l).2.2.1 with
          | none => none
          | some none => mrgN f k (hd s.l t.l).2.2.2.1 (hd s.l t.l).2.2.2.2
          | some (some v) => (mrgN f k (hd s.l t.l).2.2.2.1 (hd s.l t.l).2.2.2.2).map fun r => ((hd s.l t.l).1, v) :: r) := by
        show (if (s.l.isEmpty && t.l.isEmpty) = true then _ else _) = _
        rw [if_neg (by simpa [List.isEmpty_iff] using he)]
      rw [hu]
      cases hf : f (hd s.l t.l).2.1 (hd s.l t.l).2.2.1 with
      | none =>
        rw [hf] at hm
        obtain ⟨o', e⟩ := hm
        exact .inl ⟨rfl, o', loopO_done e⟩
      | some w =>
        rw [hf] at hm
        cases w with
        | none =>
          obtain ⟨s', t', e, e1, e2, e3, e4⟩ := hm
          rw [loopO_step e]
          have := mrg_loop h0 hs k s' t' o (by rw [e1, e2]; omega) e3 e4 (by rw [e1]; exact hv.1) (by rw [e2]; exact hv.2.1) (by omega)
          rw [e1, e2] at this
          exact this
        | some v =>
          obtain ⟨s', t', e, e1, e2, e3, e4⟩ := hm
          rw [loopO_step e]
          have := mrg_loop h0 hs k s' t' (o ++ [((hd s.l t.l).1, v)]) (by rw [e1, e2]; omega) e3 e4 (by rw [e1]; exact hv.1) (by rw [e2]; exact hv.2.1) (by simp; omega)
          rw [e1, e2] at this
          rcases this with ⟨g1, g2⟩ | ⟨r, g1, g2⟩
          · exact .inl ⟨by rw [g1]; rfl, g2⟩
          · exact .inr ⟨_, by rw [g1]; rfl, by rw [g2, List.append_assoc]; rfl⟩
theorem getI_lt {n : Int} {l : List It} {a p : Int} (h : asc a n l = true) (hp : p ≤ a) : getI p l = none := getI_none fun x hx => by have := asc_lt h x hx; omega
theorem getI_ge {n : Int} {l : List It} {a p : Int} (h : asc a n l = true) (hp : n ≤ p) : getI p l = none := getI_none fun x hx => by have := asc_lt h x hx; omega
theorem hd_spec {n a : Int} {l m : List It} (hl : asc a n l = true) (hm : asc a n m = true) (h : ¬ (l = [] ∧ m = [])) :
    a < (hd l m).1 ∧ (hd l m).1 < n ∧ (hd l m).2.1 = getI (hd l m).1 l ∧ (hd l m).2.2.1 = getI (hd l m).1 m ∧ asc (hd l m).1 n (hd l m).2.2.2.1 = true ∧ asc (hd l m).1 n (hd l m).2.2.2.2 = true ∧
    (∀ q, q ≠ (hd l m).1 → getI q l = getI q (hd l m).2.2.2.1 ∧ getI q m = getI q (hd l m).2.2.2.2) ∧ ∀ q, q < (hd l m).1 → getI q l = none ∧ getI q m = none := by
  cases l with
  | nil =>
    cases m with
    | nil => simp at h
    | cons y m =>
      simp only [asc, Bool.and_eq_true, decide_eq_true_eq] at hm
      refine ⟨hm.1.1, hm.1.2, rfl, by simp [hd, getI], rfl, hm.2, fun q hq => ⟨rfl, ?_⟩, fun q hq => ⟨rfl, ?_⟩⟩
      · simp only [hd] at hq; simp only [hd, getI]; rw [if_neg (fun e => hq e.symm)]
      · simp only [hd] at hq
        refine getI_none fun x hx => ?_
        rcases List.mem_cons.1 hx with rfl | hx
        · omega
        · have := asc_lt hm.2 x hx; omega
  | cons x l =>
    simp only [asc, Bool.and_eq_true, decide_eq_true_eq] at hl
    have nl : ∀ q, q < x.1 → getI q (x :: l) = none := fun q hq => getI_none fun z hz => by
      rcases List.mem_cons.1 hz with rfl | hz
      · omega
      · have := asc_lt hl.2 z hz; omega
    cases m with
    | nil =>
      refine ⟨hl.1.1, hl.1.2, by simp [hd, getI], rfl, hl.2, rfl, fun q hq => ⟨?_, rfl⟩, fun q hq => ⟨nl q hq, rfl⟩⟩
      simp only [hd] at hq; simp only [hd, getI]; rw [if_neg (fun e => hq e.symm)]
    | cons y m =>
      have hm0 := hm
      simp only [asc, Bool.and_eq_true, decide_eq_true_eq] at hm
      have nm : ∀ q, q < y.1 → getI q (y :: m) = none := fun q hq => getI_none fun z hz => by
        rcases List.mem_cons.1 hz with rfl | hz
        · omega
        · have := asc_lt hm.2 z hz; omega
      simp only [hd]
      by_cases c1 : x.1 ≤ y.1
      · rw [if_pos c1]
        by_cases c2 : y.1 ≤ x.1
        · rw [if_pos c2]
          have e : x.1 = y.1 := by omega
          refine ⟨hm.1.1, hm.1.2, by simp only [getI]; rw [if_pos e], by simp [getI], by rw [← e]; exact hl.2, hm.2, fun q hq => ⟨?_, ?_⟩, fun q hq => ⟨nl q (by simp only at hq; omega), nm q hq⟩⟩
          · simp only [getI]; rw [if_neg (by simp only at hq; omega)]
          · simp only [getI]; rw [if_neg (by simp only at hq; omega)]
        · rw [if_neg c2]
          refine ⟨hl.1.1, hl.1.2, by simp [getI], (nm _ (by omega)).symm, hl.2, ?_, fun q hq => ⟨?_, rfl⟩, fun q hq => ⟨nl q hq, nm q (by simp only at hq; omega)⟩⟩
          · simp only [asc, Bool.and_eq_true, decide_eq_true_eq]; exact ⟨⟨by omega, hm.1.2⟩, hm.2⟩
          · simp only [getI]; rw [if_neg (by simp only at hq; omega)]
      · rw [if_neg c1]
        refine ⟨hm.1.1, hm.1.2, (nl _ (by omega)).symm, by simp [getI], ?_, hm.2, fun q hq => ⟨rfl, ?_⟩, fun q hq => ⟨nl q (by simp only at hq; omega), nm q hq⟩⟩
        · simp only [asc, Bool.and_eq_true, decide_eq_true_eq]; exact ⟨⟨by omega, hl.1.2⟩, hl.2⟩
        · simp only [getI]; rw [if_neg (by simp only at hq; omega)]
theorem mrg_spec {f : Option Int → Option Int → Option (Option Int)} (f0 : f none none = some none) {n : Int} : ∀ (k : Nat) {a : Int} {l m : List It}, l.length + m.length ≤ k → asc a n l = true → asc a n m = true →
    (mrgN f k l m = none → ∃ p, f (getI p l) (getI p m) = none) ∧ ∀ r, mrgN f k l m = some r → asc a n r = true ∧ ∀ p, f (getI p l) (getI p m) = some (getI p r)
  | 0, a, l, m, hk, hl, hm => by
    have e1 : l = [] := List.length_eq_zero_iff.1 (by omega)
    have e2 : m = [] := List.length_eq_zero_iff.1 (by omega)
    subst e1 e2
    exact ⟨fun h => by simp [mrgN] at h, fun r h => by simp only [mrgN, Option.some.injEq] at h; subst h; exact ⟨rfl, fun p => f0⟩⟩
  | k + 1, a, l, m, hk, hl, hm => by
    by_cases he : l = [] ∧ m = []
    · obtain ⟨rfl, rfl⟩ := he
      exact ⟨fun h => by simp [mrgN] at h, fun r h => by simp only [mrgN, List.isEmpty_nil, Bool.and_self, ite_true, Option.some.injEq] at h; subst h; exact ⟨rfl, fun p => f0⟩⟩
    · obtain ⟨s1, s2, s3, s4, s5, s6, s7, s8⟩ := hd_spec hl hm he
      have hlen := hd_len he
      have ih := mrg_spec f0 k (a := (hd l m).1) (l := (hd l m).2.2.2.1) (m := (hd l m).2.2.2.2) (by omega) s5 s6
      have hu : mrgN f (k + 1) l m = (match f (hd l m).2.1 (hd l m).2.2.1 with
          | none => none
          | some none => mrgN f k (hd l m).2.2.2.1 (hd l m).2.2.2.2
          | some (some v) => (mrgN f k (hd l m).2.2.2.1 (hd l m).2.2.2.2).map fun r => ((hd l m).1, v) :: r) := by
        show (if (l.isEmpty && m.isEmpty) = true then _ else _) = _
        rw [if_neg (by simpa [List.isEmpty_iff] using he)]
      rw [hu]
      have back : ∀ p, f (getI p (hd l m).2.2.2.1) (getI p (hd l m).2.2.2.2) = none → f (getI p l) (getI p m) = none := fun p hp => by
        by_cases hq : p = (hd l m).1
        · rw [hq, getI_lt s5 (Int.le_refl _), getI_lt s6 (Int.le_refl _), f0] at hp; simp at hp
        · rw [(s7 p hq).1, (s7 p hq).2]; exact hp
      have fore : ∀ {r : List It}, asc (hd l m).1 n r = true → (∀ p, f (getI p (hd l m).2.2.2.1) (getI p (hd l m).2.2.2.2) = some (getI p r)) → ∀ p, p ≠ (hd l m).1 → f (getI p l) (getI p m) = some (getI p r) := fun hr h p hp => by
        rw [(s7 p hp).1, (s7 p hp).2]; exact h p
      cases hf : f (hd l m).2.1 (hd l m).2.2.1 with
      | none =>
        refine ⟨fun _ => ⟨(hd l m).1, by rw [← s3, ← s4]; exact hf⟩, fun r h => by simp at h⟩
      | some w =>
        cases w with
        | none =>
          refine ⟨fun h => let ⟨p, hp⟩ := ih.1 h; ⟨p, back p hp⟩, fun r h => ?_⟩
          obtain ⟨h1, h2⟩ := ih.2 r h
          refine ⟨asc_low (by omega) h1, fun p => ?_⟩
          by_cases hp : p = (hd l m).1
          · rw [hp, ← s3, ← s4, hf, getI_lt h1 (Int.le_refl _)]
          · exact fore h1 h2 p hp
        | some v =>
          refine ⟨fun h => ?_, fun r h => ?_⟩
          · simp only [Option.map_eq_none_iff] at h
            obtain ⟨p, hp⟩ := ih.1 h
            exact ⟨p, back p hp⟩
          · simp only [Option.map_eq_some_iff] at h
            obtain ⟨r', h0, rfl⟩ := h
            obtain ⟨h1, h2⟩ := ih.2 r' h0
            refine ⟨by simp only [asc, Bool.and_eq_true, decide_eq_true_eq]; exact ⟨⟨s1, s2⟩, h1⟩, fun p => ?_⟩
            by_cases hp : p = (hd l m).1
            · rw [hp, ← s3, ← s4, hf]; simp [getI]
            · rw [fore h1 h2 p hp]; simp only [getI]; rw [if_neg (fun e => hp e.symm)]
/-- Rising lists that have the same are the same. -/
theorem asc_ext {n : Int} {l m : List It} (h0 : 0 ≤ n) (hl : asc (-1) n l = true) (hm : asc (-1) n m = true) (h : ∀ p : Nat, getI (p : Int) l = getI (p : Int) m) : l = m := by
  have e1 := asc_gath (a := 0) (k := n.toNat) (by simpa using hl) (by omega)
  have e2 := asc_gath (a := 0) (k := n.toNat) (by simpa using hm) (by omega)
  rw [e1, e2]
  exact gathR_congr fun p _ _ => h p
abbrev tlS (s : Sl It) (l : List It) : Sl It := ⟨s.nn, s.sz, l⟩
def outM (q : Option (Option Int)) (p : Int) (s t : Sl It) (o : List It) : Option ((Sl It × Sl It × List It) ⊕ MR) :=
  match q with
  | none => some (.inr (.inl o))
  | some none => some (.inl (s, t, o))
  | some (some v) => some (.inl (s, t, o ++ [(p, v)]))
theorem MStep_of {f : Option Int → Option Int → Option (Option Int)} {b : Sl It × Sl It × List It → Option ((Sl It × Sl It × List It) ⊕ MR)} {s t s' t' : Sl It} {o : List It} (e : b (s, t, o) = outM (f (hd s.l t.l).2.1 (hd s.l t.l).2.2.1) (hd s.l t.l).1 s' t' o)
    (e1 : s'.l = (hd s.l t.l).2.2.2.1) (e2 : t'.l = (hd s.l t.l).2.2.2.2) (h1 : okS 2 s') (h2 : okS 2 t') : MStep f b s t o := by
  unfold MStep
  unfold outM at e
  split
  · rename_i h; rw [h] at e; exact ⟨_, e⟩
  · rename_i h; rw [h] at e; exact ⟨_, _, e, e1, e2, h1, h2⟩
  · rename_i v h; rw [h] at e; exact ⟨_, _, e, e1, e2, h1, h2⟩
theorem nil_or {α : Type} (l : List α) : l = [] ∨ ∃ x m, l = x :: m := by cases l with | nil => exact .inl rfl | cons x m => exact .inr ⟨x, m, rfl⟩
theorem MStep_cases {f : Option Int → Option Int → Option (Option Int)} {b : Sl It × Sl It × List It → Option ((Sl It × Sl It × List It) ⊕ MR)} {s t : Sl It} {o : List It} (h1 : okS 2 s) (h2 : okS 2 t) (he : ¬ (s.l = [] ∧ t.l = []))
    (hA : ∀ x l, s.l = x :: l → t.l = [] → b (s, t, o) = outM (f (some x.2) none) x.1 (tlS s l) t o)
    (hE : ∀ y m, s.l = [] → t.l = y :: m → b (s, t, o) = outM (f none (some y.2)) y.1 s (tlS t m) o)
    (hB : ∀ x l y m, s.l = x :: l → t.l = y :: m → x.1 ≤ y.1 → y.1 ≤ x.1 → b (s, t, o) = outM (f (some x.2) (some y.2)) y.1 (tlS s l) (tlS t m) o)
    (hC : ∀ x l y m, s.l = x :: l → t.l = y :: m → x.1 ≤ y.1 → ¬ y.1 ≤ x.1 → b (s, t, o) = outM (f (some x.2) none) x.1 (tlS s l) t o)
    (hD : ∀ x l y m, s.l = x :: l → t.l = y :: m → ¬ x.1 ≤ y.1 → b (s, t, o) = outM (f none (some y.2)) y.1 s (tlS t m) o) : MStep f b s t o := by
  rcases nil_or s.l with hs | ⟨x, l, hs⟩
  · rcases nil_or t.l with ht | ⟨y, m, ht⟩
    · exact absurd ⟨hs, ht⟩ he
    · exact MStep_of (s' := s) (t' := tlS t m) (by rw [hE y m hs ht, hs, ht]; rfl) (by rw [hs, ht]; rfl) (by rw [hs, ht]; rfl) h1 (ok_cut h2 ht)
  · rcases nil_or t.l with ht | ⟨y, m, ht⟩
    · exact MStep_of (s' := tlS s l) (t' := t) (by rw [hA x l hs ht, hs, ht]; rfl) (by rw [hs, ht]; rfl) (by rw [hs, ht]; rfl) (ok_cut h1 hs) h2
    · by_cases c1 : x.1 ≤ y.1
      · by_cases c2 : y.1 ≤ x.1
        · have hh : hd s.l t.l = (y.1, some x.2, some y.2, l, m) := by rw [hs, ht]; show (if _ then _ else _) = _; rw [if_pos c1, if_pos c2]
          exact MStep_of (s' := tlS s l) (t' := tlS t m) (by rw [hB x l y m hs ht c1 c2, hh]) (by rw [hh]) (by rw [hh]) (ok_cut h1 hs) (ok_cut h2 ht)
        · have hh : hd s.l t.l = (x.1, some x.2, none, l, y :: m) := by rw [hs, ht]; show (if _ then _ else _) = _; rw [if_pos c1, if_neg c2]
          exact MStep_of (s' := tlS s l) (t' := t) (by rw [hC x l y m hs ht c1 c2, hh]) (by rw [hh]) (by rw [hh, ht]) (ok_cut h1 hs) h2
      · have hh : hd s.l t.l = (y.1, none, some y.2, x :: l, m) := by rw [hs, ht]; show (if _ then _ else _) = _; rw [if_neg c1]
        exact MStep_of (s' := s) (t' := tlS t m) (by rw [hD x l y m hs ht c1, hh]) (by rw [hh, hs]) (by rw [hh]) h1 (ok_cut h2 ht)
theorem len_pos {s : Sl It} {x : It} {l : List It} (h : s.l = x :: l) : ((s.l.length : Nat) : Int) > 0 := by rw [h, List.length_cons]; omega
theorem len_ne {s : Sl It} {x : It} {l : List It} (h : s.l = x :: l) : ¬ ((s.l.length : Nat) : Int) = 0 := by rw [h, List.length_cons]; omega
theorem len_nil {s : Sl It} (h : s.l = []) : ((s.l.length : Nat) : Int) = 0 := by rw [h]; rfl
theorem len_npos {s : Sl It} (h : s.l = []) : ¬ ((s.l.length : Nat) : Int) > 0 := by rw [h]; simp
theorem val_hd {s : Sl It} {x : It} {l : List It} (h : s.l = x :: l) (q : ∀ x ∈ s.l, i64r x.2) : i64r x.2 := q x (by rw [h]; exact List.mem_cons_self)
theorem wrap_r0 {n : Int} (h : i64r n) : IntKind.i64.wrap (n + 0) = n := by rw [Int.add_zero]; exact wrap64 h.1 h.2
theorem wrap_0r {n : Int} (h : i64r n) : IntKind.i64.wrap (0 + n) = n := by rw [Int.zero_add]; exact wrap64 h.1 h.2
theorem app_one {o : List It} (ho : o.length ≤ 100000) (z : It) : app o [z] = some (o ++ [z]) := app_ok (by simp; unfold bound; omega)
theorem i64r_0 : i64r 0 := by unfold i64r; omega
def fitO (w : Int × Int) : Option (Option Int) := if (narrowW w).2 = true then some (some (narrowW w).1) else none
def fU (r : Int) : Option Int → Option Int → Option (Option Int)
  | none, none => some none
  | some x, none => some (some x)
  | none, some y => some (some y)
  | some x, some y => fitO (ringAdd r (ofW x) (ofW y))
def fM (r : Int) : Option Int → Option Int → Option (Option Int)
  | some x, some y => fitO (ringMul r x y)
  | _, _ => some none
theorem Union_step (r : Int) (s t : Sl It) (o : List It) (h1 : okS 2 s) (h2 : okS 2 t) (q1 : ∀ x ∈ s.l, i64r x.2) (q2 : ∀ x ∈ t.l, i64r x.2) (he : ¬ (s.l = [] ∧ t.l = [])) (ho : o.length ≤ 100000) : MStep (fU r) (blend_Union_b1 r) s t o := by
  refine MStep_cases h1 h2 he (fun x l hs ht => ?_) (fun y m hs ht => ?_) (fun x l y m hs ht c1 c2 => ?_) (fun x l y m hs ht c1 c2 => ?_) (fun x l y m hs ht c1 => ?_) <;> unfold blend_Union_b1 <;> simp only
  · have hx := val_hd hs q1
    rw [if_pos (len_pos hs), if_pos (len_nil ht)]
    simp only [at0 h1 hs, cut1 h1 hs, Option.bind_some]
    simp only [wrap_r0 hx, wide_Of_eq hx, wide_Narrow_eq, narrow_of hx, app_one ho, Option.bind_some, if_true]; rfl
  · have hy := val_hd ht q2
    rw [if_neg (len_npos hs), if_pos (len_pos ht)]
    simp only [at0 h2 ht, cut1 h2 ht, Option.bind_some]
    simp only [wrap_0r hy, wide_Of_eq hy, wide_Narrow_eq, narrow_of hy, app_one ho, Option.bind_some, if_true]; rfl
  · have hx := val_hd hs q1
    have hy := val_hd ht q2
    rw [if_pos (len_pos hs), if_neg (len_ne ht)]
    simp only [at0 h1 hs, at0 h2 ht, cut1 h1 hs, cut1 h2 ht, Option.bind_some]
    rw [if_pos c1, if_pos c2]
    simp only [wide_Of_eq hx, wide_Of_eq hy, ring_Add_eq, wide_Narrow_eq, Option.bind_some]; unfold fU fitO outM; simp only; cases hb : (narrowW (ringAdd r (ofW x.2) (ofW y.2))).2 <;> simp [app_one ho]
  · have hx := val_hd hs q1
    rw [if_pos (len_pos hs), if_neg (len_ne ht)]
    simp only [at0 h1 hs, at0 h2 ht, cut1 h1 hs, cut1 h2 ht, Option.bind_some]
    rw [if_pos c1, if_neg c2]
    simp only [wrap_r0 hx, wide_Of_eq hx, wide_Narrow_eq, narrow_of hx, app_one ho, Option.bind_some, if_true]; rfl
  · have hy := val_hd ht q2
    rw [if_pos (len_pos hs), if_neg (len_ne ht)]
    simp only [at0 h1 hs, at0 h2 ht, cut1 h1 hs, cut1 h2 ht, Option.bind_some]
    rw [if_neg c1]
    simp only [wrap_0r hy, wide_Of_eq hy, wide_Narrow_eq, narrow_of hy, app_one ho, Option.bind_some, if_true]; rfl
theorem Union_end (r : Int) (s t : Sl It) (o : List It) (hs : s.l = []) (ht : t.l = []) : blend_Union_b1 r (s, t, o) = some (.inr (.inr (.inl o))) := by
  unfold blend_Union_b1
  simp only
  rw [if_neg (len_npos hs), if_neg (len_npos ht)]
theorem Meet_step (r : Int) (s t : Sl It) (o : List It) (h1 : okS 2 s) (h2 : okS 2 t) (q1 : ∀ x ∈ s.l, i64r x.2) (q2 : ∀ x ∈ t.l, i64r x.2) (he : ¬ (s.l = [] ∧ t.l = [])) (ho : o.length ≤ 100000) : MStep (fM r) (blend_Meet_b1 r) s t o := by
  refine MStep_cases h1 h2 he (fun x l hs ht => ?_) (fun y m hs ht => ?_) (fun x l y m hs ht c1 c2 => ?_) (fun x l y m hs ht c1 c2 => ?_) (fun x l y m hs ht c1 => ?_) <;> unfold blend_Meet_b1 <;> simp only
  · have hx := val_hd hs q1
    rw [if_pos (len_pos hs), if_pos (len_nil ht)]
    simp only [at0 h1 hs, cut1 h1 hs, Option.bind_some]
    simp only [ring_Mul_eq r hx i64r_0, Option.bind_some]; rfl
  · have hy := val_hd ht q2
    rw [if_neg (len_npos hs), if_pos (len_pos ht)]
    simp only [at0 h2 ht, cut1 h2 ht, Option.bind_some]
    simp only [ring_Mul_eq r i64r_0 hy, Option.bind_some]; rfl
  · have hx := val_hd hs q1
    have hy := val_hd ht q2
    rw [if_pos (len_pos hs), if_neg (len_ne ht)]
    simp only [at0 h1 hs, at0 h2 ht, cut1 h1 hs, cut1 h2 ht, Option.bind_some]
    rw [if_pos c1, if_pos c2]
    simp only [ring_Mul_eq r hx hy, wide_Narrow_eq, Option.bind_some]; unfold fM fitO outM; simp only; cases hb : (narrowW (ringMul r x.2 y.2)).2 <;> simp [app_one ho]
  · have hx := val_hd hs q1
    rw [if_pos (len_pos hs), if_neg (len_ne ht)]
    simp only [at0 h1 hs, at0 h2 ht, cut1 h1 hs, cut1 h2 ht, Option.bind_some]
    rw [if_pos c1, if_neg c2]
    simp only [ring_Mul_eq r hx i64r_0, Option.bind_some]; rfl
  · have hy := val_hd ht q2
    rw [if_pos (len_pos hs), if_neg (len_ne ht)]
    simp only [at0 h1 hs, at0 h2 ht, cut1 h1 hs, cut1 h2 ht, Option.bind_some]
    rw [if_neg c1]
    simp only [ring_Mul_eq r i64r_0 hy, Option.bind_some]; rfl
theorem Meet_end (r : Int) (s t : Sl It) (o : List It) (hs : s.l = []) (ht : t.l = []) : blend_Meet_b1 r (s, t, o) = some (.inr (.inr (.inl o))) := by
  unfold blend_Meet_b1
  simp only
  rw [if_neg (len_npos hs), if_neg (len_npos ht)]
/-- What a blend comes to. -/
def blendV (f : Option Int → Option Int → Option (Option Int)) (v w : Int × Sl It) : (Int × Sl It) × Int :=
  if (sureV v).1 ≠ (sureV w).1 then ((0, nilS), 4) else match mrg f (sureV v).2.l (sureV w).2.l with
  | none => ((0, nilS), 12)
  | some r => (((sureV v).1, mo 2 r), 0)
theorem sure_vals {v : Int × Sl It} (h : ∀ x ∈ v.2.l, i64r x.2) : ∀ x ∈ (sureV v).2.l, i64r x.2 := by
  unfold sureV
  split
  · exact h
  · intro x hx; simp [nilS] at hx
theorem mrg_end {f : Option Int → Option Int → Option (Option Int)} {b : Sl It × Sl It × List It → Option ((Sl It × Sl It × List It) ⊕ MR)} (h0 : ∀ s t o, s.l = [] → t.l = [] → b (s, t, o) = some (.inr (.inr (.inl o))))
    (hs : ∀ s t o, okS 2 s → okS 2 t → (∀ x ∈ s.l, i64r x.2) → (∀ x ∈ t.l, i64r x.2) → ¬ (s.l = [] ∧ t.l = []) → o.length ≤ 100000 → MStep f b s t o) {v w : Int × Sl It} (hv : okS 2 v.2) (hw : okS 2 w.2) (qv : ∀ x ∈ v.2.l, i64r x.2) (qw : ∀ x ∈ w.2.l, i64r x.2) (hn : (sureV v).1 = (sureV w).1) :
    (loopO b ((sureV v).2, (sureV w).2, [])).bind (Sum.elim (fun _ => some ((0, (⟨false, 0, []⟩ : Sl It)), 12)) (Sum.elim (fun l => some (((sureV v).1, mo 2 l), 0)) (fun u => u.elim))) = some (blendV f v w) := by
  have l1 := sure_len v
  have l2 := sure_len w
  have := mrg_loop h0 hs ((sureV v).2.l.length + (sureV w).2.l.length) (sureV v).2 (sureV w).2 [] (Nat.le_refl _) (sureV_ok hv) (sureV_ok hw) (sure_vals qv) (sure_vals qw) (by simp; omega)
  unfold blendV mrg
  rw [if_neg (fun h => h hn)]
  rcases this with ⟨g1, o', g2⟩ | ⟨r, g1, g2⟩
  · rw [g1, g2]; rfl
  · rw [g1, g2]; rfl
theorem blend_Union_eq (r : Int) (v w : Int × Sl It) (hv : okS 2 v.2) (hw : okS 2 w.2) (lv : v.2.l.length ≤ 9223372036854775807) (lw : w.2.l.length ≤ 9223372036854775807) (qv : ∀ x ∈ v.2.l, i64r x.2) (qw : ∀ x ∈ w.2.l, i64r x.2) : blend_Union r v w = some (if okR r = true then blendV (fU r) v w else ((0, nilS), 8)) := by
  unfold blend_Union
  simp only [ring_Is_eq, Option.bind_some]
  by_cases hr : okR r = true
  · rw [if_pos hr]
    have hr' : (decide (1 ≤ r) && decide (r ≤ 5)) = true := hr
    rw [if_pos hr', blend_sure_eq v hv lv]
    simp only [Option.bind_some]
    rw [blend_sure_eq w hw lw]
    simp only [Option.bind_some]
    by_cases hn : (sureV v).1 = (sureV w).1
    · rw [if_neg (fun h => h hn)]
      exact mrg_end (Union_end r) (Union_step r) hv hw qv qw hn
    · rw [if_pos hn]
      unfold blendV; rw [if_pos hn]; rfl
  · rw [if_neg hr]
    have hr' : ¬ (decide (1 ≤ r) && decide (r ≤ 5)) = true := hr
    rw [if_neg hr']; rfl
theorem blend_Meet_eq (r : Int) (v w : Int × Sl It) (hv : okS 2 v.2) (hw : okS 2 w.2) (lv : v.2.l.length ≤ 9223372036854775807) (lw : w.2.l.length ≤ 9223372036854775807) (qv : ∀ x ∈ v.2.l, i64r x.2) (qw : ∀ x ∈ w.2.l, i64r x.2) : blend_Meet r v w = some (if okR r = true then blendV (fM r) v w else ((0, nilS), 8)) := by
  unfold blend_Meet
  simp only [ring_Is_eq, Option.bind_some]
  by_cases hr : okR r = true
  · rw [if_pos hr]
    have hr' : (decide (1 ≤ r) && decide (r ≤ 5)) = true := hr
    rw [if_pos hr', blend_sure_eq v hv lv]
    simp only [Option.bind_some]
    rw [blend_sure_eq w hw lw]
    simp only [Option.bind_some]
    by_cases hn : (sureV v).1 = (sureV w).1
    · rw [if_neg (fun h => h hn)]
      exact mrg_end (Meet_end r) (Meet_step r) hv hw qv qw hn
    · rw [if_pos hn]
      unfold blendV; rw [if_pos hn]; rfl
  · rw [if_neg hr]
    have hr' : ¬ (decide (1 ≤ r) && decide (r ≤ 5)) = true := hr
    rw [if_neg hr']; rfl
/-- A list has, place by place, what is asked; or at a place nothing can be. -/
def SpecR (f : Option Int → Option Int → Option (Option Int)) (n : Int) (l m : List It) (q : Option (List It)) : Prop :=
  (q = none → ∃ p, f (getI p l) (getI p m) = none) ∧ ∀ r, q = some r → asc (-1) n r = true ∧ ∀ p, f (getI p l) (getI p m) = some (getI p r)
theorem SpecR.uniq {f : Option Int → Option Int → Option (Option Int)} {n : Int} {l m : List It} {q q' : Option (List It)} (h0 : 0 ≤ n) (h : SpecR f n l m q) (h' : SpecR f n l m q') : q = q' := by
  cases q with
  | none =>
    obtain ⟨p, hp⟩ := h.1 rfl
    cases q' with
    | none => rfl
    | some r =>
      have := (h'.2 r rfl).2 p
      rw [hp] at this; simp at this
  | some r =>
    obtain ⟨a, b⟩ := h.2 r rfl
    cases q' with
    | none =>
      obtain ⟨p, hp⟩ := h'.1 rfl
      rw [b p] at hp; simp at hp
    | some r' =>
      obtain ⟨a', b'⟩ := h'.2 r' rfl
      rw [asc_ext h0 a a' fun p => by have := b p; rw [b' p] at this; simpa using this.symm]
theorem mrg_SpecR {f : Option Int → Option Int → Option (Option Int)} (f0 : f none none = some none) {n : Int} {l m : List It} (hl : asc (-1) n l = true) (hm : asc (-1) n m = true) : SpecR f n l m (mrg f l m) := mrg_spec f0 _ (Nat.le_refl _) hl hm
theorem right_asc {v : Int × Sl It} (h : rightB v = true) : asc (-1) v.1 v.2.l = true := by unfold rightB at h; simp only [Bool.and_eq_true] at h; exact h.2
theorem right_sz {v : Int × Sl It} (h : rightB v = true) : 0 ≤ v.1 ∧ v.1 ≤ 4096 := right_size (n := v.1) (s := v.2) h
theorem getI_some {p y : Int} : ∀ {l : List It}, getI p l = some y → (p, y) ∈ l
  | [], h => by simp [getI] at h
  | x :: l, h => by
    unfold getI at h
    split at h
    · rename_i c
      simp only [Option.some.injEq] at h
      subst h c; exact List.mem_cons_self
    · exact List.mem_cons_of_mem _ (getI_some h)
theorem getI_i64 {p y : Int} {l : List It} (hl : ∀ x ∈ l, i64r x.2) (h : getI p l = some y) : i64r y := hl _ (getI_some h)
theorem has_loop (s : Sl It) (p : Int) (hok : okS 2 s) (hl : s.l.length ≤ 9223372036854775807) : ∃ q, loopO (ref11_has_b1 s p) 0 = some q ∧ q = (match getI p s.l with | some x => .inr (x, true) | none => .inl ()) := by
  refine loop_up (b := ref11_has_b1 s p) s.l.length (fun j a => a = (j : Int) ∧ getI p s.l = getI p (s.l.drop j)) _
    (by
      rintro j _ hj ⟨rfl, hg⟩
      have hd := List.drop_eq_getElem_cons hj
      simp only [ref11_has_b1, at_get hok hj, Option.bind_some, w_succ hj hl]
      rw [if_pos (by omega)]
      by_cases c : s.l[j].1 = p
      · refine .inr ⟨_, if_pos c, ?_⟩
        rw [hg, hd]
        simp only [getI]; rw [if_pos c]
      · refine .inl ⟨_, if_neg c, rfl, ?_⟩
        rw [hg, hd]
        simp only [getI]; rw [if_neg c])
    (by
      rintro _ ⟨rfl, hg⟩
      refine ⟨_, if_neg (by omega), ?_⟩
      rw [hg, List.drop_length]; rfl) 0 (Nat.zero_le _) 0 ⟨rfl, by simp⟩
theorem ref11_has_eq (n : Int) (s : Sl It) (p : Int) (hok : okS 2 s) (hl : s.l.length ≤ 9223372036854775807) : ref11_has (n, s) p = some (encO (getI p s.l)) := by
  obtain ⟨q, h1, h2⟩ := has_loop s p hok hl
  unfold ref11_has
  simp only [h1, Option.bind_some]
  subst h2
  cases getI p s.l <;> rfl
def mtI (f : Option Int → Option Int → Option (Option Int)) : List It → List It → Option (List It)
  | [], _ => some []
  | x :: l, m => match f (some x.2) (getI x.1 m) with
    | none => none
    | some none => mtI f l m
    | some (some v) => (mtI f l m).map fun r => (x.1, v) :: r
theorem mtI_cons (f : Option Int → Option Int → Option (Option Int)) (x : It) (l m : List It) : mtI f (x :: l) m = (match f (some x.2) (getI x.1 m) with
    | none => none
    | some none => mtI f l m
    | some (some v) => (mtI f l m).map fun r => (x.1, v) :: r) := rfl
theorem mtI_spec {f : Option Int → Option Int → Option (Option Int)} (f0 : ∀ b, f none b = some none) {n : Int} {m : List It} : ∀ {l : List It} {a : Int}, asc a n l = true →
    (mtI f l m = none → ∃ p, f (getI p l) (getI p m) = none) ∧ ∀ r, mtI f l m = some r → asc a n r = true ∧ ∀ p, f (getI p l) (getI p m) = some (getI p r)
  | [], a, hl => ⟨fun h => by simp [mtI] at h, fun r h => by simp only [mtI, Option.some.injEq] at h; subst h; exact ⟨rfl, fun p => f0 _⟩⟩
  | x :: l, a, hl => by
    simp only [asc, Bool.and_eq_true, decide_eq_true_eq] at hl
    obtain ⟨⟨s1, s2⟩, s5⟩ := hl
    have ih := mtI_spec (m := m) f0 s5
    have gx : getI x.1 (x :: l) = some x.2 := by simp [getI]
    have gn : ∀ p, p ≠ x.1 → getI p (x :: l) = getI p l := fun p hp => by simp only [getI]; rw [if_neg (fun e => hp e.symm)]
    have hx : f (getI x.1 (x :: l)) (getI x.1 m) = f (some x.2) (getI x.1 m) := by rw [gx]
    have back : ∀ p, f (getI p l) (getI p m) = none → f (getI p (x :: l)) (getI p m) = none := fun p hp => by
      by_cases hq : p = x.1
      · rw [hq, getI_lt s5 (Int.le_refl _), f0] at hp; simp at hp
      · rw [gn p hq]; exact hp
    unfold mtI
    cases hf : f (some x.2) (getI x.1 m) with
    | none => exact ⟨fun _ => ⟨x.1, by rw [hx, hf]⟩, fun r h => by simp at h⟩
    | some w =>
      cases w with
      | none =>
        refine ⟨fun h => let ⟨p, hp⟩ := ih.1 h; ⟨p, back p hp⟩, fun r h => ?_⟩
        obtain ⟨h1, h2⟩ := ih.2 r h
        refine ⟨asc_low (by omega) h1, fun p => ?_⟩
        by_cases hp : p = x.1
        · rw [hp, hx, hf, getI_lt h1 (Int.le_refl _)]
        · rw [gn p hp]; exact h2 p
      | some v =>
        refine ⟨fun h => ?_, fun r h => ?_⟩
        · simp only [Option.map_eq_none_iff] at h
          obtain ⟨p, hp⟩ := ih.1 h
          exact ⟨p, back p hp⟩
        · simp only [Option.map_eq_some_iff] at h
          obtain ⟨r', h0, rfl⟩ := h
          obtain ⟨h1, h2⟩ := ih.2 r' h0
          refine ⟨by simp only [asc, Bool.and_eq_true, decide_eq_true_eq]; exact ⟨⟨s1, s2⟩, h1⟩, fun p => ?_⟩
          by_cases hp : p = x.1
          · rw [hp, hx, hf]; simp [getI]
          · rw [gn p hp, h2 p]; simp only [getI]; rw [if_neg (fun e => hp e.symm)]
abbrev RR := List It ⊕ ((Int × Sl It) × Int)
/-- A round of a loop over the items of one. -/
def IStep (f : Option Int → Option Int → Option (Option Int)) (b : Int × List It → Option ((Int × List It) ⊕ RR)) (x : It) (m : List It) (j : Nat) (o : List It) : Prop :=
  b ((j : Int), o) = match f (some x.2) (getI x.1 m) with
  | none => some (.inr (.inr ((0, (⟨false, 0, []⟩ : Sl It)), 12)))
  | some none => some (.inl (((j + 1 : Nat) : Int), o))
  | some (some v) => some (.inl (((j + 1 : Nat) : Int), o ++ [(x.1, v)]))
theorem mtI_loop {f : Option Int → Option Int → Option (Option Int)} {b : Int × List It → Option ((Int × List It) ⊕ RR)} {l m : List It} (hl : l.length ≤ 4096) (hs : ∀ j o (hj : j < l.length), o.length ≤ 4096 → IStep f b l[j] m j o) (he : ∀ o, b ((l.length : Int), o) = some (.inr (.inl o))) :
    loopO b (0, []) = some (match mtI f l m with | none => .inr ((0, (⟨false, 0, []⟩ : Sl It)), 12) | some r => .inl r) := by
  obtain ⟨q, h1, h2⟩ := loop_up (b := b) l.length (fun j a => ∃ o, a = ((j : Int), o) ∧ o.length ≤ j ∧ mtI f l m = (mtI f (l.drop j) m).map fun r => o ++ r) (fun q => q = (match mtI f l m with | none => .inr ((0, (⟨false, 0, []⟩ : Sl It)), 12) | some r => .inl r))
    (by
      rintro j _ hj ⟨o, rfl, ho, hm⟩
      have := hs j o hj (by omega)
      unfold IStep at this
      rw [List.drop_eq_getElem_cons hj, mtI_cons] at hm
      cases hf : f (some l[j].2) (getI l[j].1 m) with
      | none =>
        rw [hf] at this hm
        refine .inr ⟨_, this, ?_⟩
        have hm' : mtI f l m = none := hm
        simp only [hm']
      | some w =>
        cases w with
        | none =>
          rw [hf] at this hm
          exact .inl ⟨_, this, o, rfl, by omega, hm⟩
        | some v =>
          rw [hf] at this hm
          refine .inl ⟨_, this, _, rfl, by simp; omega, ?_⟩
          rw [hm]
          simp only [Option.map_map]
          congr 1
          funext r
          simp)
    (by
      rintro _ ⟨o, rfl, ho, hm⟩
      refine ⟨_, he o, ?_⟩
      rw [List.drop_length] at hm
      have hm' : mtI f l m = some o := by rw [hm]; simp [mtI]
      simp only [hm']) 0 (Nat.zero_le _) (0, []) ⟨[], rfl, Nat.le_refl _, by simp⟩
  rw [h1, h2]
theorem app_few {o : List It} (ho : o.length ≤ 4096) (z : It) : app o [z] = some (o ++ [z]) := app_one (by omega) z
theorem u64_fit {w : Int × Int} (hw : u64r w.2) : ref01_Narrow w = some (narrowW w) := ref01_Narrow_eq hw
theorem ringMul_lo (r : Int) {x y : Int} (hx : i64r x) (hy : i64r y) : u64r (ringMul r x y).2 := by
  unfold ringMul
  split
  · split
    · exact ofW_lo _
    · unfold lessrW; split
      · exact ofW_lo _
      · exact toW_lo _
  · split
    · unfold truthW u64r; split <;> simp
    · split
      · split <;> exact ofW_lo _
      · split
        · split <;> exact ofW_lo _
        · split
          · exact toW_lo _
          · unfold u64r; simp
theorem mtI_mrg {f : Option Int → Option Int → Option (Option Int)} (f0 : ∀ b, f none b = some none) {n : Int} (h0 : 0 ≤ n) {l m : List It} (hl : asc (-1) n l = true) (hm : asc (-1) n m = true) : mtI f l m = mrg f l m :=
  SpecR.uniq h0 (mtI_spec f0 hl) (mrg_SpecR (f0 none) hl hm)
theorem ref11_Meet_eq (r : Int) (v w : Int × Sl It) (hv : okS 2 v.2) (hw : okS 2 w.2) (lv : v.2.l.length ≤ 9223372036854775807) (lw : w.2.l.length ≤ 9223372036854775807) (qv : ∀ x ∈ v.2.l, i64r x.2) (qw : ∀ x ∈ w.2.l, i64r x.2) : ref11_Meet r v w = some (if okR r = true then blendV (fM r) v w else ((0, nilS), 8)) := by
  have k1 := sure_len v
  have k2 := sure_len w
  have o1 := sureV_ok hv
  have o2 := sureV_ok hw
  have u1 := sure_vals qv
  have u2 := sure_vals qw
  have r1 := sureV_right v
  have r2 := sureV_right w
  unfold ref11_Meet
  simp only [ref02_Is_eq, ref09_Sure_eq v hv lv, ref09_Sure_eq w hw lw, Option.bind_some]
  by_cases hr : okR r = true
  · rw [if_pos hr]
    have hr' : (decide (1 ≤ r) && decide (r ≤ 5)) = true := hr
    rw [if_pos hr']
    unfold blendV
    by_cases hn : (sureV v).1 = (sureV w).1
    · rw [if_neg (fun h => h hn), if_neg (fun h => h hn)]
      rw [mtI_loop (f := fM r) (m := (sureV w).2.l) k1 (fun j o hj ho => ?_) (fun o => ?_), mtI_mrg (fun b => by cases b <;> rfl) (right_sz r1).1 (right_asc r1) (by rw [hn]; exact right_asc r2)]
      · cases mrg (fM r) (sureV v).2.l (sureV w).2.l <;> rfl
      · unfold IStep ref11_Meet_b1
        have hx : i64r (sureV v).2.l[j].2 := u1 _ (List.getElem_mem hj)
        simp only [at_get o1 hj, ref11_has_eq _ _ _ o2 (show (sureV w).2.l.length ≤ _ by omega), Option.bind_some, w_succ hj (show (sureV v).2.l.length ≤ _ by omega)]
        rw [if_pos (by omega)]
        cases hg : getI (sureV v).2.l[j].1 (sureV w).2.l with
        | none => simp [encO, fM]
        | some y =>
          have hy := getI_i64 u2 hg
          simp only [encO, if_true, ref02_Mul_eq r hx hy, u64_fit (ringMul_lo r hx hy), Option.bind_some]
          unfold fM fitO
          simp only
          cases hb : (narrowW (ringMul r (sureV v).2.l[j].2 y)).2 <;> simp [app_few ho]
      · unfold ref11_Meet_b1
        simp only
        rw [if_neg (by omega)]
    · rw [if_pos hn, if_pos hn]; rfl
  · rw [if_neg hr]
    have hr' : ¬ (decide (1 ≤ r) && decide (r ≤ 5)) = true := hr
    rw [if_neg hr']; rfl
def joinF (q : Option (Option Int)) : Option Int := match q with | some v => v | none => none
theorem gath_SpecR {f : Option Int → Option Int → Option (Option Int)} (f0 : f none none = some none) {n : Int} {l m : List It} (h0 : 0 ≤ n) (hl : asc (-1) n l = true) (hm : asc (-1) n m = true) (hg : ∀ p : Nat, (p : Int) < n → f (getI p l) (getI p m) ≠ none) : SpecR f n l m (some (gathR 0 n.toNat fun p => joinF (f (getI p l) (getI p m)))) := by
  refine ⟨fun h => by simp at h, fun r h => ?_⟩
  simp only [Option.some.injEq] at h
  subst h
  have ha := gathR_asc 0 n.toNat (fun p => joinF (f (getI p l) (getI p m))) (-1) n (by omega) (by omega)
  refine ⟨ha, fun p => ?_⟩
  by_cases h1 : p < 0
  · rw [getI_lt hl (by omega), getI_lt hm (by omega), getI_lt ha (by omega), f0]
  · by_cases h2 : n ≤ p
    · rw [getI_ge hl h2, getI_ge hm h2, getI_ge ha h2, f0]
    · obtain ⟨k, rfl⟩ := Int.eq_ofNat_of_zero_le (show 0 ≤ p by omega)
      rw [getI_gath 0 n.toNat _ k (by omega) (by omega)]
      have := hg k (by omega)
      cases hf : f (getI k l) (getI k m) with
      | none => exact absurd hf this
      | some v => rfl
theorem ref11_Union_eq (r : Int) (v w : Int × Sl It) (hv : okS 2 v.2) (hw : okS 2 w.2) (lv : v.2.l.length ≤ 9223372036854775807) (lw : w.2.l.length ≤ 9223372036854775807) : ref11_Union r v w = some (if okR r = true then blendV (fU r) v w else ((0, nilS), 8)) := by
  have k1 := sure_len v
  have k2 := sure_len w
  have o1 := sureV_ok hv
  have o2 := sureV_ok hw
  have r1 := sureV_right v
  have r2 := sureV_right w
  unfold ref11_Union
  simp only [ref02_Is_eq, ref09_Sure_eq v hv lv, ref09_Sure_eq w hw lw, Option.bind_some]
  by_cases hr : okR r = true
  · rw [if_pos hr]
    have hr' : (decide (1 ≤ r) && decide (r ≤ 5)) = true := hr
    rw [if_pos hr']
    unfold blendV
    by_cases hn : (sureV v).1 = (sureV w).1
    · rw [if_neg (fun h => h hn), if_neg (fun h => h hn)]
      have hz := right_sz r1
      have hsp := mrg_SpecR (f := fU r) rfl (right_asc r1) (by rw [hn]; exact right_asc r2)
      obtain ⟨q, h1, h2⟩ := loop_up (b := ref11_Union_b1 r (sureV v).1 (sureV v).2 (sureV w).1 (sureV w).2) (sureV v).1.toNat (fun j a => a = ((j : Int), gathR 0 j fun p => joinF (fU r (getI p (sureV v).2.l) (getI p (sureV w).2.l))) ∧ ∀ p : Nat, p < j → fU r (getI p (sureV v).2.l) (getI p (sureV w).2.l) ≠ none) (fun q => q = (match mrg (fU r) (sureV v).2.l (sureV w).2.l with | none => .inr ((0, (⟨false, 0, []⟩ : Sl It)), 12) | some r => .inl r))
        (by
          rintro j _ hj ⟨rfl, hp⟩
          have hlen := gathR_len 0 j fun p => joinF (fU r (getI p (sureV v).2.l) (getI p (sureV w).2.l))
          have hlast := gathR_last 0 j fun p => joinF (fU r (getI p (sureV v).2.l) (getI p (sureV w).2.l))
          rw [Nat.zero_add] at hlast
          generalize hG : gathR 0 j (fun p => joinF (fU r (getI p (sureV v).2.l) (getI p (sureV w).2.l))) = G at hlen hlast ⊢
          have hap : ∀ z : It, app G [z] = some (G ++ [z]) := fun z => app_few (by omega) z
          have hnext : ∀ u, fU r (getI j (sureV v).2.l) (getI j (sureV w).2.l) = some u → ∀ p : Nat, p < j + 1 → fU r (getI p (sureV v).2.l) (getI p (sureV w).2.l) ≠ none := fun u hu p hpj => by
            by_cases e : p = j
            · subst e; rw [hu]; simp
            · exact hp p (by omega)
          simp only [ref11_Union_b1, ref11_has_eq _ _ _ o1 (show (sureV v).2.l.length ≤ _ by omega), ref11_has_eq _ _ _ o2 (show (sureV w).2.l.length ≤ _ by omega), Option.bind_some, w_succ hj (show (sureV v).1.toNat ≤ _ by omega)]
          rw [if_pos (by omega)]
          cases ha : getI (j : Int) (sureV v).2.l with
          | none =>
            cases hb : getI (j : Int) (sureV w).2.l with
            | none =>
              rw [ha, hb] at hnext hlast
              simp only [encO, Bool.false_eq_true, if_false]
              exact .inl ⟨_, rfl, by rw [hlast]; simp [fU, joinF], hnext _ rfl⟩
            | some y =>
              rw [ha, hb] at hnext hlast
              simp only [encO, Bool.false_eq_true, if_false, if_true, hap, Option.bind_some]
              exact .inl ⟨_, rfl, by rw [hlast]; rfl, hnext _ rfl⟩
          | some x =>
            cases hb : getI (j : Int) (sureV w).2.l with
            | none =>
              rw [ha, hb] at hnext hlast
              simp only [encO, Bool.false_eq_true, if_false, if_true, hap, Option.bind_some]
              exact .inl ⟨_, rfl, by rw [hlast]; rfl, hnext _ rfl⟩
            | some y =>
              have hlo := ringAdd_lo (r := r) (ofW_lo x) (ofW_lo y)
              have hfu : fU r (some x) (some y) = fitO (ringAdd r (ofW x) (ofW y)) := rfl
              simp only [encO, if_true, ref01_Of_eq, ref02_Add_eq, u64_fit hlo, Option.bind_some]
              unfold fitO at hfu
              cases hc : (narrowW (ringAdd r (ofW x) (ofW y))).2 with
              | false =>
                rw [hc] at hfu
                simp only [Bool.false_eq_true, if_false]
                refine .inr ⟨_, rfl, ?_⟩
                cases hq : mrg (fU r) (sureV v).2.l (sureV w).2.l with
                | none => rfl
                | some u =>
                  have := (hsp.2 u hq).2 j
                  rw [ha, hb, hfu] at this
                  simp at this
              | true =>
                rw [hc] at hfu
                simp only [if_true, hap, Option.bind_some]
                have hfu' : fU r (some x) (some y) = some (some (narrowW (ringAdd r (ofW x) (ofW y))).1) := hfu
                rw [ha, hb] at hnext hlast
                exact .inl ⟨_, rfl, by rw [hlast, hfu']; rfl, hnext _ hfu'⟩)
        (by
          rintro _ ⟨rfl, hp⟩
          refine ⟨_, if_neg (by omega), ?_⟩
          have := SpecR.uniq hz.1 hsp (gath_SpecR (f := fU r) rfl hz.1 (right_asc r1) (by rw [hn]; exact right_asc r2) fun p hpn => hp p (by omega))
          rw [this]) 0 (Nat.zero_le _) (0, []) ⟨rfl, fun p hp => absurd hp (by omega)⟩
      rw [h1, h2]
      cases mrg (fU r) (sureV v).2.l (sureV w).2.l <;> rfl
    · rw [if_pos hn, if_pos hn]; rfl
  · rw [if_neg hr]
    have hr' : ¬ (decide (1 ≤ r) && decide (r ≤ 5)) = true := hr
    rw [if_neg hr']; rfl
theorem few_vals {v : Int × Sl It} (h : ∀ x ∈ v.2.l, i64r x.2) : ∀ x ∈ (fewV v).2.l, i64r x.2 := by
  unfold fewV
  simp only
  split
  · intro x hx; exact h x (List.mem_of_mem_take hx)
  · exact h
theorem blendV_ok (f : Option Int → Option Int → Option (Option Int)) (v w : Int × Sl It) (hv : okS 2 v.2) (hw : okS 2 w.2) : okS 2 (blendV f v w).1.2 := by
  unfold blendV
  split
  · exact ok_nil
  · split
    · exact ok_nil
    · exact ok_mo _
theorem mrgN_len {f : Option Int → Option Int → Option (Option Int)} : ∀ (k : Nat) (l m r : List It), mrgN f k l m = some r → r.length ≤ k
  | 0, l, m, r, h => by simp only [mrgN, Option.some.injEq] at h; subst h; exact Nat.le_refl _
  | k + 1, l, m, r, h => by
    unfold mrgN at h
    split at h
    · simp only [Option.some.injEq] at h; subst h; exact Nat.zero_le _
    · split at h
      · simp at h
      · have := mrgN_len k _ _ r h; omega
      · simp only [Option.map_eq_some_iff] at h
        obtain ⟨r', h0, rfl⟩ := h
        have := mrgN_len k _ _ r' h0
        simp; omega
theorem blendV_len (f : Option Int → Option Int → Option (Option Int)) (v w : Int × Sl It) : (blendV f v w).1.2.l.length ≤ 8192 := by
  have k1 := sure_len v
  have k2 := sure_len w
  unfold blendV
  split
  · simp [nilS]
  · split
    · simp [nilS]
    · rename_i r hr
      have := mrgN_len _ _ _ _ hr
      simp only [mo_l]; omega
theorem same_self (u : Int × Sl It) (h : okS 2 u.2) (hl : u.2.l.length ≤ 8192) : ref09_Same u u = some true := same_refl u h (by omega)
theorem law11_BlendSums_true (r : Int) (hr : inK .i64 r) (v : Int × Sl It) (hv : inK .i64 v.1 ∧ SlW 2 WIt v.2) (w : Int × Sl It) (hw : inK .i64 w.1 ∧ SlW 2 WIt w.2) : law11_BlendSums r v w = some true := by
  have v1 := few_ok (v := v) hv.2.ok
  have w1 := few_ok (v := w) hw.2.ok
  have v2 := few_len v
  have w2 := few_len w
  have v3 := few_vals (WV.vals hv)
  have w3 := few_vals (WV.vals hw)
  have e1 := blend_Union_eq r (fewV v) (fewV w) v1 w1 (by omega) (by omega) v3 w3
  have e2 := ref11_Union_eq r (fewV v) (fewV w) v1 w1 (by omega) (by omega)
  have e3 := blend_Meet_eq r (fewV v) (fewV w) v1 w1 (by omega) (by omega) v3 w3
  have e4 := ref11_Meet_eq r (fewV v) (fewV w) v1 w1 (by omega) (by omega) v3 w3
  have s1 : ref09_Same (if okR r = true then blendV (fU r) (fewV v) (fewV w) else ((0, nilS), 8)).1 (if okR r = true then blendV (fU r) (fewV v) (fewV w) else ((0, nilS), 8)).1 = some true := by
    split
    · exact same_self _ (blendV_ok _ _ _ v1 w1) (blendV_len _ _ _)
    · exact same_self _ ok_nil (by simp [nilS])
  have s2 : ref09_Same (if okR r = true then blendV (fM r) (fewV v) (fewV w) else ((0, nilS), 8)).1 (if okR r = true then blendV (fM r) (fewV v) (fewV w) else ((0, nilS), 8)).1 = some true := by
    split
    · exact same_self _ (blendV_ok _ _ _ v1 w1) (blendV_len _ _ _)
    · exact same_self _ ok_nil (by simp [nilS])
  unfold law11_BlendSums
  simp only
  rw [law09_Few_eq v]
  simp only [Option.bind_some]
  rw [law09_Few_eq w]
  simp only [Option.bind_some, FL_eq3, ite_true]
  split
  · split
    · rfl
    · simp only [e1, e2, e3, e4, Option.bind_some, s1, s2, ite_true]
  · simp only [e1, e2, e3, e4, Option.bind_some, s1, s2, ite_true]
end Ev
end Go.Proofs.Ytlcfdmjkbaegpaa
