/- TopLeast: mathematics. Over the functions on data; no number of a type or function is named. -/
import Derived.Test.YtlcfdmjkbaegpaaLf1
import Derived.Test.YtlcfdmjkbaegpaaLf16
import Derived.Test.YtlcfdmjkbaegpaaLf2
import Derived.Test.YtlcfdmjkbaegpaaLf3
import Derived.Test.YtlcfdmjkbaegpaaLf4
import Derived.Test.YtlcfdmjkbaegpaaLf5
import Derived.Test.YtlcfdmjkbaegpaaLf6
import Derived.Test.YtlcfdmjkbaegpaaLf7
import Derived.Test.YtlcfdmjkbaegpaaLw9
import Derived.Test.YtlcfdmjkbaegpaaEvS5
namespace Go.Proofs.Ytlcfdmjkbaegpaa
namespace Ev
open Go
set_option linter.unusedVariables false
set_option linter.unusedSimpArgs false
abbrev It := Int × Int
def WIt (x : It) : Prop := inK .i64 x.1 ∧ inK .i64 x.2
def WV (v : Int × Sl It) : Prop := inK .i64 v.1 ∧ SlW 2 WIt v.2
def okS {α : Type} (w : Nat) (s : Sl α) : Prop := s.l = [] ∨ s.sz = w
theorem SlW.ok {α : Type} {w : Nat} {Q : α → Prop} {s : Sl α} (h : SlW w Q s) : okS w s := .inr h.1
def nilS {α : Type} : Sl α := ⟨false, 0, []⟩
theorem ok_nil {α : Type} {w : Nat} : okS w (nilS : Sl α) := .inl rfl
theorem ok_mo {α : Type} {w : Nat} (l : List α) : okS w (mo w l) := by cases l with | nil => exact .inl rfl | cons x l => exact .inr rfl
/-- Do places rise, and stand below n? -/
def asc : Int → Int → List It → Bool
  | _, _, [] => true
  | a, n, x :: l => decide (a < x.1) && decide (x.1 < n) && asc x.1 n l
def sizeB (n : Int) : Bool := decide (0 ≤ n) && decide (n ≤ 4096)
def rightB (v : Int × Sl It) : Bool := sizeB v.1 && asc (-1) v.1 v.2.l
def sureV (v : Int × Sl It) : Int × Sl It := if rightB v = true then v else (0, nilS)
theorem sureV_ok {v : Int × Sl It} (h : okS 2 v.2) : okS 2 (sureV v).2 := by unfold sureV; split; exact h; exact ok_nil
theorem sureV_right (v : Int × Sl It) : rightB (sureV v) = true := by unfold sureV; split; assumption; rfl
theorem asc_lt {n : Int} : ∀ {a : Int} {l : List It}, asc a n l = true → ∀ x ∈ l, a < x.1 ∧ x.1 < n
  | a, y :: l, h, x, hx => by
    simp only [asc, Bool.and_eq_true, decide_eq_true_eq] at h
    rcases List.mem_cons.1 hx with rfl | hx
    · exact ⟨h.1.1, h.1.2⟩
    · have := asc_lt h.2 x hx; omega
theorem asc_len {n : Int} : ∀ {a : Int} {l : List It}, asc a n l = true → (l.length : Int) ≤ max (n - a - 1) 0
  | a, [], h => by simp; omega
  | a, y :: l, h => by
    simp only [asc, Bool.and_eq_true, decide_eq_true_eq] at h
    have := asc_len h.2
    simp only [List.length_cons]; omega
theorem right_len {v : Int × Sl It} (h : rightB v = true) : v.2.l.length ≤ 4096 := by
  simp only [rightB, sizeB, Bool.and_eq_true, decide_eq_true_eq] at h
  have := asc_len h.2; omega
theorem sure_len (v : Int × Sl It) : (sureV v).2.l.length ≤ 4096 := right_len (sureV_right v)

theorem spvec_size_eq (n : Int) : spvec_size n = some (sizeB n) := by
  unfold spvec_size sizeB
  by_cases h1 : n ≥ 0
  · rw [if_pos h1]
    by_cases h2 : n ≤ 4096
    · rw [if_pos h2, decide_eq_true (show 0 ≤ n from h1), decide_eq_true h2]; rfl
    · rw [if_neg h2, decide_eq_false h2]; simp
  · rw [if_neg h1, decide_eq_false (show ¬ 0 ≤ n from h1)]; rfl
theorem spvec_Right_eq (v : Int × Sl It) (hok : okS 2 v.2) (hl : v.2.l.length ≤ 9223372036854775807) : spvec_Right v = some (rightB v) := by
  obtain ⟨n, s⟩ := v
  unfold spvec_Right rightB
  simp only [spvec_size_eq, Option.bind_some]
  cases hs : sizeB n with
  | false => simp
  | true =>
    simp only [if_true, Bool.true_and]
    obtain ⟨r, h1, h2⟩ := loop_up (b := spvec_Right_b1 n s) s.l.length (fun j a => ∃ la, a = (la, (j : Int)) ∧ asc (-1) n s.l = asc la n (s.l.drop j)) (fun r => (asc (-1) n s.l = true ∧ r = .inl ()) ∨ (asc (-1) n s.l = false ∧ r = .inr false))
      (by
        rintro j _ hj ⟨la, rfl, ha⟩
        rw [List.drop_eq_getElem_cons hj] at ha
        simp only [asc] at ha
        simp only [spvec_Right_b1, at_get hok hj, Option.bind_some, w_succ hj (by simp only at hl; omega)]
        rw [if_pos (by omega)]
        by_cases c1 : s.l[j].1 ≤ la
        · refine .inr ⟨_, if_pos c1, .inr ⟨?_, rfl⟩⟩
          rw [ha, decide_eq_false (by omega)]; rfl
        · rw [if_neg c1]
          by_cases c2 : s.l[j].1 ≥ n
          · refine .inr ⟨_, if_pos c2, .inr ⟨?_, rfl⟩⟩
            rw [ha, decide_eq_false (p := s.l[j].1 < n) (by omega)]; simp
          · refine .inl ⟨_, if_neg c2, _, rfl, ?_⟩
            rw [ha, decide_eq_true (by omega), decide_eq_true (by omega)]; rfl)
      (by
        rintro _ ⟨la, rfl, ha⟩
        refine ⟨_, if_neg (by omega), .inl ⟨?_, rfl⟩⟩
        rw [ha]; simp [asc]) 0 (Nat.zero_le _) (-1, 0) ⟨-1, rfl, rfl⟩
    rw [h1]
    rcases h2 with ⟨h3, rfl⟩ | ⟨h3, rfl⟩ <;> simp [h3]
theorem fold_sure_eq (v : Int × Sl It) (hok : okS 2 v.2) (hl : v.2.l.length ≤ 9223372036854775807) : fold_sure v = some (sureV v) := by
  obtain ⟨n, s⟩ := v
  unfold fold_sure sureV
  simp only [spvec_Right_eq (n, s) hok hl, Option.bind_some]
  split <;> rfl
/-- The reference's way to see whether places rise. -/
theorem asc_iff {n : Int} {l : List It} : ∀ {a : Int}, asc a n l = true ↔ ∀ j (h : j < l.length), (if h0 : j = 0 then a < l[j].1 else l[j - 1].1 < l[j].1) ∧ l[j].1 < n := by
  induction l with
  | nil => intro a; simp [asc]
  | cons x l ih =>
    intro a
    simp only [asc, Bool.and_eq_true, decide_eq_true_eq, ih]
    constructor
    · rintro ⟨⟨h1, h2⟩, h3⟩ j hj
      cases j with
      | zero => exact ⟨by simpa using h1, by simpa using h2⟩
      | succ j =>
        have := h3 j (by simpa using hj)
        refine ⟨?_, by simpa using this.2⟩
        rw [dif_neg (by omega)]
        cases j with
        | zero => simpa using this.1
        | succ j => have := this.1; rw [dif_neg (by omega)] at this; simpa using this
    · intro h
      have h0 := h 0 (by simp)
      refine ⟨⟨by simpa using h0.1, by simpa using h0.2⟩, fun j hj => ?_⟩
      have := h (j + 1) (by simpa using hj)
      rw [dif_neg (by omega)] at this
      refine ⟨?_, by simpa using this.2⟩
      cases j with
      | zero => simpa using this.1
      | succ j => rw [dif_neg (by omega)]; simpa using this.1
theorem asc_iff' {n : Int} {l : List It} : asc (-1) n l = true ↔ ∀ j (h : j < l.length), 0 ≤ l[j].1 ∧ l[j].1 < n ∧ (j ≠ 0 → l[j - 1].1 < l[j].1) := by
  constructor
  · intro h j hj
    have h1 := asc_lt h l[j] (List.getElem_mem hj)
    have h2 := (asc_iff.1 h j hj).1
    exact ⟨by omega, h1.2, fun h0 => by rw [dif_neg h0] at h2; exact h2⟩
  · intro h
    refine asc_iff.2 fun j hj => ⟨?_, (h j hj).2.1⟩
    split
    · have := (h j hj).1; omega
    · rename_i h0; exact (h j hj).2.2 h0
theorem ref09_Right_eq (v : Int × Sl It) (hok : okS 2 v.2) (hl : v.2.l.length ≤ 9223372036854775807) : ref09_Right v = some (rightB v) := by
  obtain ⟨n, s⟩ := v
  simp only at hl
  unfold ref09_Right rightB sizeB
  by_cases h1 : n < 0
  · simp only [if_pos h1, decide_eq_false (show ¬ 0 ≤ n by omega)]; rfl
  by_cases h2 : n > 4096
  · simp only [if_neg h1, if_pos h2, decide_eq_false (show ¬ n ≤ 4096 by omega)]; simp
  simp only [if_neg h1, if_neg h2, decide_eq_true (show 0 ≤ n by omega), decide_eq_true (show n ≤ 4096 by omega), Bool.true_and]
  have hF : ∀ j (hj : j < s.l.length), ¬ (0 ≤ s.l[j].1 ∧ s.l[j].1 < n ∧ (j ≠ 0 → s.l[j - 1].1 < s.l[j].1)) → asc (-1) n s.l = false := fun j hj hh => by
    rw [Bool.eq_false_iff]; intro hc; exact hh (asc_iff'.1 hc j hj)
  obtain ⟨r, h3, h4⟩ := loop_up (b := ref09_Right_b1 n s) s.l.length (fun j a => a = (j : Int) ∧ ∀ i (h : i < s.l.length), i < j → 0 ≤ s.l[i].1 ∧ s.l[i].1 < n ∧ (i ≠ 0 → s.l[i - 1].1 < s.l[i].1)) (fun r => (asc (-1) n s.l = true ∧ r = .inl ()) ∨ (asc (-1) n s.l = false ∧ r = .inr false))
    (by
      rintro j _ hj ⟨rfl, ha⟩
      simp only [ref09_Right_b1, at_get hok hj, Option.bind_some, w_succ hj (by omega)]
      rw [if_pos (by omega)]
      by_cases c1 : s.l[j].1 < 0
      · exact .inr ⟨_, if_pos c1, .inr ⟨hF j hj (by omega), rfl⟩⟩
      rw [if_neg c1]
      by_cases c2 : s.l[j].1 ≥ n
      · exact .inr ⟨_, if_pos c2, .inr ⟨hF j hj (by omega), rfl⟩⟩
      rw [if_neg c2]
      by_cases c3 : (j : Int) > 0
      · rw [if_pos c3]
        have e : IntKind.i64.wrap ((j : Int) - 1) = ((j - 1 : Nat) : Int) := by rw [wrap64 (by omega) (by omega)]; omega
        rw [e, at_get hok (show j - 1 < s.l.length by omega)]
        simp only [Option.bind_some]
        by_cases c4 : s.l[j].1 ≤ s.l[j - 1].1
        · exact .inr ⟨_, if_pos c4, .inr ⟨hF j hj (fun hh => by have := hh.2.2 (by omega); omega), rfl⟩⟩
        · refine .inl ⟨_, if_neg c4, rfl, fun i hi hij => ?_⟩
          by_cases hh : i = j
          · subst hh; exact ⟨by omega, by omega, fun _ => by omega⟩
          · exact ha i hi (by omega)
      · refine .inl ⟨_, if_neg c3, rfl, fun i hi hij => ?_⟩
        by_cases hh : i = j
        · subst hh; exact ⟨by omega, by omega, fun _ => by omega⟩
        · exact ha i hi (by omega))
    (by
      rintro _ ⟨rfl, ha⟩
      exact ⟨_, if_neg (by omega), .inl ⟨asc_iff'.2 fun j hj => ha j hj hj, rfl⟩⟩) 0 (Nat.zero_le _) 0 ⟨rfl, fun i _ h => absurd h (by omega)⟩
  rw [h3]
  rcases h4 with ⟨h5, rfl⟩ | ⟨h5, rfl⟩ <;> simp [h5]
theorem ref09_Sure_eq (v : Int × Sl It) (hok : okS 2 v.2) (hl : v.2.l.length ≤ 9223372036854775807) : ref09_Sure v = some (sureV v) := by
  obtain ⟨n, s⟩ := v
  unfold ref09_Sure sureV
  simp only [ref09_Right_eq (n, s) hok hl, Option.bind_some]
  split <;> rfl
def i64r (n : Int) : Prop := -9223372036854775808 ≤ n ∧ n ≤ 9223372036854775807
def u64r (n : Int) : Prop := 0 ≤ n ∧ n ≤ 18446744073709551615
theorem i64r_of {n : Int} (h : inK .i64 n) : i64r n := by simpa [inK, i64r, Lit.wf, IntKind.min, IntKind.max, IntKind.signed, IntKind.bits] using h
theorem WV.ok {v : Int × Sl It} (h : WV v) : okS 2 v.2 := h.2.ok
theorem WV.vals {v : Int × Sl It} (h : WV v) : ∀ x ∈ v.2.l, i64r x.2 := fun x hx => i64r_of (h.2.2.2.2 x hx).2
theorem wrap_u64 (n : Int) : IntKind.u64.wrap n = n % 18446744073709551616 := by
  simp [IntKind.wrap, IntKind.signed, IntKind.bits]
theorem u64_wrap (n : Int) : u64r (IntKind.u64.wrap n) := by rw [wrap_u64]; unfold u64r; omega
theorem u64_id {n : Int} (h : u64r n) : IntKind.u64.wrap (IntKind.i64.wrap n) = n := by rw [wrap_u64, IntKind.wrap_i64]; unfold u64r at h; omega
def ofW (n : Int) : Int × Int := (if n < 0 then -1 else 0, IntKind.u64.wrap n)
theorem wide_Of_eq {n : Int} (h : i64r n) : wide_Of n = some (ofW n) := by
  unfold wide_Of shr1 ofW shrI
  rw [if_pos (by omega)]
  have e : (2 : Int) ^ (min (63 : Int).toNat IntKind.i64.bits) = 9223372036854775808 := by decide
  rw [e]
  unfold i64r at h
  have : n.fdiv 9223372036854775808 = if n < 0 then -1 else 0 := by
    rw [Int.fdiv_eq_ediv_of_nonneg _ (by omega)]
    split <;> omega
  rw [this]; rfl
theorem ref01_Of_eq (n : Int) : ref01_Of n = some (ofW n) := by
  unfold ref01_Of ofW
  by_cases h : n < 0
  · simp only [if_pos h]
  · simp only [if_neg h]
theorem ofW_lo (n : Int) : u64r (ofW n).2 := u64_wrap n
/-- Which of two is less. -/
def lessW (a b : Int × Int) : Bool := decide (a.1 < b.1) || (decide (a.1 = b.1) && decide (a.2 < b.2))
theorem wide_Compare_lt (a b : Int × Int) : ∃ c, wide_Compare a b = some c ∧ (c < 0 ↔ lessW a b = true) := by
  obtain ⟨a1, a2⟩ := a; obtain ⟨b1, b2⟩ := b
  unfold wide_Compare lessW
  simp only
  by_cases h1 : a1 = b1 ∧ a2 = b2
  · rw [if_pos h1]; exact ⟨0, rfl, by simp; omega⟩
  rw [if_neg h1]
  by_cases h2 : a1 < b1
  · rw [if_pos h2]; exact ⟨-1, rfl, by simp [h2]⟩
  rw [if_neg h2]
  by_cases h3 : a1 = b1
  · rw [if_pos h3]
    by_cases h4 : a2 < b2
    · rw [if_pos h4]; exact ⟨-1, rfl, by simp [h3, h4]⟩
    · rw [if_neg h4]; exact ⟨1, rfl, by simp [h3]; omega⟩
  · rw [if_neg h3]; exact ⟨1, rfl, by simp [h3]; omega⟩
theorem ref01_Compare_lt (a b : Int × Int) : ∃ c, ref01_Compare a b = some c ∧ (c < 0 ↔ lessW a b = true) := by
  obtain ⟨a1, a2⟩ := a; obtain ⟨b1, b2⟩ := b
  unfold ref01_Compare lessW
  simp only
  by_cases h2 : a1 < b1
  · rw [if_pos h2]; exact ⟨-1, rfl, by simp [h2]⟩
  rw [if_neg h2]
  by_cases h3 : a1 = b1
  · rw [if_pos h3]
    by_cases h4 : a2 < b2
    · rw [if_pos h4]; exact ⟨-1, rfl, by simp [h3, h4]⟩
    · rw [if_neg h4]
      by_cases h5 : a1 = b1 ∧ a2 = b2
      · rw [if_pos h5]; exact ⟨0, rfl, by simp [h3]; omega⟩
      · rw [if_neg h5]; exact ⟨1, rfl, by simp [h3]; omega⟩
  · rw [if_neg h3]
    by_cases h5 : a1 = b1 ∧ a2 = b2
    · exact absurd h5.1 h3
    · rw [if_neg h5]; exact ⟨1, rfl, by simp [h3]; omega⟩
def lessrW (a b : Int × Int) : Int × Int := if lessW b a = true then b else a
def truthW (b : Bool) : Int × Int := if b = true then (0, 1) else (0, 0)
def addW (a b : Int × Int) : Int × Int := if IntKind.u64.wrap (a.2 + b.2) < a.2 then (IntKind.i64.wrap (IntKind.i64.wrap (a.1 + b.1) + 1), IntKind.u64.wrap (a.2 + b.2)) else (IntKind.i64.wrap (a.1 + b.1), IntKind.u64.wrap (a.2 + b.2))
/-- What two come to, by a ring. -/
def ringAdd (r : Int) (a b : Int × Int) : Int × Int :=
  if r = 1 ∨ r = 3 ∨ r = 4 then lessrW a b else if r = 2 then truthW (!(decide (a.1 = 0 ∧ a.2 = 0) && decide (b.1 = 0 ∧ b.2 = 0))) else if r = 5 then addW a b else (0, 0)
theorem ring_lesser_eq (a b : Int × Int) : ring_lesser a b = some (lessrW a b) := by
  obtain ⟨a1, a2⟩ := a; obtain ⟨b1, b2⟩ := b
  unfold ring_lesser lessrW
  obtain ⟨c, h1, h2⟩ := wide_Compare_lt (b1, b2) (a1, a2)
  simp only [h1, Option.bind_some]
  by_cases hc : c < 0
  · rw [if_pos hc, if_pos (h2.1 hc)]
  · rw [if_neg hc, if_neg (fun h => hc (h2.2 h))]
theorem ring_truth_eq (b : Bool) : ring_truth b = some (truthW b) := by
  unfold ring_truth truthW
  cases b
  · rfl
  · simp only [if_true, wide_Of_eq (show i64r 1 by unfold i64r; omega), Option.bind_some]; rfl
theorem wide_Add_eq (a b : Int × Int) : wide_Add a b = some (addW a b) := by
  obtain ⟨a1, a2⟩ := a; obtain ⟨b1, b2⟩ := b
  unfold wide_Add addW
  simp only
  split <;> rfl
theorem ref01_Add_eq (a b : Int × Int) : ref01_Add a b = some (addW a b) := by
  obtain ⟨a1, a2⟩ := a; obtain ⟨b1, b2⟩ := b
  unfold ref01_Add addW
  simp only
  split <;> rfl
theorem ring_Add_eq (r : Int) (a b : Int × Int) : ring_Add r a b = some (ringAdd r a b) := by
  obtain ⟨a1, a2⟩ := a; obtain ⟨b1, b2⟩ := b
  unfold ring_Add ringAdd
  simp only [ring_lesser_eq, ring_truth_eq, wide_Add_eq, Option.bind_some]
  by_cases h1 : r = 1
  · simp only [if_pos h1, if_pos (show r = 1 ∨ r = 3 ∨ r = 4 from .inl h1)]
  by_cases h3 : r = 3
  · simp only [if_neg h1, if_pos h3, if_pos (show r = 1 ∨ r = 3 ∨ r = 4 from .inr (.inl h3))]
  by_cases h4 : r = 4
  · simp only [if_neg h1, if_neg h3, if_pos h4, if_pos (show r = 1 ∨ r = 3 ∨ r = 4 from .inr (.inr h4))]
  simp only [if_neg h1, if_neg h3, if_neg h4, if_neg (show ¬ (r = 1 ∨ r = 3 ∨ r = 4) by omega)]
  by_cases h2 : r = 2
  · simp only [if_pos h2]
    by_cases ha : a1 = 0 ∧ a2 = 0
    · by_cases hb : b1 = 0 ∧ b2 = 0
      · simp [if_pos ha, if_pos hb, ha, hb]
      · rw [if_pos ha, if_neg hb, decide_eq_true ha, decide_eq_false hb]; rfl
    · rw [if_neg ha, decide_eq_false ha]; rfl
  · simp only [if_neg h2]
    by_cases h5 : r = 5
    · simp only [if_pos h5]
    · simp only [if_neg h5]
theorem ref02_truth_eq (b : Bool) : ref02_truth b = some (truthW b) := by unfold ref02_truth truthW; cases b <;> rfl
theorem ref02_Add_eq (r : Int) (a b : Int × Int) : ref02_Add r a b = some (ringAdd r a b) := by
  obtain ⟨a1, a2⟩ := a; obtain ⟨b1, b2⟩ := b
  have hl : ((ref01_Compare (b1, b2) (a1, a2)).bind fun n => if n < 0 then some (b1, b2) else some (a1, a2)) = some (lessrW (a1, a2) (b1, b2)) := by
    obtain ⟨c, h1, h2⟩ := ref01_Compare_lt (b1, b2) (a1, a2)
    simp only [h1, Option.bind_some]
    unfold lessrW
    by_cases hc : c < 0
    · rw [if_pos hc, if_pos (h2.1 hc)]
    · rw [if_neg hc, if_neg (fun h => hc (h2.2 h))]
  unfold ref02_Add ringAdd
  simp only [hl, ref02_truth_eq, ref01_Add_eq, Option.bind_some]
  by_cases h1 : r = 1
  · simp only [if_pos h1, if_pos (show r = 1 ∨ r = 3 ∨ r = 4 from .inl h1)]
  by_cases h3 : r = 3
  · simp only [if_neg h1, if_pos h3, if_pos (show r = 1 ∨ r = 3 ∨ r = 4 from .inr (.inl h3))]
  by_cases h4 : r = 4
  · simp only [if_neg h1, if_neg h3, if_pos h4, if_pos (show r = 1 ∨ r = 3 ∨ r = 4 from .inr (.inr h4))]
  simp only [if_neg h1, if_neg h3, if_neg h4, if_neg (show ¬ (r = 1 ∨ r = 3 ∨ r = 4) by omega)]
  by_cases h2 : r = 2
  · simp only [if_pos h2]
    by_cases ha : a1 = 0 ∧ a2 = 0
    · by_cases hb : b1 = 0 ∧ b2 = 0
      · simp [if_pos ha, if_pos hb, ha, hb]
      · rw [if_pos ha, if_neg hb, decide_eq_true ha, decide_eq_false hb]; rfl
    · rw [if_neg ha, decide_eq_false ha]; rfl
  · simp only [if_neg h2]
    by_cases h5 : r = 5
    · simp only [if_pos h5]
    · simp only [if_neg h5]
/-- A wide number as one of 64 bits. -/
def narrowW (a : Int × Int) : Int × Bool := if a = ofW (IntKind.i64.wrap a.2) then (IntKind.i64.wrap a.2, true) else (0, false)
theorem i64_wrap (n : Int) : i64r (IntKind.i64.wrap n) := by rw [IntKind.wrap_i64]; unfold i64r; omega
theorem ring_Narrow_eq (r : Int) (a : Int × Int) : ring_Narrow r a = some (narrowW a) := by
  obtain ⟨a1, a2⟩ := a
  unfold ring_Narrow wide_Narrow narrowW
  simp only [wide_Of_eq (i64_wrap a2), Option.bind_some]
  by_cases h : (a1, a2) = ofW (IntKind.i64.wrap a2)
  · have h' : a1 = (ofW (IntKind.i64.wrap a2)).1 ∧ a2 = (ofW (IntKind.i64.wrap a2)).2 := ⟨congrArg Prod.fst h, congrArg Prod.snd h⟩
    rw [if_pos h, if_pos h']; rfl
  · have h' : ¬ (a1 = (ofW (IntKind.i64.wrap a2)).1 ∧ a2 = (ofW (IntKind.i64.wrap a2)).2) := fun hh => h (Prod.ext hh.1 hh.2)
    rw [if_neg h, if_neg h']; rfl
theorem ref01_Narrow_eq {a : Int × Int} (h : u64r a.2) : ref01_Narrow a = some (narrowW a) := by
  obtain ⟨a1, a2⟩ := a
  unfold ref01_Narrow narrowW ofW
  simp only [u64_id h, Prod.mk.injEq, and_true]
  by_cases hn : IntKind.i64.wrap a2 < 0
  · have hg : ¬ IntKind.i64.wrap a2 ≥ 0 := by omega
    simp only [if_pos hn, if_neg hg]
    by_cases h1 : a1 = 0
    · have : ¬ a1 = -1 := by omega
      simp only [if_pos h1, if_neg this]
    · simp only [if_neg h1]
      split <;> rfl
  · have hg : IntKind.i64.wrap a2 ≥ 0 := by omega
    simp only [if_neg hn, if_pos hg]
    by_cases h1 : a1 = 0
    · simp only [if_pos h1]
    · simp only [if_neg h1]
      split <;> rfl
theorem ring_Is_eq (r : Int) : ring_Is r = some (decide (1 ≤ r) && decide (r ≤ 5)) := by
  unfold ring_Is
  by_cases h1 : r ≥ 1
  · rw [if_pos h1, decide_eq_true (show 1 ≤ r from h1)]
    by_cases h2 : r ≤ 5
    · rw [if_pos h2, decide_eq_true h2]; rfl
    · rw [if_neg h2, decide_eq_false h2]; rfl
  · rw [if_neg h1, decide_eq_false (show ¬ 1 ≤ r from h1)]; rfl
theorem ref02_Is_eq (r : Int) : ref02_Is r = some (decide (1 ≤ r) && decide (r ≤ 5)) := ring_Is_eq r
def zeroR (r : Int) : Int := if r = 1 ∨ r = 3 ∨ r = 4 then 4611686018427387904 else 0
theorem zeroR_r (r : Int) : i64r (zeroR r) := by unfold zeroR i64r; split <;> omega
theorem ring_Zero_eq (r : Int) : ring_Zero r = some (zeroR r) := by
  unfold ring_Zero zeroR
  by_cases h1 : r = 1
  · simp [h1]
  by_cases h3 : r = 3
  · simp [h3]
  by_cases h4 : r = 4
  · simp [h4]
  simp [h1, h3, h4]
/-- What items come to, one after another. -/
def foldR (r : Int) (a : Int × Int) : List It → Int × Int
  | [] => a
  | x :: l => foldR r (ringAdd r a (ofW x.2)) l
def totalR (r : Int) : List It → Int × Int
  | [] => ofW (zeroR r)
  | x :: l => foldR r (ofW x.2) l
def okR (r : Int) : Bool := decide (1 ≤ r) && decide (r ≤ 5)
def reduceV (r : Int) (v : Int × Sl It) : Int × Int := if okR r = true then (if (narrowW (totalR r (sureV v).2.l)).2 = true then ((narrowW (totalR r (sureV v).2.l)).1, 0) else (0, 12)) else (0, 8)
theorem red_inv {r : Int} {l : List It} {j : Nat} (hj : j < l.length) {a : Int × Int} (h : totalR r l = if j = 0 then totalR r l else foldR r a (l.drop j)) : totalR r l = foldR r (if j = 0 then ofW l[j].2 else ringAdd r a (ofW l[j].2)) (l.drop (j + 1)) := by
  by_cases h0 : j = 0
  · subst h0
    cases l with
    | nil => simp at hj
    | cons x l => rfl
  · rw [if_neg h0] at h ⊢
    rw [h, List.drop_eq_getElem_cons hj]; rfl
theorem fold_Reduce_eq (r : Int) (v : Int × Sl It) (hok : okS 2 v.2) (hl : v.2.l.length ≤ 9223372036854775807) (hv : ∀ x ∈ v.2.l, i64r x.2) : fold_Reduce r v = some (reduceV r v) := by
  obtain ⟨n, s⟩ := v
  unfold fold_Reduce reduceV okR
  simp only [ring_Is_eq, Option.bind_some]
  cases hr : (decide (1 ≤ r) && decide (r ≤ 5)) with
  | false => simp
  | true =>
    simp only [if_true, ring_Zero_eq, wide_Of_eq (zeroR_r r), fold_sure_eq (n, s) hok hl, Option.bind_some]
    have hok2 : okS 2 (sureV (n, s)).2 := sureV_ok hok
    have hv2 : ∀ x ∈ (sureV (n, s)).2.l, i64r x.2 := by unfold sureV; split; exact hv; intro x hx; simp [nilS] at hx
    have hlen := sure_len (n, s)
    generalize sureV (n, s) = u at hok2 hv2 hlen
    obtain ⟨n2, s2⟩ := u
    simp only at hok2 hv2 hlen
    obtain ⟨q, h1, h2⟩ := loop_up (b := fold_Reduce_b1 r s2) s2.l.length (fun j a => ∃ w : Int × Int, a = ((j : Int), w.1, w.2) ∧ (j = 0 → w = ofW (zeroR r)) ∧ totalR r s2.l = if j = 0 then totalR r s2.l else foldR r w (s2.l.drop j)) (fun q => q = .inl (totalR r s2.l))
      (by
        rintro j _ hj ⟨w, rfl, h0, ha⟩
        have hx := hv2 _ (List.getElem_mem hj)
        simp only [fold_Reduce_b1, at_get hok2 hj, Option.bind_some, w_succ hj (by omega), wide_Of_eq hx, ring_Add_eq]
        rw [if_pos (by omega)]
        have hn := red_inv hj ha
        by_cases hz : (j : Int) = 0
        · have hz' : j = 0 := by omega
          rw [if_pos hz'] at hn
          exact .inl ⟨_, if_pos hz, _, rfl, fun h => absurd h (by omega), by rw [if_neg (by omega)]; exact hn⟩
        · have hz' : ¬ j = 0 := by omega
          rw [if_neg hz'] at hn
          exact .inl ⟨_, if_neg hz, _, rfl, fun h => absurd h (by omega), by rw [if_neg (by omega)]; exact hn⟩)
      (by
        rintro _ ⟨w, rfl, h0, ha⟩
        refine ⟨_, if_neg (by omega), ?_⟩
        by_cases hz : s2.l.length = 0
        · rw [h0 hz]
          have : s2.l = [] := List.eq_nil_of_length_eq_zero hz
          rw [this]; rfl
        · rw [if_neg hz] at ha
          rw [ha]; simp [foldR]) 0 (Nat.zero_le _) (0, (ofW (zeroR r)).1, (ofW (zeroR r)).2) ⟨ofW (zeroR r), rfl, fun _ => rfl, rfl⟩
    subst h2
    rw [h1]
    simp only [Option.bind_some, Sum.elim_inl, ring_Narrow_eq]
    cases hb : (narrowW (totalR r s2.l)).2 <;> simp [hb]
def leastF (m : It) : List It → It
  | [] => m
  | x :: l => leastF (if x.2 < m.2 then x else m) l
def leastV (v : Int × Sl It) : It × Bool :=
  match (sureV v).2.l with
  | [] => ((0, 0), false)
  | x :: l => (leastF x l, true)
theorem fold_Least_eq (v : Int × Sl It) (hok : okS 2 v.2) (hl : v.2.l.length ≤ 9223372036854775807) : fold_Least v = some (leastV v) := by
  obtain ⟨n, s⟩ := v
  unfold fold_Least leastV
  simp only [fold_sure_eq (n, s) hok hl, Option.bind_some]
  have hok2 : okS 2 (sureV (n, s)).2 := sureV_ok hok
  have hlen := sure_len (n, s)
  generalize sureV (n, s) = u at hok2 hlen
  obtain ⟨n2, s2⟩ := u
  simp only at hok2 hlen ⊢
  cases hs : s2.l with
  | nil => simp
  | cons x l =>
    have hp : 0 < s2.l.length := by rw [hs]; simp
    have h0 : atS 2 s2 0 = some x := by
      have := at_get hok2 hp
      simp only [hs] at this
      simpa using this
    simp only [if_neg (show ¬ (((x :: l).length : Nat) : Int) = 0 by simp; omega), h0, Option.bind_some]
    obtain ⟨q, h1, h2⟩ := loop_up (b := fold_Least_b1 s2) s2.l.length (fun j a => ∃ w : It, a = ((j : Int), w.1, w.2) ∧ leastF x (x :: l) = leastF w (s2.l.drop j)) (fun q => q = .inl (leastF x (x :: l)))
      (by
        rintro j _ hj ⟨w, rfl, ha⟩
        rw [List.drop_eq_getElem_cons hj] at ha
        simp only [fold_Least_b1, at_get hok2 hj, Option.bind_some, w_succ hj (by omega)]
        rw [if_pos (by omega)]
        by_cases c : s2.l[j].2 < w.2
        · exact .inl ⟨_, if_pos c, _, rfl, by rw [ha]; simp only [leastF, if_pos c]⟩
        · exact .inl ⟨_, if_neg c, _, rfl, by rw [ha]; simp only [leastF, if_neg c]⟩)
      (by
        rintro _ ⟨w, rfl, ha⟩
        exact ⟨_, if_neg (by omega), by rw [ha]; simp [leastF]⟩) 0 (Nat.zero_le _) (0, x.1, x.2) ⟨x, rfl, by rw [hs]; rfl⟩
    subst h2
    rw [h1]
    simp [leastF]
def holdsB (t v k : Int) : Bool := (decide (t = 1) && decide (v < k)) || (decide (t = 2) && decide (k < v)) || (decide (t = 3) && decide (v = k)) || (decide (t = 4) && !decide (v = k))
theorem fold_Holds_eq (t v k : Int) : fold_Holds t v k = some (holdsB t v k) := by
  unfold fold_Holds holdsB
  by_cases h1 : t = 1
  · subst h1; simp; split <;> simp_all
  by_cases h2 : t = 2
  · subst h2; simp; split <;> simp_all
  by_cases h3 : t = 3
  · subst h3; simp; split <;> simp_all
  by_cases h4 : t = 4
  · subst h4; simp; split <;> simp_all
  simp [h1, h2, h3, h4]
def whereV (v : Int × Sl It) (t k : Int) : Int × Sl It := ((sureV v).1, mo 2 ((sureV v).2.l.filter fun x => holdsB t x.2 k))
theorem filter_take {α : Type} (p : α → Bool) (l : List α) {j : Nat} (hj : j < l.length) : (l.take (j + 1)).filter p = (l.take j).filter p ++ (if p l[j] = true then [l[j]] else []) := by
  rw [List.take_succ_eq_append_getElem hj, List.filter_append]
  congr 1
  by_cases h : p l[j] = true
  · simp [h]
  · simp [h]
theorem fold_Where_eq (v : Int × Sl It) (t k : Int) (hok : okS 2 v.2) (hl : v.2.l.length ≤ 9223372036854775807) : fold_Where v t k = some (whereV v t k) := by
  obtain ⟨n, s⟩ := v
  unfold fold_Where whereV
  simp only [fold_sure_eq (n, s) hok hl, Option.bind_some]
  have hok2 : okS 2 (sureV (n, s)).2 := sureV_ok hok
  have hlen := sure_len (n, s)
  generalize sureV (n, s) = u at hok2 hlen
  obtain ⟨n2, s2⟩ := u
  simp only at hok2 hlen ⊢
  obtain ⟨q, h1, h2⟩ := loop_up (b := fold_Where_b1 t k s2) s2.l.length (fun j a => a = ((j : Int), (s2.l.take j).filter fun x => holdsB t x.2 k)) (fun q => q = .inl (s2.l.filter fun x => holdsB t x.2 k))
    (by
      rintro j _ hj rfl
      have hb : ((s2.l.take j).filter fun x => holdsB t x.2 k).length + 1 ≤ bound := by
        have := List.length_filter_le (fun x : It => holdsB t x.2 k) (s2.l.take j)
        have h3 : (s2.l.take j).length ≤ j := by simp; omega
        unfold bound; omega
      simp only [fold_Where_b1, at_get hok2 hj, Option.bind_some, w_succ hj (by omega), fold_Holds_eq]
      rw [if_pos (by omega)]
      have hf := filter_take (fun x : It => holdsB t x.2 k) s2.l hj
      by_cases c : holdsB t s2.l[j].2 k = true
      · rw [if_pos c] at hf
        refine .inl ⟨_, ?_, by rw [hf]⟩
        rw [if_pos c, app_ok (by simpa using hb)]; rfl
      · rw [if_neg c, List.append_nil] at hf
        exact .inl ⟨_, if_neg c, by rw [hf]⟩)
    (by
      rintro _ rfl
      exact ⟨_, if_neg (by omega), by rw [List.take_length]⟩) 0 (Nat.zero_le _) (0, []) rfl
  subst h2
  rw [h1]
  rfl
/-- What stands at a place. -/
def getI (p : Int) : List It → Option Int
  | [] => none
  | x :: l => if x.1 = p then some x.2 else getI p l
def itemO (p : Nat) : Option Int → Option It
  | some x => some ((p : Int), x)
  | none => none
/-- What a table has, from a place on. -/
def gathR (a k : Nat) (g : Nat → Option Int) : List It := (List.range' a k).filterMap fun p => itemO p (g p)
theorem gathR_succ (a k : Nat) (g : Nat → Option Int) : gathR a (k + 1) g = (match g a with | some x => [((a : Int), x)] | none => []) ++ gathR (a + 1) k g := by
  unfold gathR
  rw [List.range'_succ, List.filterMap_cons]
  cases h : g a <;> simp [itemO, h]
theorem gathR_app (a k m : Nat) (g : Nat → Option Int) : gathR a (k + m) g = gathR a k g ++ gathR (a + k) m g := by
  unfold gathR
  rw [← List.range'_append_1, List.filterMap_append]
theorem gathR_congr {a k : Nat} {g g' : Nat → Option Int} (h : ∀ p, a ≤ p → p < a + k → g p = g' p) : gathR a k g = gathR a k g' := by
  induction k generalizing a with
  | zero => rfl
  | succ k ih => rw [gathR_succ, gathR_succ, h a (Nat.le_refl _) (by omega), ih fun p h1 h2 => h p (by omega) (by omega)]
theorem gathR_none {a k : Nat} {g : Nat → Option Int} (h : ∀ p, a ≤ p → p < a + k → g p = none) : gathR a k g = [] := by
  induction k generalizing a with
  | zero => rfl
  | succ k ih => rw [gathR_succ, h a (Nat.le_refl _) (by omega), ih fun p h1 h2 => h p (by omega) (by omega)]; rfl
theorem getI_none {p : Int} : ∀ {l : List It}, (∀ x ∈ l, x.1 ≠ p) → getI p l = none
  | [], _ => rfl
  | x :: l, h => by
    unfold getI
    rw [if_neg (h x List.mem_cons_self)]
    exact getI_none fun y hy => h y (List.mem_cons_of_mem _ hy)
/-- Rising items are what a table of them has. -/
theorem asc_gath {n : Int} : ∀ {l : List It} {a k : Nat}, asc ((a : Int) - 1) n l = true → ((a + k : Nat) : Int) = n → l = gathR a k fun p => getI (p : Int) l
  | [], a, k, h, hn => (gathR_none fun p _ _ => rfl).symm
  | x :: l, a, k, h, hn => by
    simp only [asc, Bool.and_eq_true, decide_eq_true_eq] at h
    obtain ⟨⟨h1, h2⟩, h3⟩ := h
    obtain ⟨q, hq⟩ : ∃ q : Nat, x.1 = (q : Int) := ⟨x.1.toNat, by omega⟩
    have hk : k = (q - a) + ((k - (q - a) - 1) + 1) := by omega
    rw [hk, gathR_app, gathR_succ]
    have e1 : gathR a (q - a) (fun p => getI (p : Int) (x :: l)) = [] := gathR_none fun p p1 p2 => by
      refine getI_none fun y hy => ?_
      rcases List.mem_cons.1 hy with rfl | hy
      · omega
      · have := asc_lt h3 y hy; omega
    have ea : a + (q - a) = q := by omega
    have e2 : getI ((a + (q - a) : Nat) : Int) (x :: l) = some x.2 := by unfold getI; rw [if_pos (by omega)]
    have h3' : asc (((q + 1 : Nat) : Int) - 1) n l = true := by rw [hq] at h3; simpa using h3
    have ih := asc_gath (k := k - (q - a) - 1) h3' (by omega)
    rw [e1, e2, ea]
    have e3 : gathR (q + 1) (k - (q - a) - 1) (fun p => getI (p : Int) (x :: l)) = l := by
      rw [gathR_congr (g' := fun p => getI (p : Int) l) fun p p1 p2 => by
        show getI (p : Int) (x :: l) = _
        rw [getI, if_neg (by omega)]]
      exact ih.symm
    rw [e3, List.nil_append, ← hq]; rfl
/-- A right vector's items stand at places below its size. -/
theorem right_at {n : Int} {s : Sl It} (h : rightB (n, s) = true) {j : Nat} (hj : j < s.l.length) : 0 ≤ s.l[j].1 ∧ s.l[j].1 < n := by
  simp only [rightB, Bool.and_eq_true] at h
  have := asc_lt h.2 _ (List.getElem_mem hj); omega
theorem right_size {n : Int} {s : Sl It} (h : rightB (n, s) = true) : 0 ≤ n ∧ n ≤ 4096 := by
  simp only [rightB, sizeB, Bool.and_eq_true, decide_eq_true_eq] at h; omega
theorem sure_id {v : Int × Sl It} (h : rightB v = true) : sureV v = v := by unfold sureV; rw [if_pos h]
/-- Vectors of the same items are told to be the same. -/
theorem sameItems_eq (s s' : Sl It) (hok : okS 2 s) (hok' : okS 2 s') (he : s.l = s'.l) (hl : s.l.length ≤ 9223372036854775807) : ref07_SameItems s s' = some true := by
  unfold ref07_SameItems
  rw [if_neg (by rw [he]; simp)]
  obtain ⟨q, h1, h2⟩ := loop_up (b := ref07_SameItems_b1 s s') s.l.length (fun j a => a = (j : Int)) (fun q => q = .inl ())
    (by
      rintro j _ hj rfl
      have hj' : j < s'.l.length := by rw [← he]; exact hj
      have e2 : s'.l[j] = s.l[j] := by simp only [he]
      simp only [ref07_SameItems_b1, at_get hok hj, at_get hok' hj', e2, Option.bind_some, w_succ hj (by omega)]
      rw [if_pos (by omega)]
      exact .inl ⟨_, if_pos (by simp), rfl⟩)
    (by
      rintro _ rfl
      exact ⟨_, if_neg (by omega), rfl⟩) 0 (Nat.zero_le _) 0 rfl
  subst h2
  rw [h1]; rfl
theorem same_eq (v v' : Int × Sl It) (hok : okS 2 v.2) (hok' : okS 2 v'.2) (hn : v.1 = v'.1) (he : v.2.l = v'.2.l) (hl : v.2.l.length ≤ 9223372036854775807) : ref09_Same v v' = some true := by
  obtain ⟨n, s⟩ := v
  obtain ⟨n', s'⟩ := v'
  simp only at hn he hok hok' hl
  unfold ref09_Same
  simp only [if_pos hn, sameItems_eq s s' hok hok' he hl, Option.bind_some]
abbrev Ed := Int × Int × Int
def belowB (a b : Ed) : Bool := decide (a.1 < b.1) || (decide (a.1 = b.1) && decide (a.2.1 < b.2.1))
theorem below_eq (a b : Ed) : ref05_below a b = some (belowB a b) := by
  obtain ⟨a1, a2, a3⟩ := a; obtain ⟨b1, b2, b3⟩ := b
  unfold ref05_below belowB
  simp only
  by_cases h1 : a1 < b1
  · simp [h1]
  · by_cases h2 : a1 = b1
    · by_cases h3 : a2 < b2
      · simp [h2, h3]
      · simp [h2, h3]
    · simp [h1, h2]
/-- Edges rise by their ends. -/
def Rises (l : List Ed) : Prop := ∀ i j (hi : i < l.length) (hj : j < l.length), i < j → belowB l[i] l[j] = true
theorem below_trans {a b c : Ed} (h1 : belowB a b = true) (h2 : belowB b c = true) : belowB a c = true := by
  simp only [belowB, Bool.or_eq_true, Bool.and_eq_true, decide_eq_true_eq] at *; omega
theorem mo_at {α : Type} {w : Nat} {l : List α} {j : Nat} (hj : j < l.length) : atS w (mo w l) (j : Int) = some l[j] := by
  have := at_get (s := mo w l) (w := w) (ok_mo l) (j := j) (by rw [mo_l]; exact hj)
  rw [this]
  congr 1
  simp only [mo_l]
/-- A list with something put in. -/
def insAt {α : Type} (l : List α) (i : Nat) (x : α) : List α := l.take i ++ x :: l.drop i
theorem insAt_len {α : Type} {l : List α} {i : Nat} {x : α} (hi : i ≤ l.length) : (insAt l i x).length = l.length + 1 := by unfold insAt; simp; omega
theorem ins_get {α : Type} {l : List α} {i k : Nat} {x : α} (hi : i ≤ l.length) (hk : k < (l.take i ++ x :: l.drop i).length) (hk2 : k < l.length + 1) : (l.take i ++ x :: l.drop i)[k] = if h1 : k < i then l[k]'(by omega) else if h2 : k = i then x else l[k - 1]'(by omega) := by
  rw [List.getElem_append]
  have ht : (l.take i).length = i := by simp; omega
  by_cases h1 : k < i
  · rw [dif_pos (by omega), dif_pos h1, List.getElem_take]
  · rw [dif_neg (by omega), dif_neg h1]
    by_cases h2 : k = i
    · subst h2; simp [ht]
    · rw [dif_neg h2]
      obtain ⟨m, hm⟩ : ∃ m, k - (l.take i).length = m + 1 := ⟨k - i - 1, by omega⟩
      simp only [hm, List.getElem_cons_succ, List.getElem_drop]
      congr 1; omega
theorem insAt_get {α : Type} {l : List α} {i k : Nat} {x : α} (hi : i ≤ l.length) (hk : k < (insAt l i x).length) : (insAt l i x)[k] = if h1 : k < i then l[k]'(by omega) else if h2 : k = i then x else l[k - 1]'(by rw [insAt_len hi] at hk; omega) := ins_get hi hk (by rw [insAt_len hi] at hk; exact hk)
/-- What moving elements up comes to. -/
theorem shift_end {α : Type} {l X : List α} {z x : α} {i : Nat} (hi : i ≤ l.length) (hl : X.length = l.length + 1) (h : ∀ k (hk : k < X.length), X[k] = if h0 : k ≤ i then (l ++ [z])[k]'(by simp; omega) else (l ++ [z])[k - 1]'(by simp; omega)) : X.set i x = insAt l i x := by
  refine List.ext_getElem (by rw [List.length_set, hl, insAt_len hi]) fun k h1 h2 => ?_
  have hk : k < X.length := by simpa using h1
  rw [insAt_get hi, List.getElem_set]
  by_cases c1 : i = k
  · subst c1; rw [if_pos rfl, dif_neg (by omega), dif_pos rfl]
  rw [if_neg c1, h k hk]
  by_cases c2 : k < i
  · rw [dif_pos (by omega), dif_pos c2, List.getElem_append_left (by omega)]
  · rw [dif_neg (by omega), dif_neg c2, dif_neg (fun e => c1 e.symm), List.getElem_append_left (by omega)]
theorem set_get {α : Type} {X : List α} {j k : Nat} {y : α} (hk : k < (X.set j y).length) : (X.set j y)[k] = if j = k then y else X[k]'(by simpa using hk) := List.getElem_set hk
/-- One step of moving up keeps what is known. -/
theorem shift_step {α : Type} {A X : List α} {j : Nat} (hX : X.length = A.length) (hj : j < X.length) (hj0 : 0 < j) (h : ∀ k (hk : k < X.length), X[k] = if h0 : k ≤ j then A[k]'(by omega) else A[k - 1]'(by omega)) :
    ∀ k (hk : k < (X.set j (X[j - 1]'(by omega))).length), (X.set j (X[j - 1]'(by omega)))[k] = if h0 : k ≤ j - 1 then A[k]'(by rw [List.length_set] at hk; omega) else A[k - 1]'(by rw [List.length_set] at hk; omega) := by
  intro k hk
  have hk' : k < X.length := by simpa using hk
  rw [set_get]
  by_cases c : j = k
  · subst c
    have e := h (j - 1) (by omega)
    rw [dif_pos (by omega)] at e
    rw [if_pos rfl, dif_neg (by omega)]
    exact e
  · rw [if_neg c, h k hk']
    by_cases c2 : k ≤ j
    · rw [dif_pos c2, dif_pos (by omega)]
    · rw [dif_neg c2, dif_neg (by omega)]
def ShI {α : Type} (A X : List α) (j : Nat) : Prop := X.length = A.length ∧ ∀ k (h1 : k < X.length) (h2 : k < A.length), X[k] = if h0 : k ≤ j then A[k] else A[k - 1]'(by omega)
theorem loop_down {A R : Type} {b : A → Option (A ⊕ R)} (at' : Nat) (I : Nat → A → Prop) (Q : R → Prop) (hs : ∀ j a, at' < j → I j a → ∃ a', b a = some (.inl a') ∧ I (j - 1) a') (he : ∀ a, I at' a → ∃ r, b a = some (.inr r) ∧ Q r) (j : Nat) (hj : at' ≤ j) (a : A) (ha : I j a) : ∃ r, loopO b a = some r ∧ Q r := by
  obtain ⟨k, rfl⟩ : ∃ k, j = at' + k := ⟨j - at', by omega⟩
  induction k generalizing a with
  | zero => obtain ⟨r, h1, h2⟩ := he a ha; exact ⟨r, loopO_done h1, h2⟩
  | succ k ih =>
    obtain ⟨a', h1, h2⟩ := hs (at' + (k + 1)) a (by omega) ha
    obtain ⟨r, h3, h4⟩ := ih a' (by omega) (by simpa using h2)
    exact ⟨r, (loopO_step h1).trans h3, h4⟩
theorem ShI.step {α : Type} {A X : List α} {j : Nat} (h : ShI A X j) (hj : j < X.length) (hj0 : 0 < j) : ShI A (X.set j (X[j - 1]'(by omega))) (j - 1) := by
  obtain ⟨h1, h2⟩ := h
  refine ⟨by rw [List.length_set]; exact h1, fun k k1 k2 => ?_⟩
  exact shift_step h1 hj hj0 (fun k hk => h2 k hk (by omega)) k k1
theorem w_pred {j : Nat} (h : 0 < j) (hn : j ≤ 9223372036854775807) : IntKind.i64.wrap ((j : Int) - 1) = ((j - 1 : Nat) : Int) := by rw [wrap64 (by omega) (by omega)]; omega
theorem shift3 (at' : Nat) (A : List Ed) (B : List (Int × Int)) (h0 : 0 < A.length) (hAB : A.length = B.length) (hl : A.length ≤ 1000000) (ha : at' < A.length) : ∃ X Y, loopO (ref05_Combine_b3 (at' : Int)) (A, B, ((A.length - 1 : Nat) : Int)) = some (.inl (X, Y)) ∧ ShI A X at' ∧ ShI B Y at' := by
  obtain ⟨r, h1, X, Y, rfl, h2, h3⟩ := loop_down (b := ref05_Combine_b3 (at' : Int)) at' (fun j a => ∃ X Y, a = (X, Y, (j : Int)) ∧ j < A.length ∧ ShI A X j ∧ ShI B Y j) (fun r => ∃ X Y, r = .inl (X, Y) ∧ ShI A X at' ∧ ShI B Y at')
    (by
      rintro j _ hj ⟨X, Y, rfl, hjA, hX, hY⟩
      have e1 := hX.1
      have e2 := hY.1
      simp only [ref05_Combine_b3]
      rw [if_pos (by omega), w_pred (by omega) (by omega), mo_at (show j - 1 < X.length by omega), mo_at (show j < X.length by omega), mo_at (show j - 1 < Y.length by omega), mo_at (show j < Y.length by omega)]
      exact ⟨_, rfl, _, _, rfl, by omega, hX.step (by omega) (by omega), hY.step (by omega) (by omega)⟩)
    (by
      rintro _ ⟨X, Y, rfl, hjA, hX, hY⟩
      exact ⟨_, if_neg (by omega), X, Y, rfl, hX, hY⟩) (A.length - 1) (by omega) (A, B, ((A.length - 1 : Nat) : Int)) ⟨A, B, rfl, by omega, ⟨rfl, fun k k1 k2 => by rw [dif_pos (by omega)]⟩, ⟨rfl, fun k k1 k2 => by rw [dif_pos (by omega)]⟩⟩
  exact ⟨X, Y, h1, h2, h3⟩
/-- What is known of edges, and of their sums. -/
structure SumW (r : Int) (K : Ed → Prop) (P : Int × Int → Prop) : Prop where
  lo : ∀ a, P a → u64r a.2
  one : ∀ y, K y → P (ofW y.2.2)
  add : ∀ a b, P a → P b → P (ringAdd r a b)
/-- Edges and their sums, while they are combined. -/
structure CI (K : Ed → Prop) (P : Int × Int → Prop) (c : Nat) (E : List Ed) (S : List (Int × Int)) : Prop where
  len : E.length = S.length
  few : E.length ≤ c
  rise : Rises E
  ends : ∀ x ∈ E, ∃ y, K y ∧ x.1 = y.1 ∧ x.2.1 = y.2.1
  lo : ∀ x ∈ S, P x
theorem below_keys {a b a' b' : Ed} (h1 : a.1 = a'.1) (h2 : a.2.1 = a'.2.1) (h3 : b.1 = b'.1) (h4 : b.2.1 = b'.2.1) : belowB a b = belowB a' b' := by unfold belowB; rw [h1, h2, h3, h4]
theorem CI.ins {K : Ed → Prop} {P : Int × Int → Prop} {c : Nat} {E : List Ed} {S : List (Int × Int)} (h : CI K P c E S) {e : Ed} (he : K e) {i : Nat} (hi : i ≤ E.length) (hb : ∀ k (hk : k < E.length), k < i → belowB E[k] e = true) (ha : ∀ (hk : i < E.length), belowB e E[i] = true) {s : Int × Int} (hs : P s) (w : Int) : CI K P (c + 1) (insAt E i (e.1, e.2.1, w)) (insAt S i s) := by
  have hiS : i ≤ S.length := by rw [← h.len]; exact hi
  refine ⟨by rw [insAt_len hi, insAt_len hiS, h.len], by rw [insAt_len hi]; have := h.few; omega, fun a b h1 h2 hab => ?_, fun x hx => ?_, fun x hx => ?_⟩
  · have hla := h1
    have hlb := h2
    rw [insAt_len hi] at hla hlb
    rw [insAt_get hi, insAt_get hi]
    have hafter : ∀ k (hk : k < E.length), i ≤ k → belowB e E[k] = true := fun k hk hik => by
      by_cases c : k = i
      · subst c; exact ha hk
      · exact below_trans (ha (by omega)) (h.rise i k (by omega) hk (by omega))
    by_cases c1 : a < i
    · rw [dif_pos c1]
      by_cases c2 : b < i
      · rw [dif_pos c2]; exact h.rise a b (by omega) (by omega) hab
      · rw [dif_neg c2]
        by_cases c3 : b = i
        · rw [dif_pos c3]; exact (below_keys (a := E[a]) (b := (e.1, e.2.1, w)) (a' := E[a]) (b' := e) rfl rfl rfl rfl).trans (hb a (by omega) c1)
        · rw [dif_neg c3]; exact h.rise a (b - 1) (by omega) (by omega) (by omega)
    · rw [dif_neg c1, dif_neg (show ¬ b < i by omega), dif_neg (show ¬ b = i by omega)]
      by_cases c3 : a = i
      · rw [dif_pos c3]; exact (below_keys (a := (e.1, e.2.1, w)) (b := E[b - 1]) (a' := e) (b' := E[b - 1]) rfl rfl rfl rfl).trans (hafter (b - 1) (by omega) (by omega))
      · rw [dif_neg c3]; exact h.rise (a - 1) (b - 1) (by omega) (by omega) (by omega)
  · unfold insAt at hx
    rcases List.mem_append.1 hx with hx | hx
    · exact h.ends x (List.mem_of_mem_take hx)
    · rcases List.mem_cons.1 hx with rfl | hx
      · exact ⟨e, he, rfl, rfl⟩
      · exact h.ends x (List.mem_of_mem_drop hx)
  · unfold insAt at hx
    rcases List.mem_append.1 hx with hx | hx
    · exact h.lo x (List.mem_of_mem_take hx)
    · rcases List.mem_cons.1 hx with rfl | hx
      · exact hs
      · exact h.lo x (List.mem_of_mem_drop hx)
/-- Where an edge belongs. -/
theorem place2 (s : Sl Ed) (E : List Ed) (j : Nat) (hok : okS 3 s) (hj : j < s.l.length) (hE : E.length ≤ 1000000) : ∃ i : Nat, i ≤ E.length ∧ loopO (ref05_Combine_b2 s E (j : Int)) 0 = some (.inl (i : Int)) ∧ (∀ k (hk : k < E.length), k < i → belowB E[k] s.l[j] = true) ∧ (∀ hk : i < E.length, belowB E[i] s.l[j] = false) := by
  obtain ⟨r, h1, i, rfl, h2⟩ := loop_up (b := ref05_Combine_b2 s E (j : Int)) E.length (fun i a => a = (i : Int) ∧ ∀ k (hk : k < E.length), k < i → belowB E[k] s.l[j] = true) (fun r => ∃ i : Nat, r = .inl (i : Int) ∧ i ≤ E.length ∧ (∀ k (hk : k < E.length), k < i → belowB E[k] s.l[j] = true) ∧ (∀ hk : i < E.length, belowB E[i] s.l[j] = false))
    (by
      rintro i _ hi ⟨rfl, ha⟩
      simp only [ref05_Combine_b2, mo_at hi, at_get hok hj, Option.bind_some, below_eq, w_succ hi (by omega)]
      rw [if_pos (by omega)]
      cases c : belowB E[i] s.l[j] with
      | true =>
        refine .inl ⟨_, if_pos rfl, rfl, fun k hk hki => ?_⟩
        by_cases e : k = i
        · subst e; exact c
        · exact ha k hk (by omega)
      | false =>
        exact .inr ⟨_, if_neg (by simp), i, rfl, by omega, ha, fun _ => c⟩)
    (by
      rintro _ ⟨rfl, ha⟩
      exact ⟨_, if_neg (by omega), _, rfl, Nat.le_refl _, ha, fun hk => absurd hk (by omega)⟩) 0 (Nat.zero_le _) 0 ⟨rfl, fun k _ h => absurd h (by omega)⟩
  exact ⟨i, h2.1, h1, h2.2⟩
/-- All edges, one after another. -/
theorem comb_loop (r : Int) (s : Sl Ed) (hok : okS 3 s) (hl : s.l.length ≤ 5000) (K : Ed → Prop) (P : Int × Int → Prop) (hP : SumW r K P) (hK : ∀ x ∈ s.l, K x) : ∃ E S, loopO (ref05_Combine_b1 r s) ([], [], 0) = some (.inl (E, S)) ∧ CI K P s.l.length E S := by
  obtain ⟨q, h1, E, S, rfl, h2⟩ := loop_up (b := ref05_Combine_b1 r s) s.l.length (fun j a => ∃ E S, a = (E, S, (j : Int)) ∧ CI K P j E S) (fun q => ∃ E S, q = .inl (E, S) ∧ CI K P s.l.length E S)
    (by
      rintro j _ hj ⟨E, S, rfl, hI⟩
      have hfew := hI.few
      have hlen := hI.len
      obtain ⟨i, hi, hp, hb, hnb⟩ := place2 s E j hok hj (by omega)
      have hKj : K s.l[j] := hK _ (List.getElem_mem hj)
      simp only [ref05_Combine_b1, hp, at_get hok hj, Option.bind_some, Sum.elim_inl, ref01_Of_eq, w_succ hj (by omega)]
      rw [if_pos (by omega)]
      have happ1 : app E ([(0, 0, 0)] : List Ed) = some (E ++ [(0, 0, 0)]) := app_ok (by simp; unfold bound; omega)
      have happ2 : app S ([(0, 0)] : List (Int × Int)) = some (S ++ [(0, 0)]) := app_ok (by simp; unfold bound; omega)
      have hW : IntKind.i64.wrap ((((E ++ ([(0, 0, 0)] : List Ed)).length : Nat) : Int) - 1) = (((E ++ ([(0, 0, 0)] : List Ed)).length - 1 : Nat) : Int) := w_pred (by simp) (by simp; omega)
      have hins : (∀ hk : i < E.length, belowB s.l[j] E[i] = true) → ∃ X Y, ShI (E ++ [(0, 0, 0)]) X i ∧ ShI (S ++ [(0, 0)]) Y i ∧ i < X.length ∧ i < Y.length ∧ loopO (ref05_Combine_b3 (i : Int)) (E ++ [(0, 0, 0)], S ++ [(0, 0)], (((E ++ ([(0, 0, 0)] : List Ed)).length - 1 : Nat) : Int)) = some (.inl (X, Y)) ∧ loopO (ref05_Combine_b4 (i : Int)) (E ++ [(0, 0, 0)], S ++ [(0, 0)], (((E ++ ([(0, 0, 0)] : List Ed)).length - 1 : Nat) : Int)) = some (.inl (X, Y)) ∧ CI K P (j + 1) (X.set i (s.l[j].1, s.l[j].2.1, 0)) (Y.set i (ofW s.l[j].2.2)) := fun hab => by
        obtain ⟨X, Y, g1, g2, g3⟩ := shift3 i (E ++ [(0, 0, 0)]) (S ++ [(0, 0)]) (by simp) (by simp [hlen]) (by simp; omega) (by simp; omega)
        have lX : X.length = E.length + 1 := by rw [g2.1]; simp
        have lY : Y.length = S.length + 1 := by rw [g3.1]; simp
        refine ⟨X, Y, g2, g3, by omega, by omega, g1, g1, ?_⟩
        rw [shift_end (l := E) (z := (0, 0, 0)) hi lX (fun k hk => g2.2 k hk (by simp; omega)), shift_end (l := S) (z := (0, 0)) (by omega) lY (fun k hk => g3.2 k hk (by simp; omega))]
        exact hI.ins hKj hi hb hab (hP.one _ hKj) 0
      by_cases c : (i : Int) < (E.length : Int)
      · rw [if_pos c]
        have ci : i < E.length := by omega
        simp only [mo_at ci, Option.bind_some, below_eq]
        cases c2 : belowB s.l[j] E[i] with
        | true =>
          have c' : belowB (s.l[j].1, s.l[j].2.1, s.l[j].2.2) (E[i].1, E[i].2.1, E[i].2.2) = true := c2
          obtain ⟨X, Y, g1, g2, g3, g4, g5, g6, g7⟩ := hins fun _ => c2
          simp only [c', if_true, happ1, happ2, Option.bind_some, hW, g5, Sum.elim_inl, mo_at g3, mo_at g4, Int.toNat_natCast]
          exact .inl ⟨_, rfl, _, _, rfl, g7⟩
        | false =>
          have c' : belowB (s.l[j].1, s.l[j].2.1, s.l[j].2.2) (E[i].1, E[i].2.1, E[i].2.2) = false := c2
          have cS : i < S.length := by omega
          simp only [c', Bool.false_eq_true, if_false, mo_at cS, Option.bind_some, ref02_Add_eq, Int.toNat_natCast]
          refine .inl ⟨_, rfl, _, _, rfl, ?_⟩
          refine ⟨by rw [List.length_set]; exact hI.len, by omega, hI.rise, hI.ends, fun x hx => ?_⟩
          rcases List.mem_or_eq_of_mem_set hx with hx | rfl
          · exact hI.lo x hx
          · exact hP.add _ _ (hI.lo _ (List.getElem_mem cS)) (hP.one _ hKj)
      · rw [if_neg c]
        obtain ⟨X, Y, g1, g2, g3, g4, g5, g6, g7⟩ := hins fun hk => absurd hk (by omega)
        simp only [happ1, happ2, Option.bind_some, hW, g6, Sum.elim_inl, mo_at g3, mo_at g4, Int.toNat_natCast]
        exact .inl ⟨_, rfl, _, _, rfl, g7⟩)
    (by
      rintro _ ⟨E, S, rfl, hI⟩
      exact ⟨_, if_neg (by omega), E, S, rfl, hI⟩) 0 (Nat.zero_le _) ([], [], 0) ⟨[], [], rfl, ⟨rfl, Nat.le_refl _, fun i j hi => absurd hi (by simp), fun x hx => by simp at hx, fun x hx => by simp at hx⟩⟩
  exact ⟨E, S, h1, h2⟩
theorem narrow_r (a : Int × Int) : i64r (narrowW a).1 := by
  unfold narrowW
  split
  · exact i64_wrap _
  · unfold i64r; omega
/-- What combined edges are. -/
structure CE (K : Ed → Prop) (c : Nat) (E : List Ed) : Prop where
  few : E.length ≤ c
  rise : Rises E
  ends : ∀ x ∈ E, ∃ y, K y ∧ x.1 = y.1 ∧ x.2.1 = y.2.1
  vals : ∀ x ∈ E, i64r x.2.2
theorem narrow_loop (K : Ed → Prop) (P : Int × Int → Prop) (hP : ∀ a, P a → u64r a.2) (c : Nat) (E : List Ed) (S : List (Int × Int)) (h : CI K P c E S) (hc : c ≤ 5000) : ∃ r, loopO (ref05_Combine_b5 S) (E, 0) = some r ∧ ((r = .inr (⟨false, 0, []⟩, 12) ∧ ∃ x, P x ∧ (narrowW x).2 = false) ∨ ∃ E', r = .inl E' ∧ CE K c E') := by
  have hfew := h.few
  have hlen := h.len
  refine loop_up (b := ref05_Combine_b5 S) E.length (fun j a => ∃ X, a = (X, (j : Int)) ∧ X.length = E.length ∧ (∀ k (h1 : k < X.length) (h2 : k < E.length), X[k].1 = E[k].1 ∧ X[k].2.1 = E[k].2.1) ∧ ∀ k (h1 : k < X.length), k < j → i64r X[k].2.2) (fun r => (r = .inr (⟨false, 0, []⟩, 12) ∧ ∃ x, P x ∧ (narrowW x).2 = false) ∨ ∃ E', r = .inl E' ∧ CE K c E')
    (by
      rintro j _ hj ⟨X, rfl, hX, hk, hv⟩
      have hjX : j < X.length := by omega
      have hjS : j < S.length := by omega
      have hlo := hP _ (h.lo _ (List.getElem_mem hjS))
      simp only [ref05_Combine_b5, mo_at hjS, mo_at hjX, Option.bind_some, w_succ hj (by omega), Int.toNat_natCast]
      have hn : ref01_Narrow (S[j].1, S[j].2) = some (narrowW S[j]) := ref01_Narrow_eq hlo
      rw [if_pos (by omega), hn]
      cases hb : (narrowW S[j]).2 with
      | true =>
        refine .inl ⟨(X.set j (X[j].1, X[j].2.1, (narrowW S[j]).1), ((j + 1 : Nat) : Int)), ?_, _, rfl, by rw [List.length_set]; exact hX, fun k h1 h2 => ?_, fun k h1 hkj => ?_⟩
        · show (if (narrowW S[j]).2 = true then _ else _) = _
          rw [if_pos hb]
        · have h1' : k < X.length := by simpa using h1
          rw [set_get]
          by_cases e : j = k
          · subst e; rw [if_pos rfl]; exact hk j h1' h2
          · rw [if_neg e]; exact hk k h1' h2
        · have h1' : k < X.length := by simpa using h1
          rw [set_get]
          by_cases e : j = k
          · subst e; rw [if_pos rfl]; exact narrow_r _
          · rw [if_neg e]; exact hv k h1' (by omega)
      | false =>
        refine .inr ⟨_, ?_, .inl ⟨rfl, S[j], h.lo _ (List.getElem_mem hjS), hb⟩⟩
        show (if (narrowW S[j]).2 = true then _ else _) = _
        rw [if_neg (by rw [hb]; simp)])
    (by
      rintro _ ⟨X, rfl, hX, hk, hv⟩
      simp only [ref05_Combine_b5]
      refine ⟨_, if_neg (by omega), .inr ⟨X, rfl, by omega, fun i j hi hj hij => ?_, fun x hx => ?_, fun x hx => ?_⟩⟩
      · have e1 := hk i hi (by omega)
        have e2 := hk j hj (by omega)
        rw [below_keys e1.1 e1.2 e2.1 e2.2]
        exact h.rise i j (by omega) (by omega) hij
      · obtain ⟨i, hi, rfl⟩ := List.getElem_of_mem hx
        have e1 := hk i hi (by omega)
        obtain ⟨y, y1, y2, y3⟩ := h.ends _ (List.getElem_mem (show i < E.length by omega))
        exact ⟨y, y1, e1.1.trans y2, e1.2.trans y3⟩
      · obtain ⟨i, hi, rfl⟩ := List.getElem_of_mem hx
        exact hv i hi (by omega)) 0 (Nat.zero_le _) (E, 0) ⟨E, rfl, rfl, fun k _ _ => ⟨rfl, rfl⟩, fun k _ h => absurd h (by omega)⟩
theorem ref05_Combine_eq (r : Int) (s : Sl Ed) (hr : okR r = true) (hok : okS 3 s) (hl : s.l.length ≤ 5000) (K : Ed → Prop) (P : Int × Int → Prop) (hP : SumW r K P) (hK : ∀ x ∈ s.l, K x) : ∃ o, ref05_Combine r s = some o ∧ ((o = (⟨false, 0, []⟩, 12) ∧ ∃ x, P x ∧ (narrowW x).2 = false) ∨ ∃ E, o = (mo 3 E, 0) ∧ CE K s.l.length E) := by
  obtain ⟨E, S, h1, h2⟩ := comb_loop r s hok hl K P hP hK
  obtain ⟨q, h3, h4⟩ := narrow_loop K P hP.lo _ E S h2 hl
  unfold okR at hr
  unfold ref05_Combine
  simp only [ref02_Is_eq, hr, Option.bind_some, if_true, h1, Sum.elim_inl, h3]
  rcases h4 with ⟨rfl, hx⟩ | ⟨E', rfl, h5⟩
  · exact ⟨_, rfl, .inl ⟨rfl, hx⟩⟩
  · exact ⟨_, rfl, .inr ⟨E', rfl, h5⟩⟩
/-- A right vector, of numbers that are numbers. -/
def GoodV (v : Int × Sl It) : Prop := rightB v = true ∧ okS 2 v.2 ∧ ∀ x ∈ v.2.l, i64r x.2
theorem good_nil : GoodV (0, nilS) := ⟨rfl, ok_nil, fun x hx => by simp [nilS] at hx⟩
def KOf (n : Int) (Q : Int → Prop) (y : Ed) : Prop := y.1 = 0 ∧ 0 ≤ y.2.1 ∧ y.2.1 < n ∧ Q y.2.2
theorem ref09_Of_any (r n : Int) (s : Sl It) (hr : okR r = true) (hok : okS 2 s) (h0 : 0 ≤ n) (hn : n ≤ 4096) (hl : s.l.length ≤ 5000) (Q : Int → Prop) (hs : ∀ x ∈ s.l, 0 ≤ x.1 ∧ x.1 < n ∧ Q x.2) (P : Int × Int → Prop) (hP : SumW r (KOf n Q) P) : ∃ v e, ref09_Of r n s = some (v, e) ∧ GoodV v ∧ (v.1 = n ∨ ∃ x, P x ∧ (narrowW x).2 = false) := by
  have hr' := hr
  unfold okR at hr'
  unfold ref09_Of
  simp only [ref02_Is_eq, hr', Option.bind_some, if_true]
  rw [if_neg (by omega), if_neg (by omega)]
  obtain ⟨q, h1, h2⟩ := loop_up (b := ref09_Of_b1 n s) s.l.length (fun j a => a = ((s.l.take j).map (fun x => ((0, x.1, x.2) : Ed)), (j : Int))) (fun q => q = .inl (s.l.map fun x => ((0, x.1, x.2) : Ed)))
    (by
      rintro j _ hj rfl
      have hx := hs _ (List.getElem_mem hj)
      have ha : app ((s.l.take j).map (fun x => ((0, x.1, x.2) : Ed))) [(0, s.l[j].1, s.l[j].2)] = some ((s.l.take j).map (fun x => ((0, x.1, x.2) : Ed)) ++ [(0, s.l[j].1, s.l[j].2)]) := app_ok (by simp; unfold bound; omega)
      simp only [ref09_Of_b1, at_get hok hj, Option.bind_some, w_succ hj (by omega), ha]
      rw [if_pos (by omega), if_neg (by omega), if_neg (by omega)]
      refine .inl ⟨_, rfl, ?_⟩
      rw [List.take_succ_eq_append_getElem hj, List.map_append]; rfl)
    (by
      rintro _ rfl
      exact ⟨_, if_neg (by omega), by rw [List.take_length]⟩) 0 (Nat.zero_le _) ([], 0) rfl
  subst h2
  rw [h1]
  simp only [Option.bind_some, Sum.elim_inl]
  obtain ⟨o, h3, h4⟩ := ref05_Combine_eq r (mo 3 (s.l.map fun x => ((0, x.1, x.2) : Ed))) hr (ok_mo _) (by rw [mo_l]; simpa using hl) (KOf n Q) P hP (fun x hx => by
    rw [mo_l] at hx
    obtain ⟨y, hy, rfl⟩ := List.mem_map.1 hx
    exact ⟨rfl, hs y hy⟩)
  rw [h3]
  rcases h4 with ⟨rfl, hbad⟩ | ⟨E, rfl, hE⟩
  · exact ⟨_, _, rfl, good_nil, .inr hbad⟩
  have hfew : E.length ≤ 5000 := by have := hE.few; rw [mo_l] at this; simp at this; omega
  simp only [Option.bind_some, ne_eq, not_true, if_false]
  obtain ⟨q, h5, h6⟩ := loop_up (b := ref09_Of_b2 (mo 3 E)) E.length (fun j a => a = ((j : Int), (E.take j).map (fun x => ((x.2.1, x.2.2) : It)))) (fun q => q = .inl (E.map fun x => ((x.2.1, x.2.2) : It)))
    (by
      rintro j _ hj rfl
      have ha : app ((E.take j).map (fun x => ((x.2.1, x.2.2) : It))) [(E[j].2.1, E[j].2.2)] = some ((E.take j).map (fun x => ((x.2.1, x.2.2) : It)) ++ [(E[j].2.1, E[j].2.2)]) := app_ok (by simp; unfold bound; omega)
      simp only [ref09_Of_b2, mo_at hj, mo_l, Option.bind_some, w_succ hj (by omega), ha]
      rw [if_pos (by omega)]
      refine .inl ⟨_, rfl, ?_⟩
      rw [List.take_succ_eq_append_getElem hj, List.map_append]; rfl)
    (by
      rintro _ rfl
      simp only [ref09_Of_b2, mo_l]
      exact ⟨_, if_neg (by omega), by rw [List.take_length]⟩) 0 (Nat.zero_le _) (0, []) rfl
  subst h6
  rw [h5]
  refine ⟨_, _, rfl, ⟨?_, ok_mo _, fun x hx => ?_⟩, .inl rfl⟩
  · simp only [rightB, sizeB, mo_l, decide_eq_true h0, decide_eq_true hn, Bool.true_and]
    refine asc_iff'.2 fun j hj => ?_
    have hjE : j < E.length := by simpa using hj
    obtain ⟨y, ⟨y1, y2, y3, _⟩, y4, y5⟩ := hE.ends _ (List.getElem_mem hjE)
    simp only [List.getElem_map]
    refine ⟨by omega, by omega, fun hj0 => ?_⟩
    obtain ⟨z, ⟨z1, z2, z3, _⟩, z4, z5⟩ := hE.ends _ (List.getElem_mem (show j - 1 < E.length by omega))
    have := hE.rise (j - 1) j (by omega) hjE (by omega)
    simp only [belowB, Bool.or_eq_true, Bool.and_eq_true, decide_eq_true_eq] at this
    omega
  · rw [mo_l] at hx
    obtain ⟨y, hy, rfl⟩ := List.mem_map.1 hx
    exact hE.vals y hy
/-- By the ring that takes the least nothing is too large. -/
def OfN (a : Int × Int) : Prop := ∃ n, i64r n ∧ a = ofW n
theorem pw_min (n : Int) : SumW 1 (KOf n i64r) OfN := ⟨fun a h => by obtain ⟨m, _, rfl⟩ := h; exact ofW_lo _, fun y hy => ⟨_, hy.2.2.2, rfl⟩, fun a b ha hb => by
  unfold ringAdd lessrW
  rw [if_pos (.inl rfl)]
  split
  · exact hb
  · exact ha⟩
theorem ofN_narrow {a : Int × Int} (h : OfN a) : (narrowW a).2 = true := by
  obtain ⟨m, hm, rfl⟩ := h
  unfold narrowW
  have e : IntKind.i64.wrap (ofW m).2 = m := by show IntKind.i64.wrap (IntKind.u64.wrap m) = m; rw [wrap_u64, IntKind.wrap_i64]; unfold i64r at hm; omega
  rw [e, if_pos rfl]
theorem ref09_Of_min (n : Int) (s : Sl It) (hok : okS 2 s) (h0 : 0 ≤ n) (hn : n ≤ 4096) (hl : s.l.length ≤ 5000) (hs : ∀ x ∈ s.l, 0 ≤ x.1 ∧ x.1 < n ∧ i64r x.2) : ∃ v e, ref09_Of 1 n s = some (v, e) ∧ GoodV v ∧ v.1 = n := by
  obtain ⟨v, e, h1, h2, h3⟩ := ref09_Of_any 1 n s (by decide) hok h0 hn hl i64r hs _ (pw_min n)
  refine ⟨v, e, h1, h2, h3.resolve_right ?_⟩
  rintro ⟨x, hx, hb⟩
  rw [ofN_narrow hx] at hb
  simp at hb
theorem asc_low {n : Int} {l : List It} {a b : Int} (hab : a ≤ b) (h : asc b n l = true) : asc a n l = true := by
  cases l with
  | nil => rfl
  | cons x l =>
    simp only [asc, Bool.and_eq_true, decide_eq_true_eq] at h ⊢
    exact ⟨⟨by omega, h.1.2⟩, h.2⟩
theorem wide_Narrow_eq (a : Int × Int) : wide_Narrow a = some (narrowW a) := by
  obtain ⟨a1, a2⟩ := a
  unfold wide_Narrow narrowW
  simp only [wide_Of_eq (i64_wrap a2), Option.bind_some]
  by_cases h : (a1, a2) = ofW (IntKind.i64.wrap a2)
  · have h' : a1 = (ofW (IntKind.i64.wrap a2)).1 ∧ a2 = (ofW (IntKind.i64.wrap a2)).2 := ⟨congrArg Prod.fst h, congrArg Prod.snd h⟩
    rw [if_pos h, if_pos h']
  · have h' : ¬ (a1 = (ofW (IntKind.i64.wrap a2)).1 ∧ a2 = (ofW (IntKind.i64.wrap a2)).2) := fun hh => h (Prod.ext hh.1 hh.2)
    rw [if_neg h, if_neg h']
theorem i64_id {n : Int} (h : i64r n) : IntKind.i64.wrap (IntKind.u64.wrap n) = n := by rw [wrap_u64, IntKind.wrap_i64]; unfold i64r at h; omega
theorem narrow_of {n : Int} (h : i64r n) : narrowW (ofW n) = (n, true) := by
  unfold narrowW
  have e : IntKind.i64.wrap (ofW n).2 = n := i64_id h
  rw [e, if_pos rfl]
theorem less_of {a b : Int} (ha : i64r a) (hb : i64r b) : lessW (ofW a) (ofW b) = decide (a < b) := by
  unfold i64r at ha hb
  unfold lessW ofW
  simp only [wrap_u64]
  by_cases h1 : a < 0 <;> by_cases h2 : b < 0 <;> by_cases h3 : a < b <;> simp [h1, h2, h3] <;> omega
theorem fold_least : ∀ (l : List It) (m : It), i64r m.2 → (∀ x ∈ l, i64r x.2) → foldR 1 (ofW m.2) l = ofW (leastF m l).2
  | [], m, hm, h => rfl
  | x :: l, m, hm, h => by
    have hx := h x List.mem_cons_self
    have hl := fun y hy => h y (List.mem_cons_of_mem _ hy)
    have e : ringAdd 1 (ofW m.2) (ofW x.2) = ofW (if x.2 < m.2 then x else m).2 := by
      unfold ringAdd lessrW
      rw [if_pos (.inl rfl), less_of hx hm]
      by_cases c : x.2 < m.2
      · rw [if_pos (by simpa using c), if_pos c]
      · rw [if_neg (by simpa using c), if_neg c]
    show foldR 1 (ringAdd 1 (ofW m.2) (ofW x.2)) l = ofW (leastF (if x.2 < m.2 then x else m) l).2
    rw [e]
    refine fold_least l _ ?_ hl
    split <;> assumption
theorem least_mem : ∀ (l : List It) (m : It), leastF m l = m ∨ leastF m l ∈ l
  | [], m => .inl rfl
  | x :: l, m => by
    show leastF (if x.2 < m.2 then x else m) l = m ∨ leastF (if x.2 < m.2 then x else m) l ∈ x :: l
    by_cases c : x.2 < m.2
    · rw [if_pos c]
      rcases least_mem l x with h | h
      · rw [h]; exact .inr List.mem_cons_self
      · exact .inr (List.mem_cons_of_mem _ h)
    · rw [if_neg c]
      rcases least_mem l m with h | h
      · exact .inl h
      · exact .inr (List.mem_cons_of_mem _ h)
theorem getI_mem {n : Int} : ∀ {l : List It} {a : Int}, asc a n l = true → ∀ x ∈ l, getI x.1 l = some x.2
  | y :: l, a, h, x, hx => by
    simp only [asc, Bool.and_eq_true, decide_eq_true_eq] at h
    rcases List.mem_cons.1 hx with rfl | hx
    · unfold getI; rw [if_pos rfl]
    · unfold getI
      have := (asc_lt h.2 x hx).1
      rw [if_neg (by omega)]
      exact getI_mem h.2 x hx
theorem u8_of {n : Int} (h : inK .u8 n) : 0 ≤ n ∧ n ≤ 255 := by simpa [inK, Lit.wf, IntKind.min, IntKind.max, IntKind.signed, IntKind.bits] using h
theorem blend_sure_eq (v : Int × Sl It) (hok : okS 2 v.2) (hl : v.2.l.length ≤ 9223372036854775807) : blend_sure v = some (sureV v) := by
  obtain ⟨n, s⟩ := v
  unfold blend_sure sureV
  simp only [spvec_Right_eq (n, s) hok hl, Option.bind_some]
  split <;> rfl
theorem at0 {s : Sl It} (hok : okS 2 s) {x : It} {l : List It} (h : s.l = x :: l) : atS 2 s 0 = some x := by
  have := at_get hok (show 0 < s.l.length by rw [h]; simp)
  simpa [h] using this
theorem cut1 {s : Sl It} (hok : okS 2 s) {x : It} {l : List It} (h : s.l = x :: l) : cutS 2 s 1 ((s.l.length : Nat) : Int) = some ⟨s.nn, s.sz, l⟩ := by
  unfold cutS
  have hz : s.sz = 2 := hok.resolve_left (by rw [h]; simp)
  rw [if_pos ⟨by omega, by rw [h]; simp; omega, by omega, by first | exact .inl hz | exact .inr hz | simp [hz]⟩]
  simp [h]
theorem ok_cut {s : Sl It} (hok : okS 2 s) {x : It} {l : List It} (h : s.l = x :: l) : okS 2 (⟨s.nn, s.sz, l⟩ : Sl It) := .inr (hok.resolve_left (by rw [h]; simp))
/-- The first place at which one of two lists has something, what they have there, and the rests. -/
def hd : List It → List It → Int × Option Int × Option Int × List It × List It
  | [], [] => (0, none, none, [], [])
  | x :: l, [] => (x.1, some x.2, none, l, [])
  | [], y :: m => (y.1, none, some y.2, [], m)
  | x :: l, y :: m => if x.1 ≤ y.1 then (if y.1 ≤ x.1 then (y.1, some x.2, some y.2, l, m) else (x.1, some x.2, none, l, y :: m)) else (y.1, none, some y.2, x :: l, m)
theorem hd_len {l m : List It} (h : ¬ (l = [] ∧ m = [])) : (hd l m).2.2.2.1.length + (hd l m).2.2.2.2.length < l.length + m.length := by
  cases l with
  | nil =>
    cases m with
    | nil => simp at h
    | cons y m => simp [hd]
  | cons x l =>
    cases m with
    | nil => simp [hd]
    | cons y m =>
      simp only [hd]
      split
      · split <;> simp <;> omega
      · simp
/-- Pairs put together: `none`: over; `some none`: left out. -/
def mrgN (f : Option Int → Option Int → Option (Option Int)) : Nat → List It → List It → Option (List It)
  | 0, _, _ => some []
  | k + 1, l, m =>
    if l.isEmpty && m.isEmpty then some [] else
    match f (hd l m).2.1 (hd l m).2.2.1 with
    | none => none
    | some none => mrgN f k (hd l m).2.2.2.1 (hd l m).2.2.2.2
    | some (some v) => (mrgN f k (hd l m).2.2.2.1 (hd l m).2.2.2.2).map fun r => ((hd l m).1, v) :: r
def mrg (f : Option Int → Option Int → Option (Option Int)) (l m : List It) : Option (List It) := mrgN f (l.length + m.length) l m
abbrev MR := List It ⊕ (List It ⊕ Empty)
/-- A round of a loop over pairs. -/
def MStep (f : Option Int → Option Int → Option (Option Int)) (b : Sl It × Sl It × List It → Option ((Sl It × Sl It × List It) ⊕ MR)) (s t : Sl It) (o : List It) : Prop :=
  match f (hd s.l t.l).2.1 (hd s.l t.l).2.2.1 with
  | none => ∃ o', b (s, t, o) = some (.inr (.inl o'))
  | some none => ∃ s' t', b (s, t, o) = some (.inl (s', t', o)) ∧ s'.l = (hd s.l t.l).2.2.2.1 ∧ t'.l = (hd s.l t.l).2.2.2.2 ∧ okS 2 s' ∧ okS 2 t'
  | some (some v) => ∃ s' t', b (s, t, o) = some (.inl (s', t', o ++ [((hd s.l t.l).1, v)])) ∧ s'.l = (hd s.l t.l).2.2.2.1 ∧ t'.l = (hd s.l t.l).2.2.2.2 ∧ okS 2 s' ∧ okS 2 t'
theorem hd_vals {Q : Int → Prop} {l m : List It} (hl : ∀ x ∈ l, Q x.2) (hm : ∀ x ∈ m, Q x.2) : (∀ x ∈ (hd l m).2.2.2.1, Q x.2) ∧ (∀ x ∈ (hd l m).2.2.2.2, Q x.2) ∧ (∀ x, (hd l m).2.1 = some x → Q x) ∧ ∀ x, (hd l m).2.2.1 = some x → Q x := by
  cases l with
  | nil =>
    cases m with
    | nil => simp [hd]
    | cons y m => exact ⟨by simp [hd], fun x hx => hm x (List.mem_cons_of_mem _ hx), by simp [hd], fun x hx => by simp [hd] at hx; subst hx; exact hm y List.mem_cons_self⟩
  | cons x l =>
    have a1 := hl x List.mem_cons_self
    have a2 : ∀ z ∈ l, Q z.2 := fun z hz => hl z (List.mem_cons_of_mem _ hz)
    cases m with
    | nil => exact ⟨fun z hz => a2 z hz, by simp [hd], fun z hz => by simp [hd] at hz; subst hz; exact a1, by simp [hd]⟩
    | cons y m =>
      have b1 := hm y List.mem_cons_self
      have b2 : ∀ z ∈ m, Q z.2 := fun z hz => hm z (List.mem_cons_of_mem _ hz)
      simp only [hd]
      split
      · split
        · exact ⟨a2, b2, fun z hz => by simp at hz; subst hz; exact a1, fun z hz => by simp at hz; subst hz; exact b1⟩
        · exact ⟨a2, hm, fun z hz => by simp at hz; subst hz; exact a1, by simp⟩
      · exact ⟨hl, b2, by simp, fun z hz => by simp at hz; subst hz; exact b1⟩
theorem mrg_loop {f : Option Int → Option Int → Option (Option Int)} {Q : Int → Prop} {b : Sl It × Sl It × List It → Option ((Sl It × Sl It × List It) ⊕ MR)} (h0 : ∀ s t o, s.l = [] → t.l = [] → b (s, t, o) = some (.inr (.inr (.inl o))))
    (hs : ∀ s t o, okS 2 s → okS 2 t → (∀ x ∈ s.l, Q x.2) → (∀ x ∈ t.l, Q x.2) → ¬ (s.l = [] ∧ t.l = []) → o.length ≤ 100000 → MStep f b s t o) :
    ∀ (k : Nat) (s t : Sl It) (o : List It), s.l.length + t.l.length ≤ k → okS 2 s → okS 2 t → (∀ x ∈ s.l, Q x.2) → (∀ x ∈ t.l, Q x.2) → o.length + k ≤ 100000 →
      (mrgN f k s.l t.l = none ∧ ∃ o', loopO b (s, t, o) = some (.inl o')) ∨ ∃ r, mrgN f k s.l t.l = some r ∧ loopO b (s, t, o) = some (.inr (.inl (o ++ r)))
  | 0, s, t, o, hk, h1, h2, q1, q2, ho => by
    have e1 : s.l = [] := List.length_eq_zero_iff.1 (by omega)
    have e2 : t.l = [] := List.length_eq_zero_iff.1 (by omega)
    exact .inr ⟨[], rfl, by rw [loopO_done (h0 s t o e1 e2), List.append_nil]⟩
  | k + 1, s, t, o, hk, h1, h2, q1, q2, ho => by
    by_cases he : s.l = [] ∧ t.l = []
    · refine .inr ⟨[], ?_, by rw [loopO_done (h0 s t o he.1 he.2), List.append_nil]⟩
      unfold mrgN; rw [he.1, he.2]; rfl
    · have hm := hs s t o h1 h2 q1 q2 he (by omega)
      have hl := hd_len he
      have hv := hd_vals q1 q2
      unfold MStep at hm
      have hu : mrgN f (k + 1) s.l t.l = (match f (hd s.l t.l).2.1 (hd s.l t.l).2.2.1 with
          | none => none
          | some none => mrgN f k (hd s.l t.l).2.2.2.1 (hd s.l t.l).2.2.2.2
          | some (some v) => (mrgN f k (hd s.l t.l).2.2.2.1 (hd s.l t.l).2.2.2.2).map fun r => ((hd s.l t.l).1, v) :: r) := by
        show (if (s.l.isEmpty && t.l.isEmpty) = true then _ else _) = _
        rw [if_neg (by simpa [List.isEmpty_iff] using he)]
      rw [hu]
      cases hf : f (hd s.l t.l).2.1 (hd s.l t.l).2.2.1 with
      | none =>
        rw [hf] at hm
        obtain ⟨o', e⟩ := hm
        exact .inl ⟨rfl, o', loopO_done e⟩
      | some w =>
        rw [hf] at hm
        cases w with
        | none =>
          obtain ⟨s', t', e, e1, e2, e3, e4⟩ := hm
          rw [loopO_step e]
          have := mrg_loop h0 hs k s' t' o (by rw [e1, e2]; omega) e3 e4 (by rw [e1]; exact hv.1) (by rw [e2]; exact hv.2.1) (by omega)
          rw [e1, e2] at this
          exact this
        | some v =>
          obtain ⟨s', t', e, e1, e2, e3, e4⟩ := hm
          rw [loopO_step e]
          have := mrg_loop h0 hs k s' t' (o ++ [((hd s.l t.l).1, v)]) (by rw [e1, e2]; omega) e3 e4 (by rw [e1]; exact hv.1) (by rw [e2]; exact hv.2.1) (by simp; omega)
          rw [e1, e2] at this
          rcases this with ⟨g1, g2⟩ | ⟨r, g1, g2⟩
          · exact .inl ⟨by rw [g1]; rfl, g2⟩
          · exact .inr ⟨_, by rw [g1]; rfl, by rw [g2, List.append_assoc]; rfl⟩
theorem getI_lt {n : Int} {l : List It} {a p : Int} (h : asc a n l = true) (hp : p ≤ a) : getI p l = none := getI_none fun x hx => by have := asc_lt h x hx; omega
theorem hd_spec {n a : Int} {l m : List It} (hl : asc a n l = true) (hm : asc a n m = true) (h : ¬ (l = [] ∧ m = [])) :
    a < (hd l m).1 ∧ (hd l m).1 < n ∧ (hd l m).2.1 = getI (hd l m).1 l ∧ (hd l m).2.2.1 = getI (hd l m).1 m ∧ asc (hd l m).1 n (hd l m).2.2.2.1 = true ∧ asc (hd l m).1 n (hd l m).2.2.2.2 = true ∧
    (∀ q, q ≠ (hd l m).1 → getI q l = getI q (hd l m).2.2.2.1 ∧ getI q m = getI q (hd l m).2.2.2.2) ∧ ∀ q, q < (hd l m).1 → getI q l = none ∧ getI q m = none := by
  cases l with
  | nil =>
    cases m with
    | nil => simp at h
    | cons y m =>
      simp only [asc, Bool.and_eq_true, decide_eq_true_eq] at hm
      refine ⟨hm.1.1, hm.1.2, rfl, by simp [hd, getI], rfl, hm.2, fun q hq => ⟨rfl, ?_⟩, fun q hq => ⟨rfl, ?_⟩⟩
      · simp only [hd] at hq; simp only [hd, getI]; rw [if_neg (fun e => hq e.symm)]
      · simp only [hd] at hq
        refine getI_none fun x hx => ?_
        rcases List.mem_cons.1 hx with rfl | hx
        · omega
        · have := asc_lt hm.2 x hx; omega
  | cons x l =>
    simp only [asc, Bool.and_eq_true, decide_eq_true_eq] at hl
    have nl : ∀ q, q < x.1 → getI q (x :: l) = none := fun q hq => getI_none fun z hz => by
      rcases List.mem_cons.1 hz with rfl | hz
      · omega
      · have := asc_lt hl.2 z hz; omega
    cases m with
    | nil =>
      refine ⟨hl.1.1, hl.1.2, by simp [hd, getI], rfl, hl.2, rfl, fun q hq => ⟨?_, rfl⟩, fun q hq => ⟨nl q hq, rfl⟩⟩
      simp only [hd] at hq; simp only [hd, getI]; rw [if_neg (fun e => hq e.symm)]
    | cons y m =>
      have hm0 := hm
      simp only [asc, Bool.and_eq_true, decide_eq_true_eq] at hm
      have nm : ∀ q, q < y.1 → getI q (y :: m) = none := fun q hq => getI_none fun z hz => by
        rcases List.mem_cons.1 hz with rfl | hz
        · omega
        · have := asc_lt hm.2 z hz; omega
      simp only [hd]
      by_cases c1 : x.1 ≤ y.1
      · rw [if_pos c1]
        by_cases c2 : y.1 ≤ x.1
        · rw [if_pos c2]
          have e : x.1 = y.1 := by omega
          refine ⟨hm.1.1, hm.1.2, by simp only [getI]; rw [if_pos e], by simp [getI], by rw [← e]; exact hl.2, hm.2, fun q hq => ⟨?_, ?_⟩, fun q hq => ⟨nl q (by simp only at hq; omega), nm q hq⟩⟩
          · simp only [getI]; rw [if_neg (by simp only at hq; omega)]
          · simp only [getI]; rw [if_neg (by simp only at hq; omega)]
        · rw [if_neg c2]
          refine ⟨hl.1.1, hl.1.2, by simp [getI], (nm _ (by omega)).symm, hl.2, ?_, fun q hq => ⟨?_, rfl⟩, fun q hq => ⟨nl q hq, nm q (by simp only at hq; omega)⟩⟩
          · simp only [asc, Bool.and_eq_true, decide_eq_true_eq]; exact ⟨⟨by omega, hm.1.2⟩, hm.2⟩
          · simp only [getI]; rw [if_neg (by simp only at hq; omega)]
      · rw [if_neg c1]
        refine ⟨hm.1.1, hm.1.2, (nl _ (by omega)).symm, by simp [getI], ?_, hm.2, fun q hq => ⟨rfl, ?_⟩, fun q hq => ⟨nl q (by simp only at hq; omega), nm q hq⟩⟩
        · simp only [asc, Bool.and_eq_true, decide_eq_true_eq]; exact ⟨⟨by omega, hl.1.2⟩, hl.2⟩
        · simp only [getI]; rw [if_neg (by simp only at hq; omega)]
theorem mrg_spec {f : Option Int → Option Int → Option (Option Int)} (f0 : f none none = some none) {n : Int} : ∀ (k : Nat) {a : Int} {l m : List It}, l.length + m.length ≤ k → asc a n l = true → asc a n m = true →
    (mrgN f k l m = none → ∃ p, f (getI p l) (getI p m) = none) ∧ ∀ r, mrgN f k l m = some r → asc a n r = true ∧ ∀ p, f (getI p l) (getI p m) = some (getI p r)
  | 0, a, l, m, hk, hl, hm => by
    have e1 : l = [] := List.length_eq_zero_iff.1 (by omega)
    have e2 : m = [] := List.length_eq_zero_iff.1 (by omega)
    subst e1 e2
    exact ⟨fun h => by simp [mrgN] at h, fun r h => by simp only [mrgN, Option.some.injEq] at h; subst h; exact ⟨rfl, fun p => f0⟩⟩
  | k + 1, a, l, m, hk, hl, hm => by
    by_cases he : l = [] ∧ m = []
    · obtain ⟨rfl, rfl⟩ := he
      exact ⟨fun h => by simp [mrgN] at h, fun r h => by simp only [mrgN, List.isEmpty_nil, Bool.and_self, ite_true, Option.some.injEq] at h; subst h; exact ⟨rfl, fun p => f0⟩⟩
    · obtain ⟨s1, s2, s3, s4, s5, s6, s7, s8⟩ := hd_spec hl hm he
      have hlen := hd_len he
      have ih := mrg_spec f0 k (a := (hd l m).1) (l := (hd l m).2.2.2.1) (m := (hd l m).2.2.2.2) (by omega) s5 s6
      have hu : mrgN f (k + 1) l m = (match f (hd l m).2.1 (hd l m).2.2.1 with
          | none => none
          | some none => mrgN f k (hd l m).2.2.2.1 (hd l m).2.2.2.2
          | some (some v) => (mrgN f k (hd l m).2.2.2.1 (hd l m).2.2.2.2).map fun r => ((hd l m).1, v) :: r) := by
        show (if (l.isEmpty && m.isEmpty) = true then _ else _) = _
        rw [if_neg (by simpa [List.isEmpty_iff] using he)]
      rw [hu]
      have back : ∀ p, f (getI p (hd l m).2.2.2.1) (getI p (hd l m).2.2.2.2) = none → f (getI p l) (getI p m) = none := fun p hp => by
        by_cases hq : p = (hd l m).1
        · rw [hq, getI_lt s5 (Int.le_refl _), getI_lt s6 (Int.le_refl _), f0] at hp; simp at hp
        · rw [(s7 p hq).1, (s7 p hq).2]; exact hp
      have fore : ∀ {r : List It}, asc (hd l m).1 n r = true → (∀ p, f (getI p (hd l m).2.2.2.1) (getI p (hd l m).2.2.2.2) = some (getI p r)) → ∀ p, p ≠ (hd l m).1 → f (getI p l) (getI p m) = some (getI p r) := fun hr h p hp => by
        rw [(s7 p hp).1, (s7 p hp).2]; exact h p
      cases hf : f (hd l m).2.1 (hd l m).2.2.1 with
      | none =>
        refine ⟨fun _ => ⟨(hd l m).1, by rw [← s3, ← s4]; exact hf⟩, fun r h => by simp at h⟩
      | some w =>
        cases w with
        | none =>
          refine ⟨fun h => let ⟨p, hp⟩ := ih.1 h; ⟨p, back p hp⟩, fun r h => ?_⟩
          obtain ⟨h1, h2⟩ := ih.2 r h
          refine ⟨asc_low (by omega) h1, fun p => ?_⟩
          by_cases hp : p = (hd l m).1
          · rw [hp, ← s3, ← s4, hf, getI_lt h1 (Int.le_refl _)]
          · exact fore h1 h2 p hp
        | some v =>
          refine ⟨fun h => ?_, fun r h => ?_⟩
          · simp only [Option.map_eq_none_iff] at h
            obtain ⟨p, hp⟩ := ih.1 h
            exact ⟨p, back p hp⟩
          · simp only [Option.map_eq_some_iff] at h
            obtain ⟨r', h0, rfl⟩ := h
            obtain ⟨h1, h2⟩ := ih.2 r' h0
            refine ⟨by simp only [asc, Bool.and_eq_true, decide_eq_true_eq]; exact ⟨⟨s1, s2⟩, h1⟩, fun p => ?_⟩
            by_cases hp : p = (hd l m).1
            · rw [hp, ← s3, ← s4, hf]; simp [getI]
            · rw [fore h1 h2 p hp]; simp only [getI]; rw [if_neg (fun e => hp e.symm)]
/-- Rising lists that have the same are the same. -/
theorem asc_ext {n : Int} {l m : List It} (h0 : 0 ≤ n) (hl : asc (-1) n l = true) (hm : asc (-1) n m = true) (h : ∀ p : Nat, getI (p : Int) l = getI (p : Int) m) : l = m := by
  have e1 := asc_gath (a := 0) (k := n.toNat) (by simpa using hl) (by omega)
  have e2 := asc_gath (a := 0) (k := n.toNat) (by simpa using hm) (by omega)
  rw [e1, e2]
  exact gathR_congr fun p _ _ => h p
abbrev tlS (s : Sl It) (l : List It) : Sl It := ⟨s.nn, s.sz, l⟩
def outM (q : Option (Option Int)) (p : Int) (s t : Sl It) (o : List It) : Option ((Sl It × Sl It × List It) ⊕ MR) :=
  match q with
  | none => some (.inr (.inl o))
  | some none => some (.inl (s, t, o))
  | some (some v) => some (.inl (s, t, o ++ [(p, v)]))
theorem MStep_of {f : Option Int → Option Int → Option (Option Int)} {b : Sl It × Sl It × List It → Option ((Sl It × Sl It × List It) ⊕ MR)} {s t s' t' : Sl It} {o : List It} (e : b (s, t, o) = outM (f (hd s.l t.l).2.1 (hd s.l t.l).2.2.1) (hd s.l t.l).1 s' t' o)
    (e1 : s'.l = (hd s.l t.l).2.2.2.1) (e2 : t'.l = (hd s.l t.l).2.2.2.2) (h1 : okS 2 s') (h2 : okS 2 t') : MStep f b s t o := by
  unfold MStep
  unfold outM at e
  split
  · rename_i h; rw [h] at e; exact ⟨_, e⟩
  · rename_i h; rw [h] at e; exact ⟨_, _, e, e1, e2, h1, h2⟩
  · rename_i v h; rw [h] at e; exact ⟨_, _, e, e1, e2, h1, h2⟩
theorem nil_or {α : Type} (l : List α) : l = [] ∨ ∃ x m, l = x :: m := by cases l with | nil => exact .inl rfl | cons x m => exact .inr ⟨x, m, rfl⟩
theorem MStep_cases {f : Option Int → Option Int → Option (Option Int)} {b : Sl It × Sl It × List It → Option ((Sl It × Sl It × List It) ⊕ MR)} {s t : Sl It} {o : List It} (h1 : okS 2 s) (h2 : okS 2 t) (he : ¬ (s.l = [] ∧ t.l = []))
    (hA : ∀ x l, s.l = x :: l → t.l = [] → b (s, t, o) = outM (f (some x.2) none) x.1 (tlS s l) t o)
    (hE : ∀ y m, s.l = [] → t.l = y :: m → b (s, t, o) = outM (f none (some y.2)) y.1 s (tlS t m) o)
    (hB : ∀ x l y m, s.l = x :: l → t.l = y :: m → x.1 ≤ y.1 → y.1 ≤ x.1 → b (s, t, o) = outM (f (some x.2) (some y.2)) y.1 (tlS s l) (tlS t m) o)
    (hC : ∀ x l y m, s.l = x :: l → t.l = y :: m → x.1 ≤ y.1 → ¬ y.1 ≤ x.1 → b (s, t, o) = outM (f (some x.2) none) x.1 (tlS s l) t o)
    (hD : ∀ x l y m, s.l = x :: l → t.l = y :: m → ¬ x.1 ≤ y.1 → b (s, t, o) = outM (f none (some y.2)) y.1 s (tlS t m) o) : MStep f b s t o := by
  rcases nil_or s.l with hs | ⟨x, l, hs⟩
  · rcases nil_or t.l with ht | ⟨y, m, ht⟩
    · exact absurd ⟨hs, ht⟩ he
    · exact MStep_of (s' := s) (t' := tlS t m) (by rw [hE y m hs ht, hs, ht]; rfl) (by rw [hs, ht]; rfl) (by rw [hs, ht]; rfl) h1 (ok_cut h2 ht)
  · rcases nil_or t.l with ht | ⟨y, m, ht⟩
    · exact MStep_of (s' := tlS s l) (t' := t) (by rw [hA x l hs ht, hs, ht]; rfl) (by rw [hs, ht]; rfl) (by rw [hs, ht]; rfl) (ok_cut h1 hs) h2
    · by_cases c1 : x.1 ≤ y.1
      · by_cases c2 : y.1 ≤ x.1
        · have hh : hd s.l t.l = (y.1, some x.2, some y.2, l, m) := by rw [hs, ht]; show (if _ then _ else _) = _; rw [if_pos c1, if_pos c2]
          exact MStep_of (s' := tlS s l) (t' := tlS t m) (by rw [hB x l y m hs ht c1 c2, hh]) (by rw [hh]) (by rw [hh]) (ok_cut h1 hs) (ok_cut h2 ht)
        · have hh : hd s.l t.l = (x.1, some x.2, none, l, y :: m) := by rw [hs, ht]; show (if _ then _ else _) = _; rw [if_pos c1, if_neg c2]
          exact MStep_of (s' := tlS s l) (t' := t) (by rw [hC x l y m hs ht c1 c2, hh]) (by rw [hh]) (by rw [hh, ht]) (ok_cut h1 hs) h2
      · have hh : hd s.l t.l = (y.1, none, some y.2, x :: l, m) := by rw [hs, ht]; show (if _ then _ else _) = _; rw [if_neg c1]
        exact MStep_of (s' := s) (t' := tlS t m) (by rw [hD x l y m hs ht c1, hh]) (by rw [hh, hs]) (by rw [hh]) h1 (ok_cut h2 ht)
theorem len_pos {s : Sl It} {x : It} {l : List It} (h : s.l = x :: l) : ((s.l.length : Nat) : Int) > 0 := by rw [h, List.length_cons]; omega
theorem len_ne {s : Sl It} {x : It} {l : List It} (h : s.l = x :: l) : ¬ ((s.l.length : Nat) : Int) = 0 := by rw [h, List.length_cons]; omega
theorem len_nil {s : Sl It} (h : s.l = []) : ((s.l.length : Nat) : Int) = 0 := by rw [h]; rfl
theorem len_npos {s : Sl It} (h : s.l = []) : ¬ ((s.l.length : Nat) : Int) > 0 := by rw [h]; simp
theorem val_hd {s : Sl It} {x : It} {l : List It} (h : s.l = x :: l) (q : ∀ x ∈ s.l, i64r x.2) : i64r x.2 := q x (by rw [h]; exact List.mem_cons_self)
theorem wrap_r0 {n : Int} (h : i64r n) : IntKind.i64.wrap (n + 0) = n := by rw [Int.add_zero]; exact wrap64 h.1 h.2
theorem wrap_0r {n : Int} (h : i64r n) : IntKind.i64.wrap (0 + n) = n := by rw [Int.zero_add]; exact wrap64 h.1 h.2
theorem app_one {o : List It} (ho : o.length ≤ 100000) (z : It) : app o [z] = some (o ++ [z]) := app_ok (by simp; unfold bound; omega)
theorem i64r_0 : i64r 0 := by unfold i64r; omega
def fitO (w : Int × Int) : Option (Option Int) := if (narrowW w).2 = true then some (some (narrowW w).1) else none
def fU (r : Int) : Option Int → Option Int → Option (Option Int)
  | none, none => some none
  | some x, none => some (some x)
  | none, some y => some (some y)
  | some x, some y => fitO (ringAdd r (ofW x) (ofW y))
def fO : Option Int → Option Int → Option (Option Int)
  | a, none => some a
  | _, some y => some (some y)
theorem over_c1_eq (p : Int) {x y : Int} (ha hb : Bool) (hx : i64r x) (hy : i64r y) : blend_Over_c1 (p, x, y, ha, hb) = some (ofW (if hb = true then y else x), true) := by
  unfold blend_Over_c1
  cases hb <;> simp only [wide_Of_eq hx, wide_Of_eq hy, Option.bind_some] <;> rfl
theorem Union_step (r : Int) (s t : Sl It) (o : List It) (h1 : okS 2 s) (h2 : okS 2 t) (q1 : ∀ x ∈ s.l, i64r x.2) (q2 : ∀ x ∈ t.l, i64r x.2) (he : ¬ (s.l = [] ∧ t.l = [])) (ho : o.length ≤ 100000) : MStep (fU r) (blend_Union_b1 r) s t o := by
  refine MStep_cases h1 h2 he (fun x l hs ht => ?_) (fun y m hs ht => ?_) (fun x l y m hs ht c1 c2 => ?_) (fun x l y m hs ht c1 c2 => ?_) (fun x l y m hs ht c1 => ?_) <;> unfold blend_Union_b1 <;> simp only
  · have hx := val_hd hs q1
    rw [if_pos (len_pos hs), if_pos (len_nil ht)]
    simp only [at0 h1 hs, cut1 h1 hs, Option.bind_some]
    simp only [wrap_r0 hx, wide_Of_eq hx, wide_Narrow_eq, narrow_of hx, app_one ho, Option.bind_some, if_true]; rfl
  · have hy := val_hd ht q2
    rw [if_neg (len_npos hs), if_pos (len_pos ht)]
    simp only [at0 h2 ht, cut1 h2 ht, Option.bind_some]
    simp only [wrap_0r hy, wide_Of_eq hy, wide_Narrow_eq, narrow_of hy, app_one ho, Option.bind_some, if_true]; rfl
  · have hx := val_hd hs q1
    have hy := val_hd ht q2
    rw [if_pos (len_pos hs), if_neg (len_ne ht)]
    simp only [at0 h1 hs, at0 h2 ht, cut1 h1 hs, cut1 h2 ht, Option.bind_some]
    rw [if_pos c1, if_pos c2]
    simp only [wide_Of_eq hx, wide_Of_eq hy, ring_Add_eq, wide_Narrow_eq, Option.bind_some]; unfold fU fitO outM; simp only; cases hb : (narrowW (ringAdd r (ofW x.2) (ofW y.2))).2 <;> simp [app_one ho]
  · have hx := val_hd hs q1
    rw [if_pos (len_pos hs), if_neg (len_ne ht)]
    simp only [at0 h1 hs, at0 h2 ht, cut1 h1 hs, cut1 h2 ht, Option.bind_some]
    rw [if_pos c1, if_neg c2]
    simp only [wrap_r0 hx, wide_Of_eq hx, wide_Narrow_eq, narrow_of hx, app_one ho, Option.bind_some, if_true]; rfl
  · have hy := val_hd ht q2
    rw [if_pos (len_pos hs), if_neg (len_ne ht)]
    simp only [at0 h1 hs, at0 h2 ht, cut1 h1 hs, cut1 h2 ht, Option.bind_some]
    rw [if_neg c1]
    simp only [wrap_0r hy, wide_Of_eq hy, wide_Narrow_eq, narrow_of hy, app_one ho, Option.bind_some, if_true]; rfl
theorem Union_end (r : Int) (s t : Sl It) (o : List It) (hs : s.l = []) (ht : t.l = []) : blend_Union_b1 r (s, t, o) = some (.inr (.inr (.inl o))) := by
  unfold blend_Union_b1
  simp only
  rw [if_neg (len_npos hs), if_neg (len_npos ht)]
theorem Over_step (s t : Sl It) (o : List It) (h1 : okS 2 s) (h2 : okS 2 t) (q1 : ∀ x ∈ s.l, i64r x.2) (q2 : ∀ x ∈ t.l, i64r x.2) (he : ¬ (s.l = [] ∧ t.l = [])) (ho : o.length ≤ 100000) : MStep (fO) (blend_Over_b1) s t o := by
  refine MStep_cases h1 h2 he (fun x l hs ht => ?_) (fun y m hs ht => ?_) (fun x l y m hs ht c1 c2 => ?_) (fun x l y m hs ht c1 c2 => ?_) (fun x l y m hs ht c1 => ?_) <;> unfold blend_Over_b1 <;> simp only
  · have hx := val_hd hs q1
    rw [if_pos (len_pos hs), if_pos (len_nil ht)]
    simp only [at0 h1 hs, cut1 h1 hs, Option.bind_some]
    simp only [over_c1_eq _ _ _ hx i64r_0, Option.bind_some, Bool.false_eq_true, if_false, if_true, wide_Narrow_eq, narrow_of hx, app_one ho]; rfl
  · have hy := val_hd ht q2
    rw [if_neg (len_npos hs), if_pos (len_pos ht)]
    simp only [at0 h2 ht, cut1 h2 ht, Option.bind_some]
    simp only [over_c1_eq _ _ _ i64r_0 hy, Option.bind_some, if_true, wide_Narrow_eq, narrow_of hy, app_one ho]; rfl
  · have hx := val_hd hs q1
    have hy := val_hd ht q2
    rw [if_pos (len_pos hs), if_neg (len_ne ht)]
    simp only [at0 h1 hs, at0 h2 ht, cut1 h1 hs, cut1 h2 ht, Option.bind_some]
    rw [if_pos c1, if_pos c2]
    simp only [over_c1_eq _ _ _ hx hy, Option.bind_some, if_true, wide_Narrow_eq, narrow_of hy, app_one ho]; rfl
  · have hx := val_hd hs q1
    rw [if_pos (len_pos hs), if_neg (len_ne ht)]
    simp only [at0 h1 hs, at0 h2 ht, cut1 h1 hs, cut1 h2 ht, Option.bind_some]
    rw [if_pos c1, if_neg c2]
    simp only [over_c1_eq _ _ _ hx i64r_0, Option.bind_some, Bool.false_eq_true, if_false, if_true, wide_Narrow_eq, narrow_of hx, app_one ho]; rfl
  · have hy := val_hd ht q2
    rw [if_pos (len_pos hs), if_neg (len_ne ht)]
    simp only [at0 h1 hs, at0 h2 ht, cut1 h1 hs, cut1 h2 ht, Option.bind_some]
    rw [if_neg c1]
    simp only [over_c1_eq _ _ _ i64r_0 hy, Option.bind_some, if_true, wide_Narrow_eq, narrow_of hy, app_one ho]; rfl
theorem Over_end (s t : Sl It) (o : List It) (hs : s.l = []) (ht : t.l = []) : blend_Over_b1 (s, t, o) = some (.inr (.inr (.inl o))) := by
  unfold blend_Over_b1
  simp only
  rw [if_neg (len_npos hs), if_neg (len_npos ht)]
/-- What a blend comes to. -/
def blendV (f : Option Int → Option Int → Option (Option Int)) (v w : Int × Sl It) : (Int × Sl It) × Int :=
  if (sureV v).1 ≠ (sureV w).1 then ((0, nilS), 4) else match mrg f (sureV v).2.l (sureV w).2.l with
  | none => ((0, nilS), 12)
  | some r => (((sureV v).1, mo 2 r), 0)
theorem sure_vals {v : Int × Sl It} (h : ∀ x ∈ v.2.l, i64r x.2) : ∀ x ∈ (sureV v).2.l, i64r x.2 := by
  unfold sureV
  split
  · exact h
  · intro x hx; simp [nilS] at hx
theorem mrg_end {f : Option Int → Option Int → Option (Option Int)} {b : Sl It × Sl It × List It → Option ((Sl It × Sl It × List It) ⊕ MR)} (h0 : ∀ s t o, s.l = [] → t.l = [] → b (s, t, o) = some (.inr (.inr (.inl o))))
    (hs : ∀ s t o, okS 2 s → okS 2 t → (∀ x ∈ s.l, i64r x.2) → (∀ x ∈ t.l, i64r x.2) → ¬ (s.l = [] ∧ t.l = []) → o.length ≤ 100000 → MStep f b s t o) {v w : Int × Sl It} (hv : okS 2 v.2) (hw : okS 2 w.2) (qv : ∀ x ∈ v.2.l, i64r x.2) (qw : ∀ x ∈ w.2.l, i64r x.2) (hn : (sureV v).1 = (sureV w).1) :
    (loopO b ((sureV v).2, (sureV w).2, [])).bind (Sum.elim (fun _ => some ((0, (⟨false, 0, []⟩ : Sl It)), 12)) (Sum.elim (fun l => some (((sureV v).1, mo 2 l), 0)) (fun u => u.elim))) = some (blendV f v w) := by
  have l1 := sure_len v
  have l2 := sure_len w
  have := mrg_loop h0 hs ((sureV v).2.l.length + (sureV w).2.l.length) (sureV v).2 (sureV w).2 [] (Nat.le_refl _) (sureV_ok hv) (sureV_ok hw) (sure_vals qv) (sure_vals qw) (by simp; omega)
  unfold blendV mrg
  rw [if_neg (fun h => h hn)]
  rcases this with ⟨g1, o', g2⟩ | ⟨r, g1, g2⟩
  · rw [g1, g2]; rfl
  · rw [g1, g2]; rfl
theorem blend_Union_eq (r : Int) (v w : Int × Sl It) (hv : okS 2 v.2) (hw : okS 2 w.2) (lv : v.2.l.length ≤ 9223372036854775807) (lw : w.2.l.length ≤ 9223372036854775807) (qv : ∀ x ∈ v.2.l, i64r x.2) (qw : ∀ x ∈ w.2.l, i64r x.2) : blend_Union r v w = some (if okR r = true then blendV (fU r) v w else ((0, nilS), 8)) := by
  unfold blend_Union
  simp only [ring_Is_eq, Option.bind_some]
  by_cases hr : okR r = true
  · rw [if_pos hr]
    have hr' : (decide (1 ≤ r) && decide (r ≤ 5)) = true := hr
    rw [if_pos hr', blend_sure_eq v hv lv]
    simp only [Option.bind_some]
    rw [blend_sure_eq w hw lw]
    simp only [Option.bind_some]
    by_cases hn : (sureV v).1 = (sureV w).1
    · rw [if_neg (fun h => h hn)]
      exact mrg_end (Union_end r) (Union_step r) hv hw qv qw hn
    · rw [if_pos hn]
      unfold blendV; rw [if_pos hn]; rfl
  · rw [if_neg hr]
    have hr' : ¬ (decide (1 ≤ r) && decide (r ≤ 5)) = true := hr
    rw [if_neg hr']; rfl
theorem blend_Over_eq (v w : Int × Sl It) (hv : okS 2 v.2) (hw : okS 2 w.2) (lv : v.2.l.length ≤ 9223372036854775807) (lw : w.2.l.length ≤ 9223372036854775807) (qv : ∀ x ∈ v.2.l, i64r x.2) (qw : ∀ x ∈ w.2.l, i64r x.2) : blend_Over v w = some (blendV fO v w) := by
  unfold blend_Over
  simp only
  rw [blend_sure_eq v hv lv]
  simp only [Option.bind_some]
  rw [blend_sure_eq w hw lw]
  simp only [Option.bind_some]
  by_cases hn : (sureV v).1 = (sureV w).1
  · rw [if_neg (fun h => h hn)]
    exact mrg_end Over_end Over_step hv hw qv qw hn
  · rw [if_pos hn]
    unfold blendV; rw [if_pos hn]; rfl
theorem law09_Some_at (n : Int) (s : Sl It) (hn : 0 ≤ n ∧ n ≤ 255) (hok : okS 2 s) (hl : s.l.length ≤ 9223372036854775807) (hv : ∀ x ∈ s.l, i64r x.2) : ∃ v, law09_Some n s = some v ∧ GoodV v ∧ v.1 = n.tmod 60 := by
  unfold law09_Some
  have hw : IntKind.i64.wrap n = n := wrap64 (by omega) (by omega)
  obtain ⟨k, hk, k0, k1, k2⟩ : ∃ k, modO n 60 = some k ∧ 0 ≤ k ∧ k < 60 ∧ k = n.tmod 60 := by
    refine ⟨n.tmod 60, by unfold modO; rw [if_pos (by omega)], ?_, ?_, rfl⟩
    · exact Int.tmod_nonneg _ hn.1
    · exact Int.tmod_lt_of_pos _ (by omega)
  rw [hw, hk]
  simp only [Option.bind_some]
  obtain ⟨q, h1, l, rfl, h2, h3⟩ := loop_up (b := law09_Some_b1 s k) (if 0 < k then min s.l.length 60 else 0) (fun j a => ∃ l, a = (l, (j : Int)) ∧ l.length ≤ j ∧ ∀ x ∈ l, 0 ≤ x.1 ∧ x.1 < k ∧ i64r x.2) (fun q => ∃ l, q = .inl l ∧ l.length ≤ 60 ∧ ∀ x ∈ l, 0 ≤ x.1 ∧ x.1 < k ∧ i64r x.2)
    (by
      rintro j _ hj ⟨l, rfl, hlj, hlk⟩
      have hk0 : 0 < k := by
        by_cases c : 0 < k
        · exact c
        · rw [if_neg c] at hj; omega
      rw [if_pos hk0] at hj
      have hj1 : j < s.l.length := by omega
      have hj2 : j < 60 := by omega
      simp only [law09_Some_b1, at_get hok hj1, Option.bind_some, w_succ hj1 (by omega)]
      rw [if_pos (by omega), if_pos (by omega), if_pos (by omega)]
      by_cases c : s.l[j].1 ≥ 0
      · rw [if_pos c]
        have hm : modO s.l[j].1 k = some (s.l[j].1.tmod k) := by unfold modO; rw [if_pos (by omega)]
        have ha : app l [(s.l[j].1.tmod k, s.l[j].2)] = some (l ++ [(s.l[j].1.tmod k, s.l[j].2)]) := app_ok (by simp; unfold bound; omega)
        simp only [hm, ha, Option.bind_some]
        refine .inl ⟨_, rfl, _, rfl, by simp; omega, fun x hx => ?_⟩
        rcases List.mem_append.1 hx with hx | hx
        · exact hlk x hx
        · simp only [List.mem_singleton] at hx
          subst hx
          exact ⟨Int.tmod_nonneg _ c, Int.tmod_lt_of_pos _ hk0, by have := hv s.l[j] (List.getElem_mem hj1); exact this⟩
      · rw [if_neg c]
        exact .inl ⟨_, rfl, l, rfl, by omega, hlk⟩)
    (by
      rintro _ ⟨l, rfl, hlj, hlk⟩
      have hb : l.length ≤ 60 := by
        by_cases c : 0 < k
        · rw [if_pos c] at hlj; omega
        · rw [if_neg c] at hlj; omega
      refine ⟨.inl l, ?_, l, rfl, hb, hlk⟩
      simp only [law09_Some_b1]
      by_cases c : 0 < k
      · rw [if_pos c]
        by_cases c1 : ((min s.l.length 60 : Nat) : Int) < (s.l.length : Int)
        · rw [if_pos c1, if_neg (by omega)]
        · rw [if_neg c1]
      · rw [if_neg c]
        by_cases c1 : ((0 : Nat) : Int) < (s.l.length : Int)
        · rw [if_pos c1, if_pos (by omega), if_neg (by omega)]
        · rw [if_neg c1]) 0 (Nat.zero_le _) ([], 0) ⟨[], rfl, Nat.le_refl _, fun x hx => by simp at hx⟩
  rw [h1]
  simp only [Option.bind_some, Sum.elim_inl]
  obtain ⟨v, e, g1, g2, g3⟩ := ref09_Of_min k (mo 2 l) (ok_mo _) k0 (by omega) (by rw [mo_l]; omega) (fun x hx => h3 x (by rw [mo_l] at hx; exact hx))
  rw [g1]
  exact ⟨_, rfl, g2, by rw [g3, k2]⟩
theorem WV_s {s : Sl It} (w : SlW 2 WIt s) : ∀ x ∈ s.l, i64r x.2 := fun x hx => i64r_of (w.2.2.2 x hx).2
theorem some_at (n : Int) (s : Sl It) (hn : inK .u8 n) (w : SlW 2 WIt s) : ∃ v, law09_Some n s = some v ∧ GoodV v ∧ v.1 = n.tmod 60 := law09_Some_at n s (u8_of hn) w.ok w.2.2.1 (WV_s w)
theorem GoodV.len {v : Int × Sl It} (h : GoodV v) : v.2.l.length ≤ 4096 := right_len h.1
/-- Of good vectors of a size, a blend is what the lists give. -/
theorem blendV_good {f : Option Int → Option Int → Option (Option Int)} {v w : Int × Sl It} (hv : GoodV v) (hw : GoodV w) (hn : v.1 = w.1) : blendV f v w = (match mrg f v.2.l w.2.l with | none => ((0, nilS), 12) | some r => ((v.1, mo 2 r), 0)) := by
  unfold blendV
  rw [sure_id hv.1, sure_id hw.1, if_neg (fun h => h hn)]
  all_goals (cases mrg f v.2.l w.2.l <;> rfl)
theorem good_mo {n : Int} {r : List It} (h0 : 0 ≤ n) (h1 : n ≤ 4096) (ha : asc (-1) n r = true) (hr : ∀ x ∈ r, i64r x.2) : GoodV (n, mo 2 r) := by
  refine ⟨?_, ok_mo _, by simpa only [mo_l] using hr⟩
  unfold rightB sizeB
  simp only [mo_l, ha, decide_eq_true h0, decide_eq_true h1, Bool.and_self]
theorem vals_of {n : Int} {r : List It} {Q : Int → Prop} (ha : asc (-1) n r = true) (h : ∀ p y, getI p r = some y → Q y) : ∀ x ∈ r, Q x.2 := fun x hx => h x.1 x.2 (getI_mem ha x hx)
theorem same_list {v v' : Int × Sl It} (hok : okS 2 v.2) (hok' : okS 2 v'.2) (hn : v.1 = v'.1) (he : v.2.l = v'.2.l) (hl : v.2.l.length ≤ 8192) : ref09_Same v v' = some true := same_eq v v' hok hok' hn he (by omega)
/-- A list has, place by place, what is asked; or at a place nothing can be. -/
def SpecR (f : Option Int → Option Int → Option (Option Int)) (n : Int) (l m : List It) (q : Option (List It)) : Prop :=
  (q = none → ∃ p, f (getI p l) (getI p m) = none) ∧ ∀ r, q = some r → asc (-1) n r = true ∧ ∀ p, f (getI p l) (getI p m) = some (getI p r)
theorem SpecR.uniq {f : Option Int → Option Int → Option (Option Int)} {n : Int} {l m : List It} {q q' : Option (List It)} (h0 : 0 ≤ n) (h : SpecR f n l m q) (h' : SpecR f n l m q') : q = q' := by
  cases q with
  | none =>
    obtain ⟨p, hp⟩ := h.1 rfl
    cases q' with
    | none => rfl
    | some r =>
      have := (h'.2 r rfl).2 p
      rw [hp] at this; simp at this
  | some r =>
    obtain ⟨a, b⟩ := h.2 r rfl
    cases q' with
    | none =>
      obtain ⟨p, hp⟩ := h'.1 rfl
      rw [b p] at hp; simp at hp
    | some r' =>
      obtain ⟨a', b'⟩ := h'.2 r' rfl
      rw [asc_ext h0 a a' fun p => by have := b p; rw [b' p] at this; simpa using this.symm]
theorem mrg_SpecR {f : Option Int → Option Int → Option (Option Int)} (f0 : f none none = some none) {n : Int} {l m : List It} (hl : asc (-1) n l = true) (hm : asc (-1) n m = true) : SpecR f n l m (mrg f l m) := mrg_spec f0 _ (Nat.le_refl _) hl hm
theorem right_asc {v : Int × Sl It} (h : rightB v = true) : asc (-1) v.1 v.2.l = true := by unfold rightB at h; simp only [Bool.and_eq_true] at h; exact h.2
theorem right_sz {v : Int × Sl It} (h : rightB v = true) : 0 ≤ v.1 ∧ v.1 ≤ 4096 := right_size (n := v.1) (s := v.2) h
theorem getI_some {p y : Int} : ∀ {l : List It}, getI p l = some y → (p, y) ∈ l
  | [], h => by simp [getI] at h
  | x :: l, h => by
    unfold getI at h
    split at h
    · rename_i c
      simp only [Option.some.injEq] at h
      subst h c; exact List.mem_cons_self
    · exact List.mem_cons_of_mem _ (getI_some h)
theorem getI_i64 {p y : Int} {l : List It} (hl : ∀ x ∈ l, i64r x.2) (h : getI p l = some y) : i64r y := hl _ (getI_some h)
theorem div64n {j : Nat} (hj : j < 1000000) : divO .i64 (j : Int) 64 = some ((j / 64 : Nat) : Int) := by
  unfold divO
  rw [if_pos (by decide), Int.tdiv_eq_ediv_of_nonneg (by omega), wrap64 (by omega) (by omega)]; rfl
theorem mod64n {j : Nat} : modO (j : Int) 64 = some ((j % 64 : Nat) : Int) := by
  unfold modO
  rw [if_pos (by decide), Int.tmod_eq_emod_of_nonneg (by omega)]; rfl
theorem and_nat {a b : Nat} (ha : a < 18446744073709551616) (hb : b < 18446744073709551616) : andI .u64 (a : Int) (b : Int) = ((a &&& b : Nat) : Int) := by
  unfold andI
  have hb' : IntKind.u64.bits = 64 := rfl
  rw [hb', BitVec.toNat_and, BitVec.toNat_ofInt, BitVec.toNat_ofInt, wrap_u64]
  have e1 : ((a : Int) % ((2 ^ 64 : Nat) : Int)).toNat = a := by omega
  have e2 : ((b : Int) % ((2 ^ 64 : Nat) : Int)).toNat = b := by omega
  rw [e1, e2]
  have : a &&& b < 2 ^ 64 := Nat.and_lt_two_pow a (by omega)
  omega
def hasB (ws : List Int) (p : Nat) : Bool := match ws[p / 64]? with | some w => w.toNat.testBit (p % 64) | none => false
def u64s (ws : List Int) : Prop := ∀ w ∈ ws, u64r w
theorem and_pow (a k : Nat) : a &&& 2 ^ k ≠ 0 ↔ a.testBit k = true := by
  constructor
  · intro h
    cases hc : a.testBit k with
    | true => rfl
    | false =>
      refine absurd (Nat.eq_of_testBit_eq fun i => ?_) h
      rw [Nat.testBit_and, Nat.testBit_two_pow, Nat.zero_testBit]
      by_cases e : k = i
      · subst e; rw [hc]; rfl
      · rw [decide_eq_false e, Bool.and_false]
  · intro h e
    have : (a &&& 2 ^ k).testBit k = false := by rw [e]; exact Nat.zero_testBit _
    rw [Nat.testBit_and, Nat.testBit_two_pow, h] at this
    simp at this
theorem pow_lt {k : Nat} (hk : k < 64) : 2 ^ k < 18446744073709551616 := Nat.pow_lt_pow_right (by decide) hk
theorem flags_Has_eq (s : Sl Int) (p : Nat) (hok : okS 1 s) (hu : u64s s.l) (hp : p < 1000000) : flags_Has s (p : Int) = some (hasB s.l p) := by
  unfold flags_Has flags_within hasB
  simp only [div64n hp, Option.bind_some]
  rw [if_pos (by omega)]
  by_cases h : p / 64 < s.l.length
  · rw [if_pos (by omega)]
    simp only [Option.bind_some, if_true, at_get hok h]
    have hw := hu _ (List.getElem_mem h)
    have hg : s.l[p / 64]? = some s.l[p / 64] := List.getElem?_eq_getElem h
    rw [hg]
    obtain ⟨w, hw2⟩ := Int.eq_ofNat_of_zero_le hw.1
    rw [hw2] at hw ⊢
    have hk : p % 64 < 64 := Nat.mod_lt _ (by decide)
    have hpow := pow_lt hk
    have hb : flags_bit (p : Int) = some ((2 ^ (p % 64) : Nat) : Int) := by
      unfold flags_bit
      simp only [mod64n, Option.bind_some]
      have e : IntKind.u64.wrap ((p % 64 : Nat) : Int) = ((p % 64 : Nat) : Int) := by rw [wrap_u64]; omega
      rw [e]
      unfold shl1 shlI
      rw [if_pos (by omega)]
      have hmin : min (((p % 64 : Nat) : Int)).toNat IntKind.u64.bits = p % 64 := by
        have : IntKind.u64.bits = 64 := rfl
        omega
      rw [hmin, Int.one_mul, wrap_u64]
      simp only [Option.bind_some]
      congr 1
      have : (2 : Int) ^ (p % 64) = ((2 ^ (p % 64) : Nat) : Int) := by simp
      rw [this]
      clear this
      generalize 2 ^ (p % 64) = z at hpow ⊢
      omega
    rw [hb]
    simp only [Option.bind_some]
    rw [and_nat (by have := hw.2; omega) hpow]
    simp only [Int.toNat_natCast]
    have ht := and_pow w (p % 64)
    cases hc : w.testBit (p % 64) with
    | false => rw [hc] at ht; rw [if_neg (fun h => by have := ht.1 (fun e => h (by rw [e]; rfl)); simp at this)]
    | true => rw [hc] at ht; rw [if_pos (by have := ht.2 rfl; omega)]
  · rw [if_neg (by omega)]
    simp only [Option.bind_some, Bool.false_eq_true, if_false]
    rw [List.getElem?_eq_none (by omega)]
def maskL (ws : List Int) (c : Bool) (l : List It) : List It := l.filter fun x => hasB ws x.1.toNat != c
def maskV (v : Int × Sl It) (ws : List Int) (c : Bool) : Int × Sl It := ((sureV v).1, mo 2 (maskL ws c (sureV v).2.l))
theorem blend_Mask_eq (v : Int × Sl It) (w : Sl Int) (c : Bool) (hv : okS 2 v.2) (lv : v.2.l.length ≤ 9223372036854775807) (hw : okS 1 w) (hu : u64s w.l) : blend_Mask v w c = some (maskV v w.l c) := by
  have k1 := sure_len v
  have o1 := sureV_ok hv
  have r1 := sureV_right v
  unfold blend_Mask
  simp only
  rw [blend_sure_eq v hv lv]
  simp only [Option.bind_some]
  unfold maskV
  generalize sureV v = u at k1 o1 r1
  obtain ⟨n, s⟩ := u
  simp only at k1 o1 ⊢
  obtain ⟨q, h1, h2⟩ := loop_up (b := blend_Mask_b1 w s) s.l.length (fun j a => a = (c, (j : Int), maskL w.l c (s.l.take j))) (fun q => q = .inl (maskL w.l c s.l))
    (by
      rintro j _ hj rfl
      have hx := right_at r1 hj
      have hz := right_sz r1
      simp only at hz
      obtain ⟨k, hk⟩ := Int.eq_ofNat_of_zero_le hx.1
      have hh := flags_Has_eq w k hw hu (by omega)
      rw [← hk] at hh
      have ht : maskL w.l c (s.l.take (j + 1)) = maskL w.l c (s.l.take j) ++ (if (hasB w.l s.l[j].1.toNat != c) = true then [s.l[j]] else []) := filter_take _ s.l hj
      have hlen : (maskL w.l c (s.l.take j)).length ≤ 100000 := by
        have h1 : (maskL w.l c (s.l.take j)).length ≤ (s.l.take j).length := List.length_filter_le _ _
        have h2 : (s.l.take j).length ≤ s.l.length := by simp; omega
        omega
      have hkk : s.l[j].1.toNat = k := by omega
      rw [hkk] at ht
      simp only [blend_Mask_b1, at_get o1 hj, Option.bind_some, w_succ hj (by omega), hh, app_one hlen]
      rw [if_pos (by omega)]
      refine .inl ?_
      rw [ht]
      cases hb : hasB w.l k <;> cases c <;> exact ⟨_, rfl, by simp⟩)
    (by
      rintro _ rfl
      refine ⟨_, if_neg (by omega), ?_⟩
      rw [List.take_length]) 0 (Nat.zero_le _) (c, 0, []) rfl
  rw [h1, h2]; rfl
theorem some_at2 (n : Int) (s : Sl It) (hn : inK .u8 n) (w : SlW 2 WIt s) : ∃ t, law09_Some n s = some (n.tmod 60, t) ∧ GoodV (n.tmod 60, t) := by
  obtain ⟨⟨k, t⟩, e, g, z⟩ := some_at n s hn w
  simp only at z
  subst z
  exact ⟨t, e, g⟩
theorem good_asc {k : Int} {s : Sl It} (h : GoodV (k, s)) : asc (-1) k s.l = true := right_asc (v := (k, s)) h.1
theorem mrg_good {f : Option Int → Option Int → Option (Option Int)} (f0 : f none none = some none) (hf : ∀ a b, (∀ x, a = some x → i64r x) → (∀ y, b = some y → i64r y) → ∃ u, f a b = some u ∧ ∀ x, u = some x → i64r x) {k : Int} {s t : Sl It} (hs : GoodV (k, s)) (ht : GoodV (k, t)) :
    ∃ r, blendV f (k, s) (k, t) = ((k, mo 2 r), 0) ∧ GoodV (k, mo 2 r) ∧ asc (-1) k r = true ∧ ∀ p, f (getI p s.l) (getI p t.l) = some (getI p r) := by
  have hsp := mrg_SpecR (f := f) f0 (good_asc hs) (good_asc ht)
  have hz := right_size hs.1
  rw [blendV_good hs ht rfl]
  have hall : ∀ p, ∃ u, f (getI p s.l) (getI p t.l) = some u ∧ ∀ x, u = some x → i64r x := fun p => hf _ _ (fun x hx => getI_i64 hs.2.2 hx) (fun x hx => getI_i64 ht.2.2 hx)
  cases hq : mrg f s.l t.l with
  | none =>
    obtain ⟨p, hp⟩ := hsp.1 hq
    obtain ⟨u, hu, _⟩ := hall p
    rw [hu] at hp; simp at hp
  | some r =>
    obtain ⟨ha, hg⟩ := hsp.2 r hq
    refine ⟨r, rfl, good_mo hz.1 hz.2 ha (vals_of ha fun p y hy => ?_), ha, hg⟩
    obtain ⟨u, hu, hi⟩ := hall p
    have := hg p
    rw [hu, hy] at this
    simp only [Option.some.injEq] at this
    exact hi y this
theorem fO_good (a b : Option Int) (ha : ∀ x, a = some x → i64r x) (hb : ∀ y, b = some y → i64r y) : ∃ u, fO a b = some u ∧ ∀ x, u = some x → i64r x := by
  cases b with
  | none => exact ⟨a, rfl, ha⟩
  | some y => exact ⟨some y, rfl, hb⟩
theorem fU1_eq {x y : Int} (hx : i64r x) (hy : i64r y) : fU 1 (some x) (some y) = some (some (if y < x then y else x)) := by
  have e : ringAdd 1 (ofW x) (ofW y) = ofW (if y < x then y else x) := by
    show (if _ then _ else _) = _
    rw [if_pos (.inl rfl)]
    unfold lessrW
    rw [less_of hy hx]
    by_cases c : y < x
    · rw [if_pos c, decide_eq_true c]; rfl
    · rw [if_neg c, decide_eq_false c]; rfl
  show fitO (ringAdd 1 (ofW x) (ofW y)) = _
  rw [e]
  unfold fitO
  rw [narrow_of (by split <;> assumption)]
  rfl
theorem fU1_good (a b : Option Int) (ha : ∀ x, a = some x → i64r x) (hb : ∀ y, b = some y → i64r y) : ∃ u, fU 1 a b = some u ∧ ∀ x, u = some x → i64r x := by
  cases a with
  | none =>
    cases b with
    | none => exact ⟨none, rfl, by simp⟩
    | some y => exact ⟨some y, rfl, hb⟩
  | some x =>
    cases b with
    | none => exact ⟨some x, rfl, ha⟩
    | some y =>
      refine ⟨_, fU1_eq (ha x rfl) (hb y rfl), fun z hz => ?_⟩
      simp only [Option.some.injEq] at hz
      subst hz
      split
      · exact hb y rfl
      · exact ha x rfl
theorem GoodV.lenS {k : Int} {s : Sl It} (h : GoodV (k, s)) : s.l.length ≤ 9223372036854775807 := by have := h.len; simp only at this; omega
theorem over_good {k : Int} {s t : Sl It} (hs : GoodV (k, s)) (ht : GoodV (k, t)) : ∃ r, blend_Over (k, s) (k, t) = some ((k, mo 2 r), 0) ∧ GoodV (k, mo 2 r) ∧ asc (-1) k r = true ∧ ∀ p, fO (getI p s.l) (getI p t.l) = some (getI p r) := by
  obtain ⟨r, h1, h2⟩ := mrg_good (f := fO) rfl fO_good hs ht
  exact ⟨r, by rw [blend_Over_eq _ _ hs.2.1 ht.2.1 hs.lenS ht.lenS hs.2.2 ht.2.2, h1], h2⟩
theorem union1_good {k : Int} {s t : Sl It} (hs : GoodV (k, s)) (ht : GoodV (k, t)) : ∃ r, blend_Union 1 (k, s) (k, t) = some ((k, mo 2 r), 0) ∧ GoodV (k, mo 2 r) ∧ asc (-1) k r = true ∧ ∀ p, fU 1 (getI p s.l) (getI p t.l) = some (getI p r) := by
  obtain ⟨r, h1, h2⟩ := mrg_good (f := fU 1) rfl fU1_good hs ht
  exact ⟨r, by rw [blend_Union_eq 1 _ _ hs.2.1 ht.2.1 hs.lenS ht.lenS hs.2.2 ht.2.2, if_pos (by decide), h1], h2⟩
theorem nil_of_none {n : Int} {r : List It} (h0 : 0 ≤ n) (ha : asc (-1) n r = true) (h : ∀ p : Nat, getI (p : Int) r = none) : r = [] := asc_ext h0 ha rfl fun p => by rw [h p]; rfl
theorem getI_filterP (P : Int → Bool) (p : Int) : ∀ l : List It, getI p (l.filter fun x => P x.1) = if P p = true then getI p l else none
  | [] => by simp [getI]
  | x :: l => by
    have ih := getI_filterP P p l
    by_cases c : P x.1 = true
    · rw [List.filter_cons_of_pos (by simpa using c)]
      simp only [getI]
      by_cases e : x.1 = p
      · rw [if_pos e, if_pos e, if_pos (by rw [← e]; exact c)]
      · rw [if_neg e, if_neg e, ih]
    · rw [List.filter_cons_of_neg (by simpa using c), ih]
      simp only [getI]
      by_cases e : x.1 = p
      · have c' : ¬ P p = true := by rw [← e]; exact c
        rw [if_neg c', if_neg c']
      · rw [if_neg e]
theorem asc_filterP {n : Int} (p : It → Bool) : ∀ {l : List It} {a : Int}, asc a n l = true → asc a n (l.filter p) = true
  | [], a, h => rfl
  | x :: l, a, h => by
    simp only [asc, Bool.and_eq_true, decide_eq_true_eq] at h
    have ih := asc_filterP p h.2
    by_cases c : p x = true
    · rw [List.filter_cons_of_pos c]
      simp only [asc, Bool.and_eq_true, decide_eq_true_eq]
      exact ⟨h.1, ih⟩
    · rw [List.filter_cons_of_neg c]
      exact asc_low (by omega) ih
theorem mask_good {k : Int} {t : Sl It} (h : GoodV (k, t)) (ws : List Int) (c : Bool) : GoodV (k, mo 2 (maskL ws c t.l)) := by
  have hz := right_size h.1
  exact good_mo hz.1 hz.2 (asc_filterP _ (right_asc h.1)) fun x hx => h.2.2 x (List.mem_filter.1 hx).1
theorem blend_Mask_good {k : Int} {t : Sl It} (h : GoodV (k, t)) {w : Sl Int} (hw : okS 1 w) (hu : u64s w.l) (c : Bool) : blend_Mask (k, t) w c = some (k, mo 2 (maskL w.l c t.l)) := by
  rw [blend_Mask_eq (k, t) w c h.2.1 h.lenS hw hu]
  unfold maskV
  rw [sure_id h.1]
theorem at_mo {α : Type} {w : Nat} {l : List α} {k : Nat} {x : α} (h : l[k]? = some x) : atS w (mo w l) (k : Int) = some x := by
  have hk := (List.getElem?_eq_some_iff.1 h).1
  have := at_get (w := w) (s := mo w l) (ok_mo l) (j := k) (by rw [mo_l]; exact hk)
  rw [this]
  simp only [mo_l]
  rw [← h, List.getElem?_eq_getElem hk]
theorem hasB_word {ws : List Int} {p i k : Nat} {w : Int} (hp : p / 64 = i) (hk : p % 64 = k) (hw : ws[i]? = some w) : hasB ws p = w.toNat.testBit k := by unfold hasB; rw [hp, hk, hw]
theorem ref03_words_eq {n : Int} (h : 0 ≤ n ∧ n ≤ 4096) : ref03_words n = some ((n + 63) / 64) := by
  unfold ref03_words
  rw [if_neg (by omega)]
  by_cases h1 : n < 1
  · rw [if_pos h1]
    obtain rfl : n = 0 := by omega
    rfl
  · rw [if_neg h1, wrap64 (by omega) (by omega)]
    unfold divO
    rw [if_pos (by decide), Int.tdiv_eq_ediv_of_nonneg (by omega), wrap64 (by omega) (by omega)]; rfl
theorem or_nat {a b : Nat} (ha : a < 18446744073709551616) (hb : b < 18446744073709551616) : orI .u64 (a : Int) (b : Int) = ((a ||| b : Nat) : Int) := by
  unfold orI
  have hb' : IntKind.u64.bits = 64 := rfl
  rw [hb', BitVec.toNat_or, BitVec.toNat_ofInt, BitVec.toNat_ofInt, wrap_u64]
  have e1 : ((a : Int) % ((2 ^ 64 : Nat) : Int)).toNat = a := by omega
  have e2 : ((b : Int) % ((2 ^ 64 : Nat) : Int)).toNat = b := by omega
  rw [e1, e2]
  have : a ||| b < 2 ^ 64 := Nat.or_lt_two_pow (by omega) (by omega)
  omega
theorem shl_one {p : Nat} : shl1 .u64 1 (IntKind.u64.wrap ((p % 64 : Nat) : Int)) = some ((2 ^ (p % 64) : Nat) : Int) := by
  have hk : p % 64 < 64 := Nat.mod_lt _ (by decide)
  have hpow := pow_lt hk
  have e : IntKind.u64.wrap ((p % 64 : Nat) : Int) = ((p % 64 : Nat) : Int) := by rw [wrap_u64]; omega
  rw [e]
  unfold shl1 shlI
  rw [if_pos (by omega)]
  have hmin : min (((p % 64 : Nat) : Int)).toNat IntKind.u64.bits = p % 64 := by
    have : IntKind.u64.bits = 64 := rfl
    omega
  rw [hmin, Int.one_mul, wrap_u64]
  congr 1
  have : (2 : Int) ^ (p % 64) = ((2 ^ (p % 64) : Nat) : Int) := by simp
  rw [this]
  clear this
  generalize 2 ^ (p % 64) = z at hpow ⊢
  omega
/-- A set with a place. -/
theorem ref03_Put_eq (ws : List Int) (p : Nat) (hu : u64s ws) (hl : ws.length ≤ 1000) (hp : p / 64 < ws.length) (hp2 : p < 1000000) : ∃ q, ref03_Put ⟨true, 1, ws⟩ (p : Int) = some q ∧ q.length = ws.length ∧ u64s q ∧ ∀ i, hasB q i = (hasB ws i || decide (i = p)) := by
  have hap : app ([] : List Int) ws = some ([] ++ ws) := app_ok (by simp; unfold bound; omega)
  have hw := hu _ (List.getElem_mem hp)
  have hat := at_mo (w := 1) (l := ws) (List.getElem?_eq_getElem hp)
  obtain ⟨w, hw2⟩ := Int.eq_ofNat_of_zero_le hw.1
  rw [hw2] at hw hat
  have hwlt : w < 18446744073709551616 := by have := hw.2; omega
  have hk : p % 64 < 64 := Nat.mod_lt _ (by decide)
  have hpow := pow_lt hk
  have hor := or_nat hwlt hpow
  have horl : w ||| 2 ^ (p % 64) < 2 ^ 64 := Nat.or_lt_two_pow (by omega) (by omega)
  refine ⟨ws.set (p / 64) ((w ||| 2 ^ (p % 64) : Nat) : Int), ?_, by simp, fun x hx => ?_, fun i => ?_⟩
  · unfold ref03_Put ref03_set
    simp only [hap, Option.bind_some, List.nil_append, div64n hp2, mod64n, shl_one, hat, hor, if_true]
    rw [if_neg (by omega), if_neg (by omega), Int.toNat_natCast]; rfl
  · rcases List.mem_or_eq_of_mem_set hx with hx | rfl
    · exact hu x hx
    · unfold u64r; omega
  · by_cases e : i / 64 = p / 64
    · rw [hasB_word (ws := ws.set _ _) e rfl (by rw [List.getElem?_set, if_pos rfl, if_pos hp]), hasB_word e rfl (by rw [List.getElem?_eq_getElem hp, hw2])]
      simp only [Int.toNat_natCast]
      rw [Nat.testBit_or, Nat.testBit_two_pow]
      congr 1
      by_cases e2 : i = p
      · subst e2; simp
      · rw [decide_eq_false e2, decide_eq_false (by omega)]
    · have hne : (ws.set (p / 64) ((w ||| 2 ^ (p % 64) : Nat) : Int))[i / 64]? = ws[i / 64]? := by rw [List.getElem?_set, if_neg (Ne.symm e)]
      have e2 : i ≠ p := fun h => e (by rw [h])
      rw [decide_eq_false e2, Bool.or_false]
      unfold hasB
      rw [hne]
theorem has_zero (k i : Nat) : hasB (List.replicate k 0) i = false := by
  unfold hasB
  rw [List.getElem?_replicate]
  split
  · rename_i h
    split at h
    · simp only [Option.some.injEq] at h; rw [← h]; simp
    · simp at h
  · rfl
/-- A set of some places. -/
theorem ref03_Of_eq {n : Nat} (hn : n ≤ 4096) (s : Sl Int) (hs : okS 1 s) (hl : s.l.length ≤ 9223372036854775807) : ∃ q, ref03_Of (n : Int) s = some q ∧ ((q.length : Nat) : Int) = ((n : Int) + 63) / 64 ∧ u64s q ∧ ∀ i, hasB q i = (decide (i < n) && decide ((i : Int) ∈ s.l)) := by
  have hwd := ref03_words_eq (n := (n : Int)) ⟨by omega, by omega⟩
  have hlo : lenOk (((n : Int) + 63) / 64) = some () := by unfold lenOk bound; rw [if_pos ⟨by omega, by omega⟩]
  unfold ref03_Of ref03_New
  simp only [hwd, hlo, Option.bind_some]
  obtain ⟨q, q1, w, rfl, w1, w2, w3⟩ := loop_up (b := ref03_Of_b1 (n : Int) s) s.l.length (fun j st => ∃ w : List Int, st = (w, (j : Int)) ∧ ((w.length : Nat) : Int) = ((n : Int) + 63) / 64 ∧ u64s w ∧ ∀ i, hasB w i = (decide (i < n) && decide ((i : Int) ∈ s.l.take j))) (fun q => ∃ w : List Int, q = .inl w ∧ ((w.length : Nat) : Int) = ((n : Int) + 63) / 64 ∧ u64s w ∧ ∀ i, hasB w i = (decide (i < n) && decide ((i : Int) ∈ s.l)))
    (by
      rintro j _ hj ⟨w, rfl, g1, g2, g3⟩
      have ej := at_get hs hj
      have htk : s.l.take (j + 1) = s.l.take j ++ [s.l[j]] := by rw [List.take_succ_eq_append_getElem hj]
      rw [htk]
      generalize s.l[j] = x at ej
      simp only [ref03_Of_b1, ej, Option.bind_some, w_succ hj hl]
      rw [if_pos (by omega)]
      have same : ¬ (0 ≤ x ∧ x < (n : Int)) → ∀ i, hasB w i = (decide (i < n) && decide ((i : Int) ∈ s.l.take j ++ [x])) := fun h i => by
        rw [g3 i]
        by_cases hi : i < n
        · rw [decide_eq_true hi]
          simp only [Bool.true_and]
          congr 1
          simp only [List.mem_append, List.mem_cons, List.not_mem_nil, or_false, eq_iff_iff]
          exact ⟨.inl, fun h1 => h1.resolve_right fun e => h (by omega)⟩
        · rw [decide_eq_false hi]; rfl
      by_cases c1 : x ≥ 0
      · rw [if_pos c1]
        by_cases c2 : x < (n : Int)
        · rw [if_pos c2, if_pos (by omega)]
          obtain ⟨p, rfl⟩ := Int.eq_ofNat_of_zero_le c1
          obtain ⟨v, v1, v2, v3, v4⟩ := ref03_Put_eq w p g2 (by omega) (by omega) (by omega)
          rw [v1]
          simp only [Option.bind_some]
          rw [neL_some (by intro h; rw [h] at v2; simp at v2; omega)]
          refine .inl ⟨_, rfl, v, rfl, by rw [v2]; exact g1, v3, fun i => ?_⟩
          rw [v4 i, g3 i]
          by_cases hi : i < n
          · rw [decide_eq_true hi]
            simp only [Bool.true_and, List.mem_append, List.mem_cons, List.not_mem_nil, or_false, Bool.decide_or]
            congr 1
            by_cases e : i = p
            · subst e; simp
            · rw [decide_eq_false e, decide_eq_false (by omega)]
          · rw [decide_eq_false hi, decide_eq_false (show ¬ i = p by omega)]; rfl
        · rw [if_neg c2]
          exact .inl ⟨_, rfl, w, rfl, g1, g2, same (by omega)⟩
      · rw [if_neg c1]
        exact .inl ⟨_, rfl, w, rfl, g1, g2, same (by omega)⟩)
    (by
      rintro _ ⟨w, rfl, g1, g2, g3⟩
      rw [List.take_length] at g3
      refine ⟨.inl w, ?_, w, rfl, g1, g2, g3⟩
      simp only [ref03_Of_b1]
      rw [if_neg (by omega)]) 0 (Nat.zero_le _) (List.replicate (((n : Int) + 63) / 64).toNat 0, 0) ⟨_, rfl, by simp; omega, fun x hx => by rw [List.eq_of_mem_replicate hx]; unfold u64r; omega, fun i => by rw [has_zero]; simp⟩
  exact ⟨w, by rw [q1]; rfl, w1, w2, w3⟩
theorem ref09_Places_eq {k : Int} {t : Sl It} (h : GoodV (k, t)) : ref09_Places (k, t) = some (t.l.map (·.1)) := by
  have hlen := right_len h.1
  simp only at hlen
  have hok : okS 2 t := h.2.1
  unfold ref09_Places
  simp only [ref09_Sure_eq (k, t) hok (show t.l.length ≤ _ by omega), sure_id h.1, Option.bind_some]
  obtain ⟨q, q1, q2⟩ := loop_up (b := ref09_Places_b1 t) t.l.length (fun j st => st = ((t.l.take j).map (·.1), (j : Int))) (fun q => q = .inl (t.l.map (·.1)))
    (by
      rintro j _ hj rfl
      have ej := at_get hok hj
      have ap : ∀ z, app ((t.l.take j).map (·.1)) [z] = some ((t.l.take j).map (·.1) ++ [z]) := fun z => app_ok (by simp; unfold bound; omega)
      simp only [ref09_Places_b1, ej, Option.bind_some, ap, w_succ hj (by omega)]
      rw [if_pos (by omega)]
      exact .inl ⟨_, rfl, by rw [List.take_succ_eq_append_getElem hj, List.map_append]; rfl⟩)
    (by
      rintro _ rfl
      refine ⟨.inl (t.l.map (·.1)), ?_, rfl⟩
      simp only [ref09_Places_b1]
      rw [if_neg (by omega), List.take_length]) 0 (Nat.zero_le _) ([], 0) rfl
  rw [q1, q2]; rfl
theorem getI_filterV {n : Int} {l : List It} (h : asc (-1) n l = true) (P : Int → Bool) (p : Int) : getI p (l.filter fun x => P x.2) = if (match getI p l with | some v => P v | none => false) = true then getI p l else none := by
  cases hg : getI p l with
  | none =>
    simp only [Bool.false_eq_true, if_false]
    refine getI_none fun x hx e => ?_
    have := getI_mem h x (List.mem_filter.1 hx).1
    rw [e, hg] at this; simp at this
  | some v =>
    have hm := getI_some hg
    simp only
    by_cases c : P v = true
    · rw [if_pos c]
      exact getI_mem (asc_filterP (fun x => P x.2) h) (p, v) (List.mem_filter.2 ⟨hm, c⟩)
    · rw [if_neg c]
      refine getI_none fun x hx e => ?_
      obtain ⟨x1, x2⟩ := List.mem_filter.1 hx
      have := getI_mem h x x1
      rw [e, hg] at this
      rw [← Option.some.inj this] at x2
      exact c x2
/-- The least value of a list. -/
def IsMin (t : List It) (m : Int) : Prop := (∃ p, getI p t = some m) ∧ ∀ p v, getI p t = some v → m ≤ v
theorem IsMin.uniq {t : List It} {m m' : Int} (h : IsMin t m) (h' : IsMin t m') : m = m' := by
  obtain ⟨p, hp⟩ := h.1
  obtain ⟨p', hp'⟩ := h'.1
  have := h.2 p' m' hp'
  have := h'.2 p m hp
  omega
theorem leastF_le : ∀ (l : List It) (m : It), (leastF m l).2 ≤ m.2 ∧ ∀ x ∈ l, (leastF m l).2 ≤ x.2
  | [], m => ⟨Int.le_refl _, fun x hx => by simp at hx⟩
  | y :: l, m => by
    obtain ⟨h1, h2⟩ := leastF_le l (if y.2 < m.2 then y else m)
    have e : leastF m (y :: l) = leastF (if y.2 < m.2 then y else m) l := rfl
    rw [e]
    have h3 : (leastF (if y.2 < m.2 then y else m) l).2 ≤ m.2 ∧ (leastF (if y.2 < m.2 then y else m) l).2 ≤ y.2 := by
      by_cases c : y.2 < m.2
      · rw [if_pos c] at h1 ⊢; omega
      · rw [if_neg c] at h1 ⊢; omega
    refine ⟨h3.1, fun x hx => ?_⟩
    rcases List.mem_cons.1 hx with rfl | hx
    · exact h3.2
    · exact h2 x hx
theorem isMin_least {n : Int} {x : It} {l : List It} (h : asc (-1) n (x :: l) = true) : IsMin (x :: l) (leastF x l).2 := by
  have hm : leastF x l ∈ x :: l := by
    rcases least_mem l x with e | e
    · rw [e]; exact List.mem_cons_self
    · exact List.mem_cons_of_mem _ e
  obtain ⟨h1, h2⟩ := leastF_le l x
  refine ⟨⟨(leastF x l).1, getI_mem h _ hm⟩, fun p v hv => ?_⟩
  rcases List.mem_cons.1 (getI_some hv) with e | e
  · have h3 : x.2 = v := by rw [← e]
    omega
  · exact h2 _ e
def minOr : List It → Int
  | [] => 4611686018427387904
  | x :: l => (leastF x l).2
def leastOr : List It → It × Bool
  | [] => ((0, 0), false)
  | x :: l => (leastF x l, true)
theorem reduce_min {k : Int} {t : Sl It} (h : GoodV (k, t)) : fold_Reduce 1 (k, t) = some (minOr t.l, 0) := by
  have hlen := right_len h.1
  simp only at hlen
  rw [fold_Reduce_eq 1 (k, t) h.2.1 (show t.l.length ≤ _ by omega) h.2.2]
  unfold reduceV
  rw [sure_id h.1, if_pos (show okR 1 = true by decide)]
  simp only
  have hv := h.2.2
  simp only at hv
  cases ht : t.l with
  | nil =>
    have e3 : narrowW (totalR 1 []) = (4611686018427387904, true) := narrow_of (n := 4611686018427387904) (by unfold i64r; omega)
    simp only [e3, if_true, minOr]
  | cons x l =>
    rw [ht] at hv
    have hx := hv x List.mem_cons_self
    have hl := fun y hy => hv y (List.mem_cons_of_mem _ hy)
    have hmem : leastF x l ∈ x :: l := by
      rcases least_mem l x with e | e
      · rw [e]; exact List.mem_cons_self
      · exact List.mem_cons_of_mem _ e
    have e3 : narrowW (totalR 1 (x :: l)) = ((leastF x l).2, true) := by
      show narrowW (foldR 1 (ofW x.2) l) = _
      rw [fold_least l x hx hl]
      exact narrow_of (hv _ hmem)
    simp only [e3, if_true, minOr]
theorem least_of {k : Int} {t : Sl It} (h : GoodV (k, t)) : fold_Least (k, t) = some (leastOr t.l) := by
  have hlen := right_len h.1
  simp only at hlen
  rw [fold_Least_eq (k, t) h.2.1 (show t.l.length ≤ _ by omega)]
  unfold leastV
  rw [sure_id h.1]
  simp only
  all_goals (cases t.l <;> rfl)
/-- What two vectors' leasts come to. -/
def wantL : List It → List It → Int
  | [], [] => 4611686018427387904
  | x :: l, [] => (leastF x l).2
  | [], y :: m => (leastF y m).2
  | x :: l, y :: m => if (leastF y m).2 < (leastF x l).2 then (leastF y m).2 else (leastF x l).2
theorem want_ok {k : Int} (hk : 0 ≤ k) {a b r : List It} (ha : asc (-1) k a = true) (hb : asc (-1) k b = true) (hr : asc (-1) k r = true) (va : ∀ x ∈ a, i64r x.2) (vb : ∀ x ∈ b, i64r x.2) (h : ∀ p : Int, fU 1 (getI p a) (getI p b) = some (getI p r)) : minOr r = wantL a b := by
  have hnone : ∀ p, getI p ([] : List It) = none := fun p => rfl
  cases a with
  | nil =>
    cases b with
    | nil =>
      have : r = [] := nil_of_none hk hr fun p => by have := h p; simpa [getI, fU] using this.symm
      subst this; rfl
    | cons y m =>
      have : r = y :: m := asc_ext hk hr hb fun p => by
        have := h p
        rw [hnone] at this
        cases hg : getI (p : Int) (y :: m) with
        | none => rw [hg] at this; simpa [fU] using this.symm
        | some v => rw [hg] at this; simpa [fU] using this.symm
      subst this; rfl
  | cons x l =>
    cases b with
    | nil =>
      have : r = x :: l := asc_ext hk hr ha fun p => by
        have := h p
        rw [hnone] at this
        cases hg : getI (p : Int) (x :: l) with
        | none => rw [hg] at this; simpa [fU] using this.symm
        | some v => rw [hg] at this; simpa [fU] using this.symm
      subst this; rfl
    | cons y m =>
      have m1 := isMin_least ha
      have m2 := isMin_least hb
      have hboth : ∀ p v w, getI p (x :: l) = some v → getI p (y :: m) = some w → getI p r = some (if w < v then w else v) := fun p v w hv hw => by
        have := h p
        rw [hv, hw, fU1_eq (getI_i64 va hv) (getI_i64 vb hw)] at this
        simpa using this.symm
      have hl1 : ∀ p v, getI p (x :: l) = some v → getI p (y :: m) = none → getI p r = some v := fun p v hv hw => by
        have := h p
        rw [hv, hw] at this
        simpa [fU] using this.symm
      have hl2 : ∀ p w, getI p (x :: l) = none → getI p (y :: m) = some w → getI p r = some w := fun p w hv hw => by
        have := h p
        rw [hv, hw] at this
        simpa [fU] using this.symm
      have hmin : IsMin r (wantL (x :: l) (y :: m)) := by
        show IsMin r (if (leastF y m).2 < (leastF x l).2 then (leastF y m).2 else (leastF x l).2)
        obtain ⟨⟨p1, e1⟩, f1⟩ := m1
        obtain ⟨⟨p2, e2⟩, f2⟩ := m2
        generalize (leastF x l).2 = u at *
        generalize (leastF y m).2 = w at *
        constructor
        · by_cases c : w < u
          · rw [if_pos c]
            refine ⟨p2, ?_⟩
            cases hg : getI p2 (x :: l) with
            | none => exact hl2 p2 w hg e2
            | some v =>
              have := f1 p2 v hg
              rw [hboth p2 v w hg e2, if_pos (by omega)]
          · rw [if_neg c]
            refine ⟨p1, ?_⟩
            cases hg : getI p1 (y :: m) with
            | none => exact hl1 p1 u e1 hg
            | some v =>
              have := f2 p1 v hg
              rw [hboth p1 u v e1 hg]
              by_cases c2 : v < u
              · exfalso; omega
              · rw [if_neg c2]
        · intro p v hv
          have hle : (if w < u then w else u) ≤ w ∧ (if w < u then w else u) ≤ u := by split <;> omega
          cases g1 : getI p (x :: l) with
          | none =>
            cases g2 : getI p (y :: m) with
            | none => have := h p; rw [g1, g2, hv] at this; simp [fU] at this
            | some w' =>
              have e := hl2 p w' g1 g2
              rw [hv] at e
              have := f2 p w' g2
              rw [Option.some.inj e]; omega
          | some v' =>
            have k1 := f1 p v' g1
            cases g2 : getI p (y :: m) with
            | none =>
              have e := hl1 p v' g1 g2
              rw [hv] at e
              rw [Option.some.inj e]; omega
            | some w' =>
              have k2 := f2 p w' g2
              have e := hboth p v' w' g1 g2
              rw [hv] at e
              rw [Option.some.inj e]
              split <;> omega
      cases r with
      | nil => obtain ⟨⟨p, hp⟩, _⟩ := hmin; simp [getI] at hp
      | cons z q => exact (isMin_least hr).uniq hmin
theorem top_TopLeast_true (n : Int) (hn : inK .u8 n) (a : Sl It × Sl It) (h : SlW 2 WIt a.1 ∧ SlW 2 WIt a.2) (k : Int) (_ : inK .i64 k) : top_TopLeast n a k = some true := by
  obtain ⟨s1, s2⟩ := a
  obtain ⟨t1, e1, g1⟩ := some_at2 n s1 hn h.1
  obtain ⟨t2, e2, g2⟩ := some_at2 n s2 hn h.2
  generalize n.tmod 60 = K at e1 e2 g1 g2
  have hk := (right_size g1.1).1
  have hk2 := (right_size g1.1).2
  obtain ⟨r, o1, q1, a1, p1⟩ := union1_good g1 g2
  have hred := reduce_min q1
  simp only [mo_l] at hred
  rw [want_ok hk (good_asc g1) (good_asc g2) a1 g1.2.2 g2.2.2 p1] at hred
  have l1 := least_of g1
  have l2 := least_of g2
  have hone : fold_Least (1, (⟨true, 2, [(0, 3)]⟩ : Sl It)) = some ((0, 3), true) := by
    rw [fold_Least_eq _ (.inr rfl) (by simp)]; rfl
  have hwh : fold_Where (K, mo 2 r) 1 k = some (K, mo 2 (r.filter fun x => decide (x.2 < k))) := by
    rw [fold_Where_eq (K, mo 2 r) 1 k q1.2.1 q1.lenS]
    unfold whereV
    rw [sure_id q1.1]
    simp only [mo_l]
    congr 3
    refine List.filter_congr fun x _ => ?_
    simp [holdsB]
  have gw : GoodV (K, mo 2 (r.filter fun x => decide (x.2 < k))) := good_mo hk hk2 (asc_filterP _ a1) fun x hx => by
    have := q1.2.2 x (by simp only [mo_l]; exact (List.mem_filter.1 hx).1)
    exact this
  have hpl := ref09_Places_eq gw
  simp only [mo_l] at hpl
  have fin : ∀ s : Sl Int, okS 1 s → s.l = (r.filter fun x => decide (x.2 < k)).map (·.1) → s.l.length ≤ 100000 → ∃ ws c, ref03_Of K s = some ws ∧ blend_Mask (K, mo 2 r) ⟨true, 1, ws⟩ true = some (K, mo 2 c) ∧ ∃ u, blend_Over (K, mo 2 (r.filter fun x => decide (x.2 < k))) (K, mo 2 c) = some ((K, u), 0) ∧ ref09_Same (K, u) (K, mo 2 r) = some true := fun s hs hl hlen => by
    obtain ⟨K', rfl⟩ := Int.eq_ofNat_of_zero_le hk
    obtain ⟨ws, w1, w2, w3, w4⟩ := ref03_Of_eq (n := K') (by omega) s hs (by omega)
    have hm := blend_Mask_good q1 (w := ⟨true, 1, ws⟩) (.inr rfl) w3 true
    simp only [mo_l] at hm
    have gm := mask_good q1 ws true
    simp only [mo_l] at gm
    obtain ⟨v, o2, q2, a2, p2⟩ := over_good gw gm
    simp only [mo_l] at p2
    refine ⟨ws, _, w1, hm, mo 2 v, o2, ?_⟩
    have hv : v = r := asc_ext hk a2 a1 fun p => by
      have e := p2 p
      rw [getI_filterV a1 (fun x => decide (x < k))] at e
      unfold maskL at e
      rw [getI_filterP (fun q => hasB ws q.toNat != true)] at e
      have hb : hasB ws ((p : Int)).toNat = (decide (p < K') && decide ((p : Int) ∈ s.l)) := by rw [Int.toNat_natCast]; exact w4 p
      rw [hb, hl] at e
      cases hg : getI (p : Int) r with
      | none =>
        rw [hg] at e
        simp only [Bool.false_eq_true, if_false, ite_self] at e
        simpa [fO] using e.symm
      | some y =>
        have hin : (p : Int) < K' := by
          have := (asc_lt a1 _ (getI_some hg)).2
          simpa using this
        rw [hg] at e
        by_cases c : y < k
        · have hmem : (p : Int) ∈ (r.filter fun x => decide (x.2 < k)).map (·.1) := List.mem_map.2 ⟨(p, y), List.mem_filter.2 ⟨getI_some hg, by simpa using c⟩, rfl⟩
          rw [decide_eq_true (show p < K' by omega), decide_eq_true hmem] at e
          simp only [decide_eq_true c, if_true, Bool.and_self, bne_self_eq_false, Bool.false_eq_true, if_false] at e
          simpa [fO] using e.symm
        · have hmem : ¬ (p : Int) ∈ (r.filter fun x => decide (x.2 < k)).map (·.1) := fun hh => by
            obtain ⟨x, hx, hxp⟩ := List.mem_map.1 hh
            obtain ⟨x1, x2⟩ := List.mem_filter.1 hx
            have := getI_mem a1 x x1
            rw [hxp, hg] at this
            rw [← Option.some.inj this] at x2
            exact c (by simpa using x2)
          rw [decide_eq_false hmem, Bool.and_false] at e
          simp only [decide_eq_false c, Bool.false_eq_true, if_false] at e
          simp only [Bool.false_bne, if_true] at e
          simpa [fO] using e.symm
    subst hv
    exact same_list (ok_mo _) (ok_mo _) rfl rfl (by have := q2.len; simp only at this ⊢; omega)
  have hplen : ((r.filter fun x => decide (x.2 < k)).map (·.1)).length ≤ 100000 := by
    have h1 := q1.len
    simp only [mo_l] at h1
    rw [List.length_map]
    exact Nat.le_trans (List.length_filter_le _ _) (by omega)
  unfold top_TopLeast
  simp only [e1, e2, Option.bind_some, o1, hred, hwh, hpl]
  cases hP : (r.filter fun x => decide (x.2 < k)).map (·.1) with
  | nil =>
    obtain ⟨ws, c, f1, f2, u, f3, f4⟩ := fin ⟨false, 0, []⟩ ok_nil hP.symm (by simp)
    simp only [f1, f2, f3, l1, l2, hone, Option.bind_some]
    unfold wantL leastOr
    cases t1.l with
    | nil => cases t2.l <;> simp [f4]
    | cons x l =>
      cases t2.l with
      | nil => simp [f4]
      | cons y m =>
        simp only [if_true]
        split <;> simp [f4]
  | cons y0 tl =>
    obtain ⟨ws, c, f1, f2, u, f3, f4⟩ := fin ⟨true, 1, y0 :: tl⟩ (.inr rfl) hP.symm (by rw [← hP]; exact hplen)
    simp only [f1, f2, f3, l1, l2, hone, Option.bind_some]
    unfold wantL leastOr
    cases t1.l with
    | nil => cases t2.l <;> simp [f4]
    | cons x l =>
      cases t2.l with
      | nil => simp [f4]
      | cons y m =>
        simp only [if_true]
        split <;> simp [f4]
end Ev
end Go.Proofs.Ytlcfdmjkbaegpaa
