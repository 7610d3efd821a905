/- PullRaw: mathematics. Over the functions on data; no number of a type or function is named. -/
import Derived.Test.YtlcfdmjkbaegpaaDoorLf1
import Derived.Test.YtlcfdmjkbaegpaaDoorLf2
import Derived.Test.YtlcfdmjkbaegpaaDoorLf6
import Derived.Test.YtlcfdmjkbaegpaaDoorLf7
import Derived.Test.YtlcfdmjkbaegpaaDoorLw4
import Derived.Test.YtlcfdmjkbaegpaaDoorEvS5
namespace Go.Proofs.YtlcfdmjkbaegpaaDoor
namespace Ev
open Go
set_option linter.unusedVariables false
set_option linter.unusedSimpArgs false
abbrev It := Int × Int
def WIt (x : It) : Prop := inK .i64 x.1 ∧ inK .i64 x.2
def WV (v : Int × Sl It) : Prop := inK .i64 v.1 ∧ SlW 2 WIt v.2
def okS {α : Type} (w : Nat) (s : Sl α) : Prop := s.l = [] ∨ s.sz = w
theorem SlW.ok {α : Type} {w : Nat} {Q : α → Prop} {s : Sl α} (h : SlW w Q s) : okS w s := .inr h.1
def nilS {α : Type} : Sl α := ⟨false, 0, []⟩
theorem ok_nil {α : Type} {w : Nat} : okS w (nilS : Sl α) := .inl rfl
theorem ok_mo {α : Type} {w : Nat} (l : List α) : okS w (mo w l) := by cases l with | nil => exact .inl rfl | cons x l => exact .inr rfl
/-- Do places rise, and stand below n? -/
def asc : Int → Int → List It → Bool
  | _, _, [] => true
  | a, n, x :: l => decide (a < x.1) && decide (x.1 < n) && asc x.1 n l
def sizeB (n : Int) : Bool := decide (0 ≤ n) && decide (n ≤ 4096)
def rightB (v : Int × Sl It) : Bool := sizeB v.1 && asc (-1) v.1 v.2.l
def sureV (v : Int × Sl It) : Int × Sl It := if rightB v = true then v else (0, nilS)
theorem asc_lt {n : Int} : ∀ {a : Int} {l : List It}, asc a n l = true → ∀ x ∈ l, a < x.1 ∧ x.1 < n
  | a, y :: l, h, x, hx => by
    simp only [asc, Bool.and_eq_true, decide_eq_true_eq] at h
    rcases List.mem_cons.1 hx with rfl | hx
    · exact ⟨h.1.1, h.1.2⟩
    · have := asc_lt h.2 x hx; omega
theorem asc_len {n : Int} : ∀ {a : Int} {l : List It}, asc a n l = true → (l.length : Int) ≤ max (n - a - 1) 0
  | a, [], h => by simp; omega
  | a, y :: l, h => by
    simp only [asc, Bool.and_eq_true, decide_eq_true_eq] at h
    have := asc_len h.2
    simp only [List.length_cons]; omega
theorem right_len {v : Int × Sl It} (h : rightB v = true) : v.2.l.length ≤ 4096 := by
  simp only [rightB, sizeB, Bool.and_eq_true, decide_eq_true_eq] at h
  have := asc_len h.2; omega
/-- The reference's way to see whether places rise. -/
theorem asc_iff {n : Int} {l : List It} : ∀ {a : Int}, asc a n l = true ↔ ∀ j (h : j < l.length), (if h0 : j = 0 then a < l[j].1 else l[j - 1].1 < l[j].1) ∧ l[j].1 < n := by
  induction l with
  | nil => intro a; simp [asc]
  | cons x l ih =>
    intro a
    simp only [asc, Bool.and_eq_true, decide_eq_true_eq, ih]
    constructor
    · rintro ⟨⟨h1, h2⟩, h3⟩ j hj
      cases j with
      | zero => exact ⟨by simpa using h1, by simpa using h2⟩
      | succ j =>
        have := h3 j (by simpa using hj)
        refine ⟨?_, by simpa using this.2⟩
        rw [dif_neg (by omega)]
        cases j with
        | zero => simpa using this.1
        | succ j => have := this.1; rw [dif_neg (by omega)] at this; simpa using this
    · intro h
      have h0 := h 0 (by simp)
      refine ⟨⟨by simpa using h0.1, by simpa using h0.2⟩, fun j hj => ?_⟩
      have := h (j + 1) (by simpa using hj)
      rw [dif_neg (by omega)] at this
      refine ⟨?_, by simpa using this.2⟩
      cases j with
      | zero => simpa using this.1
      | succ j => rw [dif_neg (by omega)]; simpa using this.1
theorem asc_iff' {n : Int} {l : List It} : asc (-1) n l = true ↔ ∀ j (h : j < l.length), 0 ≤ l[j].1 ∧ l[j].1 < n ∧ (j ≠ 0 → l[j - 1].1 < l[j].1) := by
  constructor
  · intro h j hj
    have h1 := asc_lt h l[j] (List.getElem_mem hj)
    have h2 := (asc_iff.1 h j hj).1
    exact ⟨by omega, h1.2, fun h0 => by rw [dif_neg h0] at h2; exact h2⟩
  · intro h
    refine asc_iff.2 fun j hj => ⟨?_, (h j hj).2.1⟩
    split
    · have := (h j hj).1; omega
    · rename_i h0; exact (h j hj).2.2 h0
theorem ref09_Right_eq (v : Int × Sl It) (hok : okS 2 v.2) (hl : v.2.l.length ≤ 9223372036854775807) : ref09_Right v = some (rightB v) := by
  obtain ⟨n, s⟩ := v
  simp only at hl
  unfold ref09_Right rightB sizeB
  by_cases h1 : n < 0
  · simp only [if_pos h1, decide_eq_false (show ¬ 0 ≤ n by omega)]; rfl
  by_cases h2 : n > 4096
  · simp only [if_neg h1, if_pos h2, decide_eq_false (show ¬ n ≤ 4096 by omega)]; simp
  simp only [if_neg h1, if_neg h2, decide_eq_true (show 0 ≤ n by omega), decide_eq_true (show n ≤ 4096 by omega), Bool.true_and]
  have hF : ∀ j (hj : j < s.l.length), ¬ (0 ≤ s.l[j].1 ∧ s.l[j].1 < n ∧ (j ≠ 0 → s.l[j - 1].1 < s.l[j].1)) → asc (-1) n s.l = false := fun j hj hh => by
    rw [Bool.eq_false_iff]; intro hc; exact hh (asc_iff'.1 hc j hj)
  obtain ⟨r, h3, h4⟩ := loop_up (b := ref09_Right_b1 n s) s.l.length (fun j a => a = (j : Int) ∧ ∀ i (h : i < s.l.length), i < j → 0 ≤ s.l[i].1 ∧ s.l[i].1 < n ∧ (i ≠ 0 → s.l[i - 1].1 < s.l[i].1)) (fun r => (asc (-1) n s.l = true ∧ r = .inl ()) ∨ (asc (-1) n s.l = false ∧ r = .inr false))
    (by
      rintro j _ hj ⟨rfl, ha⟩
      simp only [ref09_Right_b1, at_get hok hj, Option.bind_some, w_succ hj (by omega)]
      rw [if_pos (by omega)]
      by_cases c1 : s.l[j].1 < 0
      · exact .inr ⟨_, if_pos c1, .inr ⟨hF j hj (by omega), rfl⟩⟩
      rw [if_neg c1]
      by_cases c2 : s.l[j].1 ≥ n
      · exact .inr ⟨_, if_pos c2, .inr ⟨hF j hj (by omega), rfl⟩⟩
      rw [if_neg c2]
      by_cases c3 : (j : Int) > 0
      · rw [if_pos c3]
        have e : IntKind.i64.wrap ((j : Int) - 1) = ((j - 1 : Nat) : Int) := by rw [wrap64 (by omega) (by omega)]; omega
        rw [e, at_get hok (show j - 1 < s.l.length by omega)]
        simp only [Option.bind_some]
        by_cases c4 : s.l[j].1 ≤ s.l[j - 1].1
        · exact .inr ⟨_, if_pos c4, .inr ⟨hF j hj (fun hh => by have := hh.2.2 (by omega); omega), rfl⟩⟩
        · refine .inl ⟨_, if_neg c4, rfl, fun i hi hij => ?_⟩
          by_cases hh : i = j
          · subst hh; exact ⟨by omega, by omega, fun _ => by omega⟩
          · exact ha i hi (by omega)
      · refine .inl ⟨_, if_neg c3, rfl, fun i hi hij => ?_⟩
        by_cases hh : i = j
        · subst hh; exact ⟨by omega, by omega, fun _ => by omega⟩
        · exact ha i hi (by omega))
    (by
      rintro _ ⟨rfl, ha⟩
      exact ⟨_, if_neg (by omega), .inl ⟨asc_iff'.2 fun j hj => ha j hj hj, rfl⟩⟩) 0 (Nat.zero_le _) 0 ⟨rfl, fun i _ h => absurd h (by omega)⟩
  rw [h3]
  rcases h4 with ⟨h5, rfl⟩ | ⟨h5, rfl⟩ <;> simp [h5]
theorem ref09_Sure_eq (v : Int × Sl It) (hok : okS 2 v.2) (hl : v.2.l.length ≤ 9223372036854775807) : ref09_Sure v = some (sureV v) := by
  obtain ⟨n, s⟩ := v
  unfold ref09_Sure sureV
  simp only [ref09_Right_eq (n, s) hok hl, Option.bind_some]
  split <;> rfl
def i64r (n : Int) : Prop := -9223372036854775808 ≤ n ∧ n ≤ 9223372036854775807
def u64r (n : Int) : Prop := 0 ≤ n ∧ n ≤ 18446744073709551615
theorem i64r_of {n : Int} (h : inK .i64 n) : i64r n := by simpa [inK, i64r, Lit.wf, IntKind.min, IntKind.max, IntKind.signed, IntKind.bits] using h
theorem WV.ok {v : Int × Sl It} (h : WV v) : okS 2 v.2 := h.2.ok
theorem WV.vals {v : Int × Sl It} (h : WV v) : ∀ x ∈ v.2.l, i64r x.2 := fun x hx => i64r_of (h.2.2.2.2 x hx).2
theorem wrap_u64 (n : Int) : IntKind.u64.wrap n = n % 18446744073709551616 := by
  simp [IntKind.wrap, IntKind.signed, IntKind.bits]
theorem u64_wrap (n : Int) : u64r (IntKind.u64.wrap n) := by rw [wrap_u64]; unfold u64r; omega
def ofW (n : Int) : Int × Int := (if n < 0 then -1 else 0, IntKind.u64.wrap n)
theorem wide_Of_eq {n : Int} (h : i64r n) : wide_Of n = some (ofW n) := by
  unfold wide_Of shr1 ofW shrI
  rw [if_pos (by omega)]
  have e : (2 : Int) ^ (min (63 : Int).toNat IntKind.i64.bits) = 9223372036854775808 := by decide
  rw [e]
  unfold i64r at h
  have : n.fdiv 9223372036854775808 = if n < 0 then -1 else 0 := by
    rw [Int.fdiv_eq_ediv_of_nonneg _ (by omega)]
    split <;> omega
  rw [this]; rfl
theorem ref01_Of_eq (n : Int) : ref01_Of n = some (ofW n) := by
  unfold ref01_Of ofW
  by_cases h : n < 0
  · simp only [if_pos h]
  · simp only [if_neg h]
/-- Which of two is less. -/
def lessW (a b : Int × Int) : Bool := decide (a.1 < b.1) || (decide (a.1 = b.1) && decide (a.2 < b.2))
theorem wide_Compare_lt (a b : Int × Int) : ∃ c, wide_Compare a b = some c ∧ (c < 0 ↔ lessW a b = true) := by
  obtain ⟨a1, a2⟩ := a; obtain ⟨b1, b2⟩ := b
  unfold wide_Compare lessW
  simp only
  by_cases h1 : a1 = b1 ∧ a2 = b2
  · rw [if_pos h1]; exact ⟨0, rfl, by simp; omega⟩
  rw [if_neg h1]
  by_cases h2 : a1 < b1
  · rw [if_pos h2]; exact ⟨-1, rfl, by simp [h2]⟩
  rw [if_neg h2]
  by_cases h3 : a1 = b1
  · rw [if_pos h3]
    by_cases h4 : a2 < b2
    · rw [if_pos h4]; exact ⟨-1, rfl, by simp [h3, h4]⟩
    · rw [if_neg h4]; exact ⟨1, rfl, by simp [h3]; omega⟩
  · rw [if_neg h3]; exact ⟨1, rfl, by simp [h3]; omega⟩
theorem ref01_Compare_lt (a b : Int × Int) : ∃ c, ref01_Compare a b = some c ∧ (c < 0 ↔ lessW a b = true) := by
  obtain ⟨a1, a2⟩ := a; obtain ⟨b1, b2⟩ := b
  unfold ref01_Compare lessW
  simp only
  by_cases h2 : a1 < b1
  · rw [if_pos h2]; exact ⟨-1, rfl, by simp [h2]⟩
  rw [if_neg h2]
  by_cases h3 : a1 = b1
  · rw [if_pos h3]
    by_cases h4 : a2 < b2
    · rw [if_pos h4]; exact ⟨-1, rfl, by simp [h3, h4]⟩
    · rw [if_neg h4]
      by_cases h5 : a1 = b1 ∧ a2 = b2
      · rw [if_pos h5]; exact ⟨0, rfl, by simp [h3]; omega⟩
      · rw [if_neg h5]; exact ⟨1, rfl, by simp [h3]; omega⟩
  · rw [if_neg h3]
    by_cases h5 : a1 = b1 ∧ a2 = b2
    · exact absurd h5.1 h3
    · rw [if_neg h5]; exact ⟨1, rfl, by simp [h3]; omega⟩
def lessrW (a b : Int × Int) : Int × Int := if lessW b a = true then b else a
def truthW (b : Bool) : Int × Int := if b = true then (0, 1) else (0, 0)
def addW (a b : Int × Int) : Int × Int := if IntKind.u64.wrap (a.2 + b.2) < a.2 then (IntKind.i64.wrap (IntKind.i64.wrap (a.1 + b.1) + 1), IntKind.u64.wrap (a.2 + b.2)) else (IntKind.i64.wrap (a.1 + b.1), IntKind.u64.wrap (a.2 + b.2))
/-- What two come to, by a ring. -/
def ringAdd (r : Int) (a b : Int × Int) : Int × Int :=
  if r = 1 ∨ r = 3 ∨ r = 4 then lessrW a b else if r = 2 then truthW (!(decide (a.1 = 0 ∧ a.2 = 0) && decide (b.1 = 0 ∧ b.2 = 0))) else if r = 5 then addW a b else (0, 0)
theorem ring_lesser_eq (a b : Int × Int) : ring_lesser a b = some (lessrW a b) := by
  obtain ⟨a1, a2⟩ := a; obtain ⟨b1, b2⟩ := b
  unfold ring_lesser lessrW
  obtain ⟨c, h1, h2⟩ := wide_Compare_lt (b1, b2) (a1, a2)
  simp only [h1, Option.bind_some]
  by_cases hc : c < 0
  · rw [if_pos hc, if_pos (h2.1 hc)]
  · rw [if_neg hc, if_neg (fun h => hc (h2.2 h))]
theorem ring_truth_eq (b : Bool) : ring_truth b = some (truthW b) := by
  unfold ring_truth truthW
  cases b
  · rfl
  · simp only [if_true, wide_Of_eq (show i64r 1 by unfold i64r; omega), Option.bind_some]; rfl
theorem wide_Add_eq (a b : Int × Int) : wide_Add a b = some (addW a b) := by
  obtain ⟨a1, a2⟩ := a; obtain ⟨b1, b2⟩ := b
  unfold wide_Add addW
  simp only
  split <;> rfl
theorem ref01_Add_eq (a b : Int × Int) : ref01_Add a b = some (addW a b) := by
  obtain ⟨a1, a2⟩ := a; obtain ⟨b1, b2⟩ := b
  unfold ref01_Add addW
  simp only
  split <;> rfl
theorem ring_Add_eq (r : Int) (a b : Int × Int) : ring_Add r a b = some (ringAdd r a b) := by
  obtain ⟨a1, a2⟩ := a; obtain ⟨b1, b2⟩ := b
  unfold ring_Add ringAdd
  simp only [ring_lesser_eq, ring_truth_eq, wide_Add_eq, Option.bind_some]
  by_cases h1 : r = 1
  · simp only [if_pos h1, if_pos (show r = 1 ∨ r = 3 ∨ r = 4 from .inl h1)]
  by_cases h3 : r = 3
  · simp only [if_neg h1, if_pos h3, if_pos (show r = 1 ∨ r = 3 ∨ r = 4 from .inr (.inl h3))]
  by_cases h4 : r = 4
  · simp only [if_neg h1, if_neg h3, if_pos h4, if_pos (show r = 1 ∨ r = 3 ∨ r = 4 from .inr (.inr h4))]
  simp only [if_neg h1, if_neg h3, if_neg h4, if_neg (show ¬ (r = 1 ∨ r = 3 ∨ r = 4) by omega)]
  by_cases h2 : r = 2
  · simp only [if_pos h2]
    by_cases ha : a1 = 0 ∧ a2 = 0
    · by_cases hb : b1 = 0 ∧ b2 = 0
      · simp [if_pos ha, if_pos hb, ha, hb]
      · rw [if_pos ha, if_neg hb, decide_eq_true ha, decide_eq_false hb]; rfl
    · rw [if_neg ha, decide_eq_false ha]; rfl
  · simp only [if_neg h2]
    by_cases h5 : r = 5
    · simp only [if_pos h5]
    · simp only [if_neg h5]
theorem ref02_truth_eq (b : Bool) : ref02_truth b = some (truthW b) := by unfold ref02_truth truthW; cases b <;> rfl
theorem ref02_Add_eq (r : Int) (a b : Int × Int) : ref02_Add r a b = some (ringAdd r a b) := by
  obtain ⟨a1, a2⟩ := a; obtain ⟨b1, b2⟩ := b
  have hl : ((ref01_Compare (b1, b2) (a1, a2)).bind fun n => if n < 0 then some (b1, b2) else some (a1, a2)) = some (lessrW (a1, a2) (b1, b2)) := by
    obtain ⟨c, h1, h2⟩ := ref01_Compare_lt (b1, b2) (a1, a2)
    simp only [h1, Option.bind_some]
    unfold lessrW
    by_cases hc : c < 0
    · rw [if_pos hc, if_pos (h2.1 hc)]
    · rw [if_neg hc, if_neg (fun h => hc (h2.2 h))]
  unfold ref02_Add ringAdd
  simp only [hl, ref02_truth_eq, ref01_Add_eq, Option.bind_some]
  by_cases h1 : r = 1
  · simp only [if_pos h1, if_pos (show r = 1 ∨ r = 3 ∨ r = 4 from .inl h1)]
  by_cases h3 : r = 3
  · simp only [if_neg h1, if_pos h3, if_pos (show r = 1 ∨ r = 3 ∨ r = 4 from .inr (.inl h3))]
  by_cases h4 : r = 4
  · simp only [if_neg h1, if_neg h3, if_pos h4, if_pos (show r = 1 ∨ r = 3 ∨ r = 4 from .inr (.inr h4))]
  simp only [if_neg h1, if_neg h3, if_neg h4, if_neg (show ¬ (r = 1 ∨ r = 3 ∨ r = 4) by omega)]
  by_cases h2 : r = 2
  · simp only [if_pos h2]
    by_cases ha : a1 = 0 ∧ a2 = 0
    · by_cases hb : b1 = 0 ∧ b2 = 0
      · simp [if_pos ha, if_pos hb, ha, hb]
      · rw [if_pos ha, if_neg hb, decide_eq_true ha, decide_eq_false hb]; rfl
    · rw [if_neg ha, decide_eq_false ha]; rfl
  · simp only [if_neg h2]
    by_cases h5 : r = 5
    · simp only [if_pos h5]
    · simp only [if_neg h5]
theorem ring_Is_eq (r : Int) : ring_Is r = some (decide (1 ≤ r) && decide (r ≤ 5)) := by
  unfold ring_Is
  by_cases h1 : r ≥ 1
  · rw [if_pos h1, decide_eq_true (show 1 ≤ r from h1)]
    by_cases h2 : r ≤ 5
    · rw [if_pos h2, decide_eq_true h2]; rfl
    · rw [if_neg h2, decide_eq_false h2]; rfl
  · rw [if_neg h1, decide_eq_false (show ¬ 1 ≤ r from h1)]; rfl
theorem ref02_Is_eq (r : Int) : ref02_Is r = some (decide (1 ≤ r) && decide (r ≤ 5)) := ring_Is_eq r
def okR (r : Int) : Bool := decide (1 ≤ r) && decide (r ≤ 5)
/-- What stands at a place. -/
def getI (p : Int) : List It → Option Int
  | [] => none
  | x :: l => if x.1 = p then some x.2 else getI p l
def encO : Option Int → Int × Bool
  | some x => (x, true)
  | none => (0, false)
theorem sure_id {v : Int × Sl It} (h : rightB v = true) : sureV v = v := by unfold sureV; rw [if_pos h]
theorem ref09_Get_eq (n : Int) (s : Sl It) (p : Int) (hok : okS 2 s) (h : rightB (n, s) = true) : ref09_Get (n, s) p = some (encO (getI p s.l)) := by
  have hlen : s.l.length ≤ 4096 := right_len h
  unfold ref09_Get
  simp only [ref09_Sure_eq (n, s) hok (show s.l.length ≤ _ by omega), sure_id h, Option.bind_some]
  obtain ⟨q, h1, h2⟩ := loop_up (b := ref09_Get_b1 p s) s.l.length (fun j a => a = (j : Int) ∧ getI p s.l = getI p (s.l.drop j)) (fun q => (getI p s.l = none ∧ q = .inl ()) ∨ ∃ v, getI p s.l = some v ∧ q = .inr (v, true))
    (by
      rintro j _ hj ⟨rfl, ha⟩
      rw [List.drop_eq_getElem_cons hj] at ha
      simp only [ref09_Get_b1, at_get hok hj, Option.bind_some, w_succ hj (by omega)]
      rw [if_pos (by omega)]
      simp only [getI] at ha
      by_cases c : s.l[j].1 = p
      · rw [if_pos c] at ha
        exact .inr ⟨_, if_pos c, .inr ⟨_, ha, rfl⟩⟩
      · rw [if_neg c] at ha
        exact .inl ⟨_, if_neg c, rfl, ha⟩)
    (by
      rintro _ ⟨rfl, ha⟩
      exact ⟨_, if_neg (by omega), .inl ⟨by rw [ha]; simp [getI], rfl⟩⟩) 0 (Nat.zero_le _) 0 ⟨rfl, rfl⟩
  rw [h1]
  rcases h2 with ⟨h3, rfl⟩ | ⟨v, h3, rfl⟩ <;> rw [h3] <;> rfl

/-- Wide numbers, one after another: the order of addition is free. -/
theorem lessW_iff (a b : Int × Int) : lessW a b = true ↔ a.1 < b.1 ∨ a.1 = b.1 ∧ a.2 < b.2 := by unfold lessW; simp
theorem addW_eq {a b : Int × Int} (ha : u64r a.2) (hb : u64r b.2) : addW a b = ((a.1 + b.1 + (a.2 + b.2) / 18446744073709551616 + 9223372036854775808) % 18446744073709551616 - 9223372036854775808, (a.2 + b.2) % 18446744073709551616) := by
  unfold u64r at ha hb
  unfold addW
  simp only [wrap_u64, IntKind.wrap_i64]
  split
  · refine Prod.ext ?_ rfl; simp only; omega
  · refine Prod.ext ?_ rfl; simp only; omega
/-- A whole number, in two halves. -/
def toW (z : Int) : Int × Int := ((z / 18446744073709551616 + 9223372036854775808) % 18446744073709551616 - 9223372036854775808, z % 18446744073709551616)
theorem toW_lo (z : Int) : u64r (toW z).2 := by unfold toW u64r; simp only; omega
theorem ofW_toW {n : Int} (h : i64r n) : ofW n = toW n := by
  unfold ofW toW i64r at *
  rw [wrap_u64]
  refine Prod.ext ?_ rfl
  simp only
  split <;> omega
theorem toW_add (a b : Int) : addW (toW a) (toW b) = toW (a + b) := by
  rw [addW_eq (toW_lo a) (toW_lo b)]
  unfold toW
  refine Prod.ext ?_ ?_ <;> simp only <;> omega
theorem toW_period (z k : Int) : toW (z + k * 340282366920938463463374607431768211456) = toW z := by
  unfold toW
  refine Prod.ext ?_ ?_ <;> simp only <;> omega
theorem ref01_Add_toW (a b : Int) : ref01_Add (toW a) (toW b) = some (toW (a + b)) := by rw [ref01_Add_eq, toW_add]
theorem wide_Add_toW (a b : Int) : wide_Add (toW a) (toW b) = some (toW (a + b)) := by rw [wide_Add_eq, toW_add]
theorem compl_u64 {n : Int} (h : u64r n) : complI .u64 n = 18446744073709551615 - n := by
  obtain ⟨h0, h1⟩ := h
  obtain ⟨m, rfl⟩ := Int.eq_ofNat_of_zero_le h0
  unfold complI xorI
  have e : (if IntKind.u64.signed = true then (-1 : Int) else IntKind.u64.max) = 18446744073709551615 := by decide
  rw [e]
  have hb : IntKind.u64.bits = 64 := rfl
  rw [hb]
  have hx : BitVec.ofInt 64 18446744073709551615 = BitVec.allOnes 64 := by decide
  rw [hx, BitVec.allOnes_xor, wrap_u64]
  have : (~~~ BitVec.ofInt 64 (m : Int)).toNat = 18446744073709551615 - m := by
    rw [BitVec.toNat_not]
    have : (BitVec.ofInt 64 (m : Int)).toNat = m := by
      rw [BitVec.toNat_ofInt]
      omega
    omega
  rw [this]
  omega
theorem compl_i64 {n : Int} (h : i64r n) : complI .i64 n = -1 - n := by
  obtain ⟨h0, h1⟩ := h
  unfold complI xorI
  have e : (if IntKind.i64.signed = true then (-1 : Int) else IntKind.i64.max) = -1 := by decide
  rw [e]
  have hb : IntKind.i64.bits = 64 := rfl
  rw [hb]
  have hx : BitVec.ofInt 64 (-1) = BitVec.allOnes 64 := by decide
  rw [hx, BitVec.allOnes_xor, IntKind.wrap_i64]
  have : ((~~~ BitVec.ofInt 64 n).toNat : Int) = (18446744073709551615 - n % 18446744073709551616) := by
    rw [BitVec.toNat_not]
    have : ((BitVec.ofInt 64 n).toNat : Int) = n % 18446744073709551616 := by
      rw [BitVec.toNat_ofInt]
      omega
    omega
  rw [this]
  omega
theorem toW_hi (z : Int) : i64r (toW z).1 := by unfold toW i64r; simp only; omega
theorem ref01_Minus_toW (a : Int) : ref01_Minus (toW a) = some (toW (-a)) := by
  unfold ref01_Minus
  have h1 := compl_i64 (toW_hi a)
  have h2 := compl_u64 (toW_lo a)
  have e : ((complI .i64 (toW a).1, complI .u64 (toW a).2) : Int × Int) = toW (-1 - a) := by
    rw [h1, h2]
    unfold toW
    refine Prod.ext ?_ ?_ <;> simp only <;> omega
  have e1 : ((0, 1) : Int × Int) = toW 1 := by decide
  simp only
  rw [e, e1, ref01_Add_toW]
  simp only [Option.bind_some]
  rw [show -1 - a + 1 = -a by omega]
theorem mul_loop {b : Int × Int × Int × Int × Int → Option ((Int × Int × Int × Int × Int) ⊕ ((Int × Int) ⊕ (Int × Int)))} (hb : b = ref01_Mul_b1 ∨ b = ref01_Mul_b2) : ∀ (n : Nat) (X O : Int), n ≤ 18446744073709551615 → loopO b ((n : Int), (toW X).1, (toW X).2, (toW O).1, (toW O).2) = some (.inl (toW (O + X * n))) := by
  intro n
  induction n using Nat.strongRecOn with
  | _ n ih =>
    intro X O hn
    have hb1 : ∀ a, b a = ref01_Mul_b1 a := by
      rcases hb with rfl | rfl
      · exact fun _ => rfl
      · exact fun _ => rfl
    by_cases h0 : n = 0
    · subst h0
      refine loopO_done ?_
      rw [hb1]
      unfold ref01_Mul_b1
      simp
    · have hm : modO (n : Int) 2 = some ((n % 2 : Nat) : Int) := by
        unfold modO
        rw [if_pos (by decide), Int.tmod_eq_emod_of_nonneg (by omega)]; rfl
      have hd : divO .u64 (n : Int) 2 = some ((n / 2 : Nat) : Int) := by
        unfold divO
        rw [if_pos (by decide), Int.tdiv_eq_ediv_of_nonneg (by omega), wrap_u64]
        congr 1
        omega
      have hxx := ref01_Add_toW X X
      have hox := ref01_Add_toW O X
      by_cases hp : n % 2 = 1
      · have hs : b ((n : Int), (toW X).1, (toW X).2, (toW O).1, (toW O).2) = some (.inl (((n / 2 : Nat) : Int), (toW (X + X)).1, (toW (X + X)).2, (toW (O + X)).1, (toW (O + X)).2)) := by
          rw [hb1]
          unfold ref01_Mul_b1
          simp only
          rw [if_pos (by omega), hm]
          simp only [Option.bind_some]
          rw [if_pos (by omega), hox]
          simp only [Option.bind_some]
          rw [hxx]
          simp only [Option.bind_some]
          rw [hd]; rfl
        rw [loopO_step hs, ih (n / 2) (by omega) _ _ (by omega)]
        congr 3
        have : (n : Int) = 2 * ((n / 2 : Nat) : Int) + 1 := by omega
        rw [this, Int.mul_add, Int.add_mul, Int.two_mul, Int.mul_add]
        omega
      · have hs : b ((n : Int), (toW X).1, (toW X).2, (toW O).1, (toW O).2) = some (.inl (((n / 2 : Nat) : Int), (toW (X + X)).1, (toW (X + X)).2, (toW O).1, (toW O).2)) := by
          rw [hb1]
          unfold ref01_Mul_b1
          simp only
          rw [if_pos (by omega), hm]
          simp only [Option.bind_some]
          rw [if_neg (by omega), hxx]
          simp only [Option.bind_some]
          rw [hd]; rfl
        rw [loopO_step hs, ih (n / 2) (by omega) _ _ (by omega)]
        congr 3
        have : (n : Int) = 2 * ((n / 2 : Nat) : Int) := by omega
        rw [this, Int.add_mul, Int.two_mul, Int.mul_add]
theorem ref01_Mul_eq {x y : Int} (hx : i64r x) (hy : i64r y) : ref01_Mul x y = some (toW (x * y)) := by
  unfold ref01_Mul
  rw [ref01_Of_eq, ofW_toW hx]
  simp only [Option.bind_some]
  obtain ⟨y0, y1⟩ := hy
  have hz : ((0 : Int), (0 : Int)) = toW 0 := by decide
  have hz1 : (toW 0).1 = 0 := by decide
  have hz2 : (toW 0).2 = 0 := by decide
  by_cases hn : y < 0
  · rw [if_pos hn]
    have e : IntKind.u64.wrap (0 - IntKind.u64.wrap y) = (((-y).toNat : Nat) : Int) := by rw [wrap_u64, wrap_u64]; omega
    have := mul_loop (.inl rfl) (-y).toNat x 0 (by omega)
    rw [hz1, hz2] at this
    rw [e, this]
    simp only [Option.bind_some, Sum.elim_inl]
    rw [show ((toW (0 + x * (((-y).toNat : Nat) : Int))).1, (toW (0 + x * (((-y).toNat : Nat) : Int))).2) = toW (0 + x * (((-y).toNat : Nat) : Int)) from rfl, ref01_Minus_toW]
    simp only [Option.bind_some]
    have : (((-y).toNat : Nat) : Int) = -y := by omega
    rw [this, Int.mul_neg, show -(0 + -(x * y)) = x * y by omega]
  · rw [if_neg hn]
    have e : IntKind.u64.wrap y = ((y.toNat : Nat) : Int) := by rw [wrap_u64]; omega
    have := mul_loop (.inr rfl) y.toNat x 0 (by omega)
    rw [hz1, hz2] at this
    rw [e, this]
    simp only [Option.bind_some, Sum.elim_inl]
    congr 1
    have : ((y.toNat : Nat) : Int) = y := by omega
    rw [this, Int.zero_add]
theorem and_low {n : Int} (h : u64r n) : andI .u64 n 4294967295 = n % 4294967296 := by
  obtain ⟨h0, h1⟩ := h
  obtain ⟨m, rfl⟩ := Int.eq_ofNat_of_zero_le h0
  unfold andI
  have hb : IntKind.u64.bits = 64 := rfl
  rw [hb, wrap_u64]
  have e1 : (BitVec.ofInt 64 (m : Int)).toNat = m := by rw [BitVec.toNat_ofInt]; omega
  have e2 : (BitVec.ofInt 64 4294967295).toNat = 2 ^ 32 - 1 := by decide
  rw [BitVec.toNat_and, e1, e2, Nat.and_two_pow_sub_one_eq_mod]
  omega
theorem shr_32 {n : Int} (h : u64r n) : shr1 .u64 n 32 = some (n / 4294967296) := by
  unfold shr1 shrI
  rw [if_pos (by decide)]
  have e : (2 : Int) ^ (min (32 : Int).toNat IntKind.u64.bits) = 4294967296 := by decide
  rw [e, Int.fdiv_eq_ediv_of_nonneg _ (by decide)]
theorem prod_le {a b : Int} (ha : 0 ≤ a) (ha' : a ≤ 4294967295) (hb : 0 ≤ b) (hb' : b ≤ 4294967295) : 0 ≤ a * b ∧ a * b ≤ 18446744065119617025 :=
  ⟨Int.mul_nonneg ha hb, by have := Int.mul_le_mul ha' hb' hb (by decide); omega⟩
theorem wide_products_eq {a b : Int} (ha : u64r a) (hb : u64r b) : wide_products a b = some ((a % 4294967296) * (b % 4294967296), (a % 4294967296) * (b / 4294967296), (a / 4294967296) * (b % 4294967296), (a / 4294967296) * (b / 4294967296)) := by
  unfold wide_products
  rw [shr_32 ha, shr_32 hb]
  simp only [Option.bind_some, and_low ha, and_low hb]
  unfold u64r at ha hb
  have w : ∀ {x y : Int}, 0 ≤ x → x ≤ 4294967295 → 0 ≤ y → y ≤ 4294967295 → IntKind.u64.wrap (x * y) = x * y := fun h1 h2 h3 h4 => by
    have := prod_le h1 h2 h3 h4
    rw [wrap_u64]; exact Int.emod_eq_of_lt this.1 (by omega)
  rw [w (by omega) (by omega) (by omega) (by omega), w (by omega) (by omega) (by omega) (by omega), w (by omega) (by omega) (by omega) (by omega), w (by omega) (by omega) (by omega) (by omega)]
theorem wide_Left_32 {n : Int} (h : u64r n) : wide_Left (0, n) 32 = some (toW (n * 4294967296)) := by
  unfold wide_Left
  simp only
  rw [if_neg (by decide), if_neg (by decide), if_neg (by decide)]
  have e1 : IntKind.u64.wrap 0 = 0 := by decide
  have e2 : IntKind.u64.wrap 32 = 32 := by decide
  have e3 : IntKind.u64.wrap (IntKind.i64.wrap (64 - 32)) = 32 := by decide
  rw [e1, e2, e3, shr_32 h]
  unfold shl1 shlI
  have e : (2 : Int) ^ (min (32 : Int).toNat IntKind.u64.bits) = 4294967296 := by decide
  simp only [e, Option.bind_some, if_pos (show (0 : Int) ≤ 32 by decide), Int.zero_mul, e1]
  have hor : orI .u64 0 (n / 4294967296) = n / 4294967296 := by
    unfold u64r at h
    obtain ⟨m, hm⟩ := Int.eq_ofNat_of_zero_le (show 0 ≤ n / 4294967296 by omega)
    rw [hm]
    unfold orI
    have hb : IntKind.u64.bits = 64 := rfl
    have e0 : BitVec.ofInt 64 0 = 0#64 := by decide
    rw [hb, wrap_u64, e0, BitVec.zero_or, BitVec.toNat_ofInt]
    omega
  rw [hor, IntKind.wrap_i64, wrap_u64]
  unfold toW
  unfold u64r at h
  congr 1
  refine Prod.ext ?_ ?_ <;> simp only <;> omega
theorem wide_Mul_eq {x y : Int} (hx : i64r x) (hy : i64r y) : wide_Mul x y = some (toW (x * y)) := by
  unfold wide_Mul
  have hux := u64_wrap x
  have huy := u64_wrap y
  have gx : IntKind.u64.wrap x = x + (if x < 0 then 18446744073709551616 else 0) := by rw [wrap_u64]; unfold i64r at hx; split <;> omega
  have gy : IntKind.u64.wrap y = y + (if y < 0 then 18446744073709551616 else 0) := by rw [wrap_u64]; unfold i64r at hy; split <;> omega
  generalize hX : IntKind.u64.wrap x = X at hux gx
  generalize hY : IntKind.u64.wrap y = Y at huy gy
  rw [wide_products_eq hux huy]
  simp only [Option.bind_some]
  unfold u64r at hux huy
  generalize ha : X % 4294967296 = a
  generalize hA : X / 4294967296 = A
  generalize hb : Y % 4294967296 = b
  generalize hB : Y / 4294967296 = B
  have hXe : X = A * 4294967296 + a := by omega
  have hYe : Y = B * 4294967296 + b := by omega
  have p0 := prod_le (a := a) (b := b) (by omega) (by omega) (by omega) (by omega)
  have p1 := prod_le (a := a) (b := B) (by omega) (by omega) (by omega) (by omega)
  have p2 := prod_le (a := A) (b := b) (by omega) (by omega) (by omega) (by omega)
  have p3 := prod_le (a := A) (b := B) (by omega) (by omega) (by omega) (by omega)
  have hXY : X * Y = (A * B) * 18446744073709551616 + (a * B + A * b) * 4294967296 + a * b := by
    rw [hXe, hYe, Int.add_mul, Int.mul_add, Int.mul_add]
    have q1 : A * 4294967296 * (B * 4294967296) = A * B * 18446744073709551616 := by
      rw [Int.mul_assoc, Int.mul_left_comm 4294967296 B, ← Int.mul_assoc]; rfl
    have q2 : A * 4294967296 * b = A * b * 4294967296 := by rw [Int.mul_assoc, Int.mul_comm 4294967296 b, ← Int.mul_assoc]
    have q3 : a * (B * 4294967296) = a * B * 4294967296 := by rw [Int.mul_assoc]
    rw [q1, q2, q3]
    omega
  generalize hab : a * b = ab at *
  generalize haB : a * B = aB at *
  generalize hAb : A * b = Ab at *
  generalize hAB : A * B = AB at *
  rw [wide_Left_32 (n := aB) ⟨by omega, by omega⟩]
  simp only [Option.bind_some]
  have e0 : ((IntKind.i64.wrap AB, ab) : Int × Int) = toW (AB * 18446744073709551616 + ab) := by
    rw [IntKind.wrap_i64]; unfold toW
    refine Prod.ext ?_ ?_ <;> simp only <;> omega
  rw [e0, show ((toW (aB * 4294967296)).1, (toW (aB * 4294967296)).2) = toW (aB * 4294967296) from rfl, wide_Add_toW]
  simp only [Option.bind_some]
  rw [wide_Left_32 (n := Ab) ⟨by omega, by omega⟩]
  simp only [Option.bind_some]
  rw [show ∀ z, ((toW z).1, (toW z).2) = toW z from fun _ => rfl, show ∀ z, ((toW z).1, (toW z).2) = toW z from fun _ => rfl, wide_Add_toW]
  simp only [Option.bind_some]
  have e1 : AB * 18446744073709551616 + ab + aB * 4294967296 + Ab * 4294967296 = X * Y := by omega
  rw [e1]
  have hsub : ∀ z w : Int, (IntKind.i64.wrap ((toW z).1 - w), (toW z).2) = toW (z - w * 18446744073709551616) := fun z w => by
    rw [IntKind.wrap_i64]; unfold toW
    refine Prod.ext ?_ ?_ <;> simp only <;> omega
  have hsub2 : ∀ z w v : Int, (IntKind.i64.wrap (IntKind.i64.wrap ((toW z).1 - w) - v), (toW z).2) = toW (z - w * 18446744073709551616 - v * 18446744073709551616) := fun z w v => by
    rw [IntKind.wrap_i64, IntKind.wrap_i64]; unfold toW
    refine Prod.ext ?_ ?_ <;> simp only <;> omega
  by_cases hx0 : x < 0
  · rw [if_pos hx0]
    rw [if_pos hx0] at gx
    by_cases hy0 : y < 0
    · rw [if_pos hy0, hsub2]
      rw [if_pos hy0] at gy
      have : X * Y - y * 18446744073709551616 - x * 18446744073709551616 = x * y + 1 * 340282366920938463463374607431768211456 := by
        rw [gx, gy, Int.add_mul, Int.mul_add, Int.mul_add]
        rw [Int.mul_comm x 18446744073709551616]
        omega
      rw [this, toW_period]
    · rw [if_neg hy0, hsub]
      rw [if_neg hy0] at gy
      have : X * Y - y * 18446744073709551616 = x * y := by
        rw [gx, gy, Int.add_zero, Int.add_mul, Int.mul_comm 18446744073709551616 y]; omega
      rw [this]
  · rw [if_neg hx0]
    rw [if_neg hx0] at gx
    by_cases hy0 : y < 0
    · rw [if_pos hy0, hsub]
      rw [if_pos hy0] at gy
      have : X * Y - x * 18446744073709551616 = x * y := by
        rw [gx, gy, Int.add_zero, Int.mul_add]; omega
      rw [this]
    · rw [if_neg hy0]
      rw [if_neg hy0] at gy
      rw [gx, gy, Int.add_zero, Int.add_zero]
/-- A ring's product. -/
def infI : Int := 4611686018427387904
def ringMul (r x y : Int) : Int × Int :=
  if r = 1 then (if infI ≤ x ∨ infI ≤ y then ofW infI else lessrW (toW (x + y)) (ofW infI))
  else if r = 2 then truthW (!decide (x = 0) && !decide (y = 0))
  else if r = 4 then (if infI ≤ x ∨ infI ≤ y then ofW infI else ofW y)
  else if r = 3 then (if infI ≤ x ∨ infI ≤ y then ofW infI else ofW x)
  else if r = 5 then toW (x * y) else (0, 0)
theorem inf_r : i64r infI := by unfold i64r infI; omega
theorem ring_Mul_eq (r : Int) {x y : Int} (hx : i64r x) (hy : i64r y) : ring_Mul r x y = some (ringMul r x y) := by
  have hi := inf_r
  unfold ring_Mul ringMul
  have hI : (4611686018427387904 : Int) = infI := rfl
  rw [hI]
  by_cases h1 : r = 1
  · rw [if_pos h1, if_pos h1]
    by_cases c1 : x ≥ infI
    · rw [if_pos c1, if_pos (.inl c1), wide_Of_eq hi]; rfl
    · rw [if_neg c1]
      by_cases c2 : y ≥ infI
      · rw [if_pos c2, if_pos (.inr c2), wide_Of_eq hi]; rfl
      · rw [if_neg c2, if_neg (by omega), wide_Of_eq hx, wide_Of_eq hy]
        simp only [Option.bind_some]
        rw [show ∀ z, ((ofW z).1, (ofW z).2) = ofW z from fun _ => rfl, show ∀ z, ((ofW z).1, (ofW z).2) = ofW z from fun _ => rfl, ofW_toW hx, ofW_toW hy, wide_Add_toW]
        simp only [Option.bind_some]
        rw [wide_Of_eq hi]
        simp only [Option.bind_some]
        rw [show ∀ z, ((ofW z).1, (ofW z).2) = ofW z from fun _ => rfl, show ∀ z, ((toW z).1, (toW z).2) = toW z from fun _ => rfl, ring_lesser_eq]; rfl
  · rw [if_neg h1, if_neg h1]
    by_cases h2 : r = 2
    · rw [if_pos h2, if_pos h2]
      by_cases c1 : x = 0
      · rw [if_neg (by simpa using c1), ring_truth_eq]; simp [c1]
      · rw [if_pos c1]
        by_cases c2 : y = 0
        · rw [if_neg (by simpa using c2), ring_truth_eq]; simp [c2]
        · rw [if_pos c2, ring_truth_eq]; simp [c1, c2]
    · rw [if_neg h2, if_neg h2]
      by_cases h4 : r = 4
      · rw [if_pos h4, if_pos h4]
        by_cases c2 : y ≥ infI
        · rw [if_pos c2, if_pos (.inr c2), wide_Of_eq hi]; rfl
        · rw [if_neg c2]
          by_cases c1 : x ≥ infI
          · rw [if_pos c1, if_pos (.inl c1), wide_Of_eq hi]; rfl
          · rw [if_neg c1, if_neg (by omega), wide_Of_eq hy]; rfl
      · rw [if_neg h4, if_neg h4]
        by_cases h3 : r = 3
        · rw [if_pos h3, if_pos h3]
          by_cases c1 : x ≥ infI
          · rw [if_pos c1, if_pos (.inl c1), wide_Of_eq hi]; rfl
          · rw [if_neg c1]
            by_cases c2 : y ≥ infI
            · rw [if_pos c2, if_pos (.inr c2), wide_Of_eq hi]; rfl
            · rw [if_neg c2, if_neg (by omega), wide_Of_eq hx]; rfl
        · rw [if_neg h3, if_neg h3]
          by_cases h5 : r = 5
          · rw [if_pos h5, if_pos h5, wide_Mul_eq hx hy]; rfl
          · rw [if_neg h5, if_neg h5]
theorem cmp_gt (a b : Int × Int) : ∃ c, ref01_Compare a b = some c ∧ (c > 0 ↔ lessW a b = false ∧ a ≠ b) := by
  obtain ⟨a1, a2⟩ := a; obtain ⟨b1, b2⟩ := b
  unfold ref01_Compare lessW
  simp only
  by_cases h1 : a1 < b1
  · exact ⟨-1, by simp [h1], by simp [h1]⟩
  · by_cases h2 : a1 = b1
    · by_cases h3 : a2 < b2
      · exact ⟨-1, by simp [h1, h2, h3], by simp [h2, h3]⟩
      · by_cases h4 : a2 = b2
        · exact ⟨0, by simp [h1, h2, h3, h4], by simp [h2, h4]⟩
        · refine ⟨1, by simp [h1, h2, h3, h4], ?_⟩
          simp [h2, h3, h4]
    · refine ⟨1, by simp [h1, h2], ?_⟩
      simp [h1, h2]
theorem ref02_Mul_eq (r : Int) {x y : Int} (hx : i64r x) (hy : i64r y) : ref02_Mul r x y = some (ringMul r x y) := by
  have hi := inf_r
  unfold ref02_Mul
  have hI : (4611686018427387904 : Int) = infI := rfl
  rw [hI]
  have hof : ∀ z, ref01_Of z = some (ofW z) := ref01_Of_eq
  have hadd : ref01_Add (ofW x) (ofW y) = some (toW (x + y)) := by rw [ofW_toW hx, ofW_toW hy, ref01_Add_toW]
  have hmul := ref01_Mul_eq hx hy
  have ht : ∀ b, ref02_truth b = some (truthW b) := ref02_truth_eq
  have eta : ∀ p : Int × Int, (p.1, p.2) = p := fun _ => rfl
  have chain : ∀ (F1 F3 F4 : Option (Int × Int)), (r = 1 → F1 = some (ringMul r x y)) → (r = 3 → F3 = some (ringMul r x y)) → (r = 4 → F4 = some (ringMul r x y)) →
      (if r = 1 then F1 else if r = 3 then F3 else if r = 4 then F4 else if r = 2 then (if x ≠ 0 then (if y ≠ 0 then ((ref02_truth true).bind fun (a, b) => some (a, b)) else ((ref02_truth false).bind fun (a, b) => some (a, b))) else ((ref02_truth false).bind fun (a, b) => some (a, b))) else if r = 5 then ((ref01_Mul x y).bind fun (a, b) => some (a, b)) else some (0, 0)) = some (ringMul r x y) := by
    intro F1 F3 F4 g1 g3 g4
    by_cases h1 : r = 1
    · rw [if_pos h1]; exact g1 h1
    · rw [if_neg h1]
      by_cases h3 : r = 3
      · rw [if_pos h3]; exact g3 h3
      · rw [if_neg h3]
        by_cases h4 : r = 4
        · rw [if_pos h4]; exact g4 h4
        · rw [if_neg h4]
          unfold ringMul
          rw [if_neg h1]
          by_cases h2 : r = 2
          · rw [if_pos h2, if_pos h2]
            by_cases z1 : x = 0
            · rw [if_neg (by simpa using z1), ht]; simp [z1]
            · rw [if_pos z1]
              by_cases z2 : y = 0
              · rw [if_neg (by simpa using z2), ht]; simp [z2]
              · rw [if_pos z2, ht]; simp [z1, z2]
          · rw [if_neg h2, if_neg h2, if_neg h4, if_neg h3]
            by_cases h5 : r = 5
            · rw [if_pos h5, if_pos h5, hmul]; rfl
            · rw [if_neg h5, if_neg h5]
  have far : infI ≤ x ∨ infI ≤ y → (r = 1 → some (ofW infI) = some (ringMul r x y)) ∧ (r = 3 → some (ofW infI) = some (ringMul r x y)) ∧ (r = 4 → some (ofW infI) = some (ringMul r x y)) := fun hf => by
    refine ⟨fun h => ?_, fun h => ?_, fun h => ?_⟩ <;> subst h <;> unfold ringMul <;> simp [hf]
  by_cases c1 : x ≥ infI
  · rw [if_pos c1]
    obtain ⟨f1, f3, f4⟩ := far (.inl c1)
    refine chain _ _ _ (fun h => ?_) (fun h => ?_) fun h => ?_
    · rw [hof, hof]; simp only [Option.bind_some, eta, hadd, hof]; exact f1 h
    · rw [hof]; exact f3 h
    · rw [hof]; exact f4 h
  · rw [if_neg c1]
    by_cases c2 : y ≥ infI
    · rw [if_pos c2]
      obtain ⟨f1, f3, f4⟩ := far (.inr c2)
      refine chain _ _ _ (fun h => ?_) (fun h => ?_) fun h => ?_
      · rw [hof, hof]; simp only [Option.bind_some, eta, hadd, hof]; exact f1 h
      · rw [hof]; exact f3 h
      · rw [hof]; exact f4 h
    · rw [if_neg c2]
      have nf : ¬ (infI ≤ x ∨ infI ≤ y) := by omega
      refine chain _ _ _ (fun h => ?_) (fun h => ?_) fun h => ?_
      · rw [hof, hof]
        simp only [Option.bind_some, eta, hadd, hof]
        obtain ⟨c, h6, h7⟩ := cmp_gt (toW (x + y)) (ofW infI)
        rw [h6]
        simp only [Option.bind_some]
        unfold ringMul lessrW
        rw [if_pos h, if_neg nf]
        by_cases hc : c > 0
        · rw [if_pos hc]
          have h8 := h7.1 hc
          have h9 : lessW (ofW infI) (toW (x + y)) = true := by
            have a1 := h8.1; have a2 := h8.2
            rw [lessW_iff]
            have : ¬ (lessW (toW (x + y)) (ofW infI) = true) := by rw [a1]; simp
            rw [lessW_iff] at this
            by_cases e1 : (toW (x + y)).1 = (ofW infI).1
            · by_cases e2 : (toW (x + y)).2 = (ofW infI).2
              · exact absurd (Prod.ext e1 e2) a2
              · omega
            · omega
          rw [if_pos h9]
        · rw [if_neg hc]
          have h9 : ¬ lessW (ofW infI) (toW (x + y)) = true := fun h9 => by
            apply hc
            rw [h7]
            rw [lessW_iff] at h9
            refine ⟨?_, fun e => ?_⟩
            · rw [Bool.eq_false_iff]; intro hh; rw [lessW_iff] at hh; omega
            · rw [e] at h9; omega
          rw [if_neg h9]
      · rw [hof]; unfold ringMul; subst h; simp [nf]
      · rw [hof]; unfold ringMul; subst h; simp [nf]
theorem FL_eq3 : FL = some true := rfl
/-- The first place at which one of two lists has something, what they have there, and the rests. -/
def hd : List It → List It → Int × Option Int × Option Int × List It × List It
  | [], [] => (0, none, none, [], [])
  | x :: l, [] => (x.1, some x.2, none, l, [])
  | [], y :: m => (y.1, none, some y.2, [], m)
  | x :: l, y :: m => if x.1 ≤ y.1 then (if y.1 ≤ x.1 then (y.1, some x.2, some y.2, l, m) else (x.1, some x.2, none, l, y :: m)) else (y.1, none, some y.2, x :: l, m)
theorem div64n {j : Nat} (hj : j < 1000000) : divO .i64 (j : Int) 64 = some ((j / 64 : Nat) : Int) := by
  unfold divO
  rw [if_pos (by decide), Int.tdiv_eq_ediv_of_nonneg (by omega), wrap64 (by omega) (by omega)]; rfl
theorem mod64n {j : Nat} : modO (j : Int) 64 = some ((j % 64 : Nat) : Int) := by
  unfold modO
  rw [if_pos (by decide), Int.tmod_eq_emod_of_nonneg (by omega)]; rfl
theorem and_nat {a b : Nat} (ha : a < 18446744073709551616) (hb : b < 18446744073709551616) : andI .u64 (a : Int) (b : Int) = ((a &&& b : Nat) : Int) := by
  unfold andI
  have hb' : IntKind.u64.bits = 64 := rfl
  rw [hb', BitVec.toNat_and, BitVec.toNat_ofInt, BitVec.toNat_ofInt, wrap_u64]
  have e1 : ((a : Int) % ((2 ^ 64 : Nat) : Int)).toNat = a := by omega
  have e2 : ((b : Int) % ((2 ^ 64 : Nat) : Int)).toNat = b := by omega
  rw [e1, e2]
  have : a &&& b < 2 ^ 64 := Nat.and_lt_two_pow a (by omega)
  omega
def hasB (ws : List Int) (p : Nat) : Bool := match ws[p / 64]? with | some w => w.toNat.testBit (p % 64) | none => false
def u64s (ws : List Int) : Prop := ∀ w ∈ ws, u64r w
theorem and_pow (a k : Nat) : a &&& 2 ^ k ≠ 0 ↔ a.testBit k = true := by
  constructor
  · intro h
    cases hc : a.testBit k with
    | true => rfl
    | false =>
      refine absurd (Nat.eq_of_testBit_eq fun i => ?_) h
      rw [Nat.testBit_and, Nat.testBit_two_pow, Nat.zero_testBit]
      by_cases e : k = i
      · subst e; rw [hc]; rfl
      · rw [decide_eq_false e, Bool.and_false]
  · intro h e
    have : (a &&& 2 ^ k).testBit k = false := by rw [e]; exact Nat.zero_testBit _
    rw [Nat.testBit_and, Nat.testBit_two_pow, h] at this
    simp at this
theorem pow_lt {k : Nat} (hk : k < 64) : 2 ^ k < 18446744073709551616 := Nat.pow_lt_pow_right (by decide) hk
theorem flags_Has_eq (s : Sl Int) (p : Nat) (hok : okS 1 s) (hu : u64s s.l) (hp : p < 1000000) : flags_Has s (p : Int) = some (hasB s.l p) := by
  unfold flags_Has flags_within hasB
  simp only [div64n hp, Option.bind_some]
  rw [if_pos (by omega)]
  by_cases h : p / 64 < s.l.length
  · rw [if_pos (by omega)]
    simp only [Option.bind_some, if_true, at_get hok h]
    have hw := hu _ (List.getElem_mem h)
    have hg : s.l[p / 64]? = some s.l[p / 64] := List.getElem?_eq_getElem h
    rw [hg]
    obtain ⟨w, hw2⟩ := Int.eq_ofNat_of_zero_le hw.1
    rw [hw2] at hw ⊢
    have hk : p % 64 < 64 := Nat.mod_lt _ (by decide)
    have hpow := pow_lt hk
    have hb : flags_bit (p : Int) = some ((2 ^ (p % 64) : Nat) : Int) := by
      unfold flags_bit
      simp only [mod64n, Option.bind_some]
      have e : IntKind.u64.wrap ((p % 64 : Nat) : Int) = ((p % 64 : Nat) : Int) := by rw [wrap_u64]; omega
      rw [e]
      unfold shl1 shlI
      rw [if_pos (by omega)]
      have hmin : min (((p % 64 : Nat) : Int)).toNat IntKind.u64.bits = p % 64 := by
        have : IntKind.u64.bits = 64 := rfl
        omega
      rw [hmin, Int.one_mul, wrap_u64]
      simp only [Option.bind_some]
      congr 1
      have : (2 : Int) ^ (p % 64) = ((2 ^ (p % 64) : Nat) : Int) := by simp
      rw [this]
      clear this
      generalize 2 ^ (p % 64) = z at hpow ⊢
      omega
    rw [hb]
    simp only [Option.bind_some]
    rw [and_nat (by have := hw.2; omega) hpow]
    simp only [Int.toNat_natCast]
    have ht := and_pow w (p % 64)
    cases hc : w.testBit (p % 64) with
    | false => rw [hc] at ht; rw [if_neg (fun h => by have := ht.1 (fun e => h (by rw [e]; rfl)); simp at this)]
    | true => rw [hc] at ht; rw [if_pos (by have := ht.2 rfl; omega)]
  · rw [if_neg (by omega)]
    simp only [Option.bind_some, Bool.false_eq_true, if_false]
    rw [List.getElem?_eq_none (by omega)]
theorem ref03_Has_eq (s : Sl Int) (p : Nat) (hok : okS 1 s) (hu : u64s s.l) (hp : p < 1000000) : ref03_Has s (p : Int) = some (hasB s.l p) := by
  unfold ref03_Has hasB
  simp only [div64n hp, Option.bind_some]
  rw [if_pos (by omega)]
  by_cases h : p / 64 < s.l.length
  · rw [if_pos (by omega)]
    simp only [at_get hok h, mod64n, Option.bind_some]
    have hw := hu _ (List.getElem_mem h)
    have hg : s.l[p / 64]? = some s.l[p / 64] := List.getElem?_eq_getElem h
    rw [hg]
    obtain ⟨w, hw2⟩ := Int.eq_ofNat_of_zero_le hw.1
    rw [hw2] at hw ⊢
    have hk : p % 64 < 64 := Nat.mod_lt _ (by decide)
    have e : IntKind.u64.wrap ((p % 64 : Nat) : Int) = ((p % 64 : Nat) : Int) := by rw [wrap_u64]; omega
    rw [e]
    unfold shr1 shrI
    rw [if_pos (by omega)]
    have hmin : min (((p % 64 : Nat) : Int)).toNat IntKind.u64.bits = p % 64 := by
      have : IntKind.u64.bits = 64 := rfl
      omega
    rw [hmin]
    have h2 : Int.fdiv (w : Int) (2 ^ (p % 64)) = ((w / 2 ^ (p % 64) : Nat) : Int) := by
      have : (2 : Int) ^ (p % 64) = ((2 ^ (p % 64) : Nat) : Int) := by simp
      rw [this, Int.fdiv_eq_ediv_of_nonneg _ (Int.natCast_nonneg _)]; rfl
    rw [h2]
    simp only [Option.bind_some]
    have hle : w / 2 ^ (p % 64) ≤ w := Nat.div_le_self _ _
    have h1 : ((1 : Nat) : Int) = 1 := rfl
    rw [← h1, and_nat (by have := hw.2; omega) (by omega), Nat.and_one_is_mod]
    simp only [Int.toNat_natCast]
    rw [Nat.testBit_eq_decide_div_mod_eq]
    by_cases c : w / 2 ^ (p % 64) % 2 = 1
    · rw [if_pos (by omega), decide_eq_true c]
    · rw [if_neg (by omega), decide_eq_false c]
  · rw [if_neg (by omega)]
    rw [List.getElem?_eq_none (by omega)]
theorem u64s_of {s : Sl Int} (h : SlW 1 (fun x => inK .u64 x) s) : u64s s.l := fun x hx => by
  have := h.2.2.2 x hx
  simpa [inK, u64r, Lit.wf, IntKind.min, IntKind.max, IntKind.signed, IntKind.bits] using this
theorem bit_of_ne {x : Nat} (h : x ≠ 0) : ∃ i, x.testBit i = true := by
  by_cases hh : ∃ i, x.testBit i = true
  · exact hh
  · refine absurd (Nat.eq_of_testBit_eq (y := 0) fun i => ?_) h
    rw [Nat.zero_testBit]
    cases hb : x.testBit i with
    | false => rfl
    | true => exact absurd ⟨i, hb⟩ hh
theorem shr_nat {w k : Nat} (hw : w < 18446744073709551616) (hk : k < 64) : shr1 .u64 (w : Int) (IntKind.u64.wrap ((k : Nat) : Int)) = some ((w / 2 ^ k : Nat) : Int) := by
  have e : IntKind.u64.wrap ((k : Nat) : Int) = ((k : Nat) : Int) := by rw [wrap_u64]; omega
  rw [e]
  unfold shr1 shrI
  rw [if_pos (by omega)]
  have hmin : min (((k : Nat) : Int)).toNat IntKind.u64.bits = k := by
    have : IntKind.u64.bits = 64 := rfl
    omega
  rw [hmin]
  have : (2 : Int) ^ k = ((2 ^ k : Nat) : Int) := by simp
  rw [this, Int.fdiv_eq_ediv_of_nonneg _ (Int.natCast_nonneg _)]; rfl
theorem hasB_word {ws : List Int} {p i k : Nat} {w : Int} (hp : p / 64 = i) (hk : p % 64 = k) (hw : ws[i]? = some w) : hasB ws p = w.toNat.testBit k := by unfold hasB; rw [hp, hk, hw]
theorem hasB_out {ws : List Int} {p : Nat} (h : ws.length ≤ p / 64) : hasB ws p = false := by unfold hasB; rw [List.getElem?_eq_none h]
theorem bit_lt {w k : Nat} (hw : w < 18446744073709551616) (h : w.testBit k = true) : k < 64 := by
  by_cases hk : k < 64
  · exact hk
  · have : w < 2 ^ k := Nat.lt_of_lt_of_le (show w < 2 ^ 64 by omega) (Nat.pow_le_pow_right (by decide) (by omega))
    rw [Nat.testBit_lt_two_pow this] at h; simp at h
theorem TZ_eq {x : Nat} (h0 : x ≠ 0) (h : x < 18446744073709551616) : ∃ k : Nat, TZ (x : Int) = some (k : Int) ∧ k < 64 := by
  unfold TZ
  rw [if_pos (by omega)]
  exact ⟨_, rfl, by simpa using (Lib.lowest_bit 64 x h0 h).2⟩
theorem next_in {n6 j : Int} {w : Nat} (hw : w < 18446744073709551616) (h0 : 0 ≤ n6 ∧ n6 ≤ 100) (h1 : 0 ≤ j ∧ j ≤ 100) : (w = 0 → loopO (flags_Next_b2 n6 j w) () = some (.inr (.inl ()))) ∧ (w ≠ 0 → ∃ z, 0 ≤ z ∧ loopO (flags_Next_b2 n6 j w) () = some (.inl z)) := by
  constructor
  · intro h
    exact loopO_done (by unfold flags_Next_b2; rw [if_neg (by omega)])
  · intro h
    obtain ⟨k, hk, hlt⟩ := TZ_eq h hw
    refine ⟨_, ?_, loopO_done (by unfold flags_Next_b2; rw [if_pos (by omega), hk]; rfl)⟩
    rw [wrap64 (n := n6 + 1) (by omega) (by omega), wrap64 (n := (n6 + 1) * 64) (by omega) (by omega), wrap64 (n := j * 64) (by omega) (by omega), wrap64 (n := j * 64 + (k : Int)) (by omega) (by omega), wrap64 (by omega) (by omega)]
    omega
/-- Is there a place from n on? -/
theorem flags_Next_neg (s : Sl Int) (n : Nat) (hok : okS 1 s) (hu : u64s s.l) (hl : s.l.length ≤ 64) (hn : n ≤ 4096) : ∃ z, flags_Next s (n : Int) = some z ∧ (z < 0 ↔ ∀ p, n ≤ p → hasB s.l p = false) := by
  unfold flags_Next flags_within
  have hm : maxI (n : Int) 0 = n := by unfold maxI; rw [if_neg (by omega)]
  rw [hm]
  simp only [div64n (show n < 1000000 by omega), Option.bind_some, mod64n]
  rw [if_pos (by omega)]
  by_cases h : n / 64 < s.l.length
  · rw [if_pos (by omega)]
    simp only [Option.bind_some, if_true, at_get hok h]
    have hw := hu _ (List.getElem_mem h)
    have hg : s.l[n / 64]? = some s.l[n / 64] := List.getElem?_eq_getElem h
    obtain ⟨w, hw2⟩ := Int.eq_ofNat_of_zero_le hw.1
    rw [hw2] at hw hg ⊢
    have hwlt : w < 18446744073709551616 := by have := hw.2; omega
    rw [shr_nat hwlt (Nat.mod_lt _ (by decide))]
    simp only [Option.bind_some]
    have hle : w / 2 ^ (n % 64) ≤ w := Nat.div_le_self _ _
    have hdv : ∀ i, (w / 2 ^ (n % 64)).testBit i = w.testBit (i + n % 64) := fun i => by rw [Nat.testBit_div_two_pow]
    by_cases h0 : w / 2 ^ (n % 64) = 0
    · rw [if_neg (by omega)]
      have hsame : ∀ p, p / 64 = n / 64 → n ≤ p → hasB s.l p = false := fun p hp hnp => by
        rw [hasB_word hp rfl hg]
        have := hdv (p % 64 - n % 64)
        rw [h0, Nat.zero_testBit, show p % 64 - n % 64 + n % 64 = p % 64 by omega] at this
        simpa using this.symm
      have hcut : cutS 1 s (IntKind.i64.wrap ((n / 64 : Nat) + 1)) ((s.l.length : Nat) : Int) = some ⟨s.nn, s.sz, s.l.drop (n / 64 + 1)⟩ := by
        rw [w_succ h (by omega)]
        unfold cutS
        rw [if_pos ⟨by omega, by omega, by omega, .inl (hok.resolve_left (by intro e; rw [e] at h; simp at h))⟩]
        simp only [Int.toNat_natCast]
        rw [List.take_of_length_le (by simp)]
      rw [hcut]
      simp only [Option.bind_some]
      have hdm : ∀ x ∈ s.l.drop (n / 64 + 1), u64r x := fun x hx => hu x (List.mem_of_mem_drop hx)
      have hdl : (s.l.drop (n / 64 + 1)).length + (n / 64 + 1) = s.l.length := by simp; omega
      have hdg : ∀ i, (s.l.drop (n / 64 + 1))[i]? = s.l[n / 64 + 1 + i]? := fun i => List.getElem?_drop
      generalize s.l.drop (n / 64 + 1) = d at hdm hdl hdg
      have hget : ∀ i (hi : i < d.length) (h2 : n / 64 + 1 + i < s.l.length), d[i] = s.l[n / 64 + 1 + i] := fun i hi h2 => by
        have := hdg i
        rw [List.getElem?_eq_getElem hi, List.getElem?_eq_getElem h2] at this
        exact Option.some.inj this
      obtain ⟨q, q1, q2⟩ := loop_up (b := flags_Next_b1 ((n / 64 : Nat) : Int) ⟨s.nn, s.sz, d⟩) d.length (fun j a => a = (j : Int) ∧ ∀ i (h : i < d.length), i < j → d[i] = 0) (fun q => (∃ z, q = .inl z ∧ 0 ≤ z ∧ ∃ i, ∃ h : i < d.length, d[i] ≠ 0) ∨ (q = .inr (.inl ()) ∧ ∀ i (h : i < d.length), d[i] = 0))
        (by
          rintro j _ hj ⟨rfl, ha⟩
          have hok' : okS 1 (⟨s.nn, s.sz, d⟩ : Sl Int) := .inr (hok.resolve_left (by intro e; rw [e] at h; simp at h))
          have hjl : j < 64 := by omega
          have hv := hdm _ (List.getElem_mem hj)
          simp only [flags_Next_b1, at_get hok' hj, Option.bind_some]
          rw [if_pos (show (j : Int) < ((d.length : Nat) : Int) by omega)]
          obtain ⟨v, hv2⟩ := Int.eq_ofNat_of_zero_le hv.1
          have hvlt : v < 18446744073709551616 := by have := hv.2; omega
          have hin := next_in (n6 := ((n / 64 : Nat) : Int)) (j := (j : Int)) hvlt ⟨by omega, by omega⟩ ⟨by omega, by omega⟩
          rw [hv2]
          by_cases v0 : v = 0
          · rw [hin.1 v0]
            refine .inl ⟨_, rfl, by rw [w_succ hj (by omega)], fun i hi hij => ?_⟩
            by_cases e : i = j
            · subst e; omega
            · exact ha i hi (by omega)
          · obtain ⟨z, z0, hz⟩ := hin.2 v0
            rw [hz]
            exact .inr ⟨_, rfl, .inl ⟨z, rfl, z0, j, hj, by omega⟩⟩)
        (by
          rintro _ ⟨rfl, ha⟩
          refine ⟨_, if_neg (show ¬ ((d.length : Nat) : Int) < ((d.length : Nat) : Int) by omega), .inr ⟨rfl, fun i hi => ha i hi hi⟩⟩) 0 (Nat.zero_le _) 0 ⟨rfl, fun i hi h0 => absurd h0 (by omega)⟩
      rw [q1]
      rcases q2 with ⟨z, rfl, z0, i, hi, hne⟩ | ⟨rfl, hz⟩
      · refine ⟨z, rfl, ?_⟩
        constructor
        · intro hh; omega
        · intro hh
          exfalso
          have hi' : n / 64 + 1 + i < s.l.length := by omega
          rw [hget i hi hi'] at hne
          have hv := hu _ (List.getElem_mem hi')
          obtain ⟨v, hv2⟩ := Int.eq_ofNat_of_zero_le hv.1
          rw [hv2] at hne hv
          obtain ⟨k, hk⟩ := bit_of_ne (x := v) (by omega)
          have hk2 := bit_lt (by have := hv.2; omega) hk
          have := hh (64 * (n / 64 + 1 + i) + k) (by omega)
          rw [hasB_word (i := n / 64 + 1 + i) (k := k) (w := (v : Int)) (by omega) (by omega) (by rw [List.getElem?_eq_getElem hi', hv2])] at this
          simp only [Int.toNat_natCast] at this
          rw [hk] at this; simp at this
      · refine ⟨-1, rfl, ?_⟩
        refine ⟨fun _ p hp => ?_, fun _ => by decide⟩
        by_cases e : p / 64 = n / 64
        · exact hsame p e hp
        · by_cases hlen : p / 64 < s.l.length
          · have hd : p / 64 - (n / 64 + 1) < d.length := by omega
            have := hz _ hd
            rw [hget _ hd (by omega)] at this
            rw [hasB_word (w := 0) rfl rfl (by rw [List.getElem?_eq_getElem hlen, ← this]; congr 2; omega)]
            simp
          · exact hasB_out (by omega)
    · rw [if_pos (by omega)]
      obtain ⟨k, hk, hk2⟩ := TZ_eq h0 (by omega)
      rw [hk]
      refine ⟨_, rfl, ?_⟩
      rw [wrap64 (by omega) (by omega)]
      constructor
      · intro hh; omega
      · intro hh
        exfalso
        obtain ⟨i, hi⟩ := bit_of_ne h0
        rw [hdv] at hi
        have := bit_lt hwlt hi
        have h2 := hh (64 * (n / 64) + (i + n % 64)) (by omega)
        rw [hasB_word (i := n / 64) (k := i + n % 64) (by omega) (by omega) hg] at h2
        simp only [Int.toNat_natCast] at h2
        rw [hi] at h2; simp at h2
  · rw [if_neg (by omega)]
    simp only [Option.bind_some, Bool.false_eq_true, if_false]
    refine ⟨-1, rfl, ?_⟩
    exact ⟨fun _ p hp => hasB_out (by omega), fun _ => by decide⟩
theorem flags_words_eq {n : Int} (h : 0 ≤ n ∧ n ≤ 4096) : flags_words n = some ((n + 63) / 64) := by
  unfold flags_words
  have e1 : maxI n 0 = n := by unfold maxI; rw [if_neg (by omega)]
  have e2 : minI n 4096 = n := by unfold minI; rw [if_neg (by omega)]
  rw [e1, e2, wrap64 (by omega) (by omega)]
  unfold divO
  rw [if_pos (by decide), Int.tdiv_eq_ediv_of_nonneg (by omega), wrap64 (by omega) (by omega)]; rfl
theorem ref03_words_eq {n : Int} (h : 0 ≤ n ∧ n ≤ 4096) : ref03_words n = some ((n + 63) / 64) := by
  unfold ref03_words
  rw [if_neg (by omega)]
  by_cases h1 : n < 1
  · rw [if_pos h1]
    obtain rfl : n = 0 := by omega
    rfl
  · rw [if_neg h1, wrap64 (by omega) (by omega)]
    unfold divO
    rw [if_pos (by decide), Int.tdiv_eq_ediv_of_nonneg (by omega), wrap64 (by omega) (by omega)]; rfl
/-- All places of a set. -/
def placesL (ws : List Int) : List Int := ((List.range (64 * ws.length)).filter (hasB ws)).map fun p : Nat => (p : Int)
def sizeF (n : Int) : Bool := decide (0 ≤ n) && decide (n ≤ 4096)
/-- Are bits a set of n places? -/
def rightF (ws : List Int) (n : Int) : Bool := sizeF n && (decide ((ws.length : Int) = (n + 63) / 64) && (placesL ws).all fun p => decide (p < n))
theorem places_mem {ws : List Int} {p : Int} : p ∈ placesL ws ↔ 0 ≤ p ∧ hasB ws p.toNat = true := by
  unfold placesL
  simp only [List.mem_map, List.mem_filter, List.mem_range]
  constructor
  · rintro ⟨q, ⟨h1, h2⟩, rfl⟩; exact ⟨by omega, by simpa using h2⟩
  · rintro ⟨h1, h2⟩
    refine ⟨p.toNat, ⟨?_, h2⟩, by omega⟩
    by_cases hh : p.toNat < 64 * ws.length
    · exact hh
    · rw [hasB_out (by omega)] at h2; simp at h2
theorem flags_Right_eq (s : Sl Int) (n : Int) (hok : okS 1 s) (hu : u64s s.l) (hl : s.l.length ≤ 9223372036854775807) : flags_Right s n = some (rightF s.l n) := by
  unfold flags_Right rightF sizeF
  by_cases h1 : 0 ≤ n
  · rw [if_pos (show n ≥ 0 from h1), decide_eq_true h1]
    by_cases h2 : n ≤ 4096
    · rw [if_pos h2, decide_eq_true h2, flags_words_eq ⟨h1, h2⟩]
      simp only [Option.bind_some, Bool.and_self, Bool.true_and]
      by_cases h3 : ((s.l.length : Nat) : Int) = (n + 63) / 64
      · rw [if_pos h3, decide_eq_true h3]
        obtain ⟨k, rfl⟩ := Int.eq_ofNat_of_zero_le h1
        obtain ⟨z, z1, z2⟩ := flags_Next_neg s k hok hu (by omega) (by omega)
        rw [z1]
        simp only [Option.bind_some, Bool.true_and]
        have key : (placesL s.l).all (fun p => decide (p < (k : Int))) = true ↔ z < 0 := by
          rw [z2, List.all_eq_true]
          constructor
          · intro h p hp
            cases hb : hasB s.l p with
            | false => rfl
            | true => have := h (p : Int) (places_mem.2 ⟨by omega, by simpa using hb⟩); simp at this; omega
          · intro h p hp
            obtain ⟨p0, p1⟩ := places_mem.1 hp
            rw [decide_eq_true_eq]
            by_cases hh : p < (k : Int)
            · exact hh
            · rw [h p.toNat (by omega)] at p1; simp at p1
        by_cases hz : z < 0
        · rw [if_pos hz, key.2 hz]
        · rw [if_neg hz, Bool.eq_false_iff.2 fun e => hz (key.1 e)]
      · rw [if_neg h3, decide_eq_false h3]; simp
    · rw [if_neg h2, decide_eq_false h2]; simp
  · rw [if_neg (show ¬ n ≥ 0 from h1), decide_eq_false h1]; simp
theorem range_filter_succ (f : Nat → Bool) (j : Nat) : (List.range (j + 1)).filter f = (List.range j).filter f ++ (if f j = true then [j] else []) := by
  rw [List.range_succ, List.filter_append]
  congr 1
  cases hf : f j <;> simp [hf]
theorem ref03_List_eq (s : Sl Int) (hok : okS 1 s) (hu : u64s s.l) (hl : s.l.length ≤ 1000) : ref03_List s = some (placesL s.l) := by
  unfold ref03_List
  obtain ⟨q, q1, q2⟩ := loop_up (b := ref03_List_b1 s) (64 * s.l.length) (fun j a => a = (((List.range j).filter (hasB s.l)).map (fun p : Nat => (p : Int)), (j : Int))) (fun q => q = .inl (placesL s.l))
    (by
      rintro j _ hj rfl
      have hh := ref03_Has_eq s j hok hu (by omega)
      have hlen : (((List.range j).filter (hasB s.l)).map (fun p : Nat => (p : Int))).length ≤ 100000 := by
        have h1 := List.length_filter_le (hasB s.l) (List.range j)
        simp only [List.length_map, List.length_range] at h1 ⊢; omega
      have hap : app (((List.range j).filter (hasB s.l)).map (fun p : Nat => (p : Int))) [(j : Int)] = some (((List.range j).filter (hasB s.l)).map (fun p : Nat => (p : Int)) ++ [(j : Int)]) := app_ok (by simp at hlen ⊢; unfold bound; omega)
      simp only [ref03_List_b1, hh, Option.bind_some, w_succ hj (by omega)]
      rw [wrap64 (n := 64 * ((s.l.length : Nat) : Int)) (by omega) (by omega), if_pos (by omega)]
      refine .inl ?_
      rw [range_filter_succ]
      cases hb : hasB s.l j with
      | true =>
        rw [if_pos rfl, hap]
        exact ⟨_, rfl, by simp⟩
      | false => exact ⟨_, rfl, by simp⟩)
    (by
      rintro _ rfl
      refine ⟨.inl (placesL s.l), ?_, rfl⟩
      simp only [ref03_List_b1]
      rw [wrap64 (n := 64 * ((s.l.length : Nat) : Int)) (by omega) (by omega), if_neg (by omega)]
      rfl) 0 (Nat.zero_le _) ([], 0) rfl
  rw [q1, q2]; rfl
/-- Places rise. -/
theorem places_sorted (ws : List Int) : (placesL ws).Pairwise (· < ·) := by
  unfold placesL
  rw [List.pairwise_map]
  refine List.Pairwise.imp (R := (· < ·)) (fun h => by omega) ?_
  exact List.Pairwise.sublist (List.filter_sublist) List.pairwise_lt_range
theorem places_len (ws : List Int) : (placesL ws).length ≤ 64 * ws.length := by
  unfold placesL
  have h1 := List.length_filter_le (hasB ws) (List.range (64 * ws.length))
  simp only [List.length_map, List.length_range] at h1 ⊢; omega
theorem ref03_Right_eq (s : Sl Int) (n : Int) (hok : okS 1 s) (hu : u64s s.l) (hl : s.l.length ≤ 9223372036854775807) : ref03_Right s n = some (rightF s.l n) := by
  unfold ref03_Right rightF sizeF
  by_cases h1 : n < 0
  · rw [if_pos h1, decide_eq_false (show ¬ 0 ≤ n by omega)]; simp
  by_cases h2 : n > 4096
  · rw [if_neg h1, if_pos h2, decide_eq_false (show ¬ n ≤ 4096 by omega)]; simp
  rw [if_neg h1, if_neg h2, decide_eq_true (show 0 ≤ n by omega), decide_eq_true (show n ≤ 4096 by omega), ref03_words_eq ⟨by omega, by omega⟩]
  simp only [Option.bind_some, Bool.and_self, Bool.true_and]
  by_cases h3 : ((s.l.length : Nat) : Int) = (n + 63) / 64
  · rw [if_neg (fun h => h h3), decide_eq_true h3, ref03_List_eq s hok hu (by omega)]
    simp only [Option.bind_some, Bool.true_and]
    have hsort := places_sorted s.l
    have hlen := places_len s.l
    generalize placesL s.l = l at hsort hlen
    by_cases h4 : l = []
    · subst h4; rw [if_pos (by simp)]; rfl
    · have h5 : 0 < l.length := List.length_pos_iff.2 h4
      rw [if_neg (by omega), wrap64 (by omega) (by omega), show ((l.length : Nat) : Int) - 1 = ((l.length - 1 : Nat) : Int) by omega]
      have hml : (mo 1 l).l = l := mo_l _ _
      have ha := at_get (w := 1) (s := mo 1 l) (ok_mo l) (j := l.length - 1) (by rw [hml]; omega)
      rw [ha]
      simp only [Option.bind_some, hml]
      have key : l.all (fun p => decide (p < n)) = true ↔ l[l.length - 1] < n := by
        rw [List.all_eq_true]
        constructor
        · intro h; simpa using h _ (List.getElem_mem (by omega : l.length - 1 < l.length))
        · intro h p hp
          obtain ⟨i, hi, rfl⟩ := List.mem_iff_getElem.1 hp
          rw [decide_eq_true_eq]
          by_cases e : i = l.length - 1
          · subst e; exact h
          · have := List.pairwise_iff_getElem.1 hsort i (l.length - 1) hi (by omega) (by omega)
            omega
      by_cases hz : l[l.length - 1] < n
      · rw [if_pos hz, key.2 hz]
      · rw [if_neg hz, Bool.eq_false_iff.2 fun e => hz (key.1 e)]
  · rw [if_pos h3, decide_eq_false h3]; simp
/-- Can a dense vector be? -/
def rightD (d : Int × Sl Int × Sl Int) : Bool := rightF d.2.1.l d.1 && (decide ((d.2.2.l.length : Int) = d.1) && (List.range d.2.2.l.length).all fun i => decide (d.2.2.l.getD i 0 = 0) || hasB d.2.1.l i)
theorem getD_lt {l : List Int} {i : Nat} (h : i < l.length) : l.getD i 0 = l[i] := by rw [List.getD_eq_getElem?_getD, List.getElem?_eq_getElem h]; rfl
theorem all_range {n : Nat} {f : Nat → Bool} : (List.range n).all f = true ↔ ∀ i, i < n → f i = true := by
  rw [List.all_eq_true]
  exact ⟨fun h i hi => h i (by simpa using hi), fun h i hi => h i (by simpa using hi)⟩
theorem all_false {n : Nat} {f : Nat → Bool} {i : Nat} (hi : i < n) (h : f i = false) : (List.range n).all f = false := by
  rw [Bool.eq_false_iff]; intro e; have := all_range.1 e i hi; rw [h] at this; simp at this
structure OkD (d : Int × Sl Int × Sl Int) : Prop where
  has : okS 1 d.2.1
  bits : u64s d.2.1.l
  vals : okS 1 d.2.2
  v64 : ∀ x ∈ d.2.2.l, i64r x
  hl : d.2.1.l.length ≤ 9223372036854775807
  vl : d.2.2.l.length ≤ 9223372036854775807
theorem devec_Right_eq {d : Int × Sl Int × Sl Int} (h : OkD d) : devec_Right d = some (rightD d) := by
  obtain ⟨n, s, t⟩ := d
  obtain ⟨h1, h2, h3, h4, h5, h6⟩ := h
  simp only at h1 h2 h3 h4 h5 h6
  unfold devec_Right rightD
  simp only [flags_Right_eq s n h1 h2 h5, Option.bind_some]
  cases hr : rightF s.l n with
  | false => simp
  | true =>
    simp only [if_true, Bool.true_and]
    by_cases hn : ((t.l.length : Nat) : Int) = n
    · rw [if_neg (fun h => h hn), decide_eq_true hn]
      simp only [Bool.true_and]
      have hb : n ≤ 4096 := by unfold rightF sizeF at hr; simp only [Bool.and_eq_true, decide_eq_true_eq] at hr; exact hr.1.2
      obtain ⟨q, q1, q2⟩ := loop_up (b := devec_Right_b1 s t) t.l.length (fun j a => a = (j : Int) ∧ ∀ i, i < j → (decide (t.l.getD i 0 = 0) || hasB s.l i) = true) (fun q => ((List.range t.l.length).all (fun i => decide (t.l.getD i 0 = 0) || hasB s.l i) = true ∧ q = .inl ()) ∨ ((List.range t.l.length).all (fun i => decide (t.l.getD i 0 = 0) || hasB s.l i) = false ∧ q = .inr false))
        (by
          rintro j _ hj ⟨rfl, ha⟩
          have hh := flags_Has_eq s j h1 h2 (by omega)
          have hd := getD_lt hj
          simp only [devec_Right_b1, at_get h3 hj, Option.bind_some, hh, w_succ hj (by omega)]
          rw [if_pos (by omega)]
          have next : (decide (t.l.getD j 0 = 0) || hasB s.l j) = true → ∀ i, i < j + 1 → (decide (t.l.getD i 0 = 0) || hasB s.l i) = true := fun h i hi => by
            by_cases e : i = j
            · rw [e]; exact h
            · exact ha i (by omega)
          by_cases h0 : t.l[j] = 0
          · rw [if_neg (fun h => h h0)]
            exact .inl ⟨_, rfl, rfl, next (by rw [hd, decide_eq_true h0]; rfl)⟩
          · rw [if_pos h0]
            cases hb : hasB s.l j with
            | true => exact .inl ⟨_, rfl, rfl, next (by rw [hb]; simp)⟩
            | false => exact .inr ⟨_, rfl, .inr ⟨all_false hj (by rw [hd, hb, decide_eq_false h0]; rfl), rfl⟩⟩)
        (by
          rintro _ ⟨rfl, ha⟩
          exact ⟨_, if_neg (by omega), .inl ⟨all_range.2 ha, rfl⟩⟩) 0 (Nat.zero_le _) 0 ⟨rfl, fun i hi => absurd hi (by omega)⟩
      rw [q1]
      rcases q2 with ⟨e, rfl⟩ | ⟨e, rfl⟩ <;> rw [e] <;> rfl
    · rw [if_pos hn, decide_eq_false hn]; simp
theorem ref10_Right_eq {d : Int × Sl Int × Sl Int} (h : OkD d) : ref10_Right d = some (rightD d) := by
  obtain ⟨n, s, t⟩ := d
  obtain ⟨h1, h2, h3, h4, h5, h6⟩ := h
  simp only at h1 h2 h3 h4 h5 h6
  unfold ref10_Right rightD
  simp only
  have hsz : rightF s.l n = true → 0 ≤ n ∧ n ≤ 4096 := fun hr => by unfold rightF sizeF at hr; simp only [Bool.and_eq_true, decide_eq_true_eq] at hr; exact hr.1
  by_cases z1 : n < 0
  · rw [if_pos z1]
    cases hr : rightF s.l n with
    | false => rfl
    | true => have := hsz hr; omega
  by_cases z2 : n > 4096
  · rw [if_neg z1, if_pos z2]
    cases hr : rightF s.l n with
    | false => rfl
    | true => have := hsz hr; omega
  rw [if_neg z1, if_neg z2, ref03_Right_eq s n h1 h2 h5]
  simp only [Option.bind_some]
  cases hr : rightF s.l n with
  | false => simp
  | true =>
    simp only [if_true, Bool.true_and]
    by_cases hn : ((t.l.length : Nat) : Int) = n
    · rw [if_neg (fun h => h hn), decide_eq_true hn]
      simp only [Bool.true_and]
      obtain ⟨q, q1, q2⟩ := loop_up (b := ref10_Right_b1 n s t) t.l.length (fun j a => a = (j : Int) ∧ ∀ i, i < j → (decide (t.l.getD i 0 = 0) || hasB s.l i) = true) (fun q => ((List.range t.l.length).all (fun i => decide (t.l.getD i 0 = 0) || hasB s.l i) = true ∧ q = .inl ()) ∨ ((List.range t.l.length).all (fun i => decide (t.l.getD i 0 = 0) || hasB s.l i) = false ∧ q = .inr false))
        (by
          rintro j _ hj ⟨rfl, ha⟩
          have hh := ref03_Has_eq s j h1 h2 (by omega)
          have hd := getD_lt hj
          simp only [ref10_Right_b1, at_get h3 hj, Option.bind_some, hh, w_succ hj (by omega)]
          rw [if_pos (by omega)]
          have next : (decide (t.l.getD j 0 = 0) || hasB s.l j) = true → ∀ i, i < j + 1 → (decide (t.l.getD i 0 = 0) || hasB s.l i) = true := fun h i hi => by
            by_cases e : i = j
            · rw [e]; exact h
            · exact ha i (by omega)
          cases hb : hasB s.l j with
          | true => exact .inl ⟨_, rfl, rfl, next (by rw [hb]; simp)⟩
          | false =>
            simp only [Bool.false_eq_true, if_false]
            by_cases h0 : t.l[j] = 0
            · rw [if_neg (fun h => h h0)]
              exact .inl ⟨_, rfl, rfl, next (by rw [hd, decide_eq_true h0]; rfl)⟩
            · rw [if_pos h0]
              exact .inr ⟨_, rfl, .inr ⟨all_false hj (by rw [hd, hb, decide_eq_false h0]; rfl), rfl⟩⟩)
        (by
          rintro _ ⟨rfl, ha⟩
          exact ⟨_, if_neg (by omega), .inl ⟨all_range.2 ha, rfl⟩⟩) 0 (Nat.zero_le _) 0 ⟨rfl, fun i hi => absurd hi (by omega)⟩
      rw [q1]
      rcases q2 with ⟨e, rfl⟩ | ⟨e, rfl⟩ <;> rw [e] <;> rfl
    · rw [if_pos hn, decide_eq_false hn]; simp
/-- The items of a dense vector. -/
def backL (ws vs : List Int) : List It := (placesL ws).map fun p => (p, vs.getD p.toNat 0)
def backV (d : Int × Sl Int × Sl Int) : Int × Sl It := if rightD d = true then (d.1, mo 2 (backL d.2.1.l d.2.2.l)) else (0, nilS)
theorem rightD_spec {d : Int × Sl Int × Sl Int} (h : rightD d = true) : 0 ≤ d.1 ∧ d.1 ≤ 4096 ∧ (d.2.1.l.length : Int) = (d.1 + 63) / 64 ∧ (∀ p ∈ placesL d.2.1.l, 0 ≤ p ∧ p < d.1) ∧ (d.2.2.l.length : Int) = d.1 := by
  unfold rightD rightF sizeF at h
  simp only [Bool.and_eq_true, decide_eq_true_eq, List.all_eq_true] at h
  obtain ⟨⟨⟨a, b⟩, c, e⟩, f, g⟩ := h
  exact ⟨a, b, c, fun p hp => ⟨(places_mem.1 hp).1, e p hp⟩, f⟩
theorem asc_map {n : Int} (f : Int → Int) : ∀ {l : List Int} {a : Int}, l.Pairwise (· < ·) → (∀ p ∈ l, a < p ∧ p < n) → asc a n (l.map fun p => (p, f p)) = true
  | [], a, _, _ => rfl
  | x :: l, a, h1, h2 => by
    rw [List.pairwise_cons] at h1
    have hx := h2 x List.mem_cons_self
    simp only [List.map_cons, asc, Bool.and_eq_true, decide_eq_true_eq]
    exact ⟨hx, asc_map f h1.2 fun p hp => ⟨h1.1 p hp, (h2 p (List.mem_cons_of_mem _ hp)).2⟩⟩
theorem back_right {d : Int × Sl Int × Sl Int} (h : rightD d = true) : rightB (d.1, mo 2 (backL d.2.1.l d.2.2.l)) = true := by
  obtain ⟨h1, h2, h3, h4, h5⟩ := rightD_spec h
  simp only [rightB, sizeB, mo_l, Bool.and_eq_true, decide_eq_true_eq]
  exact ⟨⟨h1, h2⟩, asc_map _ (places_sorted _) fun p hp => ⟨by have := (h4 p hp).1; omega, (h4 p hp).2⟩⟩
theorem getI_map {f : Int → Int} {p : Int} : ∀ {l : List Int}, getI p (l.map fun q => (q, f q)) = if p ∈ l then some (f p) else none
  | [] => by simp [getI]
  | x :: l => by
    simp only [List.map_cons, getI]
    by_cases e : x = p
    · subst e; simp
    · rw [if_neg e, getI_map]
      simp [Ne.symm e]
/-- What a dense vector has at a place. -/
def denB (d : Int × Sl Int × Sl Int) (k : Int) : Option Int := if 0 ≤ k ∧ hasB d.2.1.l k.toNat = true then some (d.2.2.l.getD k.toNat 0) else none
theorem back_get (d : Int × Sl Int × Sl Int) (k : Int) : getI k (backL d.2.1.l d.2.2.l) = denB d k := by
  unfold backL denB
  rw [getI_map (f := fun p => d.2.2.l.getD p.toNat 0)]
  by_cases h : 0 ≤ k ∧ hasB d.2.1.l k.toNat = true
  · rw [if_pos (places_mem.2 h), if_pos h]
  · rw [if_neg (fun e => h (places_mem.1 e)), if_neg h]
theorem ref10_Back_eq {d : Int × Sl Int × Sl Int} (h : OkD d) : ref10_Back d = some (backV d) := by
  have hR := ref10_Right_eq h
  obtain ⟨n, s, t⟩ := d
  obtain ⟨h1, h2, h3, h4, h5, h6⟩ := h
  simp only at h1 h2 h3 h4 h5 h6
  unfold ref10_Back backV
  simp only [hR, Option.bind_some]
  cases hr : rightD (n, s, t) with
  | false => rfl
  | true =>
    obtain ⟨r1, r2, r3, r4, r5⟩ := rightD_spec hr
    simp only at r1 r2 r3 r4 r5
    simp only [if_true]
    rw [ref03_List_eq s h1 h2 (by omega)]
    simp only [Option.bind_some]
    have hlen := places_len s.l
    unfold backL
    generalize placesL s.l = l at r4 hlen
    obtain ⟨q, q1, q2⟩ := loop_up (b := ref10_Back_b1 t l) l.length (fun j a => a = ((j : Int), (l.take j).map fun p => (p, t.l.getD p.toNat 0))) (fun q => q = .inl (l.map fun p => (p, t.l.getD p.toNat 0)))
      (by
        rintro j _ hj rfl
        have hml : (mo 1 l).l = l := mo_l _ _
        have ha := at_get (w := 1) (s := mo 1 l) (ok_mo l) (j := j) (by rw [hml]; exact hj)
        have hp := r4 _ (List.getElem_mem hj)
        have hk : l[j].toNat < t.l.length := by omega
        have hb := at_get (w := 1) (s := t) h3 hk
        rw [show ((l[j].toNat : Nat) : Int) = l[j] by omega] at hb
        have hlen2 : ((l.take j).map fun p => (p, t.l.getD p.toNat 0)).length ≤ 100000 := by simp; omega
        have hap : app ((l.take j).map fun p => (p, t.l.getD p.toNat 0)) [(l[j], t.l[l[j].toNat])] = some ((l.take j).map (fun p => (p, t.l.getD p.toNat 0)) ++ [(l[j], t.l[l[j].toNat])]) := app_ok (by simp at hlen2 ⊢; unfold bound; omega)
        simp only [ref10_Back_b1, ha, hml, hb, Option.bind_some, hap, w_succ hj (by omega)]
        rw [if_pos (by omega)]
        refine .inl ⟨_, rfl, ?_⟩
        rw [List.take_succ_eq_append_getElem hj, List.map_append, List.map_cons, List.map_nil, getD_lt hk])
      (by
        rintro _ rfl
        refine ⟨_, if_neg (by omega), ?_⟩
        rw [List.take_length]) 0 (Nat.zero_le _) (0, []) rfl
    rw [q1, q2]; rfl
abbrev Mx := Int × Int × Sl Int × Sl Int × Sl Int
/-- Do places rise, from one on, below n? -/
def ascI (a n : Int) (l : List Int) : Bool := asc a n (l.map fun k => (k, 0))
theorem ascI_cons (a n x : Int) (l : List Int) : ascI a n (x :: l) = (decide (a < x) && decide (x < n) && ascI x n l) := rfl
theorem ascI_iff {n : Int} {l : List Int} : ascI (-1) n l = true ↔ ∀ j (h : j < l.length), 0 ≤ l[j] ∧ l[j] < n ∧ (j ≠ 0 → l[j - 1]'(by omega) < l[j]) := by
  unfold ascI
  rw [asc_iff']
  constructor
  · intro h j hj
    have := h j (by simpa using hj)
    simpa using this
  · intro h j hj
    have := h j (by simpa using hj)
    simpa using this
theorem csr_size_eq (n : Int) : csr_size n = some (sizeF n) := by
  unfold csr_size sizeF
  by_cases h1 : n ≥ 0
  · rw [if_pos h1]
    by_cases h2 : n ≤ 4096
    · rw [if_pos h2, decide_eq_true (show 0 ≤ n from h1), decide_eq_true h2]; rfl
    · rw [if_neg h2, decide_eq_false h2]; simp
  · rw [if_neg h1, decide_eq_false (show ¬ 0 ≤ n from h1)]; rfl
theorem csr_rises_eq (s : Sl Int) (n : Int) (hok : okS 1 s) (hl : s.l.length ≤ 9223372036854775807) : csr_rises s n = some (ascI (-1) n s.l) := by
  unfold csr_rises
  obtain ⟨r, h1, h2⟩ := loop_up (b := csr_rises_b1 s n) s.l.length (fun j a => ∃ la, a = (la, (j : Int)) ∧ ascI (-1) n s.l = ascI la n (s.l.drop j)) (fun r => (ascI (-1) n s.l = true ∧ r = .inl ()) ∨ (ascI (-1) n s.l = false ∧ r = .inr false))
    (by
      rintro j _ hj ⟨la, rfl, ha⟩
      rw [List.drop_eq_getElem_cons hj, ascI_cons] at ha
      simp only [csr_rises_b1, at_get hok hj, Option.bind_some, w_succ hj hl]
      rw [if_pos (by omega)]
      by_cases c1 : s.l[j] ≤ la
      · refine .inr ⟨_, if_pos c1, .inr ⟨?_, rfl⟩⟩
        rw [ha, decide_eq_false (by omega)]; rfl
      · rw [if_neg c1]
        by_cases c2 : s.l[j] ≥ n
        · refine .inr ⟨_, if_pos c2, .inr ⟨?_, rfl⟩⟩
          rw [ha, decide_eq_false (p := s.l[j] < n) (by omega)]; simp
        · refine .inl ⟨_, if_neg c2, _, rfl, ?_⟩
          rw [ha, decide_eq_true (by omega), decide_eq_true (by omega)]; rfl)
    (by
      rintro _ ⟨la, rfl, ha⟩
      refine ⟨_, if_neg (by omega), .inl ⟨?_, rfl⟩⟩
      rw [ha, List.drop_length]; rfl) 0 (Nat.zero_le _) (-1, 0) ⟨-1, rfl, rfl⟩
  rw [h1]
  rcases h2 with ⟨h3, rfl⟩ | ⟨h3, rfl⟩ <;> rw [h3] <;> rfl
/-- The columns of a row. -/
def cutL {α : Type} (l : List α) (f t : Int) : List α := (l.drop f.toNat).take (t.toNat - f.toNat)
theorem cutL_len {α : Type} {l : List α} {f t : Int} (h : 0 ≤ f ∧ f ≤ t ∧ t ≤ l.length) : (cutL l f t).length = t.toNat - f.toNat := by
  unfold cutL; simp; omega
theorem cutL_get {α : Type} {l : List α} {f t : Int} (h : 0 ≤ f ∧ f ≤ t ∧ t ≤ l.length) {j : Nat} (hj : j < t.toNat - f.toNat) : (cutL l f t)[j]'(by rw [cutL_len h]; exact hj) = l[f.toNat + j]'(by omega) := by
  unfold cutL; simp
def rowOk (c : Int) (st co : List Int) (i : Nat) : Bool := decide (0 ≤ st.getD i 0) && (decide (st.getD i 0 ≤ st.getD (i + 1) 0) && (decide (st.getD (i + 1) 0 ≤ co.length) && ascI (-1) c (cutL co (st.getD i 0) (st.getD (i + 1) 0))))
/-- Can a matrix be? -/
def rightM (m : Mx) : Bool := sizeF m.1 && (sizeF m.2.1 && (decide ((m.2.2.1.l.length : Int) = m.1 + 1) && (decide (m.2.2.1.l.getD 0 0 = 0) && (decide (m.2.2.2.1.l.length = m.2.2.2.2.l.length) && (decide (m.2.2.2.1.l.length ≤ 65536) && (decide (m.2.2.1.l.getD m.1.toNat 0 = m.2.2.2.1.l.length) && (List.range m.1.toNat).all (rowOk m.2.1 m.2.2.1.l m.2.2.2.1.l)))))))
structure OkM (m : Mx) : Prop where
  st : okS 1 m.2.2.1
  co : okS 1 m.2.2.2.1
  va : okS 1 m.2.2.2.2
  v64 : ∀ x ∈ m.2.2.2.2.l, i64r x
  sl : m.2.2.1.l.length ≤ 9223372036854775807
  cl : m.2.2.2.1.l.length ≤ 9223372036854775807
  vl : m.2.2.2.2.l.length ≤ 9223372036854775807
theorem rowOk_false {n : Nat} {c : Int} {st co : List Int} {i : Nat} (hi : i < n) (h : rowOk c st co i = false) : (List.range n).all (rowOk c st co) = false := all_false hi h
theorem sizeF_iff {n : Int} : sizeF n = true ↔ 0 ≤ n ∧ n ≤ 4096 := by unfold sizeF; simp
theorem rows_csr {n : Nat} {c : Int} {s t : Sl Int} (hs : okS 1 s) (ht : okS 1 t) (hn : n ≤ 4096) (hl : s.l.length = n + 1) (h0 : s.l.getD 0 0 = 0) (tl : t.l.length ≤ 65536) : ∃ q, loopO (csr_Right_b1 (n : Int) c s t) 0 = some q ∧ (((List.range n).all (rowOk c s.l t.l) = true ∧ q = .inl ()) ∨ ((List.range n).all (rowOk c s.l t.l) = false ∧ q = .inr false)) := by
  refine loop_up (b := csr_Right_b1 (n : Int) c s t) n (fun j a => a = (j : Int) ∧ 0 ≤ s.l.getD j 0 ∧ ∀ i, i < j → rowOk c s.l t.l i = true) _ ?_ ?_ 0 (Nat.zero_le _) 0 ⟨rfl, by omega, fun i hi => absurd hi (by omega)⟩
  · rintro j _ hj ⟨rfl, hp, ha⟩
    have e1 := at_get hs (j := j) (by omega)
    have e2 := at_get hs (j := j + 1) (by omega)
    rw [← getD_lt] at e1 e2
    simp only [csr_Right_b1, e1, Option.bind_some, w_succ hj (by omega)]
    rw [if_pos (by omega), e2]
    simp only [Option.bind_some]
    by_cases c1 : s.l.getD (j + 1) 0 < s.l.getD j 0
    · rw [if_pos c1]
      exact .inr ⟨_, rfl, .inr ⟨rowOk_false hj (by unfold rowOk; rw [decide_eq_false (p := s.l.getD j 0 ≤ s.l.getD (j + 1) 0) (by omega)]; simp), rfl⟩⟩
    rw [if_neg c1]
    by_cases c2 : s.l.getD (j + 1) 0 > ((t.l.length : Nat) : Int)
    · rw [if_pos c2]
      exact .inr ⟨_, rfl, .inr ⟨rowOk_false hj (by unfold rowOk; rw [decide_eq_false (p := s.l.getD (j + 1) 0 ≤ (t.l.length : Int)) (by omega)]; simp), rfl⟩⟩
    rw [if_neg c2]
    have hc : cutS 1 t (s.l.getD j 0) (s.l.getD (j + 1) 0) = some ⟨t.nn, t.sz, cutL t.l (s.l.getD j 0) (s.l.getD (j + 1) 0)⟩ := by
      unfold cutS
      have hz : t.sz = 1 ∨ s.l.getD j 0 = 0 := by
        rcases ht with h | h
        · right; rw [h] at c2; simp only [List.length_nil] at c2; omega
        · exact .inl h
      rw [if_pos ⟨hp, by omega, by omega, hz⟩]; rfl
    rw [hc]
    simp only [Option.bind_some]
    have hcl : (cutL t.l (s.l.getD j 0) (s.l.getD (j + 1) 0)).length ≤ 65536 := by rw [cutL_len ⟨hp, by omega, by omega⟩]; omega
    have hok : okS 1 (⟨t.nn, t.sz, cutL t.l (s.l.getD j 0) (s.l.getD (j + 1) 0)⟩ : Sl Int) := by
      rcases ht with h | h
      · left; unfold cutL; simp [h]
      · exact .inr h
    rw [csr_rises_eq _ c hok (show (cutL t.l (s.l.getD j 0) (s.l.getD (j + 1) 0)).length ≤ _ by omega)]
    simp only [Option.bind_some]
    have hr : rowOk c s.l t.l j = ascI (-1) c (cutL t.l (s.l.getD j 0) (s.l.getD (j + 1) 0)) := by
      unfold rowOk
      rw [decide_eq_true hp, decide_eq_true (p := s.l.getD j 0 ≤ s.l.getD (j + 1) 0) (by omega), decide_eq_true (p := s.l.getD (j + 1) 0 ≤ (t.l.length : Int)) (by omega)]
      simp
    cases hb : ascI (-1) c (cutL t.l (s.l.getD j 0) (s.l.getD (j + 1) 0)) with
    | true =>
      refine .inl ⟨_, rfl, rfl, by omega, fun i hi => ?_⟩
      by_cases e : i = j
      · rw [e, hr, hb]
      · exact ha i (by omega)
    | false => exact .inr ⟨_, rfl, .inr ⟨rowOk_false hj (by rw [hr, hb]), rfl⟩⟩
  · rintro _ ⟨rfl, hp, ha⟩
    exact ⟨_, if_neg (by omega), .inl ⟨all_range.2 ha, rfl⟩⟩
theorem csr_Right_eq {m : Mx} (h : OkM m) : csr_Right m = some (rightM m) := by
  obtain ⟨n, c, s, t, v⟩ := m
  obtain ⟨h1, h2, h3, h4, h5, h6, h7⟩ := h
  simp only at h1 h2 h3 h4 h5 h6 h7
  unfold csr_Right rightM
  simp only [csr_size_eq, Option.bind_some]
  cases z1 : sizeF n with
  | false => rfl
  | true =>
    cases z2 : sizeF c with
    | false => rfl
    | true =>
      obtain ⟨a1, a2⟩ := sizeF_iff.1 z1
      simp only [if_true, Bool.true_and]
      rw [wrap64 (n := n + 1) (by omega) (by omega)]
      by_cases g1 : ((s.l.length : Nat) : Int) = n + 1
      · rw [if_neg (fun h => h g1), decide_eq_true g1]
        have e0 := at_get h1 (j := 0) (by omega)
        rw [← getD_lt] at e0
        have e0' : atS 1 s 0 = some (s.l.getD 0 0) := e0
        rw [e0']
        simp only [Option.bind_some, Bool.true_and]
        by_cases g2 : s.l.getD 0 0 = 0
        · rw [if_neg (fun h => h g2), decide_eq_true g2]
          simp only [Bool.true_and]
          by_cases g3 : t.l.length = v.l.length
          · rw [if_neg (fun h => h (by omega)), decide_eq_true g3]
            simp only [Bool.true_and]
            by_cases g4 : t.l.length ≤ 65536
            · rw [if_neg (by omega), decide_eq_true g4]
              simp only [Bool.true_and]
              obtain ⟨k, rfl⟩ := Int.eq_ofNat_of_zero_le a1
              have en := at_get h1 (j := k) (by omega)
              rw [← getD_lt] at en
              rw [en]
              simp only [Option.bind_some, Int.toNat_natCast]
              by_cases g5 : s.l.getD k 0 = ((t.l.length : Nat) : Int)
              · rw [if_neg (fun h => h g5), decide_eq_true g5]
                simp only [Bool.true_and]
                obtain ⟨q, q1, q2⟩ := rows_csr (c := c) h1 h2 (by omega) (n := k) (by omega) g2 g4
                rw [q1]
                rcases q2 with ⟨e, rfl⟩ | ⟨e, rfl⟩ <;> rw [e] <;> rfl
              · rw [if_pos g5, decide_eq_false g5]; rfl
            · rw [if_pos (by omega), decide_eq_false g4]; rfl
          · rw [if_pos (fun h => g3 (by omega)), decide_eq_false g3]; rfl
        · rw [if_pos g2, decide_eq_false g2]; rfl
      · rw [if_pos g1, decide_eq_false g1]; rfl
/-- The reference's inner loop. -/
theorem row_ref {n : Nat} {c : Int} {s t : Sl Int} (hs : okS 1 s) (ht : okS 1 t) (hl : s.l.length = n + 1) (tl : t.l.length ≤ 65536) {i : Nat} (hi : i < n) (hp : 0 ≤ s.l.getD i 0 ∧ s.l.getD i 0 ≤ s.l.getD (i + 1) 0 ∧ s.l.getD (i + 1) 0 ≤ (t.l.length : Int)) (hn : n ≤ 4096) :
    ∃ q, loopO (ref07_Right_b2 c s t (i : Int)) (s.l.getD i 0) = some q ∧ ((ascI (-1) c (cutL t.l (s.l.getD i 0) (s.l.getD (i + 1) 0)) = true ∧ q = .inl ()) ∨ (ascI (-1) c (cutL t.l (s.l.getD i 0) (s.l.getD (i + 1) 0)) = false ∧ q = .inr (.inr (.inr false)))) := by
  have e1 := at_get hs (j := i) (by omega)
  have e2 := at_get hs (j := i + 1) (by omega)
  rw [← getD_lt] at e1 e2
  generalize hf : s.l.getD i 0 = f at *
  generalize hg : s.l.getD (i + 1) 0 = g at *
  have hlen := cutL_len (l := t.l) hp
  have hget := fun j hj => cutL_get (l := t.l) hp (j := j) hj
  have hF : ∀ j (hj : j < (cutL t.l f g).length), ¬ (0 ≤ (cutL t.l f g)[j] ∧ (cutL t.l f g)[j] < c ∧ (j ≠ 0 → (cutL t.l f g)[j - 1]'(by omega) < (cutL t.l f g)[j])) → ascI (-1) c (cutL t.l f g) = false := fun j hj hh => by
    rw [Bool.eq_false_iff]; intro hc; exact hh (ascI_iff.1 hc j hj)
  have key := loop_up (b := ref07_Right_b2 c s t (i : Int)) (g.toNat - f.toNat) (fun j a => a = f + (j : Int) ∧ ∀ i (h : i < (cutL t.l f g).length), i < j → 0 ≤ (cutL t.l f g)[i] ∧ (cutL t.l f g)[i] < c ∧ (i ≠ 0 → (cutL t.l f g)[i - 1]'(by omega) < (cutL t.l f g)[i])) (fun q => (ascI (-1) c (cutL t.l f g) = true ∧ q = .inl ()) ∨ (ascI (-1) c (cutL t.l f g) = false ∧ q = .inr (.inr (.inr false))))
    (by
      rintro j _ hj ⟨rfl, ha⟩
      have hk : f.toNat + j < t.l.length := by omega
      have ek := at_get ht hk
      rw [show ((f.toNat + j : Nat) : Int) = f + (j : Int) by omega] at ek
      have hcj := hget j hj
      have w1 : IntKind.i64.wrap ((i : Int) + 1) = ((i + 1 : Nat) : Int) := w_succ hi (by omega)
      simp only [ref07_Right_b2, w1, e2, e1, Option.bind_some, ek]
      rw [if_pos (by omega)]
      rw [← hcj]
      by_cases c1 : (cutL t.l f g)[j]'(by omega) < 0
      · rw [if_pos c1]; exact .inr ⟨_, rfl, .inr ⟨hF j (by omega) (fun h => by omega), rfl⟩⟩
      rw [if_neg c1]
      by_cases c2 : (cutL t.l f g)[j]'(by omega) ≥ c
      · rw [if_pos c2]; exact .inr ⟨_, rfl, .inr ⟨hF j (by omega) (fun h => by omega), rfl⟩⟩
      rw [if_neg c2]
      have next : (j ≠ 0 → (cutL t.l f g)[j - 1]'(by omega) < (cutL t.l f g)[j]'(by omega)) → ∀ i (h : i < (cutL t.l f g).length), i < j + 1 → 0 ≤ (cutL t.l f g)[i] ∧ (cutL t.l f g)[i] < c ∧ (i ≠ 0 → (cutL t.l f g)[i - 1]'(by omega) < (cutL t.l f g)[i]) := fun hh i h hij => by
        by_cases e : i = j
        · subst e; exact ⟨by omega, by omega, hh⟩
        · exact ha i h (by omega)
      have wk : IntKind.i64.wrap (f + (j : Int) + 1) = f + ((j + 1 : Nat) : Int) := by rw [wrap64 (by omega) (by omega)]; omega
      rw [wk]
      by_cases c3 : f + (j : Int) > f
      · rw [if_pos c3, wrap64 (n := f + (j : Int) - 1) (by omega) (by omega)]
        have ep := at_get ht (j := f.toNat + (j - 1)) (by omega)
        rw [show ((f.toNat + (j - 1) : Nat) : Int) = f + (j : Int) - 1 by omega, ← hget (j - 1) (by omega)] at ep
        rw [ep]
        simp only [Option.bind_some]
        by_cases c4 : (cutL t.l f g)[j]'(by omega) ≤ (cutL t.l f g)[j - 1]'(by omega)
        · rw [if_pos c4]; exact .inr ⟨_, rfl, .inr ⟨hF j (by omega) (fun h => by have := h.2.2 (by omega); omega), rfl⟩⟩
        · rw [if_neg c4]; exact .inl ⟨_, rfl, rfl, next fun _ => by omega⟩
      · rw [if_neg c3]; exact .inl ⟨_, rfl, rfl, next fun h0 => absurd h0 (by omega)⟩)
    (by
      rintro _ ⟨rfl, ha⟩
      have w1 : IntKind.i64.wrap ((i : Int) + 1) = ((i + 1 : Nat) : Int) := w_succ hi (by omega)
      simp only [ref07_Right_b2, w1, e2, Option.bind_some]
      rw [if_neg (by omega)]
      exact ⟨_, rfl, .inl ⟨ascI_iff.2 fun j hj => ha j hj (by omega), rfl⟩⟩) 0 (Nat.zero_le _) f ⟨by omega, fun i h hi => absurd hi (by omega)⟩
  exact key
theorem rows_ref {n : Nat} {c : Int} {s t : Sl Int} (hs : okS 1 s) (ht : okS 1 t) (hn : n ≤ 4096) (hl : s.l.length = n + 1) (tl : t.l.length ≤ 65536) : ∃ q, loopO (ref07_Right_b1 (n : Int) c s t) 0 = some q ∧ (((List.range n).all (rowOk c s.l t.l) = true ∧ q = .inl ()) ∨ ((List.range n).all (rowOk c s.l t.l) = false ∧ q = .inr false)) := by
  refine loop_up (b := ref07_Right_b1 (n : Int) c s t) n (fun j a => a = (j : Int) ∧ ∀ i, i < j → rowOk c s.l t.l i = true) _ ?_ ?_ 0 (Nat.zero_le _) 0 ⟨rfl, fun i hi => absurd hi (by omega)⟩
  · rintro j _ hj ⟨rfl, ha⟩
    have e1 := at_get hs (j := j) (by omega)
    have e2 := at_get hs (j := j + 1) (by omega)
    rw [← getD_lt] at e1 e2
    simp only [ref07_Right_b1, e1, Option.bind_some, w_succ hj (by omega)]
    rw [if_pos (by omega), e2]
    simp only [Option.bind_some]
    by_cases c1 : s.l.getD j 0 > s.l.getD (j + 1) 0
    · rw [if_pos c1]
      exact .inr ⟨_, rfl, .inr ⟨rowOk_false hj (by unfold rowOk; rw [decide_eq_false (p := s.l.getD j 0 ≤ s.l.getD (j + 1) 0) (by omega)]; simp), rfl⟩⟩
    rw [if_neg c1]
    by_cases c0 : s.l.getD j 0 < 0
    · rw [if_pos c0]
      exact .inr ⟨_, rfl, .inr ⟨rowOk_false hj (by unfold rowOk; rw [decide_eq_false (p := 0 ≤ s.l.getD j 0) (by omega)]; simp), rfl⟩⟩
    rw [if_neg c0]
    by_cases c2 : s.l.getD (j + 1) 0 > ((t.l.length : Nat) : Int)
    · rw [if_pos c2]
      exact .inr ⟨_, rfl, .inr ⟨rowOk_false hj (by unfold rowOk; rw [decide_eq_false (p := s.l.getD (j + 1) 0 ≤ (t.l.length : Int)) (by omega)]; simp), rfl⟩⟩
    rw [if_neg c2]
    obtain ⟨q, q1, q2⟩ := row_ref (c := c) hs ht hl tl hj ⟨by omega, by omega, by omega⟩ hn
    rw [q1]
    have hr : rowOk c s.l t.l j = ascI (-1) c (cutL t.l (s.l.getD j 0) (s.l.getD (j + 1) 0)) := by
      unfold rowOk
      rw [decide_eq_true (p := 0 ≤ s.l.getD j 0) (by omega), decide_eq_true (p := s.l.getD j 0 ≤ s.l.getD (j + 1) 0) (by omega), decide_eq_true (p := s.l.getD (j + 1) 0 ≤ (t.l.length : Int)) (by omega)]
      simp
    rcases q2 with ⟨e, rfl⟩ | ⟨e, rfl⟩
    · refine .inl ⟨_, rfl, rfl, fun i hi => ?_⟩
      by_cases e' : i = j
      · rw [e', hr, e]
      · exact ha i (by omega)
    · exact .inr ⟨_, rfl, .inr ⟨rowOk_false hj (by rw [hr, e]), rfl⟩⟩
  · rintro _ ⟨rfl, ha⟩
    exact ⟨_, if_neg (by omega), .inl ⟨all_range.2 ha, rfl⟩⟩
theorem ref07_Right_eq {m : Mx} (h : OkM m) : ref07_Right m = some (rightM m) := by
  obtain ⟨n, c, s, t, v⟩ := m
  obtain ⟨h1, h2, h3, h4, h5, h6, h7⟩ := h
  simp only at h1 h2 h3 h4 h5 h6 h7
  unfold ref07_Right rightM
  simp only
  by_cases a1 : n < 0
  · rw [if_pos a1, show sizeF n = false by unfold sizeF; rw [decide_eq_false (by omega)]; rfl]; rfl
  by_cases a2 : n > 4096
  · rw [if_neg a1, if_pos a2, show sizeF n = false by unfold sizeF; rw [decide_eq_false (p := n ≤ 4096) (by omega)]; simp]; rfl
  rw [if_neg a1, if_neg a2, sizeF_iff.2 ⟨by omega, by omega⟩]
  by_cases b1 : c < 0
  · rw [if_pos b1, show sizeF c = false by unfold sizeF; rw [decide_eq_false (by omega)]; rfl]; rfl
  by_cases b2 : c > 4096
  · rw [if_neg b1, if_pos b2, show sizeF c = false by unfold sizeF; rw [decide_eq_false (p := c ≤ 4096) (by omega)]; simp]; rfl
  rw [if_neg b1, if_neg b2, sizeF_iff.2 ⟨by omega, by omega⟩]
  simp only [Bool.true_and]
  rw [wrap64 (n := n + 1) (by omega) (by omega)]
  by_cases g1 : ((s.l.length : Nat) : Int) = n + 1
  · rw [if_neg (fun h => h g1), decide_eq_true g1]
    simp only [Bool.true_and]
    by_cases g3 : t.l.length = v.l.length
    · rw [if_neg (fun h => h (by omega)), decide_eq_true g3]
      simp only [Bool.true_and]
      by_cases g4 : t.l.length ≤ 65536
      · rw [if_neg (by omega), decide_eq_true g4]
        have e0 := at_get h1 (j := 0) (by omega)
        rw [← getD_lt] at e0
        have e0' : atS 1 s 0 = some (s.l.getD 0 0) := e0
        rw [e0']
        simp only [Option.bind_some, Bool.true_and]
        by_cases g2 : s.l.getD 0 0 = 0
        · rw [if_neg (fun h => h g2), decide_eq_true g2]
          obtain ⟨k, rfl⟩ := Int.eq_ofNat_of_zero_le (show 0 ≤ n by omega)
          have en := at_get h1 (j := k) (by omega)
          rw [← getD_lt] at en
          rw [en]
          simp only [Option.bind_some, Int.toNat_natCast, Bool.true_and]
          by_cases g5 : s.l.getD k 0 = ((t.l.length : Nat) : Int)
          · rw [if_neg (fun h => h g5), decide_eq_true g5]
            simp only [Bool.true_and]
            obtain ⟨q, q1, q2⟩ := rows_ref (c := c) h1 h2 (by omega) (n := k) (by omega) g4
            rw [q1]
            rcases q2 with ⟨e, rfl⟩ | ⟨e, rfl⟩ <;> rw [e] <;> rfl
          · rw [if_pos g5, decide_eq_false g5]; rfl
        · rw [if_pos g2, decide_eq_false g2]; rfl
      · rw [if_pos (by omega), decide_eq_false g4]; simp
    · rw [if_pos (fun h => g3 (by omega)), decide_eq_false g3]; simp
  · rw [if_pos g1, decide_eq_false g1]; rfl
/-- The matrix, or, if it can't be, one without rows and columns. -/
def sureM (m : Mx) : Mx := if rightM m = true then m else (0, 0, ⟨true, 1, [0]⟩, nilS, nilS)
theorem pull_sure_eq {m : Mx} (h : OkM m) : pull_sure m = some (sureM m) := by
  have hR := csr_Right_eq h
  obtain ⟨n, c, s, t, v⟩ := m
  unfold pull_sure sureM
  simp only [hR, Option.bind_some]
  split <;> rfl
theorem ref07_Sure_eq {m : Mx} (h : OkM m) : ref07_Sure m = some (sureM m) := by
  have hR := ref07_Right_eq h
  obtain ⟨n, c, s, t, v⟩ := m
  unfold ref07_Sure sureM
  simp only [hR, Option.bind_some]
  split
  · rfl
  · rfl
theorem sureM_ok {m : Mx} (h : OkM m) : OkM (sureM m) := by
  unfold sureM
  split
  · exact h
  · exact ⟨.inr rfl, ok_nil, ok_nil, fun x hx => by simp [nilS] at hx, by simp, by simp [nilS], by simp [nilS]⟩
theorem sureM_right (m : Mx) : rightM (sureM m) = true := by unfold sureM; split; assumption; rfl
/-- What is known of a matrix that can be. -/
theorem rightM_spec {m : Mx} (h : rightM m = true) : (0 ≤ m.1 ∧ m.1 ≤ 4096) ∧ (0 ≤ m.2.1 ∧ m.2.1 ≤ 4096) ∧ (m.2.2.1.l.length : Int) = m.1 + 1 ∧ m.2.2.2.1.l.length = m.2.2.2.2.l.length ∧ m.2.2.2.1.l.length ≤ 65536 ∧ ∀ i : Nat, (i : Int) < m.1 → 0 ≤ m.2.2.1.l.getD i 0 ∧ m.2.2.1.l.getD i 0 ≤ m.2.2.1.l.getD (i + 1) 0 ∧ m.2.2.1.l.getD (i + 1) 0 ≤ m.2.2.2.1.l.length ∧ ascI (-1) m.2.1 (cutL m.2.2.2.1.l (m.2.2.1.l.getD i 0) (m.2.2.1.l.getD (i + 1) 0)) = true := by
  unfold rightM at h
  simp only [Bool.and_eq_true, decide_eq_true_eq, sizeF_iff] at h
  obtain ⟨h1, h2, h3, h4, h5, h6, h7, h8⟩ := h
  refine ⟨h1, h2, h3, h5, h6, fun i hi => ?_⟩
  have := all_range.1 h8 i (by omega)
  unfold rowOk at this
  simpa only [Bool.and_eq_true, decide_eq_true_eq] using this
abbrev Wd := Int × Int
abbrev Dn := Int × Sl Int × Sl Int
def stepS (r : Int) (h : Int → Option Int) (acc : Option Wd) (x : Int × Int) : Option Wd :=
  match h x.1 with
  | none => acc
  | some y => some (match acc with | none => ringMul r x.2 y | some a => ringAdd r a (ringMul r x.2 y))
/-- What a row comes to. -/
def rowSum (r : Int) (h : Int → Option Int) : List (Int × Int) → Option Wd → Option Wd
  | [], acc => acc
  | x :: l, acc => rowSum r h l (stepS r h acc x)
def accB : Option Wd → Bool
  | none => false
  | some _ => true
def accW : Option Wd → Wd
  | none => (0, 0)
  | some w => w
theorem row_gen {R : Type} {b : Bool × Int × Int × Int → Option ((Bool × Int × Int × Int) ⊕ ((Bool × Int × Int) ⊕ R))} {r : Int} {h : Int → Option Int} {items : List (Int × Int)} {f : Int}
    (hs : ∀ j acc (hj : j < items.length), b (accB acc, f + (j : Int), accW acc) = some (.inl (accB (stepS r h acc items[j]), f + ((j + 1 : Nat) : Int), accW (stepS r h acc items[j]))))
    (he : ∀ acc, b (accB acc, f + (items.length : Int), accW acc) = some (.inr (.inl (accB acc, accW acc)))) : loopO b (false, f, 0, 0) = some (.inl (accB (rowSum r h items none), accW (rowSum r h items none))) := by
  obtain ⟨q, q1, q2⟩ := loop_up (b := b) items.length (fun j a => ∃ acc, a = (accB acc, f + (j : Int), accW acc) ∧ rowSum r h (items.drop j) acc = rowSum r h items none) (fun q => q = .inl (accB (rowSum r h items none), accW (rowSum r h items none)))
    (by
      rintro j _ hj ⟨acc, rfl, ha⟩
      rw [List.drop_eq_getElem_cons hj] at ha
      exact .inl ⟨_, hs j acc hj, _, rfl, ha⟩)
    (by
      rintro _ ⟨acc, rfl, ha⟩
      rw [List.drop_length] at ha
      refine ⟨_, he acc, ?_⟩
      rw [← ha]; rfl) 0 (Nat.zero_le _) (false, f, 0, 0) ⟨none, by simp [accB, accW], by simp⟩
  rw [q1, q2]
/-- The items of a row. -/
def itemsM (m : Mx) (i : Nat) : List (Int × Int) := (cutL m.2.2.2.1.l (m.2.2.1.l.getD i 0) (m.2.2.1.l.getD (i + 1) 0)).zip (cutL m.2.2.2.2.l (m.2.2.1.l.getD i 0) (m.2.2.1.l.getD (i + 1) 0))
/-- What a row of a matrix that can be has. -/
structure RowAt (m : Mx) (i : Nat) (f t : Int) : Prop where
  f1 : atS 1 m.2.2.1 (i : Int) = some f
  t1 : atS 1 m.2.2.1 (IntKind.i64.wrap ((i : Int) + 1)) = some t
  len : ((itemsM m i).length : Int) = t - f
  get : ∀ j (hj : j < (itemsM m i).length), atS 1 m.2.2.2.1 (f + (j : Int)) = some (itemsM m i)[j].1 ∧ atS 1 m.2.2.2.2 (f + (j : Int)) = some (itemsM m i)[j].2 ∧ 0 ≤ (itemsM m i)[j].1 ∧ (itemsM m i)[j].1 < m.2.1 ∧ i64r (itemsM m i)[j].2 ∧ f + (j : Int) < t ∧ IntKind.i64.wrap (f + (j : Int) + 1) = f + ((j + 1 : Nat) : Int)
theorem row_at {m : Mx} (h : OkM m) (hr : rightM m = true) {i : Nat} (hi : (i : Int) < m.1) : ∃ f t, RowAt m i f t := by
  obtain ⟨r1, r2, r3, r4, r5, r6⟩ := rightM_spec hr
  obtain ⟨p1, p2, p3, p4⟩ := r6 i hi
  have e1 := at_get h.st (j := i) (by omega)
  have e2 := at_get h.st (j := i + 1) (by omega)
  rw [← getD_lt] at e1 e2
  have w1 : IntKind.i64.wrap ((i : Int) + 1) = ((i + 1 : Nat) : Int) := w_succ (n := m.1.toNat) (by omega) (by omega)
  refine ⟨m.2.2.1.l.getD i 0, m.2.2.1.l.getD (i + 1) 0, e1, by rw [w1]; exact e2, ?_, fun j hj => ?_⟩
  · unfold itemsM
    rw [List.length_zip, cutL_len ⟨p1, p2, p3⟩, cutL_len ⟨p1, p2, by omega⟩]; omega
  · have hlen : j < (m.2.2.1.l.getD (i + 1) 0).toNat - (m.2.2.1.l.getD i 0).toNat := by
      unfold itemsM at hj
      rw [List.length_zip, cutL_len ⟨p1, p2, p3⟩] at hj; omega
    have g1 := cutL_get (l := m.2.2.2.1.l) ⟨p1, p2, p3⟩ hlen
    have g2 := cutL_get (l := m.2.2.2.2.l) (f := m.2.2.1.l.getD i 0) (t := m.2.2.1.l.getD (i + 1) 0) ⟨p1, p2, by omega⟩ hlen
    have hc := ascI_iff.1 p4 j (by rw [cutL_len ⟨p1, p2, p3⟩]; exact hlen)
    have hz : (itemsM m i)[j] = (m.2.2.2.1.l[(m.2.2.1.l.getD i 0).toNat + j]'(by omega), m.2.2.2.2.l[(m.2.2.1.l.getD i 0).toNat + j]'(by omega)) := by
      simp only [itemsM, List.getElem_zip, g1, g2]
    rw [hz]
    simp only
    rw [g1] at hc
    have a1 := at_get h.co (j := (m.2.2.1.l.getD i 0).toNat + j) (by omega)
    have a2 := at_get h.va (j := (m.2.2.1.l.getD i 0).toNat + j) (by omega)
    rw [show (((m.2.2.1.l.getD i 0).toNat + j : Nat) : Int) = m.2.2.1.l.getD i 0 + (j : Int) by omega] at a1 a2
    refine ⟨a1, a2, hc.1, hc.2.1, ?_, by omega, ?_⟩
    · exact h.v64 _ (List.getElem_mem _)
    · rw [wrap64 (by omega) (by omega)]; omega
theorem denB_i64 {d : Dn} (h : OkD d) {k y : Int} (hk : denB d k = some y) : i64r y := by
  unfold denB at hk
  split at hk
  · simp only [Option.some.injEq] at hk
    rw [← hk, List.getD_eq_getElem?_getD]
    cases hg : d.2.2.l[k.toNat]? with
    | none => simp [i64r]
    | some x => exact h.v64 x (List.mem_of_getElem? hg)
  · simp at hk
/-- A row, by the program. -/
theorem row_pull {r : Int} {m : Mx} {d : Dn} (hd : OkD d) (hrd : rightD d = true) (hc : d.1 = m.2.1) {i : Nat} {f t : Int} (R : RowAt m i f t) {b : Bool × Int × Int × Int → Option ((Bool × Int × Int × Int) ⊕ ((Bool × Int × Int) ⊕ Empty))}
    (hb : b = pull_Sums_b5 r d.2.1 d.2.2 m.2.2.1 m.2.2.2.1 m.2.2.2.2 (i : Int) ∨ b = pull_Sums_b6 r d.2.1 d.2.2 m.2.2.1 m.2.2.2.1 m.2.2.2.2 (i : Int)) : loopO b (false, f, 0, 0) = some (.inl (accB (rowSum r (denB d) (itemsM m i) none), accW (rowSum r (denB d) (itemsM m i) none))) := by
  obtain ⟨r1, r2, r3, r4, r5⟩ := rightD_spec hrd
  refine row_gen (fun j acc hj => ?_) fun acc => ?_
  · obtain ⟨g1, g2, g3, g4, g5, g6, g7⟩ := R.get j hj
    generalize (itemsM m i)[j] = x at *
    have hh := flags_Has_eq d.2.1 x.1.toNat hd.has hd.bits (by omega)
    rw [show ((x.1.toNat : Nat) : Int) = x.1 by omega] at hh
    have hv := at_get (s := d.2.2) hd.vals (j := x.1.toNat) (by omega)
    rw [← getD_lt, show ((x.1.toNat : Nat) : Int) = x.1 by omega] at hv
    have key : ∀ y, denB d x.1 = some y → ring_Mul r x.2 y = some (ringMul r x.2 y) := fun y hy => ring_Mul_eq r g5 (denB_i64 hd hy)
    have hden : denB d x.1 = if hasB d.2.1.l x.1.toNat = true then some (d.2.2.l.getD x.1.toNat 0) else none := by
      unfold denB
      by_cases hx : hasB d.2.1.l x.1.toNat = true
      · rw [if_pos ⟨g3, hx⟩, if_pos hx]
      · rw [if_neg (fun e => hx e.2), if_neg hx]
    have go : b (accB acc, f + (j : Int), accW acc) = some (.inl (accB (stepS r (denB d) acc x), f + ((j + 1 : Nat) : Int), accW (stepS r (denB d) acc x))) := by
      unfold stepS
      rcases hb with rfl | rfl
      · cases hx : hasB d.2.1.l x.1.toNat with
        | false =>
          rw [hx] at hden hh
          rw [show denB d x.1 = none by rw [hden]; simp]
          simp only [pull_Sums_b5, R.t1, g1, g7, hh, Option.bind_some, if_pos g6]
          rfl
        | true =>
          rw [hx] at hden hh
          rw [if_pos rfl] at hden
          have hk := key _ hden
          rw [hden]
          simp only [pull_Sums_b5, R.t1, g1, g2, g7, hh, hv, Option.bind_some, if_pos g6, hk]
          cases acc with
          | none => rfl
          | some w => simp only [accB, accW, if_true, ring_Add_eq, Option.bind_some]
      · cases hx : hasB d.2.1.l x.1.toNat with
        | false =>
          rw [hx] at hden hh
          rw [show denB d x.1 = none by rw [hden]; simp]
          simp only [pull_Sums_b6, R.t1, g1, g7, hh, Option.bind_some, if_pos g6]
          rfl
        | true =>
          rw [hx] at hden hh
          rw [if_pos rfl] at hden
          have hk := key _ hden
          rw [hden]
          simp only [pull_Sums_b6, R.t1, g1, g2, g7, hh, hv, Option.bind_some, if_pos g6, hk]
          cases acc with
          | none => rfl
          | some w => simp only [accB, accW, if_true, ring_Add_eq, Option.bind_some]
    exact go
  · have hn : ¬ f + ((itemsM m i).length : Int) < t := by rw [R.len]; omega
    rcases hb with rfl | rfl
    · simp only [pull_Sums_b5, R.t1, Option.bind_some, if_neg hn]
    · simp only [pull_Sums_b6, R.t1, Option.bind_some, if_neg hn]
abbrev RS := (Bool × List (Int × (Int × Int)) × Int) ⊕ (List (Int × (Int × Int)) ⊕ (Sl (Int × (Int × Int)) × Int))
/-- A row, by the reference. -/
theorem row_ref13 {r : Int} {m : Mx} {d : Dn} (hd : OkD d) (hrd : rightD d = true) {i : Nat} {f t : Int} (R : RowAt m i f t) {b : Bool × Int × Int × Int → Option ((Bool × Int × Int × Int) ⊕ ((Bool × Int × Int) ⊕ RS))}
    (hb : b = ref13_Sums_b2 r m.2.2.1 m.2.2.2.1 m.2.2.2.2 d.1 (mo 2 (backL d.2.1.l d.2.2.l)) (i : Int) ∨ b = ref13_Sums_b3 r m.2.2.1 m.2.2.2.1 m.2.2.2.2 d.1 (mo 2 (backL d.2.1.l d.2.2.l)) (i : Int)) : loopO b (false, f, 0, 0) = some (.inl (accB (rowSum r (denB d) (itemsM m i) none), accW (rowSum r (denB d) (itemsM m i) none))) := by
  refine row_gen (fun j acc hj => ?_) fun acc => ?_
  · obtain ⟨g1, g2, g3, g4, g5, g6, g7⟩ := R.get j hj
    generalize (itemsM m i)[j] = x at *
    have hget := ref09_Get_eq d.1 (mo 2 (backL d.2.1.l d.2.2.l)) x.1 (ok_mo _) (back_right hrd)
    rw [mo_l, back_get d] at hget
    have key : ∀ y, denB d x.1 = some y → ref02_Mul r x.2 y = some (ringMul r x.2 y) := fun y hy => ref02_Mul_eq r g5 (denB_i64 hd hy)
    unfold stepS
    rcases hb with rfl | rfl
    · cases hx : denB d x.1 with
      | none =>
        rw [hx] at hget
        simp only [ref13_Sums_b2, R.t1, g1, g7, hget, encO, Option.bind_some, if_pos g6]
        rfl
      | some y =>
        rw [hx] at hget
        simp only [ref13_Sums_b2, R.t1, g1, g2, g7, hget, encO, Option.bind_some, if_pos g6, key y hx]
        cases acc with
        | none => rfl
        | some w => simp only [accB, accW, if_true, ref02_Add_eq, Option.bind_some]
    · cases hx : denB d x.1 with
      | none =>
        rw [hx] at hget
        simp only [ref13_Sums_b3, R.t1, g1, g7, hget, encO, Option.bind_some, if_pos g6]
        rfl
      | some y =>
        rw [hx] at hget
        simp only [ref13_Sums_b3, R.t1, g1, g2, g7, hget, encO, Option.bind_some, if_pos g6, key y hx]
        cases acc with
        | none => rfl
        | some w => simp only [accB, accW, if_true, ref02_Add_eq, Option.bind_some]
  · have hn : ¬ f + ((itemsM m i).length : Int) < t := by rw [R.len]; omega
    rcases hb with rfl | rfl
    · simp only [ref13_Sums_b2, R.t1, Option.bind_some, if_neg hn]
    · simp only [ref13_Sums_b3, R.t1, Option.bind_some, if_neg hn]
/-- What the first rows that are asked come to. -/
def sumI (r : Int) (h : Int → Option Int) (m : Mx) (ask : Nat → Bool) (i : Nat) : Option (Int × Wd) := if ask i = true then (rowSum r h (itemsM m i) none).map fun w => ((i : Int), w) else none
def sumsL (r : Int) (h : Int → Option Int) (m : Mx) (ask : Nat → Bool) (n : Nat) : List (Int × Wd) := (List.range n).filterMap (sumI r h m ask)
theorem sumsL_succ (r : Int) (h : Int → Option Int) (m : Mx) (ask : Nat → Bool) (n : Nat) : sumsL r h m ask (n + 1) = sumsL r h m ask n ++ (sumI r h m ask n).toList := by
  unfold sumsL
  rw [List.range_succ, List.filterMap_append]
  congr 1
  all_goals (cases hs : sumI r h m ask n <;> simp [hs])
theorem sumsL_len (r : Int) (h : Int → Option Int) (m : Mx) (ask : Nat → Bool) (n : Nat) : (sumsL r h m ask n).length ≤ n := by
  unfold sumsL
  have := List.length_filterMap_le (sumI r h m ask) (List.range n)
  simpa using this
def sureD (d : Dn) : Dn := if rightD d = true then d else (0, nilS, nilS)
theorem sureD_right (d : Dn) : rightD (sureD d) = true := by unfold sureD; split; assumption; rfl
theorem sureD_ok {d : Dn} (h : OkD d) : OkD (sureD d) := by
  unfold sureD
  split
  · exact h
  · exact ⟨ok_nil, fun x hx => by simp [nilS] at hx, ok_nil, fun x hx => by simp [nilS] at hx, by simp [nilS], by simp [nilS]⟩
/-- Which rows are asked. -/
def askB (ws : List Int) (o : Bool) (i : Nat) : Bool := hasB ws i != o
def sumsV (r : Int) (m : Mx) (d : Dn) (ws : List Int) (o : Bool) : Sl (Int × Wd) × Int :=
  if okR r = true then (if (sureD d).1 = (sureM m).2.1 then (mo 3 (sumsL r (denB (sureD d)) (sureM m) (askB ws o) (sureM m).1.toNat), 0) else (nilS, 4)) else (nilS, 8)
theorem app_sum {l : List (Int × Wd)} (hl : l.length ≤ 5000) (x : Int × Wd) : app l [x] = some (l ++ [x]) := app_ok (by simp; unfold bound; omega)
theorem sums_pull {r : Int} {m : Mx} {d : Dn} (hm : OkM m) (hrm : rightM m = true) (hd : OkD d) (hrd : rightD d = true) (hc : d.1 = m.2.1) {s : Sl Int} (hs : okS 1 s) (hu : u64s s.l) (o : Bool) :
    loopO (pull_Sums_b4 r d.2.1 d.2.2 s m.1 m.2.2.1 m.2.2.2.1 m.2.2.2.2) (0, o, []) = some (.inl (sumsL r (denB d) m (askB s.l o) m.1.toNat)) := by
  obtain ⟨r1, r2, r3, r4, r5, r6⟩ := rightM_spec hrm
  obtain ⟨q, q1, q2⟩ := loop_up (b := pull_Sums_b4 r d.2.1 d.2.2 s m.1 m.2.2.1 m.2.2.2.1 m.2.2.2.2) m.1.toNat (fun j a => a = ((j : Int), o, sumsL r (denB d) m (askB s.l o) j)) (fun q => q = .inl (sumsL r (denB d) m (askB s.l o) m.1.toNat))
    (by
      rintro j _ hj rfl
      have hjm : (j : Int) < m.1 := by omega
      obtain ⟨f, t, R⟩ := row_at hm hrm hjm
      have hh := flags_Has_eq s j hs hu (by omega)
      have h5 := row_pull (r := r) hd hrd hc R (.inl rfl)
      have h6 := row_pull (r := r) hd hrd hc R (.inr rfl)
      have hlen := sumsL_len r (denB d) m (askB s.l o) j
      have hap := fun x => app_sum (l := sumsL r (denB d) m (askB s.l o) j) (by omega) x
      simp only [pull_Sums_b4, hh, R.f1, h5, h6, Option.bind_some, Sum.elim_inl, w_succ hj (by omega), if_pos hjm, hap]
      rw [sumsL_succ]
      refine .inl ?_
      have hI : sumI r (denB d) m (askB s.l o) j = if (hasB s.l j != o) = true then (rowSum r (denB d) (itemsM m j) none).map (fun w => ((j : Int), w)) else none := rfl
      rw [hI]
      cases hb : hasB s.l j <;> cases o <;> cases hx : rowSum r (denB d) (itemsM m j) none <;> exact ⟨_, rfl, by simp [accW]⟩)
    (by
      rintro _ rfl
      refine ⟨_, if_neg (by omega), rfl⟩) 0 (Nat.zero_le _) (0, o, []) rfl
  rw [q1, q2]
theorem sums_ref {r : Int} {m : Mx} {d : Dn} (hm : OkM m) (hrm : rightM m = true) (hd : OkD d) (hrd : rightD d = true) {s : Sl Int} (hs : okS 1 s) (hu : u64s s.l) (o : Bool) :
    loopO (ref13_Sums_b1 r s m.1 m.2.2.1 m.2.2.2.1 m.2.2.2.2 d.1 (mo 2 (backL d.2.1.l d.2.2.l))) (o, [], 0) = some (.inl (sumsL r (denB d) m (askB s.l o) m.1.toNat)) := by
  obtain ⟨r1, r2, r3, r4, r5, r6⟩ := rightM_spec hrm
  obtain ⟨q, q1, q2⟩ := loop_up (b := ref13_Sums_b1 r s m.1 m.2.2.1 m.2.2.2.1 m.2.2.2.2 d.1 (mo 2 (backL d.2.1.l d.2.2.l))) m.1.toNat (fun j a => a = (o, sumsL r (denB d) m (askB s.l o) j, (j : Int))) (fun q => q = .inl (sumsL r (denB d) m (askB s.l o) m.1.toNat))
    (by
      rintro j _ hj rfl
      have hjm : (j : Int) < m.1 := by omega
      obtain ⟨f, t, R⟩ := row_at hm hrm hjm
      have hh := ref03_Has_eq s j hs hu (by omega)
      have h5 := row_ref13 (r := r) hd hrd R (.inl rfl)
      have h6 := row_ref13 (r := r) hd hrd R (.inr rfl)
      have hlen := sumsL_len r (denB d) m (askB s.l o) j
      have hap := fun x => app_sum (l := sumsL r (denB d) m (askB s.l o) j) (by omega) x
      simp only [ref13_Sums_b1, hh, R.f1, h5, h6, Option.bind_some, Sum.elim_inl, w_succ hj (by omega), if_pos hjm, hap]
      rw [sumsL_succ]
      refine .inl ?_
      have hI : sumI r (denB d) m (askB s.l o) j = if (hasB s.l j != o) = true then (rowSum r (denB d) (itemsM m j) none).map (fun w => ((j : Int), w)) else none := rfl
      rw [hI]
      cases hb : hasB s.l j <;> cases o <;> cases hx : rowSum r (denB d) (itemsM m j) none <;> exact ⟨_, rfl, by simp [accW]⟩)
    (by
      rintro _ rfl
      refine ⟨_, if_neg (by omega), rfl⟩) 0 (Nat.zero_le _) (o, [], 0) rfl
  rw [q1, q2]
/-- Without columns all rows are empty. -/
theorem items_none {m : Mx} (hrm : rightM m = true) (h0 : m.2.1 = 0) {i : Nat} (hi : (i : Int) < m.1) : itemsM m i = [] := by
  obtain ⟨r1, r2, r3, r4, r5, r6⟩ := rightM_spec hrm
  obtain ⟨p1, p2, p3, p4⟩ := r6 i hi
  unfold itemsM
  cases hl : cutL m.2.2.2.1.l (m.2.2.1.l.getD i 0) (m.2.2.1.l.getD (i + 1) 0) with
  | nil => rfl
  | cons x l =>
    exfalso
    have := ascI_iff.1 p4 0 (by rw [hl]; simp)
    omega
theorem sums_none {r : Int} {m : Mx} {h : Int → Option Int} (hrm : rightM m = true) (h0 : m.2.1 = 0) (ask : Nat → Bool) : sumsL r h m ask m.1.toNat = [] := by
  unfold sumsL
  rw [List.filterMap_eq_nil_iff]
  intro i hi
  rw [List.mem_range] at hi
  unfold sumI
  rw [items_none hrm h0 (by omega)]
  simp [rowSum]
theorem sums_pull0 {r : Int} {m : Mx} (hm : OkM m) (hrm : rightM m = true) (h0 : m.2.1 = 0) {s : Sl Int} (hs : okS 1 s) (hu : u64s s.l) (o : Bool) : loopO (pull_Sums_b1 s m.1 m.2.2.1 m.2.2.2.1 m.2.2.2.2) (0, o) = some (.inl ()) := by
  obtain ⟨r1, r2, r3, r4, r5, r6⟩ := rightM_spec hrm
  obtain ⟨q, q1, q2⟩ := loop_up (b := pull_Sums_b1 s m.1 m.2.2.1 m.2.2.2.1 m.2.2.2.2) m.1.toNat (fun j a => a = ((j : Int), o)) (fun q => q = .inl ())
    (by
      rintro j _ hj rfl
      have hjm : (j : Int) < m.1 := by omega
      obtain ⟨f, t, R⟩ := row_at hm hrm hjm
      have hh := flags_Has_eq s j hs hu (by omega)
      have hl := R.len
      rw [items_none hrm h0 hjm] at hl
      simp only [List.length_nil] at hl
      have h2 : loopO (pull_Sums_b2 m.2.2.1 m.2.2.2.1 m.2.2.2.2 (j : Int)) f = some (.inl ()) := loopO_done (by simp only [pull_Sums_b2, R.t1, Option.bind_some]; rw [if_neg (by omega)])
      have h3 : loopO (pull_Sums_b3 m.2.2.1 m.2.2.2.1 m.2.2.2.2 (j : Int)) f = some (.inl ()) := loopO_done (by simp only [pull_Sums_b3, R.t1, Option.bind_some]; rw [if_neg (by omega)])
      simp only [pull_Sums_b1, hh, R.f1, h2, h3, Option.bind_some, Sum.elim_inl, w_succ hj (by omega), if_pos hjm]
      refine .inl ?_
      cases hb : hasB s.l j <;> cases o <;> exact ⟨_, rfl, rfl⟩)
    (by
      rintro _ rfl
      refine ⟨_, if_neg (by omega), rfl⟩) 0 (Nat.zero_le _) (0, o) rfl
  rw [q1, q2]
theorem pull_Sums_eq {r : Int} {m : Mx} {d : Dn} (hm : OkM m) (hd : OkD d) {s : Sl Int} (hs : okS 1 s) (hu : u64s s.l) (o : Bool) : pull_Sums r m d s o = some (sumsV r m d s.l o) := by
  have e1 := pull_sure_eq hm
  have e2 := devec_Right_eq hd
  have hm' := sureM_ok hm
  have hrm := sureM_right m
  have hd' := sureD_ok hd
  have hrd := sureD_right d
  obtain ⟨m1, m2, m3, m4, m5⟩ := m
  obtain ⟨d1, d2, d3⟩ := d
  unfold pull_Sums sumsV
  simp only [ring_Is_eq, Option.bind_some]
  by_cases c : okR r = true
  · have c' : (decide (1 ≤ r) && decide (r ≤ 5)) = true := c
    rw [if_pos c', if_pos c, e1]
    simp only [Option.bind_some, e2]
    generalize sureM (m1, m2, m3, m4, m5) = u at hm' hrm ⊢
    cases hr : rightD (d1, d2, d3) with
    | true =>
      rw [show sureD (d1, d2, d3) = (d1, d2, d3) by unfold sureD; rw [if_pos hr]] at hd' hrd ⊢
      simp only [if_true]
      by_cases hn : d1 = u.2.1
      · rw [if_neg (fun h => h hn), if_pos hn]
        have := sums_pull (r := r) hm' hrm hd' hrd hn hs hu o
        simp only at this
        rw [this]; rfl
      · rw [if_pos hn, if_neg hn]; rfl
    | false =>
      rw [show sureD (d1, d2, d3) = (0, nilS, nilS) by unfold sureD; rw [if_neg (by rw [hr]; simp)]] at hd' hrd ⊢
      simp only [Bool.false_eq_true, if_false]
      by_cases hn : (0 : Int) = u.2.1
      · rw [if_neg (fun h => h hn), if_pos hn]
        have := sums_pull0 (r := r) hm' hrm hn.symm hs hu o
        rw [this, sums_none hrm hn.symm]; rfl
      · rw [if_pos hn, if_neg hn]; rfl
  · have c' : ¬ (decide (1 ≤ r) && decide (r ≤ 5)) = true := c
    rw [if_neg c', if_neg c]; rfl
theorem back_sure (d : Dn) : backV d = ((sureD d).1, mo 2 (backL (sureD d).2.1.l (sureD d).2.2.l)) := by
  unfold backV sureD
  split <;> rfl
theorem ref13_Sums_eq {r : Int} {m : Mx} {d : Dn} (hm : OkM m) (hd : OkD d) {s : Sl Int} (hs : okS 1 s) (hu : u64s s.l) (o : Bool) : ref13_Sums r m d s o = some (sumsV r m d s.l o) := by
  have e1 := ref07_Sure_eq hm
  have e2 := ref10_Back_eq hd
  have hm' := sureM_ok hm
  have hrm := sureM_right m
  have hd' := sureD_ok hd
  have hrd := sureD_right d
  rw [back_sure] at e2
  obtain ⟨m1, m2, m3, m4, m5⟩ := m
  obtain ⟨d1, d2, d3⟩ := d
  unfold ref13_Sums sumsV
  simp only [e1, e2, Option.bind_some, ref02_Is_eq]
  generalize sureM (m1, m2, m3, m4, m5) = u at hm' hrm ⊢
  generalize sureD (d1, d2, d3) = v at hd' hrd ⊢
  by_cases c : okR r = true
  · have c' : (decide (1 ≤ r) && decide (r ≤ 5)) = true := c
    rw [if_pos c', if_pos c]
    by_cases hn : v.1 = u.2.1
    · rw [if_neg (fun h => h hn), if_pos hn, sums_ref hm' hrm hd' hrd hs hu o]; rfl
    · rw [if_pos hn, if_neg hn]; rfl
  · have c' : ¬ (decide (1 ≤ r) && decide (r ≤ 5)) = true := c
    rw [if_neg c', if_neg c]; rfl
theorem sameSums_refl (s : Sl (Int × Wd)) (hok : okS 3 s) (hl : s.l.length ≤ 9223372036854775807) : ref13_SameSums s s = some true := by
  unfold ref13_SameSums
  rw [if_neg (by simp)]
  obtain ⟨q, h1, h2⟩ := loop_up (b := ref13_SameSums_b1 s s) s.l.length (fun j a => a = (j : Int)) (fun q => q = .inl ())
    (by
      rintro j _ hj rfl
      simp only [ref13_SameSums_b1, at_get hok hj, Option.bind_some, w_succ hj (by omega)]
      rw [if_pos (by omega)]
      exact .inl ⟨_, if_pos (by simp), rfl⟩)
    (by
      rintro _ rfl
      exact ⟨_, if_neg (by omega), rfl⟩) 0 (Nat.zero_le _) 0 rfl
  subst h2
  rw [h1]; rfl
theorem sumsV_ok (r : Int) (m : Mx) (d : Dn) (ws : List Int) (o : Bool) : okS 3 (sumsV r m d ws o).1 ∧ (sumsV r m d ws o).1.l.length ≤ 4096 := by
  have hn := (rightM_spec (sureM_right m)).1
  unfold sumsV
  split
  · split
    · refine ⟨ok_mo _, ?_⟩
      have := sumsL_len r (denB (sureD d)) (sureM m) (askB ws o) (sureM m).1.toNat
      simp only [mo_l]; omega
    · exact ⟨ok_nil, by simp [nilS]⟩
  · exact ⟨ok_nil, by simp [nilS]⟩
theorem sums_same (r : Int) (m : Mx) (d : Dn) (ws : List Int) (o : Bool) : ref13_SameSums (sumsV r m d ws o).1 (sumsV r m d ws o).1 = some true := sameSums_refl _ (sumsV_ok r m d ws o).1 (by have := (sumsV_ok r m d ws o).2; omega)
theorem i64s_of {s : Sl Int} (h : SlW 1 (fun x => inK .i64 x) s) : ∀ x ∈ s.l, i64r x := fun x hx => i64r_of (h.2.2.2 x hx)
theorem okM_of {m : Mx} (h3 : SlW 1 (fun x => inK .i64 x) m.2.2.1) (h4 : SlW 1 (fun x => inK .i64 x) m.2.2.2.1) (h5 : SlW 1 (fun x => inK .i64 x) m.2.2.2.2) : OkM m := ⟨h3.ok, h4.ok, h5.ok, i64s_of h5, h3.2.2.1, h4.2.2.1, h5.2.2.1⟩
theorem okD_of {d : Dn} (h2 : SlW 1 (fun x => inK .u64 x) d.2.1) (h3 : SlW 1 (fun x => inK .i64 x) d.2.2) : OkD d := ⟨h2.ok, u64s_of h2, h3.ok, i64s_of h3, h2.2.2.1, h3.2.2.1⟩
theorem law13_PullRaw_true (r : Int) (hr : inK .i64 r) (m : Mx) (hm : inK .i64 m.1 ∧ inK .i64 m.2.1 ∧ SlW 1 (fun x => inK .i64 x) m.2.2.1 ∧ SlW 1 (fun x => inK .i64 x) m.2.2.2.1 ∧ SlW 1 (fun x => inK .i64 x) m.2.2.2.2) (d : Dn) (hd : inK .i64 d.1 ∧ SlW 1 (fun x => inK .u64 x) d.2.1 ∧ SlW 1 (fun x => inK .i64 x) d.2.2) : law13_PullRaw r m d = some true := by
  obtain ⟨_, _, h3, h4, h5⟩ := hm
  obtain ⟨_, k2, k3⟩ := hd
  have OM := okM_of h3 h4 h5
  have OD := okD_of k2 k3
  have e1 := pull_Sums_eq (r := r) OM OD (s := nilS) ok_nil (fun x hx => by simp [nilS] at hx) true
  have e2 := ref13_Sums_eq (r := r) OM OD (s := nilS) ok_nil (fun x hx => by simp [nilS] at hx) true
  have e3 := sums_same r m d (nilS : Sl Int).l true
  obtain ⟨m1, m2, m3, m4, m5⟩ := m
  obtain ⟨d1, d2, d3⟩ := d
  unfold law13_PullRaw
  simp only [FL_eq3, Option.bind_some]
  split
  · rfl
  split
  · rfl
  split
  · rfl
  split
  · rfl
  rw [show (⟨false, 0, []⟩ : Sl Int) = nilS from rfl, e1, e2]
  simp only [Option.bind_some, if_true, e3]
end Ev
end Go.Proofs.YtlcfdmjkbaegpaaDoor
