/- Mathematics of rings and folds. Over the functions on data; no number of a type or function is named. -/
import Derived.Test.YtioagbejilllfaaLf1
import Derived.Test.YtioagbejilllfaaLf2
import Derived.Test.YtioagbejilllfaaMv1
namespace Go.Proofs.Ytioagbejilllfaa
namespace Ev
open Go
set_option linter.unusedVariables false
set_option linter.unusedSimpArgs false
def i64r (n : Int) : Prop := -9223372036854775808 ≤ n ∧ n ≤ 9223372036854775807
def u64r (n : Int) : Prop := 0 ≤ n ∧ n ≤ 18446744073709551615
theorem i64r_of {n : Int} (h : inK .i64 n) : i64r n := by simpa [inK, i64r, Lit.wf, IntKind.min, IntKind.max, IntKind.signed, IntKind.bits] using h
theorem WV.ok {v : Int × Sl It} (h : WV v) : okS 2 v.2 := h.2.ok
theorem WV.vals {v : Int × Sl It} (h : WV v) : ∀ x ∈ v.2.l, i64r x.2 := fun x hx => i64r_of (h.2.2.2.2 x hx).2
theorem wrap_u64 (n : Int) : IntKind.u64.wrap n = n % 18446744073709551616 := by
  simp [IntKind.wrap, IntKind.signed, IntKind.bits]
theorem u64_wrap (n : Int) : u64r (IntKind.u64.wrap n) := by rw [wrap_u64]; unfold u64r; omega
theorem u64_id {n : Int} (h : u64r n) : IntKind.u64.wrap (IntKind.i64.wrap n) = n := by rw [wrap_u64, IntKind.wrap_i64]; unfold u64r at h; omega
def ofW (n : Int) : Int × Int := (if n < 0 then -1 else 0, IntKind.u64.wrap n)
theorem wide_Of_eq {n : Int} (h : i64r n) : wide_Of n = some (ofW n) := by
  unfold wide_Of shr1 ofW shrI
  rw [if_pos (by omega)]
  have e : (2 : Int) ^ (min (63 : Int).toNat IntKind.i64.bits) = 9223372036854775808 := by decide
  rw [e]
  unfold i64r at h
  have : n.fdiv 9223372036854775808 = if n < 0 then -1 else 0 := by
    rw [Int.fdiv_eq_ediv_of_nonneg _ (by omega)]
    split <;> omega
  rw [this]; rfl
theorem ref01_Of_eq (n : Int) : ref01_Of n = some (ofW n) := by
  unfold ref01_Of ofW
  by_cases h : n < 0
  · simp only [if_pos h]
  · simp only [if_neg h]
theorem ofW_lo (n : Int) : u64r (ofW n).2 := u64_wrap n
/-- Which of two is less. -/
def lessW (a b : Int × Int) : Bool := decide (a.1 < b.1) || (decide (a.1 = b.1) && decide (a.2 < b.2))
theorem wide_Compare_lt (a b : Int × Int) : ∃ c, wide_Compare a b = some c ∧ (c < 0 ↔ lessW a b = true) := by
  obtain ⟨a1, a2⟩ := a; obtain ⟨b1, b2⟩ := b
  unfold wide_Compare lessW
  simp only
  by_cases h1 : a1 = b1 ∧ a2 = b2
  · rw [if_pos h1]; exact ⟨0, rfl, by simp; omega⟩
  rw [if_neg h1]
  by_cases h2 : a1 < b1
  · rw [if_pos h2]; exact ⟨-1, rfl, by simp [h2]⟩
  rw [if_neg h2]
  by_cases h3 : a1 = b1
  · rw [if_pos h3]
    by_cases h4 : a2 < b2
    · rw [if_pos h4]; exact ⟨-1, rfl, by simp [h3, h4]⟩
    · rw [if_neg h4]; exact ⟨1, rfl, by simp [h3]; omega⟩
  · rw [if_neg h3]; exact ⟨1, rfl, by simp [h3]; omega⟩
theorem ref01_Compare_lt (a b : Int × Int) : ∃ c, ref01_Compare a b = some c ∧ (c < 0 ↔ lessW a b = true) := by
  obtain ⟨a1, a2⟩ := a; obtain ⟨b1, b2⟩ := b
  unfold ref01_Compare lessW
  simp only
  by_cases h2 : a1 < b1
  · rw [if_pos h2]; exact ⟨-1, rfl, by simp [h2]⟩
  rw [if_neg h2]
  by_cases h3 : a1 = b1
  · rw [if_pos h3]
    by_cases h4 : a2 < b2
    · rw [if_pos h4]; exact ⟨-1, rfl, by simp [h3, h4]⟩
    · rw [if_neg h4]
      by_cases h5 : a1 = b1 ∧ a2 = b2
      · rw [if_pos h5]; exact ⟨0, rfl, by simp [h3]; omega⟩
      · rw [if_neg h5]; exact ⟨1, rfl, by simp [h3]; omega⟩
  · rw [if_neg h3]
    by_cases h5 : a1 = b1 ∧ a2 = b2
    · exact absurd h5.1 h3
    · rw [if_neg h5]; exact ⟨1, rfl, by simp [h3]; omega⟩
def lessrW (a b : Int × Int) : Int × Int := if lessW b a = true then b else a
def truthW (b : Bool) : Int × Int := if b = true then (0, 1) else (0, 0)
def addW (a b : Int × Int) : Int × Int := if IntKind.u64.wrap (a.2 + b.2) < a.2 then (IntKind.i64.wrap (IntKind.i64.wrap (a.1 + b.1) + 1), IntKind.u64.wrap (a.2 + b.2)) else (IntKind.i64.wrap (a.1 + b.1), IntKind.u64.wrap (a.2 + b.2))
/-- What two come to, by a ring. -/
def ringAdd (r : Int) (a b : Int × Int) : Int × Int :=
  if r = 1 ∨ r = 3 ∨ r = 4 then lessrW a b else if r = 2 then truthW (!(decide (a.1 = 0 ∧ a.2 = 0) && decide (b.1 = 0 ∧ b.2 = 0))) else if r = 5 then addW a b else (0, 0)
theorem ring_lesser_eq (a b : Int × Int) : ring_lesser a b = some (lessrW a b) := by
  obtain ⟨a1, a2⟩ := a; obtain ⟨b1, b2⟩ := b
  unfold ring_lesser lessrW
  obtain ⟨c, h1, h2⟩ := wide_Compare_lt (b1, b2) (a1, a2)
  simp only [h1, Option.bind_some]
  by_cases hc : c < 0
  · rw [if_pos hc, if_pos (h2.1 hc)]
  · rw [if_neg hc, if_neg (fun h => hc (h2.2 h))]
theorem ring_truth_eq (b : Bool) : ring_truth b = some (truthW b) := by
  unfold ring_truth truthW
  cases b
  · rfl
  · simp only [if_true, wide_Of_eq (show i64r 1 by unfold i64r; omega), Option.bind_some]; rfl
theorem wide_Add_eq (a b : Int × Int) : wide_Add a b = some (addW a b) := by
  obtain ⟨a1, a2⟩ := a; obtain ⟨b1, b2⟩ := b
  unfold wide_Add addW
  simp only
  split <;> rfl
theorem ref01_Add_eq (a b : Int × Int) : ref01_Add a b = some (addW a b) := by
  obtain ⟨a1, a2⟩ := a; obtain ⟨b1, b2⟩ := b
  unfold ref01_Add addW
  simp only
  split <;> rfl
theorem ring_Add_eq (r : Int) (a b : Int × Int) : ring_Add r a b = some (ringAdd r a b) := by
  obtain ⟨a1, a2⟩ := a; obtain ⟨b1, b2⟩ := b
  unfold ring_Add ringAdd
  simp only [ring_lesser_eq, ring_truth_eq, wide_Add_eq, Option.bind_some]
  by_cases h1 : r = 1
  · simp only [if_pos h1, if_pos (show r = 1 ∨ r = 3 ∨ r = 4 from .inl h1)]
  by_cases h3 : r = 3
  · simp only [if_neg h1, if_pos h3, if_pos (show r = 1 ∨ r = 3 ∨ r = 4 from .inr (.inl h3))]
  by_cases h4 : r = 4
  · simp only [if_neg h1, if_neg h3, if_pos h4, if_pos (show r = 1 ∨ r = 3 ∨ r = 4 from .inr (.inr h4))]
  simp only [if_neg h1, if_neg h3, if_neg h4, if_neg (show ¬ (r = 1 ∨ r = 3 ∨ r = 4) by omega)]
  by_cases h2 : r = 2
  · simp only [if_pos h2]
    by_cases ha : a1 = 0 ∧ a2 = 0
    · by_cases hb : b1 = 0 ∧ b2 = 0
      · simp [if_pos ha, if_pos hb, ha, hb]
      · rw [if_pos ha, if_neg hb, decide_eq_true ha, decide_eq_false hb]; rfl
    · rw [if_neg ha, decide_eq_false ha]; rfl
  · simp only [if_neg h2]
    by_cases h5 : r = 5
    · simp only [if_pos h5]
    · simp only [if_neg h5]
theorem ref02_truth_eq (b : Bool) : ref02_truth b = some (truthW b) := by unfold ref02_truth truthW; cases b <;> rfl
theorem ref02_Add_eq (r : Int) (a b : Int × Int) : ref02_Add r a b = some (ringAdd r a b) := by
  obtain ⟨a1, a2⟩ := a; obtain ⟨b1, b2⟩ := b
  have hl : ((ref01_Compare (b1, b2) (a1, a2)).bind fun n => if n < 0 then some (b1, b2) else some (a1, a2)) = some (lessrW (a1, a2) (b1, b2)) := by
    obtain ⟨c, h1, h2⟩ := ref01_Compare_lt (b1, b2) (a1, a2)
    simp only [h1, Option.bind_some]
    unfold lessrW
    by_cases hc : c < 0
    · rw [if_pos hc, if_pos (h2.1 hc)]
    · rw [if_neg hc, if_neg (fun h => hc (h2.2 h))]
  unfold ref02_Add ringAdd
  simp only [hl, ref02_truth_eq, ref01_Add_eq, Option.bind_some]
  by_cases h1 : r = 1
  · simp only [if_pos h1, if_pos (show r = 1 ∨ r = 3 ∨ r = 4 from .inl h1)]
  by_cases h3 : r = 3
  · simp only [if_neg h1, if_pos h3, if_pos (show r = 1 ∨ r = 3 ∨ r = 4 from .inr (.inl h3))]
  by_cases h4 : r = 4
  · simp only [if_neg h1, if_neg h3, if_pos h4, if_pos (show r = 1 ∨ r = 3 ∨ r = 4 from .inr (.inr h4))]
  simp only [if_neg h1, if_neg h3, if_neg h4, if_neg (show ¬ (r = 1 ∨ r = 3 ∨ r = 4) by omega)]
  by_cases h2 : r = 2
  · simp only [if_pos h2]
    by_cases ha : a1 = 0 ∧ a2 = 0
    · by_cases hb : b1 = 0 ∧ b2 = 0
      · simp [if_pos ha, if_pos hb, ha, hb]
      · rw [if_pos ha, if_neg hb, decide_eq_true ha, decide_eq_false hb]; rfl
    · rw [if_neg ha, decide_eq_false ha]; rfl
  · simp only [if_neg h2]
    by_cases h5 : r = 5
    · simp only [if_pos h5]
    · simp only [if_neg h5]
theorem ringAdd_lo {r : Int} {a b : Int × Int} (ha : u64r a.2) (hb : u64r b.2) : u64r (ringAdd r a b).2 := by
  have h0 : u64r 0 := by unfold u64r; omega
  have h1 : u64r 1 := by unfold u64r; omega
  unfold ringAdd lessrW truthW addW
  split
  · split <;> assumption
  · split
    · split <;> assumption
    · split
      · split <;> exact u64_wrap _
      · exact h0
/-- A wide number as one of 64 bits. -/
def narrowW (a : Int × Int) : Int × Bool := if a = ofW (IntKind.i64.wrap a.2) then (IntKind.i64.wrap a.2, true) else (0, false)
theorem i64_wrap (n : Int) : i64r (IntKind.i64.wrap n) := by rw [IntKind.wrap_i64]; unfold i64r; omega
theorem ring_Narrow_eq (r : Int) (a : Int × Int) : ring_Narrow r a = some (narrowW a) := by
  obtain ⟨a1, a2⟩ := a
  unfold ring_Narrow wide_Narrow narrowW
  simp only [wide_Of_eq (i64_wrap a2), Option.bind_some]
  by_cases h : (a1, a2) = ofW (IntKind.i64.wrap a2)
  · have h' : a1 = (ofW (IntKind.i64.wrap a2)).1 ∧ a2 = (ofW (IntKind.i64.wrap a2)).2 := ⟨congrArg Prod.fst h, congrArg Prod.snd h⟩
    rw [if_pos h, if_pos h']; rfl
  · have h' : ¬ (a1 = (ofW (IntKind.i64.wrap a2)).1 ∧ a2 = (ofW (IntKind.i64.wrap a2)).2) := fun hh => h (Prod.ext hh.1 hh.2)
    rw [if_neg h, if_neg h']; rfl
theorem ref01_Narrow_eq {a : Int × Int} (h : u64r a.2) : ref01_Narrow a = some (narrowW a) := by
  obtain ⟨a1, a2⟩ := a
  unfold ref01_Narrow narrowW ofW
  simp only [u64_id h, Prod.mk.injEq, and_true]
  by_cases hn : IntKind.i64.wrap a2 < 0
  · have hg : ¬ IntKind.i64.wrap a2 ≥ 0 := by omega
    simp only [if_pos hn, if_neg hg]
    by_cases h1 : a1 = 0
    · have : ¬ a1 = -1 := by omega
      simp only [if_pos h1, if_neg this]
    · simp only [if_neg h1]
      split <;> rfl
  · have hg : IntKind.i64.wrap a2 ≥ 0 := by omega
    simp only [if_neg hn, if_pos hg]
    by_cases h1 : a1 = 0
    · simp only [if_pos h1]
    · simp only [if_neg h1]
      split <;> rfl
theorem ring_Is_eq (r : Int) : ring_Is r = some (decide (1 ≤ r) && decide (r ≤ 5)) := by
  unfold ring_Is
  by_cases h1 : r ≥ 1
  · rw [if_pos h1, decide_eq_true (show 1 ≤ r from h1)]
    by_cases h2 : r ≤ 5
    · rw [if_pos h2, decide_eq_true h2]; rfl
    · rw [if_neg h2, decide_eq_false h2]; rfl
  · rw [if_neg h1, decide_eq_false (show ¬ 1 ≤ r from h1)]; rfl
theorem ref02_Is_eq (r : Int) : ref02_Is r = some (decide (1 ≤ r) && decide (r ≤ 5)) := ring_Is_eq r
def zeroR (r : Int) : Int := if r = 1 ∨ r = 3 ∨ r = 4 then 4611686018427387904 else 0
theorem zeroR_r (r : Int) : i64r (zeroR r) := by unfold zeroR i64r; split <;> omega
theorem ring_Zero_eq (r : Int) : ring_Zero r = some (zeroR r) := by
  unfold ring_Zero zeroR
  by_cases h1 : r = 1
  · simp [h1]
  by_cases h3 : r = 3
  · simp [h3]
  by_cases h4 : r = 4
  · simp [h4]
  simp [h1, h3, h4]
theorem ref02_Zero_eq (r : Int) : ref02_Zero r = some (zeroR r) := by
  unfold ref02_Zero ref02_least zeroR
  by_cases h1 : r = 1
  · simp [h1]
  by_cases h3 : r = 3
  · simp [h3]
  by_cases h4 : r = 4
  · simp [h4]
  simp [h1, h3, h4]
end Ev
end Go.Proofs.Ytioagbejilllfaa
