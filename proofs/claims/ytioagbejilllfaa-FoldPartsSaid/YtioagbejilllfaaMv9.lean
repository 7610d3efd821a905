/- FoldParts, as a function on data, is true at all data. -/
import Derived.Test.YtioagbejilllfaaLf7
import Derived.Test.YtioagbejilllfaaMv8
namespace Go.Proofs.Ytioagbejilllfaa
namespace Ev
open Go
set_option linter.unusedVariables false
set_option linter.unusedSimpArgs false
/-- Wide numbers, one after another: the order of addition is free. -/
theorem lessW_iff (a b : Int × Int) : lessW a b = true ↔ a.1 < b.1 ∨ a.1 = b.1 ∧ a.2 < b.2 := by unfold lessW; simp
theorem lessrW_assoc (a b c : Int × Int) : lessrW (lessrW a b) c = lessrW a (lessrW b c) := by
  by_cases h1 : lessW b a = true <;> by_cases h2 : lessW c b = true <;> by_cases h3 : lessW c a = true <;> simp only [lessrW, h1, h2, h3, if_true, if_false, Bool.false_eq_true] <;> (exfalso; rw [lessW_iff] at *; omega)
theorem addW_eq {a b : Int × Int} (ha : u64r a.2) (hb : u64r b.2) : addW a b = ((a.1 + b.1 + (a.2 + b.2) / 18446744073709551616 + 9223372036854775808) % 18446744073709551616 - 9223372036854775808, (a.2 + b.2) % 18446744073709551616) := by
  unfold u64r at ha hb
  unfold addW
  simp only [wrap_u64, IntKind.wrap_i64]
  split
  · refine Prod.ext ?_ rfl; simp only; omega
  · refine Prod.ext ?_ rfl; simp only; omega
theorem addW_lo (a b : Int × Int) : u64r (addW a b).2 := by
  unfold addW; split <;> exact u64_wrap _
theorem addW_assoc {a b c : Int × Int} (ha : u64r a.2) (hb : u64r b.2) (hc : u64r c.2) : addW (addW a b) c = addW a (addW b c) := by
  rw [addW_eq (addW_lo a b) hc, addW_eq ha (addW_lo b c), addW_eq ha hb, addW_eq hb hc]
  unfold u64r at ha hb hc
  refine Prod.ext ?_ ?_ <;> simp only <;> omega
theorem ringAdd_assoc {r : Int} (h2 : r ≠ 2) {a b c : Int × Int} (ha : u64r a.2) (hb : u64r b.2) (hc : u64r c.2) : ringAdd r (ringAdd r a b) c = ringAdd r a (ringAdd r b c) := by
  unfold ringAdd
  by_cases h1 : r = 1 ∨ r = 3 ∨ r = 4
  · simp only [if_pos h1, lessrW_assoc]
  · simp only [if_neg h1, if_neg h2]
    by_cases h5 : r = 5
    · simp only [if_pos h5, addW_assoc ha hb hc]
    · simp only [if_neg h5]
theorem foldR_assoc {r : Int} (h2 : r ≠ 2) : ∀ (l : List It) {a b : Int × Int}, u64r a.2 → u64r b.2 → foldR r (ringAdd r a b) l = ringAdd r a (foldR r b l)
  | [], a, b, ha, hb => rfl
  | x :: l, a, b, ha, hb => by
    show foldR r (ringAdd r (ringAdd r a b) (ofW x.2)) l = ringAdd r a (foldR r (ringAdd r b (ofW x.2)) l)
    rw [ringAdd_assoc h2 ha hb (ofW_lo _)]
    exact foldR_assoc h2 l ha (ringAdd_lo hb (ofW_lo _))
theorem foldR_app (r : Int) : ∀ (l m : List It) (a : Int × Int), foldR r a (l ++ m) = foldR r (foldR r a l) m
  | [], m, a => rfl
  | x :: l, m, a => foldR_app r l m _
theorem totalR_app {r : Int} (h2 : r ≠ 2) {l m : List It} (hl : l ≠ []) (hm : m ≠ []) : totalR r (l ++ m) = ringAdd r (totalR r l) (totalR r m) := by
  cases l with
  | nil => exact absurd rfl hl
  | cons x l =>
    cases m with
    | nil => exact absurd rfl hm
    | cons y m =>
      show foldR r (ofW x.2) (l ++ y :: m) = ringAdd r (foldR r (ofW x.2) l) (foldR r (ofW y.2) m)
      rw [foldR_app]
      exact foldR_assoc h2 m (foldR_lo (ofW_lo _)) (ofW_lo _)
/-- Items behind others. -/
def shiftI (k : Int) (l : List It) : List It := l.map fun x => (k + x.1, x.2)
theorem foldR_shift (r k : Int) : ∀ (l : List It) (a : Int × Int), foldR r a (shiftI k l) = foldR r a l
  | [], a => rfl
  | x :: l, a => foldR_shift r k l _
theorem totalR_shift (r k : Int) (l : List It) : totalR r (shiftI k l) = totalR r l := by
  cases l with
  | nil => rfl
  | cons x l => exact foldR_shift r k l _
theorem asc_shift (k : Int) {n : Int} : ∀ {l : List It} {a : Int}, asc a n l = true → asc (k + a) (k + n) (shiftI k l) = true
  | [], a, h => rfl
  | x :: l, a, h => by
    simp only [asc, Bool.and_eq_true, decide_eq_true_eq] at h
    show (decide (k + a < k + x.1) && decide (k + x.1 < k + n) && asc (k + x.1) (k + n) (shiftI k l)) = true
    simp only [Bool.and_eq_true, decide_eq_true_eq]
    exact ⟨⟨by omega, by omega⟩, asc_shift k h.2⟩
theorem asc_low {n : Int} {l : List It} {a b : Int} (hab : a ≤ b) (h : asc b n l = true) : asc a n l = true := by
  cases l with
  | nil => rfl
  | cons x l =>
    simp only [asc, Bool.and_eq_true, decide_eq_true_eq] at h ⊢
    exact ⟨⟨by omega, h.1.2⟩, h.2⟩
theorem asc_app {n k : Int} (hk : k ≤ n) {m : List It} (hm : asc (k - 1) n m = true) : ∀ {l : List It} {a : Int}, a ≤ k - 1 → asc a k l = true → asc a n (l ++ m) = true
  | [], a, ha, h => asc_low ha hm
  | x :: l, a, ha, h => by
    simp only [asc, Bool.and_eq_true, decide_eq_true_eq] at h
    show (decide (a < x.1) && decide (x.1 < n) && asc x.1 n (l ++ m)) = true
    simp only [Bool.and_eq_true, decide_eq_true_eq]
    exact ⟨⟨by omega, by omega⟩, asc_app hk hm (by omega) h.2⟩
theorem glue_in (n : Int) (s : Sl It) (l : List It) (hok : okS 2 s) (hn : 0 ≤ n ∧ n ≤ 4096) (hs : s.l.length ≤ 4096) (hl : l.length ≤ 4096) (hx : ∀ x ∈ s.l, 0 ≤ x.1 ∧ x.1 ≤ 4096) : loopO (ref09_Glue_b2 n s) (0, l) = some (.inl (l ++ shiftI n s.l)) := by
  obtain ⟨q, h1, rfl⟩ := loop_up (b := ref09_Glue_b2 n s) s.l.length (fun j a => a = ((j : Int), l ++ shiftI n (s.l.take j))) (fun q => q = .inl (l ++ shiftI n s.l))
    (by
      rintro j _ hj rfl
      have hw : IntKind.i64.wrap (n + s.l[j].1) = n + s.l[j].1 := by
        have := hx _ (List.getElem_mem hj)
        exact wrap64 (by omega) (by omega)
      have ha : app (l ++ shiftI n (s.l.take j)) [(n + s.l[j].1, s.l[j].2)] = some (l ++ shiftI n (s.l.take j) ++ [(n + s.l[j].1, s.l[j].2)]) := app_ok (by simp [shiftI]; unfold bound; omega)
      simp only [ref09_Glue_b2, at_get hok hj, Option.bind_some, hw, ha]
      rw [if_pos (by omega), w_succ hj (by omega)]
      refine .inl ⟨_, rfl, ?_⟩
      rw [List.take_succ_eq_append_getElem hj]
      unfold shiftI
      rw [List.map_append, List.append_assoc]; rfl)
    (by
      rintro _ rfl
      refine ⟨.inl (l ++ shiftI n s.l), ?_, rfl⟩
      simp only [ref09_Glue_b2, List.take_length]
      rw [if_neg (by omega)]) 0 (Nat.zero_le _) (0, l) (by simp [shiftI])
  exact h1
theorem glue_two (s1 : Sl (Int × Sl It)) (a b : Int × Sl It) (hs1 : s1.l = [a, b]) (hz : s1.sz = 2) (ha : GoodV a) (hb : GoodV b) : ref09_Glue s1 = some (if a.1 + b.1 > 4096 then ((0, nilS), 5) else ((a.1 + b.1, mo 2 (a.2.l ++ shiftI a.1 b.2.l)), 0)) := by
  obtain ⟨a1, a2⟩ := a
  obtain ⟨b1, b2⟩ := b
  obtain ⟨ra, oa, va⟩ := ha
  obtain ⟨rb, ob, vb⟩ := hb
  have la := right_len ra
  have lb := right_len rb
  simp only at la lb oa ob
  have sa : 0 ≤ a1 ∧ a1 ≤ 4096 ∧ asc (-1) a1 a2.l = true := by
    simp only [rightB, sizeB, Bool.and_eq_true, decide_eq_true_eq] at ra; exact ⟨ra.1.1, ra.1.2, ra.2⟩
  have sb : 0 ≤ b1 ∧ b1 ≤ 4096 ∧ asc (-1) b1 b2.l = true := by
    simp only [rightB, sizeB, Bool.and_eq_true, decide_eq_true_eq] at rb; exact ⟨rb.1.1, rb.1.2, rb.2⟩
  have g1 : loopO (ref09_Glue_b2 0 a2) (0, []) = some (.inl a2.l) := by
    have := glue_in 0 a2 [] oa (by omega) la (by simp) (fun x hx => by have := asc_lt sa.2.2 x hx; omega)
    rw [this]; simp [shiftI]
  have g2 : loopO (ref09_Glue_b2 a1 b2) (0, a2.l) = some (.inl (a2.l ++ shiftI a1 b2.l)) := glue_in a1 b2 a2.l ob ⟨sa.1, sa.2.1⟩ lb la (fun x hx => by have := asc_lt sb.2.2 x hx; omega)
  have hk : okS 2 s1 := .inr hz
  have i0 : atS 2 s1 0 = some (a1, a2) := by
    have := at_get hk (j := 0) (by rw [hs1]; simp)
    simpa [hs1] using this
  have i1 : atS 2 s1 1 = some (b1, b2) := by
    have := at_get hk (j := 1) (by rw [hs1]; simp)
    simpa [hs1] using this
  have hl2 : ((s1.l.length : Nat) : Int) = 2 := by rw [hs1]; rfl
  have w1 : IntKind.i64.wrap (0 + a1) = a1 := by rw [wrap64 (by omega) (by omega)]; omega
  have w2 : IntKind.i64.wrap (a1 + b1) = a1 + b1 := wrap64 (by omega) (by omega)
  have w3 : IntKind.i64.wrap (0 + 1) = 1 := by decide
  have w4 : IntKind.i64.wrap (1 + 1) = 2 := by decide
  have e1 : ref09_Sure (a1, a2) = some (a1, a2) := by rw [ref09_Sure_eq (a1, a2) oa (show a2.l.length ≤ _ by omega), sure_id ra]
  have e2 : ref09_Sure (b1, b2) = some (b1, b2) := by rw [ref09_Sure_eq (b1, b2) ob (show b2.l.length ≤ _ by omega), sure_id rb]
  have s1' : ref09_Glue_b1 s1 (0, 0, []) = some (.inl (1, a1, a2.l)) := by
    simp only [ref09_Glue_b1, hl2, i0, e1, g1, w1, w3, Option.bind_some, Sum.elim_inl]
    rw [if_pos (by omega), if_neg (by omega)]
  unfold ref09_Glue
  rw [loopO_step s1']
  by_cases hc : a1 + b1 > 4096
  · have s2' : ref09_Glue_b1 s1 (1, a1, a2.l) = some (.inr (.inr ((0, nilS), 5))) := by
      simp only [ref09_Glue_b1, hl2, i1, e2, g2, w2, w4, Option.bind_some, Sum.elim_inl]
      rw [if_pos (by omega), if_pos hc]; rfl
    rw [loopO_done s2', if_pos hc]; rfl
  · have s2' : ref09_Glue_b1 s1 (1, a1, a2.l) = some (.inl (2, a1 + b1, a2.l ++ shiftI a1 b2.l)) := by
      simp only [ref09_Glue_b1, hl2, i1, e2, g2, w2, w4, Option.bind_some, Sum.elim_inl]
      rw [if_pos (by omega), if_neg hc]
    have s3' : ref09_Glue_b1 s1 (2, a1 + b1, a2.l ++ shiftI a1 b2.l) = some (.inr (.inl (a1 + b1, a2.l ++ shiftI a1 b2.l))) := by
      simp only [ref09_Glue_b1, hl2]
      rw [if_neg (by omega)]
    rw [loopO_step s2', loopO_done s3', if_neg hc]; rfl
theorem glue_good {a b : Int × Sl It} (ha : GoodV a) (hb : GoodV b) (h : ¬ a.1 + b.1 > 4096) : GoodV (a.1 + b.1, mo 2 (a.2.l ++ shiftI a.1 b.2.l)) := by
  obtain ⟨ra, oa, va⟩ := ha
  obtain ⟨rb, ob, vb⟩ := hb
  simp only [rightB, sizeB, Bool.and_eq_true, decide_eq_true_eq] at ra rb
  refine ⟨?_, ok_mo _, fun x hx => ?_⟩
  · simp only [rightB, sizeB, Bool.and_eq_true, decide_eq_true_eq, mo_l]
    refine ⟨⟨by omega, by omega⟩, asc_app (k := a.1) (by omega) ?_ (by omega) ra.2⟩
    have := asc_shift a.1 rb.2
    exact this
  · simp only [mo_l] at hx
    rcases List.mem_append.1 hx with hx | hx
    · exact va x hx
    · obtain ⟨y, hy, rfl⟩ := List.mem_map.1 hx
      exact vb y hy
end Ev
end Go.Proofs.Ytioagbejilllfaa
