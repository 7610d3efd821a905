/- What is picked of vectors, and put, both ways. Over the functions on data; no number of a type or function is named. -/
import Derived.Test.YtioagbejilllfaaLf3
import Derived.Test.YtioagbejilllfaaLf4
import Derived.Test.YtioagbejilllfaaLf5
import Derived.Test.YtioagbejilllfaaMv4
namespace Go.Proofs.Ytioagbejilllfaa
namespace Ev
open Go
set_option linter.unusedVariables false
set_option linter.unusedSimpArgs false
/-- Is a place outside? -/
def outB (n : Int) (l : List Int) : Bool := l.any fun p => decide (p < 0) || decide (n ≤ p)
theorem fold_outside_eq (s : Sl Int) (n : Int) (hok : okS 1 s) (hl : s.l.length ≤ 9223372036854775807) : fold_outside s n = some (outB n s.l) := by
  unfold fold_outside
  obtain ⟨q, h1, h2⟩ := loop_up (b := fold_outside_b1 s n) s.l.length (fun j a => a = (j : Int) ∧ outB n s.l = outB n (s.l.drop j)) (fun q => q = .inl (outB n s.l))
    (by
      rintro j _ hj ⟨rfl, ha⟩
      rw [List.drop_eq_getElem_cons hj] at ha
      simp only [fold_outside_b1, at_get hok hj, Option.bind_some, w_succ hj (by omega)]
      rw [if_pos (by omega)]
      simp only [outB, List.any_cons] at ha ⊢
      by_cases c1 : s.l[j] < 0
      · exact .inr ⟨_, if_pos c1, by rw [ha]; simp [c1]⟩
      rw [if_neg c1]
      by_cases c2 : s.l[j] ≥ n
      · exact .inr ⟨_, if_pos c2, by rw [ha, decide_eq_true (show n ≤ s.l[j] from c2)]; simp⟩
      · refine .inl ⟨_, if_neg c2, rfl, ?_⟩
        rw [ha, decide_eq_false c1, decide_eq_false (show ¬ n ≤ s.l[j] from c2)]; rfl)
    (by
      rintro _ ⟨rfl, ha⟩
      exact ⟨_, if_neg (by omega), by rw [ha]; simp [outB]⟩) 0 (Nat.zero_le _) 0 ⟨rfl, rfl⟩
  subst h2
  rw [h1]; rfl
theorem out_in {n : Int} {l : List Int} (h : outB n l = false) {j : Nat} (hj : j < l.length) : 0 ≤ l[j] ∧ l[j] < n := by
  unfold outB at h
  rw [List.any_eq_false] at h
  have := h _ (List.getElem_mem hj)
  simp at this; omega
/-- A right vector's items stand at places below its size. -/
theorem right_at {n : Int} {s : Sl It} (h : rightB (n, s) = true) {j : Nat} (hj : j < s.l.length) : 0 ≤ s.l[j].1 ∧ s.l[j].1 < n := by
  simp only [rightB, Bool.and_eq_true] at h
  have := asc_lt h.2 _ (List.getElem_mem hj); omega
theorem right_size {n : Int} {s : Sl It} (h : rightB (n, s) = true) : 0 ≤ n ∧ n ≤ 4096 := by
  simp only [rightB, sizeB, Bool.and_eq_true, decide_eq_true_eq] at h; omega
theorem getI_append (p : Int) : ∀ (l m : List It), getI p (l ++ m) = match getI p l with | some x => some x | none => getI p m
  | [], m => rfl
  | x :: l, m => by
    simp only [List.cons_append, getI]
    by_cases h : x.1 = p
    · rw [if_pos h, if_pos h]
    · rw [if_neg h, if_neg h]; exact getI_append p l m
theorem getI_take {n : Int} {s : Sl It} (h : rightB (n, s) = true) {j : Nat} (hj : j < s.l.length) : getI (s.l[j].1) (s.l.take j) = none := by
  simp only [rightB, Bool.and_eq_true] at h
  refine getI_none fun x hx => ?_
  obtain ⟨i, hi, rfl⟩ := List.getElem_of_mem hx
  have hij : i < j := by simp at hi; omega
  rw [List.getElem_take]
  have key : ∀ d i (hi : i + d + 1 < s.l.length), s.l[i].1 < s.l[i + d + 1].1 := by
    intro d
    induction d with
    | zero => intro i hi; exact ((asc_iff'.1 h.2) (i + 1) hi).2.2 (by omega)
    | succ d ih => intro i hi; have h1 := ih i (by omega); have h2 := ((asc_iff'.1 h.2) (i + (d + 1) + 1) hi).2.2 (by omega); simp only [Nat.add_sub_cancel] at h2; exact Int.lt_trans h1 h2
  have := key (j - i - 1) i (by omega)
  simp only [show i + (j - i - 1) + 1 = j by omega] at this
  omega
theorem fold_slots_eq (n : Int) (s : Sl It) (hok : okS 2 s) (h : rightB (n, s) = true) : fold_slots (n, s) = some (tblG n.toNat fun p => getI (p : Int) s.l) := by
  obtain ⟨h0, hn⟩ := right_size h
  have hlen : s.l.length ≤ 4096 := right_len h
  unfold fold_slots
  have hl : lenOk n = some () := by unfold lenOk bound; rw [if_pos ⟨h0, by omega⟩]
  simp only [hl, Option.bind_some]
  obtain ⟨q, h1, h2⟩ := loop_up (b := fold_slots_b1 s) s.l.length (fun j a => a = (tblG n.toNat (fun p => getI (p : Int) (s.l.take j)), (j : Int))) (fun q => q = .inl (tblG n.toNat fun p => getI (p : Int) s.l))
    (by
      rintro j _ hj rfl
      have hr := right_at h hj
      have hp : s.l[j].1.toNat < n.toNat := by omega
      have he : atL (tblG n.toNat fun p => getI (p : Int) (s.l.take j)) s.l[j].1 = some (encO (getI ((s.l[j].1.toNat : Nat) : Int) (s.l.take j))) := by
        have := atL_get (l := tblG n.toNat fun p => getI (p : Int) (s.l.take j)) (j := s.l[j].1.toNat) (by rw [tblG_len]; exact hp)
        rw [tblG_get hp] at this
        rw [show s.l[j].1 = ((s.l[j].1.toNat : Nat) : Int) by omega]; exact this
      simp only [fold_slots_b1, at_get hok hj, Option.bind_some, w_succ hj (by omega), he]
      rw [if_pos (by omega)]
      refine .inl ⟨_, rfl, ?_⟩
      have e1 : ((s.l[j].2, true) : Int × Bool) = encO (some s.l[j].2) := rfl
      rw [e1, tblG_set]
      congr 1
      refine tblG_congr fun p hp' => ?_
      unfold updG
      rw [List.take_succ_eq_append_getElem hj, getI_append]
      by_cases hpe : p = s.l[j].1.toNat
      · have e : (p : Int) = s.l[j].1 := by omega
        rw [if_pos hpe, e, getI_take h hj]; simp [getI]
      · rw [if_neg hpe]
        have : getI (p : Int) [s.l[j]] = none := getI_none fun x hx => by simp at hx; subst hx; omega
        rw [this]
        show getI (p : Int) (s.l.take j) = _
        cases getI (p : Int) (s.l.take j) <;> rfl)
    (by
      rintro _ rfl
      exact ⟨_, if_neg (by omega), by rw [List.take_length]⟩) 0 (Nat.zero_le _) (List.replicate n.toNat ((0, false) : Int × Bool), 0) (by rw [tblG_none]; rfl)
  subst h2
  rw [h1]; rfl
theorem fold_gathered_eq (n : Nat) (g : Nat → Option Int) (hn : n ≤ 4096) : fold_gathered (⟨true, 2, tblG n g⟩ : Sl (Int × Bool)) = some ((n : Int), mo 2 (vecG n g)) := by
  unfold fold_gathered
  have hok : okS 2 (⟨true, 2, tblG n g⟩ : Sl (Int × Bool)) := .inr rfl
  have hlen : (⟨true, 2, tblG n g⟩ : Sl (Int × Bool)).l.length = n := tblG_len n g
  obtain ⟨q, h1, h2⟩ := loop_up (b := fold_gathered_b1 (⟨true, 2, tblG n g⟩ : Sl (Int × Bool))) n (fun j a => a = ((j : Int), gathR 0 j g)) (fun q => q = .inl (vecG n g))
    (by
      rintro j _ hj rfl
      have hj' : j < (⟨true, 2, tblG n g⟩ : Sl (Int × Bool)).l.length := by rw [hlen]; exact hj
      have hb := gathR_len 0 j g
      have hget : (⟨true, 2, tblG n g⟩ : Sl (Int × Bool)).l[j] = encO (g j) := tblG_get hj
      simp only [fold_gathered_b1, at_get hok hj', Option.bind_some, w_succ hj (by omega), hget, hlen]
      rw [if_pos (by omega)]
      rw [gathR_last, Nat.zero_add]
      cases hg : g j with
      | none => exact .inl ⟨_, rfl, by simp⟩
      | some v =>
        refine .inl ⟨_, ?_, rfl⟩
        show (if true = true then _ else _) = _
        rw [if_pos rfl, app_ok (by simp; unfold bound; omega)]; rfl)
    (by
      rintro _ rfl
      simp only [fold_gathered_b1, hlen]
      exact ⟨_, if_neg (by omega), rfl⟩) 0 (Nat.zero_le _) (0, []) rfl
  subst h2
  rw [h1]
  simp only [Option.bind_some, Sum.elim_inl, hlen]
theorem sure_id {v : Int × Sl It} (h : rightB v = true) : sureV v = v := by unfold sureV; rw [if_pos h]
theorem ref09_Get_eq (n : Int) (s : Sl It) (p : Int) (hok : okS 2 s) (h : rightB (n, s) = true) : ref09_Get (n, s) p = some (encO (getI p s.l)) := by
  have hlen : s.l.length ≤ 4096 := right_len h
  unfold ref09_Get
  simp only [ref09_Sure_eq (n, s) hok (show s.l.length ≤ _ by omega), sure_id h, Option.bind_some]
  obtain ⟨q, h1, h2⟩ := loop_up (b := ref09_Get_b1 p s) s.l.length (fun j a => a = (j : Int) ∧ getI p s.l = getI p (s.l.drop j)) (fun q => (getI p s.l = none ∧ q = .inl ()) ∨ ∃ v, getI p s.l = some v ∧ q = .inr (v, true))
    (by
      rintro j _ hj ⟨rfl, ha⟩
      rw [List.drop_eq_getElem_cons hj] at ha
      simp only [ref09_Get_b1, at_get hok hj, Option.bind_some, w_succ hj (by omega)]
      rw [if_pos (by omega)]
      simp only [getI] at ha
      by_cases c : s.l[j].1 = p
      · rw [if_pos c] at ha
        exact .inr ⟨_, if_pos c, .inr ⟨_, ha, rfl⟩⟩
      · rw [if_neg c] at ha
        exact .inl ⟨_, if_neg c, rfl, ha⟩)
    (by
      rintro _ ⟨rfl, ha⟩
      exact ⟨_, if_neg (by omega), .inl ⟨by rw [ha]; simp [getI], rfl⟩⟩) 0 (Nat.zero_le _) 0 ⟨rfl, rfl⟩
  rw [h1]
  rcases h2 with ⟨h3, rfl⟩ | ⟨v, h3, rfl⟩ <;> rw [h3] <;> rfl

/-! Select. -/
def selG (l : List It) (at' : List Int) : Nat → Option Int := fun i => getI (at'.getD i 0) l
def selectV (v : Int × Sl It) (s : Sl Int) : (Int × Sl It) × Int :=
  if (s.l.length : Int) > 4096 then ((0, nilS), 5) else if outB (sureV v).1 s.l = true then ((0, nilS), 3) else (((s.l.length : Int), mo 2 (vecG s.l.length (selG (sureV v).2.l s.l))), 0)
theorem fold_Select_eq (v : Int × Sl It) (s : Sl Int) (hok : okS 2 v.2) (hl : v.2.l.length ≤ 9223372036854775807) (hs : okS 1 s) (hsl : s.l.length ≤ 9223372036854775807) : fold_Select v s = some (selectV v s) := by
  obtain ⟨n, t⟩ := v
  unfold fold_Select selectV
  simp only [fold_sure_eq (n, t) hok hl, Option.bind_some]
  have hok2 : okS 2 (sureV (n, t)).2 := sureV_ok hok
  have hr := sureV_right (n, t)
  generalize sureV (n, t) = u at hok2 hr
  obtain ⟨n2, t2⟩ := u
  simp only at hok2 hr ⊢
  by_cases h1 : (s.l.length : Int) > 4096
  · rw [if_pos h1, if_pos h1]; rfl
  rw [if_neg h1, if_neg h1]
  simp only [fold_outside_eq s n2 hs hsl, Option.bind_some]
  cases h2 : outB n2 s.l with
  | true => simp [nilS]
  | false =>
    simp only [Bool.false_eq_true, if_false, fold_slots_eq n2 t2 hok2 hr, Option.bind_some]
    have hlo : lenOk (s.l.length : Int) = some () := by unfold lenOk bound; rw [if_pos ⟨by omega, by omega⟩]
    simp only [hlo, Option.bind_some, Int.toNat_natCast]
    obtain ⟨q, q1, q2⟩ := loop_up (b := fold_Select_b1 s (tblG n2.toNat fun p => getI (p : Int) t2.l)) s.l.length (fun j a => a = (tblG s.l.length (fun i => if i < j then selG t2.l s.l i else none), (j : Int))) (fun q => q = .inl (tblG s.l.length (selG t2.l s.l)))
      (by
        rintro j _ hj rfl
        obtain ⟨p0, p1⟩ := out_in h2 hj
        have hp : s.l[j].toNat < n2.toNat := by omega
        have he : atL (tblG n2.toNat fun p => getI (p : Int) t2.l) s.l[j] = some (encO (getI s.l[j] t2.l)) := by
          have := atL_get (l := tblG n2.toNat fun p => getI (p : Int) t2.l) (j := s.l[j].toNat) (by rw [tblG_len]; exact hp)
          rw [tblG_get hp, show ((s.l[j].toNat : Nat) : Int) = s.l[j] by omega] at this; exact this
        have he2 : atL (tblG s.l.length (fun i => if i < j then selG t2.l s.l i else none)) (j : Int) = some (encO none) := by
          have := atL_get (l := tblG s.l.length (fun i => if i < j then selG t2.l s.l i else none)) (j := j) (by rw [tblG_len]; exact hj)
          rw [tblG_get hj] at this; rw [this]; simp
        simp only [fold_Select_b1, at_get hs hj, Option.bind_some, w_succ hj (by omega), he, he2, Int.toNat_natCast]
        rw [if_pos (by omega)]
        refine .inl ⟨_, rfl, ?_⟩
        show ((tblG s.l.length _).set j (encO (getI s.l[j] t2.l)), _) = _
        rw [tblG_set]
        congr 1
        refine tblG_congr fun p hp' => ?_
        unfold updG
        by_cases c : p = j
        · subst c; rw [if_pos rfl, if_pos (by omega)]; unfold selG; simp [List.getD_eq_getElem?_getD, hj]
        · rw [if_neg c]
          show (if p < j then selG t2.l s.l p else none) = _
          by_cases c2 : p < j
          · rw [if_pos c2, if_pos (by omega)]
          · rw [if_neg c2, if_neg (by omega)])
      (by
        rintro _ rfl
        refine ⟨_, if_neg (by omega), ?_⟩
        rw [tblG_congr (g' := selG t2.l s.l) fun p hp => by rw [if_pos hp]]) 0 (Nat.zero_le _) (List.replicate s.l.length ((0, false) : Int × Bool), 0) (by rw [tblG_none]; simp)
    subst q2
    rw [q1]
    simp only [Option.bind_some, Sum.elim_inl, fold_gathered_eq s.l.length _ (by omega)]
theorem ref12_Select_eq (v : Int × Sl It) (s : Sl Int) (hok : okS 2 v.2) (hl : v.2.l.length ≤ 9223372036854775807) (hs : okS 1 s) (hsl : s.l.length ≤ 9223372036854775807) : ref12_Select v s = some (selectV v s) := by
  obtain ⟨n, t⟩ := v
  unfold ref12_Select selectV
  simp only [ref09_Sure_eq (n, t) hok hl, Option.bind_some]
  have hok2 : okS 2 (sureV (n, t)).2 := sureV_ok hok
  have hr := sureV_right (n, t)
  generalize sureV (n, t) = u at hok2 hr
  obtain ⟨n2, t2⟩ := u
  simp only at hok2 hr ⊢
  by_cases h1 : (s.l.length : Int) > 4096
  · rw [if_pos h1, if_pos h1]; rfl
  rw [if_neg h1, if_neg h1]
  have hF : ∀ j (hj : j < s.l.length), (s.l[j] < 0 ∨ s.l[j] ≥ n2) → outB n2 s.l = true := fun j hj hc => by
    unfold outB
    rw [List.any_eq_true]
    exact ⟨_, List.getElem_mem hj, by simpa using hc⟩
  obtain ⟨q, q1, q2⟩ := loop_up (b := ref12_Select_b1 s n2 t2) s.l.length (fun j a => a = ((j : Int), gathR 0 j (selG t2.l s.l)) ∧ ∀ i (h : i < s.l.length), i < j → 0 ≤ s.l[i] ∧ s.l[i] < n2) (fun q => (outB n2 s.l = true ∧ q = .inr ((0, nilS), 3)) ∨ (outB n2 s.l = false ∧ q = .inl (vecG s.l.length (selG t2.l s.l))))
    (by
      rintro j _ hj ⟨rfl, ha⟩
      have hb := gathR_len 0 j (selG t2.l s.l)
      simp only [ref12_Select_b1, at_get hs hj, Option.bind_some, w_succ hj (by omega), ref09_Get_eq n2 t2 _ hok2 hr]
      rw [if_pos (by omega)]
      by_cases c1 : s.l[j] < 0
      · exact .inr ⟨_, if_pos c1, .inl ⟨hF j hj (.inl c1), rfl⟩⟩
      rw [if_neg c1]
      by_cases c2 : s.l[j] ≥ n2
      · exact .inr ⟨_, if_pos c2, .inl ⟨hF j hj (.inr c2), rfl⟩⟩
      rw [if_neg c2]
      have ha' : ∀ i (h : i < s.l.length), i < j + 1 → 0 ≤ s.l[i] ∧ s.l[i] < n2 := fun i hi hij => by
        by_cases c : i = j
        · subst c; omega
        · exact ha i hi (by omega)
      have hg : selG t2.l s.l j = getI s.l[j] t2.l := by unfold selG; simp [List.getD_eq_getElem?_getD, hj]
      rw [gathR_last, Nat.zero_add, hg]
      cases hx : getI s.l[j] t2.l with
      | none => exact .inl ⟨_, rfl, by simp, ha'⟩
      | some x =>
        refine .inl ⟨_, ?_, rfl, ha'⟩
        show (if true = true then _ else _) = _
        rw [if_pos rfl, app_ok (by simp; unfold bound; omega)]; rfl)
    (by
      rintro _ ⟨rfl, ha⟩
      refine ⟨_, if_neg (by omega), .inr ⟨?_, rfl⟩⟩
      unfold outB
      rw [List.any_eq_false]
      intro x hx
      obtain ⟨i, hi, rfl⟩ := List.getElem_of_mem hx
      have := ha i hi hi
      simp; omega) 0 (Nat.zero_le _) (0, []) ⟨rfl, fun i _ h => absurd h (by omega)⟩
  rw [q1]
  rcases q2 with ⟨q3, rfl⟩ | ⟨q3, rfl⟩ <;> rw [q3] <;> rfl

/-! Put and drop. -/
theorem filter_filter_ne {p : Int} (l : List It) (h : ∀ x ∈ l, x.1 < p) : l.filter (fun x => decide (x.1 ≠ p)) = l := List.filter_eq_self.2 fun x hx => by have := h x hx; simp; omega
theorem ref09_Drop_eq (n : Int) (s : Sl It) (p : Nat) (g : Nat → Option Int) (hok : okS 2 s) (h0 : 0 ≤ n) (h1 : n ≤ 4096) (hg : s.l = vecG n.toNat g) (hp : p < n.toNat) : ref09_Drop (n, s) (p : Int) = some (n, mo 2 (vecG n.toNat (updG g p none))) := by
  have hr : rightB (n, s) = true := right_vecG h0 h1 hg
  have hlen : s.l.length ≤ 4096 := right_len hr
  unfold ref09_Drop
  simp only [ref09_Sure_eq (n, s) hok (show s.l.length ≤ _ by omega), sure_id hr, Option.bind_some]
  obtain ⟨q, q1, q2⟩ := loop_up (b := ref09_Drop_b1 (p : Int) s) s.l.length (fun j a => a = ((j : Int), (s.l.take j).filter fun x => decide (x.1 ≠ (p : Int)))) (fun q => q = .inl (s.l.filter fun x => decide (x.1 ≠ (p : Int))))
    (by
      rintro j _ hj rfl
      have hb : ((s.l.take j).filter fun x => decide (x.1 ≠ (p : Int))).length + 1 ≤ bound := by
        have := List.length_filter_le (fun x : It => decide (x.1 ≠ (p : Int))) (s.l.take j)
        have h3 : (s.l.take j).length ≤ j := by simp; omega
        unfold bound; omega
      simp only [ref09_Drop_b1, at_get hok hj, Option.bind_some, w_succ hj (by omega)]
      rw [if_pos (by omega)]
      have hf := filter_take (fun x : It => decide (x.1 ≠ (p : Int))) s.l hj
      by_cases c : s.l[j].1 ≠ (p : Int)
      · rw [if_pos (by simpa using c)] at hf
        refine .inl ⟨_, ?_, by rw [hf]⟩
        rw [if_pos c, app_ok (by simpa using hb)]; rfl
      · rw [if_neg (by simpa using c), List.append_nil] at hf
        exact .inl ⟨_, if_neg c, by rw [hf]⟩)
    (by
      rintro _ rfl
      exact ⟨_, if_neg (by omega), by rw [List.take_length]⟩) 0 (Nat.zero_le _) (0, []) rfl
  subst q2
  rw [q1]
  simp only [Option.bind_some, Sum.elim_inl]
  have e : s.l.filter (fun x => decide (x.1 ≠ (p : Int))) = vecG n.toNat (updG g p none) := by
    rw [vecG_put hp, ← hg, List.nil_append]
    have hasc : asc (-1) n s.l = true := by simp only [rightB, Bool.and_eq_true] at hr; exact hr.2
    clear q1 hg hr hlen
    generalize (-1 : Int) = a at hasc
    generalize s.l = l at hasc
    induction l generalizing a with
    | nil => rfl
    | cons x l ih =>
      simp only [asc, Bool.and_eq_true, decide_eq_true_eq] at hasc
      have ih' := ih _ hasc.2
      have hgt := asc_lt hasc.2
      rcases Int.lt_trichotomy x.1 (p : Int) with c | c | c
      · rw [List.filter_cons_of_pos (by simp; omega), List.filter_cons_of_pos (by simpa using c), List.filter_cons_of_neg (by simp; omega), ih']; rfl
      · rw [List.filter_cons_of_neg (by simpa using c), List.filter_cons_of_neg (by simp; omega), List.filter_cons_of_neg (by simp; omega), ih']
      · have e1 : l.filter (fun x => decide (x.1 < (p : Int))) = [] := List.filter_eq_nil_iff.2 fun y hy => by have := hgt y hy; simp; omega
        rw [List.filter_cons_of_pos (by simp; omega), List.filter_cons_of_neg (by simp; omega), List.filter_cons_of_pos (by simpa using c), ih', e1]; rfl
  rw [e]
end Ev
end Go.Proofs.Ytioagbejilllfaa
