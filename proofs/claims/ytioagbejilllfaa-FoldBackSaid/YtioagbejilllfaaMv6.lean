/- Vectors with something put, and assigned, both ways. Over the functions on data; no number of a type or function is named. -/
import Derived.Test.YtioagbejilllfaaLf3
import Derived.Test.YtioagbejilllfaaLf4
import Derived.Test.YtioagbejilllfaaLf5
import Derived.Test.YtioagbejilllfaaMv5
namespace Go.Proofs.Ytioagbejilllfaa
namespace Ev
open Go
set_option linter.unusedVariables false
set_option linter.unusedSimpArgs false
theorem asc_mono {n : Int} {l : List It} (h : asc (-1) n l = true) {i k : Nat} (hik : i < k) (hk : k < l.length) : l[i].1 < l[k].1 := by
  have key : ∀ d i (hi : i + d + 1 < l.length), l[i].1 < l[i + d + 1].1 := by
    intro d
    induction d with
    | zero => intro i hi; exact ((asc_iff'.1 h) (i + 1) hi).2.2 (by omega)
    | succ d ih => intro i hi; have h1 := ih i (by omega); have h2 := ((asc_iff'.1 h) (i + (d + 1) + 1) hi).2.2 (by omega); simp only [Nat.add_sub_cancel] at h2; exact Int.lt_trans h1 h2
  have := key (k - i - 1) i (by omega)
  simp only [show i + (k - i - 1) + 1 = k by omega] at this
  exact this
def ltF (p : Nat) (l : List It) : List It := l.filter fun x => decide (x.1 < (p : Int))
def gtF (p : Nat) (l : List It) : List It := l.filter fun x => decide ((p : Int) < x.1)
theorem ltF_take {p : Nat} {l : List It} {j : Nat} (hj : j < l.length) : ltF p (l.take (j + 1)) = ltF p (l.take j) ++ (if decide (l[j].1 < (p : Int)) = true then [l[j]] else []) := filter_take _ l hj
theorem gtF_take {p : Nat} {l : List It} {j : Nat} (hj : j < l.length) : gtF p (l.take (j + 1)) = gtF p (l.take j) ++ (if decide ((p : Int) < l[j].1) = true then [l[j]] else []) := filter_take _ l hj
theorem ltF_len (p : Nat) (l : List It) (j : Nat) : (ltF p (l.take j)).length ≤ j := by
  have := List.length_filter_le (fun x : It => decide (x.1 < (p : Int))) (l.take j)
  have h3 : (l.take j).length ≤ j := by simp; omega
  exact Nat.le_trans this h3
theorem gtF_len (p : Nat) (l : List It) (j : Nat) : (gtF p (l.take j)).length ≤ j := by
  have := List.length_filter_le (fun x : It => decide ((p : Int) < x.1)) (l.take j)
  have h3 : (l.take j).length ≤ j := by simp; omega
  exact Nat.le_trans this h3
theorem ref09_Put_eq (n : Int) (s : Sl It) (p : Nat) (x : Int) (g : Nat → Option Int) (hok : okS 2 s) (h0 : 0 ≤ n) (h1 : n ≤ 4096) (hg : s.l = vecG n.toNat g) (hp : p < n.toNat) : ref09_Put (n, s) (p : Int) x = some (n, mo 2 (vecG n.toNat (updG g p (some x)))) := by
  have hr : rightB (n, s) = true := right_vecG h0 h1 hg
  have hlen : s.l.length ≤ 4096 := right_len hr
  have hasc : asc (-1) n s.l = true := by simp only [rightB, Bool.and_eq_true] at hr; exact hr.2
  unfold ref09_Put
  simp only [ref09_Sure_eq (n, s) hok (show s.l.length ≤ _ by omega), sure_id hr, Option.bind_some]
  rw [if_neg (by omega), if_neg (by omega)]
  obtain ⟨q, q1, q2⟩ := loop_up (b := ref09_Put_b3 (p : Int) x s) s.l.length (fun j a => (a = (false, (j : Int), ltF p (s.l.take j)) ∧ gtF p (s.l.take j) = [] ∧ ∀ y ∈ s.l.take j, y.1 < (p : Int)) ∨ (a = (true, (j : Int), ltF p (s.l.take j) ++ ((p : Int), x) :: gtF p (s.l.take j)) ∧ ∀ i (hi : i < s.l.length), j ≤ i → (p : Int) < s.l[i].1)) (fun q => (q = .inl (false, ltF p s.l) ∧ gtF p s.l = []) ∨ q = .inl (true, ltF p s.l ++ ((p : Int), x) :: gtF p s.l))
    (by
      rintro j a hj ha
      have hb1 := ltF_len p s.l j
      have hb2 := gtF_len p s.l j
      have hl := ltF_take (p := p) hj
      have hgt := gtF_take (p := p) hj
      rcases ha with ⟨rfl, ha, hall⟩ | ⟨rfl, ha⟩
      · simp only [ref09_Put_b3, at_get hok hj, Option.bind_some, w_succ hj (by omega)]
        rw [if_pos (by omega)]
        simp only [Bool.false_eq_true, if_false]
        by_cases c : s.l[j].1 ≥ (p : Int)
        · rw [if_pos c]
          rw [if_neg (by simp; omega), List.append_nil] at hl
          have hafter : ∀ i (hi : i < s.l.length), j + 1 ≤ i → (p : Int) < s.l[i].1 := fun i hi hij => by have := asc_mono hasc (i := j) (k := i) (by omega) hi; omega
          have ap1 : app (ltF p (s.l.take j)) [((p : Int), x)] = some (ltF p (s.l.take j) ++ [((p : Int), x)]) := app_ok (by simp; unfold bound; omega)
          simp only [ap1, Option.bind_some]
          by_cases c2 : s.l[j].1 ≠ (p : Int)
          · rw [if_pos c2]
            rw [if_pos (by simp; omega), ha, List.nil_append] at hgt
            have ap2 : app (ltF p (s.l.take j) ++ [((p : Int), x)]) [(s.l[j].1, s.l[j].2)] = some ((ltF p (s.l.take j) ++ [((p : Int), x)]) ++ [(s.l[j].1, s.l[j].2)]) := app_ok (by simp; unfold bound; omega)
            simp only [ap2, Option.bind_some]
            refine .inl ⟨_, rfl, .inr ⟨?_, hafter⟩⟩
            rw [hl, hgt]; simp
          · rw [if_neg c2]
            rw [if_neg (by simp; omega), ha, List.nil_append] at hgt
            refine .inl ⟨_, rfl, .inr ⟨?_, hafter⟩⟩
            rw [hl, hgt]
        · rw [if_neg c, if_pos (show s.l[j].1 ≠ (p : Int) by omega)]
          rw [if_pos (by simp; omega)] at hl
          rw [if_neg (by simp; omega), List.append_nil] at hgt
          have ap1 : app (ltF p (s.l.take j)) [(s.l[j].1, s.l[j].2)] = some (ltF p (s.l.take j) ++ [(s.l[j].1, s.l[j].2)]) := app_ok (by simp; unfold bound; omega)
          simp only [ap1, Option.bind_some]
          refine .inl ⟨_, rfl, .inl ⟨?_, by rw [hgt, ha], fun y hy => ?_⟩⟩
          · rw [hl]
          · rw [List.take_succ_eq_append_getElem hj] at hy
            rcases List.mem_append.1 hy with hy | hy
            · exact hall y hy
            · simp at hy; subst hy; omega
      · have hj' := ha j hj (Nat.le_refl _)
        simp only [ref09_Put_b3, at_get hok hj, Option.bind_some, w_succ hj (by omega)]
        rw [if_pos (by omega), if_pos trivial, if_pos (show s.l[j].1 ≠ (p : Int) by omega)]
        rw [if_neg (by simp; omega), List.append_nil] at hl
        rw [if_pos (by simp; omega)] at hgt
        have ap1 : app (ltF p (s.l.take j) ++ ((p : Int), x) :: gtF p (s.l.take j)) [(s.l[j].1, s.l[j].2)] = some ((ltF p (s.l.take j) ++ ((p : Int), x) :: gtF p (s.l.take j)) ++ [(s.l[j].1, s.l[j].2)]) := app_ok (by simp; unfold bound; omega)
        simp only [ap1, Option.bind_some]
        refine .inl ⟨_, rfl, .inr ⟨?_, fun i hi hij => ha i hi (by omega)⟩⟩
        rw [hl, hgt]; simp)
    (by
      rintro a (⟨rfl, ha, hall⟩ | ⟨rfl, ha⟩)
      · refine ⟨_, if_neg (by omega), .inl ⟨?_, ?_⟩⟩
        · rw [List.take_length]
        · rw [List.take_length] at ha; exact ha
      · refine ⟨_, if_neg (by omega), .inr ?_⟩
        rw [List.take_length]) 0 (Nat.zero_le _) (false, 0, []) (.inl ⟨rfl, rfl, fun y hy => by simp at hy⟩)
  rw [q1]
  have e := vecG_put hp g (some x)
  rw [← hg] at e
  have hb1 := ltF_len p s.l s.l.length
  rw [List.take_length] at hb1
  rcases q2 with ⟨rfl, hgn⟩ | rfl
  · simp only [Option.bind_some, Sum.elim_inl, Bool.false_eq_true, if_false]
    have ap1 : app (ltF p s.l) [((p : Int), x)] = some (ltF p s.l ++ [((p : Int), x)]) := app_ok (by simp; unfold bound; omega)
    rw [ap1, e]
    have : (s.l.filter fun x => decide ((p : Int) < x.1)) = [] := hgn
    rw [this]; rfl
  · simp only [Option.bind_some, Sum.elim_inl, if_true]
    rw [e]; rfl

/-! Assign. -/
def gA (lv lx : List It) (at' : List Int) : Nat → Nat → Option Int
  | 0 => fun p => getI (p : Int) lv
  | j + 1 => updG (gA lv lx at' j) (at'.getD j 0).toNat (getI (j : Int) lx)
theorem gA_succ {lv lx : List It} {at' : List Int} {j : Nat} (hj : j < at'.length) : gA lv lx at' (j + 1) = updG (gA lv lx at' j) at'[j].toNat (getI (j : Int) lx) := by
  show updG _ (at'.getD j 0).toNat _ = _
  rw [List.getD_eq_getElem?_getD, List.getElem?_eq_getElem hj]; rfl
/-- What assigning comes to: what is wrong, or the items. -/
def assignV (v : Int × Sl It) (s : Sl Int) (x : Int × Sl It) : Int ⊕ (Int × List It) :=
  if (sureV x).1 ≠ (s.l.length : Int) then .inl 4 else if outB (sureV v).1 s.l = true then .inl 3 else .inr ((sureV v).1, vecG (sureV v).1.toNat (gA (sureV v).2.l (sureV x).2.l s.l s.l.length))
def isA (r : (Int × Sl It) × Int) : Int ⊕ (Int × List It) → Prop
  | .inl e => r = ((0, nilS), e)
  | .inr y => r.2 = 0 ∧ r.1.1 = y.1 ∧ r.1.2.l = y.2 ∧ okS 2 r.1.2
theorem fold_Assign_eq (v : Int × Sl It) (s : Sl Int) (x : Int × Sl It) (hok : okS 2 v.2) (hl : v.2.l.length ≤ 9223372036854775807) (hs : okS 1 s) (hsl : s.l.length ≤ 9223372036854775807) (hok' : okS 2 x.2) (hl' : x.2.l.length ≤ 9223372036854775807) : ∃ r, fold_Assign v s x = some r ∧ isA r (assignV v s x) := by
  obtain ⟨n, t⟩ := v
  obtain ⟨m, y⟩ := x
  unfold fold_Assign assignV
  simp only [fold_sure_eq (n, t) hok hl, fold_sure_eq (m, y) hok' hl', Option.bind_some]
  have hok2 : okS 2 (sureV (n, t)).2 := sureV_ok hok
  have hr := sureV_right (n, t)
  generalize sureV (n, t) = u at hok2 hr
  obtain ⟨n2, t2⟩ := u
  have hokx : okS 2 (sureV (m, y)).2 := sureV_ok hok'
  have hrx := sureV_right (m, y)
  generalize sureV (m, y) = ux at hokx hrx
  obtain ⟨m2, y2⟩ := ux
  simp only at hok2 hr hokx hrx ⊢
  by_cases h1 : m2 ≠ (s.l.length : Int)
  · rw [if_pos h1, if_pos h1]; exact ⟨_, rfl, rfl⟩
  rw [if_neg h1, if_neg h1]
  simp only [fold_outside_eq s n2 hs hsl, Option.bind_some]
  cases h2 : outB n2 s.l with
  | true => exact ⟨_, rfl, rfl⟩
  | false =>
    obtain ⟨n0, n1⟩ := right_size hr
    obtain ⟨m0, m1⟩ := right_size hrx
    have hm : m2 = (s.l.length : Int) := Classical.not_not.1 h1
    simp only [Bool.false_eq_true, if_false, fold_slots_eq n2 t2 hok2 hr, fold_slots_eq m2 y2 hokx hrx, Option.bind_some]
    obtain ⟨q, q1, q2⟩ := loop_up (b := fold_Assign_b1 s (tblG m2.toNat fun p => getI (p : Int) y2.l)) s.l.length (fun j a => a = (tblG n2.toNat (gA t2.l y2.l s.l j), (j : Int))) (fun q => q = .inl (tblG n2.toNat (gA t2.l y2.l s.l s.l.length)))
      (by
        rintro j _ hj rfl
        obtain ⟨p0, p1⟩ := out_in h2 hj
        have hp : s.l[j].toNat < n2.toNat := by omega
        have hjm : j < m2.toNat := by omega
        have he : atL (tblG m2.toNat fun p => getI (p : Int) y2.l) (j : Int) = some (encO (getI (j : Int) y2.l)) := by
          have := atL_get (l := tblG m2.toNat fun p => getI (p : Int) y2.l) (j := j) (by rw [tblG_len]; exact hjm)
          rw [tblG_get hjm] at this; exact this
        have he2 : atL (tblG n2.toNat (gA t2.l y2.l s.l j)) s.l[j] = some (encO (gA t2.l y2.l s.l j s.l[j].toNat)) := by
          have := atL_get (l := tblG n2.toNat (gA t2.l y2.l s.l j)) (j := s.l[j].toNat) (by rw [tblG_len]; exact hp)
          rw [tblG_get hp, show ((s.l[j].toNat : Nat) : Int) = s.l[j] by omega] at this; exact this
        simp only [fold_Assign_b1, at_get hs hj, Option.bind_some, w_succ hj (by omega), he, he2]
        rw [if_pos (by omega)]
        refine .inl ⟨_, rfl, ?_⟩
        show ((tblG n2.toNat _).set s.l[j].toNat (encO (getI (j : Int) y2.l)), _) = _
        rw [tblG_set, gA_succ hj])
      (by
        rintro _ rfl
        exact ⟨_, if_neg (by omega), rfl⟩) 0 (Nat.zero_le _) (tblG n2.toNat fun p => getI (p : Int) t2.l, 0) rfl
    subst q2
    rw [q1]
    simp only [Option.bind_some, Sum.elim_inl, fold_gathered_eq n2.toNat _ (by omega)]
    refine ⟨_, rfl, rfl, ?_, mo_l _ _, ok_mo _⟩
    show ((n2.toNat : Nat) : Int) = n2
    omega
theorem ref12_Assign_eq (v : Int × Sl It) (s : Sl Int) (x : Int × Sl It) (hok : okS 2 v.2) (hl : v.2.l.length ≤ 9223372036854775807) (hs : okS 1 s) (hsl : s.l.length ≤ 9223372036854775807) (hok' : okS 2 x.2) (hl' : x.2.l.length ≤ 9223372036854775807) : ∃ r, ref12_Assign v s x = some r ∧ isA r (assignV v s x) := by
  obtain ⟨n, t⟩ := v
  obtain ⟨m, y⟩ := x
  unfold ref12_Assign assignV
  simp only [ref09_Sure_eq (n, t) hok hl, ref09_Sure_eq (m, y) hok' hl', Option.bind_some]
  have hok2 : okS 2 (sureV (n, t)).2 := sureV_ok hok
  have hr := sureV_right (n, t)
  generalize sureV (n, t) = u at hok2 hr
  obtain ⟨n2, t2⟩ := u
  have hokx : okS 2 (sureV (m, y)).2 := sureV_ok hok'
  have hrx := sureV_right (m, y)
  generalize sureV (m, y) = ux at hokx hrx
  obtain ⟨m2, y2⟩ := ux
  simp only at hok2 hr hokx hrx ⊢
  by_cases h1 : m2 ≠ (s.l.length : Int)
  · rw [if_pos h1, if_pos h1]; exact ⟨_, rfl, rfl⟩
  rw [if_neg h1, if_neg h1]
  obtain ⟨n0, n1⟩ := right_size hr
  obtain ⟨m0, m1⟩ := right_size hrx
  have hm : m2 = (s.l.length : Int) := Classical.not_not.1 h1
  have hF : ∀ j (hj : j < s.l.length), (s.l[j] < 0 ∨ s.l[j] ≥ n2) → outB n2 s.l = true := fun j hj hc => by
    unfold outB
    rw [List.any_eq_true]
    exact ⟨_, List.getElem_mem hj, by simpa using hc⟩
  obtain ⟨q, q1, q2⟩ := loop_up (b := ref12_Assign_b1 s n2) s.l.length (fun j a => a = (j : Int) ∧ ∀ i (h : i < s.l.length), i < j → 0 ≤ s.l[i] ∧ s.l[i] < n2) (fun q => (outB n2 s.l = true ∧ q = .inr ((0, nilS), 3)) ∨ (outB n2 s.l = false ∧ q = .inl ()))
    (by
      rintro j _ hj ⟨rfl, ha⟩
      simp only [ref12_Assign_b1, at_get hs hj, Option.bind_some, w_succ hj (by omega)]
      rw [if_pos (by omega)]
      by_cases c1 : s.l[j] < 0
      · exact .inr ⟨_, if_pos c1, .inl ⟨hF j hj (.inl c1), rfl⟩⟩
      rw [if_neg c1]
      by_cases c2 : s.l[j] ≥ n2
      · exact .inr ⟨_, if_pos c2, .inl ⟨hF j hj (.inr c2), rfl⟩⟩
      refine .inl ⟨_, if_neg c2, rfl, fun i hi hij => ?_⟩
      by_cases c : i = j
      · subst c; omega
      · exact ha i hi (by omega))
    (by
      rintro _ ⟨rfl, ha⟩
      refine ⟨_, if_neg (by omega), .inr ⟨?_, rfl⟩⟩
      unfold outB
      rw [List.any_eq_false]
      intro z hz
      obtain ⟨i, hi, rfl⟩ := List.getElem_of_mem hz
      have := ha i hi hi
      simp; omega) 0 (Nat.zero_le _) 0 ⟨rfl, fun i _ h => absurd h (by omega)⟩
  rw [q1]
  rcases q2 with ⟨q3, rfl⟩ | ⟨h2, rfl⟩
  · rw [q3]; exact ⟨_, rfl, rfl⟩
  rw [h2]
  simp only [Option.bind_some, Sum.elim_inl, Bool.false_eq_true, if_false]
  obtain ⟨q, q1, q2⟩ := loop_up (b := ref12_Assign_b2 s m2 y2) s.l.length (fun j a => ∃ s', a = ((j : Int), n2, s') ∧ s'.l = vecG n2.toNat (gA t2.l y2.l s.l j) ∧ okS 2 s') (fun q => ∃ s', q = .inl (n2, s') ∧ s'.l = vecG n2.toNat (gA t2.l y2.l s.l s.l.length) ∧ okS 2 s')
    (by
      rintro j _ hj ⟨s', rfl, hs', hok'⟩
      obtain ⟨p0, p1⟩ := out_in h2 hj
      have hp : s.l[j].toNat < n2.toNat := by omega
      have ep : s.l[j] = ((s.l[j].toNat : Nat) : Int) := by omega
      simp only [ref12_Assign_b2, at_get hs hj, Option.bind_some, w_succ hj (by omega), ref09_Get_eq m2 y2 _ hokx hrx]
      rw [if_pos (by omega)]
      cases hx : getI (j : Int) y2.l with
      | some z =>
        simp only [encO, if_true]
        rw [ep, ref09_Put_eq n2 s' s.l[j].toNat z _ hok' n0 n1 hs' hp]
        refine .inl ⟨_, rfl, _, rfl, ?_, ok_mo _⟩
        rw [mo_l, gA_succ hj, hx]
      | none =>
        simp only [encO, Bool.false_eq_true, if_false]
        rw [ep, ref09_Drop_eq n2 s' s.l[j].toNat _ hok' n0 n1 hs' hp]
        refine .inl ⟨_, rfl, _, rfl, ?_, ok_mo _⟩
        rw [mo_l, gA_succ hj, hx])
    (by
      rintro _ ⟨s', rfl, hs', hok'⟩
      exact ⟨_, if_neg (by omega), _, rfl, hs', hok'⟩) 0 (Nat.zero_le _) (0, n2, t2) ⟨t2, rfl, right_gath hr, hok2⟩
  rw [q1]
  obtain ⟨s', rfl, hs', hok'⟩ := q2
  exact ⟨_, rfl, rfl, rfl, hs', hok'⟩
/-- Vectors of the same items are told to be the same. -/
theorem sameItems_eq (s s' : Sl It) (hok : okS 2 s) (hok' : okS 2 s') (he : s.l = s'.l) (hl : s.l.length ≤ 9223372036854775807) : ref07_SameItems s s' = some true := by
  unfold ref07_SameItems
  rw [if_neg (by rw [he]; simp)]
  obtain ⟨q, h1, h2⟩ := loop_up (b := ref07_SameItems_b1 s s') s.l.length (fun j a => a = (j : Int)) (fun q => q = .inl ())
    (by
      rintro j _ hj rfl
      have hj' : j < s'.l.length := by rw [← he]; exact hj
      have e2 : s'.l[j] = s.l[j] := by simp only [he]
      simp only [ref07_SameItems_b1, at_get hok hj, at_get hok' hj', e2, Option.bind_some, w_succ hj (by omega)]
      rw [if_pos (by omega)]
      exact .inl ⟨_, if_pos (by simp), rfl⟩)
    (by
      rintro _ rfl
      exact ⟨_, if_neg (by omega), rfl⟩) 0 (Nat.zero_le _) 0 rfl
  subst h2
  rw [h1]; rfl
theorem same_eq (v v' : Int × Sl It) (hok : okS 2 v.2) (hok' : okS 2 v'.2) (hn : v.1 = v'.1) (he : v.2.l = v'.2.l) (hl : v.2.l.length ≤ 9223372036854775807) : ref09_Same v v' = some true := by
  obtain ⟨n, s⟩ := v
  obtain ⟨n', s'⟩ := v'
  simp only at hn he hok hok' hl
  unfold ref09_Same
  simp only [if_pos hn, sameItems_eq s s' hok hok' he hl, Option.bind_some]
end Ev
end Go.Proofs.Ytioagbejilllfaa
