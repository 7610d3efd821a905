/- Folds over vectors, both ways; FoldReduces. Over the functions on data; no number of a type or function is named. -/
import Derived.Test.YtioagbejilllfaaLf1
import Derived.Test.YtioagbejilllfaaLf2
import Derived.Test.YtioagbejilllfaaLf3
import Derived.Test.YtioagbejilllfaaMv2
namespace Go.Proofs.Ytioagbejilllfaa
namespace Ev
open Go
set_option linter.unusedVariables false
set_option linter.unusedSimpArgs false
/-- What items come to, one after another. -/
def foldR (r : Int) (a : Int × Int) : List It → Int × Int
  | [] => a
  | x :: l => foldR r (ringAdd r a (ofW x.2)) l
theorem foldR_lo {r : Int} : ∀ {l : List It} {a : Int × Int}, u64r a.2 → u64r (foldR r a l).2
  | [], a, h => h
  | x :: l, a, h => foldR_lo (l := l) (ringAdd_lo h (ofW_lo _))
def totalR (r : Int) : List It → Int × Int
  | [] => ofW (zeroR r)
  | x :: l => foldR r (ofW x.2) l
theorem totalR_lo (r : Int) (l : List It) : u64r (totalR r l).2 := by
  cases l with
  | nil => exact ofW_lo _
  | cons x l => exact foldR_lo (ofW_lo _)
def okR (r : Int) : Bool := decide (1 ≤ r) && decide (r ≤ 5)
def reduceV (r : Int) (v : Int × Sl It) : Int × Int := if okR r = true then (if (narrowW (totalR r (sureV v).2.l)).2 = true then ((narrowW (totalR r (sureV v).2.l)).1, 0) else (0, 12)) else (0, 8)
theorem red_inv {r : Int} {l : List It} {j : Nat} (hj : j < l.length) {a : Int × Int} (h : totalR r l = if j = 0 then totalR r l else foldR r a (l.drop j)) : totalR r l = foldR r (if j = 0 then ofW l[j].2 else ringAdd r a (ofW l[j].2)) (l.drop (j + 1)) := by
  by_cases h0 : j = 0
  · subst h0
    cases l with
    | nil => simp at hj
    | cons x l => rfl
  · rw [if_neg h0] at h ⊢
    rw [h, List.drop_eq_getElem_cons hj]; rfl
theorem fold_Reduce_eq (r : Int) (v : Int × Sl It) (hok : okS 2 v.2) (hl : v.2.l.length ≤ 9223372036854775807) (hv : ∀ x ∈ v.2.l, i64r x.2) : fold_Reduce r v = some (reduceV r v) := by
  obtain ⟨n, s⟩ := v
  unfold fold_Reduce reduceV okR
  simp only [ring_Is_eq, Option.bind_some]
  cases hr : (decide (1 ≤ r) && decide (r ≤ 5)) with
  | false => simp
  | true =>
    simp only [if_true, ring_Zero_eq, wide_Of_eq (zeroR_r r), fold_sure_eq (n, s) hok hl, Option.bind_some]
    have hok2 : okS 2 (sureV (n, s)).2 := sureV_ok hok
    have hv2 : ∀ x ∈ (sureV (n, s)).2.l, i64r x.2 := by unfold sureV; split; exact hv; intro x hx; simp [nilS] at hx
    have hlen := sure_len (n, s)
    generalize sureV (n, s) = u at hok2 hv2 hlen
    obtain ⟨n2, s2⟩ := u
    simp only at hok2 hv2 hlen
    obtain ⟨q, h1, h2⟩ := loop_up (b := fold_Reduce_b1 r s2) s2.l.length (fun j a => ∃ w : Int × Int, a = ((j : Int), w.1, w.2) ∧ (j = 0 → w = ofW (zeroR r)) ∧ totalR r s2.l = if j = 0 then totalR r s2.l else foldR r w (s2.l.drop j)) (fun q => q = .inl (totalR r s2.l))
      (by
        rintro j _ hj ⟨w, rfl, h0, ha⟩
        have hx := hv2 _ (List.getElem_mem hj)
        simp only [fold_Reduce_b1, at_get hok2 hj, Option.bind_some, w_succ hj (by omega), wide_Of_eq hx, ring_Add_eq]
        rw [if_pos (by omega)]
        have hn := red_inv hj ha
        by_cases hz : (j : Int) = 0
        · have hz' : j = 0 := by omega
          rw [if_pos hz'] at hn
          exact .inl ⟨_, if_pos hz, _, rfl, fun h => absurd h (by omega), by rw [if_neg (by omega)]; exact hn⟩
        · have hz' : ¬ j = 0 := by omega
          rw [if_neg hz'] at hn
          exact .inl ⟨_, if_neg hz, _, rfl, fun h => absurd h (by omega), by rw [if_neg (by omega)]; exact hn⟩)
      (by
        rintro _ ⟨w, rfl, h0, ha⟩
        refine ⟨_, if_neg (by omega), ?_⟩
        by_cases hz : s2.l.length = 0
        · rw [h0 hz]
          have : s2.l = [] := List.eq_nil_of_length_eq_zero hz
          rw [this]; rfl
        · rw [if_neg hz] at ha
          rw [ha]; simp [foldR]) 0 (Nat.zero_le _) (0, (ofW (zeroR r)).1, (ofW (zeroR r)).2) ⟨ofW (zeroR r), rfl, fun _ => rfl, rfl⟩
    subst h2
    rw [h1]
    simp only [Option.bind_some, Sum.elim_inl, ring_Narrow_eq]
    cases hb : (narrowW (totalR r s2.l)).2 <;> simp [hb]
theorem ref12_Reduce_eq (r : Int) (v : Int × Sl It) (hok : okS 2 v.2) (hl : v.2.l.length ≤ 9223372036854775807) : ref12_Reduce r v = some (reduceV r v) := by
  obtain ⟨n, s⟩ := v
  unfold ref12_Reduce reduceV okR
  simp only [ref09_Sure_eq (n, s) hok hl, ref02_Is_eq, Option.bind_some]
  have hok2 : okS 2 (sureV (n, s)).2 := sureV_ok hok
  have hlen := sure_len (n, s)
  generalize sureV (n, s) = u at hok2 hlen
  obtain ⟨n2, s2⟩ := u
  simp only at hok2 hlen ⊢
  cases hr : (decide (1 ≤ r) && decide (r ≤ 5)) with
  | false => simp
  | true =>
    simp only [if_true, ref02_Zero_eq, ref01_Of_eq, Option.bind_some]
    obtain ⟨q, h1, h2⟩ := loop_up (b := ref12_Reduce_b1 r s2) s2.l.length (fun j a => ∃ w : Int × Int, a = ((j : Int), w.1, w.2) ∧ (j = 0 → w = ofW (zeroR r)) ∧ totalR r s2.l = if j = 0 then totalR r s2.l else foldR r w (s2.l.drop j)) (fun q => q = .inl (totalR r s2.l))
      (by
        rintro j _ hj ⟨w, rfl, h0, ha⟩
        simp only [ref12_Reduce_b1, at_get hok2 hj, Option.bind_some, w_succ hj (by omega), ref01_Of_eq, ref02_Add_eq]
        rw [if_pos (by omega)]
        have hn := red_inv hj ha
        by_cases hz : (j : Int) = 0
        · have hz' : j = 0 := by omega
          rw [if_pos hz'] at hn
          exact .inl ⟨_, if_pos hz, _, rfl, fun h => absurd h (by omega), by rw [if_neg (by omega)]; exact hn⟩
        · have hz' : ¬ j = 0 := by omega
          rw [if_neg hz'] at hn
          exact .inl ⟨_, if_neg hz, _, rfl, fun h => absurd h (by omega), by rw [if_neg (by omega)]; exact hn⟩)
      (by
        rintro _ ⟨w, rfl, h0, ha⟩
        refine ⟨_, if_neg (by omega), ?_⟩
        by_cases hz : s2.l.length = 0
        · rw [h0 hz]
          have : s2.l = [] := List.eq_nil_of_length_eq_zero hz
          rw [this]; rfl
        · rw [if_neg hz] at ha
          rw [ha]; simp [foldR]) 0 (Nat.zero_le _) (0, (ofW (zeroR r)).1, (ofW (zeroR r)).2) ⟨ofW (zeroR r), rfl, fun _ => rfl, rfl⟩
    subst h2
    rw [h1]
    simp only [Option.bind_some, Sum.elim_inl, ref01_Narrow_eq (totalR_lo r s2.l)]
    cases hb : (narrowW (totalR r s2.l)).2 <;> simp [hb]

/-! The least item. -/
def leastF (m : It) : List It → It
  | [] => m
  | x :: l => leastF (if x.2 < m.2 then x else m) l
def leastV (v : Int × Sl It) : It × Bool :=
  match (sureV v).2.l with
  | [] => ((0, 0), false)
  | x :: l => (leastF x l, true)
theorem fold_Least_eq (v : Int × Sl It) (hok : okS 2 v.2) (hl : v.2.l.length ≤ 9223372036854775807) : fold_Least v = some (leastV v) := by
  obtain ⟨n, s⟩ := v
  unfold fold_Least leastV
  simp only [fold_sure_eq (n, s) hok hl, Option.bind_some]
  have hok2 : okS 2 (sureV (n, s)).2 := sureV_ok hok
  have hlen := sure_len (n, s)
  generalize sureV (n, s) = u at hok2 hlen
  obtain ⟨n2, s2⟩ := u
  simp only at hok2 hlen ⊢
  cases hs : s2.l with
  | nil => simp
  | cons x l =>
    have hp : 0 < s2.l.length := by rw [hs]; simp
    have h0 : atS 2 s2 0 = some x := by
      have := at_get hok2 hp
      simp only [hs] at this
      simpa using this
    simp only [if_neg (show ¬ (((x :: l).length : Nat) : Int) = 0 by simp; omega), h0, Option.bind_some]
    obtain ⟨q, h1, h2⟩ := loop_up (b := fold_Least_b1 s2) s2.l.length (fun j a => ∃ w : It, a = ((j : Int), w.1, w.2) ∧ leastF x (x :: l) = leastF w (s2.l.drop j)) (fun q => q = .inl (leastF x (x :: l)))
      (by
        rintro j _ hj ⟨w, rfl, ha⟩
        rw [List.drop_eq_getElem_cons hj] at ha
        simp only [fold_Least_b1, at_get hok2 hj, Option.bind_some, w_succ hj (by omega)]
        rw [if_pos (by omega)]
        by_cases c : s2.l[j].2 < w.2
        · exact .inl ⟨_, if_pos c, _, rfl, by rw [ha]; simp only [leastF, if_pos c]⟩
        · exact .inl ⟨_, if_neg c, _, rfl, by rw [ha]; simp only [leastF, if_neg c]⟩)
      (by
        rintro _ ⟨w, rfl, ha⟩
        exact ⟨_, if_neg (by omega), by rw [ha]; simp [leastF]⟩) 0 (Nat.zero_le _) (0, x.1, x.2) ⟨x, rfl, by rw [hs]; rfl⟩
    subst h2
    rw [h1]
    simp [leastF]
theorem ref12_Least_eq (v : Int × Sl It) (hok : okS 2 v.2) (hl : v.2.l.length ≤ 9223372036854775807) : ref12_Least v = some (leastV v) := by
  obtain ⟨n, s⟩ := v
  unfold ref12_Least leastV
  simp only [ref09_Sure_eq (n, s) hok hl, Option.bind_some]
  have hok2 : okS 2 (sureV (n, s)).2 := sureV_ok hok
  have hlen := sure_len (n, s)
  generalize sureV (n, s) = u at hok2 hlen
  obtain ⟨n2, s2⟩ := u
  simp only at hok2 hlen ⊢
  cases hs : s2.l with
  | nil =>
    have : loopO (ref12_Least_b1 s2) (0, 0, 0) = some (.inl (0, 0)) := loopO_done (by unfold ref12_Least_b1; simp [hs])
    rw [this]; simp
  | cons x l =>
    obtain ⟨q, h1, h2⟩ := loop_up (b := ref12_Least_b1 s2) s2.l.length (fun j a => ∃ w : It, a = ((j : Int), w.1, w.2) ∧ (0 < j → leastF x l = leastF w (s2.l.drop j))) (fun q => q = .inl (leastF x l))
      (by
        rintro j _ hj ⟨w, rfl, ha⟩
        simp only [ref12_Least_b1, at_get hok2 hj, Option.bind_some, w_succ hj (by omega)]
        rw [if_pos (by omega)]
        by_cases hz : (j : Int) = 0
        · have hz' : j = 0 := by omega
          subst hz'
          refine .inl ⟨_, if_pos hz, _, rfl, fun _ => ?_⟩
          simp [hs]
        · rw [if_neg hz]
          have ha' := ha (by omega)
          rw [List.drop_eq_getElem_cons hj] at ha'
          by_cases c : s2.l[j].2 < w.2
          · exact .inl ⟨_, if_pos c, _, rfl, fun _ => by rw [ha']; simp only [leastF, if_pos c]⟩
          · exact .inl ⟨_, if_neg c, _, rfl, fun _ => by rw [ha']; simp only [leastF, if_neg c]⟩)
      (by
        rintro _ ⟨w, rfl, ha⟩
        have ha' := ha (by rw [hs]; simp)
        exact ⟨_, if_neg (by omega), by rw [ha']; simp [leastF]⟩) 0 (Nat.zero_le _) (0, 0, 0) ⟨(0, 0), rfl, fun h => absurd h (by omega)⟩
    subst h2
    rw [h1]
    simp

/-! What holds of a value. -/
def holdsB (t v k : Int) : Bool := (decide (t = 1) && decide (v < k)) || (decide (t = 2) && decide (k < v)) || (decide (t = 3) && decide (v = k)) || (decide (t = 4) && !decide (v = k))
theorem fold_Holds_eq (t v k : Int) : fold_Holds t v k = some (holdsB t v k) := by
  unfold fold_Holds holdsB
  by_cases h1 : t = 1
  · subst h1; simp; split <;> simp_all
  by_cases h2 : t = 2
  · subst h2; simp; split <;> simp_all
  by_cases h3 : t = 3
  · subst h3; simp; split <;> simp_all
  by_cases h4 : t = 4
  · subst h4; simp; split <;> simp_all
  simp [h1, h2, h3, h4]
theorem ref12_Holds_eq (t v k : Int) : ref12_Holds t v k = some (holdsB t v k) := by
  unfold ref12_Holds holdsB
  by_cases h1 : t = 1
  · subst h1; simp; split <;> simp_all
  by_cases h2 : t = 2
  · subst h2; simp; split <;> simp_all
  by_cases h3 : t = 3
  · subst h3; simp; split <;> simp_all
  by_cases h4 : t = 4
  · subst h4; simp; split <;> simp_all
  simp [h1, h2, h3, h4]
def whereV (v : Int × Sl It) (t k : Int) : Int × Sl It := ((sureV v).1, mo 2 ((sureV v).2.l.filter fun x => holdsB t x.2 k))
theorem filter_take {α : Type} (p : α → Bool) (l : List α) {j : Nat} (hj : j < l.length) : (l.take (j + 1)).filter p = (l.take j).filter p ++ (if p l[j] = true then [l[j]] else []) := by
  rw [List.take_succ_eq_append_getElem hj, List.filter_append]
  congr 1
  by_cases h : p l[j] = true
  · simp [h]
  · simp [h]
theorem fold_Where_eq (v : Int × Sl It) (t k : Int) (hok : okS 2 v.2) (hl : v.2.l.length ≤ 9223372036854775807) : fold_Where v t k = some (whereV v t k) := by
  obtain ⟨n, s⟩ := v
  unfold fold_Where whereV
  simp only [fold_sure_eq (n, s) hok hl, Option.bind_some]
  have hok2 : okS 2 (sureV (n, s)).2 := sureV_ok hok
  have hlen := sure_len (n, s)
  generalize sureV (n, s) = u at hok2 hlen
  obtain ⟨n2, s2⟩ := u
  simp only at hok2 hlen ⊢
  obtain ⟨q, h1, h2⟩ := loop_up (b := fold_Where_b1 t k s2) s2.l.length (fun j a => a = ((j : Int), (s2.l.take j).filter fun x => holdsB t x.2 k)) (fun q => q = .inl (s2.l.filter fun x => holdsB t x.2 k))
    (by
      rintro j _ hj rfl
      have hb : ((s2.l.take j).filter fun x => holdsB t x.2 k).length + 1 ≤ bound := by
        have := List.length_filter_le (fun x : It => holdsB t x.2 k) (s2.l.take j)
        have h3 : (s2.l.take j).length ≤ j := by simp; omega
        unfold bound; omega
      simp only [fold_Where_b1, at_get hok2 hj, Option.bind_some, w_succ hj (by omega), fold_Holds_eq]
      rw [if_pos (by omega)]
      have hf := filter_take (fun x : It => holdsB t x.2 k) s2.l hj
      by_cases c : holdsB t s2.l[j].2 k = true
      · rw [if_pos c] at hf
        refine .inl ⟨_, ?_, by rw [hf]⟩
        rw [if_pos c, app_ok (by simpa using hb)]; rfl
      · rw [if_neg c, List.append_nil] at hf
        exact .inl ⟨_, if_neg c, by rw [hf]⟩)
    (by
      rintro _ rfl
      exact ⟨_, if_neg (by omega), by rw [List.take_length]⟩) 0 (Nat.zero_le _) (0, []) rfl
  subst h2
  rw [h1]
  rfl
theorem ref12_Where_eq (v : Int × Sl It) (t k : Int) (hok : okS 2 v.2) (hl : v.2.l.length ≤ 9223372036854775807) : ref12_Where v t k = some (whereV v t k) := by
  obtain ⟨n, s⟩ := v
  unfold ref12_Where whereV
  simp only [ref09_Sure_eq (n, s) hok hl, Option.bind_some]
  have hok2 : okS 2 (sureV (n, s)).2 := sureV_ok hok
  have hlen := sure_len (n, s)
  generalize sureV (n, s) = u at hok2 hlen
  obtain ⟨n2, s2⟩ := u
  simp only at hok2 hlen ⊢
  obtain ⟨q, h1, h2⟩ := loop_up (b := ref12_Where_b1 t k s2) s2.l.length (fun j a => a = ((j : Int), (s2.l.take j).filter fun x => holdsB t x.2 k)) (fun q => q = .inl (s2.l.filter fun x => holdsB t x.2 k))
    (by
      rintro j _ hj rfl
      have hb : ((s2.l.take j).filter fun x => holdsB t x.2 k).length + 1 ≤ bound := by
        have := List.length_filter_le (fun x : It => holdsB t x.2 k) (s2.l.take j)
        have h3 : (s2.l.take j).length ≤ j := by simp; omega
        unfold bound; omega
      simp only [ref12_Where_b1, at_get hok2 hj, Option.bind_some, w_succ hj (by omega), ref12_Holds_eq]
      rw [if_pos (by omega)]
      have hf := filter_take (fun x : It => holdsB t x.2 k) s2.l hj
      by_cases c : holdsB t s2.l[j].2 k = true
      · rw [if_pos c] at hf
        refine .inl ⟨_, ?_, by rw [hf]⟩
        rw [if_pos c, app_ok (by simpa using hb)]; rfl
      · rw [if_neg c, List.append_nil] at hf
        exact .inl ⟨_, if_neg c, by rw [hf]⟩)
    (by
      rintro _ rfl
      exact ⟨_, if_neg (by omega), by rw [List.take_length]⟩) 0 (Nat.zero_le _) (0, []) rfl
  subst h2
  rw [h1]
  rfl
theorem where_ok (v : Int × Sl It) (t k : Int) : okS 2 (whereV v t k).2 := ok_mo _
theorem where_len (v : Int × Sl It) (t k : Int) : (whereV v t k).2.l.length ≤ 4096 := by
  unfold whereV
  rw [mo_l]
  have := List.length_filter_le (fun x : It => holdsB t x.2 k) (sureV v).2.l
  have := sure_len v
  omega
/-- Alike: as many items, each the same. -/
theorem sameItems_refl (s : Sl It) (hok : okS 2 s) (hl : s.l.length ≤ 9223372036854775807) : ref07_SameItems s s = some true := by
  unfold ref07_SameItems
  rw [if_neg (by simp)]
  obtain ⟨q, h1, h2⟩ := loop_up (b := ref07_SameItems_b1 s s) s.l.length (fun j a => a = (j : Int)) (fun q => q = .inl ())
    (by
      rintro j _ hj rfl
      simp only [ref07_SameItems_b1, at_get hok hj, Option.bind_some, w_succ hj (by omega)]
      rw [if_pos (by omega)]
      exact .inl ⟨_, if_pos (by simp), rfl⟩)
    (by
      rintro _ rfl
      exact ⟨_, if_neg (by omega), rfl⟩) 0 (Nat.zero_le _) 0 rfl
  subst h2
  rw [h1]; rfl
theorem same_refl (v : Int × Sl It) (hok : okS 2 v.2) (hl : v.2.l.length ≤ 9223372036854775807) : ref09_Same v v = some true := by
  obtain ⟨n, s⟩ := v
  unfold ref09_Same
  simp only [if_true, sameItems_refl s hok hl, Option.bind_some]
end Ev
end Go.Proofs.Ytioagbejilllfaa
