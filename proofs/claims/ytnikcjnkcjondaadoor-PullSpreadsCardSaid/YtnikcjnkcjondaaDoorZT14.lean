/- Texts of a claim, joined. -/
import Derived.Test.YtnikcjnkcjondaaDoorZT13
import Derived.Test.YtnikcjnkcjondaaDoorZT9
import Derived.Test.YtnikcjnkcjondaaDoorZT10
import Derived.Test.YtnikcjnkcjondaaDoorZT11
import Derived.Test.YtnikcjnkcjondaaDoorZT12
import Derived.Test.YtnikcjnkcjondaaDoorZT7
import Derived.Test.YtnikcjnkcjondaaDoorZT8
set_option linter.unusedVariables false
set_option linter.unusedSimpArgs false
section
namespace Go.Proofs.YtnikcjnkcjondaaDoor
namespace Ev
open Go
set_option linter.unusedVariables false
set_option linter.unusedSimpArgs false
abbrev Mx := Int × Int × Sl Int × Sl Int × Sl Int
def ascI (a n : Int) (l : List Int) : Bool := asc a n (l.map fun k => (k, 0))
theorem ascI_cons (a n x : Int) (l : List Int) : ascI a n (x :: l) = (decide (a < x) && decide (x < n) && ascI x n l) := rfl
theorem ascI_iff {n : Int} {l : List Int} : ascI (-1) n l = true ↔ ∀ j (h : j < l.length), 0 ≤ l[j] ∧ l[j] < n ∧ (j ≠ 0 → l[j - 1]'(by omega) < l[j]) := by
 unfold ascI
 rw [asc_iff']
 constructor
 ·intro h j hj
  have := h j (by simpa using hj)
  simpa using this
 ·intro h j hj
  have := h j (by simpa using hj)
  simpa using this
theorem csr_size_eq (n : Int) : csr_size n = some (sizeF n) := by
 unfold csr_size sizeF
 by_cases h1 : n ≥ 0
 ·rw [if_pos h1]
  by_cases h2 : n ≤ 4096
  ·rw [if_pos h2, decide_eq_true (show 0 ≤ n from h1), decide_eq_true h2]; rfl
  ·rw [if_neg h2, decide_eq_false h2]; simp
 ·rw [if_neg h1, decide_eq_false (show ¬ 0 ≤ n from h1)]; rfl
theorem csr_rises_eq (s : Sl Int) (n : Int) (hok : okS 1 s) (hl : s.l.length ≤ 9223372036854775807) : csr_rises s n = some (ascI (-1) n s.l) := by
 unfold csr_rises
 obtain ⟨r, h1, h2⟩ := loop_up (b := csr_rises_b1 s n) s.l.length (fun j a => ∃ la, a = (la, (j : Int)) ∧ ascI (-1) n s.l = ascI la n (s.l.drop j)) (fun r => (ascI (-1) n s.l = true ∧ r = .inl ()) ∨ (ascI (-1) n s.l = false ∧ r = .inr false))
  (by
   rintro j _ hj ⟨la, rfl, ha⟩
   rw [List.drop_eq_getElem_cons hj, ascI_cons] at ha
   simp only [csr_rises_b1, at_get hok hj, Option.bind_some, w_succ hj hl]
   rw [if_pos (by omega)]
   by_cases c1 : s.l[j] ≤ la
   ·refine .inr ⟨_, if_pos c1, .inr ⟨?_, rfl⟩⟩
    rw [ha, decide_eq_false (by omega)]; rfl
   ·rw [if_neg c1]
    by_cases c2 : s.l[j] ≥ n
    ·refine .inr ⟨_, if_pos c2, .inr ⟨?_, rfl⟩⟩
     rw [ha, decide_eq_false (p := s.l[j] < n) (by omega)]; simp
    ·refine .inl ⟨_, if_neg c2, _, rfl, ?_⟩
     rw [ha, decide_eq_true (by omega), decide_eq_true (by omega)]; rfl)
  (by
   rintro _ ⟨la, rfl, ha⟩
   refine ⟨_, if_neg (by omega), .inl ⟨?_, rfl⟩⟩
   rw [ha, List.drop_length]; rfl) 0 (Nat.zero_le _) (-1, 0) ⟨-1, rfl, rfl⟩
 rw [h1]
 rcases h2 with ⟨h3, rfl⟩ | ⟨h3, rfl⟩ <;> rw [h3] <;> rfl
def cutL {α : Type} (l : List α) (f t : Int) : List α := (l.drop f.toNat).take (t.toNat - f.toNat)
theorem cutL_len {α : Type} {l : List α} {f t : Int} (h : 0 ≤ f ∧ f ≤ t ∧ t ≤ l.length) : (cutL l f t).length = t.toNat - f.toNat := by
 unfold cutL; simp; omega
theorem cutL_get {α : Type} {l : List α} {f t : Int} (h : 0 ≤ f ∧ f ≤ t ∧ t ≤ l.length) {j : Nat} (hj : j < t.toNat - f.toNat) : (cutL l f t)[j]'(by rw [cutL_len h]; exact hj) = l[f.toNat + j]'(by omega) := by
 unfold cutL; simp
def rowOk (c : Int) (st co : List Int) (i : Nat) : Bool := decide (0 ≤ st.getD i 0) && (decide (st.getD i 0 ≤ st.getD (i + 1) 0) && (decide (st.getD (i + 1) 0 ≤ co.length) && ascI (-1) c (cutL co (st.getD i 0) (st.getD (i + 1) 0))))
def rightM (m : Mx) : Bool := sizeF m.1 && (sizeF m.2.1 && (decide ((m.2.2.1.l.length : Int) = m.1 + 1) && (decide (m.2.2.1.l.getD 0 0 = 0) && (decide (m.2.2.2.1.l.length = m.2.2.2.2.l.length) && (decide (m.2.2.2.1.l.length ≤ 65536) && (decide (m.2.2.1.l.getD m.1.toNat 0 = m.2.2.2.1.l.length) && (List.range m.1.toNat).all (rowOk m.2.1 m.2.2.1.l m.2.2.2.1.l)))))))
structure OkM (m : Mx) : Prop where
 st : okS 1 m.2.2.1
 co : okS 1 m.2.2.2.1
 va : okS 1 m.2.2.2.2
 v64 : ∀ x ∈ m.2.2.2.2.l, i64r x
 sl : m.2.2.1.l.length ≤ 9223372036854775807
 cl : m.2.2.2.1.l.length ≤ 9223372036854775807
 vl : m.2.2.2.2.l.length ≤ 9223372036854775807
theorem rowOk_false {n : Nat} {c : Int} {st co : List Int} {i : Nat} (hi : i < n) (h : rowOk c st co i = false) : (List.range n).all (rowOk c st co) = false := all_false hi h
theorem sizeF_iff {n : Int} : sizeF n = true ↔ 0 ≤ n ∧ n ≤ 4096 := by unfold sizeF; simp
theorem rows_csr {n : Nat} {c : Int} {s t : Sl Int} (hs : okS 1 s) (ht : okS 1 t) (hn : n ≤ 4096) (hl : s.l.length = n + 1) (h0 : s.l.getD 0 0 = 0) (tl : t.l.length ≤ 65536) : ∃ q, loopO (csr_Right_b1 (n : Int) c s t) 0 = some q ∧ (((List.range n).all (rowOk c s.l t.l) = true ∧ q = .inl ()) ∨ ((List.range n).all (rowOk c s.l t.l) = false ∧ q = .inr false)) := by
 refine loop_up (b := csr_Right_b1 (n : Int) c s t) n (fun j a => a = (j : Int) ∧ 0 ≤ s.l.getD j 0 ∧ ∀ i, i < j → rowOk c s.l t.l i = true) _ ?_ ?_ 0 (Nat.zero_le _) 0 ⟨rfl, by omega, fun i hi => absurd hi (by omega)⟩
 ·rintro j _ hj ⟨rfl, hp, ha⟩
  have e1 := at_get hs (j := j) (by omega)
  have e2 := at_get hs (j := j + 1) (by omega)
  rw [← getD_lt] at e1 e2
  simp only [csr_Right_b1, e1, Option.bind_some, w_succ hj (by omega)]
  rw [if_pos (by omega), e2]
  simp only [Option.bind_some]
  by_cases c1 : s.l.getD (j + 1) 0 < s.l.getD j 0
  ·rw [if_pos c1]
   exact .inr ⟨_, rfl, .inr ⟨rowOk_false hj (by unfold rowOk; rw [decide_eq_false (p := s.l.getD j 0 ≤ s.l.getD (j + 1) 0) (by omega)]; simp), rfl⟩⟩
  rw [if_neg c1]
  by_cases c2 : s.l.getD (j + 1) 0 > ((t.l.length : Nat) : Int)
  ·rw [if_pos c2]
   exact .inr ⟨_, rfl, .inr ⟨rowOk_false hj (by unfold rowOk; rw [decide_eq_false (p := s.l.getD (j + 1) 0 ≤ (t.l.length : Int)) (by omega)]; simp), rfl⟩⟩
  rw [if_neg c2]
  have hc : cutS 1 t (s.l.getD j 0) (s.l.getD (j + 1) 0) = some ⟨t.nn, t.sz, cutL t.l (s.l.getD j 0) (s.l.getD (j + 1) 0)⟩ := by
   unfold cutS
   have hz : t.sz = 1 ∨ s.l.getD j 0 = 0 := by
    rcases ht with h | h
    ·right; rw [h] at c2; simp only [List.length_nil] at c2; omega
    ·exact .inl h
   rw [if_pos ⟨hp, by omega, by omega, hz⟩]; rfl
  rw [hc]
  simp only [Option.bind_some]
  have hcl : (cutL t.l (s.l.getD j 0) (s.l.getD (j + 1) 0)).length ≤ 65536 := by rw [cutL_len ⟨hp, by omega, by omega⟩]; omega
  have hok : okS 1 (⟨t.nn, t.sz, cutL t.l (s.l.getD j 0) (s.l.getD (j + 1) 0)⟩ : Sl Int) := by
   rcases ht with h | h
   ·left; unfold cutL; simp [h]
   ·exact .inr h
  rw [csr_rises_eq _ c hok (show (cutL t.l (s.l.getD j 0) (s.l.getD (j + 1) 0)).length ≤ _ by omega)]
  simp only [Option.bind_some]
  have hr : rowOk c s.l t.l j = ascI (-1) c (cutL t.l (s.l.getD j 0) (s.l.getD (j + 1) 0)) := by
   unfold rowOk
   rw [decide_eq_true hp, decide_eq_true (p := s.l.getD j 0 ≤ s.l.getD (j + 1) 0) (by omega), decide_eq_true (p := s.l.getD (j + 1) 0 ≤ (t.l.length : Int)) (by omega)]
   simp
  cases hb : ascI (-1) c (cutL t.l (s.l.getD j 0) (s.l.getD (j + 1) 0)) with
  | true =>
   refine .inl ⟨_, rfl, rfl, by omega, fun i hi => ?_⟩
   by_cases e : i = j
   ·rw [e, hr, hb]
   ·exact ha i (by omega)
  | false => exact .inr ⟨_, rfl, .inr ⟨rowOk_false hj (by rw [hr, hb]), rfl⟩⟩
 ·rintro _ ⟨rfl, hp, ha⟩
  exact ⟨_, if_neg (by omega), .inl ⟨all_range.2 ha, rfl⟩⟩
theorem csr_Right_eq {m : Mx} (h : OkM m) : csr_Right m = some (rightM m) := by
 obtain ⟨n, c, s, t, v⟩ := m
 obtain ⟨h1, h2, h3, h4, h5, h6, h7⟩ := h
 simp only at h1 h2 h3 h4 h5 h6 h7
 unfold csr_Right rightM
 simp only [csr_size_eq, Option.bind_some]
 cases z1 : sizeF n with
 | false => rfl
 | true =>
  cases z2 : sizeF c with
  | false => rfl
  | true =>
   obtain ⟨a1, a2⟩ := sizeF_iff.1 z1
   simp only [if_true, Bool.true_and]
   rw [wrap64 (n := n + 1) (by omega) (by omega)]
   by_cases g1 : ((s.l.length : Nat) : Int) = n + 1
   ·rw [if_neg (fun h => h g1), decide_eq_true g1]
    have e0 := at_get h1 (j := 0) (by omega)
    rw [← getD_lt] at e0
    have e0' : atS 1 s 0 = some (s.l.getD 0 0) := e0
    rw [e0']
    simp only [Option.bind_some, Bool.true_and]
    by_cases g2 : s.l.getD 0 0 = 0
    ·rw [if_neg (fun h => h g2), decide_eq_true g2]
     simp only [Bool.true_and]
     by_cases g3 : t.l.length = v.l.length
     ·rw [if_neg (fun h => h (by omega)), decide_eq_true g3]
      simp only [Bool.true_and]
      by_cases g4 : t.l.length ≤ 65536
      ·rw [if_neg (by omega), decide_eq_true g4]
       simp only [Bool.true_and]
       obtain ⟨k, rfl⟩ := Int.eq_ofNat_of_zero_le a1
       have en := at_get h1 (j := k) (by omega)
       rw [← getD_lt] at en
       rw [en]
       simp only [Option.bind_some, Int.toNat_natCast]
       by_cases g5 : s.l.getD k 0 = ((t.l.length : Nat) : Int)
       ·rw [if_neg (fun h => h g5), decide_eq_true g5]
        simp only [Bool.true_and]
        obtain ⟨q, q1, q2⟩ := rows_csr (c := c) h1 h2 (by omega) (n := k) (by omega) g2 g4
        rw [q1]
        rcases q2 with ⟨e, rfl⟩ | ⟨e, rfl⟩ <;> rw [e] <;> rfl
       ·rw [if_pos g5, decide_eq_false g5]; rfl
      ·rw [if_pos (by omega), decide_eq_false g4]; rfl
     ·rw [if_pos (fun h => g3 (by omega)), decide_eq_false g3]; rfl
    ·rw [if_pos g2, decide_eq_false g2]; rfl
   ·rw [if_pos g1, decide_eq_false g1]; rfl
def sureM (m : Mx) : Mx := if rightM m = true then m else (0, 0, ⟨true, 1, [0]⟩, nilS, nilS)
theorem pull_sure_eq {m : Mx} (h : OkM m) : pull_sure m = some (sureM m) := by
 have hR := csr_Right_eq h
 obtain ⟨n, c, s, t, v⟩ := m
 unfold pull_sure sureM
 simp only [hR, Option.bind_some]
 split <;> rfl
theorem sureM_ok {m : Mx} (h : OkM m) : OkM (sureM m) := by
 unfold sureM
 split
 ·exact h
 ·exact ⟨.inr rfl, ok_nil, ok_nil, fun x hx => by simp [nilS] at hx, by simp, by simp [nilS], by simp [nilS]⟩
theorem sureM_right (m : Mx) : rightM (sureM m) = true := by unfold sureM; split; assumption; rfl
theorem rightM_spec {m : Mx} (h : rightM m = true) : (0 ≤ m.1 ∧ m.1 ≤ 4096) ∧ (0 ≤ m.2.1 ∧ m.2.1 ≤ 4096) ∧ (m.2.2.1.l.length : Int) = m.1 + 1 ∧ m.2.2.2.1.l.length = m.2.2.2.2.l.length ∧ m.2.2.2.1.l.length ≤ 65536 ∧ ∀ i : Nat, (i : Int) < m.1 → 0 ≤ m.2.2.1.l.getD i 0 ∧ m.2.2.1.l.getD i 0 ≤ m.2.2.1.l.getD (i + 1) 0 ∧ m.2.2.1.l.getD (i + 1) 0 ≤ m.2.2.2.1.l.length ∧ ascI (-1) m.2.1 (cutL m.2.2.2.1.l (m.2.2.1.l.getD i 0) (m.2.2.1.l.getD (i + 1) 0)) = true := by
 unfold rightM at h
 simp only [Bool.and_eq_true, decide_eq_true_eq, sizeF_iff] at h
 obtain ⟨h1, h2, h3, h4, h5, h6, h7, h8⟩ := h
 refine ⟨h1, h2, h3, h5, h6, fun i hi => ?_⟩
 have := all_range.1 h8 i (by omega)
 unfold rowOk at this
 simpa only [Bool.and_eq_true, decide_eq_true_eq] using this
end Ev
end Go.Proofs.YtnikcjnkcjondaaDoor
end
section
namespace Go.Proofs.YtnikcjnkcjondaaDoor
namespace Ev
open Go
set_option linter.unusedVariables false
set_option linter.unusedSimpArgs false
abbrev Wd := Int × Int
abbrev Dn := Int × Sl Int × Sl Int
def stepS (r : Int) (h : Int → Option Int) (acc : Option Wd) (x : Int × Int) : Option Wd :=
 match h x.1 with
 | none => acc
 | some y => some (match acc with | none => ringMul r x.2 y | some a => ringAdd r a (ringMul r x.2 y))
def rowSum (r : Int) (h : Int → Option Int) : List (Int × Int) → Option Wd → Option Wd
 | [], acc => acc
 | x :: l, acc => rowSum r h l (stepS r h acc x)
def accB : Option Wd → Bool
 | none => false
 | some _ => true
def accW : Option Wd → Wd
 | none => (0, 0)
 | some w => w
theorem row_gen {R : Type} {b : Bool × Int × Int × Int → Option ((Bool × Int × Int × Int) ⊕ ((Bool × Int × Int) ⊕ R))} {r : Int} {h : Int → Option Int} {items : List (Int × Int)} {f : Int}
  (hs : ∀ j acc (hj : j < items.length), b (accB acc, f + (j : Int), accW acc) = some (.inl (accB (stepS r h acc items[j]), f + ((j + 1 : Nat) : Int), accW (stepS r h acc items[j]))))
  (he : ∀ acc, b (accB acc, f + (items.length : Int), accW acc) = some (.inr (.inl (accB acc, accW acc)))) : loopO b (false, f, 0, 0) = some (.inl (accB (rowSum r h items none), accW (rowSum r h items none))) := by
 obtain ⟨q, q1, q2⟩ := loop_up (b := b) items.length (fun j a => ∃ acc, a = (accB acc, f + (j : Int), accW acc) ∧ rowSum r h (items.drop j) acc = rowSum r h items none) (fun q => q = .inl (accB (rowSum r h items none), accW (rowSum r h items none)))
  (by
   rintro j _ hj ⟨acc, rfl, ha⟩
   rw [List.drop_eq_getElem_cons hj] at ha
   exact .inl ⟨_, hs j acc hj, _, rfl, ha⟩)
  (by
   rintro _ ⟨acc, rfl, ha⟩
   rw [List.drop_length] at ha
   refine ⟨_, he acc, ?_⟩
   rw [← ha]; rfl) 0 (Nat.zero_le _) (false, f, 0, 0) ⟨none, by simp [accB, accW], by simp⟩
 rw [q1, q2]
def itemsM (m : Mx) (i : Nat) : List (Int × Int) := (cutL m.2.2.2.1.l (m.2.2.1.l.getD i 0) (m.2.2.1.l.getD (i + 1) 0)).zip (cutL m.2.2.2.2.l (m.2.2.1.l.getD i 0) (m.2.2.1.l.getD (i + 1) 0))
structure RowAt (m : Mx) (i : Nat) (f t : Int) : Prop where
 f1 : atS 1 m.2.2.1 (i : Int) = some f
 t1 : atS 1 m.2.2.1 (IntKind.i64.wrap ((i : Int) + 1)) = some t
 len : ((itemsM m i).length : Int) = t - f
 get : ∀ j (hj : j < (itemsM m i).length), atS 1 m.2.2.2.1 (f + (j : Int)) = some (itemsM m i)[j].1 ∧ atS 1 m.2.2.2.2 (f + (j : Int)) = some (itemsM m i)[j].2 ∧ 0 ≤ (itemsM m i)[j].1 ∧ (itemsM m i)[j].1 < m.2.1 ∧ i64r (itemsM m i)[j].2 ∧ f + (j : Int) < t ∧ IntKind.i64.wrap (f + (j : Int) + 1) = f + ((j + 1 : Nat) : Int)
theorem row_at {m : Mx} (h : OkM m) (hr : rightM m = true) {i : Nat} (hi : (i : Int) < m.1) : ∃ f t, RowAt m i f t := by
 obtain ⟨r1, r2, r3, r4, r5, r6⟩ := rightM_spec hr
 obtain ⟨p1, p2, p3, p4⟩ := r6 i hi
 have e1 := at_get h.st (j := i) (by omega)
 have e2 := at_get h.st (j := i + 1) (by omega)
 rw [← getD_lt] at e1 e2
 have w1 : IntKind.i64.wrap ((i : Int) + 1) = ((i + 1 : Nat) : Int) := w_succ (n := m.1.toNat) (by omega) (by omega)
 refine ⟨m.2.2.1.l.getD i 0, m.2.2.1.l.getD (i + 1) 0, e1, by rw [w1]; exact e2, ?_, fun j hj => ?_⟩
 ·unfold itemsM
  rw [List.length_zip, cutL_len ⟨p1, p2, p3⟩, cutL_len ⟨p1, p2, by omega⟩]; omega
 ·have hlen : j < (m.2.2.1.l.getD (i + 1) 0).toNat - (m.2.2.1.l.getD i 0).toNat := by
   unfold itemsM at hj
   rw [List.length_zip, cutL_len ⟨p1, p2, p3⟩] at hj; omega
  have g1 := cutL_get (l := m.2.2.2.1.l) ⟨p1, p2, p3⟩ hlen
  have g2 := cutL_get (l := m.2.2.2.2.l) (f := m.2.2.1.l.getD i 0) (t := m.2.2.1.l.getD (i + 1) 0) ⟨p1, p2, by omega⟩ hlen
  have hc := ascI_iff.1 p4 j (by rw [cutL_len ⟨p1, p2, p3⟩]; exact hlen)
  have hz : (itemsM m i)[j] = (m.2.2.2.1.l[(m.2.2.1.l.getD i 0).toNat + j]'(by omega), m.2.2.2.2.l[(m.2.2.1.l.getD i 0).toNat + j]'(by omega)) := by
   simp only [itemsM, List.getElem_zip, g1, g2]
  rw [hz]
  simp only
  rw [g1] at hc
  have a1 := at_get h.co (j := (m.2.2.1.l.getD i 0).toNat + j) (by omega)
  have a2 := at_get h.va (j := (m.2.2.1.l.getD i 0).toNat + j) (by omega)
  rw [show (((m.2.2.1.l.getD i 0).toNat + j : Nat) : Int) = m.2.2.1.l.getD i 0 + (j : Int) by omega] at a1 a2
  refine ⟨a1, a2, hc.1, hc.2.1, ?_, by omega, ?_⟩
  ·exact h.v64 _ (List.getElem_mem _)
  ·rw [wrap64 (by omega) (by omega)]; omega
theorem denB_i64 {d : Dn} (h : OkD d) {k y : Int} (hk : denB d k = some y) : i64r y := by
 unfold denB at hk
 split at hk
 ·simp only [Option.some.injEq] at hk
  rw [← hk, List.getD_eq_getElem?_getD]
  cases hg : d.2.2.l[k.toNat]? with
  | none => simp [i64r]
  | some x => exact h.v64 x (List.mem_of_getElem? hg)
 ·simp at hk
theorem row_pull {r : Int} {m : Mx} {d : Dn} (hd : OkD d) (hrd : rightD d = true) (hc : d.1 = m.2.1) {i : Nat} {f t : Int} (R : RowAt m i f t) {b : Bool × Int × Int × Int → Option ((Bool × Int × Int × Int) ⊕ ((Bool × Int × Int) ⊕ Empty))}
  (hb : b = pull_Sums_b5 r d.2.1 d.2.2 m.2.2.1 m.2.2.2.1 m.2.2.2.2 (i : Int) ∨ b = pull_Sums_b6 r d.2.1 d.2.2 m.2.2.1 m.2.2.2.1 m.2.2.2.2 (i : Int)) : loopO b (false, f, 0, 0) = some (.inl (accB (rowSum r (denB d) (itemsM m i) none), accW (rowSum r (denB d) (itemsM m i) none))) := by
 obtain ⟨r1, r2, r3, r4, r5⟩ := rightD_spec hrd
 refine row_gen (fun j acc hj => ?_) fun acc => ?_
 ·obtain ⟨g1, g2, g3, g4, g5, g6, g7⟩ := R.get j hj
  generalize (itemsM m i)[j] = x at *
  have hh := flags_Has_eq d.2.1 x.1.toNat hd.has hd.bits (by omega)
  rw [show ((x.1.toNat : Nat) : Int) = x.1 by omega] at hh
  have hv := at_get (s := d.2.2) hd.vals (j := x.1.toNat) (by omega)
  rw [← getD_lt, show ((x.1.toNat : Nat) : Int) = x.1 by omega] at hv
  have key : ∀ y, denB d x.1 = some y → ring_Mul r x.2 y = some (ringMul r x.2 y) := fun y hy => ring_Mul_eq r g5 (denB_i64 hd hy)
  have hden : denB d x.1 = if hasB d.2.1.l x.1.toNat = true then some (d.2.2.l.getD x.1.toNat 0) else none := by
   unfold denB
   by_cases hx : hasB d.2.1.l x.1.toNat = true
   ·rw [if_pos ⟨g3, hx⟩, if_pos hx]
   ·rw [if_neg (fun e => hx e.2), if_neg hx]
  have go : b (accB acc, f + (j : Int), accW acc) = some (.inl (accB (stepS r (denB d) acc x), f + ((j + 1 : Nat) : Int), accW (stepS r (denB d) acc x))) := by
   unfold stepS
   rcases hb with rfl | rfl
   ·cases hx : hasB d.2.1.l x.1.toNat with
    | false =>
     rw [hx] at hden hh
     rw [show denB d x.1 = none by rw [hden]; simp]
     simp only [pull_Sums_b5, R.t1, g1, g7, hh, Option.bind_some, if_pos g6]
     rfl
    | true =>
     rw [hx] at hden hh
     rw [if_pos rfl] at hden
     have hk := key _ hden
     rw [hden]
     simp only [pull_Sums_b5, R.t1, g1, g2, g7, hh, hv, Option.bind_some, if_pos g6, hk]
     cases acc with
     | none => rfl
     | some w => simp only [accB, accW, if_true, ring_Add_eq, Option.bind_some]
   ·cases hx : hasB d.2.1.l x.1.toNat with
    | false =>
     rw [hx] at hden hh
     rw [show denB d x.1 = none by rw [hden]; simp]
     simp only [pull_Sums_b6, R.t1, g1, g7, hh, Option.bind_some, if_pos g6]
     rfl
    | true =>
     rw [hx] at hden hh
     rw [if_pos rfl] at hden
     have hk := key _ hden
     rw [hden]
     simp only [pull_Sums_b6, R.t1, g1, g2, g7, hh, hv, Option.bind_some, if_pos g6, hk]
     cases acc with
     | none => rfl
     | some w => simp only [accB, accW, if_true, ring_Add_eq, Option.bind_some]
  exact go
 ·have hn : ¬ f + ((itemsM m i).length : Int) < t := by rw [R.len]; omega
  rcases hb with rfl | rfl
  ·simp only [pull_Sums_b5, R.t1, Option.bind_some, if_neg hn]
  ·simp only [pull_Sums_b6, R.t1, Option.bind_some, if_neg hn]
def sumI (r : Int) (h : Int → Option Int) (m : Mx) (ask : Nat → Bool) (i : Nat) : Option (Int × Wd) := if ask i = true then (rowSum r h (itemsM m i) none).map fun w => ((i : Int), w) else none
def sumsL (r : Int) (h : Int → Option Int) (m : Mx) (ask : Nat → Bool) (n : Nat) : List (Int × Wd) := (List.range n).filterMap (sumI r h m ask)
theorem sumsL_succ (r : Int) (h : Int → Option Int) (m : Mx) (ask : Nat → Bool) (n : Nat) : sumsL r h m ask (n + 1) = sumsL r h m ask n ++ (sumI r h m ask n).toList := by
 unfold sumsL
 rw [List.range_succ, List.filterMap_append]
 congr 1
 all_goals (cases hs : sumI r h m ask n <;> simp [hs])
theorem sumsL_len (r : Int) (h : Int → Option Int) (m : Mx) (ask : Nat → Bool) (n : Nat) : (sumsL r h m ask n).length ≤ n := by
 unfold sumsL
 have := List.length_filterMap_le (sumI r h m ask) (List.range n)
 simpa using this
def sureD (d : Dn) : Dn := if rightD d = true then d else (0, nilS, nilS)
theorem sureD_right (d : Dn) : rightD (sureD d) = true := by unfold sureD; split; assumption; rfl
theorem sureD_ok {d : Dn} (h : OkD d) : OkD (sureD d) := by
 unfold sureD
 split
 ·exact h
 ·exact ⟨ok_nil, fun x hx => by simp [nilS] at hx, ok_nil, fun x hx => by simp [nilS] at hx, by simp [nilS], by simp [nilS]⟩
def askB (ws : List Int) (o : Bool) (i : Nat) : Bool := hasB ws i != o
def sumsV (r : Int) (m : Mx) (d : Dn) (ws : List Int) (o : Bool) : Sl (Int × Wd) × Int :=
 if okR r = true then (if (sureD d).1 = (sureM m).2.1 then (mo 3 (sumsL r (denB (sureD d)) (sureM m) (askB ws o) (sureM m).1.toNat), 0) else (nilS, 4)) else (nilS, 8)
theorem app_sum {l : List (Int × Wd)} (hl : l.length ≤ 5000) (x : Int × Wd) : app l [x] = some (l ++ [x]) := app_ok (by simp; unfold bound; omega)
theorem sums_pull {r : Int} {m : Mx} {d : Dn} (hm : OkM m) (hrm : rightM m = true) (hd : OkD d) (hrd : rightD d = true) (hc : d.1 = m.2.1) {s : Sl Int} (hs : okS 1 s) (hu : u64s s.l) (o : Bool) :
  loopO (pull_Sums_b4 r d.2.1 d.2.2 s m.1 m.2.2.1 m.2.2.2.1 m.2.2.2.2) (0, o, []) = some (.inl (sumsL r (denB d) m (askB s.l o) m.1.toNat)) := by
 obtain ⟨r1, r2, r3, r4, r5, r6⟩ := rightM_spec hrm
 obtain ⟨q, q1, q2⟩ := loop_up (b := pull_Sums_b4 r d.2.1 d.2.2 s m.1 m.2.2.1 m.2.2.2.1 m.2.2.2.2) m.1.toNat (fun j a => a = ((j : Int), o, sumsL r (denB d) m (askB s.l o) j)) (fun q => q = .inl (sumsL r (denB d) m (askB s.l o) m.1.toNat))
  (by
   rintro j _ hj rfl
   have hjm : (j : Int) < m.1 := by omega
   obtain ⟨f, t, R⟩ := row_at hm hrm hjm
   have hh := flags_Has_eq s j hs hu (by omega)
   have h5 := row_pull (r := r) hd hrd hc R (.inl rfl)
   have h6 := row_pull (r := r) hd hrd hc R (.inr rfl)
   have hlen := sumsL_len r (denB d) m (askB s.l o) j
   have hap := fun x => app_sum (l := sumsL r (denB d) m (askB s.l o) j) (by omega) x
   simp only [pull_Sums_b4, hh, R.f1, h5, h6, Option.bind_some, Sum.elim_inl, w_succ hj (by omega), if_pos hjm, hap]
   rw [sumsL_succ]
   refine .inl ?_
   have hI : sumI r (denB d) m (askB s.l o) j = if (hasB s.l j != o) = true then (rowSum r (denB d) (itemsM m j) none).map (fun w => ((j : Int), w)) else none := rfl
   rw [hI]
   cases hb : hasB s.l j <;> cases o <;> cases hx : rowSum r (denB d) (itemsM m j) none <;> exact ⟨_, rfl, by simp [accW]⟩)
  (by
   rintro _ rfl
   refine ⟨_, if_neg (by omega), rfl⟩) 0 (Nat.zero_le _) (0, o, []) rfl
 rw [q1, q2]
theorem items_none {m : Mx} (hrm : rightM m = true) (h0 : m.2.1 = 0) {i : Nat} (hi : (i : Int) < m.1) : itemsM m i = [] := by
 obtain ⟨r1, r2, r3, r4, r5, r6⟩ := rightM_spec hrm
 obtain ⟨p1, p2, p3, p4⟩ := r6 i hi
 unfold itemsM
 cases hl : cutL m.2.2.2.1.l (m.2.2.1.l.getD i 0) (m.2.2.1.l.getD (i + 1) 0) with
 | nil => rfl
 | cons x l =>
  exfalso
  have := ascI_iff.1 p4 0 (by rw [hl]; simp)
  omega
theorem sums_none {r : Int} {m : Mx} {h : Int → Option Int} (hrm : rightM m = true) (h0 : m.2.1 = 0) (ask : Nat → Bool) : sumsL r h m ask m.1.toNat = [] := by
 unfold sumsL
 rw [List.filterMap_eq_nil_iff]
 intro i hi
 rw [List.mem_range] at hi
 unfold sumI
 rw [items_none hrm h0 (by omega)]
 simp [rowSum]
theorem sums_pull0 {r : Int} {m : Mx} (hm : OkM m) (hrm : rightM m = true) (h0 : m.2.1 = 0) {s : Sl Int} (hs : okS 1 s) (hu : u64s s.l) (o : Bool) : loopO (pull_Sums_b1 s m.1 m.2.2.1 m.2.2.2.1 m.2.2.2.2) (0, o) = some (.inl ()) := by
 obtain ⟨r1, r2, r3, r4, r5, r6⟩ := rightM_spec hrm
 obtain ⟨q, q1, q2⟩ := loop_up (b := pull_Sums_b1 s m.1 m.2.2.1 m.2.2.2.1 m.2.2.2.2) m.1.toNat (fun j a => a = ((j : Int), o)) (fun q => q = .inl ())
  (by
   rintro j _ hj rfl
   have hjm : (j : Int) < m.1 := by omega
   obtain ⟨f, t, R⟩ := row_at hm hrm hjm
   have hh := flags_Has_eq s j hs hu (by omega)
   have hl := R.len
   rw [items_none hrm h0 hjm] at hl
   simp only [List.length_nil] at hl
   have h2 : loopO (pull_Sums_b2 m.2.2.1 m.2.2.2.1 m.2.2.2.2 (j : Int)) f = some (.inl ()) := loopO_done (by simp only [pull_Sums_b2, R.t1, Option.bind_some]; rw [if_neg (by omega)])
   have h3 : loopO (pull_Sums_b3 m.2.2.1 m.2.2.2.1 m.2.2.2.2 (j : Int)) f = some (.inl ()) := loopO_done (by simp only [pull_Sums_b3, R.t1, Option.bind_some]; rw [if_neg (by omega)])
   simp only [pull_Sums_b1, hh, R.f1, h2, h3, Option.bind_some, Sum.elim_inl, w_succ hj (by omega), if_pos hjm]
   refine .inl ?_
   cases hb : hasB s.l j <;> cases o <;> exact ⟨_, rfl, rfl⟩)
  (by
   rintro _ rfl
   refine ⟨_, if_neg (by omega), rfl⟩) 0 (Nat.zero_le _) (0, o) rfl
 rw [q1, q2]
theorem pull_Sums_eq {r : Int} {m : Mx} {d : Dn} (hm : OkM m) (hd : OkD d) {s : Sl Int} (hs : okS 1 s) (hu : u64s s.l) (o : Bool) : pull_Sums r m d s o = some (sumsV r m d s.l o) := by
 have e1 := pull_sure_eq hm
 have e2 := devec_Right_eq hd
 have hm' := sureM_ok hm
 have hrm := sureM_right m
 have hd' := sureD_ok hd
 have hrd := sureD_right d
 obtain ⟨m1, m2, m3, m4, m5⟩ := m
 obtain ⟨d1, d2, d3⟩ := d
 unfold pull_Sums sumsV
 simp only [ring_Is_eq, Option.bind_some]
 by_cases c : okR r = true
 ·have c' : (decide (1 ≤ r) && decide (r ≤ 5)) = true := c
  rw [if_pos c', if_pos c, e1]
  simp only [Option.bind_some, e2]
  generalize sureM (m1, m2, m3, m4, m5) = u at hm' hrm ⊢
  cases hr : rightD (d1, d2, d3) with
  | true =>
   rw [show sureD (d1, d2, d3) = (d1, d2, d3) by unfold sureD; rw [if_pos hr]] at hd' hrd ⊢
   simp only [if_true]
   by_cases hn : d1 = u.2.1
   ·rw [if_neg (fun h => h hn), if_pos hn]
    have := sums_pull (r := r) hm' hrm hd' hrd hn hs hu o
    simp only at this
    rw [this]; rfl
   ·rw [if_pos hn, if_neg hn]; rfl
  | false =>
   rw [show sureD (d1, d2, d3) = (0, nilS, nilS) by unfold sureD; rw [if_neg (by rw [hr]; simp)]] at hd' hrd ⊢
   simp only [Bool.false_eq_true, if_false]
   by_cases hn : (0 : Int) = u.2.1
   ·rw [if_neg (fun h => h hn), if_pos hn]
    have := sums_pull0 (r := r) hm' hrm hn.symm hs hu o
    rw [this, sums_none hrm hn.symm]; rfl
   ·rw [if_pos hn, if_neg hn]; rfl
 ·have c' : ¬ (decide (1 ≤ r) && decide (r ≤ 5)) = true := c
  rw [if_neg c', if_neg c]; rfl
theorem sumsV_ok (r : Int) (m : Mx) (d : Dn) (ws : List Int) (o : Bool) : okS 3 (sumsV r m d ws o).1 ∧ (sumsV r m d ws o).1.l.length ≤ 4096 := by
 have hn := (rightM_spec (sureM_right m)).1
 unfold sumsV
 split
 ·split
  ·refine ⟨ok_mo _, ?_⟩
   have := sumsL_len r (denB (sureD d)) (sureM m) (askB ws o) (sureM m).1.toNat
   simp only [mo_l]; omega
  ·exact ⟨ok_nil, by simp [nilS]⟩
 ·exact ⟨ok_nil, by simp [nilS]⟩
end Ev
end Go.Proofs.YtnikcjnkcjondaaDoor
end
section
namespace Go.Proofs.YtnikcjnkcjondaaDoor
namespace Ev
open Go
set_option linter.unusedVariables false
set_option linter.unusedSimpArgs false
def tabN (n : Nat) (f : Nat → Int) : List Int := (List.range (n + 1)).map f
theorem tabN_len (n : Nat) (f : Nat → Int) : (tabN n f).length = n + 1 := by unfold tabN; simp
theorem tabN_get {n k : Nat} (f : Nat → Int) (h : k ≤ n) : (tabN n f)[k]? = some (f k) := by
 unfold tabN
 rw [List.getElem?_map, List.getElem?_range (by omega)]; rfl
theorem tabN_getD {n k : Nat} (f : Nat → Int) (h : k ≤ n) : (tabN n f).getD k 0 = f k := by rw [List.getD_eq_getElem?_getD, tabN_get f h]; rfl
theorem tabN_congr {n : Nat} {f g : Nat → Int} (h : ∀ k, k ≤ n → f k = g k) : tabN n f = tabN n g := by
 unfold tabN
 refine List.map_congr_left fun k hk => h k ?_
 simp at hk; omega
theorem tabN_set {n k : Nat} (f : Nat → Int) (v : Int) (h : k ≤ n) : (tabN n f).set k v = tabN n fun i => if i = k then v else f i := by
 refine List.ext_getElem? fun i => ?_
 rw [List.getElem?_set]
 by_cases hi : i ≤ n
 ·rw [tabN_get _ hi]
  by_cases e : k = i
  ·subst e; rw [if_pos rfl, if_pos (by rw [tabN_len]; omega), tabN_get _ hi, if_pos rfl]
  ·rw [if_neg e, tabN_get _ hi, if_neg (Ne.symm e)]
 ·rw [if_neg (by omega)]
  rw [List.getElem?_eq_none (by rw [tabN_len]; omega), List.getElem?_eq_none (by rw [tabN_len]; omega)]
theorem tabN_zero (n : Nat) : List.replicate (n + 1) (0 : Int) = tabN n fun _ => 0 := by
 refine List.ext_getElem? fun i => ?_
 by_cases hi : i ≤ n
 ·rw [tabN_get _ hi, List.getElem?_replicate, if_pos (by omega)]
 ·rw [List.getElem?_eq_none (by simp; omega), List.getElem?_eq_none (by rw [tabN_len]; omega)]
def cntR (l : List E3) (k : Nat) : Nat := l.countP fun x => decide (x.1 < (k : Int))
theorem cntR_le (l : List E3) (k : Nat) : cntR l k ≤ l.length := List.countP_le_length
theorem cntR_app (l : List E3) (x : E3) (k : Nat) : cntR (l ++ [x]) k = cntR l k + if x.1 < (k : Int) then 1 else 0 := by
 unfold cntR
 rw [List.countP_append]
 congr 1
 by_cases h : x.1 < (k : Int) <;> simp [h]
theorem count_in {n : Nat} (hn : n ≤ 4096) {row : Nat} (hr : row < n) {f : Nat → Int} (hf : ∀ k, 0 ≤ f k ∧ f k ≤ 100000) : loopO (ref07_built_b2 (n : Int)) ((((row + 1 : Nat) : Int)), tabN n f) = some (.inl (tabN n fun i => f i + if row < i then 1 else 0)) := by
 obtain ⟨q, q1, q2⟩ := loop_up (b := ref07_built_b2 (n : Int)) (n - row) (fun j st => st = (((row + 1 + j : Nat) : Int), tabN n fun i => f i + if row < i ∧ i ≤ row + j then 1 else 0)) (fun q => q = .inl (tabN n fun i => f i + if row < i then 1 else 0))
  (by
   rintro j _ hj rfl
   have hat : atL (tabN n fun i => f i + if row < i ∧ i ≤ row + j then 1 else 0) ((row + 1 + j : Nat) : Int) = some (f (row + 1 + j)) := by
    unfold atL
    rw [if_pos (by omega), Int.toNat_natCast, tabN_get _ (by omega), if_neg (by omega), Int.add_zero]
   have hfk := hf (row + 1 + j)
   simp only [ref07_built_b2, hat, Option.bind_some, Int.toNat_natCast]
   rw [if_pos (by omega), wrap64 (n := f (row + 1 + j) + 1) (by omega) (by omega), tabN_set _ _ (by omega), wrap64 (n := ((row + 1 + j : Nat) : Int) + 1) (by omega) (by omega)]
   refine .inl ⟨_, rfl, ?_⟩
   rw [Prod.mk.injEq]
   refine ⟨by omega, tabN_congr fun i hi => ?_⟩
   by_cases e : i = row + 1 + j
   ·rw [if_pos e, e, if_pos (by omega)]
   ·rw [if_neg e]
    by_cases h1 : row < i ∧ i ≤ row + j
    ·rw [if_pos h1, if_pos (by omega)]
    ·rw [if_neg h1, if_neg (by omega)])
  (by
   rintro _ rfl
   refine ⟨_, ?_, rfl⟩
   simp only [ref07_built_b2]
   rw [if_neg (by omega)]
   congr 3
   refine tabN_congr fun i hi => ?_
   by_cases h1 : row < i
   ·rw [if_pos h1, if_pos (by omega)]
   ·rw [if_neg h1, if_neg (by omega)]) 0 (Nat.zero_le _) (((row + 1 : Nat) : Int), tabN n f) (by
    rw [Prod.mk.injEq]
    refine ⟨by omega, tabN_congr fun i hi => ?_⟩
    rw [if_neg (by omega), Int.add_zero])
 rw [q1, q2]
def matV (n c : Int) (l : List E3) : Mx := (n, c, ⟨true, 1, tabN n.toNat fun k => ((cntR l k : Nat) : Int)⟩, mo 1 (l.map (·.2.1)), mo 1 (l.map (·.2.2)))
theorem built_eq {n c : Int} (hn : 0 ≤ n ∧ n ≤ 4096) {s : Sl E3} (hs : okS 3 s) (hl : s.l.length ≤ 65536) (hr : ∀ x ∈ s.l, 0 ≤ x.1 ∧ x.1 < n) : ref07_built n c s = some (matV n c s.l) := by
 obtain ⟨k, rfl⟩ := Int.eq_ofNat_of_zero_le hn.1
 unfold ref07_built matV
 rw [wrap64 (by omega) (by omega)]
 have hlo : lenOk ((k : Int) + 1) = some () := by unfold lenOk bound; rw [if_pos ⟨by omega, by omega⟩]
 rw [hlo]
 have tk : ((k : Int) + 1).toNat = k + 1 := by omega
 simp only [Option.bind_some, tk, Int.toNat_natCast]
 rw [tabN_zero]
 obtain ⟨q, q1, q2⟩ := loop_up (b := ref07_built_b1 (k : Int) s) s.l.length (fun j st => st = ((j : Int), tabN k (fun i => ((cntR (s.l.take j) i : Nat) : Int)), (s.l.take j).map (·.2.1), (s.l.take j).map (·.2.2))) (fun q => q = .inl (tabN k (fun i => ((cntR s.l i : Nat) : Int)), s.l.map (·.2.1), s.l.map (·.2.2)))
  (by
   rintro j _ hj rfl
   have ej := at_get hs hj
   have hx := hr _ (List.getElem_mem hj)
   obtain ⟨row, hrow⟩ := Int.eq_ofNat_of_zero_le hx.1
   have hlen : (s.l.take j).length ≤ 65536 := by simp; omega
   have ap1 : app ((s.l.take j).map (·.2.1)) [s.l[j].2.1] = some ((s.l.take j).map (·.2.1) ++ [s.l[j].2.1]) := app_ok (by simp at hlen ⊢; unfold bound; omega)
   have ap2 : app ((s.l.take j).map (·.2.2)) [s.l[j].2.2] = some ((s.l.take j).map (·.2.2) ++ [s.l[j].2.2]) := app_ok (by simp at hlen ⊢; unfold bound; omega)
   have hw : IntKind.i64.wrap (s.l[j].1 + 1) = ((row + 1 : Nat) : Int) := by rw [wrap64 (by omega) (by omega)]; omega
   have hin := count_in (n := k) (by omega) (row := row) (by omega) (f := fun i => ((cntR (s.l.take j) i : Nat) : Int)) (fun i => by have := cntR_le (s.l.take j) i; omega)
   simp only [ref07_built_b1, ej, Option.bind_some, ap1, ap2, hw, hin, Sum.elim_inl, w_succ hj (by omega)]
   rw [if_pos (by omega)]
   refine .inl ⟨_, rfl, ?_⟩
   rw [List.take_succ_eq_append_getElem hj, List.map_append, List.map_append]
   simp only [List.map_cons, List.map_nil, Prod.mk.injEq, and_true, true_and]
   refine tabN_congr fun i hi => ?_
   rw [cntR_app, hrow]
   by_cases h : row < i
   ·rw [if_pos h, if_pos (by omega)]; omega
   ·rw [if_neg h, if_neg (by omega)]; omega)
  (by
   rintro _ rfl
   refine ⟨.inl (tabN k (fun i => ((cntR s.l i : Nat) : Int)), s.l.map (·.2.1), s.l.map (·.2.2)), ?_, rfl⟩
   simp only [ref07_built_b1]
   rw [if_neg (by omega), List.take_length]) 0 (Nat.zero_le _) (0, tabN k (fun _ => 0), [], []) rfl
 rw [q1, q2]; rfl
theorem split_lt {l : List E3} (h : l.Pairwise fun a b => a.1 ≤ b.1) (k : Int) : (l.filter fun x => decide (x.1 < k)) ++ (l.filter fun x => !decide (x.1 < k)) = l := by
 induction l with
 | nil => rfl
 | cons x l ih =>
  rw [List.pairwise_cons] at h
  have ih := ih h.2
  by_cases c : x.1 < k
  ·rw [List.filter_cons_of_pos (by simp [c]), List.filter_cons_of_neg (by simp [c]), List.cons_append, ih]
  ·have e1 : (l.filter fun x => decide (x.1 < k)) = [] := by
    rw [List.filter_eq_nil_iff]
    intro y hy
    have := h.1 y hy
    simp; omega
   rw [e1, List.nil_append] at ih
   rw [List.filter_cons_of_neg (by simp [c]), List.filter_cons_of_pos (by simp [c]), e1, List.nil_append, ih]
theorem take_lt {l : List E3} (h : l.Pairwise fun a b => a.1 ≤ b.1) (k : Nat) : l.take (cntR l k) = (l.filter fun x => decide (x.1 < (k : Int))) ∧ l.drop (cntR l k) = l.filter fun x => !decide (x.1 < (k : Int)) := by
 have e := split_lt h (k : Int)
 have hl : cntR l k = (l.filter fun x => decide (x.1 < (k : Int))).length := by unfold cntR; rw [List.countP_eq_length_filter]
 have key : ∀ A B : List E3, A ++ B = l → l.take A.length = A ∧ l.drop A.length = B := by
  rintro A B rfl
  exact ⟨List.take_left, List.drop_left⟩
 rw [hl]
 exact key _ _ e
def rowE (l : List E3) (i : Nat) : List E3 := (l.filter fun x => !decide (x.1 < (i : Int))).filter fun x => decide (x.1 < ((i + 1 : Nat) : Int))
theorem rowE_mem {l : List E3} {i : Nat} {x : E3} : x ∈ rowE l i ↔ x ∈ l ∧ x.1 = (i : Int) := by
 unfold rowE
 simp only [List.mem_filter, Bool.not_eq_true', decide_eq_false_iff_not, decide_eq_true_eq]
 constructor
 ·rintro ⟨⟨h1, h2⟩, h3⟩; exact ⟨h1, by omega⟩
 ·rintro ⟨h1, h2⟩; exact ⟨⟨h1, by omega⟩, by omega⟩
theorem rises_le {l : List E3} (h : rises l) : l.Pairwise fun a b => a.1 ≤ b.1 := h.imp fun hb => by rw [bel_iff] at hb; omega
theorem row_cut {l : List E3} (h : rises l) (i : Nat) : cntR l i ≤ cntR l (i + 1) ∧ (l.drop (cntR l i)).take (cntR l (i + 1) - cntR l i) = rowE l i := by
 have hle := rises_le h
 have e1 := (take_lt hle i).2
 have hmono : cntR l i ≤ cntR l (i + 1) := by
  unfold cntR
  refine List.countP_mono_left fun x _ hx => ?_
  simp only [decide_eq_true_eq] at hx ⊢; omega
 refine ⟨hmono, ?_⟩
 rw [e1]
 have hg : (l.filter fun x => !decide (x.1 < (i : Int))).Pairwise fun a b => a.1 ≤ b.1 := hle.sublist List.filter_sublist
 have e2 := (take_lt hg (i + 1)).1
 have hc : cntR (l.filter fun x => !decide (x.1 < (i : Int))) (i + 1) = cntR l (i + 1) - cntR l i := by
  have h1 : cntR l (i + 1) = cntR (l.filter fun x => decide (x.1 < (i : Int))) (i + 1) + cntR (l.filter fun x => !decide (x.1 < (i : Int))) (i + 1) := by
   conv => lhs; rw [← split_lt hle (i : Int)]
   unfold cntR
   rw [List.countP_append]
  have h2 : cntR (l.filter fun x => decide (x.1 < (i : Int))) (i + 1) = cntR l i := by
   unfold cntR
   rw [List.countP_filter]
   refine List.countP_congr fun x _ => ?_
   simp only [Bool.and_eq_true, decide_eq_true_eq]
   omega
  omega
 rw [← hc, e2]; rfl
theorem row_sorted {l : List E3} (h : rises l) (i : Nat) : ((rowE l i).map (·.2.1)).Pairwise (· < ·) := by
 rw [List.pairwise_map]
 have hs : rises (rowE l i) := h.sublist (List.filter_sublist.trans List.filter_sublist)
 refine hs.imp_of_mem fun {a b} ha hb hab => ?_
 have h1 := (rowE_mem.1 ha).2
 have h2 := (rowE_mem.1 hb).2
 rw [bel_iff] at hab; omega
theorem cutL_map {α β : Type} (f : α → β) (l : List α) (a b : Int) : cutL (l.map f) a b = (cutL l a b).map f := by unfold cutL; rw [← List.map_drop, ← List.map_take]
theorem matV_right {n c : Int} (hn : 0 ≤ n ∧ n ≤ 4096) (hc : 0 ≤ c ∧ c ≤ 4096) {l : List E3} (hl : l.length ≤ 65536) (h : rises l) (hp : ∀ x ∈ l, (0 ≤ x.1 ∧ x.1 < n) ∧ 0 ≤ x.2.1 ∧ x.2.1 < c) : rightM (matV n c l) = true := by
 have h0 : cntR l 0 = 0 := by
  unfold cntR
  rw [List.countP_eq_zero]
  intro x hx
  have := (hp x hx).1.1
  simp; omega
 have hN : cntR l n.toNat = l.length := by
  unfold cntR
  rw [List.countP_eq_length]
  intro x hx
  have := (hp x hx).1.2
  simp; omega
 unfold rightM matV
 simp only [mo_l, Bool.and_eq_true, decide_eq_true_eq, sizeF_iff, List.length_map, tabN_len]
 refine ⟨hn, hc, by omega, ?_, trivial, hl, ?_, ?_⟩
 ·rw [tabN_getD _ (Nat.zero_le _), h0]; rfl
 ·rw [tabN_getD _ (Nat.le_refl _), hN]
 ·refine all_range.2 fun i hi => ?_
  unfold rowOk
  rw [tabN_getD _ (by omega), tabN_getD _ (by omega)]
  obtain ⟨r1, r2⟩ := row_cut h i
  have hle := cntR_le l (i + 1)
  simp only [Bool.and_eq_true, decide_eq_true_eq, List.length_map]
  refine ⟨by omega, by omega, by omega, ?_⟩
  have e : cutL (l.map (·.2.1)) ((cntR l i : Nat) : Int) ((cntR l (i + 1) : Nat) : Int) = (rowE l i).map (·.2.1) := by
   rw [cutL_map]
   unfold cutL
   rw [Int.toNat_natCast, Int.toNat_natCast, r2]
  rw [e]
  exact asc_map (fun _ => 0) (row_sorted h i) fun p hp' => by
   obtain ⟨x, hx, rfl⟩ := List.mem_map.1 hp'
   have := (hp x (rowE_mem.1 hx).1).2
   omega
theorem matV_ok {n c : Int} (hn : 0 ≤ n ∧ n ≤ 4096) {l : List E3} (hl : l.length ≤ 65536) (hv : ∀ x ∈ l, i64r x.2.2) : OkM (matV n c l) := by
 refine ⟨.inr rfl, ok_mo _, ok_mo _, fun y hy => ?_, ?_, ?_, ?_⟩
 ·unfold matV at hy
  simp only [mo_l] at hy
  obtain ⟨x, hx, rfl⟩ := List.mem_map.1 hy
  exact hv x hx
 ·unfold matV; simp only [tabN_len]; omega
 ·unfold matV; simp only [mo_l, List.length_map]; omega
 ·unfold matV; simp only [mo_l, List.length_map]; omega
theorem of_spec {r n c : Int} (hr : okR r = true) (hn : 0 ≤ n ∧ n ≤ 4096) (hc : 0 ≤ c ∧ c ≤ 4096) {s : Sl E3} (hs : okS 3 s) (hl : s.l.length ≤ 65536) (hp : ∀ x ∈ s.l, (0 ≤ x.1 ∧ x.1 < n) ∧ 0 ≤ x.2.1 ∧ x.2.1 < c) :
  ref07_Of r n c s = some ((0, 0, nilS, nilS, nilS), 12) ∨ ∃ l, ref07_Of r n c s = some (matV n c l, 0) ∧ l.length ≤ s.l.length ∧ rises l ∧ placed s.l l ∧ ∀ x ∈ l, i64r x.2.2 := by
 have hr' : (decide (1 ≤ r) && decide (r ≤ 5)) = true := hr
 unfold ref07_Of
 simp only [ref02_Is_eq, Option.bind_some]
 rw [if_pos hr', if_neg (by omega), if_neg (by omega), if_neg (by omega), if_neg (by omega), if_neg (by omega)]
 obtain ⟨q, q1, q2⟩ := loop_up (b := ref07_Of_b1 n c s) s.l.length (fun j st => st = (s.l.take j, (j : Int))) (fun q => q = .inl s.l)
  (by
   rintro j _ hj rfl
   have ej := at_get hs hj
   obtain ⟨p1, p2⟩ := hp _ (List.getElem_mem hj)
   rw [List.take_succ_eq_append_getElem hj]
   generalize s.l[j] = x at ej p1 p2
   obtain ⟨x1, x2, x3⟩ := x
   simp only at p1 p2
   have ap : app (s.l.take j) [(x1, x2, x3)] = some (s.l.take j ++ [(x1, x2, x3)]) := app_ok (by simp; unfold bound; omega)
   simp only [ref07_Of_b1, ej, Option.bind_some, ap, w_succ hj (by omega)]
   rw [if_pos (by omega), if_neg (by omega), if_neg (by omega), if_neg (by omega), if_neg (by omega)]
   exact .inl ⟨_, rfl, rfl⟩)
  (by
   rintro _ rfl
   refine ⟨.inl s.l, ?_, rfl⟩
   simp only [ref07_Of_b1]
   rw [if_neg (by omega), List.take_length]) 0 (Nat.zero_le _) ([], 0) rfl
 rw [q1, q2]
 simp only [Option.bind_some, Sum.elim_inl]
 rcases combine_spec hr (s2 := mo 3 s.l) (ok_mo _) (by rw [mo_l]; exact hl) with h | ⟨l, h, g1, g2, g3, g4⟩
 ·left
  rw [h]
  simp only [Option.bind_some]
  rw [if_pos (by decide)]; rfl
 ·right
  rw [mo_l] at g1 g3
  refine ⟨l, ?_, g1, g2, g3, g4⟩
  rw [h]
  simp only [Option.bind_some]
  rw [if_neg (by decide)]
  obtain ⟨q, q1, q2⟩ := loop_up (b := ref07_Of_b2 (mo 3 l)) l.length (fun j st => st = (l.take j, (j : Int))) (fun q => q = .inl l)
   (by
    rintro j _ hj rfl
    have ej := at_mo (w := 3) (List.getElem?_eq_getElem hj)
    have ap : app (l.take j) [l[j]] = some (l.take j ++ [l[j]]) := app_ok (by simp; unfold bound; omega)
    have ap' : app (l.take j) [(l[j].1, l[j].2.1, l[j].2.2)] = some (l.take j ++ [l[j]]) := ap
    simp only [ref07_Of_b2, ej, Option.bind_some, ap', w_succ hj (by omega), mo_l]
    rw [if_pos (by omega)]
    exact .inl ⟨_, rfl, by rw [List.take_succ_eq_append_getElem hj]⟩)
   (by
    rintro _ rfl
    refine ⟨.inl l, ?_, rfl⟩
    simp only [ref07_Of_b2, mo_l]
    rw [if_neg (by omega), List.take_length]) 0 (Nat.zero_le _) ([], 0) rfl
  rw [q1, q2]
  simp only [Option.bind_some, Sum.elim_inl]
  rw [built_eq hn (ok_mo _) (by rw [mo_l]; omega) (by
   rw [mo_l]
   intro x hx
   obtain ⟨y, y1, y2, y3⟩ := g3 x hx
   have := (hp y y1).1
   rw [← y2]; exact this)]
  simp only [Option.bind_some, mo_l]
def size40 (n : Int) : Int := n.tmod 40
theorem law07_Size_eq {n : Int} (h : 0 ≤ n ∧ n ≤ 255) : law07_Size n = some (size40 n) ∧ 0 ≤ size40 n ∧ size40 n < 40 := by
 unfold law07_Size size40 modO
 rw [wrap64 (by omega) (by omega), if_pos (by decide), Int.tmod_eq_emod_of_nonneg (by omega)]
 exact ⟨rfl, by omega, by omega⟩
theorem some_mat (a : Int × Int) (ha : (0 ≤ a.1 ∧ a.1 ≤ 255) ∧ 0 ≤ a.2 ∧ a.2 ≤ 255) (s : Sl E3) (hs : okS 3 s) (hl : s.l.length ≤ 9223372036854775807) : ∃ l, law07_Some a s = some (matV (size40 a.1) (size40 a.2) l) ∧ l.length ≤ 60 ∧ rises l ∧ (∀ x ∈ l, (0 ≤ x.1 ∧ x.1 < size40 a.1) ∧ 0 ≤ x.2.1 ∧ x.2.1 < size40 a.2) ∧ ∀ x ∈ l, i64r x.2.2 := by
 obtain ⟨a1, a2⟩ := a
 simp only at ha
 obtain ⟨z1, z2, z3⟩ := law07_Size_eq ha.1
 obtain ⟨y1, y2, y3⟩ := law07_Size_eq ha.2
 have hfew : ∃ t : Sl E3, law07_Few s = some t ∧ okS 3 t ∧ t.l.length ≤ 60 := by
  unfold law07_Few
  by_cases c : ((s.l.length : Nat) : Int) > 60
  ·rw [if_pos c]
   have hc : cutS 3 s 0 60 = some ⟨s.nn, s.sz, s.l.take 60⟩ := by
    unfold cutS
    rw [if_pos ⟨by omega, by omega, by omega, .inr rfl⟩]; rfl
   rw [hc]
   exact ⟨_, rfl, by
    rcases hs with h | h
    ·left; simp [h]
    ·exact .inr h, by simp; omega⟩
  ·rw [if_neg c]; exact ⟨s, rfl, hs, by omega⟩
 obtain ⟨t, t1, t2, t3⟩ := hfew
 unfold law07_Some
 simp only [z1, y1, t1, Option.bind_some]
 generalize size40 a1 = n at z2 z3 ⊢
 generalize size40 a2 = c at y2 y3 ⊢
 obtain ⟨q, q1, u, rfl, u1, u2⟩ := loop_up (b := law07_Some_b1 n c t) t.l.length (fun j st => ∃ u : List E3, st = (u, (j : Int)) ∧ u.length ≤ j ∧ ∀ x ∈ u, (0 ≤ x.1 ∧ x.1 < n) ∧ 0 ≤ x.2.1 ∧ x.2.1 < c) (fun q => ∃ u : List E3, q = .inl u ∧ u.length ≤ t.l.length ∧ ∀ x ∈ u, (0 ≤ x.1 ∧ x.1 < n) ∧ 0 ≤ x.2.1 ∧ x.2.1 < c)
  (by
   rintro j _ hj ⟨u, rfl, g1, g2⟩
   have ej := at_get t2 hj
   generalize t.l[j] = x at ej
   simp only [law07_Some_b1, ej, Option.bind_some, w_succ hj (by omega)]
   rw [if_pos (by omega)]
   by_cases c1 : x.1 < 0
   ·rw [if_pos c1]; exact .inl ⟨_, rfl, u, rfl, by omega, g2⟩
   by_cases c2 : x.2.1 < 0
   ·rw [if_neg c1, if_pos c2]; exact .inl ⟨_, rfl, u, rfl, by omega, g2⟩
   by_cases c3 : n = 0
   ·rw [if_neg c1, if_neg c2, if_pos c3]; exact .inl ⟨_, rfl, u, rfl, by omega, g2⟩
   by_cases c4 : c = 0
   ·rw [if_neg c1, if_neg c2, if_neg c3, if_pos c4]; exact .inl ⟨_, rfl, u, rfl, by omega, g2⟩
   rw [if_neg c1, if_neg c2, if_neg c3, if_neg c4]
   have m1 : modO x.1 n = some (x.1 % n) := by unfold modO; rw [if_pos c3, Int.tmod_eq_emod_of_nonneg (by omega)]
   have m2 : modO x.2.1 c = some (x.2.1 % c) := by unfold modO; rw [if_pos c4, Int.tmod_eq_emod_of_nonneg (by omega)]
   have ap : ∀ z : E3, app u [z] = some (u ++ [z]) := fun z => app_ok (by simp; unfold bound; omega)
   simp only [m1, m2, Option.bind_some, ap]
   refine .inl ⟨_, rfl, _, rfl, by simp; omega, fun y hy => ?_⟩
   rcases List.mem_append.1 hy with hy | hy
   ·exact g2 y hy
   ·simp only [List.mem_cons, List.not_mem_nil, or_false] at hy
    subst hy
    have h1 := Int.emod_nonneg x.1 c3
    have h2 := Int.emod_lt_of_pos x.1 (show 0 < n by omega)
    have h3 := Int.emod_nonneg x.2.1 c4
    have h4 := Int.emod_lt_of_pos x.2.1 (show 0 < c by omega)
    exact ⟨⟨h1, h2⟩, h3, h4⟩)
  (by
   rintro _ ⟨u, rfl, g1, g2⟩
   refine ⟨.inl u, ?_, u, rfl, g1, g2⟩
   simp only [law07_Some_b1]
   rw [if_neg (by omega)]) 0 (Nat.zero_le _) ([], 0) ⟨[], rfl, Nat.le_refl _, fun x hx => by simp at hx⟩
 rw [q1]
 simp only [Option.bind_some, Sum.elim_inl]
 rcases of_spec (r := 1) (by decide) (n := n) (c := c) ⟨by omega, by omega⟩ ⟨by omega, by omega⟩ (s := mo 3 u) (ok_mo _) (by rw [mo_l]; omega) (by rw [mo_l]; exact u2) with h | ⟨l, h, g1, g2, g3, g4⟩
 ·refine ⟨[], ?_, by simp, List.Pairwise.nil, fun x hx => by simp at hx, fun x hx => by simp at hx⟩
  rw [h]
  simp only [Option.bind_some, nilS]
  rw [if_pos (by decide), wrap64 (by omega) (by omega)]
  have hlo : lenOk (n + 1) = some () := by unfold lenOk bound; rw [if_pos ⟨by omega, by omega⟩]
  rw [hlo]
  simp only [Option.bind_some]
  unfold matV
  rw [show (n + 1).toNat = n.toNat + 1 by omega, tabN_zero]
  rfl
 ·rw [mo_l] at g1 g3
  refine ⟨l, ?_, by omega, g2, fun x hx => ?_, g4⟩
  ·rw [h]
   simp only [Option.bind_some]
   unfold matV
   simp only
   rw [if_neg (by decide)]
  ·obtain ⟨y, k1, k2, k3⟩ := g3 x hx
   have := u2 y k1
   rw [← k2, ← k3]; exact this
end Ev
end Go.Proofs.YtnikcjnkcjondaaDoor
end
section
namespace Go.Proofs.YtnikcjnkcjondaaDoor
namespace Ev
open Go
set_option linter.unusedVariables false
set_option linter.unusedSimpArgs false
def rangeOk (n : Int) (l : List (Int × Wd)) : Bool := l.all fun s => decide (0 ≤ s.1) && decide (s.1 < n)
def ordOk : List (Int × Wd) → Bool
 | a :: b :: l => decide (a.1 < b.1) && ordOk (b :: l)
 | _ => true
theorem ordOk_iff {l : List (Int × Wd)} : ordOk l = true ↔ ∀ j (h : j + 1 < l.length), l[j].1 < l[j + 1].1 := by
 induction l with
 | nil => simp [ordOk]
 | cons a l ih =>
  cases l with
  | nil => simp [ordOk]
  | cons b l =>
   simp only [ordOk, Bool.and_eq_true, decide_eq_true_eq, ih]
   constructor
   ·rintro ⟨h1, h2⟩ j hj
    cases j with
    | zero => exact h1
    | succ j => exact h2 j (by simpa using hj)
   ·intro h
    exact ⟨h 0 (by simp), fun j hj => h (j + 1) (by simpa using hj)⟩
def finL (r : Int) : List (Int × Wd) → List It → Option (List It)
 | [], o => some o
 | x :: l, o => if (narrowW x.2).2 = true then (if (narrowW x.2).1 ≠ zeroR r then finL r l (o ++ [(x.1, (narrowW x.2).1)]) else finL r l o) else none
theorem finL_len {r : Int} : ∀ {l : List (Int × Wd)} {o q : List It}, finL r l o = some q → q.length ≤ o.length + l.length
 | [], o, q, h => by simp only [finL, Option.some.injEq] at h; subst h; simp
 | x :: l, o, q, h => by
  simp only [finL] at h
  split at h
  ·split at h
   ·have := finL_len h; simp only [List.length_append, List.length_cons, List.length_nil] at this ⊢; omega
   ·have := finL_len h; simp only [List.length_cons]; omega
  ·simp at h
def doneV (r n : Int) (l : List (Int × Wd)) : (Int × Sl It) × Int :=
 if okR r = true then (if 0 ≤ n ∧ n ≤ 4096 then (if rangeOk n l = true then (if ordOk l = true then (match finL r l [] with | none => ((0, nilS), 12) | some o => ((n, mo 2 o), 0)) else ((0, nilS), 6)) else ((0, nilS), 3)) else ((0, nilS), 3)) else ((0, nilS), 8)
theorem doneV_ok (r n : Int) (l : List (Int × Wd)) : okS 2 (doneV r n l).1.2 ∧ (doneV r n l).1.2.l.length ≤ l.length := by
 have hz : okS 2 (nilS : Sl It) ∧ (nilS : Sl It).l.length ≤ l.length := ⟨ok_nil, by simp [nilS]⟩
 unfold doneV
 split
 ·split
  ·split
   ·split
    ·cases hf : finL r l [] with
     | none => exact hz
     | some o => exact ⟨ok_mo _, by have := finL_len hf; simp only [mo_l]; simpa using this⟩
    ·exact hz
   ·exact hz
  ·exact hz
 ·exact hz
theorem range_all {n : Int} {l : List (Int × Wd)} : rangeOk n l = true ↔ ∀ j (h : j < l.length), 0 ≤ l[j].1 ∧ l[j].1 < n := by
 unfold rangeOk
 rw [List.all_eq_true]
 constructor
 ·intro h j hj; simpa using h _ (List.getElem_mem hj)
 ·intro h x hx
  obtain ⟨j, hj, rfl⟩ := List.mem_iff_getElem.1 hx
  simpa using h j hj
theorem range_gen {R : Type} {b : Int → Option (Int ⊕ (Unit ⊕ R))} {n : Int} {s : Sl (Int × Wd)} {bad : R} (hl : s.l.length ≤ 9223372036854775807)
  (h1 : ∀ j (h : j < s.l.length), s.l[j].1 < 0 → b (j : Int) = some (.inr (.inr bad))) (h2 : ∀ j (h : j < s.l.length), 0 ≤ s.l[j].1 → n ≤ s.l[j].1 → b (j : Int) = some (.inr (.inr bad))) (h3 : ∀ j (h : j < s.l.length), 0 ≤ s.l[j].1 → s.l[j].1 < n → b (j : Int) = some (.inl ((j + 1 : Nat) : Int))) (h4 : b (s.l.length : Int) = some (.inr (.inl ()))) :
  loopO b 0 = some (if rangeOk n s.l = true then .inl () else .inr bad) := by
 obtain ⟨q, q1, q2⟩ := loop_up (b := b) s.l.length (fun j a => a = (j : Int) ∧ ∀ i (h : i < s.l.length), i < j → 0 ≤ s.l[i].1 ∧ s.l[i].1 < n) (fun q => q = if rangeOk n s.l = true then .inl () else .inr bad)
  (by
   rintro j _ hj ⟨rfl, ha⟩
   by_cases c1 : s.l[j].1 < 0
   ·refine .inr ⟨_, h1 j hj c1, ?_⟩
    rw [if_neg (fun e => by have := range_all.1 e j hj; omega)]
   by_cases c2 : n ≤ s.l[j].1
   ·refine .inr ⟨_, h2 j hj (by omega) c2, ?_⟩
    rw [if_neg (fun e => by have := range_all.1 e j hj; omega)]
   ·refine .inl ⟨_, h3 j hj (by omega) (by omega), rfl, fun i hi hij => ?_⟩
    by_cases e : i = j
    ·subst e; exact ⟨by omega, by omega⟩
    ·exact ha i hi (by omega))
  (by
   rintro _ ⟨rfl, ha⟩
   exact ⟨_, h4, by rw [if_pos (range_all.2 fun j hj => ha j hj hj)]⟩) 0 (Nat.zero_le _) 0 ⟨rfl, fun i h hi => absurd hi (by omega)⟩
 rw [q1, q2]
theorem ord_gen {R : Type} {b : Int → Option (Int ⊕ (Unit ⊕ R))} {s : Sl (Int × Wd)} {bad : R}
  (h1 : ∀ j (h : j + 1 < s.l.length), s.l[j + 1].1 ≤ s.l[j].1 → b ((j + 1 : Nat) : Int) = some (.inr (.inr bad))) (h2 : ∀ j (h : j + 1 < s.l.length), s.l[j].1 < s.l[j + 1].1 → b ((j + 1 : Nat) : Int) = some (.inl ((j + 2 : Nat) : Int))) (h4 : ∀ j : Nat, s.l.length ≤ j → b (j : Int) = some (.inr (.inl ()))) :
  loopO b 1 = some (if ordOk s.l = true then .inl () else .inr bad) := by
 obtain ⟨q, q1, q2⟩ := loop_up (b := b) (max s.l.length 1) (fun j a => a = (j : Int) ∧ 1 ≤ j ∧ ∀ i (h : i + 1 < s.l.length), i + 1 < j → s.l[i].1 < s.l[i + 1].1) (fun q => q = if ordOk s.l = true then .inl () else .inr bad)
  (by
   rintro j _ hj ⟨rfl, h0, ha⟩
   obtain ⟨i, rfl⟩ : ∃ i, j = i + 1 := ⟨j - 1, by omega⟩
   have hi : i + 1 < s.l.length := by omega
   by_cases c1 : s.l[i + 1].1 ≤ s.l[i].1
   ·refine .inr ⟨_, h1 i hi c1, ?_⟩
    rw [if_neg (fun e => by have := ordOk_iff.1 e i hi; omega)]
   ·refine .inl ⟨_, h2 i hi (by omega), rfl, by omega, fun k hk hkj => ?_⟩
    by_cases e : k = i
    ·subst e; omega
    ·exact ha k hk (by omega))
  (by
   rintro _ ⟨rfl, h0, ha⟩
   exact ⟨_, h4 _ (by omega), by rw [if_pos (ordOk_iff.2 fun j hj => ha j hj (by omega))]⟩) 1 (by omega) 1 ⟨rfl, Nat.le_refl _, fun i h hi => absurd hi (by omega)⟩
 rw [q1, q2]
theorem fin_gen {R : Type} {b : Int × List It → Option ((Int × List It) ⊕ (List It ⊕ R))} {r : Int} {s : Sl (Int × Wd)} {bad : R} (hl : s.l.length ≤ 65536)
  (h1 : ∀ j o (h : j < s.l.length), o.length ≤ 65536 → (narrowW s.l[j].2).2 = false → b ((j : Int), o) = some (.inr (.inr bad))) (h2 : ∀ j o (h : j < s.l.length), o.length ≤ 65536 → (narrowW s.l[j].2).2 = true → b ((j : Int), o) = some (.inl (((j + 1 : Nat) : Int), if (narrowW s.l[j].2).1 ≠ zeroR r then o ++ [(s.l[j].1, (narrowW s.l[j].2).1)] else o))) (h4 : ∀ o, b ((s.l.length : Int), o) = some (.inr (.inl o))) :
  loopO b (0, []) = some (match finL r s.l [] with | some o => .inl o | none => .inr bad) := by
 obtain ⟨q, q1, q2⟩ := loop_up (b := b) s.l.length (fun j a => ∃ o, a = ((j : Int), o) ∧ o.length ≤ j ∧ finL r (s.l.drop j) o = finL r s.l []) (fun q => q = match finL r s.l [] with | some o => .inl o | none => .inr bad)
  (by
   rintro j _ hj ⟨o, rfl, g1, g2⟩
   rw [List.drop_eq_getElem_cons hj] at g2
   simp only [finL] at g2
   cases hn : (narrowW s.l[j].2).2 with
   | false =>
    rw [hn, if_neg (by simp)] at g2
    refine .inr ⟨_, h1 j o hj (by omega) hn, ?_⟩
    rw [← g2]
   | true =>
    rw [hn, if_pos rfl] at g2
    refine .inl ⟨_, h2 j o hj (by omega) hn, _, rfl, ?_, ?_⟩
    ·split
     ·simp; omega
     ·omega
    ·by_cases c : (narrowW s.l[j].2).1 ≠ zeroR r
     ·rw [if_pos c] at g2 ⊢; exact g2
     ·rw [if_neg c] at g2 ⊢; exact g2)
  (by
   rintro _ ⟨o, rfl, g1, g2⟩
   rw [List.drop_length] at g2
   refine ⟨_, h4 o, ?_⟩
   rw [← g2]; rfl) 0 (Nat.zero_le _) (0, []) ⟨[], rfl, Nat.le_refl _, by simp⟩
 rw [q1, q2]
theorem pull_Done_eq {r n : Int} {s : Sl (Int × Wd)} (hs : okS 3 s) (hl : s.l.length ≤ 65536) : pull_Done r n s = some (doneV r n s.l) := by
 unfold pull_Done pull_wrong doneV
 simp only [ring_Is_eq, Option.bind_some]
 by_cases c : okR r = true
 ·have c' : (decide (1 ≤ r) && decide (r ≤ 5)) = true := c
  rw [if_pos c', if_pos c]
  by_cases n1 : n < 0
  ·rw [if_pos n1, if_neg (fun h => by omega)]; rfl
  by_cases n2 : n > 4096
  ·rw [if_neg n1, if_pos n2, if_neg (fun h => by omega)]; rfl
  rw [if_neg n1, if_neg n2, if_pos ⟨by omega, by omega⟩]
  have e1 : loopO (pull_wrong_b1 n s) 0 = some (if rangeOk n s.l = true then .inl () else .inr 3) := range_gen (by omega)
   (fun j hj c1 => by simp only [pull_wrong_b1, at_get hs hj, Option.bind_some]; rw [if_pos (by omega), if_pos c1])
   (fun j hj c1 c2 => by simp only [pull_wrong_b1, at_get hs hj, Option.bind_some]; rw [if_pos (by omega), if_neg (by omega), if_pos c2])
   (fun j hj c1 c2 => by simp only [pull_wrong_b1, at_get hs hj, Option.bind_some, w_succ hj (by omega)]; rw [if_pos (by omega), if_neg (by omega), if_neg (by omega)])
   (by simp only [pull_wrong_b1]; rw [if_neg (by omega)])
  have e2 : loopO (pull_wrong_b2 s) 1 = some (if ordOk s.l = true then .inl () else .inr 6) := ord_gen
   (fun j hj c1 => by
    have hw : IntKind.i64.wrap (((j + 1 : Nat) : Int) - 1) = (j : Int) := by rw [wrap64 (by omega) (by omega)]; omega
    simp only [pull_wrong_b2, hw, at_get hs hj, at_get hs (show j < s.l.length by omega), Option.bind_some]
    rw [if_pos (by omega), if_pos c1])
   (fun j hj c1 => by
    have hw : IntKind.i64.wrap (((j + 1 : Nat) : Int) - 1) = (j : Int) := by rw [wrap64 (by omega) (by omega)]; omega
    have hw2 : IntKind.i64.wrap (((j + 1 : Nat) : Int) + 1) = ((j + 2 : Nat) : Int) := by rw [wrap64 (by omega) (by omega)]; omega
    simp only [pull_wrong_b2, hw, hw2, at_get hs hj, at_get hs (show j < s.l.length by omega), Option.bind_some]
    rw [if_pos (by omega), if_neg (by omega)])
   (fun j hj => by simp only [pull_wrong_b2]; rw [if_neg (by omega)])
  rw [e1]
  simp only [Option.bind_some]
  cases h1 : rangeOk n s.l with
  | false => rfl
  | true =>
   simp only [if_true, Sum.elim_inl, e2, Option.bind_some]
   cases h2 : ordOk s.l with
   | false => rfl
   | true =>
    simp only [if_true, Sum.elim_inl, Option.bind_some]
    rw [if_neg (by decide)]
    have e3 : loopO (pull_Done_b1 r s) (0, []) = some (match finL r s.l [] with | some o => .inl o | none => .inr ((0, nilS), 12)) := fin_gen (by omega)
     (fun j o hj ho hn => by simp only [pull_Done_b1, at_get hs hj, Option.bind_some, ring_Narrow_eq, hn]; rw [if_pos (by omega)]; rfl)
     (fun j o hj ho hn => by
      have ap : ∀ z : It, app o [z] = some (o ++ [z]) := fun z => app_ok (by simp; unfold bound; omega)
      simp only [pull_Done_b1, at_get hs hj, Option.bind_some, ring_Narrow_eq, hn, ring_Zero_eq, ap, w_succ hj (by omega), if_true]
      rw [if_pos (by omega)]
      split <;> rfl)
     (fun o => by simp only [pull_Done_b1]; rw [if_neg (by omega)])
    rw [e3]
    cases finL r s.l [] <;> rfl
 ·have c' : ¬ (decide (1 ≤ r) && decide (r ≤ 5)) = true := c
  rw [if_neg c', if_neg c]; rfl
theorem items_v64 {m : Mx} (h : OkM m) (i : Nat) : ∀ x ∈ itemsM m i, i64r x.2 := fun x hx => by
 unfold itemsM at hx
 have := (List.of_mem_zip (a := x.1) (b := x.2) hx).2
 unfold cutL at this
 exact h.v64 _ (List.mem_of_mem_drop (List.mem_of_mem_take this))
def timesV (r : Int) (m : Mx) (d : Dn) (ws : List Int) (o : Bool) : (Int × Sl It) × Int :=
 if (sumsV r m d ws o).2 ≠ 0 then ((0, nilS), (sumsV r m d ws o).2) else doneV r (sureM m).1 (sumsV r m d ws o).1.l
theorem pull_Times_eq {r : Int} {m : Mx} {d : Dn} (hm : OkM m) (hd : OkD d) {s : Sl Int} (hs : okS 1 s) (hu : u64s s.l) (o : Bool) : pull_Times r m d s o = some (timesV r m d s.l o) := by
 have e1 := pull_Sums_eq (r := r) hm hd hs hu o
 have e2 := pull_sure_eq hm
 obtain ⟨o1, o2⟩ := sumsV_ok r m d s.l o
 unfold timesV
 generalize sumsV r m d s.l o = u at e1 o1 o2 ⊢
 have e3 := pull_Done_eq (r := r) (n := (sureM m).1) o1 (by omega)
 obtain ⟨m1, m2, m3, m4, m5⟩ := m
 obtain ⟨d1, d2, d3⟩ := d
 unfold pull_Times
 simp only [e1, Option.bind_some]
 by_cases c : u.2 ≠ 0
 ·rw [if_pos c, if_pos c]; rfl
 ·rw [if_neg c, if_neg c]
  simp only [e2, e3, Option.bind_some]
theorem timesV_ok (r : Int) (m : Mx) (d : Dn) (ws : List Int) (o : Bool) : okS 2 (timesV r m d ws o).1.2 ∧ (timesV r m d ws o).1.2.l.length ≤ 4096 := by
 obtain ⟨o1, o2⟩ := sumsV_ok r m d ws o
 unfold timesV
 split
 ·exact ⟨ok_nil, by simp [nilS]⟩
 ·have := doneV_ok r (sureM m).1 (sumsV r m d ws o).1.l
  exact ⟨this.1, by omega⟩
end Ev
end Go.Proofs.YtnikcjnkcjondaaDoor
end
section
namespace Go.Proofs.YtnikcjnkcjondaaDoor
namespace Ev
open Go
set_option linter.unusedVariables false
set_option linter.unusedSimpArgs false
theorem getI_in {p y : Int} : ∀ {l : List It}, getI p l = some y → (p, y) ∈ l
 | x :: l, h => by
  unfold getI at h
  split at h
  ·rename_i e
   simp only [Option.some.injEq] at h
   rw [← e, ← h]; exact List.mem_cons_self
  ·exact List.mem_cons_of_mem _ (getI_in h)
theorem sizeF_iff2 {n : Int} : sizeF n = true ↔ 0 ≤ n ∧ n ≤ 4096 := by unfold sizeF; simp
def tabM (n : Nat) (f : Nat → Int) : List Int := (List.range n).map f
theorem tabM_len (n : Nat) (f : Nat → Int) : (tabM n f).length = n := by unfold tabM; simp
theorem tabM_get {n k : Nat} (f : Nat → Int) (h : k < n) : (tabM n f)[k]? = some (f k) := by
 unfold tabM
 rw [List.getElem?_map, List.getElem?_range h]; rfl
theorem tabM_getD {n k : Nat} (f : Nat → Int) (h : k < n) : (tabM n f).getD k 0 = f k := by rw [List.getD_eq_getElem?_getD, tabM_get f h]; rfl
theorem tabM_set {n k : Nat} (f : Nat → Int) (v : Int) (h : k < n) : (tabM n f).set k v = tabM n fun i => if i = k then v else f i := by
 refine List.ext_getElem? fun i => ?_
 rw [List.getElem?_set]
 by_cases hi : i < n
 ·by_cases e : k = i
  ·subst e; rw [if_pos rfl, if_pos (by rw [tabM_len]; omega), tabM_get _ hi, if_pos rfl]
  ·rw [if_neg e, tabM_get _ hi, tabM_get _ hi, if_neg (Ne.symm e)]
 ·rw [if_neg (by omega)]
  rw [List.getElem?_eq_none (by rw [tabM_len]; omega), List.getElem?_eq_none (by rw [tabM_len]; omega)]
theorem tabM_congr {n : Nat} {f g : Nat → Int} (h : ∀ k, k < n → f k = g k) : tabM n f = tabM n g := by
 unfold tabM
 refine List.map_congr_left fun k hk => h k ?_
 simpa using hk
theorem tabM_zero (n : Nat) : List.replicate n (0 : Int) = tabM n fun _ => 0 := by
 refine List.ext_getElem? fun i => ?_
 by_cases hi : i < n
 ·rw [tabM_get _ hi, List.getElem?_replicate, if_pos hi]
 ·rw [List.getElem?_eq_none (by simp; omega), List.getElem?_eq_none (by rw [tabM_len]; omega)]
theorem tabM_mem {n : Nat} {f : Nat → Int} {x : Int} (h : x ∈ tabM n f) : ∃ k, k < n ∧ f k = x := by
 unfold tabM at h
 obtain ⟨k, hk, rfl⟩ := List.mem_map.1 h
 exact ⟨k, by simpa using hk, rfl⟩
theorem mem_places {p : Int} {l : List It} : p ∈ l.map (·.1) ↔ ∃ y, getI p l = some y := by
 induction l with
 | nil => simp [getI]
 | cons x l ih =>
  simp only [List.map_cons, List.mem_cons, getI]
  by_cases h : x.1 = p
  ·rw [if_pos h]; exact ⟨fun _ => ⟨_, rfl⟩, fun _ => .inl h.symm⟩
  ·rw [if_neg h, ← ih]; exact ⟨fun h1 => h1.resolve_left (Ne.symm h), .inr⟩
theorem ref10_Of_eq {k : Int} {t : Sl It} (h : GoodV (k, t)) : ∃ d : Dn, ref10_Of (k, t) = some d ∧ OkD d ∧ rightD d = true ∧ d.1 = k ∧ ∀ p, denB d p = getI p t.l := by
 have hz := right_size h.1
 have hlen := right_len h.1
 simp only at hlen
 obtain ⟨n, rfl⟩ := Int.eq_ofNat_of_zero_le hz.1
 have hnew : ref03_New (n : Int) = some (List.replicate (((n : Int) + 63) / 64).toNat 0) := by
  unfold ref03_New
  have hlo : lenOk (((n : Int) + 63) / 64) = some () := by unfold lenOk bound; rw [if_pos ⟨by omega, by omega⟩]
  simp only [ref03_words_eq (n := (n : Int)) ⟨by omega, by omega⟩, hlo, Option.bind_some]
 have hlo : lenOk (n : Int) = some () := by unfold lenOk bound; rw [if_pos ⟨by omega, by omega⟩]
 have hok : okS 2 t := h.2.1
 unfold ref10_Of
 simp only [ref09_Sure_eq ((n : Int), t) hok (show t.l.length ≤ _ by omega), sure_id h.1, Option.bind_some, hnew, hlo, Int.toNat_natCast]
 rw [if_neg (by omega), if_neg (by omega), tabM_zero]
 obtain ⟨q, q1, q2⟩ := loop_up (b := ref10_Of_b3 t) t.l.length (fun j st => st = ((t.l.take j).map (·.1), (j : Int), tabM n fun p => (getI (p : Int) (t.l.take j)).getD 0)) (fun q => q = .inl (t.l.map (·.1), tabM n fun p => (getI (p : Int) t.l).getD 0))
  (by
   rintro j _ hj rfl
   have ej := at_get hok hj
   have hx := right_at h.1 hj
   have htk := getI_take h.1 hj
   rw [List.take_succ_eq_append_getElem hj]
   generalize t.l[j] = x at ej hx htk
   obtain ⟨x1, x2⟩ := x
   simp only at hx htk
   obtain ⟨p, rfl⟩ := Int.eq_ofNat_of_zero_le hx.1
   have ap : app ((t.l.take j).map (·.1)) [(p : Int)] = some ((t.l.take j).map (·.1) ++ [(p : Int)]) := app_ok (by simp; unfold bound; omega)
   have hat : atL (tabM n fun p => (getI (p : Int) (t.l.take j)).getD 0) (p : Int) = some ((getI (p : Int) (t.l.take j)).getD 0) := by
    unfold atL; rw [if_pos (by omega), Int.toNat_natCast, tabM_get _ (by omega)]
   simp only [ref10_Of_b3, ej, Option.bind_some, ap, hat, Int.toNat_natCast, w_succ hj (by omega)]
   rw [if_pos (by omega), tabM_set _ _ (by omega)]
   refine .inl ⟨_, rfl, ?_⟩
   rw [List.map_append]
   simp only [List.map_cons, List.map_nil, Prod.mk.injEq, true_and]
   refine tabM_congr fun i hi => ?_
   rw [getI_append]
   by_cases e : i = p
   ·subst e; rw [if_pos rfl, htk]; simp [getI]
   ·rw [if_neg e]
    have : getI (i : Int) [((p : Int), x2)] = none := by unfold getI; rw [if_neg (by omega)]; rfl
    rw [this]
    cases getI (i : Int) (t.l.take j) <;> rfl)
  (by
   rintro _ rfl
   refine ⟨.inl (t.l.map (·.1), tabM n fun p => (getI (p : Int) t.l).getD 0), ?_, rfl⟩
   simp only [ref10_Of_b3]
   rw [if_neg (by omega), List.take_length]) 0 (Nat.zero_le _) ([], 0, tabM n fun _ => 0) rfl
 rw [q1, q2]
 obtain ⟨w, w1, w2, w3, w4⟩ := ref03_Of_eq (n := n) (by omega) (mo 1 (t.l.map (·.1))) (ok_mo _) (by rw [mo_l]; simp; omega)
 simp only [Option.bind_some, Sum.elim_inl, w1]
 rw [mo_l] at w4
 have hbit : ∀ p : Nat, hasB w p = (getI (p : Int) t.l).isSome := fun p => by
  rw [w4 p]
  cases hg : getI (p : Int) t.l with
  | none =>
   rw [decide_eq_false (p := (p : Int) ∈ t.l.map (·.1)) (fun hm => by obtain ⟨y, hy⟩ := mem_places.1 hm; rw [hg] at hy; simp at hy)]; simp
  | some y =>
   have hm := mem_places.2 ⟨y, hg⟩
   rw [decide_eq_true hm]
   have : p < n := by
    obtain ⟨x, hx, hxp⟩ := List.mem_map.1 hm
    obtain ⟨j, hj, rfl⟩ := List.mem_iff_getElem.1 hx
    have := right_at h.1 hj
    omega
   rw [decide_eq_true this]; rfl
 refine ⟨_, rfl, ⟨.inr rfl, w3, .inr rfl, fun x hx => ?_, show w.length ≤ _ by omega, by simp only [tabM_len]; omega⟩, ?_, rfl, fun p => ?_⟩
 ·obtain ⟨k, hk, rfl⟩ := tabM_mem hx
  cases hg : getI (k : Int) t.l with
  | none => simp [i64r]
  | some y => exact h.2.2 _ (getI_in hg)
 ·unfold rightD rightF
  simp only [mo_l, tabM_len, Bool.and_eq_true, decide_eq_true_eq, List.all_eq_true]
  refine ⟨⟨sizeF_iff2.2 ⟨by omega, by omega⟩, w2, fun p hp => ?_⟩, trivial, fun i hi => ?_⟩
  ·obtain ⟨p0, p1⟩ := places_mem.1 hp
   rw [w4] at p1
   simp only [Bool.and_eq_true, decide_eq_true_eq] at p1
   omega
  ·have hi' : i < n := by simpa using hi
   rw [tabM_getD _ hi', hbit]
   cases getI (i : Int) t.l <;> simp
 ·unfold denB
  simp only [mo_l]
  by_cases hp : 0 ≤ p
  ·obtain ⟨p, rfl⟩ := Int.eq_ofNat_of_zero_le hp
   simp only [Int.toNat_natCast]
   rw [hbit]
   cases hg : getI (p : Int) t.l with
   | none => simp
   | some y =>
    have : p < n := by
     obtain ⟨x, hx, hxp⟩ := List.mem_map.1 (mem_places.2 ⟨y, hg⟩)
     obtain ⟨j, hj, rfl⟩ := List.mem_iff_getElem.1 hx
     have := right_at h.1 hj
     omega
    rw [if_pos ⟨hp, rfl⟩, tabM_getD _ this, hg]; rfl
  ·rw [if_neg (fun hh => hp hh.1)]
   refine (getI_none fun x hx e => ?_).symm
   obtain ⟨j, hj, rfl⟩ := List.mem_iff_getElem.1 hx
   have := right_at h.1 hj
   omega
end Ev
end Go.Proofs.YtnikcjnkcjondaaDoor
end
section
namespace Go.Proofs.YtnikcjnkcjondaaDoor
namespace Ev
open Go
set_option linter.unusedVariables false
set_option linter.unusedSimpArgs false
abbrev Tk := Int × (Int × Int) × Sl E3 × Sl It × Sl It × Sl Int × Bool
structure OkT (t : Tk) : Prop where
 n1 : 0 ≤ t.2.1.1 ∧ t.2.1.1 ≤ 255
 n2 : 0 ≤ t.2.1.2 ∧ t.2.1.2 ≤ 255
 l : okS 3 t.2.2.1
 ll : t.2.2.1.l.length ≤ 9223372036854775807
 x : okS 2 t.2.2.2.1
 xl : t.2.2.2.1.l.length ≤ 9223372036854775807
 xv : ∀ q ∈ t.2.2.2.1.l, i64r q.2
 y : okS 2 t.2.2.2.2.1
 yl : t.2.2.2.2.1.l.length ≤ 9223372036854775807
 yv : ∀ q ∈ t.2.2.2.2.1.l, i64r q.2
 f : okS 1 t.2.2.2.2.2.1
 fu : u64s t.2.2.2.2.2.1.l
def rightR (r : Int) : Int := if r < 1 then 1 else if r > 5 then 1 else r
theorem rightR_ok (r : Int) : okR (rightR r) = true := by
 unfold rightR okR
 split
 ·decide
 ·split
  ·decide
  ·rw [decide_eq_true (by omega), decide_eq_true (by omega)]; rfl
theorem law13_Right_eq (r : Int) : law13_Right r = some (rightR r) := by
 unfold law13_Right rightR
 split
 ·rfl
 ·split <;> rfl
theorem andI_i64 (a b : Int) : i64r (andI .i64 a b) := by unfold andI; exact i64_wrap _
def valR (r n : Int) : Int := if r = 5 then n else if r = 2 then andI .i64 n 1 else if (andI .i64 n 4611686018427387903).tmod 5 = 0 then 4611686018427387904 else andI .i64 n 4611686018427387903
theorem law02_Value_eq (r n : Int) : law02_Value r n = some (valR r n) := by
 unfold law02_Value valR modO
 split
 ·rfl
 ·split
  ·rfl
  ·rw [if_pos (by decide)]
   simp only [Option.bind_some]
   split <;> rfl
theorem valR_i64 {r n : Int} (h : i64r n) : i64r (valR r n) := by
 unfold valR
 split
 ·exact h
 ·split
  ·exact andI_i64 _ _
  ·split
   ·unfold i64r; omega
   ·exact andI_i64 _ _
def facR (r n : Int) : Int := if r = 5 then n.tmod 2147483648 else valR r n
theorem law02_Factor_eq (r n : Int) : law02_Factor r n = some (facR r n) := by
 unfold law02_Factor facR modO
 split
 ·rw [if_pos (by decide)]; rfl
 ·rw [law02_Value_eq]; rfl
theorem facR_i64 {r n : Int} (h : i64r n) : i64r (facR r n) := by
 unfold facR
 split
 ·have h1 := Int.tmod_lt_of_pos n (show (0 : Int) < 2147483648 by decide)
  have h2 := Int.lt_tmod_of_pos n (show (0 : Int) < 2147483648 by decide)
  unfold i64r; omega
 ·exact valR_i64 h
def mapE (f : Int → Int) (l : List E3) : List E3 := l.map fun x => (x.1, x.2.1, f x.2.2)
theorem mapE_len (f : Int → Int) (l : List E3) : (mapE f l).length = l.length := by unfold mapE; simp
theorem mapE_rises {f : Int → Int} {l : List E3} (h : rises l) : rises (mapE f l) := by
 unfold mapE rises
 rw [List.pairwise_map]
 refine h.imp fun hb => ?_
 rw [bel_iff] at hb ⊢; exact hb
theorem mapE_mat (n c : Int) (f : Int → Int) (l : List E3) : matV n c (mapE f l) = (n, c, (matV n c l).2.2.1, (matV n c l).2.2.2.1, mo 1 ((l.map (·.2.2)).map f)) := by
 unfold matV mapE
 have e : ∀ k, cntR (l.map fun x => (x.1, x.2.1, f x.2.2)) k = cntR l k := fun k => by
  unfold cntR
  rw [List.countP_map]; rfl
 simp only [e, List.map_map]
 rfl
theorem task_mat (t : Tk) (h : OkT t) : ∃ l, law13_Task_Matrix t = some (matV (size40 t.2.1.1) (size40 t.2.1.2) (mapE (facR (rightR t.1)) l)) ∧ l.length ≤ 60 ∧ rises l ∧ (∀ x ∈ l, (0 ≤ x.1 ∧ x.1 < size40 t.2.1.1) ∧ 0 ≤ x.2.1 ∧ x.2.1 < size40 t.2.1.2) ∧ ∀ x ∈ l, i64r x.2.2 := by
 obtain ⟨r, ⟨n1, n2⟩, s, x, y, f, o⟩ := t
 obtain ⟨h1, h2, h3, h4, _, _, _, _, _, _, _, _⟩ := h
 simp only at h1 h2 h3 h4 ⊢
 obtain ⟨l, e, g1, g2, g3, g4⟩ := some_mat (n1, n2) ⟨h1, h2⟩ s h3 h4
 simp only at e g3
 refine ⟨l, ?_, g1, g2, g3, g4⟩
 rw [mapE_mat]
 unfold law13_Task_Matrix
 unfold matV at e ⊢
 simp only [e, Option.bind_some, law13_Right_eq]
 have hvl : (l.map (·.2.2)).length ≤ 60 := by simpa using g1
 generalize l.map (·.2.2) = v at hvl
 obtain ⟨q, q1, q2⟩ := loop_up (b := law13_Task_Matrix_b1 (mo 1 v) (rightR r)) v.length (fun j st => st = ((v.take j).map (facR (rightR r)), (j : Int))) (fun q => q = .inl (v.map (facR (rightR r))))
  (by
   rintro j _ hj rfl
   have ej := at_mo (w := 1) (List.getElem?_eq_getElem hj)
   have ap : ∀ z, app ((v.take j).map (facR (rightR r))) [z] = some ((v.take j).map (facR (rightR r)) ++ [z]) := fun z => app_ok (by simp; unfold bound; omega)
   simp only [law13_Task_Matrix_b1, ej, Option.bind_some, law02_Factor_eq, ap, mo_l, w_succ hj (by omega)]
   rw [if_pos (by omega)]
   exact .inl ⟨_, rfl, by rw [List.take_succ_eq_append_getElem hj, List.map_append]; rfl⟩)
  (by
   rintro _ rfl
   refine ⟨.inl (v.map (facR (rightR r))), ?_, rfl⟩
   simp only [law13_Task_Matrix_b1, mo_l]
   rw [if_neg (by omega), List.take_length]) 0 (Nat.zero_le _) ([], 0) rfl
 rw [q1, q2]; rfl
structure TaskM (t : Tk) (m : Mx) : Prop where
 e : law13_Task_Matrix t = some m
 ok : OkM m
 right : rightM m = true
 n : m.1 = size40 t.2.1.1
 c : m.2.1 = size40 t.2.1.2
theorem task_m (t : Tk) (h : OkT t) : ∃ m, TaskM t m := by
 obtain ⟨l, e, g1, g2, g3, g4⟩ := task_mat t h
 obtain ⟨_, a2, a3⟩ := law07_Size_eq h.n1
 obtain ⟨_, b2, b3⟩ := law07_Size_eq h.n2
 refine ⟨_, e, matV_ok ⟨by omega, by omega⟩ (by rw [mapE_len]; omega) fun x hx => ?_, matV_right ⟨by omega, by omega⟩ ⟨by omega, by omega⟩ (by rw [mapE_len]; omega) (mapE_rises g2) fun x hx => ?_, rfl, rfl⟩
 ·unfold mapE at hx
  obtain ⟨y, hy, rfl⟩ := List.mem_map.1 hx
  exact facR_i64 (g4 y hy)
 ·unfold mapE at hx
  obtain ⟨y, hy, rfl⟩ := List.mem_map.1 hx
  exact g3 y hy
theorem asc_mapV {n : Int} {f : Int → Int} : ∀ {l : List It} {a : Int}, asc a n l = true → asc a n (l.map fun x => (x.1, f x.2)) = true
 | [], _, _ => rfl
 | x :: l, a, h => by
  simp only [List.map_cons, asc, Bool.and_eq_true, decide_eq_true_eq] at h ⊢
  exact ⟨h.1, asc_mapV h.2⟩
theorem task_vec (t : Tk) (h : OkT t) (s : Sl It) (hs : okS 2 s) (hl : s.l.length ≤ 9223372036854775807) (hv : ∀ q ∈ s.l, i64r q.2) : ∃ u : Sl It, law13_Task_Vector t s = some (size40 t.2.1.2, u) ∧ GoodV (size40 t.2.1.2, u) ∧ ∃ w : List It, GoodV (size40 t.2.1.2, mo 2 w) ∧ u = mo 2 (w.map fun x => (x.1, valR (rightR t.1) x.2)) := by
 obtain ⟨r, ⟨n1, n2⟩, s4, x, y, f, o⟩ := t
 have h2 := h.n2
 simp only at h2 ⊢
 obtain ⟨z1, z2, z3⟩ := law07_Size_eq h2
 have hw8 : IntKind.u8.wrap (size40 n2) = size40 n2 := by
  have : IntKind.u8.wrap (size40 n2) = size40 n2 % 256 := by simp [IntKind.wrap, IntKind.signed, IntKind.bits]
  rw [this]; omega
 obtain ⟨⟨k, t⟩, e1, g1, g2⟩ := law09_Some_at (size40 n2) s ⟨by omega, by omega⟩ hs hl hv
 have hk : k = size40 n2 := by
  simp only at g2
  rw [g2, Int.tmod_eq_emod_of_nonneg (by omega)]; omega
 subst hk
 have hz := right_size g1.1
 have hlen := right_len g1.1
 simp only at hlen
 refine ⟨mo 2 (t.l.map fun x => (x.1, valR (rightR r) x.2)), ?_, ?_, t.l, ?_, rfl⟩
 ·unfold law13_Task_Vector
  simp only [z1, hw8, e1, Option.bind_some]
  have hok : okS 2 t := g1.2.1
  obtain ⟨q, q1, q2⟩ := loop_up (b := law13_Task_Vector_b1 r t) t.l.length (fun j st => st = ((t.l.take j).map (fun x => (x.1, valR (rightR r) x.2)), (j : Int))) (fun q => q = .inl (t.l.map fun x => (x.1, valR (rightR r) x.2)))
   (by
    rintro j _ hj rfl
    have ej := at_get hok hj
    have ap : ∀ z : It, app ((t.l.take j).map (fun x => (x.1, valR (rightR r) x.2))) [z] = some ((t.l.take j).map (fun x => (x.1, valR (rightR r) x.2)) ++ [z]) := fun z => app_ok (by simp; unfold bound; omega)
    simp only [law13_Task_Vector_b1, ej, Option.bind_some, law13_Right_eq, law02_Value_eq, ap, w_succ hj (by omega)]
    rw [if_pos (by omega)]
    exact .inl ⟨_, rfl, by rw [List.take_succ_eq_append_getElem hj, List.map_append]; rfl⟩)
   (by
    rintro _ rfl
    refine ⟨.inl (t.l.map fun x => (x.1, valR (rightR r) x.2)), ?_, rfl⟩
    simp only [law13_Task_Vector_b1]
    rw [if_neg (by omega), List.take_length]) 0 (Nat.zero_le _) ([], 0) rfl
  rw [q1, q2]; rfl
 ·refine good_mo hz.1 hz.2 (asc_mapV (right_asc g1.1)) fun x hx => ?_
  obtain ⟨y, hy, rfl⟩ := List.mem_map.1 hx
  exact valR_i64 (g1.2.2 y hy)
 ·exact good_mo hz.1 hz.2 (right_asc g1.1) g1.2.2
theorem okT_of {t : Tk} (h : inK .i64 t.1 ∧ (inK .u8 t.2.1.1 ∧ inK .u8 t.2.1.2) ∧ SlW 3 (fun x : E3 => inK .i64 x.1 ∧ inK .i64 x.2.1 ∧ inK .i64 x.2.2) t.2.2.1 ∧ SlW 2 (fun x : It => inK .i64 x.1 ∧ inK .i64 x.2) t.2.2.2.1 ∧ SlW 2 (fun x : It => inK .i64 x.1 ∧ inK .i64 x.2) t.2.2.2.2.1 ∧ SlW 1 (fun x => inK .u64 x) t.2.2.2.2.2.1 ∧ True) : OkT t := by
 obtain ⟨_, ⟨h1, h2⟩, h3, h4, h5, h6, _⟩ := h
 exact ⟨u8_of h1, u8_of h2, h3.ok, h3.2.2.1, h4.ok, h4.2.2.1, fun q hq => i64r_of (h4.2.2.2 q hq).2, h5.ok, h5.2.2.1, fun q hq => i64r_of (h5.2.2.2 q hq).2, h6.ok, u64s_of h6⟩
end Ev
end Go.Proofs.YtnikcjnkcjondaaDoor
end
