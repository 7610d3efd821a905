/- Texts of a claim, joined. -/
import Derived.Test.YtnikcjnkcjondaaDoorZT14
import Derived.Test.YtnikcjnkcjondaaDoorZT12
import Derived.Test.YtnikcjnkcjondaaDoorZT13
import Derived.Test.YtnikcjnkcjondaaDoorZT6
set_option linter.unusedVariables false
set_option linter.unusedSimpArgs false
section
namespace Go.Proofs.YtnikcjnkcjondaaDoor
namespace Ev
open Go
set_option linter.unusedVariables false
set_option linter.unusedSimpArgs false
def addZ (r p q : Int) : Int := if r = 1 ∨ r = 3 ∨ r = 4 then (if q < p then q else p) else if r = 2 then (if p ≠ 0 ∨ q ≠ 0 then 1 else 0) else p + q
def mulZ (r x y : Int) : Int :=
 if r = 1 then (if infI ≤ x ∨ infI ≤ y then infI else if infI < x + y then infI else x + y)
 else if r = 2 then (if x ≠ 0 ∧ y ≠ 0 then 1 else 0)
 else if r = 4 then (if infI ≤ x ∨ infI ≤ y then infI else y)
 else if r = 3 then (if infI ≤ x ∨ infI ≤ y then infI else x)
 else x * y
def okZ (r p : Int) : Prop := (r ≠ 5 → -36893488147419103232 ≤ p ∧ p ≤ infI) ∧ (r = 2 → p = 0 ∨ p = 1)
theorem okR_cases {r : Int} (h : okR r = true) : r = 1 ∨ r = 2 ∨ r = 3 ∨ r = 4 ∨ r = 5 := by
 unfold okR at h
 simp only [Bool.and_eq_true, decide_eq_true_eq] at h; omega
theorem toW_less {p q : Int} (hp : -36893488147419103232 ≤ p ∧ p ≤ infI) (hq : -36893488147419103232 ≤ q ∧ q ≤ infI) : lessW (toW p) (toW q) = decide (p < q) := by
 unfold infI at hp hq
 rw [Bool.eq_iff_iff, lessW_iff, decide_eq_true_eq]
 unfold toW
 simp only
 omega
theorem toW_zero (p : Int) (hp : -36893488147419103232 ≤ p ∧ p ≤ infI) : ((toW p).1 = 0 ∧ (toW p).2 = 0) ↔ p = 0 := by
 unfold infI at hp
 unfold toW
 simp only
 omega
theorem truth_toW (b : Bool) : truthW b = toW (if b = true then 1 else 0) := by cases b <;> rfl
theorem ringAdd_Z {r p q : Int} (hr : okR r = true) (hp : okZ r p) (hq : okZ r q) : ringAdd r (toW p) (toW q) = toW (addZ r p q) := by
 unfold ringAdd addZ
 rcases okR_cases hr with rfl | rfl | rfl | rfl | rfl
 ·have h1 := hp.1 (by decide); have h2 := hq.1 (by decide)
  rw [if_pos (by decide), if_pos (by decide)]
  unfold lessrW; rw [toW_less h2 h1]
  by_cases c : q < p
  ·rw [if_pos (by simpa using c), if_pos c]
  ·rw [if_neg (by simpa using c), if_neg c]
 ·have h1 := hp.1 (by decide); have h2 := hq.1 (by decide)
  rw [if_neg (by decide), if_pos rfl, if_neg (by decide), if_pos rfl, truth_toW]
  congr 1
  simp only [toW_zero p h1, toW_zero q h2]
  by_cases c1 : p = 0 <;> by_cases c2 : q = 0 <;> simp [c1, c2]
 ·have h1 := hp.1 (by decide); have h2 := hq.1 (by decide)
  rw [if_pos (by decide), if_pos (by decide)]
  unfold lessrW; rw [toW_less h2 h1]
  by_cases c : q < p
  ·rw [if_pos (by simpa using c), if_pos c]
  ·rw [if_neg (by simpa using c), if_neg c]
 ·have h1 := hp.1 (by decide); have h2 := hq.1 (by decide)
  rw [if_pos (by decide), if_pos (by decide)]
  unfold lessrW; rw [toW_less h2 h1]
  by_cases c : q < p
  ·rw [if_pos (by simpa using c), if_pos c]
  ·rw [if_neg (by simpa using c), if_neg c]
 ·rw [if_neg (by decide), if_neg (by decide), if_pos rfl, if_neg (by decide), if_neg (by decide), toW_add]
theorem okZ_add {r p q : Int} (hr : okR r = true) (hp : okZ r p) (hq : okZ r q) : okZ r (addZ r p q) := by
 unfold okZ addZ at *
 refine ⟨fun h => ?_, fun h => ?_⟩
 ·have h1 := hp.1 h; have h2 := hq.1 h
  split
  ·split <;> assumption
  ·split
   ·unfold infI; split <;> omega
   ·have := okR_cases hr
    omega
 ·subst h
  rw [if_neg (by decide), if_pos rfl]
  split <;> simp
theorem ringMul_Z {r x y : Int} (hr : okR r = true) (hx : i64r x) (hy : i64r y) : ringMul r x y = toW (mulZ r x y) ∧ okZ r (mulZ r x y) := by
 have hi : ofW infI = toW infI := ofW_toW inf_r
 unfold i64r at hx hy
 unfold ringMul mulZ
 rcases okR_cases hr with rfl | rfl | rfl | rfl | rfl
 ·rw [if_pos rfl, if_pos rfl]
  by_cases c : infI ≤ x ∨ infI ≤ y
  ·rw [if_pos c, if_pos c]; exact ⟨hi, fun _ => ⟨by unfold infI; omega, Int.le_refl _⟩, fun h => absurd h (by decide)⟩
  ·have hb : -36893488147419103232 ≤ x + y ∧ x + y ≤ 9223372036854775806 := by unfold infI at c; omega
   rw [if_neg c, if_neg c, hi]
   have hl : lessW (toW infI) (toW (x + y)) = decide (infI < x + y) := by
    rw [Bool.eq_iff_iff, lessW_iff, decide_eq_true_eq]
    unfold infI toW
    simp only
    omega
   unfold lessrW
   rw [hl]
   by_cases c2 : infI < x + y
   ·rw [if_pos (by simpa using c2), if_pos c2]; exact ⟨rfl, fun _ => ⟨by unfold infI; omega, Int.le_refl _⟩, fun h => absurd h (by decide)⟩
   ·rw [if_neg (by simpa using c2), if_neg c2]; exact ⟨rfl, fun _ => ⟨by omega, by omega⟩, fun h => absurd h (by decide)⟩
 ·rw [if_neg (by decide), if_pos rfl, if_neg (by decide), if_pos rfl, truth_toW]
  by_cases c1 : x = 0 <;> by_cases c2 : y = 0 <;> simp [c1, c2, okZ, infI]
 ·simp only [show ((3 : Int) = 1) = False from eq_false (by decide), show ((3 : Int) = 2) = False from eq_false (by decide), show ((3 : Int) = 4) = False from eq_false (by decide), if_false, if_true]
  by_cases c : infI ≤ x ∨ infI ≤ y
  ·rw [if_pos c, if_pos c]; exact ⟨hi, fun _ => ⟨by unfold infI; omega, Int.le_refl _⟩, fun h => absurd h (by decide)⟩
  ·rw [if_neg c, if_neg c]; exact ⟨ofW_toW hx, fun _ => ⟨by omega, by unfold infI at *; omega⟩, fun h => absurd h (by decide)⟩
 ·simp only [show ((4 : Int) = 1) = False from eq_false (by decide), show ((4 : Int) = 2) = False from eq_false (by decide), if_false, if_true]
  by_cases c : infI ≤ x ∨ infI ≤ y
  ·rw [if_pos c, if_pos c]; exact ⟨hi, fun _ => ⟨by unfold infI; omega, Int.le_refl _⟩, fun h => absurd h (by decide)⟩
  ·rw [if_neg c, if_neg c]; exact ⟨ofW_toW hy, fun _ => ⟨by omega, by unfold infI at *; omega⟩, fun h => absurd h (by decide)⟩
 ·simp only [show ((5 : Int) = 1) = False from eq_false (by decide), show ((5 : Int) = 2) = False from eq_false (by decide), show ((5 : Int) = 3) = False from eq_false (by decide), show ((5 : Int) = 4) = False from eq_false (by decide), if_false, if_true]
  exact ⟨trivial, fun h => absurd rfl h, fun h => absurd h (by decide)⟩
theorem addZ_fit {r x y u : Int} (hr : okR r = true) (hx : i64r x) (hy : i64r y) (h : fitO (ringAdd r (ofW x) (ofW y)) = some (some u)) : u = addZ r x y := by
 have hu : ofW u = ringAdd r (ofW x) (ofW y) ∧ i64r u := by
  unfold fitO at h
  split at h
  ·rename_i c
   have e : (narrowW (ringAdd r (ofW x) (ofW y))).1 = u := by simpa using h
   refine ⟨?_, by rw [← e]; exact narrow_r _⟩
   rw [← e]
   unfold narrowW at c ⊢
   split
   ·rename_i e2; exact e2.symm
   ·rename_i e2; rw [if_neg e2] at c; simp at c
  ·simp at h
 obtain ⟨h1, h2⟩ := hu
 rw [ofW_toW h2, ofW_toW hx, ofW_toW hy] at h1
 unfold i64r at hx hy h2
 have less : ∀ p q : Int, (-9223372036854775808 ≤ p ∧ p ≤ 9223372036854775807) → (-9223372036854775808 ≤ q ∧ q ≤ 9223372036854775807) → lessW (toW p) (toW q) = decide (p < q) := fun p q hp hq => by
  rw [Bool.eq_iff_iff, lessW_iff, decide_eq_true_eq]
  unfold toW
  simp only
  omega
 have inj : ∀ p q : Int, (-9223372036854775808 ≤ p ∧ p ≤ 9223372036854775807) → (-18446744073709551616 ≤ q ∧ q ≤ 18446744073709551616) → toW p = toW q → p = q := fun p q hp hq e => by
  unfold toW at e
  have e1 := congrArg Prod.fst e
  have e2 := congrArg Prod.snd e
  simp only at e1 e2
  omega
 unfold ringAdd at h1
 unfold addZ
 rcases okR_cases hr with rfl | rfl | rfl | rfl | rfl
 ·rw [if_pos (by decide)] at h1 ⊢
  unfold lessrW at h1; rw [less y x hy hx] at h1
  by_cases c : y < x
  ·rw [if_pos (by simpa using c)] at h1; rw [if_pos c]; exact inj _ _ h2 (by omega) h1
  ·rw [if_neg (by simpa using c)] at h1; rw [if_neg c]; exact inj _ _ h2 (by omega) h1
 ·rw [if_neg (by decide), if_pos rfl] at h1 ⊢
  rw [truth_toW] at h1
  have z : ∀ p : Int, (-9223372036854775808 ≤ p ∧ p ≤ 9223372036854775807) → (((toW p).1 = 0 ∧ (toW p).2 = 0) ↔ p = 0) := fun p hp => by unfold toW; simp only; omega
  simp only [z x hx, z y hy] at h1
  refine inj _ _ h2 (by split <;> omega) (h1.trans (congrArg toW ?_))
  by_cases c1 : x = 0 <;> by_cases c2 : y = 0 <;> simp [c1, c2]
 ·rw [if_pos (by decide)] at h1 ⊢
  unfold lessrW at h1; rw [less y x hy hx] at h1
  by_cases c : y < x
  ·rw [if_pos (by simpa using c)] at h1; rw [if_pos c]; exact inj _ _ h2 (by omega) h1
  ·rw [if_neg (by simpa using c)] at h1; rw [if_neg c]; exact inj _ _ h2 (by omega) h1
 ·rw [if_pos (by decide)] at h1 ⊢
  unfold lessrW at h1; rw [less y x hy hx] at h1
  by_cases c : y < x
  ·rw [if_pos (by simpa using c)] at h1; rw [if_pos c]; exact inj _ _ h2 (by omega) h1
  ·rw [if_neg (by simpa using c)] at h1; rw [if_neg c]; exact inj _ _ h2 (by omega) h1
 ·rw [if_neg (by decide), if_neg (by decide)] at h1 ⊢
  rw [if_pos rfl, toW_add] at h1
  exact inj _ _ h2 (by omega) h1
theorem mulZ_spread {r a x y : Int} (hr : okR r = true) : mulZ r a (addZ r x y) = addZ r (mulZ r a x) (mulZ r a y) := by
 unfold mulZ addZ
 rcases okR_cases hr with rfl | rfl | rfl | rfl | rfl
 ·simp only [true_or, if_true]
  by_cases c : y < x
  ·rw [if_pos c]
   by_cases h1 : infI ≤ a <;> by_cases h2 : infI ≤ x <;> by_cases h3 : infI ≤ y <;> simp only [h1, h2, h3, true_or, or_true, or_self, if_true, if_false, or_false, false_or] <;> (repeat' split) <;> omega
  ·rw [if_neg c]
   by_cases h1 : infI ≤ a <;> by_cases h2 : infI ≤ x <;> by_cases h3 : infI ≤ y <;> simp only [h1, h2, h3, true_or, or_true, or_self, if_true, if_false, or_false, false_or] <;> (repeat' split) <;> omega
 ·by_cases h1 : a = 0 <;> by_cases h2 : x = 0 <;> by_cases h3 : y = 0 <;> simp [h1, h2, h3]
 ·simp only [show ¬ ((3 : Int) = 1) by decide, show ¬ ((3 : Int) = 2) by decide, show ¬ ((3 : Int) = 4) by decide, true_or, or_true, false_or, if_true, if_false]
  by_cases c : y < x
  ·rw [if_pos c]
   by_cases h1 : infI ≤ a <;> by_cases h2 : infI ≤ x <;> by_cases h3 : infI ≤ y <;> simp only [h1, h2, h3, true_or, or_true, or_self, if_true, if_false, or_false, false_or] <;> (repeat' split) <;> omega
  ·rw [if_neg c]
   by_cases h1 : infI ≤ a <;> by_cases h2 : infI ≤ x <;> by_cases h3 : infI ≤ y <;> simp only [h1, h2, h3, true_or, or_true, or_self, if_true, if_false, or_false, false_or] <;> (repeat' split) <;> omega
 ·simp only [show ¬ ((4 : Int) = 1) by decide, show ¬ ((4 : Int) = 2) by decide, show ¬ ((4 : Int) = 3) by decide, true_or, or_true, false_or, if_true, if_false]
  by_cases c : y < x
  ·rw [if_pos c]
   by_cases h1 : infI ≤ a <;> by_cases h2 : infI ≤ x <;> by_cases h3 : infI ≤ y <;> simp only [h1, h2, h3, true_or, or_true, or_self, if_true, if_false, or_false, false_or] <;> (repeat' split) <;> omega
  ·rw [if_neg c]
   by_cases h1 : infI ≤ a <;> by_cases h2 : infI ≤ x <;> by_cases h3 : infI ≤ y <;> simp only [h1, h2, h3, true_or, or_true, or_self, if_true, if_false, or_false, false_or] <;> (repeat' split) <;> omega
 ·simp only [show ¬ ((5 : Int) = 1) by decide, show ¬ ((5 : Int) = 2) by decide, show ¬ ((5 : Int) = 3) by decide, show ¬ ((5 : Int) = 4) by decide, or_self, if_false]
  exact Int.mul_add a x y
theorem addZ_comm (r p q : Int) : addZ r p q = addZ r q p := by
 unfold addZ
 split
 ·split <;> split <;> omega
 ·split
  ·by_cases h1 : p = 0 <;> by_cases h2 : q = 0 <;> simp [h1, h2]
  ·omega
theorem addZ_assoc (r p q s : Int) : addZ r (addZ r p q) s = addZ r p (addZ r q s) := by
 unfold addZ
 by_cases c : r = 1 ∨ r = 3 ∨ r = 4
 ·simp only [if_pos c]
  (repeat' split) <;> omega
 ·simp only [if_neg c]
  by_cases c2 : r = 2
  ·simp only [if_pos c2]
   by_cases h1 : p = 0 <;> by_cases h2 : q = 0 <;> by_cases h3 : s = 0 <;> simp [h1, h2, h3]
  ·simp only [if_neg c2]; omega
def oZ (r : Int) : Option Int → Option Int → Option Int
 | none, b => b
 | some a, none => some a
 | some a, some b => some (addZ r a b)
theorem oZ_comm (r : Int) (a b : Option Int) : oZ r a b = oZ r b a := by
 cases a <;> cases b <;> simp [oZ, addZ_comm]
theorem oZ_assoc (r : Int) (a b c : Option Int) : oZ r (oZ r a b) c = oZ r a (oZ r b c) := by
 cases a <;> cases b <;> cases c <;> simp [oZ, addZ_assoc]
def rowZ (r : Int) (h : Int → Option Int) : List (Int × Int) → Option Int → Option Int
 | [], acc => acc
 | x :: l, acc => rowZ r h l (oZ r acc ((h x.1).map fun y => mulZ r x.2 y))
def okO (r : Int) (a : Option Int) : Prop := ∀ p, a = some p → okZ r p
theorem okO_add {r : Int} (hr : okR r = true) {a b : Option Int} (ha : okO r a) (hb : okO r b) : okO r (oZ r a b) := by
 cases a with
 | none => exact hb
 | some a =>
  cases b with
  | none => exact ha
  | some b =>
   intro p hp
   simp only [oZ, Option.some.injEq] at hp
   rw [← hp]; exact okZ_add hr (ha a rfl) (hb b rfl)
theorem rowSum_Z {r : Int} (hr : okR r = true) {h : Int → Option Int} (hh : ∀ k y, h k = some y → i64r y) : ∀ {L : List (Int × Int)} {acc : Option Int}, (∀ x ∈ L, i64r x.2) → okO r acc → rowSum r h L (acc.map toW) = (rowZ r h L acc).map toW ∧ okO r (rowZ r h L acc)
 | [], acc, _, ha => ⟨rfl, ha⟩
 | x :: L, acc, hL, ha => by
  have hx := hL x List.mem_cons_self
  have ho : okO r ((h x.1).map fun y => mulZ r x.2 y) := fun p hp => by
   obtain ⟨y, hy, rfl⟩ := Option.map_eq_some_iff.1 hp
   exact (ringMul_Z hr hx (hh _ _ hy)).2
  have e : stepS r h (acc.map toW) x = (oZ r acc ((h x.1).map fun y => mulZ r x.2 y)).map toW := by
   unfold stepS
   cases hy : h x.1 with
   | none => cases acc <;> rfl
   | some y =>
    have hm := ringMul_Z hr hx (hh _ _ hy)
    cases acc with
    | none => simp only [oZ, Option.map_some, Option.map_none, hm.1]
    | some a => simp only [oZ, Option.map_some, hm.1]; rw [ringAdd_Z hr (ha a rfl) hm.2]
  show rowSum r h L (stepS r h (acc.map toW) x) = _ ∧ _
  rw [e]
  exact rowSum_Z hr hh (fun y hy => hL y (List.mem_cons_of_mem _ hy)) (okO_add hr ha ho)
theorem rowZ_spread {r : Int} (hr : okR r = true) {h h1 h2 : Int → Option Int} (i1 : ∀ k y, h1 k = some y → i64r y) (i2 : ∀ k y, h2 k = some y → i64r y) (hu : ∀ p, fU r (h1 p) (h2 p) = some (h p)) : ∀ {L : List (Int × Int)} {a b : Option Int}, rowZ r h L (oZ r a b) = oZ r (rowZ r h1 L a) (rowZ r h2 L b)
 | [], a, b => rfl
 | x :: L, a, b => by
  have e : ((h x.1).map fun y => mulZ r x.2 y) = oZ r ((h1 x.1).map fun y => mulZ r x.2 y) ((h2 x.1).map fun y => mulZ r x.2 y) := by
   have := hu x.1
   cases g1 : h1 x.1 with
   | none =>
    cases g2 : h2 x.1 with
    | none => rw [g1, g2] at this; simp only [fU, Option.some.injEq] at this; rw [← this]; rfl
    | some y2 => rw [g1, g2] at this; simp only [fU, Option.some.injEq] at this; rw [← this]; rfl
   | some y1 =>
    cases g2 : h2 x.1 with
    | none => rw [g1, g2] at this; simp only [fU, Option.some.injEq] at this; rw [← this]; rfl
    | some y2 =>
     rw [g1, g2] at this
     have hf : fitO (ringAdd r (ofW y1) (ofW y2)) = some (h x.1) := this
     cases g : h x.1 with
     | none =>
      rw [g] at hf; unfold fitO at hf
      split at hf <;> simp at hf
     | some u =>
      rw [g] at hf
      rw [addZ_fit hr (i1 _ _ g1) (i2 _ _ g2) hf]
      simp only [Option.map_some, oZ, mulZ_spread hr]
  show rowZ r h L (oZ r (oZ r a b) _) = oZ r (rowZ r h1 L (oZ r a _)) (rowZ r h2 L (oZ r b _))
  rw [← rowZ_spread hr i1 i2 hu, e]
  congr 1
  generalize ((h1 x.1).map fun y => mulZ r x.2 y) = u
  generalize ((h2 x.1).map fun y => mulZ r x.2 y) = w
  rw [oZ_assoc, oZ_assoc, ← oZ_assoc r b u w, oZ_comm r b u, oZ_assoc]
def outO (r : Int) (w : Option Wd) : Option Int := match w with | none => none | some w => if (narrowW w).1 ≠ zeroR r then some (narrowW w).1 else none
theorem finL_app (r : Int) : ∀ (A B : List (Int × Wd)) (o : List It), finL r (A ++ B) o = (finL r A o).bind fun o => finL r B o
 | [], B, o => rfl
 | x :: A, B, o => by
  simp only [List.cons_append, finL]
  split
  ·split
   ·exact finL_app r A B _
   ·exact finL_app r A B _
  ·rfl
theorem fin_sums {r : Int} {h : Int → Option Int} {m : Mx} : ∀ {n : Nat} {out : List It}, finL r (sumsL r h m (askB [] true) n) [] = some out → out = gathR 0 n (fun i => outO r (rowSum r h (itemsM m i) none)) ∧ ∀ i, i < n → ∀ w, rowSum r h (itemsM m i) none = some w → (narrowW w).2 = true
 | 0, out, e => by
  simp only [sumsL, List.range_zero, List.filterMap_nil, finL, Option.some.injEq] at e
  exact ⟨e.symm, fun i hi => absurd hi (by omega)⟩
 | n + 1, out, e => by
  rw [sumsL_succ, finL_app, Option.bind_eq_some_iff] at e
  obtain ⟨o, e1, e2⟩ := e
  obtain ⟨g1, g2⟩ := fin_sums e1
  have hI : sumI r h m (askB [] true) n = (rowSum r h (itemsM m n) none).map fun w => ((n : Int), w) := by
   unfold sumI
   rw [if_pos (by unfold askB hasB; simp)]
  rw [hI] at e2
  rw [gathR_last, Nat.zero_add, ← g1]
  cases hw : rowSum r h (itemsM m n) none with
  | none =>
   rw [hw] at e2
   simp only [Option.map_none, Option.toList_none, finL, Option.some.injEq] at e2
   refine ⟨by rw [← e2]; simp [outO], fun i hi w hiw => ?_⟩
   by_cases c : i = n
   ·subst c; rw [hw] at hiw; simp at hiw
   ·exact g2 i (by omega) w hiw
  | some w0 =>
   rw [hw] at e2
   simp only [Option.map_some, Option.toList_some, finL] at e2
   split at e2
   ·rename_i c
    refine ⟨?_, fun i hi w hiw => ?_⟩
    ·simp only [outO]
     split at e2
     ·rename_i c2
      rw [if_pos c2]; simpa using e2.symm
     ·rename_i c2
      rw [if_neg c2]; simpa using e2.symm
    ·by_cases c1 : i = n
     ·subst c1; rw [hw] at hiw; obtain rfl := Option.some.inj hiw; exact c
     ·exact g2 i (by omega) w hiw
   ·simp at e2
theorem times_fine {r : Int} {m : Mx} {d : Dn} (hr : okR r = true) (hm : rightM m = true) (hd : rightD d = true) (hdm : d.1 = m.2.1) (h0 : (timesV r m d [] true).2 = 0) : ∃ out, (timesV r m d [] true).1 = (m.1, mo 2 out) ∧ out = gathR 0 m.1.toNat (fun i => outO r (rowSum r (denB d) (itemsM m i) none)) ∧ ∀ i, i < m.1.toNat → ∀ w, rowSum r (denB d) (itemsM m i) none = some w → (narrowW w).2 = true := by
 have e1 : sureD d = d := by unfold sureD; rw [if_pos hd]
 have e2 : sureM m = m := by unfold sureM; rw [if_pos hm]
 have e3 : sumsV r m d [] true = (mo 3 (sumsL r (denB d) m (askB [] true) m.1.toNat), 0) := by
  unfold sumsV
  rw [if_pos hr, e1, e2, if_pos hdm]
 unfold timesV at h0 ⊢
 rw [e3, e2] at h0 ⊢
 simp only [mo_l] at h0 ⊢
 rw [if_neg (by decide)] at h0 ⊢
 unfold doneV at h0 ⊢
 rw [if_pos hr] at h0 ⊢
 split at h0
 ·rename_i c1
  split at h0
  ·rename_i c2
   split at h0
   ·rename_i c3
    cases hf : finL r (sumsL r (denB d) m (askB [] true) m.1.toNat) [] with
    | none => rw [hf] at h0; simp at h0
    | some out =>
     rw [if_pos c1, if_pos c2, if_pos c3]
     obtain ⟨g1, g2⟩ := fin_sums hf
     exact ⟨out, rfl, g1, g2⟩
   ·simp at h0
  ·simp at h0
 ·simp at h0
theorem getI_filV (P : Int → Bool) {n p : Int} : ∀ {l : List It} {a : Int}, asc a n l = true → getI p (l.filter fun x => P x.2) = (getI p l).bind fun v => if P v = true then some v else none
 | [], a, h => rfl
 | x :: l, a, h => by
  simp only [asc, Bool.and_eq_true, decide_eq_true_eq] at h
  have ih := getI_filV P (p := p) h.2
  by_cases c : P x.2 = true
  ·rw [List.filter_cons_of_pos (by simpa using c)]
   simp only [getI]
   by_cases e : x.1 = p
   ·rw [if_pos e, if_pos e]; simp [c]
   ·rw [if_neg e, if_neg e, ih]
  ·rw [List.filter_cons_of_neg (by simpa using c), ih]
   simp only [getI]
   by_cases e : x.1 = p
   ·rw [if_pos e, getI_lt h.2 (by omega)]; simp [c]
   ·rw [if_neg e]
theorem asc_filt (p : It → Bool) {n : Int} : ∀ {l : List It} {a : Int}, asc a n l = true → asc a n (l.filter p) = true
 | [], a, h => rfl
 | x :: l, a, h => by
  simp only [asc, Bool.and_eq_true, decide_eq_true_eq] at h
  have ih := asc_filt p h.2
  by_cases c : p x = true
  ·rw [List.filter_cons_of_pos c]; simp only [asc, Bool.and_eq_true, decide_eq_true_eq]; exact ⟨h.1, ih⟩
  ·rw [List.filter_cons_of_neg c]; exact asc_low (by omega) ih
theorem narrow_toW {p v : Int} (h : (narrowW (toW p)).2 = true) (e : (narrowW (toW p)).1 = v) : toW p = ofW v ∧ i64r v := by
 unfold narrowW at h e
 split at h
 ·rename_i c
  rw [if_pos c] at e
  exact ⟨by rw [← e]; exact c, by rw [← e]; exact i64_wrap _⟩
 ·simp at h
theorem zero_unit {r p : Int} (hr : okR r = true) (hp : okZ r p) : addZ r (zeroR r) p = p := by
 unfold addZ zeroR
 rcases okR_cases hr with rfl | rfl | rfl | rfl | rfl
 ·have := hp.1 (by decide); unfold infI at this; simp; omega
 ·have := hp.2 rfl; rcases this with rfl | rfl <;> simp
 ·have := hp.1 (by decide); unfold infI at this; simp; omega
 ·have := hp.1 (by decide); unfold infI at this; simp; omega
 ·simp
theorem okZ_zero {r : Int} (hr : okR r = true) : okZ r (zeroR r) := by
 unfold okZ zeroR infI
 rcases okR_cases hr with rfl | rfl | rfl | rfl | rfl <;> simp
theorem place_one {r : Int} (hr : okR r = true) {s t : Option Int} (hs : okO r s) (ht : okO r t) (f1 : ∀ w, s.map toW = some w → (narrowW w).2 = true) (f2 : ∀ w, t.map toW = some w → (narrowW w).2 = true) {d : Option Int} (hd : fU r (outO r (s.map toW)) (outO r (t.map toW)) = some d) : outO r ((oZ r s t).map toW) = d.bind fun v => if (!decide (v = zeroR r)) = true then some v else none := by
 have one : ∀ (s : Option Int), (outO r (s.map toW)).bind (fun v => if (!decide (v = zeroR r)) = true then some v else none) = outO r (s.map toW) := fun s => by
  cases s with
  | none => rfl
  | some p =>
   simp only [Option.map_some, outO]
   by_cases c : (narrowW (toW p)).1 ≠ zeroR r
   ·rw [if_pos c]; simp [c]
   ·rw [if_neg c]; rfl
 cases s with
 | none =>
  have e : d = outO r (t.map toW) := by
   cases ho : outO r (t.map toW) with
   | none => rw [ho] at hd; simpa [outO, fU] using hd.symm
   | some y => rw [ho] at hd; simpa [outO, fU] using hd.symm
  rw [e, one]; rfl
 | some p =>
  cases t with
  | none =>
   have e : d = outO r ((some p).map toW) := by
    have : outO r ((none : Option Int).map toW) = none := rfl
    rw [this] at hd
    cases ho : outO r ((some p).map toW) with
    | none => rw [ho] at hd; simpa [fU] using hd.symm
    | some y => rw [ho] at hd; simpa [fU] using hd.symm
   rw [e, one]; rfl
  | some q =>
   have hp := hs p rfl
   have hq := ht q rfl
   obtain ⟨p1, p2⟩ := narrow_toW (f1 _ rfl) rfl
   obtain ⟨q1, q2⟩ := narrow_toW (f2 _ rfl) rfl
   have hadd := ringAdd_Z hr hp hq
   simp only [oZ, Option.map_some, outO] at hd ⊢
   generalize (narrowW (toW p)).1 = v1 at *
   generalize (narrowW (toW q)).1 = v2 at *
   by_cases c1 : v1 = zeroR r
   ·rw [if_neg (fun h => h c1)] at hd
    have ez : toW (addZ r p q) = toW q := by
     rw [← hadd, p1, c1, ofW_toW (zeroR_r r), ringAdd_Z hr (okZ_zero hr) hq, zero_unit hr hq]
    rw [ez, q1, narrow_of q2]
    by_cases c2 : v2 = zeroR r
    ·rw [if_neg (fun h => h c2)] at hd
     simp only [fU, Option.some.injEq] at hd
     rw [← hd, if_neg (fun h => h c2)]; rfl
    ·rw [if_pos c2] at hd
     simp only [fU, Option.some.injEq] at hd
     rw [← hd, if_pos c2]; simp [c2]
   ·rw [if_pos c1] at hd
    by_cases c2 : v2 = zeroR r
    ·rw [if_neg (fun h => h c2)] at hd
     simp only [fU, Option.some.injEq] at hd
     have ez : toW (addZ r p q) = toW p := by
      rw [addZ_comm, ← ringAdd_Z hr hq hp, q1, c2, ofW_toW (zeroR_r r), ringAdd_Z hr (okZ_zero hr) hp, zero_unit hr hp]
     rw [ez, p1, narrow_of p2, ← hd, if_pos c1]; simp [c1]
    ·rw [if_pos c2] at hd
     have hd' : fitO (ringAdd r (ofW v1) (ofW v2)) = some d := hd
     rw [← p1, ← q1, hadd] at hd'
     unfold fitO at hd'
     split at hd'
     ·simp only [Option.some.injEq] at hd'
      rw [← hd']
      by_cases c3 : (narrowW (toW (addZ r p q))).1 = zeroR r
      ·rw [if_neg (fun h => h c3)]; simp [c3]
      ·rw [if_pos c3]; simp [c3]
     ·simp at hd'
theorem law13_PullSpreads_true (t : Tk) (ht : inK .i64 t.1 ∧ (inK .u8 t.2.1.1 ∧ inK .u8 t.2.1.2) ∧ SlW 3 (fun x : E3 => inK .i64 x.1 ∧ inK .i64 x.2.1 ∧ inK .i64 x.2.2) t.2.2.1 ∧ SlW 2 (fun x : It => inK .i64 x.1 ∧ inK .i64 x.2) t.2.2.2.1 ∧ SlW 2 (fun x : It => inK .i64 x.1 ∧ inK .i64 x.2) t.2.2.2.2.1 ∧ SlW 1 (fun x => inK .u64 x) t.2.2.2.2.2.1 ∧ True) : law13_PullSpreads t = some true := by
 have OT := okT_of ht
 obtain ⟨m, e1, o1, m1, m2, m3⟩ := task_m t OT
 obtain ⟨x, e2, o2, _⟩ := task_vec t OT t.2.2.2.1 OT.x OT.xl OT.xv
 obtain ⟨y, e3, o3, _⟩ := task_vec t OT t.2.2.2.2.1 OT.y OT.yl OT.yv
 have hr := rightR_ok t.1
 have e0 := law13_Right_eq t.1
 have hk : m.2.1 = size40 t.2.1.2 := m3
 generalize hkk : size40 t.2.1.2 = k at *
 generalize hrr : rightR t.1 = r at *
 have hz := right_size o2.1
 -- what both vectors come to
 have e4 := ref11_Union_eq r (k, x) (k, y) o2.2.1 o3.2.1 o2.lenS o3.lenS
 rw [if_pos hr] at e4
 have hsp := mrg_SpecR (f := fU r) rfl (good_asc o2) (good_asc o3)
 have gi : ∀ {u : Sl It}, GoodV (k, u) → ∀ p v, getI p u.l = some v → i64r v := fun {u} hu p v hv => hu.2.2 _ (getI_some hv)
 obtain ⟨z, hzc⟩ : ∃ z, z = blendV (fU r) (k, x) (k, y) := ⟨_, rfl⟩
 have hzz : GoodV z.1 ∧ (z.2 = 0 → z.1.1 = k ∧ ∀ p, fU r (getI p x.l) (getI p y.l) = some (getI p z.1.2.l)) := by
  rw [hzc, blendV_good o2 o3 rfl]
  cases hq : mrg (fU r) x.l y.l with
  | none => exact ⟨good_nil, fun h => by simp at h⟩
  | some u =>
   obtain ⟨ha, hg⟩ := hsp.2 u hq
   refine ⟨good_mo hz.1 hz.2 ha (vals_of ha fun p v hv => ?_), fun _ => ⟨rfl, fun p => by simp only [mo_l]; exact hg p⟩⟩
   have e := hg p
   rw [hv] at e
   cases hx : getI p x.l with
   | none =>
    cases hw : getI p y.l with
    | none => rw [hx, hw] at e; simp [fU] at e
    | some w => rw [hx, hw] at e; simp only [fU, Option.some.injEq] at e; rw [← e]; exact gi o3 p w hw
   | some w1 =>
    cases hw : getI p y.l with
    | none => rw [hx, hw] at e; simp only [fU, Option.some.injEq] at e; rw [← e]; exact gi o2 p w1 hx
    | some w2 =>
     rw [hx, hw] at e
     have e' : fitO (ringAdd r (ofW w1) (ofW w2)) = some (some v) := e
     unfold fitO at e'
     split at e'
     ·simp only [Option.some.injEq] at e'; rw [← e']; exact narrow_r _
     ·simp at e'
 rw [← hzc] at e4
 obtain ⟨⟨⟨zn, zs⟩, ze⟩, hz2⟩ : ∃ q, q = z := ⟨z, rfl⟩
 rw [← hz2] at e4 hzz
 clear hzc hz2
 obtain ⟨oz, hu⟩ := hzz
 simp only at oz hu
 obtain ⟨d1, e5, k1, k2, k3, k4⟩ := ref10_Of_eq o2
 obtain ⟨d2, e6, k5, k6, k7, k8⟩ := ref10_Of_eq o3
 obtain ⟨d3, e7, k9, k10, k11, k12⟩ := ref10_Of_eq oz
 have nilok : okS 1 (⟨false, 0, []⟩ : Sl Int) := .inl rfl
 have nilu : u64s (⟨false, 0, []⟩ : Sl Int).l := fun w hw => by simp at hw
 have f1 := pull_Times_eq (r := r) o1 k1 nilok nilu true
 have f2 := pull_Times_eq (r := r) o1 k5 nilok nilu true
 have f3 := pull_Times_eq (r := r) o1 k9 nilok nilu true
 have t1 := timesV_ok r m d1 [] true
 have t2 := timesV_ok r m d2 [] true
 have t3 := timesV_ok r m d3 [] true
 have f4 := ref11_Union_eq r (timesV r m d1 [] true).1 (timesV r m d2 [] true).1 t1.1 t2.1 (by omega) (by omega)
 rw [if_pos hr] at f4
 have hZ := ref02_Zero_eq r
 simp only at f1 f2 f3
 have main : ze = 0 → (timesV r m d1 [] true).2 = 0 → (timesV r m d2 [] true).2 = 0 → (timesV r m d3 [] true).2 = 0 → (blendV (fU r) (timesV r m d1 [] true).1 (timesV r m d2 [] true).1).2 = 0 → ∃ w, ref12_Where (blendV (fU r) (timesV r m d1 [] true).1 (timesV r m d2 [] true).1).1 4 (zeroR r) = some w ∧ ref09_Same (timesV r m d3 [] true).1 w = some true := by
  intro g0 g1 g2 g3 g4
  obtain ⟨hzn, hU⟩ := hu g0
  obtain ⟨a, a1, a2, a3⟩ := times_fine hr m1 k2 (by rw [k3, hk]) g1
  obtain ⟨b, b1, b2, b3⟩ := times_fine hr m1 k6 (by rw [k7, hk]) g2
  obtain ⟨c, c1, c2, c3⟩ := times_fine hr m1 k10 (by rw [k11, hzn, hk]) g3
  rw [a1, b1] at g4 ⊢
  rw [c1]
  have hn : 0 ≤ m.1 ∧ m.1 ≤ 4096 := by
   obtain ⟨r1, _⟩ := rightM_spec m1
   exact r1
  have asq : ∀ F, asc (-1) m.1 (gathR 0 m.1.toNat F) = true := fun F => gathR_asc 0 _ F (-1) m.1 (by omega) (by omega)
  have iv : ∀ h, ∀ q ∈ gathR 0 m.1.toNat (fun i => outO r (rowSum r h (itemsM m i) none)), i64r q.2 := fun h => vals_of (asq _) fun p v hv => by
   have hp : 0 ≤ p ∧ p < m.1 := by
    refine ⟨Int.not_lt.1 fun hl => ?_, Int.not_le.1 fun hl => ?_⟩
    ·rw [getI_lt (asq _) (by omega)] at hv; simp at hv
    ·rw [getI_ge (asq _) hl] at hv; simp at hv
   obtain ⟨i, rfl⟩ := Int.eq_ofNat_of_zero_le hp.1
   rw [getI_gath 0 _ _ i (by omega) (by omega)] at hv
   unfold outO at hv
   split at hv
   ·simp at hv
   ·split at hv
    ·simp only [Option.some.injEq] at hv; rw [← hv]; exact narrow_r _
    ·simp at hv
  have ga : GoodV (m.1, mo 2 a) := good_mo hn.1 hn.2 (by rw [a2]; exact asq _) (by rw [a2]; exact iv _)
  have gb : GoodV (m.1, mo 2 b) := good_mo hn.1 hn.2 (by rw [b2]; exact asq _) (by rw [b2]; exact iv _)
  have gc : GoodV (m.1, mo 2 c) := good_mo hn.1 hn.2 (by rw [c2]; exact asq _) (by rw [c2]; exact iv _)
  rw [blendV_good ga gb rfl] at g4 ⊢
  simp only [mo_l] at g4 ⊢
  have hs2 := mrg_SpecR (f := fU r) rfl (show asc (-1) m.1 a = true by rw [a2]; exact asq _) (show asc (-1) m.1 b = true by rw [b2]; exact asq _)
  cases hq : mrg (fU r) a b with
  | none => rw [hq] at g4; simp at g4
  | some u =>
   obtain ⟨ua, ug⟩ := hs2.2 u hq
   simp only
   have hul : u.length ≤ 4096 := by
    have := asc_len ua; omega
   refine ⟨_, ref12_Where_eq (m.1, mo 2 u) 4 (zeroR r) (ok_mo _) (by simp only [mo_l]; omega), ?_⟩
   have hub : rightB (m.1, mo 2 u) = true := by
    unfold rightB sizeB
    simp only [mo_l, Bool.and_eq_true, decide_eq_true_eq]
    exact ⟨hn, ua⟩
   unfold whereV
   rw [sure_id hub]
   refine same_list (ok_mo _) (ok_mo _) rfl ?_ (by simp only [mo_l]; have := asc_len (show asc (-1) m.1 c = true by rw [c2]; exact asq _); omega)
   simp only [mo_l]
   have hP : (fun q : It => holdsB 4 q.2 (zeroR r)) = fun q : It => (fun v : Int => !decide (v = zeroR r)) q.2 := by
    funext q; simp [holdsB]
   rw [hP]
   refine asc_ext hn.1 (by rw [c2]; exact asq _) (asc_filt _ ua) fun i => ?_
   rw [getI_filV (fun v : Int => !decide (v = zeroR r)) ua]
   by_cases hi : i < m.1.toNat
   ·have hd := ug (i : Int)
    rw [a2, b2, getI_gath 0 _ _ i (by omega) (by omega), getI_gath 0 _ _ i (by omega) (by omega)] at hd
    rw [c2, getI_gath 0 _ _ i (by omega) (by omega)]
    have hd1 : denB d1 = fun p => getI p x.l := funext k4
    have hd2 : denB d2 = fun p => getI p y.l := funext k8
    have hd3 : denB d3 = fun p => getI p zs.l := funext k12
    have i64m := items_v64 o1 i
    have s1 := rowSum_Z hr (h := denB d1) (fun q v hv => denB_i64 k1 hv) (L := itemsM m i) (acc := none) i64m (fun _ h => by simp at h)
    have s2 := rowSum_Z hr (h := denB d2) (fun q v hv => denB_i64 k5 hv) (L := itemsM m i) (acc := none) i64m (fun _ h => by simp at h)
    have s3 := rowSum_Z hr (h := denB d3) (fun q v hv => denB_i64 k9 hv) (L := itemsM m i) (acc := none) i64m (fun _ h => by simp at h)
    have sp := rowZ_spread hr (h := denB d3) (h1 := denB d1) (h2 := denB d2) (fun q v hv => denB_i64 k1 hv) (fun q v hv => denB_i64 k5 hv) (fun p => by rw [hd1, hd2, hd3]; exact hU p) (L := itemsM m i) (a := none) (b := none)
    have q1 : rowSum r (denB d1) (itemsM m i) none = _ := s1.1
    have q2 : rowSum r (denB d2) (itemsM m i) none = _ := s2.1
    have q3 : rowSum r (denB d3) (itemsM m i) none = _ := s3.1
    rw [q1, q2] at hd
    rw [q3, show rowZ r (denB d3) (itemsM m i) none = _ from sp]
    exact place_one hr s1.2 s2.2 (fun w hw => a3 i hi w (q1.trans hw)) (fun w hw => b3 i hi w (q2.trans hw)) hd
   ·rw [getI_ge (show asc (-1) m.1 c = true by rw [c2]; exact asq _) (by omega), getI_ge ua (by omega)]; rfl
 clear hsp hu
 obtain ⟨r0, ⟨n1, n2⟩, s4, x0, y0, g, o⟩ := t
 simp only at e0 e1 e2 e3 hkk hrr
 obtain ⟨M1, M2, M3, M4, M5⟩ := m
 obtain ⟨D1, D2, D3⟩ := d1
 obtain ⟨E1, E2, E3⟩ := d2
 obtain ⟨F1, F2, F3⟩ := d3
 generalize hT1 : timesV r (M1, M2, M3, M4, M5) (D1, D2, D3) [] true = T1 at *
 generalize hT2 : timesV r (M1, M2, M3, M4, M5) (E1, E2, E3) [] true = T2 at *
 generalize hT3 : timesV r (M1, M2, M3, M4, M5) (F1, F2, F3) [] true = T3 at *
 obtain ⟨⟨T11, T12⟩, T13⟩ := T1
 obtain ⟨⟨T21, T22⟩, T23⟩ := T2
 obtain ⟨⟨T31, T32⟩, T33⟩ := T3
 simp only at f4 main
 generalize hB : blendV (fU r) (T11, T12) (T21, T22) = B at *
 obtain ⟨⟨B1, B2⟩, B3⟩ := B
 simp only at main
 unfold law13_PullSpreads
 simp only [e0, e1, e2, e3, e4, e5, e6, e7, f1, f2, f3, f4, FL_eq3, Option.bind_some]
 by_cases g0 : ze = 0
 ·rw [if_neg (fun h => h g0)]
  by_cases g1 : T13 = 0
  ·rw [if_neg (fun h => h g1)]
   by_cases g2 : T23 = 0
   ·rw [if_neg (fun h => h g2)]
    by_cases g3 : T33 = 0
    ·rw [if_neg (fun h => h g3)]
     by_cases g4 : B3 = 0
     ·rw [if_neg (fun h => h g4)]
      obtain ⟨⟨w1, w2⟩, h1, h2⟩ := main g0 g1 g2 g3 g4
      simp only [hZ, h1, h2, Option.bind_some, if_true]
     ·rw [if_pos g4]
    ·rw [if_pos g3]
   ·rw [if_pos g2]
  ·rw [if_pos g1]
 ·rw [if_pos g0]
end Ev
end Go.Proofs.YtnikcjnkcjondaaDoor
end
section
namespace Go.Proofs.YtnikcjnkcjondaaDoor
namespace Ev
open Go
set_option linter.unusedVariables false
set_option linter.unusedSimpArgs false
set_option maxRecDepth 100000
set_option maxHeartbeats 1000000
attribute [local irreducible] OpsL StL TnL WpL EndL
theorem op22 {ts : List T} (h : Typ Tryd.prog 22 ts) : ∃ x : Int, ts = [iT .i64 x] ∧ inK .i64 x := typ_int (by kernel_rfl) h
def W22 (x : Int) : Prop := inK .i64 x
theorem op5 {ts : List T} (h : Typ Tryd.prog 5 ts) : ∃ x : Int, ts = [iT .u8 x] ∧ inK .u8 x := typ_int (by kernel_rfl) h
def W5 (x : Int) : Prop := inK .u8 x
def W23 (x : Int × Int) : Prop := W5 x.1 ∧ W5 x.2
theorem op23 {ts : List T} (h : Typ Tryd.prog 23 ts) : ∃ x : Int × Int, ts = r23 x ∧ W23 x := by
 obtain ⟨tss, rfl, hl, hf⟩ := typ_array (n := 2) (e := 5) (by kernel_rfl) h
 match tss, hl with
 | [t0, t1], _ =>
  obtain ⟨x0, rfl, w0⟩ := op5 (hf t0 (by simp))
  obtain ⟨x1, rfl, w1⟩ := op5 (hf t1 (by simp))
  exact ⟨(x0, x1), rfl, ⟨w0, w1⟩⟩
theorem op3 {ts : List T} (h : Typ Tryd.prog 3 ts) : ∃ x : Int, ts = [iT .i64 x] ∧ inK .i64 x := typ_int (by kernel_rfl) h
def W3 (x : Int) : Prop := inK .i64 x
theorem op2 {ts : List T} (h : Typ Tryd.prog 2 ts) : ∃ x : Int, ts = [iT .i64 x] ∧ inK .i64 x := typ_int (by kernel_rfl) h
def W2 (x : Int) : Prop := inK .i64 x
def W77 (x : Int × Int × Int) : Prop := W3 x.1 ∧ W3 x.2.1 ∧ W2 x.2.2
theorem op77 {ts : List T} (h : Typ Tryd.prog 77 ts) : ∃ x : Int × Int × Int, ts = r76 x ∧ W77 x := by
 obtain ⟨tss, rfl, hl, hf⟩ := typ_struct (fs := flds Tryd.prog 76) (by kernel_rfl) h
 rw [show (flds Tryd.prog 76).toList = [fld Tryd.prog 76 0, fld Tryd.prog 76 1, fld Tryd.prog 76 2] by kernel_rfl] at hl hf
 match tss, hl with
 | [t0, t1, t2], _ =>
  have g0 : Typ Tryd.prog 3 t0 := by have := hf 0 _ _ rfl rfl; rwa [show (fld Tryd.prog 76 0).type = 3 by kernel_rfl] at this
  obtain ⟨x0, rfl, w0⟩ := op3 g0
  have g1 : Typ Tryd.prog 3 t1 := by have := hf 1 _ _ rfl rfl; rwa [show (fld Tryd.prog 76 1).type = 3 by kernel_rfl] at this
  obtain ⟨x1, rfl, w1⟩ := op3 g1
  have g2 : Typ Tryd.prog 2 t2 := by have := hf 2 _ _ rfl rfl; rwa [show (fld Tryd.prog 76 2).type = 2 by kernel_rfl] at this
  obtain ⟨x2, rfl, w2⟩ := op2 g2
  exact ⟨(x0, x1, x2), rfl, ⟨w0, w1, w2⟩⟩
def W24 (x : Sl (Int × Int × Int)) : Prop := SlW 3 W77 x
theorem op24 {ts : List T} (h : Typ Tryd.prog 24 ts) : ∃ x : Sl (Int × Int × Int), ts = [Sl.t r76 x] ∧ W24 x := typ_slice (r := r76) (Q := W77) (w := 3) (by kernel_rfl) (by kernel_rfl) (fun ts h => op77 h) h
def W58 (x : Int × Int) : Prop := W3 x.1 ∧ W2 x.2
theorem op58 {ts : List T} (h : Typ Tryd.prog 58 ts) : ∃ x : Int × Int, ts = r57 x ∧ W58 x := by
 obtain ⟨tss, rfl, hl, hf⟩ := typ_struct (fs := flds Tryd.prog 57) (by kernel_rfl) h
 rw [show (flds Tryd.prog 57).toList = [fld Tryd.prog 57 0, fld Tryd.prog 57 1] by kernel_rfl] at hl hf
 match tss, hl with
 | [t0, t1], _ =>
  have g0 : Typ Tryd.prog 3 t0 := by have := hf 0 _ _ rfl rfl; rwa [show (fld Tryd.prog 57 0).type = 3 by kernel_rfl] at this
  obtain ⟨x0, rfl, w0⟩ := op3 g0
  have g1 : Typ Tryd.prog 2 t1 := by have := hf 1 _ _ rfl rfl; rwa [show (fld Tryd.prog 57 1).type = 2 by kernel_rfl] at this
  obtain ⟨x1, rfl, w1⟩ := op2 g1
  exact ⟨(x0, x1), rfl, ⟨w0, w1⟩⟩
def W25 (x : Sl (Int × Int)) : Prop := SlW 2 W58 x
theorem op25 {ts : List T} (h : Typ Tryd.prog 25 ts) : ∃ x : Sl (Int × Int), ts = [Sl.t r57 x] ∧ W25 x := typ_slice (r := r57) (Q := W58) (w := 2) (by kernel_rfl) (by kernel_rfl) (fun ts h => op58 h) h
theorem op62 {ts : List T} (h : Typ Tryd.prog 62 ts) : ∃ x : Int, ts = [iT .u64 x] ∧ inK .u64 x := typ_int (by kernel_rfl) h
def W62 (x : Int) : Prop := inK .u64 x
def W26 (x : Sl (Int)) : Prop := SlW 1 W62 x
theorem op26 {ts : List T} (h : Typ Tryd.prog 26 ts) : ∃ x : Sl (Int), ts = [Sl.t r62 x] ∧ W26 x := typ_slice (r := r62) (Q := W62) (w := 1) (by kernel_rfl) (by kernel_rfl) (fun ts h => op62 h) h
theorem op4 {ts : List T} (h : Typ Tryd.prog 4 ts) : ∃ x : Bool, ts = [bT x] ∧ True := typ_bool (by kernel_rfl) h
def W4 (x : Bool) : Prop := True
def W28 (x : Int × (Int × Int) × (Sl (Int × Int × Int)) × (Sl (Int × Int)) × (Sl (Int × Int)) × Sl (Int) × Bool) : Prop := W22 x.1 ∧ W23 x.2.1 ∧ W24 x.2.2.1 ∧ W25 x.2.2.2.1 ∧ W25 x.2.2.2.2.1 ∧ W26 x.2.2.2.2.2.1 ∧ W4 x.2.2.2.2.2.2
theorem op28 {ts : List T} (h : Typ Tryd.prog 28 ts) : ∃ x : Int × (Int × Int) × (Sl (Int × Int × Int)) × (Sl (Int × Int)) × (Sl (Int × Int)) × Sl (Int) × Bool, ts = r27 x ∧ W28 x := by
 obtain ⟨tss, rfl, hl, hf⟩ := typ_struct (fs := flds Tryd.prog 27) (by kernel_rfl) h
 rw [show (flds Tryd.prog 27).toList = [fld Tryd.prog 27 0, fld Tryd.prog 27 1, fld Tryd.prog 27 2, fld Tryd.prog 27 3, fld Tryd.prog 27 4, fld Tryd.prog 27 5, fld Tryd.prog 27 6] by kernel_rfl] at hl hf
 match tss, hl with
 | [t0, t1, t2, t3, t4, t5, t6], _ =>
  have g0 : Typ Tryd.prog 22 t0 := by have := hf 0 _ _ rfl rfl; rwa [show (fld Tryd.prog 27 0).type = 22 by kernel_rfl] at this
  obtain ⟨x0, rfl, w0⟩ := op22 g0
  have g1 : Typ Tryd.prog 23 t1 := by have := hf 1 _ _ rfl rfl; rwa [show (fld Tryd.prog 27 1).type = 23 by kernel_rfl] at this
  obtain ⟨x1, rfl, w1⟩ := op23 g1
  have g2 : Typ Tryd.prog 24 t2 := by have := hf 2 _ _ rfl rfl; rwa [show (fld Tryd.prog 27 2).type = 24 by kernel_rfl] at this
  obtain ⟨x2, rfl, w2⟩ := op24 g2
  have g3 : Typ Tryd.prog 25 t3 := by have := hf 3 _ _ rfl rfl; rwa [show (fld Tryd.prog 27 3).type = 25 by kernel_rfl] at this
  obtain ⟨x3, rfl, w3⟩ := op25 g3
  have g4 : Typ Tryd.prog 25 t4 := by have := hf 4 _ _ rfl rfl; rwa [show (fld Tryd.prog 27 4).type = 25 by kernel_rfl] at this
  obtain ⟨x4, rfl, w4⟩ := op25 g4
  have g5 : Typ Tryd.prog 26 t5 := by have := hf 5 _ _ rfl rfl; rwa [show (fld Tryd.prog 27 5).type = 26 by kernel_rfl] at this
  obtain ⟨x5, rfl, w5⟩ := op26 g5
  have g6 : Typ Tryd.prog 4 t6 := by have := hf 6 _ _ rfl rfl; rwa [show (fld Tryd.prog 27 6).type = 4 by kernel_rfl] at this
  obtain ⟨x6, rfl, w6⟩ := op4 g6
  exact ⟨(x0, x1, x2, x3, x4, x5, x6), rfl, ⟨w0, w1, w2, w3, w4, w5, w6⟩⟩
end Ev
end Go.Proofs.YtnikcjnkcjondaaDoor
end
