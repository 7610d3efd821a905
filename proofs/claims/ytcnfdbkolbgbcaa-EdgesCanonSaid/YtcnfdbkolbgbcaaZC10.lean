/- Texts of a claim, joined. -/
import Derived.Test.YtcnfdbkolbgbcaaZC9
import Derived.Test.YtcnfdbkolbgbcaaZC8
import Derived.Shelf.SlSortCmp.WholeK
import Derived.Laws.AppendOwnNone
import Derived.Test.YtcnfdbkolbgbcaaProg
set_option linter.unusedVariables false
set_option linter.unusedSimpArgs false
section
namespace Go.Proofs.Ytcnfdbkolbgbcaa
namespace Ev
open Go Go.RowKit
set_option linter.unusedVariables false
set_option maxRecDepth 100000
set_option maxHeartbeats 1000000
theorem wide_Of_eq (x : Int) : wide_Of x = (shr1 IntKind.i64 x 63).bind fun (z : Int) => some (z, IntKind.u64.wrap x) := by kernel_rfl
theorem wide_Compare_eq (x : Int × Int) (y : Int × Int) : wide_Compare x y = if x.fst = y.fst ∧ x.snd = y.snd then some 0
else if x.fst < y.fst then some (-1) else if x.fst = y.fst then if x.snd < y.snd then some (-1) else some 1 else some 1 := by kernel_rfl
theorem ring_lesser_eq (x : Int × Int) (y : Int × Int) : ring_lesser x y = (wide_Compare y x).bind fun (out : Int) => if out < 0 then some y else some x := by kernel_rfl
theorem ring_truth_eq (x : Bool) : ring_truth x = if x = true then (wide_Of 1).bind fun (out : Int × Int) => some out else some (0, 0) := by kernel_rfl
noncomputable def wide_Add_j1 (x : Int × Int) (y : Int × Int) : Int → Int → Option (Int × Int) := fun (d d_1 : Int) => some (IntKind.i64.wrap (d + d_1), IntKind.u64.wrap (x.snd + y.snd))
theorem wide_Add_eq (x : Int × Int) (y : Int × Int) : wide_Add x y = if IntKind.u64.wrap (x.snd + y.snd) < x.snd then wide_Add_j1 x y (IntKind.i64.wrap (x.fst + y.fst)) 1
else wide_Add_j1 x y x.fst y.fst := by kernel_rfl
theorem ring_Add_eq (x : Int) (y : Int × Int) (z : Int × Int) : ring_Add x y z = (if x = 1 then some (Sum.inl true) else if x = 3 then some (Sum.inl true) else some (Sum.inl (decide (x = 4)))).bind fun (y_1 : Bool ⊕ Empty) => Sum.elim (fun (val : Bool) => if val = true then (ring_lesser y z).bind fun (out : Int × Int) => some out else if x = 2 then if ¬(y.fst = 0 ∧ y.snd = 0) then (ring_truth true).bind fun (out : Int × Int) => some out else (ring_truth (decide ¬(z.fst = 0 ∧ z.snd = 0))).bind fun (out : Int × Int) => some out else if x = 5 then (wide_Add y z).bind fun (out : Int × Int) => some out else some (0, 0)) (fun (val : Empty) => nE val) y_1 := by kernel_rfl
theorem wide_Narrow_eq (x : Int × Int) : wide_Narrow x = (wide_Of (IntKind.i64.wrap x.snd)).bind fun (out : Int × Int) => if ¬(x.fst = out.fst ∧ x.snd = out.snd) then some (0, false) else some (IntKind.i64.wrap x.snd, true) := by kernel_rfl
theorem ring_Narrow_eq (x : Int) (y : Int × Int) : ring_Narrow x y = (wide_Narrow y).bind fun (out : Int × Bool) => some (out.fst, decide (out.snd = true)) := by kernel_rfl
noncomputable def cmp_Or_int_b1 (x : Sl Int) : Int → Option (Int ⊕ PUnit ⊕ Int ⊕ Empty) := fun (x_1 : Int) => if x_1 < (↑x.l.length : Int) then (atS 1 x x_1).bind fun (y : Int) => if y ≠ 0 then some (Sum.inr (Sum.inr (Sum.inl y))) else some (Sum.inl (IntKind.i64.wrap (x_1 + 1))) else some (Sum.inr (Sum.inl ()))
theorem cmp_Or_int_eq (x : Sl Int) : cmp_Or_int x = (loopO (cmp_Or_int_b1 x) 0).bind fun (y : PUnit ⊕ Int ⊕ Empty) => Sum.elim (fun (val : PUnit) => some 0) (fun (val : Int ⊕ Empty) => Sum.elim (fun (val : Int) => some val) (fun (val : Empty) => nE val) val) y := by kernel_rfl
theorem cmp_isNaN_int_eq (x : Int) : cmp_isNaN_int x = some (decide (x ≠ x)) := by kernel_rfl
theorem cmp_Compare_int_eq (x : Int) (y : Int) : cmp_Compare_int x y = (cmp_isNaN_int x).bind fun (out : Bool) => (cmp_isNaN_int y).bind fun (out_1 : Bool) => if out = true then if out_1 = true then some 0 else some (-1) else if out_1 = true then some 1 else if x < y then some (-1) else if x > y then some 1 else some 0 := by kernel_rfl
theorem csr_byPlace_eq (x : Int × Int × Int) (y : Int × Int × Int) : csr_byPlace x y = (cmp_Compare_int x.fst y.fst).bind fun (out : Int) => (cmp_Compare_int x.snd.fst y.snd.fst).bind fun (out_1 : Int) => (cmp_Or_int { nn := true, sz := 1, l := [out, out_1] }).bind fun (out : Int) => some out := by kernel_rfl
noncomputable def csr_inOrder_b1 (x : Sl (Int × Int × Int)) : Int → Option (Int ⊕ PUnit ⊕ Bool ⊕ Empty) := fun (x_1 : Int) => if x_1 < (↑x.l.length : Int) then (atS 3 x (IntKind.i64.wrap (x_1 - 1))).bind fun (y : Int × Int × Int) => (atS 3 x x_1).bind fun (y_1 : Int × Int × Int) => (csr_byPlace y y_1).bind fun (out : Int) => if out ≥ 0 then some (Sum.inr (Sum.inr (Sum.inl false))) else some (Sum.inl (IntKind.i64.wrap (x_1 + 1))) else some (Sum.inr (Sum.inl ()))
theorem csr_inOrder_eq (x : Sl (Int × Int × Int)) : csr_inOrder x = (loopO (csr_inOrder_b1 x) 1).bind fun (y : PUnit ⊕ Bool ⊕ Empty) => Sum.elim (fun (val : PUnit) => some true) (fun (val : Bool ⊕ Empty) => Sum.elim (fun (val : Bool) => some val) (fun (val : Empty) => nE val) val) y := by kernel_rfl
theorem ring_Is_eq (x : Int) : ring_Is x = if x ≥ 1 then some (decide (x ≤ 5)) else some false := by kernel_rfl
theorem edges_byEnds_eq (x : Int × Int × Int) (y : Int × Int × Int) : edges_byEnds x y = (cmp_Compare_int x.fst y.fst).bind fun (out : Int) => (cmp_Compare_int x.snd.fst y.snd.fst).bind fun (out_1 : Int) => (cmp_Or_int { nn := true, sz := 1, l := [out, out_1] }).bind fun (out : Int) => some out := by kernel_rfl
noncomputable def edges_Rises_b1 (x : Sl (Int × Int × Int)) : Int → Option (Int ⊕ PUnit ⊕ Bool ⊕ Empty) := fun (x_1 : Int) => if x_1 < (↑x.l.length : Int) then (atS 3 x (IntKind.i64.wrap (x_1 - 1))).bind fun (y : Int × Int × Int) => (atS 3 x x_1).bind fun (y_1 : Int × Int × Int) => (edges_byEnds y y_1).bind fun (out : Int) => if out ≥ 0 then some (Sum.inr (Sum.inr (Sum.inl false))) else some (Sum.inl (IntKind.i64.wrap (x_1 + 1))) else some (Sum.inr (Sum.inl ()))
theorem edges_Rises_eq (x : Sl (Int × Int × Int)) : edges_Rises x = (loopO (edges_Rises_b1 x) 1).bind fun (y : PUnit ⊕ Bool ⊕ Empty) => Sum.elim (fun (val : PUnit) => some true) (fun (val : Bool ⊕ Empty) => Sum.elim (fun (val : Bool) => some val) (fun (val : Empty) => nE val) val) y := by kernel_rfl
end Ev
end Go.Proofs.Ytcnfdbkolbgbcaa
end
section
namespace Go.Proofs.Ytcnfdbkolbgbcaa
namespace Ev
open Go
set_option linter.unusedVariables false
set_option linter.unusedSimpArgs false
def i64r (n : Int) : Prop := -9223372036854775808 ≤ n ∧ n ≤ 9223372036854775807
theorem i64r_of {n : Int} (h : inK .i64 n) : i64r n := by simpa [inK, i64r, Lit.wf, IntKind.min, IntKind.max, IntKind.signed, IntKind.bits] using h
theorem wrap_u64 (n : Int) : IntKind.u64.wrap n = n % 18446744073709551616 := by
 simp [IntKind.wrap, IntKind.signed, IntKind.bits]
theorem i64_wrap (n : Int) : i64r (IntKind.i64.wrap n) := by rw [IntKind.wrap_i64]; unfold i64r; omega
def ofW (n : Int) : Int × Int := (if n < 0 then -1 else 0, IntKind.u64.wrap n)
def lessW (a b : Int × Int) : Bool := decide (a.1 < b.1) || (decide (a.1 = b.1) && decide (a.2 < b.2))
def lessrW (a b : Int × Int) : Int × Int := if lessW b a = true then b else a
def truthW (b : Bool) : Int × Int := if b = true then (0, 1) else (0, 0)
def addW (a b : Int × Int) : Int × Int := if IntKind.u64.wrap (a.2 + b.2) < a.2 then (IntKind.i64.wrap (IntKind.i64.wrap (a.1 + b.1) + 1), IntKind.u64.wrap (a.2 + b.2)) else (IntKind.i64.wrap (a.1 + b.1), IntKind.u64.wrap (a.2 + b.2))
def ringAdd (r : Int) (a b : Int × Int) : Int × Int :=
 if r = 1 ∨ r = 3 ∨ r = 4 then lessrW a b else if r = 2 then truthW (!(decide (a.1 = 0 ∧ a.2 = 0) && decide (b.1 = 0 ∧ b.2 = 0))) else if r = 5 then addW a b else (0, 0)
def narrowW (a : Int × Int) : Int × Bool := if a = ofW (IntKind.i64.wrap a.2) then (IntKind.i64.wrap a.2, true) else (0, false)
def isRing (r : Int) : Bool := decide (1 ≤ r) && decide (r ≤ 5)
theorem wide_Of_w {n : Int} (h : i64r n) : wide_Of n = some (ofW n) := by
 rw [wide_Of_eq]
 unfold shr1 ofW shrI
 rw [if_pos (by omega)]
 have e : (2 : Int) ^ (min (63 : Int).toNat IntKind.i64.bits) = 9223372036854775808 := by decide
 rw [e]
 unfold i64r at h
 have : n.fdiv 9223372036854775808 = if n < 0 then -1 else 0 := by
  rw [Int.fdiv_eq_ediv_of_nonneg _ (by omega)]
  split <;> omega
 rw [this]; rfl
theorem wide_Compare_lt (a b : Int × Int) : ∃ c, wide_Compare a b = some c ∧ (c < 0 ↔ lessW a b = true) := by
 obtain ⟨a1, a2⟩ := a; obtain ⟨b1, b2⟩ := b
 rw [wide_Compare_eq]
 unfold lessW
 simp only
 by_cases h1 : a1 = b1 ∧ a2 = b2
 ·rw [if_pos h1]; exact ⟨0, rfl, by simp; omega⟩
 rw [if_neg h1]
 by_cases h2 : a1 < b1
 ·rw [if_pos h2]; exact ⟨-1, rfl, by simp [h2]⟩
 rw [if_neg h2]
 by_cases h3 : a1 = b1
 ·rw [if_pos h3]
  by_cases h4 : a2 < b2
  ·rw [if_pos h4]; exact ⟨-1, rfl, by simp [h3, h4]⟩
  ·rw [if_neg h4]; exact ⟨1, rfl, by simp [h3]; omega⟩
 ·rw [if_neg h3]; exact ⟨1, rfl, by simp [h3]; omega⟩
theorem ring_lesser_w (a b : Int × Int) : ring_lesser a b = some (lessrW a b) := by
 obtain ⟨c, h1, h2⟩ := wide_Compare_lt b a
 rw [ring_lesser_eq, h1]
 unfold lessrW
 simp only [Option.bind_some]
 by_cases hc : c < 0
 ·rw [if_pos hc, if_pos (h2.1 hc)]
 ·rw [if_neg hc, if_neg (fun h => hc (h2.2 h))]
theorem ring_truth_w (b : Bool) : ring_truth b = some (truthW b) := by
 rw [ring_truth_eq]
 unfold truthW
 cases b
 ·rfl
 ·simp only [if_true, wide_Of_w (show i64r 1 by unfold i64r; omega), Option.bind_some]; rfl
theorem wide_Add_w (a b : Int × Int) : wide_Add a b = some (addW a b) := by
 rw [wide_Add_eq]
 unfold addW wide_Add_j1
 split
 ·rfl
 ·obtain ⟨a1, a2⟩ := a; obtain ⟨b1, b2⟩ := b; rfl
theorem ring_Add_w (r : Int) (a b : Int × Int) : ring_Add r a b = some (ringAdd r a b) := by
 rw [ring_Add_eq]
 unfold ringAdd
 simp only [ring_lesser_w, ring_truth_w, wide_Add_w, Option.bind_some]
 by_cases h1 : r = 1
 ·simp [h1]
 by_cases h3 : r = 3
 ·simp [h3]
 by_cases h4 : r = 4
 ·simp [h4]
 simp only [if_neg h1, if_neg h3, if_neg (show ¬ (r = 1 ∨ r = 3 ∨ r = 4) by omega), decide_eq_false h4, Option.bind_some, Sum.elim_inl, Bool.false_eq_true, if_false]
 by_cases h2 : r = 2
 ·simp only [if_pos h2]
  by_cases ha : a.1 = 0 ∧ a.2 = 0
  ·by_cases hb : b.1 = 0 ∧ b.2 = 0
   ·simp [ha, hb]
   ·simp [ha, hb]
  ·simp [ha]
 ·simp only [if_neg h2]
  split <;> rfl
theorem ring_Narrow_w (r : Int) (a : Int × Int) : ring_Narrow r a = some (narrowW a) := by
 rw [ring_Narrow_eq, wide_Narrow_eq]
 obtain ⟨a1, a2⟩ := a
 unfold narrowW
 simp only [wide_Of_w (i64_wrap a2), Option.bind_some]
 by_cases h : (a1, a2) = ofW (IntKind.i64.wrap a2)
 ·have h' : a1 = (ofW (IntKind.i64.wrap a2)).1 ∧ a2 = (ofW (IntKind.i64.wrap a2)).2 := ⟨congrArg Prod.fst h, congrArg Prod.snd h⟩
  rw [if_pos h, if_neg (fun hh => hh h')]; rfl
 ·have h' : ¬ (a1 = (ofW (IntKind.i64.wrap a2)).1 ∧ a2 = (ofW (IntKind.i64.wrap a2)).2) := fun hh => h (Prod.ext hh.1 hh.2)
  rw [if_neg h, if_pos h']; rfl
theorem ring_Is_w (r : Int) : ring_Is r = some (isRing r) := by
 rw [ring_Is_eq]
 unfold isRing
 by_cases h1 : r ≥ 1
 ·rw [if_pos h1, decide_eq_true (show 1 ≤ r from h1)]; simp
 ·rw [if_neg h1, decide_eq_false (show ¬ 1 ≤ r from h1)]; rfl
end Ev
end Go.Proofs.Ytcnfdbkolbgbcaa
end
section
namespace Go.Proofs.Ytcnfdbkolbgbcaa
namespace Ev
open Go Sm
set_option linter.unusedVariables false
set_option linter.unusedSimpArgs false
def risL : List (Int × Int × Int) → Bool
 | [] => true
 | a :: r => match r with
  | [] => true
  | b :: _ => klt (key a) (key b) && risL r
theorem risL_cons2 (a b : Int × Int × Int) (r : List (Int × Int × Int)) : risL (a :: b :: r) = (klt (key a) (key b) && risL (b :: r)) := rfl
theorem risL_drop : ∀ (l : List (Int × Int × Int)) (j : Nat), 0 < j → (hj : j < l.length) → risL (l.drop (j - 1)) = (klt (key l[j - 1]) (key l[j]) && risL (l.drop j)) := by
 intro l j h0 hj
 have e1 : l.drop (j - 1) = l[j - 1] :: l.drop j := by
  rw [List.drop_eq_getElem_cons (by omega)]
  congr 2; omega
 rw [e1, List.drop_eq_getElem_cons hj, risL_cons2]
theorem cmp_Compare_w (x y : Int) : cmp_Compare_int x y = some (cmpI x y) := by
 rw [cmp_Compare_int_eq, cmp_isNaN_int_eq, cmp_isNaN_int_eq]
 unfold cmpI
 simp only [Option.bind_some, ne_eq, not_true_eq_false, decide_false, Bool.false_eq_true, if_false]
 by_cases h1 : x < y
 ·rw [if_pos h1, if_pos h1]
 ·rw [if_neg h1, if_neg h1]
  by_cases h2 : y < x
  ·rw [if_pos h2, if_pos (show x > y from h2)]
  ·rw [if_neg h2, if_neg (show ¬ x > y from h2)]
theorem cmp_Or_w (x y : Int) : cmp_Or_int ⟨true, 1, [x, y]⟩ = some (Sm.orI x y) := by
 rw [cmp_Or_int_eq]
 unfold Sm.orI
 have s0 : atS 1 (⟨true, 1, [x, y]⟩ : Sl Int) 0 = some x := rfl
 have s1 : atS 1 (⟨true, 1, [x, y]⟩ : Sl Int) 1 = some y := rfl
 have w0 : IntKind.i64.wrap (0 + 1) = 1 := by decide
 have w1 : IntKind.i64.wrap (1 + 1) = 2 := by decide
 by_cases hx : x = 0
 ·have h0 : cmp_Or_int_b1 ⟨true, 1, [x, y]⟩ 0 = some (.inl 1) := by
   unfold cmp_Or_int_b1
   simp only [s0, Option.bind_some, List.length_cons, List.length_nil]
   rw [if_pos (by decide), if_neg (fun h => h hx), w0]
  rw [if_pos hx, loopO_step h0]
  by_cases hy : y = 0
  ·have h1 : cmp_Or_int_b1 ⟨true, 1, [x, y]⟩ 1 = some (.inl 2) := by
    unfold cmp_Or_int_b1
    simp only [s1, Option.bind_some, List.length_cons, List.length_nil]
    rw [if_pos (by decide), if_neg (fun h => h hy), w1]
   have h2 : cmp_Or_int_b1 ⟨true, 1, [x, y]⟩ 2 = some (.inr (.inl ())) := by
    unfold cmp_Or_int_b1
    simp only [List.length_cons, List.length_nil]
    rw [if_neg (by decide)]
   rw [loopO_step h1, loopO_done h2, hy]; rfl
  ·have h1 : cmp_Or_int_b1 ⟨true, 1, [x, y]⟩ 1 = some (.inr (.inr (.inl y))) := by
    unfold cmp_Or_int_b1
    simp only [s1, Option.bind_some, List.length_cons, List.length_nil]
    rw [if_pos (by decide), if_pos (fun h => hy h)]
   rw [loopO_done h1]; rfl
 ·have h0 : cmp_Or_int_b1 ⟨true, 1, [x, y]⟩ 0 = some (.inr (.inr (.inl x))) := by
   unfold cmp_Or_int_b1
   simp only [s0, Option.bind_some, List.length_cons, List.length_nil]
   rw [if_pos (by decide), if_pos (fun h => hx h)]
  rw [if_neg hx, loopO_done h0]; rfl
theorem place_cmp (a b : Int × Int × Int) : ∃ c : Int, csr_byPlace a b = some c ∧ (c < 0 ↔ klt (key a) (key b) = true) := by
 rw [csr_byPlace_eq]
 simp only [cmp_Compare_w, Option.bind_some, cmp_Or_w]
 refine ⟨_, rfl, ?_⟩
 unfold Sm.orI cmpI klt key
 simp only [decide_eq_true_eq]
 split <;> split <;> (try split) <;> omega
theorem ends_cmp (a b : Int × Int × Int) : ∃ c : Int, edges_byEnds a b = some c ∧ (c < 0 ↔ klt (key a) (key b) = true) := by
 rw [edges_byEnds_eq]
 simp only [cmp_Compare_w, Option.bind_some, cmp_Or_w]
 refine ⟨_, rfl, ?_⟩
 unfold Sm.orI cmpI klt key
 simp only [decide_eq_true_eq]
 split <;> split <;> (try split) <;> omega
theorem ris_loop {x : Sl (Int × Int × Int)} (hn : x.l.length ≤ 9223372036854775807) {b : Int → Option (Int ⊕ PUnit ⊕ Bool ⊕ Empty)} (h1 : ∀ j : Nat, 0 < j → (hj : j < x.l.length) → b j = some (if klt (key x.l[j - 1]) (key x.l[j]) = true then .inl ((j + 1 : Nat) : Int) else .inr (.inr (.inl false)))) (h2 : ∀ j : Nat, x.l.length ≤ j → b j = some (.inr (.inl ()))) :
  (risL x.l = true ∧ loopO b 1 = some (.inl ())) ∨ (risL x.l = false ∧ loopO b 1 = some (.inr (.inl false))) := by
 by_cases hl : x.l.length ≤ 1
 ·refine .inl ⟨?_, loopO_done (h2 1 hl)⟩
  match x.l, hl with
  | [], _ => rfl
  | [a], _ => rfl
  | a :: b :: r, hl => simp at hl
 obtain ⟨r, e1, e2⟩ := loop_up (b := b) x.l.length (fun j a => 0 < j ∧ a = (j : Int) ∧ risL x.l = risL (x.l.drop (j - 1))) (fun r => (risL x.l = true ∧ r = .inl ()) ∨ (risL x.l = false ∧ r = .inr (.inl false)))
  (by
   rintro j _ hj ⟨h0, rfl, hr⟩
   rw [h1 j h0 hj]
   rw [risL_drop _ j h0 hj] at hr
   cases hk : klt (key x.l[j - 1]) (key x.l[j]) with
   | true => rw [hk] at hr; exact .inl ⟨_, rfl, by omega, rfl, by rw [hr]; simp⟩
   | false => rw [hk] at hr; exact .inr ⟨_, rfl, .inr ⟨by rw [hr]; rfl, rfl⟩⟩)
  (by
   rintro _ ⟨h0, rfl, hr⟩
   refine ⟨_, h2 _ (Nat.le_refl _), .inl ⟨?_, rfl⟩⟩
   rw [hr, List.drop_eq_getElem_cons (by omega), show x.l.length - 1 + 1 = x.l.length by omega, List.drop_length]
   rfl)
  1 (by omega) ((1 : Nat) : Int) ⟨by omega, rfl, by simp⟩
 rcases e2 with ⟨g1, rfl⟩ | ⟨g1, rfl⟩
 ·exact .inl ⟨g1, e1⟩
 ·exact .inr ⟨g1, e1⟩
theorem csr_inOrder_w {x : Sl (Int × Int × Int)} (hs : x.l = [] ∨ x.sz = 3) (hn : x.l.length ≤ 9223372036854775807) : csr_inOrder x = some (risL x.l) := by
 rw [csr_inOrder_eq]
 have H := ris_loop (b := csr_inOrder_b1 x) hn (fun j h0 hj => by
  unfold csr_inOrder_b1
  rw [if_pos (by omega), show IntKind.i64.wrap ((j : Int) - 1) = ((j - 1 : Nat) : Int) by rw [wrap64 (by omega) (by omega)]; omega, at_get hs (by omega), at_get hs hj]
  obtain ⟨c, e1, e2⟩ := place_cmp x.l[j - 1] x.l[j]
  simp only [Option.bind_some, e1, w_succ hj hn]
  by_cases hc : c ≥ 0
  ·rw [if_pos hc, if_neg (fun h => by have := e2.2 h; omega)]
  ·rw [if_neg hc, if_pos (e2.1 (by omega))]) (fun j hj => by
  unfold csr_inOrder_b1
  rw [if_neg (by omega)])
 rcases H with ⟨h1, h2⟩ | ⟨h1, h2⟩
 ·rw [h2, h1]; rfl
 ·rw [h2, h1]; rfl
theorem edges_Rises_w {x : Sl (Int × Int × Int)} (hs : x.l = [] ∨ x.sz = 3) (hn : x.l.length ≤ 9223372036854775807) : edges_Rises x = some (risL x.l) := by
 rw [edges_Rises_eq]
 have H := ris_loop (b := edges_Rises_b1 x) hn (fun j h0 hj => by
  unfold edges_Rises_b1
  rw [if_pos (by omega), show IntKind.i64.wrap ((j : Int) - 1) = ((j - 1 : Nat) : Int) by rw [wrap64 (by omega) (by omega)]; omega, at_get hs (by omega), at_get hs hj]
  obtain ⟨c, e1, e2⟩ := ends_cmp x.l[j - 1] x.l[j]
  simp only [Option.bind_some, e1, w_succ hj hn]
  by_cases hc : c ≥ 0
  ·rw [if_pos hc, if_neg (fun h => by have := e2.2 h; omega)]
  ·rw [if_neg hc, if_pos (e2.1 (by omega))]) (fun j hj => by
  unfold edges_Rises_b1
  rw [if_neg (by omega)])
 rcases H with ⟨h1, h2⟩ | ⟨h1, h2⟩
 ·rw [h2, h1]; rfl
 ·rw [h2, h1]; rfl
end Ev
end Go.Proofs.Ytcnfdbkolbgbcaa
end
section
namespace Go.Proofs.Ytcnfdbkolbgbcaa
namespace Ev
namespace K
open Go Go.RowKit
set_option linter.unusedVariables false
set_option linter.unusedSimpArgs false
set_option maxRecDepth 100000
set_option maxHeartbeats 1000000
noncomputable def preAxB : Ax := (fun _ => none)
theorem preAx_okB : AxOk Try.prog preAxB := (axOk_none _)
noncomputable def inlAxB : Ax := (addAx (addAx (addAx (addAx (addAx (addAx (addAx (addAx (addAx (addAx (addAx (addAx (addAx (addAx (addAx (addAx (addAx (addAx (addAx (addAx (addAx (addAx (addAx (addAx (addAx (addAx (addAx (addAx (addAx (addAx (addAx (addAx (addAx (addAx (addAx (addAx (addAx (addAx (addAx (addAx preAxB 58 inlF) 60 inlF) 61 inlF) 63 inlF) 64 inlF) 67 inlF) 70 inlF) 71 inlF) 72 inlF) 73 inlF) 75 inlF) 77 inlF) 81 inlF) 90 inlF) 94 inlF) 95 inlF) 101 inlF) 102 inlF) 103 inlF) 104 inlF) 105 inlF) 106 inlF) 107 inlF) 108 inlF) 111 inlF) 112 inlF) 113 inlF) 114 inlF) 115 inlF) 116 inlF) 117 inlF) 118 inlF) 119 inlF) 122 inlF) 123 inlF) 124 inlF) 125 inlF) 126 inlF) 127 inlF) 128 inlF)
theorem inlAx_okB : AxOk Try.prog inlAxB := (axOk_add (axOk_add (axOk_add (axOk_add (axOk_add (axOk_add (axOk_add (axOk_add (axOk_add (axOk_add (axOk_add (axOk_add (axOk_add (axOk_add (axOk_add (axOk_add (axOk_add (axOk_add (axOk_add (axOk_add (axOk_add (axOk_add (axOk_add (axOk_add (axOk_add (axOk_add (axOk_add (axOk_add (axOk_add (axOk_add (axOk_add (axOk_add (axOk_add (axOk_add (axOk_add (axOk_add (axOk_add (axOk_add (axOk_add (axOk_add preAx_okB fun vs kind rs h => by simp [inlF] at h) fun vs kind rs h => by simp [inlF] at h) fun vs kind rs h => by simp [inlF] at h) fun vs kind rs h => by simp [inlF] at h) fun vs kind rs h => by simp [inlF] at h) fun vs kind rs h => by simp [inlF] at h) fun vs kind rs h => by simp [inlF] at h) fun vs kind rs h => by simp [inlF] at h) fun vs kind rs h => by simp [inlF] at h) fun vs kind rs h => by simp [inlF] at h) fun vs kind rs h => by simp [inlF] at h) fun vs kind rs h => by simp [inlF] at h) fun vs kind rs h => by simp [inlF] at h) fun vs kind rs h => by simp [inlF] at h) fun vs kind rs h => by simp [inlF] at h) fun vs kind rs h => by simp [inlF] at h) fun vs kind rs h => by simp [inlF] at h) fun vs kind rs h => by simp [inlF] at h) fun vs kind rs h => by simp [inlF] at h) fun vs kind rs h => by simp [inlF] at h) fun vs kind rs h => by simp [inlF] at h) fun vs kind rs h => by simp [inlF] at h) fun vs kind rs h => by simp [inlF] at h) fun vs kind rs h => by simp [inlF] at h) fun vs kind rs h => by simp [inlF] at h) fun vs kind rs h => by simp [inlF] at h) fun vs kind rs h => by simp [inlF] at h) fun vs kind rs h => by simp [inlF] at h) fun vs kind rs h => by simp [inlF] at h) fun vs kind rs h => by simp [inlF] at h) fun vs kind rs h => by simp [inlF] at h) fun vs kind rs h => by simp [inlF] at h) fun vs kind rs h => by simp [inlF] at h) fun vs kind rs h => by simp [inlF] at h) fun vs kind rs h => by simp [inlF] at h) fun vs kind rs h => by simp [inlF] at h) fun vs kind rs h => by simp [inlF] at h) fun vs kind rs h => by simp [inlF] at h) fun vs kind rs h => by simp [inlF] at h) fun vs kind rs h => by simp [inlF] at h)
noncomputable def E1B : Env := envOf Try.prog inlAxB
theorem E1_okB : E1B.Ok := envOf_ok mixed0 names0 inlAx_okB
theorem TT_okB : AllT E1B TT := ⟨tz1, ⟨tz2, ⟨tz3, ⟨tz4, ⟨tz5, ⟨tz6, ⟨tz7, ⟨tz8, ⟨tz12, ⟨tz15, ⟨tz16, ⟨tz17, ⟨tz18, ⟨tz19, ⟨tz21, ⟨tz22, ⟨tz23, ⟨tz24, ⟨tz25, ⟨tz26, ⟨tz27, ⟨tz28, ⟨tz29, ⟨tz30, ⟨tz31, ⟨tz32, ⟨tz33, ⟨tz34, ⟨tz35, ⟨tz36, ⟨tz37, ⟨tz38, ⟨tz39, ⟨tz40, ⟨tz42, ⟨tz43, ⟨tz44, ⟨tz45, ⟨tz46, ⟨tz48, ⟨tz49, ⟨tz50, ⟨tz51, ⟨tz53, ⟨tz54, ⟨tz55, ⟨tz56, ⟨tz57, ⟨tz58, ⟨tz59, ⟨tz60, ⟨tz61, ⟨tz63, ⟨tz64, ⟨tz65, ⟨tz66, ⟨tz67, ⟨tz68, ⟨tz69, ⟨tz70, ⟨tz72, ⟨tz74, ⟨tz75, ⟨tz76, ⟨tz78, ⟨tz79, ⟨tz80, ⟨tz82, ⟨tz83, ⟨tz84, ⟨tz85, ⟨tz86, ⟨tz87, ⟨tz88, ⟨tz89, ⟨tz90, ⟨tz91, ⟨tz92, ⟨tz93, ⟨tz94, ⟨tz95, ⟨tz96, ⟨tz97, ⟨tz98, ⟨tz99, ⟨tz100, ⟨tz101, ⟨tz102, ⟨tz103, ⟨tz104, ⟨tz105, ⟨tz106, ⟨tz107, ⟨tz108, ⟨tz109, ⟨tz110, ⟨tz111, ⟨tz112, ⟨tz113, ⟨tz114, ⟨tz115, ⟨tz116, ⟨tz118, ⟨tz119, ⟨tz120, ⟨tz121, ⟨tz122, ⟨tz123, ⟨tz124, ⟨tz125, ⟨tz126, ⟨tz127, ⟨tz128, ⟨tz129, ⟨tz130, ⟨tz131, ⟨tz132, ⟨tz133, ⟨tz134, ⟨tz135, ⟨tz136, ⟨tz137, ⟨tz138, ⟨tz140, ⟨tz141, ⟨tz142, ⟨tz145, ⟨tz146, ⟨tz147, ⟨tz148, ⟨tz149, ⟨tz150, ⟨tz151, ⟨tz152, ⟨tz153, ⟨tz154, ⟨tz155, ⟨tz156, trivial⟩⟩⟩⟩⟩⟩⟩⟩⟩⟩⟩⟩⟩⟩⟩⟩⟩⟩⟩⟩⟩⟩⟩⟩⟩⟩⟩⟩⟩⟩⟩⟩⟩⟩⟩⟩⟩⟩⟩⟩⟩⟩⟩⟩⟩⟩⟩⟩⟩⟩⟩⟩⟩⟩⟩⟩⟩⟩⟩⟩⟩⟩⟩⟩⟩⟩⟩⟩⟩⟩⟩⟩⟩⟩⟩⟩⟩⟩⟩⟩⟩⟩⟩⟩⟩⟩⟩⟩⟩⟩⟩⟩⟩⟩⟩⟩⟩⟩⟩⟩⟩⟩⟩⟩⟩⟩⟩⟩⟩⟩⟩⟩⟩⟩⟩⟩⟩⟩⟩⟩⟩⟩⟩⟩⟩⟩⟩⟩⟩⟩⟩⟩⟩⟩⟩⟩⟩⟩
theorem EQS_okB : AllQ E1B.P EQS := ⟨eqOk3 kqeql30 kqneq30, ⟨eqOk2 kqeql80 kqneq80, trivial⟩⟩
theorem fn33B : E1B.fn 33 = some fi33 := fn_of Try.func33 rfl
theorem fn36B : E1B.fn 36 = some fi36 := fn_of Try.func36 rfl
theorem fn55B : E1B.fn 55 = some fi55 := fn_of Try.func55 rfl
theorem fn56B : E1B.fn 56 = some fi56 := fn_of Try.func56 rfl
theorem fn57B : E1B.fn 57 = some fi57 := fn_of Try.func57 rfl
theorem fn59B : E1B.fn 59 = some fi59 := fn_of Try.func59 rfl
theorem fn74B : E1B.fn 74 = some fi74 := fn_of Try.func74 rfl
theorem fn76B : E1B.fn 76 = some fi76 := fn_of Try.func76 rfl
theorem fn86B : E1B.fn 86 = some fi86 := fn_of Try.func86 rfl
theorem fn87B : E1B.fn 87 = some fi87 := fn_of Try.func87 rfl
theorem fn88B : E1B.fn 88 = some fi88 := fn_of Try.func88 rfl
theorem fn89B : E1B.fn 89 = some fi89 := fn_of Try.func89 rfl
theorem fn92B : E1B.fn 92 = some fi92 := fn_of Try.func92 rfl
theorem fn93B : E1B.fn 93 = some fi93 := fn_of Try.func93 rfl
theorem fn99B : E1B.fn 99 = some fi99 := fn_of Try.func99 rfl
theorem fn100B : E1B.fn 100 = some fi100 := fn_of Try.func100 rfl
end K
end Ev
end Go.Proofs.Ytcnfdbkolbgbcaa
end
section
namespace Go.Proofs.Ytcnfdbkolbgbcaa
namespace Ev
namespace K
open Go Go.RowKit
set_option linter.unusedVariables false
set_option linter.unusedSimpArgs false
set_option maxRecDepth 100000
set_option maxHeartbeats 1000000
theorem wide_Of_GokB : GOk wide_Of_G E1B 0 := gok E1_okB TT_okB EQS_okB trivial trivial
theorem wide_Of_okB : EntryOk E1B wide_Of_E := mkE_ok wide_Of_GokB (by kernel_rfl) fn56B (by kernel_rfl) rfl
theorem wide_Compare_GokB : GOk wide_Compare_G E1B 0 := gok E1_okB TT_okB EQS_okB trivial trivial
theorem wide_Compare_okB : EntryOk E1B wide_Compare_E := mkE_ok wide_Compare_GokB (by kernel_rfl) fn100B (by kernel_rfl) rfl
theorem ring_lesser_GokB : GOk ring_lesser_G E1B 1 := gok E1_okB TT_okB EQS_okB ⟨⟨by decide, wide_Compare_okB⟩, trivial⟩ trivial
theorem ring_lesser_okB : EntryOk E1B ring_lesser_E := mkE_ok ring_lesser_GokB (by kernel_rfl) fn86B (by kernel_rfl) rfl
theorem ring_truth_GokB : GOk ring_truth_G E1B 1 := gok E1_okB TT_okB EQS_okB ⟨⟨by decide, wide_Of_okB⟩, trivial⟩ trivial
theorem ring_truth_okB : EntryOk E1B ring_truth_E := mkE_ok ring_truth_GokB (by kernel_rfl) fn87B (by kernel_rfl) rfl
theorem wide_Add_GokB : GOk wide_Add_G E1B 0 := gok E1_okB TT_okB EQS_okB trivial trivial
theorem wide_Add_okB : EntryOk E1B wide_Add_E := mkE_ok wide_Add_GokB (by kernel_rfl) fn88B (by kernel_rfl) rfl
theorem ring_Add_GokB : GOk ring_Add_G E1B 2 := gok E1_okB TT_okB EQS_okB ⟨⟨by decide, ring_lesser_okB⟩, ⟨⟨by decide, ring_truth_okB⟩, ⟨⟨by decide, wide_Add_okB⟩, trivial⟩⟩⟩ trivial
theorem ring_Add_okB : EntryOk E1B ring_Add_E := mkE_ok ring_Add_GokB (by kernel_rfl) fn55B (by kernel_rfl) rfl
theorem wide_Narrow_GokB : GOk wide_Narrow_G E1B 1 := gok E1_okB TT_okB EQS_okB ⟨⟨by decide, wide_Of_okB⟩, trivial⟩ trivial
theorem wide_Narrow_okB : EntryOk E1B wide_Narrow_E := mkE_ok wide_Narrow_GokB (by kernel_rfl) fn89B (by kernel_rfl) rfl
theorem ring_Narrow_GokB : GOk ring_Narrow_G E1B 2 := gok E1_okB TT_okB EQS_okB ⟨⟨by decide, wide_Narrow_okB⟩, trivial⟩ trivial
theorem ring_Narrow_okB : EntryOk E1B ring_Narrow_E := mkE_ok ring_Narrow_GokB (by kernel_rfl) fn57B (by kernel_rfl) rfl
theorem cmp_Or_int_GokB : GOk cmp_Or_int_G E1B 0 := gok E1_okB TT_okB EQS_okB trivial trivial
theorem cmp_Or_int_okB : EntryOk E1B cmp_Or_int_E := mkE_ok cmp_Or_int_GokB (by kernel_rfl) fn92B (by kernel_rfl) rfl
theorem cmp_isNaN_int_GokB : GOk cmp_isNaN_int_G E1B 0 := gok E1_okB TT_okB EQS_okB trivial trivial
theorem cmp_isNaN_int_okB : EntryOk E1B cmp_isNaN_int_E := mkE_ok cmp_isNaN_int_GokB (by kernel_rfl) fn99B (by kernel_rfl) rfl
theorem cmp_Compare_int_GokB : GOk cmp_Compare_int_G E1B 1 := gok E1_okB TT_okB EQS_okB ⟨⟨by decide, cmp_isNaN_int_okB⟩, trivial⟩ trivial
theorem cmp_Compare_int_okB : EntryOk E1B cmp_Compare_int_E := mkE_ok cmp_Compare_int_GokB (by kernel_rfl) fn93B (by kernel_rfl) rfl
theorem csr_byPlace_GokB : GOk csr_byPlace_G E1B 2 := gok E1_okB TT_okB EQS_okB ⟨⟨by decide, cmp_Or_int_okB⟩, ⟨⟨by decide, cmp_Compare_int_okB⟩, trivial⟩⟩ trivial
theorem csr_byPlace_okB : EntryOk E1B csr_byPlace_E := mkE_ok csr_byPlace_GokB (by kernel_rfl) fn76B (by kernel_rfl) rfl
theorem csr_inOrder_GokB : GOk csr_inOrder_G E1B 3 := gok E1_okB TT_okB EQS_okB ⟨⟨by decide, csr_byPlace_okB⟩, trivial⟩ trivial
theorem csr_inOrder_okB : EntryOk E1B csr_inOrder_E := mkE_ok csr_inOrder_GokB (by kernel_rfl) fn74B (by kernel_rfl) rfl
theorem ring_Is_GokB : GOk ring_Is_G E1B 0 := gok E1_okB TT_okB EQS_okB trivial trivial
theorem ring_Is_okB : EntryOk E1B ring_Is_E := mkE_ok ring_Is_GokB (by kernel_rfl) fn36B (by kernel_rfl) rfl
theorem edges_byEnds_GokB : GOk edges_byEnds_G E1B 2 := gok E1_okB TT_okB EQS_okB ⟨⟨by decide, cmp_Or_int_okB⟩, ⟨⟨by decide, cmp_Compare_int_okB⟩, trivial⟩⟩ trivial
theorem edges_byEnds_okB : EntryOk E1B edges_byEnds_E := mkE_ok edges_byEnds_GokB (by kernel_rfl) fn59B (by kernel_rfl) rfl
theorem edges_Rises_GokB : GOk edges_Rises_G E1B 3 := gok E1_okB TT_okB EQS_okB ⟨⟨by decide, edges_byEnds_okB⟩, trivial⟩ trivial
theorem edges_Rises_okB : EntryOk E1B edges_Rises_E := mkE_ok edges_Rises_GokB (by kernel_rfl) fn33B (by kernel_rfl) rfl
end K
end Ev
end Go.Proofs.Ytcnfdbkolbgbcaa
end
section
namespace Go.Proofs.Ytcnfdbkolbgbcaa
open Go.RowKit Go.Sort
set_option linter.unusedVariables false
set_option linter.unusedSimpArgs false
namespace Sm
namespace Tp
open Ev
abbrev ety : K.Ty := .C (.I .i64) (.C (.I .i64) (.I .i64))
def RG (r : Int) : Rg := ⟨ofW, ringAdd r, narrowW⟩
def inB (n : Int) : Bool := decide (-9223372036854775808 ≤ n) && decide (n ≤ 9223372036854775807)
theorem inB_in {n : Int} (h : inB n = true) : In64 n := by simpa [inB, In64] using h
def okB (x : Sl (Int × Int × Int)) : Bool := decide (x.l.length ≤ 90000) && (x.l.all fun e => inB e.1 && (inB e.2.1 && inB e.2.2)) && (decide (x.sz = 3) || x.l.isEmpty) && (x.nn || x.l.isEmpty)
noncomputable def fn (a : Int × Sl (Int × Int × Int)) : Option (Sl (Int × Int × Int) × Int) :=
 if okB a.2 = true then if risL a.2.l = true then some (a.2, 0) else
  let o := sumR (RG a.1) a.2.l
  some (if o.2 = 0 then (⟨true, 3, o.1⟩, 0) else (⟨false, 0, []⟩, o.2)) else none
theorem rd_of {w : World} {F : Nat → Prop} {x : Sl (Int × Int × Int)} {y : Value} (hx : okB x = true) (h : RepT w F (Sl.t ety.row x) y) : ∃ a c, y = .slice a x.l.length c ∧ RdE w a x.l ∧ (a = none → c = 0 ∧ x.l.length = 0) ∧ x.l.length ≤ c ∧ x.nn = a.isSome := by
 obtain ⟨nn, sz, l⟩ := x
 simp only [okB, Bool.and_eq_true, Bool.or_eq_true, decide_eq_true_eq, List.isEmpty_iff] at hx
 unfold Sl.t at h
 cases h with
 | s _ _ _ a c ys hn hc h0 hl hm hr =>
  rw [List.length_map] at hc ⊢
  refine ⟨a, c, rfl, ?_, fun ha => ⟨h0 ha, by have := h0 ha; omega⟩, hc, hn⟩
  intro i hi
  have hsz : sz = 3 := by
   rcases hx.1.2 with h | h
   ·exact h
   ·rw [h] at hi; simp at hi
  subst hsz
  have hil : (l.map ety.row)[i]? = some (ety.row l[i]) := by simp [hi]
  have he : el l i = l[i] := by simp [el, List.getD_eq_getElem?_getD, hi]
  rw [he]
  have g : ∀ j v, (ety.row l[i])[j]? = some (.v v) → ∃ b, a = some b ∧ b.block < w.heap.size ∧ w.cell? (b.add (i * 3 + j)) = some v := by
   intro j v hj
   obtain ⟨b, h1, h2, _, h3⟩ := hm i _ j _ hil hj
   refine ⟨b, h1, h2, ?_⟩
   have := hr i _ j _ hil hj
   rw [h3]
   generalize ys i j = y at this
   cases this with | v x hx => rfl
  obtain ⟨b, e0, h1, c0⟩ := g 0 (.int .i64 l[i].1) rfl
  obtain ⟨b1, e1, _, c1⟩ := g 1 (.int .i64 l[i].2.1) rfl
  obtain ⟨b2, e2, _, c2⟩ := g 2 (.int .i64 l[i].2.2) rfl
  rw [e0] at e1 e2
  cases e1; cases e2
  refine ⟨b, e0, h1, by simpa using c0, ?_, ?_⟩
  ·rw [add_succ] at c1; exact c1
  ·rw [add_succ, add_succ] at c2; exact c2
theorem rep_of {base : Nat} {w : World} {F : Nat → Prop} {a : Option Addr} {c : Nat} {l : List (Int × Int × Int)} (h : Out base w a c l) (hF : ∀ b, F b → b < base) (hne : l ≠ [] ∨ a ≠ none) : RepT w F (Sl.t ety.row ⟨true, 3, l⟩) (.slice a l.length c) := by
 obtain ⟨h1, h2, h3, h4⟩ := h
 obtain ⟨b0, rfl⟩ : ∃ b0, a = some b0 := by
  cases a with
  | some b => exact ⟨b, rfl⟩
  | none => exact absurd (List.eq_nil_of_length_eq_zero (h2 rfl).2) (hne.resolve_right (by simp))
 have key := RepT.s (w := w) (F := F) true 3 (l.map ety.row) (some b0) c (fun i j => match j with
  | 0 => .int .i64 (el l i).1
  | 1 => .int .i64 (el l i).2.1
  | _ => .int .i64 (el l i).2.2) rfl (by simpa using h3) (by simp) (fun i e hi => by
   rw [List.getElem?_map, Option.map_eq_some_iff] at hi
   obtain ⟨x, _, rfl⟩ := hi
   rfl) ?_ ?_
 ·rw [List.length_map] at key; exact key
 ·intro i e j t hi hj
  rw [List.getElem?_map, Option.map_eq_some_iff] at hi
  obtain ⟨x, hx, rfl⟩ := hi
  have hil : i < l.length := (List.getElem?_eq_some_iff.1 hx).1
  obtain ⟨b, e0, g1, c0, c1, c2⟩ := h1 i hil
  cases e0
  refine ⟨b0, rfl, g1, fun hf => by have := h4 b0 rfl; have := hF _ hf; omega, ?_⟩
  have hj3 : j < 3 := (List.getElem?_eq_some_iff.1 hj).1
  rcases (show j = 0 ∨ j = 1 ∨ j = 2 by omega) with rfl | rfl | rfl
  ·simpa using c0
  ·rw [add_succ]; exact c1
  ·rw [add_succ, add_succ]; exact c2
 ·intro i e j t hi hj
  rw [List.getElem?_map, Option.map_eq_some_iff] at hi
  obtain ⟨x, hx, rfl⟩ := hi
  have hx2 : el l i = x := by simp [el, List.getD_eq_getElem?_getD, hx]
  have hj3 : j < 3 := (List.getElem?_eq_some_iff.1 hj).1
  rcases (show j = 0 ∨ j = 1 ∨ j = 2 by omega) with rfl | rfl | rfl
  ·cases hj; simp only [hx2]; exact .v _ rfl
  ·cases hj; simp only [hx2]; exact .v _ rfl
  ·cases hj; simp only [hx2]; exact .v _ rfl
theorem ins_ne (R : Rg) (e : Ed) : ∀ S, ins R S e ≠ []
 | [] => by simp [ins]
 | p :: S => by
  unfold ins
  split
  ·simp
  ·split <;> simp
theorem can_ne {R : Rg} {l : List Ed} (h : l ≠ []) : canS R l ≠ [] := by
 obtain ⟨m, e, rfl⟩ : ∃ m e, l = m ++ [e] := ⟨l.dropLast, l.getLast h, (List.dropLast_concat_getLast h).symm⟩
 rw [canS_snoc]
 exact ins_ne R e _
theorem sum_ne {R : Rg} {l : List Ed} (h : l ≠ []) (h0 : (sumR R l).2 = 0) : (sumR R l).1 ≠ [] := by
 unfold sumR at h0 ⊢
 split at h0
 ·rename_i hc
  rw [if_pos hc]
  simpa using can_ne h
 ·simp at h0
theorem sum_e {R : Rg} {l : List Ed} (h0 : (sumR R l).2 ≠ 0) : sumR R l = ([], 12) := by
 unfold sumR at h0 ⊢
 split at h0
 ·exact absurd rfl h0
 ·rename_i hc; rw [if_neg hc]
set_option maxRecDepth 100000 in
theorem of_calls (x : Int) (hx : In64 x) (W : World) (hL : LD W.heap.size W) : Calls Try.prog 56 #[.int .i64 x] W fun e w' => e = .returned (WV (ofW x)) ∧ Below W.heap.size W w' := by
 have h := K.wide_Of_okB 0 x (ofW x) (wide_Of_w hx)
 exact calls_plain (RunsP.pure K.E1_okB h) rfl rfl W hL
set_option maxRecDepth 100000 in
theorem add_calls (r : Int) (x y : V) (W : World) (hL : LD W.heap.size W) : Calls Try.prog 55 #[.int .i64 r, WV x, WV y] W fun e w' => e = .returned (WV (ringAdd r x y)) ∧ Below W.heap.size W w' := by
 have h := K.ring_Add_okB 0 (r, x, y) (ringAdd r x y) (ring_Add_w r x y)
 exact calls_plain (RunsP.pure K.E1_okB h) rfl rfl W hL
set_option maxRecDepth 100000 in
theorem nar_calls (r : Int) (x : V) (W : World) (hL : LD W.heap.size W) : Calls Try.prog 57 #[.int .i64 r, WV x] W fun e w' => e = .returned (.tuple #[.int .i64 (narrowW x).1, .bool (narrowW x).2]) ∧ Below W.heap.size W w' := by
 have h := K.ring_Narrow_okB 0 (r, x) (narrowW x) (ring_Narrow_w r x)
 exact calls_plain (RunsP.pure K.E1_okB h) rfl rfl W hL
theorem LD.below {w W : World} (hL : LD w.heap.size w) (hb : Below w.heap.size w W) : LD W.heap.size W := (hL.keep (fun _ hs => hb.block 0 hs) hb.size).up hb.size
theorem RepT.below {w W : World} {F F' : Nat → Prop} {t : T} {y : Value} (h : RepT w F t y) (hb : Below w.heap.size w W) (hF : ∀ b, F' b → F b) : RepT W F' t y := h.mono hb.size fun b hlt _ hn => ⟨hb.block b hlt, fun hf => hn (hF b hf)⟩
theorem ord_calls {w : World} {F : Nat → Prop} {x : Sl (Int × Int × Int)} {y : Value} (hr : RepT w F (Sl.t ety.row x) y) (hL : LD w.heap.size w) {b : Bool} (hb : csr_inOrder x = some b) (W : World) (hW : Below w.heap.size w W) : Calls Try.prog 74 #[y] W fun e w' => e = .returned (.bool b) ∧ Below W.heap.size W w' := by
 have h := RunsP.pure K.E1_okB (K.csr_inOrder_okB 0 x b hb)
 refine (h W (fun _ => False) [y] (LD.below hL hW) (fun _ h => h.elim) ⟨rfl, fun i t hi => ?_⟩).mono fun e w' ⟨y', e1, e2, _, e3⟩ => ⟨?_, e3⟩
 ·have h0 : i = 0 := by
   have h1 : i < 1 := (List.getElem?_eq_some_iff.1 hi).1
   omega
  subst h0
  cases hi
  exact ⟨y, rfl, .one _ _ (RepT.below hr hW fun _ h => h.elim)⟩
 ·rw [e1, PR_rep (x := .bool b) rfl w' _ e2]
set_option maxRecDepth 100000 in
theorem rising (r : Int) (a : Option Addr) (n c : Nat) (w : World) (hO : ∀ W, Below w.heap.size w W → Calls Try.prog 74 #[.slice a n c] W fun e w' => e = .returned (.bool true) ∧ Below W.heap.size W w') :
  Calls Try.prog 38 #[.int .i64 r, .slice a n c] w fun e w' => e = .returned (.tuple #[.slice a n c, .int .i64 0]) ∧ Below w.heap.size w w' := by
 have HORD := Lib.hid hO
 clear hO
 go_enter Try.func38, Try.ntmps38
 go_wp2_with fail
 refine (HORD.out w (Below.refl _ _)).mono ?_
 rintro x V ⟨rfl, hbw⟩
 go_wp2
 go_ret2
 exact ⟨rfl, hbw⟩
theorem nil_rep (w : World) (F : Nat → Prop) : RepT w F (Sl.t ety.row ⟨false, 0, []⟩) (.slice none 0 0) := RepT.s (w := w) (F := F) false 0 [] none 0 (fun _ _ => .nilFunc) rfl (Nat.le_refl _) (fun _ => rfl) (fun i e h => by simp at h) (fun i e j t h => by simp at h) (fun i e j t h => by simp at h)
theorem two {w : World} {F : Nat → Prop} {t : T} {y : Value} {e : Int} (h : RepT w F t y) : RepRes w F [.one t, .one (iT .i64 e)] (.tuple #[y, .int .i64 e]) := by
 refine ⟨[y, .int .i64 e], rfl, rfl, fun i t' hi => ?_⟩
 match i, hi with
 | 0, hi => cases hi; exact ⟨y, rfl, .one _ _ h⟩
 | 1, hi => cases hi; exact ⟨_, rfl, .one _ _ (.v _ rfl)⟩
 | i + 2, hi => simp at hi
abbrev ins : List K.TyD := [(false, .I .i64), (false, .S ety)]
abbrev outs : List K.TyD := [(false, .S ety), (false, .I .i64)]
theorem pure_ok (a : K.vals ins) (o : K.vals outs) (h : fn a = some o) : PureOk Try.prog 38 (K.tdsOf ins a) .any (K.tdsOf outs o) := by
 obtain ⟨r, x⟩ := a
 change Int at r
 change Sl (Int × Int × Int) at x
 unfold fn at h
 split at h
 ·rename_i hx
  simp only at hx
  simp only at h
  obtain ⟨b, hb0⟩ : ∃ b, b = risL x.l := ⟨_, rfl⟩
  rw [← hb0] at h
  have hb : csr_inOrder x = some b := by
   have hx2 := hx
   simp only [okB, Bool.and_eq_true, Bool.or_eq_true, decide_eq_true_eq, List.isEmpty_iff, List.all_eq_true] at hx2
   rw [hb0]
   exact csr_inOrder_w hx2.1.2.symm (by omega)
  intro w F ys hL hF hr
  obtain ⟨hlen, hi⟩ := hr
  match ys, hlen with
  | [y0, y1], _ =>
   obtain ⟨y, e1, e2⟩ := hi 0 _ rfl
   simp only [List.getElem?_cons_zero, Option.some.injEq] at e1
   subst e1
   have ey : y0 = .int .i64 r := by
    cases e2 with
    | one t y h => cases h with | v x hx => rfl
   subst ey
   obtain ⟨y, e1, e2⟩ := hi 1 _ rfl
   simp only [List.getElem?_cons_succ, List.getElem?_cons_zero, Option.some.injEq] at e1
   subst e1
   have e3 : RepT w F (Sl.t ety.row x) y1 := by cases e2 with | one t y h => exact h
   clear e2 hi
   obtain ⟨ad, c, rfl, h1, h2, h3, hnn⟩ := rd_of hx e3
   have hO := ord_calls e3 hL hb
   cases b with
   | true =>
    rw [if_pos rfl] at h
    cases h
    refine (rising r ad x.l.length c w hO).mono fun e w' ⟨he, hbl⟩ => ⟨_, he, ?_, fun hk => (by cases hk), hbl⟩
    exact two (RepT.below e3 hbl fun b hb => hb.2.resolve_left (fun h => h rfl))
   | false =>
    rw [if_neg (by simp)] at h
    have hx2 := hx
    simp only [okB, Bool.and_eq_true, Bool.or_eq_true, decide_eq_true_eq, List.isEmpty_iff, List.all_eq_true] at hx2
    have hw := walked r (RG r) ad x.l c w hO (fun z hz W hW => of_calls z hz W (LD.below hL hW)) (fun p q W hW => add_calls r p q W (LD.below hL hW)) (fun p W hW => nar_calls r p W (LD.below hL hW)) h1 (fun e he => by have := hx2.1.1.2 e he; exact ⟨inB_in this.1, inB_in this.2.1, inB_in this.2.2⟩) hx2.1.1.1
    refine hw.mono fun e w' ⟨a', c', he, ho, hbl, hnil⟩ => ⟨_, he, ?_, fun hk => (by cases hk), hbl⟩
    have hne : x.l ≠ [] := by
     intro hn
     rw [hn] at hb0
     cases hb0
    by_cases h0 : (sumR (RG r) x.l).2 = 0
    ·simp only [if_pos h0] at h
     cases h
     rw [h0]
     exact two (rep_of ho (fun b hb => hb.1) (.inl (sum_ne hne h0)))
    ·simp only [if_neg h0] at h
     cases h
     have he := sum_e h0
     rw [he] at ho ⊢
     obtain ⟨g1, g2, g3⟩ := ho
     obtain rfl := hnil h0
     obtain ⟨rfl, _⟩ := g2 rfl
     exact two (nil_rep _ _)
 ·simp at h
theorem enters : Ev.Enters Try.prog 38 := ⟨_, _, Try.func38, by kernel_rfl, by unfold Try.f38; rfl⟩
end Tp
end Sm
end Go.Proofs.Ytcnfdbkolbgbcaa
end
section
namespace Go.Proofs.Ytcnfdbkolbgbcaa
open Go.Shelf Go.RowKit Go.Lib Go.Sort
set_option linter.unusedVariables false
set_option linter.unusedSimpArgs false
namespace Sm
namespace Eg
def sortE_ren : Go.Shelf.Ren := ⟨fun | 6 => 58 | 15 => 91 | 14 => 90 | 28 => 109 | 29 => 110 | 20 => 101 | 21 => 102 | 22 => 103 | 23 => 104 | 24 => 105 | 25 => 106 | 26 => 107 | 27 => 108 | 46 => 119 | 47 => 120 | 48 => 121 | 49 => 122 | 50 => 123 | 57 => 127 | n => n, fun | 22 => 22 | 24 => 30 | 25 => 86 | 3 => 3 | 39 => 105 | 0 => 0 | 53 => 123 | 55 => 78 | 4 => 4 | 46 => 117 | 45 => 116 | 50 => 73 | 5 => 5 | 9 => 9 | 66 => 130 | 70 => 134 | 76 => 138 | 77 => 139 | n => n, fun | n => n⟩
theorem sortE : Go.Proofs.SlLaysF0.n6 Try.prog sortE_ren :=
 {
  mixed := by kernel_rfl,
  f6 := ⟨Try.f58.name, by decide, Try.func58.trans (congrArg some (by kernel_rfl))⟩,
  f14 := ⟨Try.f90.name, by decide, Try.func90.trans (congrArg some (by kernel_rfl))⟩,
  f15 := Try.func91.trans (congrArg some (by kernel_rfl)),
  f20 := ⟨Try.f101.name, by decide, Try.func101.trans (congrArg some (by kernel_rfl))⟩,
  f21 := ⟨Try.f102.name, by decide, Try.func102.trans (congrArg some (by kernel_rfl))⟩,
  f22 := ⟨Try.f103.name, by decide, Try.func103.trans (congrArg some (by kernel_rfl))⟩,
  f23 := ⟨Try.f104.name, by decide, Try.func104.trans (congrArg some (by kernel_rfl))⟩,
  f24 := ⟨Try.f105.name, by decide, Try.func105.trans (congrArg some (by kernel_rfl))⟩,
  f25 := ⟨Try.f106.name, by decide, Try.func106.trans (congrArg some (by kernel_rfl))⟩,
  f26 := ⟨Try.f107.name, by decide, Try.func107.trans (congrArg some (by kernel_rfl))⟩,
  f27 := ⟨Try.f108.name, by decide, Try.func108.trans (congrArg some (by kernel_rfl))⟩,
  f28 := Try.func109.trans (congrArg some (by kernel_rfl)),
  f29 := Try.func110.trans (congrArg some (by kernel_rfl)),
  f46 := ⟨Try.f119.name, by decide, Try.func119.trans (congrArg some (by kernel_rfl))⟩,
  f47 := Try.func120.trans (congrArg some (by kernel_rfl)),
  f48 := Try.func121.trans (congrArg some (by kernel_rfl)),
  f49 := ⟨Try.f122.name, by decide, Try.func122.trans (congrArg some (by kernel_rfl))⟩,
  f50 := ⟨Try.f123.name, by decide, Try.func123.trans (congrArg some (by kernel_rfl))⟩,
  f57 := ⟨Try.f127.name, by decide, Try.func127.trans (congrArg some (by kernel_rfl))⟩,
  t0 := Try.underlying0,
  a0 := Try.isAgg0,
  z0 := Try.sizeOf0,
  v0 := Try.zeroValue0,
  t3 := Try.underlying3,
  a3 := Try.isAgg3,
  z3 := Try.sizeOf3,
  v3 := Try.zeroValue3,
  t4 := Try.underlying4,
  a4 := Try.isAgg4,
  z4 := Try.sizeOf4,
  v4 := Try.zeroValue4,
  t5 := Try.underlying5,
  a5 := Try.isAgg5,
  z5 := Try.sizeOf5,
  v5 := Try.zeroValue5,
  t9 := Try.underlying9,
  a9 := Try.isAgg9,
  z9 := Try.sizeOf9,
  v9 := Try.zeroValue9,
  t22 := Try.underlying22,
  a22 := Try.isAgg22,
  z22 := Try.sizeOf22,
  v22 := Try.zeroValue22,
  t25 := Try.underlying86,
  a25 := Try.isAgg86,
  z25 := Try.sizeOf86,
  v25 := Try.zeroValue86,
  t39 := Try.underlying105,
  a39 := Try.isAgg105,
  z39 := Try.sizeOf105,
  v39 := Try.zeroValue105,
  t45 := Try.underlying116,
  a45 := Try.isAgg116,
  z45 := Try.sizeOf116,
  v45 := Try.zeroValue116,
  t46 := Try.underlying117,
  a46 := Try.isAgg117,
  z46 := Try.sizeOf117,
  v46 := Try.zeroValue117,
  t50 := Try.underlying73,
  a50 := Try.isAgg73,
  z50 := Try.sizeOf73,
  v50 := Try.zeroValue73,
  t53 := Try.underlying123,
  a53 := Try.isAgg123,
  z53 := Try.sizeOf123,
  v53 := Try.zeroValue123,
  t55 := Try.underlying78,
  a55 := Try.isAgg78,
  z55 := Try.sizeOf78,
  v55 := Try.zeroValue78,
  t66 := Try.underlying130,
  a66 := Try.isAgg130,
  z66 := Try.sizeOf130,
  v66 := Try.zeroValue130,
  t70 := Try.underlying134,
  a70 := Try.isAgg134,
  z70 := Try.sizeOf134,
  v70 := Try.zeroValue134,
  t76 := Try.underlying138,
  a76 := Try.isAgg138,
  z76 := Try.sizeOf138,
  v76 := Try.zeroValue138,
  t77 := Try.underlying139,
  a77 := Try.isAgg139,
  z77 := Try.sizeOf139,
  v77 := Try.zeroValue139 }
@[go_sem] abbrev EV (e : Ed) : Value := .agg #[.int .i64 e.1, .int .i64 e.2.1, .int .i64 e.2.2]
def enc (e : Ed) : List Value := [.int .i64 e.1, .int .i64 e.2.1, .int .i64 e.2.2]
def RdE (w : World) (a : Option Addr) (l : List Ed) : Prop := ∀ i, i < l.length → ∃ b, a = some b ∧ b.block < w.heap.size ∧ w.cell? (b.add (i * 3)) = some (.int .i64 (el l i).1) ∧ w.cell? ⟨b.block, (b.add (i * 3)).off + 1, none⟩ = some (.int .i64 (el l i).2.1) ∧ w.cell? ⟨b.block, (b.add (i * 3)).off + 2, none⟩ = some (.int .i64 (el l i).2.2)
theorem RdE.below {w w' : World} {a : Option Addr} {l : List Ed} (h : RdE w a l) (hb : Below w.heap.size w w') : RdE w' a l := by
 intro i hi
 obtain ⟨b, e, hl, h0, h1, h2⟩ := h i hi
 exact ⟨b, e, Nat.lt_of_lt_of_le hl hb.size, (hb.cell (by rw [blk_add]; exact hl)).trans h0, (hb.cell (p := ⟨b.block, _, none⟩) hl).trans h1, (hb.cell (p := ⟨b.block, _, none⟩) hl).trans h2⟩
def cmpE (a b : Ed) : Int := orI (cmpI a.1 b.1) (cmpI a.2.1 b.2.1)
theorem cmpE_lt (a b : Ed) : cmpE a b < 0 ↔ klt (key a) (key b) = true := by
 unfold cmpE orI cmpI klt key
 simp only [decide_eq_true_eq]
 split <;> split <;> (try split) <;> omega
theorem isNaN_same (x : Int) (w : World) : Calls Try.prog 99 #[.int .i64 x] w fun e w' => e = .returned (.bool false) ∧ w' = w := by
 go_enter Try.func99, Try.ntmps99
 go_wp2
 go_ret
 exact ⟨by simp, rfl⟩
set_option maxRecDepth 100000 in
theorem compareI_same (x y : Int) (w : World) : Calls Try.prog 93 #[.int .i64 x, .int .i64 y] w fun e w' => e = .returned (.int .i64 (cmpI x y)) ∧ w' = w := by
 go_enter Try.func93, Try.ntmps93
 go_wp2_with (go_at_call 99; refine (isNaN_same _ _).mono ?_; rintro e w1 ⟨rfl, rfl⟩)
 all_goals go_ret
 ·refine ⟨by unfold cmpI; rw [if_pos (by assumption)]; rfl, rfl⟩
 ·refine ⟨by unfold cmpI; rw [if_neg (by omega), if_pos (by assumption)]; rfl, rfl⟩
 ·refine ⟨by unfold cmpI; rw [if_neg (by omega), if_neg (by omega)]; rfl, rfl⟩
set_option maxRecDepth 100000 in
theorem cmpOr_same (x y : Int) (w : World) (g : Nat) (h : w.heap[g]? = some (.cells #[.int .i64 x, .int .i64 y] 3 (0, 0))) :
  Calls Try.prog 92 #[.slice (some ⟨g, 0, none⟩) 2 2] w fun e w' => e = .returned (.int .i64 (orI x y)) ∧ w' = w := by
 have c0 : w.cell? ⟨g, 0, none⟩ = some (.int .i64 x) := by simp [World.cell?, h]
 have c1 : w.cell? ⟨g, 1, none⟩ = some (.int .i64 y) := by simp [World.cell?, h]
 have kg : Has w g := (Array.getElem?_eq_some_iff.1 h).1
 go_enter Try.func92, Try.ntmps92
 by_cases hx : x = 0
 ·subst hx
  by_cases hy : y = 0
  ·subst hy
   go_wp2
   refine wp_loop_rounds 3 ?_
   rw [rounds_succ]; go_wp2
   rw [rounds_succ]; go_wp2
   rw [rounds_succ]; go_wp2
   go_ret
   exact ⟨by simp [orI], rfl⟩
  ·go_wp2
   refine wp_loop_rounds 2 ?_
   rw [rounds_succ]; go_wp2
   rw [rounds_succ]; go_wp2
   go_ret
   exact ⟨by simp [orI], rfl⟩
 ·go_wp2
  refine wp_loop_rounds 1 ?_
  rw [rounds_succ]; go_wp2
  go_ret
  exact ⟨by simp [orI, hx], rfl⟩
theorem cmpOr_new2 (x y : Int) (V : World) (g : Nat) (hg : g = V.heap.size) :
  Calls Try.prog 92 #[.slice (some ⟨g, 0, none⟩) 2 2] (V.alloc (.cells #[.int .i64 x, .int .i64 y] 3 (0, 0))) fun e w' => e = .returned (.int .i64 (orI x y)) ∧ w' = (V.alloc (.cells #[.int .i64 x, .int .i64 y] 3 (0, 0))) := by
 subst hg
 exact cmpOr_same x y _ _ (World.alloc_heap_new V _)
theorem grow3 (w : World) (n : Nat) (a b c : Obj) : ∃ q os', (((w.alloc a).alloc b).drewN n).alloc c = grow (w.drewN q) os' := ⟨n, #[a] ++ (#[b] ++ #[c]), by
 rw [alloc_eq_grow _ c, alloc_eq_grow _ b, alloc_eq_grow _ a]
 show grow (grow (grow (w.drewN n) #[a]) #[b]) #[c] = _
 rw [Go.Sort.grow_grow, Go.Sort.grow_grow]⟩
attribute [local irreducible] cmpI orI in
set_option maxRecDepth 100000 in
theorem cmp_drewn (a b : Ed) (w : World) : Calls Try.prog 59 #[EV a, EV b] w fun e w' => e = .returned (.int .i64 (cmpE a b)) ∧ ∃ q os', w' = grow (w.drewN q) os' := by
 go_enter Try.func59, Try.ntmps59
 go_wp2_with fail
 refine wp_region_quiet_tail (C := fun w' => ∃ n, w' = World.drewN _ n) 10 (by kernel_rfl) (by kernel_rfl) ⟨1, rfl⟩ ?_
 simp only [List.take_succ_cons, List.take_zero, List.drop_succ_cons, List.drop_zero]
 repeat (go_big_quiet_step (first | (go_at_call 93; exact (compareI_same _ _ _).mono fun _ _ ⟨he, hw⟩ => ⟨he, _, hw⟩)))
 refine wpQuiet_nil ?_
 rintro _ ⟨n, rfl⟩
 go_wp2_with fail
 refine (cmpOr_new2 (cmpI a.1 b.1) (cmpI a.2.1 b.2.1) _ _ (by simp [go_sem])).mono ?_
 rintro e w1 ⟨rfl, rfl⟩
 go_wp2
 go_ret
 exact ⟨rfl, grow3 _ _ _ _ _⟩
def cellsE (l : List Ed) : List Value := l.flatMap enc
theorem cellsE_cons (e : Ed) (l : List Ed) : cellsE (e :: l) = enc e ++ cellsE l := rfl
theorem cellsE_app (l m : List Ed) : cellsE (l ++ m) = cellsE l ++ cellsE m := by simp [cellsE]
theorem cellsE_len (l : List Ed) : (cellsE l).length = l.length * 3 := by
 induction l with
 | nil => rfl
 | cons e l ih => rw [cellsE_cons, List.length_append, ih]; simp [enc]; omega
theorem cellsE_at : ∀ (l : List Ed) (i k : Nat), i < l.length → k < 3 → (cellsE l)[i * 3 + k]? = (enc (el l i))[k]?
 | [], i, k, h, _ => by simp at h
 | e :: l, 0, k, h, hk => by
  rw [cellsE_cons, List.getElem?_append_left (by simp [enc]; omega)]
  simp [el]
 | e :: l, i + 1, k, h, hk => by
  rw [cellsE_cons, List.getElem?_append_right (by simp [enc]; omega)]
  have : (i + 1) * 3 + k - (enc e).length = i * 3 + k := by simp [enc]; omega
  rw [this, cellsE_at l i k (by simpa using h) hk]
  simp [el]
theorem cellsE_one (l : List Ed) : ∀ u ∈ cellsE l, u.oneCell' = true := by
 intro u hu
 obtain ⟨e, _, he⟩ := List.mem_flatMap.1 hu
 simp [enc] at he
 rcases he with rfl | rfl | rfl <;> rfl
theorem rdE_cells {w : World} {g : Nat} {l : List Ed} (hg : g < w.heap.size) (hc : ∀ i, i < l.length → ∀ k, k < 3 → w.cell? ⟨g, i * 3 + k, none⟩ = (enc (el l i))[k]?) : RdE w (some ⟨g, 0, none⟩) l := by
 intro i hi
 have e : (⟨g, 0, none⟩ : Addr).add (i * 3) = ⟨g, i * 3, none⟩ := addr0 _ _
 refine ⟨⟨g, 0, none⟩, rfl, hg, ?_, ?_, ?_⟩
 ·rw [e]; simpa [enc] using hc i hi 0 (by omega)
 ·rw [e]; simpa [enc] using hc i hi 1 (by omega)
 ·rw [e]; simpa [enc] using hc i hi 2 (by omega)
theorem row_rdE {w : World} {base n : Nat} {v : Value} {l : List Ed} (h : w.ownsRow base 30 3 v n (cellsE l)) : n = l.length ∧ ∃ a c, v = .slice a n c ∧ n ≤ c ∧ RdE w a l ∧ (a = none → c = 0 ∧ n = 0) := by
 have hn : n = l.length := by have := h.1; rw [cellsE_len] at this; omega
 refine ⟨hn, ?_⟩
 rcases h.2 with ⟨rfl, h0⟩ | ⟨g, cap, cur, rfl, hb, hg, hcap, _⟩
 ·obtain rfl : n = 0 := h0
  exact ⟨none, 0, rfl, by omega, fun i hi => by omega, fun _ => ⟨rfl, rfl⟩⟩
 ·refine ⟨some ⟨g, 0, none⟩, cap, rfl, hcap, ?_, by simp⟩
  refine rdE_cells (Array.getElem?_eq_some_iff.1 hg).1 (fun i hi k hk => ?_)
  rw [h.cellAt (i * 3 + k) (by omega), cellsE_at l i k hi hk]
theorem flat_at (l : List Ed) (i k : Nat) (h : i < l.length) (hk : k < 3) : some (flatK enc 3 l.toArray)[i * 3 + k]! = (enc (el l i))[k]? := by
 rw [get_flatK _ _ _ _ (by simp; omega), show (i * 3 + k) / 3 = i by omega, show (i * 3 + k) % 3 = k by omega, el_arr l i h]
 have : k < (enc (el l i)).length := by simp [enc]; omega
 rw [getElem!_pos (enc (el l i)) k this, List.getElem?_eq_getElem this]
theorem grownBy_sortedE {w : World} {g n : Nat} {os : Array Obj} (F : Array Value) : w.grownBy (grow (putRow id (Sort.ahead w n) g 0 F) os) (some g) := by
 refine ⟨rfl, rfl, rfl, by simp, fun k hk hne => ?_⟩
 rw [heap_grow_old _ _ (by simpa using hk)]
 have : g ≠ k := fun e => hne (by rw [e])
 simp [putRow, mapBlock, Sort.ahead, Array.getElem?_modify, this]
def bl (a b : Ed) : Bool := klt (key a) (key b)
theorem ltOf_bl : ltOf cmpE = bl := by
 funext a b
 unfold ltOf bl
 have := cmpE_lt a b
 cases h : klt (key a) (key b) <;> rw [h] at this <;> simp at this ⊢ <;> exact this
theorem swo_bl : SWO bl where
 irrefl x := by simp [bl, klt]
 trans x y z h1 h2 := by simp [bl, klt] at *; omega
 ntrans x y z h1 h2 := by simp [bl, klt] at *; omega
theorem sortedIn_pw {l : List Ed} (h : SortedIn bl 0 l.length l.toArray) : l.Pairwise (fun a b => bl b a = false) := by
 rw [List.pairwise_iff_getElem]
 intro i j hi hj hij
 have := h i j (by omega) hij hj
 rw [el_arr l i hi, el_arr l j hj] at this
 simpa [el, List.getD_eq_getElem?_getD, hi, hj] using this
set_option maxHeartbeats 1000000 in
theorem sortF_any (g c : Nat) (l : List Ed) (w : World) (hg : g < w.heap.size) (hc : ∀ i, i < l.length → ∀ k, k < 3 → w.cell? ⟨g, i * 3 + k, none⟩ = (enc (el l i))[k]?) (hf : ∀ j, w.frozen? ⟨g, j, none⟩ = false) (hl : l.length < 4611686018427387904) :
  Calls Try.prog 58 #[.slice (some ⟨g, 0, none⟩) l.length c, .func (.func 59) #[] #[]] w fun e w' => e = .returned (.tuple #[]) ∧ ∃ l' : List Ed, l'.Perm l ∧ l'.Pairwise (fun a b => bl b a = false) ∧ RdE w' (some ⟨g, 0, none⟩) l' ∧ w.grownBy w' (some g) := by
 have eg : ∀ args w, (callFunc 59 args).run Try.prog w = .ok (.enter 59 args) w := enters_of Try.func59 (by kernel_rfl) rfl
 have hcmp : CmpLays Try.prog 59 #[] enc 3 cmpE g 0 l.toArray.size w := fun m os dk _ x y => cmp_drewn x y _
 have hH : HoldsK enc 3 w g 0 l.toArray := by
  intro j hj
  have hj' : j < l.length * 3 := by simpa using hj
  refine ⟨?_, hf _⟩
  have := hc (j / 3) (by omega) (j % 3) (by omega)
  rw [Nat.zero_add, show j = j / 3 * 3 + j % 3 by omega, this, ← flat_at l _ _ (by omega) (by omega)]
  rfl
 have hO : SWO (ltOf cmpE) := by rw [ltOf_bl]; exact swo_bl
 have hcon := AnyQ.slices_SortFunc sortE 3 Try.isAgg30 Try.sizeOf30 enc (fun _ => rfl) (fun x v hv => by simp [enc] at hv; rcases hv with rfl | rfl | rfl <;> rfl) cmpE hO 59 #[] g 0 c l.toArray w eg hcmp hH hg (by simpa using hl)
 refine hcon.mono ?_
 rintro e w' ⟨rfl, d', n, os, hp, hs, rfl⟩
 obtain ⟨l', rfl⟩ : ∃ l' : List Ed, d' = l'.toArray := ⟨d'.toList, by simp⟩
 have hsz : l'.length = l.length := by simpa using hp.1
 refine ⟨rfl, l', ?_, ?_, ?_, ?_⟩
 ·have := hp.2.2
  rw [show l.toArray.size = l'.toArray.size by simpa using hsz.symm] at this
  rw [Array.extract_size] at this
  have h2 := hp.2.2
  rw [show l.toArray.size = l'.toArray.size by simpa using hsz.symm] at h2
  rw [Array.extract_size] at h2
  refine h2.trans ?_
  rw [show l'.toArray.size = l.toArray.size by simpa using hsz, Array.extract_size]
 ·rw [ltOf_bl] at hs
  exact sortedIn_pw (by rw [hsz]; simpa using hs)
 ·refine rdE_cells ?_ (fun i hi k hk => ?_)
  ·simp [sortWorldK, putRowK]
   omega
  ·have hH2 := holds_putRow id (Sort.ahead w n) g 0 _ (flatK enc 3 l'.toArray) (show Holds id (Sort.ahead w n) g 0 (flatK enc 3 l.toArray) from hH) (by simp [hsz]) (i * 3 + k) (by simp; omega)
   rw [Nat.zero_add] at hH2
   unfold sortWorldK
   rw [cell?_grow _ _ _ (by simpa [putRowK] using hg)]
   exact hH2.1.trans (flat_at l' i k hi hk)
 ·exact grownBy_sortedE _
theorem infoE : (Try.prog.info? 30).map (fun i => (i.zero, i.size, i.bytes)) = some (some (.agg #[.int .i64 0, .int .i64 0, .int .i64 0]), 3, 24) := by kernel_rfl
theorem info_partsE {P : Program} {e : TypeId} {z : Value} {s b : Nat} (h : (P.info? e).map (fun i => (i.zero, i.size, i.bytes)) = some (some z, s, b)) : ∃ i, P.info? e = some i ∧ i.zero = some z ∧ i.size = s ∧ i.bytes = b := by
 obtain ⟨i, hi, he⟩ := Option.map_eq_some_iff.1 h
 simp at he
 exact ⟨i, hi, he.1, he.2.1, he.2.2⟩
theorem rdE_news {w : World} {b : Addr} {M : List Ed} (hr : RdE w (some b) M) : ∀ j u, (cellsE M)[j]? = some u → w.cell? (b.add j) = some u := by
 intro j u hj
 have hj' : j < M.length * 3 := by have := (List.getElem?_eq_some_iff.1 hj).1; rwa [cellsE_len] at this
 have hc := cellsE_at M (j / 3) (j % 3) (by omega) (by omega)
 rw [show j / 3 * 3 + j % 3 = j by omega, hj] at hc
 obtain ⟨b', hb', _, h0, h1, h2⟩ := hr (j / 3) (by omega)
 cases hb'
 have h3 : j % 3 = 0 ∨ j % 3 = 1 ∨ j % 3 = 2 := by omega
 rcases h3 with h3 | h3 | h3
 ·rw [h3] at hc
  simp [enc] at hc
  rw [hc, show j = j / 3 * 3 by omega]
  rw [show (j / 3 * 3) / 3 = j / 3 by omega]
  exact h0
 ·rw [h3] at hc
  simp [enc] at hc
  rw [hc]
  have e : b.add j = ⟨b.block, (b.add (j / 3 * 3)).off + 1, none⟩ := by
   rw [show j = j / 3 * 3 + 1 by omega, add_succ]
   rw [show (j / 3 * 3 + 1) / 3 = j / 3 by omega]
  rw [e]; exact h1
 ·rw [h3] at hc
  simp [enc] at hc
  rw [hc]
  have e : b.add j = ⟨b.block, (b.add (j / 3 * 3)).off + 2, none⟩ := by
   rw [show j = j / 3 * 3 + 1 + 1 by omega, add_succ, add_succ]
   rw [show (j / 3 * 3 + 1 + 1) / 3 = j / 3 by omega]
  rw [e]; exact h2
theorem wpList_append_rdE {w : World} {ops : Array Oper} {rest : List Oper} {o : Oper} {a : Act} {Q : Exit → Act → World → Prop} (hgd : o.guard = none) (s x : Operand)
  (ho : o.op = .call { callee := .builtin .append, args := #[s, x], argTypes := #[22, 22] }) (base : Nat) (v : Value) (n : Nat) (L : List Ed) (hs : a.eval s = v) (hown : w.ownsRow base 30 3 v n (cellsE L))
  (ad : Option Addr) (m c : Nat) (M : List Ed) (hx : a.eval x = .slice ad m c) (hm : m = M.length) (hr : RdE w ad M) (hz : ad = none → c = 0 ∧ m = 0) (hnm : n + m ≤ 100000) (hbase : base ≤ w.heap.size)
  (h : ∀ v' w', w'.ownsRow base 30 3 v' (n + m) (cellsE (L ++ M)) → w.grownBy w' v.ownBlock → (v'.ownBlock = v.ownBlock ∨ v'.ownBlock = some w.heap.size) → wpList Try.prog ops Q rest (a.put o.dst v') w') : wpList Try.prog ops Q (o :: rest) a w := by
 obtain ⟨i0, hi0, hz0, hz1, hz2⟩ := info_partsE infoE
 subst hm
 match ad, hr, hz, hx with
 | none, hr, hz, hx =>
  obtain ⟨rfl, h0⟩ := hz rfl
  obtain rfl : M = [] := List.eq_nil_of_length_eq_zero h0
  refine wpList_append_own_none hgd s x 22 ho base 30 i0 3 Try.underlying22 hi0 v n _ hs hown hx (h v w ?_ ⟨rfl, rfl, rfl, Nat.le_refl _, fun _ _ _ => rfl⟩ (.inl rfl))
  simpa using hown
 | some b, hr, hz, hx =>
  have hnews := rdE_news hr
  exact wpList_append_own_at w hgd s x 22 ho base 30 i0 (.agg #[.int .i64 0, .int .i64 0, .int .i64 0]) 3 24 Try.underlying22 hi0 hz0 hz1 hz2 rfl (by decide) v n (cellsE L) hs hown b M.length c (cellsE M) hx (cellsE_len M) hnews (cellsE_one M) (by unfold maxLen; omega) (by omega) hbase
   fun v' w' hown' hg _ hat => h v' w' (by rw [cellsE_app]; exact hown') hg hat
theorem below_app {W w' : World} {base : Nat} {v : Value} (hg : W.grownBy w' v.ownBlock) (hv : ∀ k, v.ownBlock = some k → base ≤ k) (hb : base ≤ W.heap.size) : Below base W w' :=
 ⟨hg.os, hg.tape, hg.output, hg.size, fun k hk => hg.block k (by omega) (fun e => by have := hv k e.symm; omega)⟩
def Out (base : Nat) (w : World) (a : Option Addr) (c : Nat) (l : List Ed) : Prop := RdE w a l ∧ (a = none → c = 0 ∧ l.length = 0) ∧ l.length ≤ c ∧ ∀ b, a = some b → base ≤ b.block
theorem out_nil (base : Nat) (w : World) : Out base w none 0 [] := ⟨fun i hi => by simp at hi, fun _ => ⟨rfl, rfl⟩, by simp, by simp⟩
theorem row_some {w : World} {base n k s : Nat} {e : TypeId} {v : Value} {xs : List Value} (h : w.ownsRow base e s v n xs) (hk : v.ownBlock = some k) : ∃ cap, v = .slice (some ⟨k, 0, none⟩) n cap := by
 rcases h.2 with ⟨rfl, _⟩ | ⟨g, cap, cur, rfl, _⟩
 ·cases hk
 ·cases hk; exact ⟨cap, rfl⟩
theorem row_mono {w : World} {base base' n : Nat} {e : TypeId} {v : Value} {s : Nat} {xs : List Value} (h : w.ownsRow base e s v n xs) (hb : base' ≤ base) : w.ownsRow base' e s v n xs := by
 refine ⟨h.1, ?_⟩
 rcases h.2 with h2 | ⟨g, cap, cur, h1, h2, h3⟩
 ·exact .inl h2
 ·exact .inr ⟨g, cap, cur, h1, Nat.le_trans hb h2, h3⟩
theorem rdE_one (W : World) (x y z : Int) : RdE (W.alloc (.cells #[.int .i64 x, .int .i64 y, .int .i64 z] 30)) (some ⟨W.heap.size, 0, none⟩) [(x, y, z)] := by
 have h : CellsAt (W.alloc (.cells #[.int .i64 x, .int .i64 y, .int .i64 z] 30)) W.heap.size 30 #[.int .i64 x, .int .i64 y, .int .i64 z] := World.alloc_heap_new W _
 refine rdE_cells h.lt (fun i hi k hk => ?_)
 obtain rfl : i = 0 := by simpa using hi
 rw [h.cell]
 have h3 : k = 0 ∨ k = 1 ∨ k = 2 := by omega
 rcases h3 with rfl | rfl | rfl <;> rfl
end Eg
end Sm
end Go.Proofs.Ytcnfdbkolbgbcaa
end
section
namespace Go.Proofs.Ytcnfdbkolbgbcaa
open Go.RowKit Go.Sort
set_option linter.unusedVariables false
set_option linter.unusedSimpArgs false
namespace Sm
namespace Eg
def InE (e : Ed) : Prop := In64 e.1 ∧ In64 e.2.1 ∧ In64 e.2.2
theorem makeMapK (V : World) (n : Nat) : (Instr.makeMap 77 (some (.int .i64 n))).run Try.prog V = .ok (.map (some V.heap.size)) (V.alloc (.map #[] 0)) := by
 simp [Instr.makeMap, run_underlying Try.underlying77, asInt, asIntOf, Result.andThen]
set_option maxRecDepth 100000 in
set_option maxHeartbeats 4000000 in
theorem walked (r : Int) (R : Rg) (a : Option Addr) (l : List Ed) (c : Nat) (w : World) (hIs : ∀ W, Below w.heap.size w W → Calls Try.prog 36 #[.int .i64 r] W fun e w' => e = .returned (.bool true) ∧ Below W.heap.size W w') (hO : ∀ W, Below w.heap.size w W → Calls Try.prog 33 #[.slice a l.length c] W fun e w' => e = .returned (.bool false) ∧ Below W.heap.size W w')
  (hOf : ∀ x, In64 x → ∀ W, Below w.heap.size w W → Calls Try.prog 56 #[.int .i64 x] W fun e w' => e = .returned (WV (R.o x)) ∧ Below W.heap.size W w')
  (hAdd : ∀ x y W, Below w.heap.size w W → Calls Try.prog 55 #[.int .i64 r, WV x, WV y] W fun e w' => e = .returned (WV (R.ad x y)) ∧ Below W.heap.size W w')
  (hNar : ∀ x W, Below w.heap.size w W → Calls Try.prog 57 #[.int .i64 r, WV x] W fun e w' => e = .returned (.tuple #[.int .i64 (R.na x).1, .bool (R.na x).2]) ∧ Below W.heap.size W w')
  (hr : RdE w a l) (hI : ∀ e ∈ l, InE e) (hl : l.length ≤ 90000) :
  Calls Try.prog 23 #[.int .i64 r, .slice a l.length c] w fun e w' => ∃ a' c', e = .returned (.tuple #[.slice a' (sumR R l).1.length c', .int .i64 (sumR R l).2]) ∧ Out w.heap.size w' a' c' (sumR R l).1 ∧ Below w.heap.size w w' ∧ ((sumR R l).2 ≠ 0 → a' = none) := by
 obtain ⟨n, hn⟩ : ∃ n, n = l.length := ⟨_, rfl⟩
 rw [← hn] at hl hO ⊢
 have HN := Lib.hid hn
 clear hn
 generalize hcr : sumR R l = RS
 have HCR := Lib.hid hcr
 clear hcr
 have HOf := Lib.hid hOf
 have HAdd := Lib.hid hAdd
 have HNar := Lib.hid hNar
 clear hOf hAdd hNar
 have HORD := Lib.hid hO
 clear hO
 have HI := Lib.hid hIs
 clear hIs
 go_enter Try.func23, Try.ntmps23
 go_wp2_with fail
 refine (HI.out w (Below.refl _ _)).mono ?_
 rintro x w1 ⟨rfl, hb1⟩
 go_wp2_with fail
 refine (HORD.out w1 hb1).mono ?_
 rintro x V ⟨rfl, hb2⟩
 have hbw := hb1.trans (hb2.mono hb1.size)
 clear hb1 hb2 HORD HI
 have hmk := makeMapK V n
 have hM0 := MapF.new V
 go_wp2_with fail
 obtain ⟨B, hB⟩ : ∃ B, B = V.heap.size := ⟨_, rfl⟩
 have hb1 := bl1 V (.map #[] 0)
 rw [← hB] at hM0 ⊢
 generalize V.alloc (.map #[] 0) = W1 at hM0 hb1 ⊢
 have hVB : w.heap.size ≤ B := by rw [hB]; exact hbw.size
 have hbw1 : Below w.heap.size w W1 := hbw.trans (hb1.mono hbw.size)
 clear hmk hB hb1 hbw
 go_loopw [29] (fun y wr => ∃ j : Nat, y = .int .i64 (j : Int) ∧ j ≤ n ∧ MapF wr B j (fm R (l.take j)) ∧ Below w.heap.size w wr) (fun y _ => n - (intOf y).toNat)
 case atStart => exact ⟨0, rfl, by omega, hM0, hbw1⟩
 case round =>
  clear hM0 hbw1
  obtain ⟨j, rfl, hj, hM, hBw⟩ := hrel
  by_cases hlt : (j : Int) < (n : Int)
  ·obtain ⟨b, rfl, hbl, c0, c1, c2⟩ := (hr.below hBw) j (by rw [← HN.out]; omega)
   have j0 : (0 : Int) ≤ (j : Int) := by omega
   have kb := Has.of hbl
   have hIe := hI _ (el_mem (show j < l.length by rw [← HN.out]; omega))
   have hk : In2 (key (el l j)) := ⟨hIe.1, hIe.2.1⟩
   have hw1 := hIe.2.2
   have HT := Lib.hid (fm_snoc R (l.take j) (el l j))
   have HT2 := Lib.hid (take_el (l := l) (j := j) (by rw [← HN.out]; omega))
   generalize hf : fm R (l.take j) = f at hM HT
   clear hf
   obtain ⟨ej, hej⟩ : ∃ ej, ej = el l j := ⟨_, rfl⟩
   rw [← hej] at c0 c1 c2 hk hw1 HT HT2
   clear hej hIe
   go_wp2_with (at_lookup; refine wpList_lookupF _ rfl _ _ rfl B j f (key ej) rfl ((hM.alloc _).alloc _) rfl hk ?_ ?_)
   ·intro hf
    rw [upd_none hf] at HT
    go_wp2_with fail
    refine wp_region_grown_tail 5 (by kernel_rfl) (by kernel_rfl) ?_
    simp only [List.take_succ_cons, List.take_zero, List.drop_succ_cons, List.drop_zero]
    repeat (go_big_quiet_step (first | (go_at_call 56; exact Calls.regrown_of (HOf.out _ hw1 _ (hBw.trans (Below.mono (show Below wr.heap.size wr _ from (by repeat (first | with_reducible refine blg ?_ _ _ | with_reducible refine bla ?_ _ | with_reducible exact Below.refl _ _))) hBw.size))))))
    refine wpQuiet_nil ?_
    rintro _ ⟨⟨d2, o2⟩, rfl⟩
    go_wp2_with (at_mapUpdate; refine wpList_updateF _ rfl _ _ _ rfl B j f (key ej) (R.o ej.2.2) (by unfold maxLen; omega) rfl ((((hM.alloc _).alloc _).alloc _).kept (grownBy_of_below (below_regrown _ _ _) none) (by simp)) rfl rfl hk ?_; intro w' hM' hg')
    refine ⟨?_, by simp [intOf]; omega⟩
    refine ⟨j + 1, by simp, by omega, by rw [HT2.out, HT.out]; exact hM', ?_⟩
    have hbU : Below wr.heap.size wr (grow (redrawn (((wr.alloc (.cells #[.int .i64 ej.1, .int .i64 ej.2.1, .int .i64 ej.2.2] 30)).alloc (.cells #[.int .i64 ej.1, .int .i64 ej.2.1] 33)).alloc (.cells #[.int .i64 0, .int .u64 0] 80)) d2) o2) := (by repeat (first | with_reducible refine blg ?_ _ _ | with_reducible refine bla ?_ _ | with_reducible exact Below.refl _ _))
    exact (hBw.trans (hbU.mono hBw.size)).trans (below_of_grownBy hg' (hBw.trans (hbU.mono hBw.size)).size hVB)
   ·intro z1 z2 hf
    rw [upd_some hf] at HT
    go_wp2_with fail
    refine wp_region_grown_tail 8 (by kernel_rfl) (by kernel_rfl) ?_
    simp only [List.take_succ_cons, List.take_zero, List.drop_succ_cons, List.drop_zero]
    repeat (go_big_quiet_step (first | (go_at_call 56; exact Calls.regrown_of (HOf.out _ hw1 _ (hBw.trans (Below.mono (show Below wr.heap.size wr _ from (by repeat (first | with_reducible refine blg ?_ _ _ | with_reducible refine bla ?_ _ | with_reducible exact Below.refl _ _))) hBw.size)))) | (go_at_call 55; exact Calls.regrown_of (HAdd.out (z1, z2) _ _ (hBw.trans (Below.mono (show Below wr.heap.size wr _ from (by repeat (first | with_reducible refine blg ?_ _ _ | with_reducible refine bla ?_ _ | with_reducible exact Below.refl _ _))) hBw.size))))))
    refine wpQuiet_nil ?_
    rintro _ ⟨⟨d2, o2⟩, rfl⟩
    go_wp2_with (at_mapUpdate; refine wpList_updateF _ rfl _ _ _ rfl B j f (key ej) (R.ad (z1, z2) (R.o ej.2.2)) (by unfold maxLen; omega) rfl ((((hM.alloc _).alloc _).alloc _).kept (grownBy_of_below (below_regrown _ _ _) none) (by simp)) rfl rfl hk ?_; intro w' hM' hg')
    refine ⟨?_, by simp [intOf]; omega⟩
    refine ⟨j + 1, by simp, by omega, by rw [HT2.out, HT.out]; exact hM', ?_⟩
    have hbU : Below wr.heap.size wr (grow (redrawn (((wr.alloc (.cells #[.int .i64 ej.1, .int .i64 ej.2.1, .int .i64 ej.2.2] 30)).alloc (.cells #[.int .i64 ej.1, .int .i64 ej.2.1] 33)).alloc (.cells #[.int .i64 z1, .int .u64 z2] 80)) d2) o2) := (by repeat (first | with_reducible refine blg ?_ _ _ | with_reducible refine bla ?_ _ | with_reducible exact Below.refl _ _))
    exact (hBw.trans (hbU.mono hBw.size)).trans (below_of_grownBy hg' (hBw.trans (hbU.mono hBw.size)).size hVB)
  ·obtain rfl : j = n := by omega
   have hle := hBw.size
   rw [List.take_of_length_le (by rw [← HN.out]; exact Nat.le_refl _)] at hM
   clear hlt hj
   obtain ⟨i0, hi0, hz0, hz1, hz2⟩ := info_partsE infoE
   go_wp2_with (first
    | (at_len; refine wpList_lenF _ rfl _ rfl B j (fm R l) rfl hM ?_; intro m hm; obtain ⟨V2, hmk, hown, hgn⟩ := run_makeSlice_owned (P := Try.prog) (w := wr) wr.heap.size 22 30 i0 (.agg #[.int .i64 0, .int .i64 0, .int .i64 0]) 3 Try.underlying22 hi0 hz0 hz1 .i64 .i64 m (by omega) (by rw [hz2]; omega) (by unfold maxLen; omega) (Nat.le_refl _); have hM2 := hM.kept hgn (by simp))
    | (at_range; refine wpList_rangeF _ rfl _ rfl B j (fm R l) rfl hM2 ?_; intro V3 hR3 hg3 hs3))
   have hBl := hM.lt
   have hB2 : Below w.heap.size w V2 := hBw.trans ((below_of_grownNone hgn).mono hle)
   obtain ⟨g0, hg0⟩ : ∃ g0, g0 = wr.heap.size := ⟨_, rfl⟩
   rw [← hg0] at hown hBl ⊢
   have hg0V : g0 < V2.heap.size := (hown.lt g0 rfl).2
   have hwg : w.heap.size ≤ g0 := by rw [hg0]; exact hle
   clear hmk hM hgn hg0 hBw hle
   have hown3 := hown.kept hg3 (.inr (by simp [Value.ownBlock]))
   have hB3 : Below w.heap.size w V3 := hB2.trans ((below_of_grownNone hg3).mono hB2.size)
   obtain ⟨ri, hri⟩ : ∃ ri, ri = V2.heap.size := ⟨_, rfl⟩
   rw [← hri] at hR3 hg0V ⊢
   have hwr : w.heap.size ≤ ri := by rw [hri]; exact hB2.size
   clear hM2 hown hg3 hs3 hri hB2
   go_frame
   go_loopw [12] (fun v wr => ∃ done, RangF wr B ri j (fm R l) done ∧ wr.ownsRow w.heap.size 30 3 v done.length (cellsE (done.map (toE R))) ∧ (∃ k, v.ownBlock = some k ∧ k ≠ ri ∧ k ≠ B) ∧ (∀ p ∈ done, (R.na p.2).2 = true) ∧ Below w.heap.size w wr) (fun _ wr => wr.rangeLeft B ri)
   case atStart => exact ⟨[], hR3, row_mono hown3 hwg, ⟨g0, rfl, by omega, by omega⟩, by simp, hB3⟩
   case round =>
    clear hR3 hown3 hB3
    obtain ⟨done, hR, hown, ⟨kb, hkb, hk1, hk2⟩, hnb, hBw⟩ := hrel
    have hRl := hR.lt
    obtain ⟨cap, rfl⟩ := row_some hown hkb
    clear hkb
    go_wp2_with (at_next; refine wpList_nextF _ rfl _ rfl B ri j (fm R l) done rfl hR ?_ ?_)
    ·intro hall
     have hT : done.Perm (canS R l) := (rep_can R l).perm hR.facts.1 (fun p hp => (hR.facts.2.1 p hp).2) (fun k z hkz => hall k.1 k.2 (by obtain ⟨e, he, rfl⟩ := fm_some hkz; exact ⟨(hI e he).1, (hI e he).2.1⟩) z.1 z.2 hkz)
     have hR0 : sumR R l = ((canS R l).map (toE R), 0) := sumR_all (fun k z hkz => hnb (k, z) (hall k.1 k.2 (by obtain ⟨e, he, rfl⟩ := fm_some hkz; exact ⟨(hI e he).1, (hI e he).2.1⟩) z.1 z.2 hkz))
     rw [HCR.out] at hR0
     have hdl : done.length ≤ j := hR.facts.2.2
     have hkl := hown.lt kb rfl
     have hcap0 : done.length ≤ cap := by
      rcases hown.2 with ⟨h, _⟩ | ⟨g, cap1, cur, h, _, _, h5, _⟩
      ·cases h
      ·cases h; exact h5
     have HSO := sortF_any kb cap (done.map (toE R)) wr hkl.2 (fun i hi k hk => by rw [hown.cellAt (i * 3 + k) (by simp at hi; omega), cellsE_at _ i k hi hk]) (fun j => hown.frozenAt j) (by simp; omega)
     rw [List.length_map] at HSO
     clear hR hall
     go_wp2_with fail
     refine HSO.mono ?_
     rintro x w1 ⟨rfl, l', hp, hs, hrd, hg⟩
     go_wp2
     go_ret2
     have hl' := sorted_is R l l' done hT hp hs
     have hlen : done.length = l'.length := by have := hp.length_eq; simpa using this.symm
     rw [hlen] at hcap0
     refine ⟨some ⟨kb, 0, none⟩, cap, ?_, by rw [hR0, ← hl']; exact ⟨hrd, by simp, hcap0, fun b hb => by cases hb; exact hkl.1⟩, hBw.trans ((below_of_grownBy hg hBw.size hkl.1).mono (Nat.le_refl _)), fun h => absurd (by rw [hR0]) h⟩
     rw [hR0, hlen, hl']
     rfl
    ·intro k1 k2 z1 z2 w' hR' hlt hg hs hen
     have hown' := hown.kept hg (.inr (by simp [Value.ownBlock]; exact hk1))
     have hB' : Below w.heap.size w w' := hBw.trans ((below_of_grownBy hg hBw.size hwr).mono (Nat.le_refl _))
     clear hown hR
     have hwl : w'.heap.size = wr.heap.size := hs
     go_wp2_with fail
     obtain ⟨U, hU⟩ : ∃ U, U = (w'.alloc (.cells #[.int .i64 k1, .int .i64 k2] 33)).alloc (.cells #[.int .i64 z1, .int .u64 z2] 80) := ⟨_, rfl⟩
     rw [← hU]
     have hCU : CellsAt U wr.heap.size 33 #[.int .i64 k1, .int .i64 k2] := by
      have h1 : CellsAt (w'.alloc (.cells #[.int .i64 k1, .int .i64 k2] 33)) w'.heap.size 33 #[.int .i64 k1, .int .i64 k2] := World.alloc_heap_new w' _
      rw [hU, ← hwl]
      exact h1.below (bl1 _ _)
     have hbU : Below w'.heap.size w' U := by rw [hU]; exact bl2 _ _ _
     have hU1 : wr.heap.size < U.heap.size := by rw [hU]; simp; omega
     clear hU hen
     refine (HNar.out (z1, z2) U (hB'.trans (hbU.mono hB'.size))).mono ?_
     rintro x w1 ⟨rfl, hb1⟩
     have hC1 := hCU.below hb1
     have c0 : w1.cell? ⟨wr.heap.size, 0, none⟩ = some (.int .i64 k1) := hC1.cell 0
     have c1 : w1.cell? ⟨wr.heap.size, 1, none⟩ = some (.int .i64 k2) := hC1.cell 1
     have kg := Has.of hC1.lt
     have hbW : Below w'.heap.size w' w1 := hbU.trans (hb1.mono hbU.size)
     have hRW := hR'.kept (grownBy_of_below hbW none) (by simp) (by simp)
     have hownW := hown'.kept (grownBy_of_below hbW none) (.inr (by simp [Value.ownBlock]))
     have hBW : Below w.heap.size w w1 := hB'.trans (hbW.mono hB'.size)
     have hlW := hR'.left (grownBy_of_below hbW none) (by simp) (by simp)
     have hfz := hR'.facts
     clear hbU hb1 hCU hC1 hown'
     cases hz : (R.na (z1, z2)).2
     ·have hR0 := sumR_over (R := R) (l := l) (hfz.2.1 ((k1, k2), (z1, z2)) (by simp)).2 hz
      rw [HCR.out] at hR0
      go_wp2_with fail
      go_ret2
      refine ⟨none, 0, by rw [hR0]; rfl, ?_, hBW, fun _ => rfl⟩
      rw [hR0]
      exact out_nil _ _
     ·have hdl : done.length + 1 ≤ j := by have := hfz.2.2; simpa using this
      go_wp2_with (refine wpList_append_rdE rfl _ _ rfl w.heap.size _ done.length (done.map (toE R)) rfl (hownW.alloc _) _ 1 1 [(k1, k2, (R.na (z1, z2)).1)] rfl rfl (rdE_one _ _ _ _) (by simp) (by omega) (by have := hBW.size; simp; omega) ?_; intro v' w2 hown2 hg2 hat2)
      have hg2' : (w1.alloc (.cells #[.int .i64 k1, .int .i64 k2, .int .i64 ((R.na (z1, z2)).1)] 30)).grownBy w2 (some kb) := hg2
      have hat2' : v'.ownBlock = some kb ∨ v'.ownBlock = some (w1.alloc (.cells #[.int .i64 k1, .int .i64 k2, .int .i64 ((R.na (z1, z2)).1)] 30)).heap.size := hat2
      have hga := World.grownBy_alloc w1 (.cells #[.int .i64 k1, .int .i64 k2, .int .i64 ((R.na (z1, z2)).1)] 30) none
      have hkbl := (hownW.lt kb rfl).1
      have hRA := hRW.kept hga (by simp) (by simp)
      have hlA := hRW.left hga (by simp) (by simp)
      have hB1s := hRW.lt
      refine ⟨⟨done ++ [((k1, k2), (z1, z2))], hRA.kept hg2' (by simp; exact Ne.symm hk2) (by simp; exact Ne.symm hk1), ?_, ?_, ?_, ?_⟩, ?_⟩
      ·simpa [toE] using hown2
      ·rcases hat2' with e | e
       ·exact ⟨kb, e, hk1, hk2⟩
       ·exact ⟨_, e, by simp; omega, by simp; omega⟩
      ·intro p hp
       rcases List.mem_append.1 hp with hp | hp
       ·exact hnb p hp
       ·simp at hp; subst hp; exact hz
      ·exact (bla hBW _).trans (below_app (v := .slice (some ⟨kb, 0, none⟩) done.length cap) hg2' (fun k hk => by cases hk; exact hkbl) (by have := hBW.size; simp; omega))
      ·rw [hRA.left hg2' (by simp; exact Ne.symm hk2) (by simp; exact Ne.symm hk1), hlA, hlW]
       exact hlt
end Eg
end Sm
end Go.Proofs.Ytcnfdbkolbgbcaa
end
section
namespace Go.Proofs.Ytcnfdbkolbgbcaa
open Go.RowKit Go.Sort
set_option linter.unusedVariables false
set_option linter.unusedSimpArgs false
namespace Sm
namespace Eg
open Ev
abbrev ety : K.Ty := .C (.I .i64) (.C (.I .i64) (.I .i64))
def RG (r : Int) : Rg := ⟨ofW, ringAdd r, narrowW⟩
def inB (n : Int) : Bool := decide (-9223372036854775808 ≤ n) && decide (n ≤ 9223372036854775807)
theorem inB_in {n : Int} (h : inB n = true) : In64 n := by simpa [inB, In64] using h
def okB (x : Sl (Int × Int × Int)) : Bool := decide (x.l.length ≤ 90000) && (x.l.all fun e => inB e.1 && (inB e.2.1 && inB e.2.2)) && (decide (x.sz = 3) || x.l.isEmpty) && (x.nn || x.l.isEmpty)
noncomputable def fn (a : Int × Sl (Int × Int × Int)) : Option (Sl (Int × Int × Int) × Int) :=
 if isRing a.1 = true then if okB a.2 = true then if risL a.2.l = true then some (⟨a.2.nn, 3, a.2.l⟩, 0) else
  let o := sumR (RG a.1) a.2.l
  some (if o.2 = 0 then (⟨true, 3, o.1⟩, 0) else (⟨false, 0, []⟩, o.2)) else none else some (⟨false, 0, []⟩, 8)
theorem rd_of {w : World} {F : Nat → Prop} {x : Sl (Int × Int × Int)} {y : Value} (hx : okB x = true) (h : RepT w F (Sl.t ety.row x) y) : ∃ a c, y = .slice a x.l.length c ∧ RdE w a x.l ∧ (a = none → c = 0 ∧ x.l.length = 0) ∧ x.l.length ≤ c ∧ x.nn = a.isSome := by
 obtain ⟨nn, sz, l⟩ := x
 simp only [okB, Bool.and_eq_true, Bool.or_eq_true, decide_eq_true_eq, List.isEmpty_iff] at hx
 unfold Sl.t at h
 cases h with
 | s _ _ _ a c ys hn hc h0 hl hm hr =>
  rw [List.length_map] at hc ⊢
  refine ⟨a, c, rfl, ?_, fun ha => ⟨h0 ha, by have := h0 ha; omega⟩, hc, hn⟩
  intro i hi
  have hsz : sz = 3 := by
   rcases hx.1.2 with h | h
   ·exact h
   ·rw [h] at hi; simp at hi
  subst hsz
  have hil : (l.map ety.row)[i]? = some (ety.row l[i]) := by simp [hi]
  have he : el l i = l[i] := by simp [el, List.getD_eq_getElem?_getD, hi]
  rw [he]
  have g : ∀ j v, (ety.row l[i])[j]? = some (.v v) → ∃ b, a = some b ∧ b.block < w.heap.size ∧ w.cell? (b.add (i * 3 + j)) = some v := by
   intro j v hj
   obtain ⟨b, h1, h2, _, h3⟩ := hm i _ j _ hil hj
   refine ⟨b, h1, h2, ?_⟩
   have := hr i _ j _ hil hj
   rw [h3]
   generalize ys i j = y at this
   cases this with | v x hx => rfl
  obtain ⟨b, e0, h1, c0⟩ := g 0 (.int .i64 l[i].1) rfl
  obtain ⟨b1, e1, _, c1⟩ := g 1 (.int .i64 l[i].2.1) rfl
  obtain ⟨b2, e2, _, c2⟩ := g 2 (.int .i64 l[i].2.2) rfl
  rw [e0] at e1 e2
  cases e1; cases e2
  refine ⟨b, e0, h1, by simpa using c0, ?_, ?_⟩
  ·rw [add_succ] at c1; exact c1
  ·rw [add_succ, add_succ] at c2; exact c2
theorem rep_of {base : Nat} {w : World} {F : Nat → Prop} {a : Option Addr} {c : Nat} {l : List (Int × Int × Int)} (h : Out base w a c l) (hF : ∀ b, F b → b < base) (hne : l ≠ [] ∨ a ≠ none) : RepT w F (Sl.t ety.row ⟨true, 3, l⟩) (.slice a l.length c) := by
 obtain ⟨h1, h2, h3, h4⟩ := h
 obtain ⟨b0, rfl⟩ : ∃ b0, a = some b0 := by
  cases a with
  | some b => exact ⟨b, rfl⟩
  | none => exact absurd (List.eq_nil_of_length_eq_zero (h2 rfl).2) (hne.resolve_right (by simp))
 have key := RepT.s (w := w) (F := F) true 3 (l.map ety.row) (some b0) c (fun i j => match j with
  | 0 => .int .i64 (el l i).1
  | 1 => .int .i64 (el l i).2.1
  | _ => .int .i64 (el l i).2.2) rfl (by simpa using h3) (by simp) (fun i e hi => by
   rw [List.getElem?_map, Option.map_eq_some_iff] at hi
   obtain ⟨x, _, rfl⟩ := hi
   rfl) ?_ ?_
 ·rw [List.length_map] at key; exact key
 ·intro i e j t hi hj
  rw [List.getElem?_map, Option.map_eq_some_iff] at hi
  obtain ⟨x, hx, rfl⟩ := hi
  have hil : i < l.length := (List.getElem?_eq_some_iff.1 hx).1
  obtain ⟨b, e0, g1, c0, c1, c2⟩ := h1 i hil
  cases e0
  refine ⟨b0, rfl, g1, fun hf => by have := h4 b0 rfl; have := hF _ hf; omega, ?_⟩
  have hj3 : j < 3 := (List.getElem?_eq_some_iff.1 hj).1
  rcases (show j = 0 ∨ j = 1 ∨ j = 2 by omega) with rfl | rfl | rfl
  ·simpa using c0
  ·rw [add_succ]; exact c1
  ·rw [add_succ, add_succ]; exact c2
 ·intro i e j t hi hj
  rw [List.getElem?_map, Option.map_eq_some_iff] at hi
  obtain ⟨x, hx, rfl⟩ := hi
  have hx2 : el l i = x := by simp [el, List.getD_eq_getElem?_getD, hx]
  have hj3 : j < 3 := (List.getElem?_eq_some_iff.1 hj).1
  rcases (show j = 0 ∨ j = 1 ∨ j = 2 by omega) with rfl | rfl | rfl
  ·cases hj; simp only [hx2]; exact .v _ rfl
  ·cases hj; simp only [hx2]; exact .v _ rfl
  ·cases hj; simp only [hx2]; exact .v _ rfl
theorem ins_ne (R : Rg) (e : Ed) : ∀ S, ins R S e ≠ []
 | [] => by simp [ins]
 | p :: S => by
  unfold ins
  split
  ·simp
  ·split <;> simp
theorem can_ne {R : Rg} {l : List Ed} (h : l ≠ []) : canS R l ≠ [] := by
 obtain ⟨m, e, rfl⟩ : ∃ m e, l = m ++ [e] := ⟨l.dropLast, l.getLast h, (List.dropLast_concat_getLast h).symm⟩
 rw [canS_snoc]
 exact ins_ne R e _
theorem sum_ne {R : Rg} {l : List Ed} (h : l ≠ []) (h0 : (sumR R l).2 = 0) : (sumR R l).1 ≠ [] := by
 unfold sumR at h0 ⊢
 split at h0
 ·rename_i hc
  rw [if_pos hc]
  simpa using can_ne h
 ·simp at h0
theorem sum_e {R : Rg} {l : List Ed} (h0 : (sumR R l).2 ≠ 0) : sumR R l = ([], 12) := by
 unfold sumR at h0 ⊢
 split at h0
 ·exact absurd rfl h0
 ·rename_i hc; rw [if_neg hc]
set_option maxRecDepth 100000 in
theorem of_calls (x : Int) (hx : In64 x) (W : World) (hL : LD W.heap.size W) : Calls Try.prog 56 #[.int .i64 x] W fun e w' => e = .returned (WV (ofW x)) ∧ Below W.heap.size W w' := by
 have h := K.wide_Of_okB 0 x (ofW x) (wide_Of_w hx)
 exact calls_plain (RunsP.pure K.E1_okB h) rfl rfl W hL
set_option maxRecDepth 100000 in
theorem add_calls (r : Int) (x y : V) (W : World) (hL : LD W.heap.size W) : Calls Try.prog 55 #[.int .i64 r, WV x, WV y] W fun e w' => e = .returned (WV (ringAdd r x y)) ∧ Below W.heap.size W w' := by
 have h := K.ring_Add_okB 0 (r, x, y) (ringAdd r x y) (ring_Add_w r x y)
 exact calls_plain (RunsP.pure K.E1_okB h) rfl rfl W hL
set_option maxRecDepth 100000 in
theorem nar_calls (r : Int) (x : V) (W : World) (hL : LD W.heap.size W) : Calls Try.prog 57 #[.int .i64 r, WV x] W fun e w' => e = .returned (.tuple #[.int .i64 (narrowW x).1, .bool (narrowW x).2]) ∧ Below W.heap.size W w' := by
 have h := K.ring_Narrow_okB 0 (r, x) (narrowW x) (ring_Narrow_w r x)
 exact calls_plain (RunsP.pure K.E1_okB h) rfl rfl W hL
theorem LD.below {w W : World} (hL : LD w.heap.size w) (hb : Below w.heap.size w W) : LD W.heap.size W := (hL.keep (fun _ hs => hb.block 0 hs) hb.size).up hb.size
theorem RepT.below {w W : World} {F F' : Nat → Prop} {t : T} {y : Value} (h : RepT w F t y) (hb : Below w.heap.size w W) (hF : ∀ b, F' b → F b) : RepT W F' t y := h.mono hb.size fun b hlt _ hn => ⟨hb.block b hlt, fun hf => hn (hF b hf)⟩
theorem ord_calls {w : World} {F : Nat → Prop} {x : Sl (Int × Int × Int)} {y : Value} (hr : RepT w F (Sl.t ety.row x) y) (hL : LD w.heap.size w) {b : Bool} (hb : edges_Rises x = some b) (W : World) (hW : Below w.heap.size w W) : Calls Try.prog 33 #[y] W fun e w' => e = .returned (.bool b) ∧ Below W.heap.size W w' := by
 have h := RunsP.pure K.E1_okB (K.edges_Rises_okB 0 x b hb)
 refine (h W (fun _ => False) [y] (LD.below hL hW) (fun _ h => h.elim) ⟨rfl, fun i t hi => ?_⟩).mono fun e w' ⟨y', e1, e2, _, e3⟩ => ⟨?_, e3⟩
 ·have h0 : i = 0 := by
   have h1 : i < 1 := (List.getElem?_eq_some_iff.1 hi).1
   omega
  subst h0
  cases hi
  exact ⟨y, rfl, .one _ _ (RepT.below hr hW fun _ h => h.elim)⟩
 ·rw [e1, PR_rep (x := .bool b) rfl w' _ e2]
theorem eqNil_t (w : World) : (binOp .eql 22 (.slice none 0 0) (.slice none 0 0)).run Try.prog w = .ok (.bool true) w := by kernel_rfl
theorem eqNil_f (w : World) (b : Addr) (n c : Nat) : (binOp .eql 22 (.slice (some b) n c) (.slice none 0 0)).run Try.prog w = .ok (.bool false) w := by kernel_rfl
set_option maxRecDepth 100000 in
set_option maxHeartbeats 1000000 in
theorem cloneE_any (a : Option Addr) (l : List Ed) (c : Nat) (w : World) (hr : RdE w a l) (hz : a = none → c = 0 ∧ l.length = 0) (hl : l.length ≤ 90000) : Calls Try.prog 54 #[.slice a l.length c] w fun e w' => ∃ v, e = .returned v ∧ w'.ownsRow w.heap.size 30 3 v l.length (cellsE l) ∧ Below w.heap.size w w' ∧ (a = none → v = .slice none 0 0) ∧ (a ≠ none → ∃ k, v.ownBlock = some k) := by
 by_cases ha : a = none
 ·obtain ⟨rfl, h0⟩ := hz ha
  subst ha
  obtain rfl : l = [] := List.eq_nil_of_length_eq_zero h0
  have hq := eqNil_t w
  go_enter Try.func54, Try.ntmps54
  go_wp2
  go_ret
  refine ⟨_, rfl, World.ownsRow_nil _ _ _ _, (by repeat (first | with_reducible refine blg ?_ _ _ | with_reducible refine bla ?_ _ | with_reducible exact Below.refl _ _)), ?_⟩
  first | exact ⟨fun _ => rfl, fun h => absurd rfl h⟩ | rfl | simp
 ·obtain ⟨b, rfl⟩ := Option.ne_none_iff_exists'.1 ha
  obtain ⟨n, hn⟩ : ∃ n, n = l.length := ⟨_, rfl⟩
  rw [← hn] at hl hz ⊢
  have HN := Lib.hid hn
  clear hn ha
  have hq := eqNil_f w b n c
  go_enter Try.func54, Try.ntmps54
  have h0 : (w.alloc (.cells #[] 30)).ownsRow w.heap.size 30 3 (.slice (some ⟨w.heap.size, 0, none⟩) 0 0) 0 (cellsE []) := by
   exact World.ownsRow_lit w #[] 0 (Nat.le_refl _) (by unfold maxLen; omega) rfl
  go_wp2_with (refine wpList_append_rdE rfl _ _ rfl w.heap.size _ 0 [] rfl h0 (some b) n c l rfl HN.out (hr.below (bl1 _ _)) (by simp) (by omega) (by simp) ?_; intro v' w' hown hg hat)
  go_ret
  refine ⟨_, rfl, by simpa using hown, (bl1 w _).trans (below_app (v := .slice (some ⟨w.heap.size, 0, none⟩) 0 0) hg (fun k hk => by cases hk; exact Nat.le_refl _) (by simp)), ?_⟩
  have hk := hat.elim (fun h => (⟨_, h⟩ : ∃ k, v'.ownBlock = some k)) fun h => ⟨_, h⟩
  first | exact ⟨fun h => (by cases h), fun _ => hk⟩ | exact hk | simpa using hk
set_option maxRecDepth 100000 in
theorem bad (r : Int) (a : Option Addr) (n c : Nat) (w : World) (hI : ∀ W, Below w.heap.size w W → Calls Try.prog 36 #[.int .i64 r] W fun e w' => e = .returned (.bool false) ∧ Below W.heap.size W w') :
  Calls Try.prog 23 #[.int .i64 r, .slice a n c] w fun e w' => e = .returned (.tuple #[.slice none 0 0, .int .i64 8]) ∧ Below w.heap.size w w' := by
 have HI := Lib.hid hI
 clear hI
 go_enter Try.func23, Try.ntmps23
 go_wp2_with fail
 refine (HI.out w (Below.refl _ _)).mono ?_
 rintro x w1 ⟨rfl, hb1⟩
 go_wp2
 go_ret2
 exact ⟨rfl, hb1⟩
set_option maxRecDepth 100000 in
set_option maxHeartbeats 1000000 in
theorem rising (r : Int) (a : Option Addr) (l : List Ed) (c : Nat) (w : World) (hIs : ∀ W, Below w.heap.size w W → Calls Try.prog 36 #[.int .i64 r] W fun e w' => e = .returned (.bool true) ∧ Below W.heap.size W w')
  (hO : ∀ W, Below w.heap.size w W → Calls Try.prog 33 #[.slice a l.length c] W fun e w' => e = .returned (.bool true) ∧ Below W.heap.size W w') (hr : RdE w a l) (hz : a = none → c = 0 ∧ l.length = 0) (hl : l.length ≤ 90000) :
  Calls Try.prog 23 #[.int .i64 r, .slice a l.length c] w fun e w' => ∃ v, e = .returned (.tuple #[v, .int .i64 0]) ∧ w'.ownsRow w.heap.size 30 3 v l.length (cellsE l) ∧ Below w.heap.size w w' ∧ (a = none → v = .slice none 0 0) ∧ (a ≠ none → ∃ k, v.ownBlock = some k) := by
 have HI := Lib.hid hIs
 have HO := Lib.hid hO
 clear hIs hO
 go_enter Try.func23, Try.ntmps23
 go_wp2_with fail
 refine (HI.out w (Below.refl _ _)).mono ?_
 rintro x w1 ⟨rfl, hb1⟩
 go_wp2_with fail
 refine (HO.out w1 hb1).mono ?_
 rintro x w2 ⟨rfl, hb2⟩
 have hbw := hb1.trans (hb2.mono hb1.size)
 go_wp2_with fail
 refine (cloneE_any a l c w2 (hr.below hbw) hz hl).mono ?_
 rintro x w3 ⟨v, rfl, hown, hb3, hv1, hv2⟩
 go_wp2
 go_ret2
 exact ⟨v, rfl, row_mono hown hbw.size, hbw.trans (hb3.mono hbw.size), hv1, hv2⟩
theorem is_calls (r : Int) (W : World) (hL : LD W.heap.size W) : Calls Try.prog 36 #[.int .i64 r] W fun e w' => e = .returned (.bool (isRing r)) ∧ Below W.heap.size W w' := by
 have h := K.ring_Is_okB 0 r (isRing r) (ring_Is_w r)
 exact calls_plain (RunsP.pure K.E1_okB h) rfl rfl W hL
theorem nil_rep (w : World) (F : Nat → Prop) : RepT w F (Sl.t ety.row ⟨false, 0, []⟩) (.slice none 0 0) := RepT.s (w := w) (F := F) false 0 [] none 0 (fun _ _ => .nilFunc) rfl (Nat.le_refl _) (fun _ => rfl) (fun i e h => by simp at h) (fun i e j t h => by simp at h) (fun i e j t h => by simp at h)
theorem two {w : World} {F : Nat → Prop} {t : T} {y : Value} {e : Int} (h : RepT w F t y) : RepRes w F [.one t, .one (iT .i64 e)] (.tuple #[y, .int .i64 e]) := by
 refine ⟨[y, .int .i64 e], rfl, rfl, fun i t' hi => ?_⟩
 match i, hi with
 | 0, hi => cases hi; exact ⟨y, rfl, .one _ _ h⟩
 | 1, hi => cases hi; exact ⟨_, rfl, .one _ _ (.v _ rfl)⟩
 | i + 2, hi => simp at hi
abbrev ins : List K.TyD := [(false, .I .i64), (false, .S ety)]
abbrev outs : List K.TyD := [(false, .S ety), (false, .I .i64)]
theorem nil_rep0 (w : World) (F : Nat → Prop) : RepT w F (Sl.t ety.row ⟨false, 3, []⟩) (.slice none 0 0) := RepT.s (w := w) (F := F) false 3 [] none 0 (fun _ _ => .nilFunc) rfl (Nat.le_refl _) (fun _ => rfl) (fun i e h => by simp at h) (fun i e j t h => by simp at h) (fun i e j t h => by simp at h)
theorem pure_ok (a : K.vals ins) (o : K.vals outs) (h : fn a = some o) : PureOk Try.prog 23 (K.tdsOf ins a) .fresh (K.tdsOf outs o) := by
 obtain ⟨r, x⟩ := a
 change Int at r
 change Sl (Int × Int × Int) at x
 unfold fn at h
 split at h
 rotate_left
 ·rename_i hring
  simp only at hring
  cases h
  intro w F ys hL hF hr
  obtain ⟨hlen, hi⟩ := hr
  match ys, hlen with
  | [y0, y1], _ =>
   obtain ⟨y, e1, e2⟩ := hi 0 _ rfl
   simp only [List.getElem?_cons_zero, Option.some.injEq] at e1
   subst e1
   have ey : y0 = .int .i64 r := by
    cases e2 with
    | one t y h => cases h with | v x hx => rfl
   subst ey
   obtain ⟨y, e1, e2⟩ := hi 1 _ rfl
   simp only [List.getElem?_cons_succ, List.getElem?_cons_zero, Option.some.injEq] at e1
   subst e1
   have e3 : RepT w F (Sl.t ety.row x) y1 := by cases e2 with | one t y h => exact h
   obtain ⟨ad, n, c, rfl⟩ : ∃ a n c, y1 = .slice a n c := by
    unfold Sl.t at e3
    cases e3 with
    | s _ _ _ a c ys hn => exact ⟨_, _, _, rfl⟩
   have hf : isRing r = false := by simpa using hring
   refine (bad r ad n c w (fun W hW => by have := is_calls r W (LD.below hL hW); rw [hf] at this; exact this)).mono fun e w' ⟨he, hbl⟩ => ⟨_, he, two (nil_rep _ _), fun hk => (by cases hk), hbl⟩
 rename_i hring
 simp only at hring
 split at h
 ·rename_i hx
  simp only at hx
  simp only at h
  obtain ⟨b, hb0⟩ : ∃ b, b = risL x.l := ⟨_, rfl⟩
  rw [← hb0] at h
  have hb : edges_Rises x = some b := by
   have hx2 := hx
   simp only [okB, Bool.and_eq_true, Bool.or_eq_true, decide_eq_true_eq, List.isEmpty_iff, List.all_eq_true] at hx2
   rw [hb0]
   exact edges_Rises_w hx2.1.2.symm (by omega)
  intro w F ys hL hF hr
  obtain ⟨hlen, hi⟩ := hr
  match ys, hlen with
  | [y0, y1], _ =>
   obtain ⟨y, e1, e2⟩ := hi 0 _ rfl
   simp only [List.getElem?_cons_zero, Option.some.injEq] at e1
   subst e1
   have ey : y0 = .int .i64 r := by
    cases e2 with
    | one t y h => cases h with | v x hx => rfl
   subst ey
   obtain ⟨y, e1, e2⟩ := hi 1 _ rfl
   simp only [List.getElem?_cons_succ, List.getElem?_cons_zero, Option.some.injEq] at e1
   subst e1
   have e3 : RepT w F (Sl.t ety.row x) y1 := by cases e2 with | one t y h => exact h
   clear e2 hi
   obtain ⟨ad, c, rfl, h1, h2, h3, hnn⟩ := rd_of hx e3
   have hx2 := hx
   simp only [okB, Bool.and_eq_true, Bool.or_eq_true, decide_eq_true_eq, List.isEmpty_iff, List.all_eq_true] at hx2
   have hO := ord_calls e3 hL hb
   have hI : ∀ W, Below w.heap.size w W → Calls Try.prog 36 #[.int .i64 r] W fun e w' => e = .returned (.bool true) ∧ Below W.heap.size W w' := fun W hW => by have := is_calls r W (LD.below hL hW); rw [hring] at this; exact this
   cases b with
   | true =>
    rw [if_pos rfl] at h
    cases h
    refine (rising r ad x.l c w hI hO h1 h2 hx2.1.1.1).mono fun e w' ⟨v, he, hown, hbl, hv1, hv2⟩ => ⟨_, he, ?_, fun hk => (by cases hk), hbl⟩
    cases ad with
    | none =>
     rw [hv1 rfl]
     have hl0 : x.l = [] := List.eq_nil_of_length_eq_zero (h2 rfl).2
     rw [hnn, hl0]
     exact two (nil_rep0 _ _)
    | some b =>
     obtain ⟨k, hk⟩ := hv2 (by simp)
     obtain ⟨_, a', c', rfl, hle, hrd, hz'⟩ := row_rdE hown
     rw [hnn]
     exact two (rep_of (base := w.heap.size) ⟨hrd, hz', hle, fun b hb => (hown.lt b.block (by rw [hb]; rfl)).1⟩ (fun b hb => hb.1) (.inr (by intro hn; rw [hn] at hk; cases hk)))
   | false =>
    rw [if_neg (by simp)] at h
    have hw := walked r (RG r) ad x.l c w hI hO (fun z hz W hW => of_calls z hz W (LD.below hL hW)) (fun p q W hW => add_calls r p q W (LD.below hL hW)) (fun p W hW => nar_calls r p W (LD.below hL hW)) h1 (fun e he => by have := hx2.1.1.2 e he; exact ⟨inB_in this.1, inB_in this.2.1, inB_in this.2.2⟩) hx2.1.1.1
    refine hw.mono fun e w' ⟨a', c', he, ho, hbl, hnil⟩ => ⟨_, he, ?_, fun hk => (by cases hk), hbl⟩
    have hne : x.l ≠ [] := by
     intro hn
     rw [hn] at hb0
     cases hb0
    by_cases h0 : (sumR (RG r) x.l).2 = 0
    ·simp only [if_pos h0] at h
     cases h
     rw [h0]
     exact two (rep_of ho (fun b hb => hb.1) (.inl (sum_ne hne h0)))
    ·simp only [if_neg h0] at h
     cases h
     have he := sum_e h0
     rw [he] at ho ⊢
     obtain ⟨g1, g2, g3⟩ := ho
     obtain rfl := hnil h0
     obtain ⟨rfl, _⟩ := g2 rfl
     exact two (nil_rep _ _)
 ·simp at h
theorem enters : Ev.Enters Try.prog 23 := ⟨_, _, Try.func23, by kernel_rfl, by unfold Try.f23; rfl⟩
end Eg
end Sm
end Go.Proofs.Ytcnfdbkolbgbcaa
end
