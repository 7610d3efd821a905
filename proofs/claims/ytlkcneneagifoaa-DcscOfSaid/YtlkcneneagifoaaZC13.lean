/- Texts of a claim, joined. -/
import Derived.Test.YtlkcneneagifoaaZC12
import Derived.Test.YtlkcneneagifoaaZC10
import Derived.Test.YtlkcneneagifoaaZC11
set_option linter.unusedVariables false
set_option linter.unusedSimpArgs false
section
namespace Go.Proofs.Ytlkcneneagifoaa
namespace Ev
open Go Go.RowKit
set_option linter.unusedVariables false
set_option maxRecDepth 100000
set_option maxHeartbeats 1000000
abbrev yC := Int × Int × Sl Int × Sl Int × Sl Int × Sl Int
abbrev yM := Int × Int × Sl Int × Sl Int × Sl Int
abbrev yT := Int × Int × Int
theorem law07_Few_eq (x : Sl yT) : law07_Few x = if (↑x.l.length : Int) > 60 then (cutS 3 x 0 60).bind fun (s' : Sl yT) => some s'
else some x := by kernel_rfl
theorem csr_size_eq (x : Int) : csr_size x = if x ≥ 0 then some (decide (x ≤ 4096)) else some false := by kernel_rfl
noncomputable def csr_build_b1 (z : Sl yT) : Int × Int × Int × List Int × List Int × List Int → Option (Int × Int × Int × List Int × List Int × List Int ⊕ Int × Int × List Int × List Int × List Int ⊕ Empty) := fun (x : Int × Int × Int × List Int × List Int × List Int) => if x.fst < (↑z.l.length : Int) then (atS 3 z x.fst).bind fun (y : Int × Int × Int) => (atL x.snd.snd.snd.fst (IntKind.i64.wrap (y.fst + 1))).bind fun (x_1 : Int) => (atL x.snd.snd.snd.fst (IntKind.i64.wrap (y.fst + 1))).bind fun (y_1 : Int) => (atL x.snd.snd.snd.fst (IntKind.i64.wrap (y.fst + 1))).bind fun (x_2 : Int) => (atL x.snd.snd.snd.fst (IntKind.i64.wrap (y.fst + 1))).bind fun (y_2 : Int) => (app x.snd.snd.snd.snd.fst [y.snd.fst]).bind fun (lm : List Int) => (app x.snd.snd.snd.snd.snd [y.snd.snd]).bind fun (lm_1 : List Int) => some (Sum.inl (IntKind.i64.wrap (x.fst + 1), x.snd.fst, x.snd.snd.fst, List.set x.snd.snd.snd.fst (IntKind.i64.wrap (y.fst + 1)).toNat (IntKind.i64.wrap (y_1 + 1)), lm, lm_1)) else some (Sum.inr (Sum.inl x.snd))
noncomputable def csr_build_b2 : Int × List Int → Option (Int × List Int ⊕ List Int ⊕ Empty) := fun (x : Int × List Int) => if x.fst < (↑(List.length x.snd) : Int) then (atL x.snd x.fst).bind fun (x_1 : Int) => (atL x.snd x.fst).bind fun (y : Int) => (atL x.snd (IntKind.i64.wrap (x.fst - 1))).bind fun (x_2 : Int) => (atL x.snd (IntKind.i64.wrap (x.fst - 1))).bind fun (y_1 : Int) => (atL x.snd x.fst).bind fun (x_3 : Int) => (atL x.snd x.fst).bind fun (y_2 : Int) => some (Sum.inl (IntKind.i64.wrap (x.fst + 1), List.set x.snd (Int.toNat x.fst) (IntKind.i64.wrap (y + y_1)))) else some (Sum.inr (Sum.inl x.snd))
theorem csr_build_eq (x : Int) (y : Int) (z : Sl yT) : csr_build x y z = (capOk (IntKind.i64.wrap (x + 1)) (IntKind.i64.wrap (x + 1))).bind fun (x_1 : PUnit) => (lenOk (IntKind.i64.wrap (x + 1))).bind fun (x_2 : PUnit) => (loopO (csr_build_b1 z) (0, x, y, List.replicate (IntKind.i64.wrap (x + 1)).toNat 0, [], [])).bind fun (y : Int × Int × List Int × List Int × List Int ⊕ Empty) => Sum.elim (fun (val : Int × Int × List Int × List Int × List Int) => (loopO csr_build_b2 (1, val.snd.snd.fst)).bind fun (y : List Int ⊕ Empty) => Sum.elim (fun (val_1 : List Int) => some (val.fst, val.snd.fst, { nn := true, sz := 1, l := val_1 }, mo 1 val.snd.snd.snd.fst, mo 1 val.snd.snd.snd.snd)) (fun (val : Empty) => nE val) y) (fun (val : Empty) => nE val) y := by kernel_rfl
theorem ref02_Is_eq (x : Int) : ref02_Is x = if x ≥ 1 then some (decide (x ≤ 5)) else some false := by kernel_rfl
theorem ref05_below_eq (x : Int × Int × Int) (y : Int × Int × Int) : ref05_below x y = if x.fst < y.fst then some true
else if x.fst = y.fst then some (decide (x.snd.fst < y.snd.fst)) else some false := by kernel_rfl
theorem ref01_Of_eq (x : Int) : ref01_Of x = if x < 0 then some (-1, IntKind.u64.wrap x) else some (0, IntKind.u64.wrap x) := by kernel_rfl
theorem ref01_Compare_eq (x : Int × Int) (y : Int × Int) : ref01_Compare x y = if x.fst < y.fst then some (-1)
else if x.fst = y.fst then if x.snd < y.snd then some (-1) else if x.fst = y.fst ∧ x.snd = y.snd then some 0 else some 1 else if x.fst = y.fst ∧ x.snd = y.snd then some 0 else some 1 := by kernel_rfl
theorem ref02_truth_eq (x : Bool) : ref02_truth x = if x = true then some (0, 1) else some (0, 0) := by kernel_rfl
noncomputable def ref01_Add_j1 : Int → Int → Option (Int ⊕ Empty) := fun (d d_1 : Int) => some (Sum.inl (IntKind.i64.wrap (d + d_1)))
theorem ref01_Add_eq (x : Int × Int) (y : Int × Int) : ref01_Add x y = (if IntKind.u64.wrap (x.snd + y.snd) < x.snd then ref01_Add_j1 (IntKind.i64.wrap (x.fst + y.fst)) 1 else ref01_Add_j1 x.fst y.fst).bind fun (y_1 : Int ⊕ Empty) => Sum.elim (fun (val : Int) => some (val, IntKind.u64.wrap (x.snd + y.snd))) (fun (val : Empty) => nE val) y_1 := by kernel_rfl
theorem ref02_Add_eq (x : Int) (y : Int × Int) (z : Int × Int) : ref02_Add x y z = (if x = 1 then some (Sum.inl true) else if x = 3 then some (Sum.inl true) else some (Sum.inl (decide (x = 4)))).bind fun (y_1 : Bool ⊕ Empty) => Sum.elim (fun (val : Bool) => if val = true then (ref01_Compare z y).bind fun (out : Int) => if out < 0 then some z else some y else if x = 2 then if ¬(y.fst = 0 ∧ y.snd = 0) then (ref02_truth true).bind fun (out : Int × Int) => some out else (ref02_truth (decide ¬(z.fst = 0 ∧ z.snd = 0))).bind fun (out : Int × Int) => some out else if x = 5 then (ref01_Add y z).bind fun (out : Int × Int) => some out else some (0, 0)) (fun (val : Empty) => nE val) y_1 := by kernel_rfl
theorem ref01_Narrow_eq (x : Int × Int) : ref01_Narrow x = if x.fst = 0 then if IntKind.i64.wrap x.snd ≥ 0 then some (IntKind.i64.wrap x.snd, true) else if x.fst = -1 then if IntKind.i64.wrap x.snd < 0 then some (IntKind.i64.wrap x.snd, true) else some (0, false) else some (0, false)
else if x.fst = -1 then if IntKind.i64.wrap x.snd < 0 then some (IntKind.i64.wrap x.snd, true) else some (0, false) else some (0, false) := by kernel_rfl
noncomputable def ref05_Combine_b1 (y : Sl yT) (x : List yT × List (Int × Int) × Int) : Int → Option (Int ⊕ Int ⊕ Empty) := fun (x_1 : Int) => if x_1 < (↑(List.length x.fst) : Int) then (atL x.fst x_1).bind fun (x_2 : Int × Int × Int) => (atL x.fst x_1).bind fun (y_1 : Int × Int × Int) => (atS 3 y x.snd.snd).bind fun (y : Int × Int × Int) => (ref05_below y_1 y).bind fun (out : Bool) => if out = true then some (Sum.inl (IntKind.i64.wrap (x_1 + 1))) else some (Sum.inr (Sum.inl x_1)) else some (Sum.inr (Sum.inl x_1))
noncomputable def ref05_Combine_b2 (val : Int) : Int × List yT × List (Int × Int) → Option (Int × List yT × List (Int × Int) ⊕ List yT × List (Int × Int) ⊕ Empty) := fun (x : Int × List yT × List (Int × Int)) => if x.fst > val then (atL x.snd.fst (IntKind.i64.wrap (x.fst - 1))).bind fun (x_1 : Int × Int × Int) => (atL x.snd.fst (IntKind.i64.wrap (x.fst - 1))).bind fun (y : Int × Int × Int) => (atL x.snd.fst x.fst).bind fun (x_2 : Int × Int × Int) => (atL x.snd.fst x.fst).bind fun (y_1 : Int × Int × Int) => (atL x.snd.snd (IntKind.i64.wrap (x.fst - 1))).bind fun (x_3 : Int × Int) => (atL x.snd.snd (IntKind.i64.wrap (x.fst - 1))).bind fun (y_2 : Int × Int) => (atL x.snd.snd x.fst).bind fun (x_4 : Int × Int) => (atL x.snd.snd x.fst).bind fun (y_3 : Int × Int) => some (Sum.inl (IntKind.i64.wrap (x.fst - 1), List.set x.snd.fst (Int.toNat x.fst) y, List.set x.snd.snd (Int.toNat x.fst) y_2)) else some (Sum.inr (Sum.inl x.snd))
noncomputable def ref05_Combine_b3 (val : Int) : Int × List yT × List (Int × Int) → Option (Int × List yT × List (Int × Int) ⊕ List yT × List (Int × Int) ⊕ Empty) := fun (x : Int × List yT × List (Int × Int)) => if x.fst > val then (atL x.snd.fst (IntKind.i64.wrap (x.fst - 1))).bind fun (x_1 : Int × Int × Int) => (atL x.snd.fst (IntKind.i64.wrap (x.fst - 1))).bind fun (y : Int × Int × Int) => (atL x.snd.fst x.fst).bind fun (x_2 : Int × Int × Int) => (atL x.snd.fst x.fst).bind fun (y_1 : Int × Int × Int) => (atL x.snd.snd (IntKind.i64.wrap (x.fst - 1))).bind fun (x_3 : Int × Int) => (atL x.snd.snd (IntKind.i64.wrap (x.fst - 1))).bind fun (y_2 : Int × Int) => (atL x.snd.snd x.fst).bind fun (x_4 : Int × Int) => (atL x.snd.snd x.fst).bind fun (y_3 : Int × Int) => some (Sum.inl (IntKind.i64.wrap (x.fst - 1), List.set x.snd.fst (Int.toNat x.fst) y, List.set x.snd.snd (Int.toNat x.fst) y_2)) else some (Sum.inr (Sum.inl x.snd))
noncomputable def ref05_Combine_b4 (x : Int) (y : Sl yT) : List yT × List (Int × Int) × Int → Option (List yT × List (Int × Int) × Int ⊕ List yT × List (Int × Int) ⊕ Empty) := fun (x_1 : List yT × List (Int × Int) × Int) => if x_1.snd.snd < (↑y.l.length : Int) then (loopO (ref05_Combine_b1 y x_1) 0).bind fun (y_1 : Int ⊕ Empty) => Sum.elim (fun (val : Int) => (atS 3 y x_1.snd.snd).bind fun (y_2 : Int × Int × Int) => (ref01_Of y_2.snd.snd).bind fun (out : Int × Int) => if val < (↑(List.length x_1.fst) : Int) then (atS 3 y x_1.snd.snd).bind fun (y_3 : Int × Int × Int) => (atL x_1.fst val).bind fun (x_2 : Int × Int × Int) => (atL x_1.fst val).bind fun (y_4 : Int × Int × Int) => (ref05_below y_3 y_4).bind fun (out_1 : Bool) => if ¬out_1 = true then (atL x_1.snd.fst val).bind fun (x_3 : Int × Int) => (atL x_1.snd.fst val).bind fun (y : Int × Int) => (ref02_Add x y out).bind fun (out : Int × Int) => (atL x_1.snd.fst val).bind fun (x : Int × Int) => (atL x_1.snd.fst val).bind fun (y : Int × Int) => some (Sum.inl (x_1.fst, List.set x_1.snd.fst val.toNat out, IntKind.i64.wrap (x_1.snd.snd + 1))) else (app x_1.fst [(0, 0, 0)]).bind fun (lm : List yT) => (app x_1.snd.fst [(0, 0)]).bind fun (lm_1 : List (Int × Int)) => (loopO (ref05_Combine_b2 val) (IntKind.i64.wrap ((↑lm.length : Int) - 1), lm, lm_1)).bind fun (y_5 : List yT × List (Int × Int) ⊕ Empty) => Sum.elim (fun (val_1 : List yT × List (Int × Int)) => (atS 3 y x_1.snd.snd).bind fun (y_6 : Int × Int × Int) => (atS 3 y x_1.snd.snd).bind fun (y : Int × Int × Int) => (atL val_1.fst val).bind fun (x : Int × Int × Int) => (atL val_1.fst val).bind fun (y_7 : Int × Int × Int) => (atL val_1.snd val).bind fun (x : Int × Int) => (atL val_1.snd val).bind fun (y_8 : Int × Int) => (neL (List.set val_1.fst val.toNat (y_6.fst, y.snd.fst, 0))).bind fun (x : PUnit) => (neL (List.set val_1.snd val.toNat out)).bind fun (x : PUnit) => some (Sum.inl (List.set val_1.fst val.toNat (y_6.fst, y.snd.fst, 0), List.set val_1.snd val.toNat out, IntKind.i64.wrap (x_1.snd.snd + 1)))) (fun (val : Empty) => nE val) y_5 else (app x_1.fst [(0, 0, 0)]).bind fun (lm : List yT) => (app x_1.snd.fst [(0, 0)]).bind fun (lm_1 : List (Int × Int)) => (loopO (ref05_Combine_b3 val) (IntKind.i64.wrap ((↑lm.length : Int) - 1), lm, lm_1)).bind fun (y_3 : List yT × List (Int × Int) ⊕ Empty) => Sum.elim (fun (val_1 : List yT × List (Int × Int)) => (atS 3 y x_1.snd.snd).bind fun (y_4 : Int × Int × Int) => (atS 3 y x_1.snd.snd).bind fun (y : Int × Int × Int) => (atL val_1.fst val).bind fun (x : Int × Int × Int) => (atL val_1.fst val).bind fun (y_5 : Int × Int × Int) => (atL val_1.snd val).bind fun (x : Int × Int) => (atL val_1.snd val).bind fun (y_6 : Int × Int) => (neL (List.set val_1.fst val.toNat (y_4.fst, y.snd.fst, 0))).bind fun (x : PUnit) => (neL (List.set val_1.snd val.toNat out)).bind fun (x : PUnit) => some (Sum.inl (List.set val_1.fst val.toNat (y_4.fst, y.snd.fst, 0), List.set val_1.snd val.toNat out, IntKind.i64.wrap (x_1.snd.snd + 1)))) (fun (val : Empty) => nE val) y_3) (fun (val : Empty) => nE val) y_1 else some (Sum.inr (Sum.inl (x_1.fst, x_1.snd.fst)))
noncomputable def ref05_Combine_b5 (val : List yT × List (Int × Int)) : List yT × Int → Option (List yT × Int ⊕ List yT ⊕ List yT × Int ⊕ Empty) := fun (x : List yT × Int) => if x.snd < (↑(List.length x.fst) : Int) then (atL val.snd x.snd).bind fun (x_1 : Int × Int) => (atL val.snd x.snd).bind fun (y : Int × Int) => (ref01_Narrow y).bind fun (out : Int × Bool) => if ¬out.snd = true then some (Sum.inr (Sum.inr (Sum.inl ([], 12)))) else (atL x.fst x.snd).bind fun (x_2 : Int × Int × Int) => (atL x.fst x.snd).bind fun (y : Int × Int × Int) => some (Sum.inl (List.set x.fst (Int.toNat x.snd) (y.fst, y.snd.fst, out.fst), IntKind.i64.wrap (x.snd + 1))) else some (Sum.inr (Sum.inl x.fst))
theorem ref05_Combine_eq (x : Int) (y : Sl yT) : ref05_Combine x y = (ref02_Is x).bind fun (out : Bool) => if ¬out = true then some ({ nn := false, sz := 0, l := [] }, 8) else (loopO (ref05_Combine_b4 x y) ([], [], 0)).bind fun (y : List yT × List (Int × Int) ⊕ Empty) => Sum.elim (fun (val : List yT × List (Int × Int)) => (loopO (ref05_Combine_b5 val) (val.fst, 0)).bind fun (y : List yT ⊕ List yT × Int ⊕ Empty) => Sum.elim (fun (val : List yT) => some (mo 3 val, 0)) (fun (val : List yT × Int ⊕ Empty) => Sum.elim (fun (val : List yT × Int) => some (mo 3 val.fst, val.snd)) (fun (val : Empty) => nE val) val) y) (fun (val : Empty) => nE val) y := by kernel_rfl
noncomputable def ref07_built_b1 (x : Int) : Int × List Int → Option (Int × List Int ⊕ List Int ⊕ Empty) := fun (x_1 : Int × List Int) => if x_1.fst ≤ x then (atL x_1.snd x_1.fst).bind fun (x : Int) => (atL x_1.snd x_1.fst).bind fun (y : Int) => (atL x_1.snd x_1.fst).bind fun (x : Int) => (atL x_1.snd x_1.fst).bind fun (y_1 : Int) => some (Sum.inl (IntKind.i64.wrap (x_1.fst + 1), List.set x_1.snd (Int.toNat x_1.fst) (IntKind.i64.wrap (y + 1)))) else some (Sum.inr (Sum.inl x_1.snd))
noncomputable def ref07_built_b2 (x : Int) (z : Sl yT) : Int × Int × Int × List Int × List Int × List Int → Option (Int × Int × Int × List Int × List Int × List Int ⊕ Int × Int × List Int × List Int × List Int ⊕ Empty) := fun (x_1 : Int × Int × Int × List Int × List Int × List Int) => if x_1.fst < (↑z.l.length : Int) then (atS 3 z x_1.fst).bind fun (y : Int × Int × Int) => (app x_1.snd.snd.snd.snd.fst [y.snd.fst]).bind fun (lm : List Int) => (atS 3 z x_1.fst).bind fun (y : Int × Int × Int) => (app x_1.snd.snd.snd.snd.snd [y.snd.snd]).bind fun (lm_1 : List Int) => (atS 3 z x_1.fst).bind fun (y : Int × Int × Int) => (loopO (ref07_built_b1 x) (IntKind.i64.wrap (y.fst + 1), x_1.snd.snd.snd.fst)).bind fun (y : List Int ⊕ Empty) => Sum.elim (fun (val : List Int) => some (Sum.inl (IntKind.i64.wrap (x_1.fst + 1), x_1.snd.fst, x_1.snd.snd.fst, val, lm, lm_1))) (fun (val : Empty) => nE val) y else some (Sum.inr (Sum.inl x_1.snd))
theorem ref07_built_eq (x : Int) (y : Int) (z : Sl yT) : ref07_built x y z = (capOk (IntKind.i64.wrap (x + 1)) (IntKind.i64.wrap (x + 1))).bind fun (x_1 : PUnit) => (lenOk (IntKind.i64.wrap (x + 1))).bind fun (x_2 : PUnit) => (loopO (ref07_built_b2 x z) (0, x, y, List.replicate (IntKind.i64.wrap (x + 1)).toNat 0, [], [])).bind fun (y : Int × Int × List Int × List Int × List Int ⊕ Empty) => Sum.elim (fun (val : Int × Int × List Int × List Int × List Int) => some (val.fst, val.snd.fst, { nn := true, sz := 1, l := val.snd.snd.fst }, mo 1 val.snd.snd.snd.fst, mo 1 val.snd.snd.snd.snd)) (fun (val : Empty) => nE val) y := by kernel_rfl
noncomputable def ref07_Of_b1 (y : Int) (z : Int) (u : Sl yT) : List yT × Int × Int × Int × List Int × List Int × List Int → Option (List yT × Int × Int × Int × List Int × List Int × List Int ⊕ List yT × Int × Int × List Int × List Int × List Int ⊕ Int × Int × Int × List Int × List Int × List Int ⊕ Empty) := fun (x : List yT × Int × Int × Int × List Int × List Int × List Int) => if x.snd.fst < (↑u.l.length : Int) then (atS 3 u x.snd.fst).bind fun (y_1 : Int × Int × Int) => if y_1.fst < 0 then some (Sum.inr (Sum.inr (Sum.inl (3, 0, 0, [], [], [])))) else (atS 3 u x.snd.fst).bind fun (y_2 : Int × Int × Int) => if y_2.fst ≥ y then some (Sum.inr (Sum.inr (Sum.inl (3, 0, 0, [], [], [])))) else (atS 3 u x.snd.fst).bind fun (y : Int × Int × Int) => if y.snd.fst < 0 then some (Sum.inr (Sum.inr (Sum.inl (3, 0, 0, [], [], [])))) else (atS 3 u x.snd.fst).bind fun (y : Int × Int × Int) => if y.snd.fst ≥ z then some (Sum.inr (Sum.inr (Sum.inl (3, 0, 0, [], [], [])))) else (atS 3 u x.snd.fst).bind fun (y : Int × Int × Int) => (atS 3 u x.snd.fst).bind fun (y_3 : Int × Int × Int) => (atS 3 u x.snd.fst).bind fun (y_4 : Int × Int × Int) => (app x.fst [(y.fst, y_3.snd.fst, y_4.snd.snd)]).bind fun (lm : List yT) => some (Sum.inl (lm, IntKind.i64.wrap (x.snd.fst + 1), x.snd.snd)) else some (Sum.inr (Sum.inl (x.fst, x.snd.snd)))
noncomputable def ref07_Of_b2 (out : Sl yT × Int) : List yT × Int → Option (List yT × Int ⊕ List yT ⊕ Empty) := fun (x : List yT × Int) => if x.snd < (↑out.fst.l.length : Int) then (atS 3 out.fst x.snd).bind fun (y : Int × Int × Int) => (atS 3 out.fst x.snd).bind fun (y_1 : Int × Int × Int) => (atS 3 out.fst x.snd).bind fun (y_2 : Int × Int × Int) => (app x.fst [(y.fst, y_1.snd.fst, y_2.snd.snd)]).bind fun (lm : List yT) => some (Sum.inl (lm, IntKind.i64.wrap (x.snd + 1))) else some (Sum.inr (Sum.inl x.fst))
theorem ref07_Of_eq (x : Int) (y : Int) (z : Int) (u : Sl yT) : ref07_Of x y z u = (ref02_Is x).bind fun (out : Bool) => if ¬out = true then some ((0, 0, { nn := false, sz := 0, l := [] }, { nn := false, sz := 0, l := [] }, { nn := false, sz := 0, l := [] }), 8) else if y < 0 then some ((0, 0, { nn := false, sz := 0, l := [] }, { nn := false, sz := 0, l := [] }, { nn := false, sz := 0, l := [] }), 3) else if y > 4096 then some ((0, 0, { nn := false, sz := 0, l := [] }, { nn := false, sz := 0, l := [] }, { nn := false, sz := 0, l := [] }), 3) else if z < 0 then some ((0, 0, { nn := false, sz := 0, l := [] }, { nn := false, sz := 0, l := [] }, { nn := false, sz := 0, l := [] }), 3) else if z > 4096 then some ((0, 0, { nn := false, sz := 0, l := [] }, { nn := false, sz := 0, l := [] }, { nn := false, sz := 0, l := [] }), 3) else if (↑u.l.length : Int) > 65536 then some ((0, 0, { nn := false, sz := 0, l := [] }, { nn := false, sz := 0, l := [] }, { nn := false, sz := 0, l := [] }), 5) else (loopO (ref07_Of_b1 y z u) ([], 0, 0, 0, [], [], [])).bind fun (y_1 : List yT × Int × Int × List Int × List Int × List Int ⊕ Int × Int × Int × List Int × List Int × List Int ⊕ Empty) => Sum.elim (fun (val : List yT × Int × Int × List Int × List Int × List Int) => (ref05_Combine x (mo 3 val.fst)).bind fun (out : Sl yT × Int) => if out.snd ≠ 0 then some ((0, 0, { nn := false, sz := 0, l := [] }, { nn := false, sz := 0, l := [] }, { nn := false, sz := 0, l := [] }), out.snd) else (loopO (ref07_Of_b2 out) ([], 0)).bind fun (y_2 : List yT ⊕ Empty) => Sum.elim (fun (val : List yT) => (ref07_built y z (mo 3 val)).bind fun (out : yM) => some (out, 0)) (fun (val : Empty) => nE val) y_2) (fun (val : Int × Int × Int × List Int × List Int × List Int ⊕ Empty) => Sum.elim (fun (val : Int × Int × Int × List Int × List Int × List Int) => some ((val.snd.fst, val.snd.snd.fst, mo 1 val.snd.snd.snd.fst, mo 1 val.snd.snd.snd.snd.fst, mo 1 val.snd.snd.snd.snd.snd), val.fst)) (fun (val : Empty) => nE val) val) y_1 := by kernel_rfl
noncomputable def csr_rises_b1 (x : Sl Int) (y : Int) : Int × Int → Option (Int × Int ⊕ PUnit ⊕ Bool ⊕ Empty) := fun (x_1 : Int × Int) => if x_1.snd < (↑x.l.length : Int) then (atS 1 x x_1.snd).bind fun (y_1 : Int) => if y_1 ≤ x_1.fst then some (Sum.inr (Sum.inr (Sum.inl false))) else if y_1 ≥ y then some (Sum.inr (Sum.inr (Sum.inl false))) else some (Sum.inl (y_1, IntKind.i64.wrap (x_1.snd + 1))) else some (Sum.inr (Sum.inl ()))
theorem csr_rises_eq (x : Sl Int) (y : Int) : csr_rises x y = (loopO (csr_rises_b1 x y) (-1, 0)).bind fun (y : PUnit ⊕ Bool ⊕ Empty) => Sum.elim (fun (val : PUnit) => some true) (fun (val : Bool ⊕ Empty) => Sum.elim (fun (val : Bool) => some val) (fun (val : Empty) => nE val) val) y := by kernel_rfl
noncomputable def csr_Right_b1 (x : yM) : Int → Option (Int ⊕ PUnit ⊕ Bool ⊕ Empty) := fun (x_1 : Int) => if x_1 < x.fst then (atS 1 x.snd.snd.fst x_1).bind fun (y : Int) => (atS 1 x.snd.snd.fst (IntKind.i64.wrap (x_1 + 1))).bind fun (y_1 : Int) => if y_1 < y then some (Sum.inr (Sum.inr (Sum.inl false))) else if y_1 > (↑x.snd.snd.snd.fst.l.length : Int) then some (Sum.inr (Sum.inr (Sum.inl false))) else (cutS 1 x.snd.snd.snd.fst y y_1).bind fun (s' : Sl Int) => (csr_rises s' x.snd.fst).bind fun (out : Bool) => if ¬out = true then some (Sum.inr (Sum.inr (Sum.inl false))) else some (Sum.inl (IntKind.i64.wrap (x_1 + 1))) else some (Sum.inr (Sum.inl ()))
theorem csr_Right_eq (x : yM) : csr_Right x = (csr_size x.fst).bind fun (out : Bool) => if ¬out = true then some false else (csr_size x.snd.fst).bind fun (out : Bool) => if ¬out = true then some false else if (↑x.snd.snd.fst.l.length : Int) ≠ IntKind.i64.wrap (x.fst + 1) then some false else (atS 1 x.snd.snd.fst 0).bind fun (y : Int) => if y ≠ 0 then some false else if (↑x.snd.snd.snd.snd.l.length : Int) ≠ (↑x.snd.snd.snd.fst.l.length : Int) then some false else if (↑x.snd.snd.snd.fst.l.length : Int) > 65536 then some false else (atS 1 x.snd.snd.fst x.fst).bind fun (y : Int) => if y ≠ (↑x.snd.snd.snd.fst.l.length : Int) then some false else (loopO (csr_Right_b1 x) 0).bind fun (y : PUnit ⊕ Bool ⊕ Empty) => Sum.elim (fun (val : PUnit) => some true) (fun (val : Bool ⊕ Empty) => Sum.elim (fun (val : Bool) => some val) (fun (val : Empty) => nE val) val) y := by kernel_rfl
theorem csr_sure_eq (x : yM) : csr_sure x = (csr_Right x).bind fun (out : Bool) => if out = true then some x else (csr_build 0 0 { nn := false, sz := 0, l := [] }).bind fun (out : yM) => some out := by kernel_rfl
theorem csr_row_eq (x : yM) (y : Int) : csr_row x y = if y < 0 then some ({ nn := false, sz := 0, l := [] }, { nn := false, sz := 0, l := [] })
else if y ≥ x.fst then some ({ nn := false, sz := 0, l := [] }, { nn := false, sz := 0, l := [] }) else (atS 1 x.snd.snd.fst y).bind fun (y_1 : Int) => (atS 1 x.snd.snd.fst (IntKind.i64.wrap (y + 1))).bind fun (y : Int) => if y ≤ y ∧ y ≤ (↑x.snd.snd.snd.fst.l.length : Int) then (cutS 1 x.snd.snd.snd.fst y_1 y).bind fun (s' : Sl Int) => if y ≤ y ∧ y ≤ (↑x.snd.snd.snd.snd.l.length : Int) then (cutS 1 x.snd.snd.snd.snd y_1 y).bind fun (s'_1 : Sl Int) => some (s', s'_1) else none else none := by kernel_rfl
noncomputable def csr_Turn_b1 (out : yM) : Int × List Int → Option (Int × List Int ⊕ List Int ⊕ Empty) := fun (x : Int × List Int) => if x.fst < (↑out.snd.snd.snd.fst.l.length : Int) then (atS 1 out.snd.snd.snd.fst x.fst).bind fun (y : Int) => (atL x.snd (IntKind.i64.wrap (y + 1))).bind fun (x_1 : Int) => (atL x.snd (IntKind.i64.wrap (y + 1))).bind fun (y_1 : Int) => (atL x.snd (IntKind.i64.wrap (y + 1))).bind fun (x_2 : Int) => (atL x.snd (IntKind.i64.wrap (y + 1))).bind fun (y_2 : Int) => some (Sum.inl (IntKind.i64.wrap (x.fst + 1), List.set x.snd (IntKind.i64.wrap (y + 1)).toNat (IntKind.i64.wrap (y_1 + 1)))) else some (Sum.inr (Sum.inl x.snd))
noncomputable def csr_Turn_b2 : Int × List Int → Option (Int × List Int ⊕ List Int ⊕ Empty) := fun (x : Int × List Int) => if x.fst < (↑(List.length x.snd) : Int) then (atL x.snd x.fst).bind fun (x_1 : Int) => (atL x.snd x.fst).bind fun (y : Int) => (atL x.snd (IntKind.i64.wrap (x.fst - 1))).bind fun (x_2 : Int) => (atL x.snd (IntKind.i64.wrap (x.fst - 1))).bind fun (y_1 : Int) => (atL x.snd x.fst).bind fun (x_3 : Int) => (atL x.snd x.fst).bind fun (y_2 : Int) => some (Sum.inl (IntKind.i64.wrap (x.fst + 1), List.set x.snd (Int.toNat x.fst) (IntKind.i64.wrap (y + y_1)))) else some (Sum.inr (Sum.inl x.snd))
noncomputable def csr_Turn_b3 (x : Int × List Int × List Int × List Int) (out : Sl Int × Sl Int) : Int × List Int × List Int × List Int → Option (Int × List Int × List Int × List Int ⊕ List Int × List Int × List Int ⊕ Empty) := fun (x_1 : Int × List Int × List Int × List Int) => if x_1.fst < (↑out.fst.l.length : Int) then (atS 1 out.fst x_1.fst).bind fun (y : Int) => (atL x_1.snd.snd.snd y).bind fun (x_2 : Int) => (atL x_1.snd.snd.snd y).bind fun (y_1 : Int) => (atL x_1.snd.snd.snd y).bind fun (x_3 : Int) => (atL x_1.snd.snd.snd y).bind fun (y_2 : Int) => (atS 1 out.snd x_1.fst).bind fun (y_3 : Int) => (atL x_1.snd.fst y_1).bind fun (x_4 : Int) => (atL x_1.snd.fst y_1).bind fun (y_4 : Int) => (atL x_1.snd.snd.fst y_2).bind fun (x_5 : Int) => (atL x_1.snd.snd.fst y_2).bind fun (y_5 : Int) => (atL x_1.snd.snd.snd y).bind fun (x_6 : Int) => (atL x_1.snd.snd.snd y).bind fun (y_6 : Int) => (atL x_1.snd.snd.snd y).bind fun (x_7 : Int) => (atL x_1.snd.snd.snd y).bind fun (y_7 : Int) => some (Sum.inl (IntKind.i64.wrap (x_1.fst + 1), List.set x_1.snd.fst y_1.toNat x.fst, List.set x_1.snd.snd.fst y_2.toNat y_3, List.set x_1.snd.snd.snd y.toNat (IntKind.i64.wrap (y_6 + 1)))) else some (Sum.inr (Sum.inl x_1.snd))
noncomputable def csr_Turn_b4 (out : yM) : Int × List Int × List Int × List Int → Option (Int × List Int × List Int × List Int ⊕ List Int × List Int ⊕ Empty) := fun (x : Int × List Int × List Int × List Int) => if x.fst < out.fst then (csr_row out x.fst).bind fun (out : Sl Int × Sl Int) => (loopO (csr_Turn_b3 x out) (0, x.snd)).bind fun (y : List Int × List Int × List Int ⊕ Empty) => Sum.elim (fun (val : List Int × List Int × List Int) => some (Sum.inl (IntKind.i64.wrap (x.fst + 1), val))) (fun (val : Empty) => nE val) y else some (Sum.inr (Sum.inl (x.snd.fst, x.snd.snd.fst)))
theorem csr_Turn_eq (x : yM) : csr_Turn x = (csr_sure x).bind fun (out : yM) => (capOk (IntKind.i64.wrap (out.snd.fst + 1)) (IntKind.i64.wrap (out.snd.fst + 1))).bind fun (x : PUnit) => (lenOk (IntKind.i64.wrap (out.snd.fst + 1))).bind fun (x : PUnit) => (capOk (↑out.snd.snd.snd.fst.l.length : Int) (↑out.snd.snd.snd.fst.l.length : Int)).bind fun (x : PUnit) => (lenOk (↑out.snd.snd.snd.fst.l.length : Int)).bind fun (x : PUnit) => (capOk (↑out.snd.snd.snd.snd.l.length : Int) (↑out.snd.snd.snd.snd.l.length : Int)).bind fun (x : PUnit) => (lenOk (↑out.snd.snd.snd.snd.l.length : Int)).bind fun (x : PUnit) => (loopO (csr_Turn_b1 out) (0, List.replicate (IntKind.i64.wrap (out.snd.fst + 1)).toNat 0)).bind fun (y : List Int ⊕ Empty) => Sum.elim (fun (val : List Int) => (loopO csr_Turn_b2 (1, val)).bind fun (y : List Int ⊕ Empty) => Sum.elim (fun (val : List Int) => (app [] val).bind fun (lm : List Int) => (loopO (csr_Turn_b4 out) (0, List.replicate (↑out.snd.snd.snd.fst.l.length : Int).toNat 0, List.replicate (↑out.snd.snd.snd.snd.l.length : Int).toNat 0, lm)).bind fun (y : List Int × List Int ⊕ Empty) => Sum.elim (fun (val_1 : List Int × List Int) => some (out.snd.fst, out.fst, { nn := true, sz := 1, l := val }, { nn := true, sz := 1, l := val_1.fst }, { nn := true, sz := 1, l := val_1.snd })) (fun (val : Empty) => nE val) y) (fun (val : Empty) => nE val) y) (fun (val : Empty) => nE val) y := by kernel_rfl
noncomputable def slices_Equal_int_int_b1 (x : Sl Int) (y : Sl Int) : Int → Option (Int ⊕ PUnit ⊕ Bool ⊕ Empty) := fun (x_1 : Int) => if x_1 < (↑x.l.length : Int) then (atS 1 x x_1).bind fun (y_1 : Int) => (atS 1 y x_1).bind fun (y : Int) => if y_1 ≠ y then some (Sum.inr (Sum.inr (Sum.inl false))) else some (Sum.inl (IntKind.i64.wrap (x_1 + 1))) else some (Sum.inr (Sum.inl ()))
theorem slices_Equal_int_int_eq (x : Sl Int) (y : Sl Int) : slices_Equal_int_int x y = if (↑x.l.length : Int) ≠ (↑y.l.length : Int) then some false
else (loopO (slices_Equal_int_int_b1 x y) 0).bind fun (y : PUnit ⊕ Bool ⊕ Empty) => Sum.elim (fun (val : PUnit) => some true) (fun (val : Bool ⊕ Empty) => Sum.elim (fun (val : Bool) => some val) (fun (val : Empty) => nE val) val) y := by kernel_rfl
noncomputable def slices_Equal_int64_int64_b1 (x : Sl Int) (y : Sl Int) : Int → Option (Int ⊕ PUnit ⊕ Bool ⊕ Empty) := fun (x_1 : Int) => if x_1 < (↑x.l.length : Int) then (atS 1 x x_1).bind fun (y_1 : Int) => (atS 1 y x_1).bind fun (y : Int) => if y_1 ≠ y then some (Sum.inr (Sum.inr (Sum.inl false))) else some (Sum.inl (IntKind.i64.wrap (x_1 + 1))) else some (Sum.inr (Sum.inl ()))
theorem slices_Equal_int64_int64_eq (x : Sl Int) (y : Sl Int) : slices_Equal_int64_int64 x y = if (↑x.l.length : Int) ≠ (↑y.l.length : Int) then some false
else (loopO (slices_Equal_int64_int64_b1 x y) 0).bind fun (y : PUnit ⊕ Bool ⊕ Empty) => Sum.elim (fun (val : PUnit) => some true) (fun (val : Bool ⊕ Empty) => Sum.elim (fun (val : Bool) => some val) (fun (val : Empty) => nE val) val) y := by kernel_rfl
noncomputable def ref03_SameInts_b1 (x : Sl Int) (y : Sl Int) : Int → Option (Int ⊕ PUnit ⊕ Bool ⊕ Empty) := fun (x_1 : Int) => if x_1 < (↑x.l.length : Int) then (atS 1 x x_1).bind fun (y_1 : Int) => (atS 1 y x_1).bind fun (y : Int) => if y_1 ≠ y then some (Sum.inr (Sum.inr (Sum.inl false))) else some (Sum.inl (IntKind.i64.wrap (x_1 + 1))) else some (Sum.inr (Sum.inl ()))
theorem ref03_SameInts_eq (x : Sl Int) (y : Sl Int) : ref03_SameInts x y = if (↑x.l.length : Int) ≠ (↑y.l.length : Int) then some false
else (loopO (ref03_SameInts_b1 x y) 0).bind fun (y : PUnit ⊕ Bool ⊕ Empty) => Sum.elim (fun (val : PUnit) => some true) (fun (val : Bool ⊕ Empty) => Sum.elim (fun (val : Bool) => some val) (fun (val : Empty) => nE val) val) y := by kernel_rfl
noncomputable def ref07_SameVals_b1 (x : Sl Int) (y : Sl Int) : Int → Option (Int ⊕ PUnit ⊕ Bool ⊕ Empty) := fun (x_1 : Int) => if x_1 < (↑x.l.length : Int) then (atS 1 x x_1).bind fun (y_1 : Int) => (atS 1 y x_1).bind fun (y : Int) => if y_1 ≠ y then some (Sum.inr (Sum.inr (Sum.inl false))) else some (Sum.inl (IntKind.i64.wrap (x_1 + 1))) else some (Sum.inr (Sum.inl ()))
theorem ref07_SameVals_eq (x : Sl Int) (y : Sl Int) : ref07_SameVals x y = if (↑x.l.length : Int) ≠ (↑y.l.length : Int) then some false
else (loopO (ref07_SameVals_b1 x y) 0).bind fun (y : PUnit ⊕ Bool ⊕ Empty) => Sum.elim (fun (val : PUnit) => some true) (fun (val : Bool ⊕ Empty) => Sum.elim (fun (val : Bool) => some val) (fun (val : Empty) => nE val) val) y := by kernel_rfl
theorem ref07_Same_eq (x : yM) (y : yM) : ref07_Same x y = if x.fst = y.fst then if x.snd.fst = y.snd.fst then (ref03_SameInts x.snd.snd.fst y.snd.snd.fst).bind fun (out : Bool) => if out = true then (ref03_SameInts x.snd.snd.snd.fst y.snd.snd.snd.fst).bind fun (out : Bool) => if out = true then (ref07_SameVals x.snd.snd.snd.snd y.snd.snd.snd.snd).bind fun (out : Bool) => some (decide (out = true)) else some false else some false else some false
else some false := by kernel_rfl
noncomputable def ref07_Right_b1 (x : yM) (x'2 : Int) : Int → Option (Int ⊕ PUnit ⊕ Bool ⊕ Empty) := fun (x_1 : Int) => (atS 1 x.snd.snd.fst (IntKind.i64.wrap (x'2 + 1))).bind fun (y : Int) => if x_1 < y then (atS 1 x.snd.snd.snd.fst x_1).bind fun (y : Int) => if y < 0 then some (Sum.inr (Sum.inr (Sum.inl false))) else (atS 1 x.snd.snd.snd.fst x_1).bind fun (y : Int) => if y ≥ x.snd.fst then some (Sum.inr (Sum.inr (Sum.inl false))) else (atS 1 x.snd.snd.fst x'2).bind fun (y : Int) => if x_1 > y then (atS 1 x.snd.snd.snd.fst x_1).bind fun (y : Int) => (atS 1 x.snd.snd.snd.fst (IntKind.i64.wrap (x_1 - 1))).bind fun (y_1 : Int) => if y ≤ y_1 then some (Sum.inr (Sum.inr (Sum.inl false))) else some (Sum.inl (IntKind.i64.wrap (x_1 + 1))) else some (Sum.inl (IntKind.i64.wrap (x_1 + 1))) else some (Sum.inr (Sum.inl ()))
noncomputable def ref07_Right_b2 (x : yM) : Int → Option (Int ⊕ PUnit ⊕ Bool ⊕ Empty) := fun (x_1 : Int) => if x_1 < x.fst then (atS 1 x.snd.snd.fst x_1).bind fun (y : Int) => (atS 1 x.snd.snd.fst (IntKind.i64.wrap (x_1 + 1))).bind fun (y_1 : Int) => if y > y_1 then some (Sum.inr (Sum.inr (Sum.inl false))) else (atS 1 x.snd.snd.fst x_1).bind fun (y : Int) => if y < 0 then some (Sum.inr (Sum.inr (Sum.inl false))) else (atS 1 x.snd.snd.fst (IntKind.i64.wrap (x_1 + 1))).bind fun (y : Int) => if y > (↑x.snd.snd.snd.fst.l.length : Int) then some (Sum.inr (Sum.inr (Sum.inl false))) else (atS 1 x.snd.snd.fst x_1).bind fun (y : Int) => (loopO (ref07_Right_b1 x x_1) y).bind fun (y : PUnit ⊕ Bool ⊕ Empty) => Sum.elim (fun (val : PUnit) => some (Sum.inl (IntKind.i64.wrap (x_1 + 1)))) (fun (val : Bool ⊕ Empty) => Sum.elim (fun (val : Bool) => some (Sum.inr (Sum.inr (Sum.inl val)))) (fun (val : Empty) => nE val) val) y else some (Sum.inr (Sum.inl ()))
theorem ref07_Right_eq (x : yM) : ref07_Right x = if x.fst < 0 then some false
else if x.fst > 4096 then some false else if x.snd.fst < 0 then some false else if x.snd.fst > 4096 then some false else if (↑x.snd.snd.fst.l.length : Int) ≠ IntKind.i64.wrap (x.fst + 1) then some false else if (↑x.snd.snd.snd.fst.l.length : Int) ≠ (↑x.snd.snd.snd.snd.l.length : Int) then some false else if (↑x.snd.snd.snd.fst.l.length : Int) > 65536 then some false else (atS 1 x.snd.snd.fst 0).bind fun (y : Int) => if y ≠ 0 then some false else (atS 1 x.snd.snd.fst x.fst).bind fun (y : Int) => if y ≠ (↑x.snd.snd.snd.fst.l.length : Int) then some false else (loopO (ref07_Right_b2 x) 0).bind fun (y : PUnit ⊕ Bool ⊕ Empty) => Sum.elim (fun (val : PUnit) => some true) (fun (val : Bool ⊕ Empty) => Sum.elim (fun (val : Bool) => some val) (fun (val : Empty) => nE val) val) y := by kernel_rfl
theorem ref07_Sure_eq (x : yM) : ref07_Sure x = (ref07_Right x).bind fun (out : Bool) => if out = true then some x else (capOk (IntKind.i64.wrap (0 + 1)) (IntKind.i64.wrap (0 + 1))).bind fun (x : PUnit) => (lenOk (IntKind.i64.wrap (0 + 1))).bind fun (x : PUnit) => some (0, 0, { nn := true, sz := 1, l := List.replicate (IntKind.i64.wrap (0 + 1)).toNat 0 }, { nn := false, sz := 0, l := [] }, { nn := false, sz := 0, l := [] }) := by kernel_rfl
noncomputable def ref07_Row_b1 (y : Int) (out : yM) : List (Int × Int) × Int → Option (List (Int × Int) × Int ⊕ List (Int × Int) ⊕ Empty) := fun (x : List (Int × Int) × Int) => (atS 1 out.snd.snd.fst (IntKind.i64.wrap (y + 1))).bind fun (y : Int) => if x.snd < y then (atS 1 out.snd.snd.snd.fst x.snd).bind fun (y : Int) => (atS 1 out.snd.snd.snd.snd x.snd).bind fun (y_1 : Int) => (app x.fst [(y, y_1)]).bind fun (lm : List (Int × Int)) => some (Sum.inl (lm, IntKind.i64.wrap (x.snd + 1))) else some (Sum.inr (Sum.inl x.fst))
theorem ref07_Row_eq (x : yM) (y : Int) : ref07_Row x y = (ref07_Sure x).bind fun (out : yM) => if y < 0 then some [] else if y ≥ out.fst then some [] else (atS 1 out.snd.snd.fst y).bind fun (y_1 : Int) => (loopO (ref07_Row_b1 y out) ([], y_1)).bind fun (y : List (Int × Int) ⊕ Empty) => Sum.elim (fun (val : List (Int × Int)) => some val) (fun (val : Empty) => nE val) y := by kernel_rfl
noncomputable def ref07_SameItems_b1 (x : Sl (Int × Int)) (y : Sl (Int × Int)) : Int → Option (Int ⊕ PUnit ⊕ Bool ⊕ Empty) := fun (x_1 : Int) => if x_1 < (↑x.l.length : Int) then (atS 2 x x_1).bind fun (y_1 : Int × Int) => (atS 2 y x_1).bind fun (y : Int × Int) => if ¬(y_1.fst = y.fst ∧ y_1.snd = y.snd) then some (Sum.inr (Sum.inr (Sum.inl false))) else some (Sum.inl (IntKind.i64.wrap (x_1 + 1))) else some (Sum.inr (Sum.inl ()))
theorem ref07_SameItems_eq (x : Sl (Int × Int)) (y : Sl (Int × Int)) : ref07_SameItems x y = if (↑x.l.length : Int) ≠ (↑y.l.length : Int) then some false
else (loopO (ref07_SameItems_b1 x y) 0).bind fun (y : PUnit ⊕ Bool ⊕ Empty) => Sum.elim (fun (val : PUnit) => some true) (fun (val : Bool ⊕ Empty) => Sum.elim (fun (val : Bool) => some val) (fun (val : Empty) => nE val) val) y := by kernel_rfl
noncomputable def ref07_Triples_b1 (out : yM) (x : List yT × Int) : List yT × Int → Option (List yT × Int ⊕ List yT ⊕ Empty) := fun (x_1 : List yT × Int) => (atS 1 out.snd.snd.fst (IntKind.i64.wrap (x.snd + 1))).bind fun (y : Int) => if x_1.snd < y then (atS 1 out.snd.snd.snd.fst x_1.snd).bind fun (y : Int) => (atS 1 out.snd.snd.snd.snd x_1.snd).bind fun (y_1 : Int) => (app x_1.fst [(x.snd, y, y_1)]).bind fun (lm : List yT) => some (Sum.inl (lm, IntKind.i64.wrap (x_1.snd + 1))) else some (Sum.inr (Sum.inl x_1.fst))
noncomputable def ref07_Triples_b2 (out : yM) : List yT × Int → Option (List yT × Int ⊕ List yT ⊕ Empty) := fun (x : List yT × Int) => if x.snd < out.fst then (atS 1 out.snd.snd.fst x.snd).bind fun (y : Int) => (loopO (ref07_Triples_b1 out x) (x.fst, y)).bind fun (y : List yT ⊕ Empty) => Sum.elim (fun (val : List yT) => some (Sum.inl (val, IntKind.i64.wrap (x.snd + 1)))) (fun (val : Empty) => nE val) y else some (Sum.inr (Sum.inl x.fst))
theorem ref07_Triples_eq (x : yM) : ref07_Triples x = (ref07_Sure x).bind fun (out : yM) => (loopO (ref07_Triples_b2 out) ([], 0)).bind fun (y : List yT ⊕ Empty) => Sum.elim (fun (val : List yT) => some val) (fun (val : Empty) => nE val) y := by kernel_rfl
noncomputable def ref07_Turn_b1 (out : List yT) (x : List yT × Int) : List yT × Int → Option (List yT × Int ⊕ List yT ⊕ Empty) := fun (x_1 : List yT × Int) => if x_1.snd < (↑out.length : Int) then (atL out x_1.snd).bind fun (x_2 : Int × Int × Int) => (atL out x_1.snd).bind fun (y : Int × Int × Int) => if y.snd.fst = x.snd then (atL out x_1.snd).bind fun (x_3 : Int × Int × Int) => (atL out x_1.snd).bind fun (y : Int × Int × Int) => (atL out x_1.snd).bind fun (x_4 : Int × Int × Int) => (atL out x_1.snd).bind fun (y_1 : Int × Int × Int) => (app x_1.fst [(x.snd, y.fst, y_1.snd.snd)]).bind fun (lm : List yT) => some (Sum.inl (lm, IntKind.i64.wrap (x_1.snd + 1))) else some (Sum.inl (x_1.fst, IntKind.i64.wrap (x_1.snd + 1))) else some (Sum.inr (Sum.inl x_1.fst))
noncomputable def ref07_Turn_b2 (out : yM) (out'2 : List yT) : List yT × Int → Option (List yT × Int ⊕ List yT ⊕ Empty) := fun (x : List yT × Int) => if x.snd < out.snd.fst then (loopO (ref07_Turn_b1 out'2 x) (x.fst, 0)).bind fun (y : List yT ⊕ Empty) => Sum.elim (fun (val : List yT) => some (Sum.inl (val, IntKind.i64.wrap (x.snd + 1)))) (fun (val : Empty) => nE val) y else some (Sum.inr (Sum.inl x.fst))
theorem ref07_Turn_eq (x : yM) : ref07_Turn x = (ref07_Sure x).bind fun (out : yM) => (ref07_Triples out).bind fun (out_1 : List yT) => (loopO (ref07_Turn_b2 out out_1) ([], 0)).bind fun (y : List yT ⊕ Empty) => Sum.elim (fun (val : List yT) => (ref07_built out.snd.fst out.fst (mo 3 val)).bind fun (out : yM) => some out) (fun (val : Empty) => nE val) y := by kernel_rfl
theorem law07_Size_eq (x : Int) : law07_Size x = (modO (IntKind.i64.wrap x) 40).bind fun (z : Int) => some z := by kernel_rfl
noncomputable def law07_Some_b1 (out : Int) (out'2 : Int) (out'4 : Sl yT) : List yT × Int → Option (List yT × Int ⊕ List yT ⊕ Empty) := fun (x : List yT × Int) => if x.snd < (↑out'4.l.length : Int) then (atS 3 out'4 x.snd).bind fun (y : Int × Int × Int) => if y.fst < 0 then some (Sum.inl (x.fst, IntKind.i64.wrap (x.snd + 1))) else if y.snd.fst < 0 then some (Sum.inl (x.fst, IntKind.i64.wrap (x.snd + 1))) else if out = 0 then some (Sum.inl (x.fst, IntKind.i64.wrap (x.snd + 1))) else if out'2 = 0 then some (Sum.inl (x.fst, IntKind.i64.wrap (x.snd + 1))) else (modO y.fst out).bind fun (z : Int) => (modO y.snd.fst out'2).bind fun (z_1 : Int) => (app x.fst [(z, z_1, y.snd.snd)]).bind fun (lm : List yT) => some (Sum.inl (lm, IntKind.i64.wrap (x.snd + 1))) else some (Sum.inr (Sum.inl x.fst))
theorem law07_Some_eq (x : Int × Int) (y : Sl yT) : law07_Some x y = (law07_Size x.fst).bind fun (out : Int) => (law07_Size x.snd).bind fun (out_1 : Int) => (law07_Few y).bind fun (out_2 : Sl yT) => (loopO (law07_Some_b1 out out_1 out_2) ([], 0)).bind fun (y : List yT ⊕ Empty) => Sum.elim (fun (val : List yT) => (ref07_Of 1 out out_1 (mo 3 val)).bind fun (out_3 : (yM) × Int) => if out_3.snd ≠ 0 then (capOk (IntKind.i64.wrap (out + 1)) (IntKind.i64.wrap (out + 1))).bind fun (x : PUnit) => (lenOk (IntKind.i64.wrap (out + 1))).bind fun (x : PUnit) => some (out, out_1, { nn := true, sz := 1, l := List.replicate (IntKind.i64.wrap (out + 1)).toNat 0 }, { nn := false, sz := 0, l := [] }, { nn := false, sz := 0, l := [] }) else some out_3.fst) (fun (val : Empty) => nE val) y := by kernel_rfl
theorem dcsc_size_eq (x : Int) : dcsc_size x = if x ≥ 0 then some (decide (x ≤ 4096)) else some false := by kernel_rfl
noncomputable def dcsc_rises_b1 (x : Sl Int) (y : Int) : Int × Int → Option (Int × Int ⊕ PUnit ⊕ Bool ⊕ Empty) := fun (x_1 : Int × Int) => if x_1.snd < (↑x.l.length : Int) then (atS 1 x x_1.snd).bind fun (y_1 : Int) => if y_1 ≤ x_1.fst then some (Sum.inr (Sum.inr (Sum.inl false))) else if y_1 ≥ y then some (Sum.inr (Sum.inr (Sum.inl false))) else some (Sum.inl (y_1, IntKind.i64.wrap (x_1.snd + 1))) else some (Sum.inr (Sum.inl ()))
theorem dcsc_rises_eq (x : Sl Int) (y : Int) : dcsc_rises x y = (loopO (dcsc_rises_b1 x y) (-1, 0)).bind fun (y : PUnit ⊕ Bool ⊕ Empty) => Sum.elim (fun (val : PUnit) => some true) (fun (val : Bool ⊕ Empty) => Sum.elim (fun (val : Bool) => some val) (fun (val : Empty) => nE val) val) y := by kernel_rfl
noncomputable def dcsc_Right_b1 (x : yC) : Int → Option (Int ⊕ PUnit ⊕ Bool ⊕ Empty) := fun (x_1 : Int) => if x_1 < (↑x.snd.snd.fst.l.length : Int) then (atS 1 x.snd.snd.snd.fst x_1).bind fun (y : Int) => (atS 1 x.snd.snd.snd.fst (IntKind.i64.wrap (x_1 + 1))).bind fun (y_1 : Int) => if y_1 ≤ y then some (Sum.inr (Sum.inr (Sum.inl false))) else if y_1 > (↑x.snd.snd.snd.snd.fst.l.length : Int) then some (Sum.inr (Sum.inr (Sum.inl false))) else (cutS 1 x.snd.snd.snd.snd.fst y y_1).bind fun (s' : Sl Int) => (dcsc_rises s' x.fst).bind fun (out : Bool) => if ¬out = true then some (Sum.inr (Sum.inr (Sum.inl false))) else some (Sum.inl (IntKind.i64.wrap (x_1 + 1))) else some (Sum.inr (Sum.inl ()))
theorem dcsc_Right_eq (x : yC) : dcsc_Right x = (dcsc_size x.fst).bind fun (out : Bool) => if ¬out = true then some false else (dcsc_size x.snd.fst).bind fun (out : Bool) => if ¬out = true then some false else if (↑x.snd.snd.snd.fst.l.length : Int) ≠ IntKind.i64.wrap ((↑x.snd.snd.fst.l.length : Int) + 1) then some false else (atS 1 x.snd.snd.snd.fst 0).bind fun (y : Int) => if y ≠ 0 then some false else (dcsc_rises x.snd.snd.fst x.snd.fst).bind fun (out : Bool) => if ¬out = true then some false else if (↑x.snd.snd.snd.snd.snd.l.length : Int) ≠ (↑x.snd.snd.snd.snd.fst.l.length : Int) then some false else if (↑x.snd.snd.snd.snd.fst.l.length : Int) > 65536 then some false else (atS 1 x.snd.snd.snd.fst (↑x.snd.snd.fst.l.length : Int)).bind fun (y : Int) => if y ≠ (↑x.snd.snd.snd.snd.fst.l.length : Int) then some false else (loopO (dcsc_Right_b1 x) 0).bind fun (y : PUnit ⊕ Bool ⊕ Empty) => Sum.elim (fun (val : PUnit) => some true) (fun (val : Bool ⊕ Empty) => Sum.elim (fun (val : Bool) => some val) (fun (val : Empty) => nE val) val) y := by kernel_rfl
theorem dcsc_sure_eq (x : yC) : dcsc_sure x = (dcsc_Right x).bind fun (out : Bool) => if out = true then some x else some (0, 0, { nn := false, sz := 0, l := [] }, { nn := true, sz := 1, l := [0] }, { nn := false, sz := 0, l := [] }, { nn := false, sz := 0, l := [] }) := by kernel_rfl
noncomputable def dcsc_find_b1 (x : yC) (y : Int) : Int × Int × Int × Int → Option (Int × Int × Int × Int ⊕ Int × Int ⊕ Empty) := fun (x_1 : Int × Int × Int × Int) => if x_1.snd.snd.fst < x_1.snd.snd.snd then (divO IntKind.i64 (IntKind.i64.wrap (x_1.snd.snd.fst + x_1.snd.snd.snd)) 2).bind fun (z : Int) => (atS 1 x.snd.snd.fst z).bind fun (y_1 : Int) => if y_1 = y then (atS 1 x.snd.snd.snd.fst z).bind fun (y : Int) => (atS 1 x.snd.snd.snd.fst (IntKind.i64.wrap (z + 1))).bind fun (y_2 : Int) => some (Sum.inr (Sum.inl (y, y_2))) else if y_1 < y then some (Sum.inl (x_1.fst, x_1.snd.fst, IntKind.i64.wrap (z + 1), x_1.snd.snd.snd)) else some (Sum.inl (x_1.fst, x_1.snd.fst, x_1.snd.snd.fst, z)) else some (Sum.inr (Sum.inl (x_1.fst, x_1.snd.fst)))
theorem dcsc_find_eq (x : yC) (y : Int) : dcsc_find x y = (loopO (dcsc_find_b1 x y) (0, 0, 0, (↑x.snd.snd.fst.l.length : Int))).bind fun (y : Int × Int ⊕ Empty) => Sum.elim (fun (val : Int × Int) => some val) (fun (val : Empty) => nE val) y := by kernel_rfl
noncomputable def dcsc_Column_b1 (out : yC) (out'2 : Int × Int) : List (Int × Int) × Int → Option (List (Int × Int) × Int ⊕ List (Int × Int) ⊕ Empty) := fun (x : List (Int × Int) × Int) => if x.snd < out'2.snd then (atS 1 out.snd.snd.snd.snd.fst x.snd).bind fun (y : Int) => (atS 1 out.snd.snd.snd.snd.snd x.snd).bind fun (y_1 : Int) => (app x.fst [(y, y_1)]).bind fun (lm : List (Int × Int)) => some (Sum.inl (lm, IntKind.i64.wrap (x.snd + 1))) else some (Sum.inr (Sum.inl x.fst))
theorem dcsc_Column_eq (x : yC) (y : Int) : dcsc_Column x y = (dcsc_sure x).bind fun (out : yC) => (dcsc_find out y).bind fun (out_1 : Int × Int) => (capOk 0 (IntKind.i64.wrap (out_1.snd - out_1.fst))).bind fun (x : PUnit) => (lenOk 0).bind fun (x : PUnit) => (loopO (dcsc_Column_b1 out out_1) (List.replicate (Int.toNat 0) (0, 0), out_1.fst)).bind fun (y : List (Int × Int) ⊕ Empty) => Sum.elim (fun (val : List (Int × Int)) => some val) (fun (val : Empty) => nE val) y := by kernel_rfl
theorem dcsc_Many_eq (x : yC) : dcsc_Many x = (dcsc_sure x).bind fun (out : yC) => some (↑out.snd.snd.fst.l.length : Int) := by kernel_rfl
theorem dcsc_Count_eq (x : yC) : dcsc_Count x = (dcsc_sure x).bind fun (out : yC) => some (↑out.snd.snd.snd.snd.snd.l.length : Int) := by kernel_rfl
noncomputable def dcsc_Back_b1 (out : yC) : Int × List Int → Option (Int × List Int ⊕ List Int ⊕ Empty) := fun (x : Int × List Int) => if x.fst < (↑out.snd.snd.fst.l.length : Int) then (atS 1 out.snd.snd.fst x.fst).bind fun (y : Int) => (atS 1 out.snd.snd.snd.fst (IntKind.i64.wrap (x.fst + 1))).bind fun (y_1 : Int) => (atL x.snd (IntKind.i64.wrap (y + 1))).bind fun (x_1 : Int) => (atL x.snd (IntKind.i64.wrap (y + 1))).bind fun (y_2 : Int) => some (Sum.inl (IntKind.i64.wrap (x.fst + 1), List.set x.snd (IntKind.i64.wrap (y + 1)).toNat y_1)) else some (Sum.inr (Sum.inl x.snd))
noncomputable def dcsc_Back_b2 (out : yC) : Int × List Int → Option (Int × List Int ⊕ List Int ⊕ Empty) := fun (x : Int × List Int) => if x.fst < out.snd.fst then (atL x.snd (IntKind.i64.wrap (x.fst + 1))).bind fun (x_1 : Int) => (atL x.snd (IntKind.i64.wrap (x.fst + 1))).bind fun (y : Int) => (atL x.snd x.fst).bind fun (x_2 : Int) => (atL x.snd x.fst).bind fun (y_1 : Int) => (atL x.snd (IntKind.i64.wrap (x.fst + 1))).bind fun (x_3 : Int) => (atL x.snd (IntKind.i64.wrap (x.fst + 1))).bind fun (y_2 : Int) => some (Sum.inl (IntKind.i64.wrap (x.fst + 1), List.set x.snd (IntKind.i64.wrap (x.fst + 1)).toNat (maxI y y_1))) else some (Sum.inr (Sum.inl x.snd))
theorem dcsc_Back_eq (x : yC) : dcsc_Back x = (dcsc_sure x).bind fun (out : yC) => (capOk (IntKind.i64.wrap (out.snd.fst + 1)) (IntKind.i64.wrap (out.snd.fst + 1))).bind fun (x : PUnit) => (lenOk (IntKind.i64.wrap (out.snd.fst + 1))).bind fun (x : PUnit) => (loopO (dcsc_Back_b1 out) (0, List.replicate (IntKind.i64.wrap (out.snd.fst + 1)).toNat 0)).bind fun (y : List Int ⊕ Empty) => Sum.elim (fun (val : List Int) => (loopO (dcsc_Back_b2 out) (0, val)).bind fun (y : List Int ⊕ Empty) => Sum.elim (fun (val : List Int) => (csr_Turn (out.snd.fst, out.fst, { nn := true, sz := 1, l := val }, out.snd.snd.snd.snd)).bind fun (out : yM) => some out) (fun (val : Empty) => nE val) y) (fun (val : Empty) => nE val) y := by kernel_rfl
noncomputable def dcsc_Work_b1 (y : Sl Int) (out : yC) : Int × Int → Option (Int × Int ⊕ Int ⊕ Empty) := fun (x : Int × Int) => if x.snd < (↑y.l.length : Int) then (atS 1 y x.snd).bind fun (y : Int) => (dcsc_find out y).bind fun (out : Int × Int) => some (Sum.inl (IntKind.i64.wrap (x.fst + IntKind.i64.wrap (out.snd - out.fst)), IntKind.i64.wrap (x.snd + 1))) else some (Sum.inr (Sum.inl x.fst))
theorem dcsc_Work_eq (x : yC) (y : Sl Int) : dcsc_Work x y = (dcsc_sure x).bind fun (out : yC) => (loopO (dcsc_Work_b1 y out) (0, 0)).bind fun (y : Int ⊕ Empty) => Sum.elim (fun (val : Int) => some val) (fun (val : Empty) => nE val) y := by kernel_rfl
theorem dcsc_Same_eq (x : yC) (y : yC) : dcsc_Same x y = (dcsc_sure x).bind fun (out : yC) => (dcsc_sure y).bind fun (out_1 : yC) => if out.fst = out_1.fst then if out.snd.fst = out_1.snd.fst then (slices_Equal_int_int out.snd.snd.fst out_1.snd.snd.fst).bind fun (out_2 : Bool) => if out_2 = true then (slices_Equal_int_int out.snd.snd.snd.fst out_1.snd.snd.snd.fst).bind fun (out_3 : Bool) => if out_3 = true then (slices_Equal_int_int out.snd.snd.snd.snd.fst out_1.snd.snd.snd.snd.fst).bind fun (out_4 : Bool) => if out_4 = true then (slices_Equal_int64_int64 out.snd.snd.snd.snd.snd out_1.snd.snd.snd.snd.snd).bind fun (out : Bool) => some (decide (out = true)) else some false else some false else some false else some false else some false := by kernel_rfl
noncomputable def ref08_Right_b1 (x : yC) (x'2 : Int) : Int → Option (Int ⊕ PUnit ⊕ Bool ⊕ Empty) := fun (x_1 : Int) => (atS 1 x.snd.snd.snd.fst (IntKind.i64.wrap (x'2 + 1))).bind fun (y : Int) => if x_1 < y then (atS 1 x.snd.snd.snd.snd.fst x_1).bind fun (y : Int) => if y < 0 then some (Sum.inr (Sum.inr (Sum.inl false))) else (atS 1 x.snd.snd.snd.snd.fst x_1).bind fun (y : Int) => if y ≥ x.fst then some (Sum.inr (Sum.inr (Sum.inl false))) else (atS 1 x.snd.snd.snd.fst x'2).bind fun (y : Int) => if x_1 > y then (atS 1 x.snd.snd.snd.snd.fst x_1).bind fun (y : Int) => (atS 1 x.snd.snd.snd.snd.fst (IntKind.i64.wrap (x_1 - 1))).bind fun (y_1 : Int) => if y ≤ y_1 then some (Sum.inr (Sum.inr (Sum.inl false))) else some (Sum.inl (IntKind.i64.wrap (x_1 + 1))) else some (Sum.inl (IntKind.i64.wrap (x_1 + 1))) else some (Sum.inr (Sum.inl ()))
noncomputable def ref08_Right_b2 (x : yC) (x'2 : Int) : Int → Option (Int ⊕ PUnit ⊕ Bool ⊕ Empty) := fun (x_1 : Int) => (atS 1 x.snd.snd.snd.fst (IntKind.i64.wrap (x'2 + 1))).bind fun (y : Int) => if x_1 < y then (atS 1 x.snd.snd.snd.snd.fst x_1).bind fun (y : Int) => if y < 0 then some (Sum.inr (Sum.inr (Sum.inl false))) else (atS 1 x.snd.snd.snd.snd.fst x_1).bind fun (y : Int) => if y ≥ x.fst then some (Sum.inr (Sum.inr (Sum.inl false))) else (atS 1 x.snd.snd.snd.fst x'2).bind fun (y : Int) => if x_1 > y then (atS 1 x.snd.snd.snd.snd.fst x_1).bind fun (y : Int) => (atS 1 x.snd.snd.snd.snd.fst (IntKind.i64.wrap (x_1 - 1))).bind fun (y_1 : Int) => if y ≤ y_1 then some (Sum.inr (Sum.inr (Sum.inl false))) else some (Sum.inl (IntKind.i64.wrap (x_1 + 1))) else some (Sum.inl (IntKind.i64.wrap (x_1 + 1))) else some (Sum.inr (Sum.inl ()))
noncomputable def ref08_Right_b3 (x : yC) : Int → Option (Int ⊕ PUnit ⊕ Bool ⊕ Empty) := fun (x_1 : Int) => if x_1 < (↑x.snd.snd.fst.l.length : Int) then (atS 1 x.snd.snd.fst x_1).bind fun (y : Int) => if y < 0 then some (Sum.inr (Sum.inr (Sum.inl false))) else (atS 1 x.snd.snd.fst x_1).bind fun (y : Int) => if y ≥ x.snd.fst then some (Sum.inr (Sum.inr (Sum.inl false))) else if x_1 > 0 then (atS 1 x.snd.snd.fst x_1).bind fun (y : Int) => (atS 1 x.snd.snd.fst (IntKind.i64.wrap (x_1 - 1))).bind fun (y_1 : Int) => if y ≤ y_1 then some (Sum.inr (Sum.inr (Sum.inl false))) else (atS 1 x.snd.snd.snd.fst x_1).bind fun (y : Int) => if y < 0 then some (Sum.inr (Sum.inr (Sum.inl false))) else (atS 1 x.snd.snd.snd.fst x_1).bind fun (y : Int) => (atS 1 x.snd.snd.snd.fst (IntKind.i64.wrap (x_1 + 1))).bind fun (y_2 : Int) => if y ≥ y_2 then some (Sum.inr (Sum.inr (Sum.inl false))) else (atS 1 x.snd.snd.snd.fst (IntKind.i64.wrap (x_1 + 1))).bind fun (y : Int) => if y > (↑x.snd.snd.snd.snd.fst.l.length : Int) then some (Sum.inr (Sum.inr (Sum.inl false))) else (atS 1 x.snd.snd.snd.fst x_1).bind fun (y : Int) => (loopO (ref08_Right_b1 x x_1) y).bind fun (y : PUnit ⊕ Bool ⊕ Empty) => Sum.elim (fun (val : PUnit) => some (Sum.inl (IntKind.i64.wrap (x_1 + 1)))) (fun (val : Bool ⊕ Empty) => Sum.elim (fun (val : Bool) => some (Sum.inr (Sum.inr (Sum.inl val)))) (fun (val : Empty) => nE val) val) y else (atS 1 x.snd.snd.snd.fst x_1).bind fun (y : Int) => if y < 0 then some (Sum.inr (Sum.inr (Sum.inl false))) else (atS 1 x.snd.snd.snd.fst x_1).bind fun (y : Int) => (atS 1 x.snd.snd.snd.fst (IntKind.i64.wrap (x_1 + 1))).bind fun (y_1 : Int) => if y ≥ y_1 then some (Sum.inr (Sum.inr (Sum.inl false))) else (atS 1 x.snd.snd.snd.fst (IntKind.i64.wrap (x_1 + 1))).bind fun (y : Int) => if y > (↑x.snd.snd.snd.snd.fst.l.length : Int) then some (Sum.inr (Sum.inr (Sum.inl false))) else (atS 1 x.snd.snd.snd.fst x_1).bind fun (y : Int) => (loopO (ref08_Right_b2 x x_1) y).bind fun (y : PUnit ⊕ Bool ⊕ Empty) => Sum.elim (fun (val : PUnit) => some (Sum.inl (IntKind.i64.wrap (x_1 + 1)))) (fun (val : Bool ⊕ Empty) => Sum.elim (fun (val : Bool) => some (Sum.inr (Sum.inr (Sum.inl val)))) (fun (val : Empty) => nE val) val) y else some (Sum.inr (Sum.inl ()))
theorem ref08_Right_eq (x : yC) : ref08_Right x = if x.fst < 0 then some false
else if x.fst > 4096 then some false else if x.snd.fst < 0 then some false else if x.snd.fst > 4096 then some false else if (↑x.snd.snd.snd.fst.l.length : Int) ≠ IntKind.i64.wrap ((↑x.snd.snd.fst.l.length : Int) + 1) then some false else if (↑x.snd.snd.snd.snd.fst.l.length : Int) ≠ (↑x.snd.snd.snd.snd.snd.l.length : Int) then some false else if (↑x.snd.snd.snd.snd.fst.l.length : Int) > 65536 then some false else (atS 1 x.snd.snd.snd.fst 0).bind fun (y : Int) => if y ≠ 0 then some false else (atS 1 x.snd.snd.snd.fst (↑x.snd.snd.fst.l.length : Int)).bind fun (y : Int) => if y ≠ (↑x.snd.snd.snd.snd.fst.l.length : Int) then some false else (loopO (ref08_Right_b3 x) 0).bind fun (y : PUnit ⊕ Bool ⊕ Empty) => Sum.elim (fun (val : PUnit) => some true) (fun (val : Bool ⊕ Empty) => Sum.elim (fun (val : Bool) => some val) (fun (val : Empty) => nE val) val) y := by kernel_rfl
theorem ref08_Sure_eq (x : yC) : ref08_Sure x = (ref08_Right x).bind fun (out : Bool) => if out = true then some x else some (0, 0, { nn := false, sz := 0, l := [] }, { nn := true, sz := 1, l := [0] }, { nn := false, sz := 0, l := [] }, { nn := false, sz := 0, l := [] }) := by kernel_rfl
noncomputable def ref08_Column_b1 (y : Int) (out : yC) (x : List (Int × Int) × Int) : List (Int × Int) × Int → Option (List (Int × Int) × Int ⊕ List (Int × Int) ⊕ Empty) := fun (x_1 : List (Int × Int) × Int) => (atS 1 out.snd.snd.snd.fst (IntKind.i64.wrap (x.snd + 1))).bind fun (y_1 : Int) => if x_1.snd < y_1 then (atS 1 out.snd.snd.fst x.snd).bind fun (y_2 : Int) => if y_2 = y then (atS 1 out.snd.snd.snd.snd.fst x_1.snd).bind fun (y : Int) => (atS 1 out.snd.snd.snd.snd.snd x_1.snd).bind fun (y_3 : Int) => (app x_1.fst [(y, y_3)]).bind fun (lm : List (Int × Int)) => some (Sum.inl (lm, IntKind.i64.wrap (x_1.snd + 1))) else some (Sum.inr (Sum.inl x_1.fst)) else some (Sum.inr (Sum.inl x_1.fst))
noncomputable def ref08_Column_b2 (y : Int) (out : yC) : List (Int × Int) × Int → Option (List (Int × Int) × Int ⊕ List (Int × Int) ⊕ Empty) := fun (x : List (Int × Int) × Int) => if x.snd < (↑out.snd.snd.fst.l.length : Int) then if IntKind.i64.wrap (x.snd + 1) < (↑out.snd.snd.snd.fst.l.length : Int) then (atS 1 out.snd.snd.snd.fst x.snd).bind fun (y_1 : Int) => (loopO (ref08_Column_b1 y out x) (x.fst, y_1)).bind fun (y : List (Int × Int) ⊕ Empty) => Sum.elim (fun (val : List (Int × Int)) => some (Sum.inl (val, IntKind.i64.wrap (x.snd + 1)))) (fun (val : Empty) => nE val) y else some (Sum.inr (Sum.inl x.fst)) else some (Sum.inr (Sum.inl x.fst))
theorem ref08_Column_eq (x : yC) (y : Int) : ref08_Column x y = (ref08_Sure x).bind fun (out : yC) => (loopO (ref08_Column_b2 y out) ([], 0)).bind fun (y : List (Int × Int) ⊕ Empty) => Sum.elim (fun (val : List (Int × Int)) => some val) (fun (val : Empty) => nE val) y := by kernel_rfl
noncomputable def ref08_Of_b1 (out : List (Int × Int)) : Int × Int × Int × List Int × List Int × List Int × List Int → Option (Int × Int × Int × List Int × List Int × List Int × List Int ⊕ Int × Int × List Int × List Int × List Int × List Int ⊕ Empty) := fun (x : Int × Int × Int × List Int × List Int × List Int × List Int) => if x.fst < (↑out.length : Int) then (atL out x.fst).bind fun (x_1 : Int × Int) => (atL out x.fst).bind fun (y : Int × Int) => (app x.snd.snd.snd.snd.snd.fst [y.fst]).bind fun (lm : List Int) => (atL out x.fst).bind fun (x_2 : Int × Int) => (atL out x.fst).bind fun (y : Int × Int) => (app x.snd.snd.snd.snd.snd.snd [y.snd]).bind fun (lm_1 : List Int) => some (Sum.inl (IntKind.i64.wrap (x.fst + 1), x.snd.fst, x.snd.snd.fst, x.snd.snd.snd.fst, x.snd.snd.snd.snd.fst, lm, lm_1)) else some (Sum.inr (Sum.inl x.snd))
noncomputable def ref08_Of_b2 (out : yM) : Int × Int × Int × List Int × List Int × List Int × List Int → Option (Int × Int × Int × List Int × List Int × List Int × List Int ⊕ Int × Int × List Int × List Int × List Int × List Int ⊕ Empty) := fun (x : Int × Int × Int × List Int × List Int × List Int × List Int) => if x.fst < out.fst then (ref07_Row out x.fst).bind fun (out : List (Int × Int)) => if (↑out.length : Int) = 0 then some (Sum.inl (IntKind.i64.wrap (x.fst + 1), x.snd)) else (app x.snd.snd.snd.fst [x.fst]).bind fun (lm : List Int) => (loopO (ref08_Of_b1 out) (0, x.snd.fst, x.snd.snd.fst, lm, x.snd.snd.snd.snd)).bind fun (y : Int × Int × List Int × List Int × List Int × List Int ⊕ Empty) => Sum.elim (fun (val : Int × Int × List Int × List Int × List Int × List Int) => (app val.snd.snd.snd.fst [(↑(List.length val.snd.snd.snd.snd.fst) : Int)]).bind fun (lm : List Int) => (neL val.snd.snd.fst).bind fun (x_1 : PUnit) => some (Sum.inl (IntKind.i64.wrap (x.fst + 1), val.fst, val.snd.fst, val.snd.snd.fst, lm, val.snd.snd.snd.snd))) (fun (val : Empty) => nE val) y else some (Sum.inr (Sum.inl x.snd))
theorem ref08_Of_eq (x : yM) : ref08_Of x = (ref07_Turn x).bind fun (out : yM) => (loopO (ref08_Of_b2 out) (0, out.snd.fst, out.fst, [], [0], [], [])).bind fun (y : Int × Int × List Int × List Int × List Int × List Int ⊕ Empty) => Sum.elim (fun (val : Int × Int × List Int × List Int × List Int × List Int) => some (val.fst, val.snd.fst, mo 1 val.snd.snd.fst, { nn := true, sz := 1, l := val.snd.snd.snd.fst }, mo 1 val.snd.snd.snd.snd.fst, mo 1 val.snd.snd.snd.snd.snd)) (fun (val : Empty) => nE val) y := by kernel_rfl
theorem ref08_Same_eq (x : yC) (y : yC) : ref08_Same x y = if x.fst = y.fst then if x.snd.fst = y.snd.fst then (ref03_SameInts x.snd.snd.fst y.snd.snd.fst).bind fun (out : Bool) => if out = true then (ref03_SameInts x.snd.snd.snd.fst y.snd.snd.snd.fst).bind fun (out : Bool) => if out = true then (ref03_SameInts x.snd.snd.snd.snd.fst y.snd.snd.snd.snd.fst).bind fun (out : Bool) => if out = true then (ref07_SameVals x.snd.snd.snd.snd.snd y.snd.snd.snd.snd.snd).bind fun (out : Bool) => some (decide (out = true)) else some false else some false else some false else some false
else some false := by kernel_rfl
noncomputable def ref08_Back_b1 (out : yC) (x : List yT × Int) : List yT × Int → Option (List yT × Int ⊕ List yT ⊕ Empty) := fun (x_1 : List yT × Int) => (atS 1 out.snd.snd.snd.fst (IntKind.i64.wrap (x.snd + 1))).bind fun (y : Int) => if x_1.snd < y then (atS 1 out.snd.snd.snd.snd.fst x_1.snd).bind fun (y : Int) => (atS 1 out.snd.snd.fst x.snd).bind fun (y_1 : Int) => (atS 1 out.snd.snd.snd.snd.snd x_1.snd).bind fun (y_2 : Int) => (app x_1.fst [(y, y_1, y_2)]).bind fun (lm : List yT) => some (Sum.inl (lm, IntKind.i64.wrap (x_1.snd + 1))) else some (Sum.inr (Sum.inl x_1.fst))
noncomputable def ref08_Back_b2 (out : yC) : List yT × Int → Option (List yT × Int ⊕ List yT ⊕ Empty) := fun (x : List yT × Int) => if x.snd < (↑out.snd.snd.fst.l.length : Int) then if IntKind.i64.wrap (x.snd + 1) < (↑out.snd.snd.snd.fst.l.length : Int) then (atS 1 out.snd.snd.snd.fst x.snd).bind fun (y : Int) => (loopO (ref08_Back_b1 out x) (x.fst, y)).bind fun (y : List yT ⊕ Empty) => Sum.elim (fun (val : List yT) => some (Sum.inl (val, IntKind.i64.wrap (x.snd + 1)))) (fun (val : Empty) => nE val) y else some (Sum.inr (Sum.inl x.fst)) else some (Sum.inr (Sum.inl x.fst))
theorem ref08_Back_eq (x : yC) : ref08_Back x = (ref08_Sure x).bind fun (out : yC) => (loopO (ref08_Back_b2 out) ([], 0)).bind fun (y : List yT ⊕ Empty) => Sum.elim (fun (val : List yT) => (ref07_Of 1 out.fst out.snd.fst (mo 3 val)).bind fun (out : (yM) × Int) => some out.fst) (fun (val : Empty) => nE val) y := by kernel_rfl
end Ev
end Go.Proofs.Ytlkcneneagifoaa
end
section
namespace Go.Proofs.Ytlkcneneagifoaa
namespace Ev
open Go
set_option linter.unusedVariables false
set_option linter.unusedSimpArgs false
abbrev Mx := Int × Int × Sl Int × Sl Int × Sl Int
abbrev E3 := Int × Int × Int
def ascI : Int → Int → List Int → Bool
 | _, _, [] => true
 | a, n, x :: l => decide (a < x) && decide (x < n) && ascI x n l
theorem ascI_cons (a n x : Int) (l : List Int) : ascI a n (x :: l) = (decide (a < x) && decide (x < n) && ascI x n l) := rfl
theorem ascI_iff' {n : Int} : ∀ {l : List Int} {a : Int}, ascI a n l = true ↔ l.Pairwise (· < ·) ∧ ∀ x ∈ l, a < x ∧ x < n
 | [], a => by simp [ascI]
 | x :: l, a => by
  rw [ascI_cons, Bool.and_eq_true, Bool.and_eq_true, decide_eq_true_eq, decide_eq_true_eq, ascI_iff', List.pairwise_cons]
  constructor
  ·rintro ⟨⟨h1, h2⟩, h3, h4⟩
   refine ⟨⟨fun y hy => (h4 y hy).1, h3⟩, fun y hy => ?_⟩
   rcases List.mem_cons.1 hy with rfl | hy
   ·exact ⟨h1, h2⟩
   ·have := h4 y hy; omega
  ·rintro ⟨⟨h1, h2⟩, h3⟩
   exact ⟨h3 x (by simp), h2, fun y hy => ⟨h1 y hy, (h3 y (by simp [hy])).2⟩⟩
theorem ascI_iff {n : Int} {l : List Int} : ascI (-1) n l = true ↔ ∀ j (h : j < l.length), 0 ≤ l[j] ∧ l[j] < n ∧ (j ≠ 0 → l[j - 1]'(by omega) < l[j]) := by
 rw [ascI_iff']
 constructor
 ·rintro ⟨h1, h2⟩ j hj
  have := h2 _ (List.getElem_mem hj)
  refine ⟨by omega, this.2, fun h0 => ?_⟩
  exact List.pairwise_iff_getElem.1 h1 (j - 1) j (by omega) hj (by omega)
 ·intro h
  constructor
  ·have key : ∀ d i (hi : i + d + 1 < l.length), l[i]'(by omega) < l[i + d + 1] := by
    intro d
    induction d with
    | zero => intro i hi; have := (h (i + 1) hi).2.2 (by omega); simpa using this
    | succ d ih => intro i hi; have h1 := ih i (by omega); have h2 := (h (i + d + 1 + 1) hi).2.2 (by omega); simp only [Nat.add_sub_cancel] at h2; exact Int.lt_trans h1 h2
   rw [List.pairwise_iff_getElem]
   intro i j hi hj hij
   have := key (j - i - 1) i (by omega)
   simpa [show i + (j - i - 1) + 1 = j by omega] using this
  ·intro x hx
   obtain ⟨j, hj, rfl⟩ := List.mem_iff_getElem.1 hx
   have := h j hj
   omega
theorem csr_size_w (n : Int) : csr_size n = some (sizeF n) := by
 rw [csr_size_eq]
 unfold sizeF
 by_cases h1 : n ≥ 0
 ·rw [if_pos h1, decide_eq_true (show 0 ≤ n from h1)]; simp
 ·rw [if_neg h1, decide_eq_false (show ¬ 0 ≤ n from h1)]; rfl
theorem csr_rises_w (s : Sl Int) (n : Int) (hok : okS 1 s) (hl : s.l.length ≤ 9223372036854775807) : csr_rises s n = some (ascI (-1) n s.l) := by
 rw [csr_rises_eq]
 obtain ⟨r, h1, h2⟩ := loop_up (b := csr_rises_b1 s n) s.l.length (fun j a => ∃ la, a = (la, (j : Int)) ∧ ascI (-1) n s.l = ascI la n (s.l.drop j)) (fun r => (ascI (-1) n s.l = true ∧ r = .inl ()) ∨ (ascI (-1) n s.l = false ∧ r = .inr (.inl false)))
  (by
   rintro j _ hj ⟨la, rfl, ha⟩
   rw [List.drop_eq_getElem_cons hj, ascI_cons] at ha
   simp only [csr_rises_b1, at_get hok hj, Option.bind_some, w_succ hj hl]
   rw [if_pos (by omega)]
   by_cases c1 : s.l[j] ≤ la
   ·refine .inr ⟨_, if_pos c1, .inr ⟨?_, rfl⟩⟩
    rw [ha, decide_eq_false (by omega)]; rfl
   ·rw [if_neg c1]
    by_cases c2 : s.l[j] ≥ n
    ·refine .inr ⟨_, if_pos c2, .inr ⟨?_, rfl⟩⟩
     rw [ha, decide_eq_false (p := s.l[j] < n) (by omega)]; simp
    ·refine .inl ⟨_, if_neg c2, _, rfl, ?_⟩
     rw [ha, decide_eq_true (by omega), decide_eq_true (by omega)]; rfl)
  (by
   rintro _ ⟨la, rfl, ha⟩
   refine ⟨_, if_neg (by simp only; omega), .inl ⟨?_, rfl⟩⟩
   rw [ha, List.drop_length]; rfl) 0 (Nat.zero_le _) (-1, 0) ⟨-1, rfl, rfl⟩
 rw [h1]
 rcases h2 with ⟨h3, rfl⟩ | ⟨h3, rfl⟩ <;> rw [h3] <;> rfl
def cutL {α : Type} (l : List α) (f t : Int) : List α := (l.drop f.toNat).take (t.toNat - f.toNat)
theorem cutL_len {α : Type} {l : List α} {f t : Int} (h : 0 ≤ f ∧ f ≤ t ∧ t ≤ l.length) : (cutL l f t).length = t.toNat - f.toNat := by
 unfold cutL; simp; omega
theorem cutL_get {α : Type} {l : List α} {f t : Int} (h : 0 ≤ f ∧ f ≤ t ∧ t ≤ l.length) {j : Nat} (hj : j < t.toNat - f.toNat) : (cutL l f t)[j]'(by rw [cutL_len h]; exact hj) = l[f.toNat + j]'(by omega) := by
 unfold cutL; simp
def rowOk (c : Int) (st co : List Int) (i : Nat) : Bool := decide (0 ≤ st.getD i 0) && (decide (st.getD i 0 ≤ st.getD (i + 1) 0) && (decide (st.getD (i + 1) 0 ≤ co.length) && ascI (-1) c (cutL co (st.getD i 0) (st.getD (i + 1) 0))))
def rightM (m : Mx) : Bool := sizeF m.1 && (sizeF m.2.1 && (decide ((m.2.2.1.l.length : Int) = m.1 + 1) && (decide (m.2.2.1.l.getD 0 0 = 0) && (decide (m.2.2.2.1.l.length = m.2.2.2.2.l.length) && (decide (m.2.2.2.1.l.length ≤ 65536) && (decide (m.2.2.1.l.getD m.1.toNat 0 = m.2.2.2.1.l.length) && (List.range m.1.toNat).all (rowOk m.2.1 m.2.2.1.l m.2.2.2.1.l)))))))
structure OkM (m : Mx) : Prop where
 st : okS 1 m.2.2.1
 co : okS 1 m.2.2.2.1
 va : okS 1 m.2.2.2.2
 v64 : ∀ x ∈ m.2.2.2.2.l, i64r x
 sl : m.2.2.1.l.length ≤ 9223372036854775807
 cl : m.2.2.2.1.l.length ≤ 9223372036854775807
 vl : m.2.2.2.2.l.length ≤ 9223372036854775807
theorem rowOk_false {n : Nat} {c : Int} {st co : List Int} {i : Nat} (hi : i < n) (h : rowOk c st co i = false) : (List.range n).all (rowOk c st co) = false := all_false hi h
theorem rows_csr {n : Nat} {c : Int} {s t v : Sl Int} (hs : okS 1 s) (ht : okS 1 t) (hn : n ≤ 4096) (hl : s.l.length = n + 1) (h0 : s.l.getD 0 0 = 0) (tl : t.l.length ≤ 65536) : ∃ q, loopO (csr_Right_b1 ((n : Int), c, s, t, v)) 0 = some q ∧ (((List.range n).all (rowOk c s.l t.l) = true ∧ q = .inl ()) ∨ ((List.range n).all (rowOk c s.l t.l) = false ∧ q = .inr (.inl false))) := by
 refine loop_up (b := csr_Right_b1 ((n : Int), c, s, t, v)) n (fun j a => a = (j : Int) ∧ 0 ≤ s.l.getD j 0 ∧ ∀ i, i < j → rowOk c s.l t.l i = true) _ ?_ ?_ 0 (Nat.zero_le _) 0 ⟨rfl, by omega, fun i hi => absurd hi (by omega)⟩
 ·rintro j _ hj ⟨rfl, hp, ha⟩
  have e1 := at_get hs (j := j) (by omega)
  have e2 := at_get hs (j := j + 1) (by omega)
  rw [← getD_lt] at e1 e2
  simp only [csr_Right_b1, e1, Option.bind_some, w_succ hj (by omega)]
  rw [if_pos (by omega), e2]
  simp only [Option.bind_some]
  by_cases c1 : s.l.getD (j + 1) 0 < s.l.getD j 0
  ·rw [if_pos c1]
   exact .inr ⟨_, rfl, .inr ⟨rowOk_false hj (by unfold rowOk; rw [decide_eq_false (p := s.l.getD j 0 ≤ s.l.getD (j + 1) 0) (by omega)]; simp), rfl⟩⟩
  rw [if_neg c1]
  by_cases c2 : s.l.getD (j + 1) 0 > ((t.l.length : Nat) : Int)
  ·rw [if_pos c2]
   exact .inr ⟨_, rfl, .inr ⟨rowOk_false hj (by unfold rowOk; rw [decide_eq_false (p := s.l.getD (j + 1) 0 ≤ (t.l.length : Int)) (by omega)]; simp), rfl⟩⟩
  rw [if_neg c2]
  have hc : cutS 1 t (s.l.getD j 0) (s.l.getD (j + 1) 0) = some ⟨t.nn, t.sz, cutL t.l (s.l.getD j 0) (s.l.getD (j + 1) 0)⟩ := by
   unfold cutS
   have hz : t.sz = 1 ∨ s.l.getD j 0 = 0 := by
    rcases ht with h | h
    ·right; rw [h] at c2; simp only [List.length_nil] at c2; omega
    ·exact .inl h
   rw [if_pos ⟨hp, by omega, by omega, hz⟩]; rfl
  rw [hc]
  simp only [Option.bind_some]
  have hcl : (cutL t.l (s.l.getD j 0) (s.l.getD (j + 1) 0)).length ≤ 65536 := by rw [cutL_len ⟨hp, by omega, by omega⟩]; omega
  have hok : okS 1 (⟨t.nn, t.sz, cutL t.l (s.l.getD j 0) (s.l.getD (j + 1) 0)⟩ : Sl Int) := by
   rcases ht with h | h
   ·left; unfold cutL; simp [h]
   ·exact .inr h
  rw [csr_rises_w _ c hok (show (cutL t.l (s.l.getD j 0) (s.l.getD (j + 1) 0)).length ≤ _ by omega)]
  simp only [Option.bind_some]
  have hr : rowOk c s.l t.l j = ascI (-1) c (cutL t.l (s.l.getD j 0) (s.l.getD (j + 1) 0)) := by
   unfold rowOk
   rw [decide_eq_true hp, decide_eq_true (p := s.l.getD j 0 ≤ s.l.getD (j + 1) 0) (by omega), decide_eq_true (p := s.l.getD (j + 1) 0 ≤ (t.l.length : Int)) (by omega)]
   simp
  cases hb : ascI (-1) c (cutL t.l (s.l.getD j 0) (s.l.getD (j + 1) 0)) with
  | true =>
   rw [if_neg (by simp)]
   refine .inl ⟨_, rfl, rfl, by omega, fun i hi => ?_⟩
   by_cases e : i = j
   ·rw [e, hr, hb]
   ·exact ha i (by omega)
  | false =>
   rw [if_pos (by simp)]
   exact .inr ⟨_, rfl, .inr ⟨rowOk_false hj (by rw [hr, hb]), rfl⟩⟩
 ·rintro _ ⟨rfl, hp, ha⟩
  exact ⟨_, if_neg (by omega), .inl ⟨all_range.2 ha, rfl⟩⟩
theorem csr_Right_w {m : Mx} (h : OkM m) : csr_Right m = some (rightM m) := by
 obtain ⟨n, c, s, t, v⟩ := m
 obtain ⟨h1, h2, h3, h4, h5, h6, h7⟩ := h
 simp only at h1 h2 h3 h4 h5 h6 h7
 rw [csr_Right_eq]
 unfold rightM
 simp only [csr_size_w, Option.bind_some]
 cases z1 : sizeF n with
 | false => rfl
 | true =>
  cases z2 : sizeF c with
  | false => rfl
  | true =>
   obtain ⟨a1, a2⟩ := sizeF_iff.1 z1
   simp only [Bool.true_and, not_true_eq_false, if_false]
   rw [wrap64 (n := n + 1) (by omega) (by omega)]
   by_cases g1 : ((s.l.length : Nat) : Int) = n + 1
   ·rw [if_neg (fun h => h g1), decide_eq_true g1]
    have e0 := at_get h1 (j := 0) (by omega)
    rw [← getD_lt] at e0
    have e0' : atS 1 s 0 = some (s.l.getD 0 0) := e0
    rw [e0']
    simp only [Option.bind_some, Bool.true_and]
    by_cases g2 : s.l.getD 0 0 = 0
    ·rw [if_neg (fun h => h g2), decide_eq_true g2]
     simp only [Bool.true_and]
     by_cases g3 : t.l.length = v.l.length
     ·rw [if_neg (fun h => h (by omega)), decide_eq_true g3]
      simp only [Bool.true_and]
      by_cases g4 : t.l.length ≤ 65536
      ·rw [if_neg (by omega), decide_eq_true g4]
       simp only [Bool.true_and]
       obtain ⟨k, rfl⟩ := Int.eq_ofNat_of_zero_le a1
       have en := at_get h1 (j := k) (by omega)
       rw [← getD_lt] at en
       rw [en]
       simp only [Option.bind_some, Int.toNat_natCast]
       by_cases g5 : s.l.getD k 0 = ((t.l.length : Nat) : Int)
       ·rw [if_neg (fun h => h g5), decide_eq_true g5]
        simp only [Bool.true_and]
        obtain ⟨q, q1, q2⟩ := rows_csr (c := c) (v := v) h1 h2 (by omega) (n := k) (by omega) g2 g4
        rw [q1]
        rcases q2 with ⟨e, rfl⟩ | ⟨e, rfl⟩ <;> rw [e] <;> rfl
       ·rw [if_pos g5, decide_eq_false g5]; rfl
      ·rw [if_pos (by omega), decide_eq_false g4]; rfl
     ·rw [if_pos (fun h => g3 (by omega)), decide_eq_false g3]; rfl
    ·rw [if_pos g2, decide_eq_false g2]; rfl
   ·rw [if_pos g1, decide_eq_false g1]; rfl
theorem row_ref {n : Nat} {nn c : Int} {s t v : Sl Int} (hs : okS 1 s) (ht : okS 1 t) (hl : s.l.length = n + 1) (tl : t.l.length ≤ 65536) {i : Nat} (hi : i < n) (hp : 0 ≤ s.l.getD i 0 ∧ s.l.getD i 0 ≤ s.l.getD (i + 1) 0 ∧ s.l.getD (i + 1) 0 ≤ (t.l.length : Int)) (hn : n ≤ 4096) :
  ∃ q, loopO (ref07_Right_b1 (nn, c, s, t, v) (i : Int)) (s.l.getD i 0) = some q ∧ ((ascI (-1) c (cutL t.l (s.l.getD i 0) (s.l.getD (i + 1) 0)) = true ∧ q = .inl ()) ∨ (ascI (-1) c (cutL t.l (s.l.getD i 0) (s.l.getD (i + 1) 0)) = false ∧ q = .inr (.inl false))) := by
 have e1 := at_get hs (j := i) (by omega)
 have e2 := at_get hs (j := i + 1) (by omega)
 rw [← getD_lt] at e1 e2
 generalize hf : s.l.getD i 0 = f at *
 generalize hg : s.l.getD (i + 1) 0 = g at *
 have hlen := cutL_len (l := t.l) hp
 have hget := fun j hj => cutL_get (l := t.l) hp (j := j) hj
 have hF : ∀ j (hj : j < (cutL t.l f g).length), ¬ (0 ≤ (cutL t.l f g)[j] ∧ (cutL t.l f g)[j] < c ∧ (j ≠ 0 → (cutL t.l f g)[j - 1]'(by omega) < (cutL t.l f g)[j])) → ascI (-1) c (cutL t.l f g) = false := fun j hj hh => by
  rw [Bool.eq_false_iff]; intro hc; exact hh (ascI_iff.1 hc j hj)
 have key := loop_up (b := ref07_Right_b1 (nn, c, s, t, v) (i : Int)) (g.toNat - f.toNat) (fun j a => a = f + (j : Int) ∧ ∀ i (h : i < (cutL t.l f g).length), i < j → 0 ≤ (cutL t.l f g)[i] ∧ (cutL t.l f g)[i] < c ∧ (i ≠ 0 → (cutL t.l f g)[i - 1]'(by omega) < (cutL t.l f g)[i])) (fun q => (ascI (-1) c (cutL t.l f g) = true ∧ q = .inl ()) ∨ (ascI (-1) c (cutL t.l f g) = false ∧ q = .inr (.inl false)))
  (by
   rintro j _ hj ⟨rfl, ha⟩
   have hk : f.toNat + j < t.l.length := by omega
   have ek := at_get ht hk
   rw [show ((f.toNat + j : Nat) : Int) = f + (j : Int) by omega] at ek
   have hcj := hget j hj
   have w1 : IntKind.i64.wrap ((i : Int) + 1) = ((i + 1 : Nat) : Int) := w_succ hi (by omega)
   simp only [ref07_Right_b1, w1, e2, e1, Option.bind_some, ek]
   rw [if_pos (by omega)]
   rw [← hcj]
   by_cases c1 : (cutL t.l f g)[j]'(by omega) < 0
   ·rw [if_pos c1]; exact .inr ⟨_, rfl, .inr ⟨hF j (by omega) (fun h => by omega), rfl⟩⟩
   rw [if_neg c1]
   by_cases c2 : (cutL t.l f g)[j]'(by omega) ≥ c
   ·rw [if_pos c2]; exact .inr ⟨_, rfl, .inr ⟨hF j (by omega) (fun h => by omega), rfl⟩⟩
   rw [if_neg c2]
   have next : (j ≠ 0 → (cutL t.l f g)[j - 1]'(by omega) < (cutL t.l f g)[j]'(by omega)) → ∀ i (h : i < (cutL t.l f g).length), i < j + 1 → 0 ≤ (cutL t.l f g)[i] ∧ (cutL t.l f g)[i] < c ∧ (i ≠ 0 → (cutL t.l f g)[i - 1]'(by omega) < (cutL t.l f g)[i]) := fun hh i h hij => by
    by_cases e : i = j
    ·subst e; exact ⟨by omega, by omega, hh⟩
    ·exact ha i h (by omega)
   have wk : IntKind.i64.wrap (f + (j : Int) + 1) = f + ((j + 1 : Nat) : Int) := by rw [wrap64 (by omega) (by omega)]; omega
   rw [wk]
   by_cases c3 : f + (j : Int) > f
   ·rw [if_pos c3, wrap64 (n := f + (j : Int) - 1) (by omega) (by omega)]
    have ep := at_get ht (j := f.toNat + (j - 1)) (by omega)
    rw [show ((f.toNat + (j - 1) : Nat) : Int) = f + (j : Int) - 1 by omega, ← hget (j - 1) (by omega)] at ep
    rw [ep]
    simp only [Option.bind_some]
    by_cases c4 : (cutL t.l f g)[j]'(by omega) ≤ (cutL t.l f g)[j - 1]'(by omega)
    ·rw [if_pos c4]; exact .inr ⟨_, rfl, .inr ⟨hF j (by omega) (fun h => by have := h.2.2 (by omega); omega), rfl⟩⟩
    ·rw [if_neg c4]; exact .inl ⟨_, rfl, rfl, next fun _ => by omega⟩
   ·rw [if_neg c3]; exact .inl ⟨_, rfl, rfl, next fun h0 => absurd h0 (by omega)⟩)
  (by
   rintro _ ⟨rfl, ha⟩
   have w1 : IntKind.i64.wrap ((i : Int) + 1) = ((i + 1 : Nat) : Int) := w_succ hi (by omega)
   simp only [ref07_Right_b1, w1, e2, Option.bind_some]
   rw [if_neg (by omega)]
   exact ⟨_, rfl, .inl ⟨ascI_iff.2 fun j hj => ha j hj (by omega), rfl⟩⟩) 0 (Nat.zero_le _) f ⟨by omega, fun i h hi => absurd hi (by omega)⟩
 exact key
theorem rows_ref {n : Nat} {c : Int} {s t v : Sl Int} (hs : okS 1 s) (ht : okS 1 t) (hn : n ≤ 4096) (hl : s.l.length = n + 1) (tl : t.l.length ≤ 65536) : ∃ q, loopO (ref07_Right_b2 ((n : Int), c, s, t, v)) 0 = some q ∧ (((List.range n).all (rowOk c s.l t.l) = true ∧ q = .inl ()) ∨ ((List.range n).all (rowOk c s.l t.l) = false ∧ q = .inr (.inl false))) := by
 refine loop_up (b := ref07_Right_b2 ((n : Int), c, s, t, v)) n (fun j a => a = (j : Int) ∧ ∀ i, i < j → rowOk c s.l t.l i = true) _ ?_ ?_ 0 (Nat.zero_le _) 0 ⟨rfl, fun i hi => absurd hi (by omega)⟩
 ·rintro j _ hj ⟨rfl, ha⟩
  have e1 := at_get hs (j := j) (by omega)
  have e2 := at_get hs (j := j + 1) (by omega)
  rw [← getD_lt] at e1 e2
  simp only [ref07_Right_b2, e1, Option.bind_some, w_succ hj (by omega)]
  rw [if_pos (by omega), e2]
  simp only [Option.bind_some]
  by_cases c1 : s.l.getD j 0 > s.l.getD (j + 1) 0
  ·rw [if_pos c1]
   exact .inr ⟨_, rfl, .inr ⟨rowOk_false hj (by unfold rowOk; rw [decide_eq_false (p := s.l.getD j 0 ≤ s.l.getD (j + 1) 0) (by omega)]; simp), rfl⟩⟩
  rw [if_neg c1]
  by_cases c0 : s.l.getD j 0 < 0
  ·rw [if_pos c0]
   exact .inr ⟨_, rfl, .inr ⟨rowOk_false hj (by unfold rowOk; rw [decide_eq_false (p := 0 ≤ s.l.getD j 0) (by omega)]; simp), rfl⟩⟩
  rw [if_neg c0]
  by_cases c2 : s.l.getD (j + 1) 0 > ((t.l.length : Nat) : Int)
  ·rw [if_pos c2]
   exact .inr ⟨_, rfl, .inr ⟨rowOk_false hj (by unfold rowOk; rw [decide_eq_false (p := s.l.getD (j + 1) 0 ≤ (t.l.length : Int)) (by omega)]; simp), rfl⟩⟩
  rw [if_neg c2]
  obtain ⟨q, q1, q2⟩ := row_ref (nn := (n : Int)) (c := c) (v := v) hs ht hl tl hj ⟨by omega, by omega, by omega⟩ hn
  rw [q1]
  have hr : rowOk c s.l t.l j = ascI (-1) c (cutL t.l (s.l.getD j 0) (s.l.getD (j + 1) 0)) := by
   unfold rowOk
   rw [decide_eq_true (p := 0 ≤ s.l.getD j 0) (by omega), decide_eq_true (p := s.l.getD j 0 ≤ s.l.getD (j + 1) 0) (by omega), decide_eq_true (p := s.l.getD (j + 1) 0 ≤ (t.l.length : Int)) (by omega)]
   simp
  rcases q2 with ⟨e, rfl⟩ | ⟨e, rfl⟩
  ·refine .inl ⟨_, rfl, rfl, fun i hi => ?_⟩
   by_cases e' : i = j
   ·rw [e', hr, e]
   ·exact ha i (by omega)
  ·exact .inr ⟨_, rfl, .inr ⟨rowOk_false hj (by rw [hr, e]), rfl⟩⟩
 ·rintro _ ⟨rfl, ha⟩
  exact ⟨_, if_neg (by omega), .inl ⟨all_range.2 ha, rfl⟩⟩
theorem ref07_Right_w {m : Mx} (h : OkM m) : ref07_Right m = some (rightM m) := by
 obtain ⟨n, c, s, t, v⟩ := m
 obtain ⟨h1, h2, h3, h4, h5, h6, h7⟩ := h
 simp only at h1 h2 h3 h4 h5 h6 h7
 rw [ref07_Right_eq]
 unfold rightM
 simp only
 by_cases a1 : n < 0
 ·rw [if_pos a1, show sizeF n = false by unfold sizeF; rw [decide_eq_false (by omega)]; rfl]; rfl
 by_cases a2 : n > 4096
 ·rw [if_neg a1, if_pos a2, show sizeF n = false by unfold sizeF; rw [decide_eq_false (p := n ≤ 4096) (by omega)]; simp]; rfl
 rw [if_neg a1, if_neg a2, sizeF_iff.2 ⟨by omega, by omega⟩]
 by_cases b1 : c < 0
 ·rw [if_pos b1, show sizeF c = false by unfold sizeF; rw [decide_eq_false (by omega)]; rfl]; rfl
 by_cases b2 : c > 4096
 ·rw [if_neg b1, if_pos b2, show sizeF c = false by unfold sizeF; rw [decide_eq_false (p := c ≤ 4096) (by omega)]; simp]; rfl
 rw [if_neg b1, if_neg b2, sizeF_iff.2 ⟨by omega, by omega⟩]
 simp only [Bool.true_and]
 rw [wrap64 (n := n + 1) (by omega) (by omega)]
 by_cases g1 : ((s.l.length : Nat) : Int) = n + 1
 ·rw [if_neg (fun h => h g1), decide_eq_true g1]
  simp only [Bool.true_and]
  by_cases g3 : t.l.length = v.l.length
  ·rw [if_neg (fun h => h (by omega)), decide_eq_true g3]
   simp only [Bool.true_and]
   by_cases g4 : t.l.length ≤ 65536
   ·rw [if_neg (by omega), decide_eq_true g4]
    have e0 := at_get h1 (j := 0) (by omega)
    rw [← getD_lt] at e0
    have e0' : atS 1 s 0 = some (s.l.getD 0 0) := e0
    rw [e0']
    simp only [Option.bind_some, Bool.true_and]
    by_cases g2 : s.l.getD 0 0 = 0
    ·rw [if_neg (fun h => h g2), decide_eq_true g2]
     obtain ⟨k, rfl⟩ := Int.eq_ofNat_of_zero_le (show 0 ≤ n by omega)
     have en := at_get h1 (j := k) (by omega)
     rw [← getD_lt] at en
     rw [en]
     simp only [Option.bind_some, Int.toNat_natCast, Bool.true_and]
     by_cases g5 : s.l.getD k 0 = ((t.l.length : Nat) : Int)
     ·rw [if_neg (fun h => h g5), decide_eq_true g5]
      simp only [Bool.true_and]
      obtain ⟨q, q1, q2⟩ := rows_ref (c := c) (v := v) h1 h2 (by omega) (n := k) (by omega) g4
      rw [q1]
      rcases q2 with ⟨e, rfl⟩ | ⟨e, rfl⟩ <;> rw [e] <;> rfl
     ·rw [if_pos g5, decide_eq_false g5]; rfl
    ·rw [if_pos g2, decide_eq_false g2]; rfl
   ·rw [if_pos (by omega), decide_eq_false g4]; simp
  ·rw [if_pos (fun h => g3 (by omega)), decide_eq_false g3]; simp
 ·rw [if_pos g1, decide_eq_false g1]; rfl
end Ev
end Go.Proofs.Ytlkcneneagifoaa
end
section
namespace Go.Proofs.Ytlkcneneagifoaa
namespace Ev
open Go Sm
set_option linter.unusedVariables false
set_option linter.unusedSimpArgs false
def bel (a b : E3) : Bool := klt (key a) (key b)
theorem bel_iff {a b : E3} : bel a b = true ↔ a.1 < b.1 ∨ a.1 = b.1 ∧ a.2.1 < b.2.1 := by unfold bel klt key; simp
abbrev rises (l : List E3) : Prop := l.Pairwise fun a b => bel a b = true
def tabN (n : Nat) (f : Nat → Int) : List Int := (List.range (n + 1)).map f
theorem tabN_len (n : Nat) (f : Nat → Int) : (tabN n f).length = n + 1 := by unfold tabN; simp
theorem tabN_get {n k : Nat} (f : Nat → Int) (h : k ≤ n) : (tabN n f)[k]? = some (f k) := by
 unfold tabN
 rw [List.getElem?_map, List.getElem?_range (by omega)]; rfl
theorem tabN_getD {n k : Nat} (f : Nat → Int) (h : k ≤ n) : (tabN n f).getD k 0 = f k := by rw [List.getD_eq_getElem?_getD, tabN_get f h]; rfl
theorem tabN_congr {n : Nat} {f g : Nat → Int} (h : ∀ k, k ≤ n → f k = g k) : tabN n f = tabN n g := by
 unfold tabN
 refine List.map_congr_left fun k hk => h k ?_
 simp at hk; omega
theorem tabN_set {n k : Nat} (f : Nat → Int) (v : Int) (h : k ≤ n) : (tabN n f).set k v = tabN n fun i => if i = k then v else f i := by
 refine List.ext_getElem? fun i => ?_
 rw [List.getElem?_set]
 by_cases hi : i ≤ n
 ·rw [tabN_get _ hi]
  by_cases e : k = i
  ·subst e; rw [if_pos rfl, if_pos (by rw [tabN_len]; omega), tabN_get _ hi, if_pos rfl]
  ·rw [if_neg e, tabN_get _ hi, if_neg (Ne.symm e)]
 ·rw [if_neg (by omega)]
  rw [List.getElem?_eq_none (by rw [tabN_len]; omega), List.getElem?_eq_none (by rw [tabN_len]; omega)]
theorem tabN_zero (n : Nat) : List.replicate (n + 1) (0 : Int) = tabN n fun _ => 0 := by
 refine List.ext_getElem? fun i => ?_
 by_cases hi : i ≤ n
 ·rw [tabN_get _ hi, List.getElem?_replicate, if_pos (by omega)]
 ·rw [List.getElem?_eq_none (by simp; omega), List.getElem?_eq_none (by rw [tabN_len]; omega)]
def cntR (l : List E3) (k : Nat) : Nat := l.countP fun x => decide (x.1 < (k : Int))
theorem cntR_le (l : List E3) (k : Nat) : cntR l k ≤ l.length := List.countP_le_length
theorem cntR_app (l : List E3) (x : E3) (k : Nat) : cntR (l ++ [x]) k = cntR l k + if x.1 < (k : Int) then 1 else 0 := by
 unfold cntR
 rw [List.countP_append]
 congr 1
 by_cases h : x.1 < (k : Int) <;> simp [h]
theorem count_in {n : Nat} (hn : n ≤ 4096) {row : Nat} (hr : row < n) {f : Nat → Int} (hf : ∀ k, 0 ≤ f k ∧ f k ≤ 100000) : loopO (ref07_built_b1 (n : Int)) ((((row + 1 : Nat) : Int)), tabN n f) = some (.inl (tabN n fun i => f i + if row < i then 1 else 0)) := by
 obtain ⟨q, q1, q2⟩ := loop_up (b := ref07_built_b1 (n : Int)) (n - row) (fun j st => st = (((row + 1 + j : Nat) : Int), tabN n fun i => f i + if row < i ∧ i ≤ row + j then 1 else 0)) (fun q => q = .inl (tabN n fun i => f i + if row < i then 1 else 0))
  (by
   rintro j _ hj rfl
   have hat : atL (tabN n fun i => f i + if row < i ∧ i ≤ row + j then 1 else 0) ((row + 1 + j : Nat) : Int) = some (f (row + 1 + j)) := by
    unfold atL
    rw [if_pos (by omega), Int.toNat_natCast, tabN_get _ (by omega), if_neg (by omega), Int.add_zero]
   have hfk := hf (row + 1 + j)
   simp only [ref07_built_b1, hat, Option.bind_some, Int.toNat_natCast]
   rw [if_pos (by omega), wrap64 (n := f (row + 1 + j) + 1) (by omega) (by omega), tabN_set _ _ (by omega), wrap64 (n := ((row + 1 + j : Nat) : Int) + 1) (by omega) (by omega)]
   refine .inl ⟨_, rfl, ?_⟩
   rw [Prod.mk.injEq]
   refine ⟨by omega, tabN_congr fun i hi => ?_⟩
   by_cases e : i = row + 1 + j
   ·rw [if_pos e, e, if_pos (by omega)]
   ·rw [if_neg e]
    by_cases h1 : row < i ∧ i ≤ row + j
    ·rw [if_pos h1, if_pos (by omega)]
    ·rw [if_neg h1, if_neg (by omega)])
  (by
   rintro _ rfl
   refine ⟨_, ?_, rfl⟩
   simp only [ref07_built_b1]
   rw [if_neg (by omega)]
   congr 3
   refine tabN_congr fun i hi => ?_
   by_cases h1 : row < i
   ·rw [if_pos h1, if_pos (by omega)]
   ·rw [if_neg h1, if_neg (by omega)]) 0 (Nat.zero_le _) (((row + 1 : Nat) : Int), tabN n f) (by
    rw [Prod.mk.injEq]
    refine ⟨by omega, tabN_congr fun i hi => ?_⟩
    rw [if_neg (by omega), Int.add_zero])
 rw [q1, q2]
def matV (n c : Int) (l : List E3) : Mx := (n, c, ⟨true, 1, tabN n.toNat fun k => ((cntR l k : Nat) : Int)⟩, mo 1 (l.map (·.2.1)), mo 1 (l.map (·.2.2)))
theorem ref07_built_w {n c : Int} (hn : 0 ≤ n ∧ n ≤ 4096) {s : Sl E3} (hs : okS 3 s) (hl : s.l.length ≤ 65536) (hr : ∀ x ∈ s.l, 0 ≤ x.1 ∧ x.1 < n) : ref07_built n c s = some (matV n c s.l) := by
 obtain ⟨k, rfl⟩ := Int.eq_ofNat_of_zero_le hn.1
 rw [ref07_built_eq]
 unfold matV
 rw [wrap64 (by omega) (by omega), capOk_self]
 have hlo : lenOk ((k : Int) + 1) = some () := by unfold lenOk bound; rw [if_pos ⟨by omega, by omega⟩]
 rw [hlo]
 have tk : ((k : Int) + 1).toNat = k + 1 := by omega
 simp only [Option.bind_some, tk, Int.toNat_natCast]
 rw [tabN_zero]
 obtain ⟨q, q1, q2⟩ := loop_up (b := ref07_built_b2 (k : Int) s) s.l.length (fun j st => st = ((j : Int), (k : Int), c, tabN k (fun i => ((cntR (s.l.take j) i : Nat) : Int)), (s.l.take j).map (·.2.1), (s.l.take j).map (·.2.2))) (fun q => q = .inl ((k : Int), c, tabN k (fun i => ((cntR s.l i : Nat) : Int)), s.l.map (·.2.1), s.l.map (·.2.2)))
  (by
   rintro j _ hj rfl
   have ej := at_get hs hj
   have hx := hr _ (List.getElem_mem hj)
   obtain ⟨row, hrow⟩ := Int.eq_ofNat_of_zero_le hx.1
   have hlen : (s.l.take j).length ≤ 65536 := by simp; omega
   have ap1 : app ((s.l.take j).map (·.2.1)) [s.l[j].2.1] = some ((s.l.take j).map (·.2.1) ++ [s.l[j].2.1]) := app_ok (by simp at hlen ⊢; unfold bound; omega)
   have ap2 : app ((s.l.take j).map (·.2.2)) [s.l[j].2.2] = some ((s.l.take j).map (·.2.2) ++ [s.l[j].2.2]) := app_ok (by simp at hlen ⊢; unfold bound; omega)
   have hw : IntKind.i64.wrap (s.l[j].1 + 1) = ((row + 1 : Nat) : Int) := by rw [wrap64 (by omega) (by omega)]; omega
   have hin := count_in (n := k) (by omega) (row := row) (by omega) (f := fun i => ((cntR (s.l.take j) i : Nat) : Int)) (fun i => by have := cntR_le (s.l.take j) i; omega)
   simp only [ref07_built_b2, ej, Option.bind_some, ap1, ap2, hw, hin, Sum.elim_inl, w_succ hj (by omega)]
   rw [if_pos (by omega)]
   refine .inl ⟨_, rfl, ?_⟩
   rw [List.take_succ_eq_append_getElem hj, List.map_append, List.map_append]
   simp only [List.map_cons, List.map_nil, Prod.mk.injEq, and_true, true_and]
   refine tabN_congr fun i hi => ?_
   rw [cntR_app, hrow]
   by_cases h : row < i
   ·rw [if_pos h, if_pos (by omega)]; omega
   ·rw [if_neg h, if_neg (by omega)]; omega)
  (by
   rintro _ rfl
   refine ⟨.inl ((k : Int), c, tabN k (fun i => ((cntR s.l i : Nat) : Int)), s.l.map (·.2.1), s.l.map (·.2.2)), ?_, rfl⟩
   simp only [ref07_built_b2]
   rw [if_neg (by omega), List.take_length]) 0 (Nat.zero_le _) (0, (k : Int), c, tabN k (fun _ => 0), [], []) rfl
 rw [q1, q2]; rfl
theorem split_lt {l : List E3} (h : l.Pairwise fun a b => a.1 ≤ b.1) (k : Int) : (l.filter fun x => decide (x.1 < k)) ++ (l.filter fun x => !decide (x.1 < k)) = l := by
 induction l with
 | nil => rfl
 | cons x l ih =>
  rw [List.pairwise_cons] at h
  have ih := ih h.2
  by_cases c : x.1 < k
  ·rw [List.filter_cons_of_pos (by simp [c]), List.filter_cons_of_neg (by simp [c]), List.cons_append, ih]
  ·have e1 : (l.filter fun x => decide (x.1 < k)) = [] := by
    rw [List.filter_eq_nil_iff]
    intro y hy
    have := h.1 y hy
    simp; omega
   rw [e1, List.nil_append] at ih
   rw [List.filter_cons_of_neg (by simp [c]), List.filter_cons_of_pos (by simp [c]), e1, List.nil_append, ih]
theorem take_lt {l : List E3} (h : l.Pairwise fun a b => a.1 ≤ b.1) (k : Nat) : l.take (cntR l k) = (l.filter fun x => decide (x.1 < (k : Int))) ∧ l.drop (cntR l k) = l.filter fun x => !decide (x.1 < (k : Int)) := by
 have e := split_lt h (k : Int)
 have hl : cntR l k = (l.filter fun x => decide (x.1 < (k : Int))).length := by unfold cntR; rw [List.countP_eq_length_filter]
 have key : ∀ A B : List E3, A ++ B = l → l.take A.length = A ∧ l.drop A.length = B := by
  rintro A B rfl
  exact ⟨List.take_left, List.drop_left⟩
 rw [hl]
 exact key _ _ e
def rowE (l : List E3) (i : Nat) : List E3 := (l.filter fun x => !decide (x.1 < (i : Int))).filter fun x => decide (x.1 < ((i + 1 : Nat) : Int))
theorem rowE_mem {l : List E3} {i : Nat} {x : E3} : x ∈ rowE l i ↔ x ∈ l ∧ x.1 = (i : Int) := by
 unfold rowE
 simp only [List.mem_filter, Bool.not_eq_true', decide_eq_false_iff_not, decide_eq_true_eq]
 constructor
 ·rintro ⟨⟨h1, h2⟩, h3⟩; exact ⟨h1, by omega⟩
 ·rintro ⟨h1, h2⟩; exact ⟨⟨h1, by omega⟩, by omega⟩
theorem rises_le {l : List E3} (h : rises l) : l.Pairwise fun a b => a.1 ≤ b.1 := h.imp fun hb => by rw [bel_iff] at hb; omega
theorem row_cut {l : List E3} (h : rises l) (i : Nat) : cntR l i ≤ cntR l (i + 1) ∧ (l.drop (cntR l i)).take (cntR l (i + 1) - cntR l i) = rowE l i := by
 have hle := rises_le h
 have e1 := (take_lt hle i).2
 have hmono : cntR l i ≤ cntR l (i + 1) := by
  unfold cntR
  refine List.countP_mono_left fun x _ hx => ?_
  simp only [decide_eq_true_eq] at hx ⊢; omega
 refine ⟨hmono, ?_⟩
 rw [e1]
 have hg : (l.filter fun x => !decide (x.1 < (i : Int))).Pairwise fun a b => a.1 ≤ b.1 := hle.sublist List.filter_sublist
 have e2 := (take_lt hg (i + 1)).1
 have hc : cntR (l.filter fun x => !decide (x.1 < (i : Int))) (i + 1) = cntR l (i + 1) - cntR l i := by
  have h1 : cntR l (i + 1) = cntR (l.filter fun x => decide (x.1 < (i : Int))) (i + 1) + cntR (l.filter fun x => !decide (x.1 < (i : Int))) (i + 1) := by
   conv => lhs; rw [← split_lt hle (i : Int)]
   unfold cntR
   rw [List.countP_append]
  have h2 : cntR (l.filter fun x => decide (x.1 < (i : Int))) (i + 1) = cntR l i := by
   unfold cntR
   rw [List.countP_filter]
   refine List.countP_congr fun x _ => ?_
   simp only [Bool.and_eq_true, decide_eq_true_eq]
   omega
  omega
 rw [← hc, e2]; rfl
theorem row_sorted {l : List E3} (h : rises l) (i : Nat) : ((rowE l i).map (·.2.1)).Pairwise (· < ·) := by
 rw [List.pairwise_map]
 have hs : rises (rowE l i) := h.sublist (List.filter_sublist.trans List.filter_sublist)
 refine hs.imp_of_mem fun {a b} ha hb hab => ?_
 have h1 := (rowE_mem.1 ha).2
 have h2 := (rowE_mem.1 hb).2
 rw [bel_iff] at hab; omega
theorem cutL_map {α β : Type} (f : α → β) (l : List α) (a b : Int) : cutL (l.map f) a b = (cutL l a b).map f := by unfold cutL; rw [← List.map_drop, ← List.map_take]
def itemsM (m : Mx) (i : Nat) : List (Int × Int) := (cutL m.2.2.2.1.l (m.2.2.1.l.getD i 0) (m.2.2.1.l.getD (i + 1) 0)).zip (cutL m.2.2.2.2.l (m.2.2.1.l.getD i 0) (m.2.2.1.l.getD (i + 1) 0))
theorem rightM_spec {m : Mx} (h : rightM m = true) : (0 ≤ m.1 ∧ m.1 ≤ 4096) ∧ (0 ≤ m.2.1 ∧ m.2.1 ≤ 4096) ∧ (m.2.2.1.l.length : Int) = m.1 + 1 ∧ m.2.2.2.1.l.length = m.2.2.2.2.l.length ∧ m.2.2.2.1.l.length ≤ 65536 ∧ ∀ i : Nat, (i : Int) < m.1 → 0 ≤ m.2.2.1.l.getD i 0 ∧ m.2.2.1.l.getD i 0 ≤ m.2.2.1.l.getD (i + 1) 0 ∧ m.2.2.1.l.getD (i + 1) 0 ≤ m.2.2.2.1.l.length ∧ ascI (-1) m.2.1 (cutL m.2.2.2.1.l (m.2.2.1.l.getD i 0) (m.2.2.1.l.getD (i + 1) 0)) = true := by
 unfold rightM at h
 simp only [Bool.and_eq_true, decide_eq_true_eq, sizeF_iff] at h
 obtain ⟨h1, h2, h3, h4, h5, h6, h7, h8⟩ := h
 refine ⟨h1, h2, h3, h5, h6, fun i hi => ?_⟩
 have := all_range.1 h8 i (by omega)
 unfold rowOk at this
 simpa only [Bool.and_eq_true, decide_eq_true_eq] using this
theorem matV_right {n c : Int} (hn : 0 ≤ n ∧ n ≤ 4096) (hc : 0 ≤ c ∧ c ≤ 4096) {l : List E3} (hl : l.length ≤ 65536) (h : rises l) (hp : ∀ x ∈ l, (0 ≤ x.1 ∧ x.1 < n) ∧ 0 ≤ x.2.1 ∧ x.2.1 < c) : rightM (matV n c l) = true := by
 have h0 : cntR l 0 = 0 := by
  unfold cntR
  rw [List.countP_eq_zero]
  intro x hx
  have := (hp x hx).1.1
  simp; omega
 have hN : cntR l n.toNat = l.length := by
  unfold cntR
  rw [List.countP_eq_length]
  intro x hx
  have := (hp x hx).1.2
  simp; omega
 unfold rightM matV
 simp only [mo_l, Bool.and_eq_true, decide_eq_true_eq, sizeF_iff, List.length_map, tabN_len]
 refine ⟨hn, hc, by omega, ?_, trivial, hl, ?_, ?_⟩
 ·rw [tabN_getD _ (Nat.zero_le _), h0]; rfl
 ·rw [tabN_getD _ (Nat.le_refl _), hN]
 ·refine all_range.2 fun i hi => ?_
  unfold rowOk
  rw [tabN_getD _ (by omega), tabN_getD _ (by omega)]
  obtain ⟨r1, r2⟩ := row_cut h i
  have hle := cntR_le l (i + 1)
  simp only [Bool.and_eq_true, decide_eq_true_eq, List.length_map]
  refine ⟨by omega, by omega, by omega, ?_⟩
  have e : cutL (l.map (·.2.1)) ((cntR l i : Nat) : Int) ((cntR l (i + 1) : Nat) : Int) = (rowE l i).map (·.2.1) := by
   rw [cutL_map]
   unfold cutL
   rw [Int.toNat_natCast, Int.toNat_natCast, r2]
  rw [e]
  exact ascI_iff'.2 ⟨row_sorted h i, fun p hp' => by
   obtain ⟨x, hx, rfl⟩ := List.mem_map.1 hp'
   have := (hp x (rowE_mem.1 hx).1).2
   omega⟩
end Ev
end Go.Proofs.Ytlkcneneagifoaa
end
section
namespace Go.Proofs.Ytlkcneneagifoaa
namespace Ev
open Go Sm
set_option linter.unusedVariables false
set_option linter.unusedSimpArgs false
abbrev RG (r : Int) : Rg := ⟨ofW, ringAdd r, narrowW⟩
theorem ref01_Of_w (n : Int) : ref01_Of n = some (ofW n) := by
 rw [ref01_Of_eq]
 unfold ofW
 by_cases h : n < 0
 ·simp only [if_pos h]
 ·simp only [if_neg h]
theorem ref01_Compare_lt (a b : Int × Int) : ∃ c : Int, ref01_Compare a b = some c ∧ (c < 0 ↔ lessW a b = true) := by
 obtain ⟨a1, a2⟩ := a; obtain ⟨b1, b2⟩ := b
 rw [ref01_Compare_eq]
 unfold lessW
 simp only
 by_cases h2 : a1 < b1
 ·rw [if_pos h2]; exact ⟨-1, rfl, by simp [h2]⟩
 rw [if_neg h2]
 by_cases h3 : a1 = b1
 ·rw [if_pos h3]
  by_cases h4 : a2 < b2
  ·rw [if_pos h4]; exact ⟨-1, rfl, by simp [h3, h4]⟩
  ·rw [if_neg h4]
   by_cases h5 : a1 = b1 ∧ a2 = b2
   ·rw [if_pos h5]; exact ⟨0, rfl, by simp [h3]; omega⟩
   ·rw [if_neg h5]; exact ⟨1, rfl, by simp [h3]; omega⟩
 ·rw [if_neg h3]
  by_cases h5 : a1 = b1 ∧ a2 = b2
  ·exact absurd h5.1 h3
  ·rw [if_neg h5]; exact ⟨1, rfl, by simp [h3]; omega⟩
theorem ref01_Add_w (a b : Int × Int) : ref01_Add a b = some (addW a b) := by
 obtain ⟨a1, a2⟩ := a; obtain ⟨b1, b2⟩ := b
 rw [ref01_Add_eq]
 unfold addW ref01_Add_j1
 simp only
 split <;> rfl
theorem ref02_truth_w (b : Bool) : ref02_truth b = some (truthW b) := by rw [ref02_truth_eq]; unfold truthW; cases b <;> rfl
theorem ref02_Add_w (r : Int) (a b : Int × Int) : ref02_Add r a b = some (ringAdd r a b) := by
 rw [ref02_Add_eq]
 unfold ringAdd
 have hl : ((ref01_Compare b a).bind fun (out : Int) => if out < 0 then some b else some a) = some (lessrW a b) := by
  obtain ⟨c, h1, h2⟩ := ref01_Compare_lt b a
  rw [h1, Option.bind_some]
  unfold lessrW
  by_cases hc : c < 0
  ·rw [if_pos hc, if_pos (h2.1 hc)]
  ·rw [if_neg hc, if_neg (fun h => hc (h2.2 h))]
 simp only [hl, ref02_truth_w, ref01_Add_w, Option.bind_some]
 by_cases h1 : r = 1
 ·simp [h1]
 by_cases h3 : r = 3
 ·simp [h3]
 by_cases h4 : r = 4
 ·simp [h4]
 simp only [if_neg h1, if_neg h3, if_neg (show ¬ (r = 1 ∨ r = 3 ∨ r = 4) by omega), decide_eq_false h4, Option.bind_some, Sum.elim_inl, Bool.false_eq_true, if_false]
 by_cases h2 : r = 2
 ·simp only [if_pos h2]
  by_cases ha : a.1 = 0 ∧ a.2 = 0
  ·by_cases hb : b.1 = 0 ∧ b.2 = 0
   ·simp [ha, hb]
   ·simp [ha, hb]
  ·simp [ha]
 ·simp only [if_neg h2]
  split <;> rfl
theorem ref01_Narrow_w {a : Int × Int} (h : u64r a.2) : ref01_Narrow a = some (narrowW a) := by
 obtain ⟨a1, a2⟩ := a
 rw [ref01_Narrow_eq]
 unfold narrowW ofW
 simp only [u64_id h, Prod.mk.injEq, and_true]
 by_cases hn : IntKind.i64.wrap a2 < 0
 ·have hg : ¬ IntKind.i64.wrap a2 ≥ 0 := by omega
  simp only [if_pos hn, if_neg hg]
  by_cases h1 : a1 = 0
  ·have : ¬ a1 = -1 := by omega
   simp only [if_pos h1, if_neg this]
  ·simp only [if_neg h1]
   split <;> rfl
 ·have hg : IntKind.i64.wrap a2 ≥ 0 := by omega
  simp only [if_neg hn, if_pos hg]
  by_cases h1 : a1 = 0
  ·simp only [if_pos h1]
  ·simp only [if_neg h1]
   split <;> rfl
theorem ref02_Is_w (r : Int) : ref02_Is r = some (isRing r) := by
 rw [ref02_Is_eq]
 unfold isRing
 by_cases h1 : r ≥ 1
 ·rw [if_pos h1, decide_eq_true (show 1 ≤ r from h1)]; simp
 ·rw [if_neg h1, decide_eq_false (show ¬ 1 ≤ r from h1)]; rfl
end Ev
end Go.Proofs.Ytlkcneneagifoaa
end
