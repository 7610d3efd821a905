/- Texts of a claim, joined. -/
import Derived.Test.YtlkcneneagifoaaZCo11
import Derived.Test.YtlkcneneagifoaaZCo10
section
namespace Go.Proofs.Ytlkcneneagifoaa
namespace Ev
open Go Go.RowKit
set_option linter.unusedVariables false
set_option maxRecDepth 100000
set_option maxHeartbeats 1000000
theorem law07_Few_eq (x : Sl (Int × Int × Int)) : law07_Few x =
 if (↑x.l.length : Int) > 60 then (cutS 3 x 0 60).bind fun (s' : Sl (Int × Int × Int)) => some s'
else some x := by kernel_rfl
theorem csr_size_eq (x : Int) : csr_size x =
 if x ≥ 0 then some (decide (x ≤ 4096)) else some false := by kernel_rfl
noncomputable def csr_build_b1 (z : Sl
 (Int ×
  Int ×
   Int)) : Int × Int × Int × List Int × List Int × List Int →
 Option (Int × Int × Int × List Int × List Int × List Int ⊕ Int × Int × List Int × List Int × List Int ⊕ Empty) :=
 fun (x : Int × Int × Int × List Int × List Int × List Int) =>
 if x.fst < (↑z.l.length : Int) then
  (atS 3 z x.fst).bind fun (y : Int × Int × Int) =>
   (atL x.snd.snd.snd.fst (IntKind.i64.wrap (y.fst + 1))).bind fun (x_1 : Int) =>
    (atL x.snd.snd.snd.fst (IntKind.i64.wrap (y.fst + 1))).bind fun (y_1 : Int) =>
     (atL x.snd.snd.snd.fst (IntKind.i64.wrap (y.fst + 1))).bind fun (x_2 : Int) =>
      (atL x.snd.snd.snd.fst (IntKind.i64.wrap (y.fst + 1))).bind fun (y_2 : Int) =>
       (app x.snd.snd.snd.snd.fst [y.snd.fst]).bind fun (lm : List Int) =>
        (app x.snd.snd.snd.snd.snd [y.snd.snd]).bind fun (lm_1 : List Int) =>
         some
          (Sum.inl
           (IntKind.i64.wrap (x.fst + 1), x.snd.fst, x.snd.snd.fst,
            List.set x.snd.snd.snd.fst (IntKind.i64.wrap (y.fst + 1)).toNat (IntKind.i64.wrap (y_1 + 1)),
            lm, lm_1))
 else some (Sum.inr (Sum.inl x.snd))
noncomputable def csr_build_b2 : Int × List Int → Option (Int × List Int ⊕ List Int ⊕ Empty) :=
 fun (x : Int × List Int) =>
 if x.fst < (↑(List.length x.snd) : Int) then
  (atL x.snd x.fst).bind fun (x_1 : Int) =>
   (atL x.snd x.fst).bind fun (y : Int) =>
    (atL x.snd (IntKind.i64.wrap (x.fst - 1))).bind fun (x_2 : Int) =>
     (atL x.snd (IntKind.i64.wrap (x.fst - 1))).bind fun (y_1 : Int) =>
      (atL x.snd x.fst).bind fun (x_3 : Int) =>
       (atL x.snd x.fst).bind fun (y_2 : Int) =>
        some
         (Sum.inl
          (IntKind.i64.wrap (x.fst + 1), List.set x.snd (Int.toNat x.fst) (IntKind.i64.wrap (y + y_1))))
 else some (Sum.inr (Sum.inl x.snd))
theorem csr_build_eq (x : Int) (y : Int) (z : Sl (Int × Int × Int)) : csr_build x y z =
 (capOk (IntKind.i64.wrap (x + 1)) (IntKind.i64.wrap (x + 1))).bind fun (x_1 : PUnit) =>
 (lenOk (IntKind.i64.wrap (x + 1))).bind fun (x_2 : PUnit) =>
  (loopO (csr_build_b1 z) (0, x, y, List.replicate (IntKind.i64.wrap (x + 1)).toNat 0, [], [])).bind
   fun (y : Int × Int × List Int × List Int × List Int ⊕ Empty) =>
   Sum.elim
    (fun (val : Int × Int × List Int × List Int × List Int) =>
     (loopO csr_build_b2 (1, val.snd.snd.fst)).bind fun (y : List Int ⊕ Empty) =>
      Sum.elim
       (fun (val_1 : List Int) =>
        some
         (val.fst, val.snd.fst, { nn := true, sz := 1, l := val_1 }, mo 1 val.snd.snd.snd.fst,
          mo 1 val.snd.snd.snd.snd))
       (fun (val : Empty) => nE val) y)
    (fun (val : Empty) => nE val) y := by kernel_rfl
noncomputable def csr_Of_b1 (y : Int) (z : Int) (u : Sl
 (Int ×
  Int ×
   Int)) : Int × Int × Int × List Int × List Int × List Int →
 Option
  (Int × Int × Int × List Int × List Int × List Int ⊕
   Int × Int × List Int × List Int × List Int ⊕ Int × Int × Int × List Int × List Int × List Int ⊕ Empty) :=
 fun (x : Int × Int × Int × List Int × List Int × List Int) =>
 if x.fst < (↑u.l.length : Int) then
  (atS 3 u x.fst).bind fun (y_1 : Int × Int × Int) =>
   if y_1.fst < 0 then some (Sum.inr (Sum.inr (Sum.inl (3, 0, 0, [], [], []))))
   else
    if y_1.fst ≥ y then some (Sum.inr (Sum.inr (Sum.inl (3, 0, 0, [], [], []))))
    else
     if y_1.snd.fst < 0 then some (Sum.inr (Sum.inr (Sum.inl (3, 0, 0, [], [], []))))
     else
      if y_1.snd.fst ≥ z then some (Sum.inr (Sum.inr (Sum.inl (3, 0, 0, [], [], []))))
      else some (Sum.inl (IntKind.i64.wrap (x.fst + 1), x.snd))
 else some (Sum.inr (Sum.inl x.snd))
theorem csr_Of_eq (x : Int) (y : Int) (z : Int) (u : Sl (Int × Int × Int)) : csr_Of x y z u =
 (ring_Is x).bind fun (out : Bool) =>
 if ¬out = true then
  some
   ((0, 0, { nn := false, sz := 0, l := [] }, { nn := false, sz := 0, l := [] }, { nn := false, sz := 0, l := [] }),
    8)
 else
  (csr_size y).bind fun (out : Bool) =>
   if ¬out = true then
    some
     ((0, 0, { nn := false, sz := 0, l := [] }, { nn := false, sz := 0, l := [] },
       { nn := false, sz := 0, l := [] }),
      3)
   else
    (csr_size z).bind fun (out : Bool) =>
     if ¬out = true then
      some
       ((0, 0, { nn := false, sz := 0, l := [] }, { nn := false, sz := 0, l := [] },
         { nn := false, sz := 0, l := [] }),
        3)
     else
      if (↑u.l.length : Int) > 65536 then
       some
        ((0, 0, { nn := false, sz := 0, l := [] }, { nn := false, sz := 0, l := [] },
          { nn := false, sz := 0, l := [] }),
         5)
      else
       (loopO (csr_Of_b1 y z u) (0, 0, 0, [], [], [])).bind
        fun
         (y_1 :
          Int × Int × List Int × List Int × List Int ⊕
           Int × Int × Int × List Int × List Int × List Int ⊕ Empty) =>
        Sum.elim
         (fun (val : Int × Int × List Int × List Int × List Int) =>
          (csr_summed x u).bind fun (out : Sl (Int × Int × Int) × Int) =>
           if out.snd ≠ 0 then
            some
             ((0, 0, { nn := false, sz := 0, l := [] }, { nn := false, sz := 0, l := [] },
               { nn := false, sz := 0, l := [] }),
              out.snd)
           else
            (csr_build y z out.fst).bind fun (out : Int × Int × Sl Int × Sl Int × Sl Int) => some (out, 0))
         (fun (val : Int × Int × Int × List Int × List Int × List Int ⊕ Empty) =>
          Sum.elim
           (fun (val : Int × Int × Int × List Int × List Int × List Int) =>
            some
             ((val.snd.fst, val.snd.snd.fst, mo 1 val.snd.snd.snd.fst, mo 1 val.snd.snd.snd.snd.fst,
               mo 1 val.snd.snd.snd.snd.snd),
              val.fst))
           (fun (val : Empty) => nE val) val)
         y_1 := by kernel_rfl
theorem ref02_Is_eq (x : Int) : ref02_Is x =
 if x ≥ 1 then some (decide (x ≤ 5)) else some false := by kernel_rfl
theorem ref05_below_eq (x : Int × Int × Int) (y : Int × Int × Int) : ref05_below x y =
 if x.fst < y.fst then some true
else if x.fst = y.fst then some (decide (x.snd.fst < y.snd.fst)) else some false := by kernel_rfl
theorem ref01_Of_eq (x : Int) : ref01_Of x =
 if x < 0 then some (-1, IntKind.u64.wrap x) else some (0, IntKind.u64.wrap x) := by kernel_rfl
theorem ref01_Compare_eq (x : Int × Int) (y : Int × Int) : ref01_Compare x y =
 if x.fst < y.fst then some (-1)
else
 if x.fst = y.fst then if x.snd < y.snd then some (-1) else if x.fst = y.fst ∧ x.snd = y.snd then some 0 else some 1
 else if x.fst = y.fst ∧ x.snd = y.snd then some 0 else some 1 := by kernel_rfl
theorem ref02_truth_eq (x : Bool) : ref02_truth x =
 if x = true then some (0, 1) else some (0, 0) := by kernel_rfl
noncomputable def ref01_Add_j1 : Int → Int → Option (Int ⊕ Empty) :=
 fun (d d_1 : Int) => some (Sum.inl (IntKind.i64.wrap (d + d_1)))
theorem ref01_Add_eq (x : Int × Int) (y : Int × Int) : ref01_Add x y =
 (if IntKind.u64.wrap (x.snd + y.snd) < x.snd then ref01_Add_j1 (IntKind.i64.wrap (x.fst + y.fst)) 1
  else ref01_Add_j1 x.fst y.fst).bind
 fun (y_1 : Int ⊕ Empty) =>
 Sum.elim (fun (val : Int) => some (val, IntKind.u64.wrap (x.snd + y.snd))) (fun (val : Empty) => nE val)
  y_1 := by kernel_rfl
theorem ref02_Add_eq (x : Int) (y : Int × Int) (z : Int × Int) : ref02_Add x y z =
 (if x = 1 then some (Sum.inl true) else if x = 3 then some (Sum.inl true) else some (Sum.inl (decide (x = 4)))).bind
 fun (y_1 : Bool ⊕ Empty) =>
 Sum.elim
  (fun (val : Bool) =>
   if val = true then (ref01_Compare z y).bind fun (out : Int) => if out < 0 then some z else some y
   else
    if x = 2 then
     if ¬(y.fst = 0 ∧ y.snd = 0) then (ref02_truth true).bind fun (out : Int × Int) => some out
     else (ref02_truth (decide ¬(z.fst = 0 ∧ z.snd = 0))).bind fun (out : Int × Int) => some out
    else if x = 5 then (ref01_Add y z).bind fun (out : Int × Int) => some out else some (0, 0))
  (fun (val : Empty) => nE val) y_1 := by kernel_rfl
theorem ref01_Narrow_eq (x : Int × Int) : ref01_Narrow x =
 if x.fst = 0 then
 if IntKind.i64.wrap x.snd ≥ 0 then some (IntKind.i64.wrap x.snd, true)
 else
  if x.fst = -1 then if IntKind.i64.wrap x.snd < 0 then some (IntKind.i64.wrap x.snd, true) else some (0, false)
  else some (0, false)
else
 if x.fst = -1 then if IntKind.i64.wrap x.snd < 0 then some (IntKind.i64.wrap x.snd, true) else some (0, false)
 else some (0, false) := by kernel_rfl
noncomputable def ref05_Combine_b1 (y : Sl
 (Int × Int × Int)) (x : List (Int × Int × Int) × List (Int × Int) × Int) : Int → Option (Int ⊕ Int ⊕ Empty) :=
 fun (x_1 : Int) =>
 if x_1 < (↑(List.length x.fst) : Int) then
  (atL x.fst x_1).bind fun (x_2 : Int × Int × Int) =>
   (atL x.fst x_1).bind fun (y_1 : Int × Int × Int) =>
    (atS 3 y x.snd.snd).bind fun (y : Int × Int × Int) =>
     (ref05_below y_1 y).bind fun (out : Bool) =>
      if out = true then some (Sum.inl (IntKind.i64.wrap (x_1 + 1))) else some (Sum.inr (Sum.inl x_1))
 else some (Sum.inr (Sum.inl x_1))
noncomputable def ref05_Combine_b2 (val : Int) : Int × List (Int × Int × Int) × List (Int × Int) →
 Option (Int × List (Int × Int × Int) × List (Int × Int) ⊕ List (Int × Int × Int) × List (Int × Int) ⊕ Empty) :=
 fun (x : Int × List (Int × Int × Int) × List (Int × Int)) =>
 if x.fst > val then
  (atL x.snd.fst (IntKind.i64.wrap (x.fst - 1))).bind fun (x_1 : Int × Int × Int) =>
   (atL x.snd.fst (IntKind.i64.wrap (x.fst - 1))).bind fun (y : Int × Int × Int) =>
    (atL x.snd.fst x.fst).bind fun (x_2 : Int × Int × Int) =>
     (atL x.snd.fst x.fst).bind fun (y_1 : Int × Int × Int) =>
      (atL x.snd.snd (IntKind.i64.wrap (x.fst - 1))).bind fun (x_3 : Int × Int) =>
       (atL x.snd.snd (IntKind.i64.wrap (x.fst - 1))).bind fun (y_2 : Int × Int) =>
        (atL x.snd.snd x.fst).bind fun (x_4 : Int × Int) =>
         (atL x.snd.snd x.fst).bind fun (y_3 : Int × Int) =>
          some
           (Sum.inl
            (IntKind.i64.wrap (x.fst - 1), List.set x.snd.fst (Int.toNat x.fst) y,
             List.set x.snd.snd (Int.toNat x.fst) y_2))
 else some (Sum.inr (Sum.inl x.snd))
noncomputable def ref05_Combine_b3 (val : Int) : Int × List (Int × Int × Int) × List (Int × Int) →
 Option (Int × List (Int × Int × Int) × List (Int × Int) ⊕ List (Int × Int × Int) × List (Int × Int) ⊕ Empty) :=
 fun (x : Int × List (Int × Int × Int) × List (Int × Int)) =>
 if x.fst > val then
  (atL x.snd.fst (IntKind.i64.wrap (x.fst - 1))).bind fun (x_1 : Int × Int × Int) =>
   (atL x.snd.fst (IntKind.i64.wrap (x.fst - 1))).bind fun (y : Int × Int × Int) =>
    (atL x.snd.fst x.fst).bind fun (x_2 : Int × Int × Int) =>
     (atL x.snd.fst x.fst).bind fun (y_1 : Int × Int × Int) =>
      (atL x.snd.snd (IntKind.i64.wrap (x.fst - 1))).bind fun (x_3 : Int × Int) =>
       (atL x.snd.snd (IntKind.i64.wrap (x.fst - 1))).bind fun (y_2 : Int × Int) =>
        (atL x.snd.snd x.fst).bind fun (x_4 : Int × Int) =>
         (atL x.snd.snd x.fst).bind fun (y_3 : Int × Int) =>
          some
           (Sum.inl
            (IntKind.i64.wrap (x.fst - 1), List.set x.snd.fst (Int.toNat x.fst) y,
             List.set x.snd.snd (Int.toNat x.fst) y_2))
 else some (Sum.inr (Sum.inl x.snd))
noncomputable def ref05_Combine_b4 (x : Int) (y : Sl
 (Int ×
  Int ×
   Int)) : List (Int × Int × Int) × List (Int × Int) × Int →
 Option (List (Int × Int × Int) × List (Int × Int) × Int ⊕ List (Int × Int × Int) × List (Int × Int) ⊕ Empty) :=
 fun (x_1 : List (Int × Int × Int) × List (Int × Int) × Int) =>
 if x_1.snd.snd < (↑y.l.length : Int) then
  (loopO (ref05_Combine_b1 y x_1) 0).bind fun (y_1 : Int ⊕ Empty) =>
   Sum.elim
    (fun (val : Int) =>
     (atS 3 y x_1.snd.snd).bind fun (y_2 : Int × Int × Int) =>
      (ref01_Of y_2.snd.snd).bind fun (out : Int × Int) =>
       if val < (↑(List.length x_1.fst) : Int) then
        (atS 3 y x_1.snd.snd).bind fun (y_3 : Int × Int × Int) =>
         (atL x_1.fst val).bind fun (x_2 : Int × Int × Int) =>
          (atL x_1.fst val).bind fun (y_4 : Int × Int × Int) =>
           (ref05_below y_3 y_4).bind fun (out_1 : Bool) =>
            if ¬out_1 = true then
             (atL x_1.snd.fst val).bind fun (x_3 : Int × Int) =>
              (atL x_1.snd.fst val).bind fun (y : Int × Int) =>
               (ref02_Add x y out).bind fun (out : Int × Int) =>
                (atL x_1.snd.fst val).bind fun (x : Int × Int) =>
                 (atL x_1.snd.fst val).bind fun (y : Int × Int) =>
                  some
                   (Sum.inl
                    (x_1.fst, List.set x_1.snd.fst val.toNat out,
                     IntKind.i64.wrap (x_1.snd.snd + 1)))
            else
             (app x_1.fst [(0, 0, 0)]).bind fun (lm : List (Int × Int × Int)) =>
              (app x_1.snd.fst [(0, 0)]).bind fun (lm_1 : List (Int × Int)) =>
               (loopO (ref05_Combine_b2 val) (IntKind.i64.wrap ((↑lm.length : Int) - 1), lm, lm_1)).bind
                fun (y_5 : List (Int × Int × Int) × List (Int × Int) ⊕ Empty) =>
                Sum.elim
                 (fun (val_1 : List (Int × Int × Int) × List (Int × Int)) =>
                  (atS 3 y x_1.snd.snd).bind fun (y_6 : Int × Int × Int) =>
                   (atS 3 y x_1.snd.snd).bind fun (y : Int × Int × Int) =>
                    (atL val_1.fst val).bind fun (x : Int × Int × Int) =>
                     (atL val_1.fst val).bind fun (y_7 : Int × Int × Int) =>
                      (atL val_1.snd val).bind fun (x : Int × Int) =>
                       (atL val_1.snd val).bind fun (y_8 : Int × Int) =>
                        (neL (List.set val_1.fst val.toNat (y_6.fst, y.snd.fst, 0))).bind
                         fun (x : PUnit) =>
                         (neL (List.set val_1.snd val.toNat out)).bind fun (x : PUnit) =>
                          some
                           (Sum.inl
                            (List.set val_1.fst val.toNat (y_6.fst, y.snd.fst, 0),
                             List.set val_1.snd val.toNat out,
                             IntKind.i64.wrap (x_1.snd.snd + 1))))
                 (fun (val : Empty) => nE val) y_5
       else
        (app x_1.fst [(0, 0, 0)]).bind fun (lm : List (Int × Int × Int)) =>
         (app x_1.snd.fst [(0, 0)]).bind fun (lm_1 : List (Int × Int)) =>
          (loopO (ref05_Combine_b3 val) (IntKind.i64.wrap ((↑lm.length : Int) - 1), lm, lm_1)).bind
           fun (y_3 : List (Int × Int × Int) × List (Int × Int) ⊕ Empty) =>
           Sum.elim
            (fun (val_1 : List (Int × Int × Int) × List (Int × Int)) =>
             (atS 3 y x_1.snd.snd).bind fun (y_4 : Int × Int × Int) =>
              (atS 3 y x_1.snd.snd).bind fun (y : Int × Int × Int) =>
               (atL val_1.fst val).bind fun (x : Int × Int × Int) =>
                (atL val_1.fst val).bind fun (y_5 : Int × Int × Int) =>
                 (atL val_1.snd val).bind fun (x : Int × Int) =>
                  (atL val_1.snd val).bind fun (y_6 : Int × Int) =>
                   (neL (List.set val_1.fst val.toNat (y_4.fst, y.snd.fst, 0))).bind
                    fun (x : PUnit) =>
                    (neL (List.set val_1.snd val.toNat out)).bind fun (x : PUnit) =>
                     some
                      (Sum.inl
                       (List.set val_1.fst val.toNat (y_4.fst, y.snd.fst, 0),
                        List.set val_1.snd val.toNat out, IntKind.i64.wrap (x_1.snd.snd + 1))))
            (fun (val : Empty) => nE val) y_3)
    (fun (val : Empty) => nE val) y_1
 else some (Sum.inr (Sum.inl (x_1.fst, x_1.snd.fst)))
noncomputable def ref05_Combine_b5 (val : List (Int × Int × Int) ×
 List
  (Int ×
   Int)) : List (Int × Int × Int) × Int →
 Option (List (Int × Int × Int) × Int ⊕ List (Int × Int × Int) ⊕ List (Int × Int × Int) × Int ⊕ Empty) :=
 fun (x : List (Int × Int × Int) × Int) =>
 if x.snd < (↑(List.length x.fst) : Int) then
  (atL val.snd x.snd).bind fun (x_1 : Int × Int) =>
   (atL val.snd x.snd).bind fun (y : Int × Int) =>
    (ref01_Narrow y).bind fun (out : Int × Bool) =>
     if ¬out.snd = true then some (Sum.inr (Sum.inr (Sum.inl ([], 12))))
     else
      (atL x.fst x.snd).bind fun (x_2 : Int × Int × Int) =>
       (atL x.fst x.snd).bind fun (y : Int × Int × Int) =>
        some
         (Sum.inl (List.set x.fst (Int.toNat x.snd) (y.fst, y.snd.fst, out.fst), IntKind.i64.wrap (x.snd + 1)))
 else some (Sum.inr (Sum.inl x.fst))
theorem ref05_Combine_eq (x : Int) (y : Sl (Int × Int × Int)) : ref05_Combine x y =
 (ref02_Is x).bind fun (out : Bool) =>
 if ¬out = true then some ({ nn := false, sz := 0, l := [] }, 8)
 else
  (loopO (ref05_Combine_b4 x y) ([], [], 0)).bind fun (y : List (Int × Int × Int) × List (Int × Int) ⊕ Empty) =>
   Sum.elim
    (fun (val : List (Int × Int × Int) × List (Int × Int)) =>
     (loopO (ref05_Combine_b5 val) (val.fst, 0)).bind
      fun (y : List (Int × Int × Int) ⊕ List (Int × Int × Int) × Int ⊕ Empty) =>
      Sum.elim (fun (val : List (Int × Int × Int)) => some (mo 3 val, 0))
       (fun (val : List (Int × Int × Int) × Int ⊕ Empty) =>
        Sum.elim (fun (val : List (Int × Int × Int) × Int) => some (mo 3 val.fst, val.snd))
         (fun (val : Empty) => nE val) val)
       y)
    (fun (val : Empty) => nE val) y := by kernel_rfl
noncomputable def ref07_built_b1 (x : Int) : Int × List Int → Option (Int × List Int ⊕ List Int ⊕ Empty) :=
 fun (x_1 : Int × List Int) =>
 if x_1.fst ≤ x then
  (atL x_1.snd x_1.fst).bind fun (x : Int) =>
   (atL x_1.snd x_1.fst).bind fun (y : Int) =>
    (atL x_1.snd x_1.fst).bind fun (x : Int) =>
     (atL x_1.snd x_1.fst).bind fun (y_1 : Int) =>
      some
       (Sum.inl
        (IntKind.i64.wrap (x_1.fst + 1), List.set x_1.snd (Int.toNat x_1.fst) (IntKind.i64.wrap (y + 1))))
 else some (Sum.inr (Sum.inl x_1.snd))
noncomputable def ref07_built_b2 (x : Int) (z : Sl
 (Int ×
  Int ×
   Int)) : Int × Int × Int × List Int × List Int × List Int →
 Option (Int × Int × Int × List Int × List Int × List Int ⊕ Int × Int × List Int × List Int × List Int ⊕ Empty) :=
 fun (x_1 : Int × Int × Int × List Int × List Int × List Int) =>
 if x_1.fst < (↑z.l.length : Int) then
  (atS 3 z x_1.fst).bind fun (y : Int × Int × Int) =>
   (app x_1.snd.snd.snd.snd.fst [y.snd.fst]).bind fun (lm : List Int) =>
    (atS 3 z x_1.fst).bind fun (y : Int × Int × Int) =>
     (app x_1.snd.snd.snd.snd.snd [y.snd.snd]).bind fun (lm_1 : List Int) =>
      (atS 3 z x_1.fst).bind fun (y : Int × Int × Int) =>
       (loopO (ref07_built_b1 x) (IntKind.i64.wrap (y.fst + 1), x_1.snd.snd.snd.fst)).bind
        fun (y : List Int ⊕ Empty) =>
        Sum.elim
         (fun (val : List Int) =>
          some (Sum.inl (IntKind.i64.wrap (x_1.fst + 1), x_1.snd.fst, x_1.snd.snd.fst, val, lm, lm_1)))
         (fun (val : Empty) => nE val) y
 else some (Sum.inr (Sum.inl x_1.snd))
theorem ref07_built_eq (x : Int) (y : Int) (z : Sl (Int × Int × Int)) : ref07_built x y z =
 (capOk (IntKind.i64.wrap (x + 1)) (IntKind.i64.wrap (x + 1))).bind fun (x_1 : PUnit) =>
 (lenOk (IntKind.i64.wrap (x + 1))).bind fun (x_2 : PUnit) =>
  (loopO (ref07_built_b2 x z) (0, x, y, List.replicate (IntKind.i64.wrap (x + 1)).toNat 0, [], [])).bind
   fun (y : Int × Int × List Int × List Int × List Int ⊕ Empty) =>
   Sum.elim
    (fun (val : Int × Int × List Int × List Int × List Int) =>
     some
      (val.fst, val.snd.fst, { nn := true, sz := 1, l := val.snd.snd.fst }, mo 1 val.snd.snd.snd.fst,
       mo 1 val.snd.snd.snd.snd))
    (fun (val : Empty) => nE val) y := by kernel_rfl
noncomputable def ref07_Of_b1 (y : Int) (z : Int) (u : Sl
 (Int ×
  Int ×
   Int)) : List (Int × Int × Int) × Int × Int × Int × List Int × List Int × List Int →
 Option
  (List (Int × Int × Int) × Int × Int × Int × List Int × List Int × List Int ⊕
   List (Int × Int × Int) × Int × Int × List Int × List Int × List Int ⊕
    Int × Int × Int × List Int × List Int × List Int ⊕ Empty) :=
 fun (x : List (Int × Int × Int) × Int × Int × Int × List Int × List Int × List Int) =>
 if x.snd.fst < (↑u.l.length : Int) then
  (atS 3 u x.snd.fst).bind fun (y_1 : Int × Int × Int) =>
   if y_1.fst < 0 then some (Sum.inr (Sum.inr (Sum.inl (3, 0, 0, [], [], []))))
   else
    (atS 3 u x.snd.fst).bind fun (y_2 : Int × Int × Int) =>
     if y_2.fst ≥ y then some (Sum.inr (Sum.inr (Sum.inl (3, 0, 0, [], [], []))))
     else
      (atS 3 u x.snd.fst).bind fun (y : Int × Int × Int) =>
       if y.snd.fst < 0 then some (Sum.inr (Sum.inr (Sum.inl (3, 0, 0, [], [], []))))
       else
        (atS 3 u x.snd.fst).bind fun (y : Int × Int × Int) =>
         if y.snd.fst ≥ z then some (Sum.inr (Sum.inr (Sum.inl (3, 0, 0, [], [], []))))
         else
          (atS 3 u x.snd.fst).bind fun (y : Int × Int × Int) =>
           (atS 3 u x.snd.fst).bind fun (y_3 : Int × Int × Int) =>
            (atS 3 u x.snd.fst).bind fun (y_4 : Int × Int × Int) =>
             (app x.fst [(y.fst, y_3.snd.fst, y_4.snd.snd)]).bind fun (lm : List (Int × Int × Int)) =>
              some (Sum.inl (lm, IntKind.i64.wrap (x.snd.fst + 1), x.snd.snd))
 else some (Sum.inr (Sum.inl (x.fst, x.snd.snd)))
noncomputable def ref07_Of_b2 (out : Sl (Int × Int × Int) ×
 Int) : List (Int × Int × Int) × Int → Option (List (Int × Int × Int) × Int ⊕ List (Int × Int × Int) ⊕ Empty) :=
 fun (x : List (Int × Int × Int) × Int) =>
 if x.snd < (↑out.fst.l.length : Int) then
  (atS 3 out.fst x.snd).bind fun (y : Int × Int × Int) =>
   (atS 3 out.fst x.snd).bind fun (y_1 : Int × Int × Int) =>
    (atS 3 out.fst x.snd).bind fun (y_2 : Int × Int × Int) =>
     (app x.fst [(y.fst, y_1.snd.fst, y_2.snd.snd)]).bind fun (lm : List (Int × Int × Int)) =>
      some (Sum.inl (lm, IntKind.i64.wrap (x.snd + 1)))
 else some (Sum.inr (Sum.inl x.fst))
theorem ref07_Of_eq (x : Int) (y : Int) (z : Int) (u : Sl (Int × Int × Int)) : ref07_Of x y z u =
 (ref02_Is x).bind fun (out : Bool) =>
 if ¬out = true then
  some
   ((0, 0, { nn := false, sz := 0, l := [] }, { nn := false, sz := 0, l := [] }, { nn := false, sz := 0, l := [] }),
    8)
 else
  if y < 0 then
   some
    ((0, 0, { nn := false, sz := 0, l := [] }, { nn := false, sz := 0, l := [] },
      { nn := false, sz := 0, l := [] }),
     3)
  else
   if y > 4096 then
    some
     ((0, 0, { nn := false, sz := 0, l := [] }, { nn := false, sz := 0, l := [] },
       { nn := false, sz := 0, l := [] }),
      3)
   else
    if z < 0 then
     some
      ((0, 0, { nn := false, sz := 0, l := [] }, { nn := false, sz := 0, l := [] },
        { nn := false, sz := 0, l := [] }),
       3)
    else
     if z > 4096 then
      some
       ((0, 0, { nn := false, sz := 0, l := [] }, { nn := false, sz := 0, l := [] },
         { nn := false, sz := 0, l := [] }),
        3)
     else
      if (↑u.l.length : Int) > 65536 then
       some
        ((0, 0, { nn := false, sz := 0, l := [] }, { nn := false, sz := 0, l := [] },
          { nn := false, sz := 0, l := [] }),
         5)
      else
       (loopO (ref07_Of_b1 y z u) ([], 0, 0, 0, [], [], [])).bind
        fun
         (y_1 :
          List (Int × Int × Int) × Int × Int × List Int × List Int × List Int ⊕
           Int × Int × Int × List Int × List Int × List Int ⊕ Empty) =>
        Sum.elim
         (fun (val : List (Int × Int × Int) × Int × Int × List Int × List Int × List Int) =>
          (ref05_Combine x (mo 3 val.fst)).bind fun (out : Sl (Int × Int × Int) × Int) =>
           if out.snd ≠ 0 then
            some
             ((0, 0, { nn := false, sz := 0, l := [] }, { nn := false, sz := 0, l := [] },
               { nn := false, sz := 0, l := [] }),
              out.snd)
           else
            (loopO (ref07_Of_b2 out) ([], 0)).bind fun (y_2 : List (Int × Int × Int) ⊕ Empty) =>
             Sum.elim
              (fun (val : List (Int × Int × Int)) =>
               (ref07_built y z (mo 3 val)).bind fun (out : Int × Int × Sl Int × Sl Int × Sl Int) =>
                some (out, 0))
              (fun (val : Empty) => nE val) y_2)
         (fun (val : Int × Int × Int × List Int × List Int × List Int ⊕ Empty) =>
          Sum.elim
           (fun (val : Int × Int × Int × List Int × List Int × List Int) =>
            some
             ((val.snd.fst, val.snd.snd.fst, mo 1 val.snd.snd.snd.fst, mo 1 val.snd.snd.snd.snd.fst,
               mo 1 val.snd.snd.snd.snd.snd),
              val.fst))
           (fun (val : Empty) => nE val) val)
         y_1 := by kernel_rfl
noncomputable def ref03_SameInts_b1 (x : Sl Int) (y : Sl Int) : Int → Option (Int ⊕ PUnit ⊕ Bool ⊕ Empty) :=
 fun (x_1 : Int) =>
 if x_1 < (↑x.l.length : Int) then
  (atS 1 x x_1).bind fun (y_1 : Int) =>
   (atS 1 y x_1).bind fun (y : Int) =>
    if y_1 ≠ y then some (Sum.inr (Sum.inr (Sum.inl false))) else some (Sum.inl (IntKind.i64.wrap (x_1 + 1)))
 else some (Sum.inr (Sum.inl ()))
theorem ref03_SameInts_eq (x : Sl Int) (y : Sl Int) : ref03_SameInts x y =
 if (↑x.l.length : Int) ≠ (↑y.l.length : Int) then some false
else
 (loopO (ref03_SameInts_b1 x y) 0).bind fun (y : PUnit ⊕ Bool ⊕ Empty) =>
  Sum.elim (fun (val : PUnit) => some true)
   (fun (val : Bool ⊕ Empty) => Sum.elim (fun (val : Bool) => some val) (fun (val : Empty) => nE val) val)
   y := by kernel_rfl
noncomputable def ref07_SameVals_b1 (x : Sl Int) (y : Sl Int) : Int → Option (Int ⊕ PUnit ⊕ Bool ⊕ Empty) :=
 fun (x_1 : Int) =>
 if x_1 < (↑x.l.length : Int) then
  (atS 1 x x_1).bind fun (y_1 : Int) =>
   (atS 1 y x_1).bind fun (y : Int) =>
    if y_1 ≠ y then some (Sum.inr (Sum.inr (Sum.inl false))) else some (Sum.inl (IntKind.i64.wrap (x_1 + 1)))
 else some (Sum.inr (Sum.inl ()))
theorem ref07_SameVals_eq (x : Sl Int) (y : Sl Int) : ref07_SameVals x y =
 if (↑x.l.length : Int) ≠ (↑y.l.length : Int) then some false
else
 (loopO (ref07_SameVals_b1 x y) 0).bind fun (y : PUnit ⊕ Bool ⊕ Empty) =>
  Sum.elim (fun (val : PUnit) => some true)
   (fun (val : Bool ⊕ Empty) => Sum.elim (fun (val : Bool) => some val) (fun (val : Empty) => nE val) val)
   y := by kernel_rfl
theorem ref07_Same_eq (x : Int ×
 Int × Sl Int × Sl Int × Sl Int) (y : Int × Int × Sl Int × Sl Int × Sl Int) : ref07_Same x y =
 if x.fst = y.fst then
 if x.snd.fst = y.snd.fst then
  (ref03_SameInts x.snd.snd.fst y.snd.snd.fst).bind fun (out : Bool) =>
   if out = true then
    (ref03_SameInts x.snd.snd.snd.fst y.snd.snd.snd.fst).bind fun (out : Bool) =>
     if out = true then
      (ref07_SameVals x.snd.snd.snd.snd y.snd.snd.snd.snd).bind fun (out : Bool) => some (decide (out = true))
     else some false
   else some false
 else some false
else some false := by kernel_rfl
theorem law07_CsrOf_eq (x : Int) (y : Int × Int) (z : Sl (Int × Int × Int)) : law07_CsrOf x y z =
 (law07_Few z).bind fun (out : Sl (Int × Int × Int)) =>
 (csr_Of x y.fst y.snd out).bind fun (out_1 : (Int × Int × Sl Int × Sl Int × Sl Int) × Int) =>
  (ref07_Of x y.fst y.snd out).bind fun (out : (Int × Int × Sl Int × Sl Int × Sl Int) × Int) =>
   FL17.bind fun (out_2 : Bool) =>
    if out_2 = true then
     (ref07_Same out_1.fst out.fst).bind fun (out_3 : Bool) =>
      if out_3 = true then some (decide (out_1.snd = out.snd)) else some false
    else some false := by kernel_rfl
end Ev
end Go.Proofs.Ytlkcneneagifoaa
end
section
namespace Go.Proofs.Ytlkcneneagifoaa
namespace Ev
open Go
set_option linter.unusedVariables false
set_option linter.unusedSimpArgs false
abbrev Mx := Int × Int × Sl Int × Sl Int × Sl Int
abbrev E3 := Int × Int × Int
theorem csr_size_w (n : Int) : csr_size n = some (sizeF n) := by
 rw [csr_size_eq]
 unfold sizeF
 by_cases h1 : n ≥ 0
 ·rw [if_pos h1, decide_eq_true (show 0 ≤ n from h1)]; simp
 ·rw [if_neg h1, decide_eq_false (show ¬ 0 ≤ n from h1)]; rfl
end Ev
end Go.Proofs.Ytlkcneneagifoaa
end
section
namespace Go.Proofs.Ytlkcneneagifoaa
namespace Ev
open Go Sm
set_option linter.unusedVariables false
set_option linter.unusedSimpArgs false
def bel (a b : E3) : Bool := klt (key a) (key b)
abbrev rises (l : List E3) : Prop := l.Pairwise fun a b => bel a b = true
def tabN (n : Nat) (f : Nat → Int) : List Int := (List.range (n + 1)).map f
theorem tabN_len (n : Nat) (f : Nat → Int) : (tabN n f).length = n + 1 := by unfold tabN; simp
theorem tabN_get {n k : Nat} (f : Nat → Int) (h : k ≤ n) : (tabN n f)[k]? = some (f k) := by
 unfold tabN
 rw [List.getElem?_map, List.getElem?_range (by omega)]; rfl
theorem tabN_congr {n : Nat} {f g : Nat → Int} (h : ∀ k, k ≤ n → f k = g k) : tabN n f = tabN n g := by
 unfold tabN
 refine List.map_congr_left fun k hk => h k ?_
 simp at hk; omega
theorem tabN_set {n k : Nat} (f : Nat → Int) (v : Int) (h : k ≤ n) : (tabN n f).set k v = tabN n fun i => if i = k then v else f i := by
 refine List.ext_getElem? fun i => ?_
 rw [List.getElem?_set]
 by_cases hi : i ≤ n
 ·rw [tabN_get _ hi]
  by_cases e : k = i
  ·subst e; rw [if_pos rfl, if_pos (by rw [tabN_len]; omega), tabN_get _ hi, if_pos rfl]
  ·rw [if_neg e, tabN_get _ hi, if_neg (Ne.symm e)]
 ·rw [if_neg (by omega)]
  rw [List.getElem?_eq_none (by rw [tabN_len]; omega), List.getElem?_eq_none (by rw [tabN_len]; omega)]
theorem tabN_zero (n : Nat) : List.replicate (n + 1) (0 : Int) = tabN n fun _ => 0 := by
 refine List.ext_getElem? fun i => ?_
 by_cases hi : i ≤ n
 ·rw [tabN_get _ hi, List.getElem?_replicate, if_pos (by omega)]
 ·rw [List.getElem?_eq_none (by simp; omega), List.getElem?_eq_none (by rw [tabN_len]; omega)]
def cntR (l : List E3) (k : Nat) : Nat := l.countP fun x => decide (x.1 < (k : Int))
theorem cntR_le (l : List E3) (k : Nat) : cntR l k ≤ l.length := List.countP_le_length
theorem cntR_app (l : List E3) (x : E3) (k : Nat) : cntR (l ++ [x]) k = cntR l k + if x.1 < (k : Int) then 1 else 0 := by
 unfold cntR
 rw [List.countP_append]
 congr 1
 by_cases h : x.1 < (k : Int) <;> simp [h]
theorem count_in {n : Nat} (hn : n ≤ 4096) {row : Nat} (hr : row < n) {f : Nat → Int} (hf : ∀ k, 0 ≤ f k ∧ f k ≤ 100000) : loopO (ref07_built_b1 (n : Int)) ((((row + 1 : Nat) : Int)), tabN n f) = some (.inl (tabN n fun i => f i + if row < i then 1 else 0)) := by
 obtain ⟨q, q1, q2⟩ := loop_up (b := ref07_built_b1 (n : Int)) (n - row) (fun j st => st = (((row + 1 + j : Nat) : Int), tabN n fun i => f i + if row < i ∧ i ≤ row + j then 1 else 0)) (fun q => q = .inl (tabN n fun i => f i + if row < i then 1 else 0))
  (by
   rintro j _ hj rfl
   have hat : atL (tabN n fun i => f i + if row < i ∧ i ≤ row + j then 1 else 0) ((row + 1 + j : Nat) : Int) = some (f (row + 1 + j)) := by
    unfold atL
    rw [if_pos (by omega), Int.toNat_natCast, tabN_get _ (by omega), if_neg (by omega), Int.add_zero]
   have hfk := hf (row + 1 + j)
   simp only [ref07_built_b1, hat, Option.bind_some, Int.toNat_natCast]
   rw [if_pos (by omega), wrap64 (n := f (row + 1 + j) + 1) (by omega) (by omega), tabN_set _ _ (by omega), wrap64 (n := ((row + 1 + j : Nat) : Int) + 1) (by omega) (by omega)]
   refine .inl ⟨_, rfl, ?_⟩
   rw [Prod.mk.injEq]
   refine ⟨by omega, tabN_congr fun i hi => ?_⟩
   by_cases e : i = row + 1 + j
   ·rw [if_pos e, e, if_pos (by omega)]
   ·rw [if_neg e]
    by_cases h1 : row < i ∧ i ≤ row + j
    ·rw [if_pos h1, if_pos (by omega)]
    ·rw [if_neg h1, if_neg (by omega)])
  (by
   rintro _ rfl
   refine ⟨_, ?_, rfl⟩
   simp only [ref07_built_b1]
   rw [if_neg (by omega)]
   congr 3
   refine tabN_congr fun i hi => ?_
   by_cases h1 : row < i
   ·rw [if_pos h1, if_pos (by omega)]
   ·rw [if_neg h1, if_neg (by omega)]) 0 (Nat.zero_le _) (((row + 1 : Nat) : Int), tabN n f) (by
    rw [Prod.mk.injEq]
    refine ⟨by omega, tabN_congr fun i hi => ?_⟩
    rw [if_neg (by omega), Int.add_zero])
 rw [q1, q2]
def matV (n c : Int) (l : List E3) : Mx := (n, c, ⟨true, 1, tabN n.toNat fun k => ((cntR l k : Nat) : Int)⟩, mo 1 (l.map (·.2.1)), mo 1 (l.map (·.2.2)))
theorem ref07_built_w {n c : Int} (hn : 0 ≤ n ∧ n ≤ 4096) {s : Sl E3} (hs : okS 3 s) (hl : s.l.length ≤ 65536) (hr : ∀ x ∈ s.l, 0 ≤ x.1 ∧ x.1 < n) : ref07_built n c s = some (matV n c s.l) := by
 obtain ⟨k, rfl⟩ := Int.eq_ofNat_of_zero_le hn.1
 rw [ref07_built_eq]
 unfold matV
 rw [wrap64 (by omega) (by omega), capOk_self]
 have hlo : lenOk ((k : Int) + 1) = some () := by unfold lenOk bound; rw [if_pos ⟨by omega, by omega⟩]
 rw [hlo]
 have tk : ((k : Int) + 1).toNat = k + 1 := by omega
 simp only [Option.bind_some, tk, Int.toNat_natCast]
 rw [tabN_zero]
 obtain ⟨q, q1, q2⟩ := loop_up (b := ref07_built_b2 (k : Int) s) s.l.length (fun j st => st = ((j : Int), (k : Int), c, tabN k (fun i => ((cntR (s.l.take j) i : Nat) : Int)), (s.l.take j).map (·.2.1), (s.l.take j).map (·.2.2))) (fun q => q = .inl ((k : Int), c, tabN k (fun i => ((cntR s.l i : Nat) : Int)), s.l.map (·.2.1), s.l.map (·.2.2)))
  (by
   rintro j _ hj rfl
   have ej := at_get hs hj
   have hx := hr _ (List.getElem_mem hj)
   obtain ⟨row, hrow⟩ := Int.eq_ofNat_of_zero_le hx.1
   have hlen : (s.l.take j).length ≤ 65536 := by simp; omega
   have ap1 : app ((s.l.take j).map (·.2.1)) [s.l[j].2.1] = some ((s.l.take j).map (·.2.1) ++ [s.l[j].2.1]) := app_ok (by simp at hlen ⊢; unfold bound; omega)
   have ap2 : app ((s.l.take j).map (·.2.2)) [s.l[j].2.2] = some ((s.l.take j).map (·.2.2) ++ [s.l[j].2.2]) := app_ok (by simp at hlen ⊢; unfold bound; omega)
   have hw : IntKind.i64.wrap (s.l[j].1 + 1) = ((row + 1 : Nat) : Int) := by rw [wrap64 (by omega) (by omega)]; omega
   have hin := count_in (n := k) (by omega) (row := row) (by omega) (f := fun i => ((cntR (s.l.take j) i : Nat) : Int)) (fun i => by have := cntR_le (s.l.take j) i; omega)
   simp only [ref07_built_b2, ej, Option.bind_some, ap1, ap2, hw, hin, Sum.elim_inl, w_succ hj (by omega)]
   rw [if_pos (by omega)]
   refine .inl ⟨_, rfl, ?_⟩
   rw [List.take_succ_eq_append_getElem hj, List.map_append, List.map_append]
   simp only [List.map_cons, List.map_nil, Prod.mk.injEq, and_true, true_and]
   refine tabN_congr fun i hi => ?_
   rw [cntR_app, hrow]
   by_cases h : row < i
   ·rw [if_pos h, if_pos (by omega)]; omega
   ·rw [if_neg h, if_neg (by omega)]; omega)
  (by
   rintro _ rfl
   refine ⟨.inl ((k : Int), c, tabN k (fun i => ((cntR s.l i : Nat) : Int)), s.l.map (·.2.1), s.l.map (·.2.2)), ?_, rfl⟩
   simp only [ref07_built_b2]
   rw [if_neg (by omega), List.take_length]) 0 (Nat.zero_le _) (0, (k : Int), c, tabN k (fun _ => 0), [], []) rfl
 rw [q1, q2]; rfl
end Ev
end Go.Proofs.Ytlkcneneagifoaa
end
section
namespace Go.Proofs.Ytlkcneneagifoaa
namespace Ev
open Go Sm
set_option linter.unusedVariables false
set_option linter.unusedSimpArgs false
abbrev RG (r : Int) : Rg := ⟨ofW, ringAdd r, narrowW⟩
theorem ref01_Of_w (n : Int) : ref01_Of n = some (ofW n) := by
 rw [ref01_Of_eq]
 unfold ofW
 by_cases h : n < 0
 ·simp only [if_pos h]
 ·simp only [if_neg h]
theorem ref01_Compare_lt (a b : Int × Int) : ∃ c : Int, ref01_Compare a b = some c ∧ (c < 0 ↔ lessW a b = true) := by
 obtain ⟨a1, a2⟩ := a; obtain ⟨b1, b2⟩ := b
 rw [ref01_Compare_eq]
 unfold lessW
 simp only
 by_cases h2 : a1 < b1
 ·rw [if_pos h2]; exact ⟨-1, rfl, by simp [h2]⟩
 rw [if_neg h2]
 by_cases h3 : a1 = b1
 ·rw [if_pos h3]
  by_cases h4 : a2 < b2
  ·rw [if_pos h4]; exact ⟨-1, rfl, by simp [h3, h4]⟩
  ·rw [if_neg h4]
   by_cases h5 : a1 = b1 ∧ a2 = b2
   ·rw [if_pos h5]; exact ⟨0, rfl, by simp [h3]; omega⟩
   ·rw [if_neg h5]; exact ⟨1, rfl, by simp [h3]; omega⟩
 ·rw [if_neg h3]
  by_cases h5 : a1 = b1 ∧ a2 = b2
  ·exact absurd h5.1 h3
  ·rw [if_neg h5]; exact ⟨1, rfl, by simp [h3]; omega⟩
theorem ref01_Add_w (a b : Int × Int) : ref01_Add a b = some (addW a b) := by
 obtain ⟨a1, a2⟩ := a; obtain ⟨b1, b2⟩ := b
 rw [ref01_Add_eq]
 unfold addW ref01_Add_j1
 simp only
 split <;> rfl
theorem ref02_truth_w (b : Bool) : ref02_truth b = some (truthW b) := by rw [ref02_truth_eq]; unfold truthW; cases b <;> rfl
theorem ref02_Add_w (r : Int) (a b : Int × Int) : ref02_Add r a b = some (ringAdd r a b) := by
 rw [ref02_Add_eq]
 unfold ringAdd
 have hl : ((ref01_Compare b a).bind fun (out : Int) => if out < 0 then some b else some a) = some (lessrW a b) := by
  obtain ⟨c, h1, h2⟩ := ref01_Compare_lt b a
  rw [h1, Option.bind_some]
  unfold lessrW
  by_cases hc : c < 0
  ·rw [if_pos hc, if_pos (h2.1 hc)]
  ·rw [if_neg hc, if_neg (fun h => hc (h2.2 h))]
 simp only [hl, ref02_truth_w, ref01_Add_w, Option.bind_some]
 by_cases h1 : r = 1
 ·simp [h1]
 by_cases h3 : r = 3
 ·simp [h3]
 by_cases h4 : r = 4
 ·simp [h4]
 simp only [if_neg h1, if_neg h3, if_neg (show ¬ (r = 1 ∨ r = 3 ∨ r = 4) by omega), decide_eq_false h4, Option.bind_some, Sum.elim_inl, Bool.false_eq_true, if_false]
 by_cases h2 : r = 2
 ·simp only [if_pos h2]
  by_cases ha : a.1 = 0 ∧ a.2 = 0
  ·by_cases hb : b.1 = 0 ∧ b.2 = 0
   ·simp [ha, hb]
   ·simp [ha, hb]
  ·simp [ha]
 ·simp only [if_neg h2]
  split <;> rfl
theorem ref01_Narrow_w {a : Int × Int} (h : u64r a.2) : ref01_Narrow a = some (narrowW a) := by
 obtain ⟨a1, a2⟩ := a
 rw [ref01_Narrow_eq]
 unfold narrowW ofW
 simp only [u64_id h, Prod.mk.injEq, and_true]
 by_cases hn : IntKind.i64.wrap a2 < 0
 ·have hg : ¬ IntKind.i64.wrap a2 ≥ 0 := by omega
  simp only [if_pos hn, if_neg hg]
  by_cases h1 : a1 = 0
  ·have : ¬ a1 = -1 := by omega
   simp only [if_pos h1, if_neg this]
  ·simp only [if_neg h1]
   split <;> rfl
 ·have hg : IntKind.i64.wrap a2 ≥ 0 := by omega
  simp only [if_neg hn, if_pos hg]
  by_cases h1 : a1 = 0
  ·simp only [if_pos h1]
  ·simp only [if_neg h1]
   split <;> rfl
theorem ref02_Is_w (r : Int) : ref02_Is r = some (isRing r) := by
 rw [ref02_Is_eq]
 unfold isRing
 by_cases h1 : r ≥ 1
 ·rw [if_pos h1, decide_eq_true (show 1 ≤ r from h1)]; simp
 ·rw [if_neg h1, decide_eq_false (show ¬ 1 ≤ r from h1)]; rfl
end Ev
end Go.Proofs.Ytlkcneneagifoaa
end
section
namespace Go.Proofs.Ytlkcneneagifoaa
namespace Ev
open Go Sm
set_option linter.unusedVariables false
set_option linter.unusedSimpArgs false
theorem ref05_below_w (a b : E3) : ref05_below a b = some (bel a b) := by
 rw [ref05_below_eq]
 have hb : bel a b = (decide (a.1 < b.1) || (decide (a.1 = b.1) && decide (a.2.1 < b.2.1))) := by
  unfold bel klt key; rw [Bool.decide_or, Bool.decide_and]
 rw [hb]
 by_cases h1 : a.1 < b.1
 ·rw [if_pos h1, decide_eq_true h1]; rfl
 ·rw [if_neg h1, decide_eq_false h1]
  by_cases h2 : a.1 = b.1
  ·rw [if_pos h2, decide_eq_true h2]; rfl
  ·rw [if_neg h2, decide_eq_false h2]; rfl
def insE {α : Type} (l : List α) (k : Nat) (y : α) : List α := l.take k ++ y :: l.drop k
theorem insE_len {α : Type} {l : List α} {k : Nat} (y : α) : (insE l k y).length = l.length + 1 := by unfold insE; simp; omega
theorem insE_at {α : Type} {l : List α} {k : Nat} (hk : k ≤ l.length) (y : α) : (insE l k y)[k]? = some y := by
 unfold insE
 rw [List.getElem?_append_right (by rw [List.length_take]; omega), List.length_take, Nat.min_eq_left hk, Nat.sub_self]; rfl
theorem insE_set {α : Type} {l : List α} {k : Nat} (hk : k ≤ l.length) (y x : α) : (insE l k y).set k x = insE l k x := by
 unfold insE
 rw [List.set_append_right _ _ (by rw [List.length_take]; omega), List.length_take, Nat.min_eq_left hk, Nat.sub_self]; rfl
theorem insE_last {α : Type} (l : List α) (y : α) : insE l l.length y = l ++ [y] := by unfold insE; simp
theorem insE_pred {α : Type} {l : List α} {k : Nat} (hk : k + 1 ≤ l.length) (y : α) : (insE l (k + 1) y)[k]? = some l[k] ∧ insE l (k + 1) l[k] = insE l k l[k] := by
 unfold insE
 constructor
 ·rw [List.getElem?_append_left (by simp; omega), List.getElem?_take, if_pos (by omega), List.getElem?_eq_getElem]
 ·rw [List.take_succ_eq_append_getElem (by omega), List.append_assoc, List.drop_eq_getElem_cons (i := k) (by omega)]; rfl
theorem insE_mem {α : Type} {l : List α} {k : Nat} {y x : α} (h : x ∈ insE l k y) : x = y ∨ x ∈ l := by
 unfold insE at h
 rcases List.mem_append.1 h with h | h
 ·exact .inr (List.mem_of_mem_take h)
 ·rcases List.mem_cons.1 h with h | h
  ·exact .inl h
  ·exact .inr (List.mem_of_mem_drop h)
theorem shift_one {b : Int × List E3 × List (Int × Int) → Option ((Int × List E3 × List (Int × Int)) ⊕ ((List E3 × List (Int × Int)) ⊕ Empty))} {a : Nat} (hb : b = ref05_Combine_b2 (a : Int) ∨ b = ref05_Combine_b3 (a : Int)) {l : List E3} {s : List (Int × Int)} (hl : s.length = l.length) (hn : l.length ≤ 100000) (ha : a ≤ l.length) (y : E3) (z : Int × Int) :
  ∃ y' z', loopO b ((l.length : Int), l ++ [y], s ++ [z]) = some (.inl (insE l a y', insE s a z')) := by
 have step : ∀ (k : Nat) y z, a < k + 1 → k + 1 ≤ l.length → ∃ y' z', b (((k + 1 : Nat) : Int), insE l (k + 1) y, insE s (k + 1) z) = some (.inl ((k : Int), insE l k y', insE s k z')) := fun k y z h1 hk => by
  have hks : k + 1 ≤ s.length := by omega
  have e1 := atL_some' (insE_pred hk y).1
  have e2 := atL_some' (insE_at hk y)
  have e3 := atL_some' (insE_pred hks z).1
  have e4 := atL_some' (insE_at hks z)
  have hw : IntKind.i64.wrap (((k + 1 : Nat) : Int) - 1) = (k : Int) := by rw [wrap64 (by omega) (by omega)]; omega
  have t1 : ((k + 1 : Nat) : Int).toNat = k + 1 := Int.toNat_natCast _
  refine ⟨l[k], s[k], ?_⟩
  rw [← (insE_pred hk y).2, ← (insE_pred hks z).2, ← insE_set hk y l[k], ← insE_set hks z s[k]]
  rcases hb with rfl | rfl
  ·simp only [ref05_Combine_b2, hw, e1, e2, e3, e4, Option.bind_some, t1]
   rw [if_pos (by omega)]
  ·simp only [ref05_Combine_b3, hw, e1, e2, e3, e4, Option.bind_some, t1]
   rw [if_pos (by omega)]
 have stop : ∀ y z, b ((a : Int), insE l a y, insE s a z) = some (.inr (.inl (insE l a y, insE s a z))) := fun y z => by
  rcases hb with rfl | rfl
  ·simp only [ref05_Combine_b2]; rw [if_neg (by omega)]
  ·simp only [ref05_Combine_b3]; rw [if_neg (by omega)]
 obtain ⟨q, q1, y', z', q2⟩ := loop_up (b := b) (l.length - a) (fun j st => ∃ y z, st = (((l.length - j : Nat) : Int), insE l (l.length - j) y, insE s (l.length - j) z)) (fun q => ∃ y z, q = .inl (insE l a y, insE s a z))
  (by
   rintro j _ hj ⟨y, z, rfl⟩
   obtain ⟨k, hk⟩ : ∃ k, l.length - j = k + 1 := ⟨l.length - j - 1, by omega⟩
   rw [hk]
   obtain ⟨y', z', e⟩ := step k y z (by omega) (by omega)
   exact .inl ⟨_, e, y', z', by rw [show l.length - (j + 1) = k by omega]⟩)
  (by
   rintro _ ⟨y, z, rfl⟩
   rw [show l.length - (l.length - a) = a by omega]
   exact ⟨_, stop y z, y, z, rfl⟩) 0 (Nat.zero_le _) ((l.length : Int), l ++ [y], s ++ [z]) ⟨y, z, by rw [Nat.sub_zero, insE_last, ← hl, insE_last, hl]⟩
 exact ⟨y', z', by rw [q1, q2]⟩
def kz (p : Ky × V) : E3 := (p.1.1, p.1.2, 0)
def pos (S : List (Ky × V)) (e : E3) : Nat := (S.takeWhile fun p => klt p.1 (key e)).length
theorem pos_le (S : List (Ky × V)) (e : E3) : pos S e ≤ S.length := (List.takeWhile_sublist _).length_le
theorem pos_cons_t {p : Ky × V} {S : List (Ky × V)} {e : E3} (hp : klt p.1 (key e) = true) : pos (p :: S) e = pos S e + 1 := by unfold pos; simp [List.takeWhile_cons, hp]
theorem pos_cons_f {p : Ky × V} {S : List (Ky × V)} {e : E3} (hp : ¬ klt p.1 (key e) = true) : pos (p :: S) e = 0 := by unfold pos; simp [List.takeWhile_cons, hp]
theorem pos_lt : ∀ {S : List (Ky × V)} {e : E3} {j : Nat} (hj : j < S.length), j < pos S e → klt S[j].1 (key e) = true
 | [], e, j, hj, h => by simp at hj
 | p :: S, e, j, hj, h => by
  by_cases hp : klt p.1 (key e) = true
  ·rw [pos_cons_t hp] at h
   cases j with
   | zero => exact hp
   | succ j => exact pos_lt (S := S) (e := e) (j := j) (by simpa using hj) (by omega)
  ·rw [pos_cons_f hp] at h; omega
theorem pos_at' : ∀ {S : List (Ky × V)} {e : E3} {j : Nat} (hj : j < S.length), j = pos S e → klt S[j].1 (key e) = false
 | [], e, j, hj, h => by simp at hj
 | p :: S, e, j, hj, h => by
  by_cases hp : klt p.1 (key e) = true
  ·rw [pos_cons_t hp] at h
   subst h
   exact pos_at' (S := S) (e := e) (j := pos S e) (by simpa using hj) rfl
  ·rw [pos_cons_f hp] at h
   subst h
   simpa using hp
theorem pos_at {S : List (Ky × V)} {e : E3} (h : pos S e < S.length) : klt (S[pos S e]'h).1 (key e) = false := pos_at' h rfl
theorem ins_eq (R : Rg) (e : E3) : ∀ (S : List (Ky × V)), ins R S e = if h : pos S e < S.length then (if klt (key e) (S[pos S e]'h).1 = true then insE S (pos S e) (key e, R.o e.2.2) else S.set (pos S e) ((S[pos S e]'h).1, R.ad (S[pos S e]'h).2 (R.o e.2.2))) else S ++ [(key e, R.o e.2.2)]
 | [] => by simp [ins, pos]
 | p :: S => by
  have ih := ins_eq R e S
  unfold ins
  by_cases hp : klt p.1 (key e) = true
  ·have hpos : pos (p :: S) e = pos S e + 1 := by unfold pos; simp [List.takeWhile_cons, hp]
   rw [if_pos hp, ih]
   simp only [hpos, List.length_cons, Nat.add_lt_add_iff_right, List.getElem_cons_succ]
   split
   ·split
    ·unfold insE; simp
    ·simp
   ·simp
  ·have hpos : pos (p :: S) e = 0 := by unfold pos; simp [List.takeWhile_cons, hp]
   rw [if_neg hp]
   simp only [hpos, List.length_cons, Nat.zero_lt_succ, dif_pos, List.getElem_cons_zero]
   split
   ·unfold insE; simp
   ·simp
theorem insE_map {α β : Type} (f : α → β) (l : List α) (k : Nat) (y : α) : (insE l k y).map f = insE (l.map f) k (f y) := by unfold insE; simp
theorem can_len (R : Rg) (l : List E3) : (canS R l).length ≤ l.length := by
 have key : ∀ (S : List (Ky × V)) e, (ins R S e).length ≤ S.length + 1 := by
  intro S e
  rw [ins_eq]
  split
  ·split
   ·rw [insE_len]; omega
   ·simp
  ·simp
 have : ∀ (l : List E3) (S : List (Ky × V)), (l.foldl (ins R) S).length ≤ S.length + l.length := by
  intro l
  induction l with
  | nil => intro S; simp
  | cons e l ih => intro S; have h1 := ih (ins R S e); have h2 := key S e; simp only [List.foldl_cons, List.length_cons]; omega
 simpa [canS] using this l []
theorem ins_lo {r : Int} {S : List (Ky × V)} {e : E3} (h : ∀ p ∈ S, u64r p.2.2) : ∀ p ∈ ins (RG r) S e, u64r p.2.2 := by
 intro p hp
 rw [ins_eq] at hp
 split at hp
 ·rename_i hl
  split at hp
  ·rcases insE_mem hp with rfl | hp
   ·exact ofW_lo _
   ·exact h p hp
  ·rcases List.mem_or_eq_of_mem_set hp with hp | rfl
   ·exact h p hp
   ·exact ringAdd_lo (h _ (List.getElem_mem hl)) (ofW_lo _)
 ·rcases List.mem_append.1 hp with hp | hp
  ·exact h p hp
  ·simp at hp; subst hp; exact ofW_lo _
theorem can_lo (r : Int) (l : List E3) : ∀ p ∈ canS (RG r) l, u64r p.2.2 := by
 have : ∀ (l : List E3) (S : List (Ky × V)), (∀ p ∈ S, u64r p.2.2) → ∀ p ∈ l.foldl (ins (RG r)) S, u64r p.2.2 := by
  intro l
  induction l with
  | nil => intro S h; exact h
  | cons e l ih => intro S h; exact ih _ (ins_lo h)
 exact this l [] (by simp)
theorem find_at {x : Sl E3} {S : List (Ky × V)} {w : List (Int × Int)} {i : Nat} (hs : okS 3 x) (hi : i < x.l.length) (hn : S.length ≤ 100000) : loopO (ref05_Combine_b1 x (S.map kz, w, (i : Int))) 0 = some (.inl ((pos S x.l[i] : Nat) : Int)) := by
 have ei := at_get hs hi
 have hb : ∀ j (hj : j < S.length), bel (kz S[j]) x.l[i] = klt S[j].1 (key x.l[i]) := fun j hj => rfl
 refine loop_stop (pos S x.l[i]) (fun j => (j : Int)) rfl (fun j hj => ?_) ?_
 ·have hjl : j < S.length := Nat.lt_of_lt_of_le hj (pos_le _ _)
  have ej : atL (S.map kz) (j : Int) = some (kz S[j]) := atL_some' (by simp [hjl])
  simp only [ref05_Combine_b1, ej, ei, Option.bind_some, ref05_below_w, hb j hjl, pos_lt hjl hj, if_true, List.length_map, w_succ hjl (by omega)]
  rw [if_pos (by omega)]
 ·by_cases hl : pos S x.l[i] < S.length
  ·have ej : atL (S.map kz) ((pos S x.l[i] : Nat) : Int) = some (kz S[pos S x.l[i]]) := atL_some' (by simp [hl])
   simp only [ref05_Combine_b1, ej, ei, Option.bind_some, ref05_below_w, hb _ hl, pos_at hl, List.length_map]
   rw [if_pos (by omega), if_neg (by simp)]
  ·simp only [ref05_Combine_b1, List.length_map]
   rw [if_neg (by omega)]
theorem combine_sums {r : Int} {x : Sl E3} (hs : okS 3 x) (hn : x.l.length ≤ 65536) : loopO (ref05_Combine_b4 r x) ([], [], 0) = some (.inl ((canS (RG r) x.l).map kz, (canS (RG r) x.l).map (·.2))) := by
 refine loop_stop x.l.length (fun j => ((canS (RG r) (x.l.take j)).map kz, (canS (RG r) (x.l.take j)).map (·.2), (j : Int))) (by simp [canS]) (fun j hj => ?_) ?_
 ·have hlen := can_len (RG r) (x.l.take j)
  have hlj : (x.l.take j).length ≤ 65536 := by simp; omega
  rw [List.take_succ_eq_append_getElem hj, canS_snoc]
  generalize canS (RG r) (x.l.take j) = S at hlen ⊢
  have hf := find_at (S := S) (w := S.map (·.2)) hs hj (by omega)
  have ej := at_get hs hj
  have hp := pos_le S x.l[j]
  have hat := @pos_at S x.l[j]
  have hi := ins_eq (RG r) x.l[j] S
  generalize hA : pos S x.l[j] = a at hf hp hat hi
  generalize x.l[j] = e at ej hf hat hi
  have ap1 : app (S.map kz) [((0 : Int), (0 : Int), (0 : Int))] = some (S.map kz ++ [(0, 0, 0)]) := app_ok (by simp; unfold bound; omega)
  have ap2 : app (S.map (·.2)) [((0 : Int), (0 : Int))] = some (S.map (·.2) ++ [(0, 0)]) := app_ok (by simp; unfold bound; omega)
  have hw1 : IntKind.i64.wrap ((((S.map kz ++ [((0 : Int), (0 : Int), (0 : Int))]).length : Nat) : Int) - 1) = ((S.map kz).length : Int) := by simp only [List.length_append, List.length_map, List.length_cons, List.length_nil]; rw [wrap64 (by omega) (by omega)]; omega
  have ta : ((a : Nat) : Int).toNat = a := Int.toNat_natCast _
  have hl2 : (S.map (·.2)).length = (S.map kz).length := by simp
  have hak : a ≤ (S.map kz).length := by simpa using hp
  have has : a ≤ (S.map (·.2)).length := by simpa using hp
  obtain ⟨y2, z2, sh2⟩ := shift_one (b := ref05_Combine_b2 (a : Int)) (.inl rfl) hl2 (by simp; omega) hak (0, 0, 0) (0, 0)
  obtain ⟨y3, z3, sh3⟩ := shift_one (b := ref05_Combine_b3 (a : Int)) (.inr rfl) hl2 (by simp; omega) hak (0, 0, 0) (0, 0)
  have i2 := atL_some' (insE_at hak y2)
  have j2 := atL_some' (insE_at has z2)
  have i3 := atL_some' (insE_at hak y3)
  have j3 := atL_some' (insE_at has z3)
  have hne : ∀ {α : Type} (l : List α) k y, neL (insE l k y) = some () := fun l k y => neL_some (by unfold insE; simp)
  simp only [ref05_Combine_b4, hf, Option.bind_some, Sum.elim_inl, ej, ref01_Of_w, List.length_map]
  rw [if_pos (by omega)]
  by_cases hl : a < S.length
  ·rw [if_pos (by omega)]
   have e1 : atL (S.map kz) (a : Int) = some (kz S[a]) := atL_some' (by simp [hl])
   have e2 : atL (S.map (·.2)) (a : Int) = some S[a].2 := atL_some' (by simp [hl])
   have hk : bel e (kz S[a]) = klt (key e) S[a].1 := rfl
   simp only [e1, e2, Option.bind_some, ref05_below_w, hk, ref02_Add_w, ap1, ap2, hw1, sh2, Sum.elim_inl, i2, j2, ta, insE_set hak, insE_set has, hne, w_succ hj (by omega)]
   rw [dif_pos hl] at hi
   by_cases hc : klt (key e) S[a].1 = true
   ·rw [if_pos hc] at hi
    rw [if_neg (by simp [hc]), hi, insE_map, insE_map]; rfl
   ·rw [if_neg hc] at hi
    rw [if_pos (by simpa using hc), hi, List.map_set, List.map_set]
    have : (S.map kz).set a (kz (S[a].1, (RG r).ad S[a].2 ((RG r).o e.2.2))) = S.map kz := by
     have hk2 : kz (S[a].1, (RG r).ad S[a].2 ((RG r).o e.2.2)) = (S.map kz)[a]'(by simpa using hl) := by simp [kz]
     rw [hk2, List.set_getElem_self]
    rw [this]
  ·rw [if_neg (by omega)]
   rw [dif_neg hl] at hi
   have hae : a = S.length := by omega
   simp only [Option.bind_some, ap1, ap2, hw1, sh3, Sum.elim_inl, i3, j3, ta, insE_set hak, insE_set has, hne, w_succ hj (by omega)]
   rw [hi, hae]
   have q1 : insE (S.map kz) S.length (e.1, e.2.1, (0 : Int)) = S.map kz ++ [(e.1, e.2.1, 0)] := by
    have := insE_last (S.map kz) (e.1, e.2.1, (0 : Int)); rwa [List.length_map] at this
   have q2 : insE (S.map (·.2)) S.length (ofW e.2.2) = S.map (·.2) ++ [ofW e.2.2] := by
    have := insE_last (S.map (·.2)) (ofW e.2.2); rwa [List.length_map] at this
   rw [q1, q2]
   simp [kz, key]
 ·simp only [ref05_Combine_b4, List.take_length]
  rw [if_neg (by omega)]
theorem ref05_Combine_w {r : Int} {x : Sl E3} (hs : okS 3 x) (hn : x.l.length ≤ 65536) (hr : isRing r = true) : ref05_Combine r x = some (mo 3 (sumR (RG r) x.l).1, (sumR (RG r) x.l).2) := by
 rw [ref05_Combine_eq, ref02_Is_w, hr]
 simp only [Option.bind_some, not_true_eq_false, if_false]
 rw [combine_sums hs hn]
 simp only [Option.bind_some, Sum.elim_inl]
 have hlen := can_len (RG r) x.l
 have hlo := can_lo r x.l
 unfold sumR
 generalize canS (RG r) x.l = S at hlen hlo ⊢
 obtain ⟨q, q1, q2⟩ := loop_up (b := ref05_Combine_b5 (S.map kz, S.map (·.2))) S.length (fun j st => st = ((S.take j).map (toE (RG r)) ++ (S.drop j).map kz, (j : Int)) ∧ ∀ p ∈ S.take j, (narrowW p.2).2 = true) (fun q => (S.all (fun p => (narrowW p.2).2) = true ∧ q = .inl (S.map (toE (RG r)))) ∨ (S.all (fun p => (narrowW p.2).2) = false ∧ q = .inr (.inl ([], 12))))
  (by
   rintro j _ hj ⟨rfl, ha⟩
   have e2 : atL (S.map (·.2)) (j : Int) = some S[j].2 := atL_some' (by simp [hj])
   have hln : ((S.take j).map (toE (RG r)) ++ (S.drop j).map kz).length = S.length := by simp; omega
   have e1 : atL ((S.take j).map (toE (RG r)) ++ (S.drop j).map kz) (j : Int) = some (kz S[j]) := atL_some' (by
    rw [List.getElem?_append_right (by simp; omega)]
    simp [List.getElem?_drop, show min j S.length = j by omega, hj])
   have hN : ref01_Narrow S[j].2 = some (narrowW S[j].2) := ref01_Narrow_w (hlo _ (List.getElem_mem hj))
   simp only [ref05_Combine_b5, hln, e2, Option.bind_some, hN, e1, w_succ hj (by omega), Int.toNat_natCast]
   rw [if_pos (by omega)]
   by_cases hc : (narrowW S[j].2).2 = true
   ·rw [if_neg (by simpa using hc)]
    refine .inl ⟨_, rfl, ?_, ?_⟩
    ·rw [Prod.mk.injEq]
     refine ⟨?_, rfl⟩
     rw [List.take_succ_eq_append_getElem hj, List.set_append_right _ _ (by simp; omega)]
     simp only [List.length_map, List.length_take, show min j S.length = j by omega, Nat.sub_self, List.map_append, List.map_cons, List.map_nil]
     rw [List.drop_eq_getElem_cons hj, List.map_cons, List.set_cons_zero, List.append_assoc]
     simp [toE, kz]
    ·intro p hp
     rw [List.take_succ_eq_append_getElem hj] at hp
     rcases List.mem_append.1 hp with hp | hp
     ·exact ha p hp
     ·simp at hp; subst hp; exact hc
   ·rw [if_pos (by simpa using hc)]
    refine .inr ⟨_, rfl, .inr ⟨?_, rfl⟩⟩
    rw [Bool.eq_false_iff]
    intro hh
    exact hc (List.all_eq_true.1 hh _ (List.getElem_mem hj)))
  (by
   rintro _ ⟨rfl, ha⟩
   simp only [ref05_Combine_b5, List.take_length, List.drop_length, List.map_nil, List.append_nil, List.length_map]
   rw [List.take_length] at ha
   rw [if_neg (by omega)]
   exact ⟨_, rfl, .inl ⟨List.all_eq_true.2 ha, rfl⟩⟩) 0 (Nat.zero_le _) (S.map kz, 0) ⟨by simp, by simp⟩
 rw [q1]
 rcases q2 with ⟨h, rfl⟩ | ⟨h, rfl⟩
 ·rw [if_pos h]; rfl
 ·rw [if_neg (by rw [h]; simp)]; rfl
end Ev
end Go.Proofs.Ytlkcneneagifoaa
end
section
namespace Go.Proofs.Ytlkcneneagifoaa
namespace Ev
open Go Sm
set_option linter.unusedVariables false
set_option linter.unusedSimpArgs false
theorem risL_iff : ∀ {l : List E3}, risL l = true ↔ rises l
 | [] => by simp [risL, rises]
 | [a] => by simp [risL, rises]
 | a :: b :: r => by
  rw [risL_cons2, Bool.and_eq_true, risL_iff]
  constructor
  ·rintro ⟨h1, h2⟩
   refine List.pairwise_cons.2 ⟨fun y hy => ?_, h2⟩
   rcases List.mem_cons.1 hy with rfl | hy
   ·exact h1
   ·exact klt_trans h1 ((List.pairwise_cons.1 h2).1 y hy)
  ·intro h
   obtain ⟨h1, h2⟩ := List.pairwise_cons.1 h
   exact ⟨h1 b (by simp), h2⟩
theorem narrow_of {n : Int} (h : i64r n) : narrowW (ofW n) = (n, true) := by
 unfold narrowW
 have e : IntKind.i64.wrap (ofW n).2 = n := by
  unfold ofW
  simp only
  rw [wrap_u64, IntKind.wrap_i64]; unfold i64r at h; omega
 rw [e, if_pos rfl]
def w64 (l : List E3) : Prop := ∀ x ∈ l, i64r x.1 ∧ i64r x.2.1 ∧ i64r x.2.2
theorem sum_rising {r : Int} {l : List E3} (h : rises l) (hw : ∀ x ∈ l, i64r x.2.2) : sumR (RG r) l = (l, 0) := by
 have hc := canS_rising (RG r) l h
 have ha : (canS (RG r) l).all (fun p => ((RG r).na p.2).2) = true := by
  rw [hc, List.all_eq_true]
  intro p hp
  obtain ⟨e, he, rfl⟩ := List.mem_map.1 hp
  show (narrowW (ofW e.2.2)).2 = true
  rw [narrow_of (hw e he)]
 unfold sumR
 rw [if_pos ha, hc, List.map_map]
 have : l.map (toE (RG r) ∘ fun e => (key e, (RG r).o e.2.2)) = l := by
  refine (List.map_congr_left (g := id) fun e he => ?_).trans (List.map_id l)
  show (e.1, e.2.1, (narrowW (ofW e.2.2)).1) = e
  rw [narrow_of (hw e he)]
 rw [this]
theorem sum_spec {r : Int} {l : List E3} : rises (sumR (RG r) l).1 ∧ (sumR (RG r) l).1.length ≤ l.length ∧ (∀ x ∈ (sumR (RG r) l).1, i64r x.2.2 ∧ ∃ y ∈ l, y.1 = x.1 ∧ y.2.1 = x.2.1) ∧ ((sumR (RG r) l).2 = 0 ∨ sumR (RG r) l = ([], 12)) := by
 unfold sumR
 split
 ·refine ⟨?_, by rw [List.length_map]; exact can_len _ _, fun x hx => ?_, .inl rfl⟩
  ·show ((canS (RG r) l).map (toE (RG r))).Pairwise _
   rw [List.pairwise_map]
   exact (rep_can (RG r) l).1
  ·obtain ⟨p, hp, rfl⟩ := List.mem_map.1 hx
   refine ⟨?_, ?_⟩
   ·show i64r (narrowW p.2).1
    unfold narrowW
    split
    ·exact i64_wrap _
    ·unfold i64r; omega
   ·obtain ⟨e, he, hk⟩ := fm_some (((rep_can (RG r) l).2 p.1 p.2).1 hp)
    have h1 := congrArg Prod.fst hk
    have h2 := congrArg Prod.snd hk
    exact ⟨e, he, h1, h2⟩
 ·exact ⟨List.Pairwise.nil, Nat.zero_le _, by simp, .inr rfl⟩
theorem inB_of {n : Int} (h : i64r n) : Tp.inB n = true ∧ Eg.inB n = true := by
 unfold i64r at h
 simp [Tp.inB, Eg.inB, h.1, h.2]
theorem okB_of {x : Sl E3} (hs : okS 3 x) (hn : x.nn = false → x.l = []) (hl : x.l.length ≤ 65536) (hw : w64 x.l) : Tp.okB x = true ∧ Eg.okB x = true := by
 have h1 : x.l.length ≤ 90000 := by omega
 have h2 : x.sz = 3 ∨ x.l = [] := hs.symm
 have h3 : x.nn = true ∨ x.l = [] := by
  cases h : x.nn with
  | true => exact .inl rfl
  | false => exact .inr (hn h)
 constructor
 ·simp only [Tp.okB, Bool.and_eq_true, Bool.or_eq_true, decide_eq_true_eq, List.isEmpty_iff, List.all_eq_true]
  exact ⟨⟨⟨h1, fun e he => ⟨(inB_of (hw e he).1).1, (inB_of (hw e he).2.1).1, (inB_of (hw e he).2.2).1⟩⟩, h2⟩, h3⟩
 ·simp only [Eg.okB, Bool.and_eq_true, Bool.or_eq_true, decide_eq_true_eq, List.isEmpty_iff, List.all_eq_true]
  exact ⟨⟨⟨h1, fun e he => ⟨(inB_of (hw e he).1).2, (inB_of (hw e he).2.1).2, (inB_of (hw e he).2.2).2⟩⟩, h2⟩, h3⟩
theorem csr_summed_w {r : Int} {x : Sl E3} (hs : okS 3 x) (hn : x.nn = false → x.l = []) (hl : x.l.length ≤ 65536) (hw : w64 x.l) : ∃ s : Sl E3, csr_summed r x = some (s, (sumR (RG r) x.l).2) ∧ okS 3 s ∧ s.l = (sumR (RG r) x.l).1 := by
 have h1 : csr_summed r x = Tp.fn (r, x) := rfl
 rw [h1]
 unfold Tp.fn
 rw [if_pos (okB_of hs hn hl hw).1]
 by_cases hr : risL x.l = true
 ·simp only [if_pos hr]
  rw [sum_rising (risL_iff.1 hr) fun e he => (hw e he).2.2]
  exact ⟨x, rfl, hs, rfl⟩
 ·simp only [if_neg hr]
  have hR : Tp.RG r = RG r := rfl
  rw [hR]
  by_cases h0 : (sumR (RG r) x.l).2 = 0
  ·rw [if_pos h0, h0]
   exact ⟨_, rfl, .inr rfl, rfl⟩
  ·rw [if_neg h0]
   have he := (sum_spec (r := r) (l := x.l)).2.2.2.resolve_left h0
   rw [he]
   exact ⟨_, rfl, .inl rfl, rfl⟩
def cntE (l : List E3) (k : Nat) : Nat := l.countP fun x => decide (x.1 + 1 = (k : Int))
theorem cntE_le (l : List E3) (k : Nat) : cntE l k ≤ l.length := List.countP_le_length
theorem cntE_app (l : List E3) (x : E3) (k : Nat) : cntE (l ++ [x]) k = cntE l k + if x.1 + 1 = (k : Int) then 1 else 0 := by
 unfold cntE
 rw [List.countP_append]
 congr 1
 by_cases h : x.1 + 1 = (k : Int) <;> simp [h]
theorem cntR_succ : ∀ (l : List E3) (k : Nat), cntR l (k + 1) = cntR l k + cntE l (k + 1)
 | [], k => rfl
 | x :: l, k => by
  have ih := cntR_succ l k
  unfold cntR cntE at *
  simp only [List.countP_cons, ih]
  by_cases h1 : x.1 < (k : Int)
  ·have h2 : x.1 < ((k + 1 : Nat) : Int) := by omega
   have h3 : ¬ x.1 + 1 = ((k + 1 : Nat) : Int) := by omega
   simp only [decide_eq_true h1, decide_eq_true h2, decide_eq_false h3]
   simp; omega
  ·by_cases h3 : x.1 + 1 = ((k + 1 : Nat) : Int)
   ·have h2 : x.1 < ((k + 1 : Nat) : Int) := by omega
    simp only [decide_eq_false h1, decide_eq_true h2, decide_eq_true h3]
    simp; omega
   ·have h2 : ¬ x.1 < ((k + 1 : Nat) : Int) := by omega
    simp only [decide_eq_false h1, decide_eq_false h2, decide_eq_false h3]
    simp
theorem csr_build_w {n c : Int} (hn : 0 ≤ n ∧ n ≤ 4096) {s : Sl E3} (hs : okS 3 s) (hl : s.l.length ≤ 65536) (hr : ∀ x ∈ s.l, 0 ≤ x.1 ∧ x.1 < n) : csr_build n c s = some (matV n c s.l) := by
 obtain ⟨k, rfl⟩ := Int.eq_ofNat_of_zero_le hn.1
 rw [csr_build_eq]
 unfold matV
 rw [wrap64 (by omega) (by omega), capOk_self, len_one hn]
 have tk : ((k : Int) + 1).toNat = k + 1 := by omega
 simp only [Option.bind_some, tk, Int.toNat_natCast]
 rw [tabN_zero]
 have q1 : loopO (csr_build_b1 s) (0, (k : Int), c, tabN k (fun _ => 0), [], []) = some (.inl ((k : Int), c, tabN k (fun i => ((cntE s.l i : Nat) : Int)), s.l.map (·.2.1), s.l.map (·.2.2))) := by
  refine loop_stop s.l.length (fun j => ((j : Int), (k : Int), c, tabN k (fun i => ((cntE (s.l.take j) i : Nat) : Int)), (s.l.take j).map (·.2.1), (s.l.take j).map (·.2.2))) rfl (fun j hj => ?_) ?_
  ·have ej := at_get hs hj
   have hx := hr _ (List.getElem_mem hj)
   obtain ⟨row, hrow⟩ := Int.eq_ofNat_of_zero_le hx.1
   have hlen : (s.l.take j).length ≤ 65536 := by simp; omega
   have ap1 : app ((s.l.take j).map (·.2.1)) [s.l[j].2.1] = some ((s.l.take j).map (·.2.1) ++ [s.l[j].2.1]) := app_ok (by simp at hlen ⊢; unfold bound; omega)
   have ap2 : app ((s.l.take j).map (·.2.2)) [s.l[j].2.2] = some ((s.l.take j).map (·.2.2) ++ [s.l[j].2.2]) := app_ok (by simp at hlen ⊢; unfold bound; omega)
   have hw : IntKind.i64.wrap (s.l[j].1 + 1) = ((row + 1 : Nat) : Int) := by rw [wrap64 (by omega) (by omega)]; omega
   have hat : atL (tabN k fun i => ((cntE (s.l.take j) i : Nat) : Int)) ((row + 1 : Nat) : Int) = some ((cntE (s.l.take j) (row + 1) : Nat) : Int) := atL_some' (tabN_get _ (by omega))
   have hc := cntE_le (s.l.take j) (row + 1)
   have hw2 : IntKind.i64.wrap (((cntE (s.l.take j) (row + 1) : Nat) : Int) + 1) = ((cntE (s.l.take j) (row + 1) : Nat) : Int) + 1 := wrap64 (by omega) (by omega)
   simp only [csr_build_b1, ej, Option.bind_some, ap1, ap2, hw, hat, hw2, Int.toNat_natCast, w_succ hj (by omega)]
   rw [if_pos (by omega), tabN_set _ _ (by omega), List.take_succ_eq_append_getElem hj, List.map_append, List.map_append]
   simp only [List.map_cons, List.map_nil]
   refine congrArg (fun z => some (Sum.inl ((((j + 1 : Nat) : Int), (k : Int), c, z)))) ?_
   rw [Prod.mk.injEq]
   refine ⟨tabN_congr fun i hi => ?_, rfl⟩
   rw [cntE_app, hrow]
   by_cases h : i = row + 1
   ·rw [if_pos h, if_pos (by omega), h]; omega
   ·rw [if_neg h, if_neg (by omega)]; omega
  ·simp only [csr_build_b1]
   rw [if_neg (by omega), List.take_length]
 have q2 : loopO csr_build_b2 (1, tabN k (fun i => ((cntE s.l i : Nat) : Int))) = some (.inl (tabN k fun i => ((cntR s.l i : Nat) : Int))) := by
  have h0 : cntR s.l 0 = cntE s.l 0 := by
   unfold cntR cntE
   refine List.countP_congr fun x hx => ?_
   have := hr x hx
   simp; omega
  refine loop_stop k (fun j => (((j + 1 : Nat) : Int), tabN k (fun i => if i ≤ j then ((cntR s.l i : Nat) : Int) else ((cntE s.l i : Nat) : Int)))) ?_ (fun j hj => ?_) ?_
  ·rw [Prod.mk.injEq]
   refine ⟨rfl, tabN_congr fun i hi => ?_⟩
   by_cases h : i ≤ 0
   ·rw [if_pos h, show i = 0 by omega, h0]
   ·rw [if_neg h]
  ·have e1 : atL (tabN k (fun i => if i ≤ j then ((cntR s.l i : Nat) : Int) else ((cntE s.l i : Nat) : Int))) ((j + 1 : Nat) : Int) = some ((cntE s.l (j + 1) : Nat) : Int) := atL_some' (by rw [tabN_get _ (by omega), if_neg (by omega)])
   have e2 : atL (tabN k (fun i => if i ≤ j then ((cntR s.l i : Nat) : Int) else ((cntE s.l i : Nat) : Int))) (j : Int) = some ((cntR s.l j : Nat) : Int) := atL_some' (by rw [tabN_get _ (by omega), if_pos (by omega)])
   have w1 : IntKind.i64.wrap (((j + 1 : Nat) : Int) - 1) = (j : Int) := by rw [wrap64 (by omega) (by omega)]; omega
   have w2 : IntKind.i64.wrap (((j + 1 : Nat) : Int) + 1) = ((j + 1 + 1 : Nat) : Int) := by rw [wrap64 (by omega) (by omega)]; omega
   have c1 := cntE_le s.l (j + 1)
   have c2 := cntR_le s.l j
   have w3 : IntKind.i64.wrap (((cntE s.l (j + 1) : Nat) : Int) + ((cntR s.l j : Nat) : Int)) = ((cntE s.l (j + 1) : Nat) : Int) + ((cntR s.l j : Nat) : Int) := wrap64 (by omega) (by omega)
   simp only [csr_build_b2, e1, e2, w1, w2, w3, Option.bind_some, Int.toNat_natCast, tabN_len]
   rw [if_pos (by omega), tabN_set _ _ (by omega)]
   refine congrArg (fun z => some (Sum.inl ((((j + 1 + 1 : Nat) : Int), z)))) (tabN_congr fun i hi => ?_)
   have := cntR_succ s.l j
   by_cases h : i = j + 1
   ·rw [if_pos h, if_pos (by omega), h, this]; omega
   ·rw [if_neg h]
    by_cases h2 : i ≤ j
    ·rw [if_pos h2, if_pos (by omega)]
    ·rw [if_neg h2, if_neg (by omega)]
  ·simp only [csr_build_b2, tabN_len]
   rw [if_neg (by omega)]
   refine congrArg (fun z => some (Sum.inr (Sum.inl z))) (tabN_congr fun i hi => ?_)
   rw [if_pos hi]
 rw [q1]
 simp only [Option.bind_some, Sum.elim_inl]
 rw [q2]; rfl
def nilM : Mx := (0, 0, nilS, nilS, nilS)
def inM (n c : Int) (x : E3) : Bool := decide (0 ≤ x.1 ∧ x.1 < n ∧ 0 ≤ x.2.1 ∧ x.2.1 < c)
def ofV (r n c : Int) (l : List E3) : Mx × Int :=
 if isRing r = true then if sizeF n = true ∧ sizeF c = true then if l.length ≤ 65536 then if l.all (inM n c) = true then
  if (sumR (RG r) l).2 = 0 then (matV n c (sumR (RG r) l).1, 0) else (nilM, (sumR (RG r) l).2)
 else (nilM, 3) else (nilM, 5) else (nilM, 3) else (nilM, 8)
theorem inM_f {n c : Int} {x : E3} (h : x.1 < 0 ∨ x.1 ≥ n ∨ x.2.1 < 0 ∨ x.2.1 ≥ c) : inM n c x = false := by unfold inM; rw [decide_eq_false]; omega
theorem all_f {α : Type} {p : α → Bool} {l : List α} {j : Nat} (hj : j < l.length) (h : p l[j] = false) : l.all p = false := by
 rw [Bool.eq_false_iff]
 intro ha
 rw [List.all_eq_true.1 ha _ (List.getElem_mem hj)] at h
 cases h
theorem csr_Of_loop {n c : Int} {x : Sl E3} (hs : okS 3 x) (hl : x.l.length ≤ 65536) : loopO (csr_Of_b1 n c x) (0, 0, 0, [], [], []) = some (if x.l.all (inM n c) = true then .inl (0, 0, [], [], []) else .inr (.inl (3, 0, 0, [], [], []))) := by
 obtain ⟨q, q1, q2⟩ := loop_up (b := csr_Of_b1 n c x) x.l.length (fun j st => st = ((j : Int), 0, 0, [], [], []) ∧ ∀ y ∈ x.l.take j, inM n c y = true) (fun q => q = if x.l.all (inM n c) = true then .inl (0, 0, [], [], []) else .inr (.inl (3, 0, 0, [], [], [])))
  (by
   rintro j _ hj ⟨rfl, ha⟩
   have ej := at_get hs hj
   simp only [csr_Of_b1, ej, Option.bind_some, w_succ hj (by omega)]
   rw [if_pos (by omega)]
   have bad : inM n c x.l[j] = false → ∃ r, (some (Sum.inr (Sum.inr (Sum.inl ((3 : Int), (0 : Int), (0 : Int), ([] : List Int), ([] : List Int), ([] : List Int))))) : Option ((Int × Int × Int × List Int × List Int × List Int) ⊕ ((Int × Int × List Int × List Int × List Int) ⊕ ((Int × Int × Int × List Int × List Int × List Int) ⊕ Empty)))) = some (.inr r) ∧ r = if x.l.all (inM n c) = true then .inl (0, 0, [], [], []) else .inr (.inl (3, 0, 0, [], [], [])) := fun h => ⟨_, rfl, by rw [all_f hj h]; rfl⟩
   by_cases c1 : x.l[j].1 < 0
   ·rw [if_pos c1]; exact .inr (bad (inM_f (.inl c1)))
   by_cases c2 : x.l[j].1 ≥ n
   ·rw [if_neg c1, if_pos c2]; exact .inr (bad (inM_f (.inr (.inl c2))))
   by_cases c3 : x.l[j].2.1 < 0
   ·rw [if_neg c1, if_neg c2, if_pos c3]; exact .inr (bad (inM_f (.inr (.inr (.inl c3)))))
   by_cases c4 : x.l[j].2.1 ≥ c
   ·rw [if_neg c1, if_neg c2, if_neg c3, if_pos c4]; exact .inr (bad (inM_f (.inr (.inr (.inr c4)))))
   rw [if_neg c1, if_neg c2, if_neg c3, if_neg c4]
   refine .inl ⟨_, rfl, rfl, fun y hy => ?_⟩
   rw [List.take_succ_eq_append_getElem hj] at hy
   rcases List.mem_append.1 hy with hy | hy
   ·exact ha y hy
   ·simp at hy; subst hy
    unfold inM; rw [decide_eq_true]; omega)
  (by
   rintro _ ⟨rfl, ha⟩
   rw [List.take_length] at ha
   simp only [csr_Of_b1]
   rw [if_neg (by omega), if_pos (List.all_eq_true.2 ha)]
   exact ⟨_, rfl, rfl⟩) 0 (Nat.zero_le _) (0, 0, 0, [], [], []) ⟨rfl, by simp⟩
 rw [q1, q2]
theorem ref07_Of_loop {n c : Int} {x : Sl E3} (hs : okS 3 x) (hl : x.l.length ≤ 65536) : loopO (ref07_Of_b1 n c x) ([], 0, 0, 0, [], [], []) = some (if x.l.all (inM n c) = true then .inl (x.l, 0, 0, [], [], []) else .inr (.inl (3, 0, 0, [], [], []))) := by
 obtain ⟨q, q1, q2⟩ := loop_up (b := ref07_Of_b1 n c x) x.l.length (fun j st => st = (x.l.take j, (j : Int), 0, 0, [], [], []) ∧ ∀ y ∈ x.l.take j, inM n c y = true) (fun q => q = if x.l.all (inM n c) = true then .inl (x.l, 0, 0, [], [], []) else .inr (.inl (3, 0, 0, [], [], [])))
  (by
   rintro j _ hj ⟨rfl, ha⟩
   have ej := at_get hs hj
   have hlen : (x.l.take j).length ≤ 65536 := by simp; omega
   have ap : app (x.l.take j) [(x.l[j].1, x.l[j].2.1, x.l[j].2.2)] = some (x.l.take j ++ [x.l[j]]) := app_ok (by simp; unfold bound; omega)
   simp only [ref07_Of_b1, ej, Option.bind_some, ap, w_succ hj (by omega)]
   rw [if_pos (by omega)]
   have bad : inM n c x.l[j] = false → ∃ r, (some (Sum.inr (Sum.inr (Sum.inl ((3 : Int), (0 : Int), (0 : Int), ([] : List Int), ([] : List Int), ([] : List Int))))) : Option ((List E3 × Int × Int × Int × List Int × List Int × List Int) ⊕ ((List E3 × Int × Int × List Int × List Int × List Int) ⊕ ((Int × Int × Int × List Int × List Int × List Int) ⊕ Empty)))) = some (.inr r) ∧ r = if x.l.all (inM n c) = true then .inl (x.l, 0, 0, [], [], []) else .inr (.inl (3, 0, 0, [], [], [])) := fun h => ⟨_, rfl, by rw [all_f hj h]; rfl⟩
   by_cases c1 : x.l[j].1 < 0
   ·rw [if_pos c1]; exact .inr (bad (inM_f (.inl c1)))
   by_cases c2 : x.l[j].1 ≥ n
   ·rw [if_neg c1, if_pos c2]; exact .inr (bad (inM_f (.inr (.inl c2))))
   by_cases c3 : x.l[j].2.1 < 0
   ·rw [if_neg c1, if_neg c2, if_pos c3]; exact .inr (bad (inM_f (.inr (.inr (.inl c3)))))
   by_cases c4 : x.l[j].2.1 ≥ c
   ·rw [if_neg c1, if_neg c2, if_neg c3, if_pos c4]; exact .inr (bad (inM_f (.inr (.inr (.inr c4)))))
   rw [if_neg c1, if_neg c2, if_neg c3, if_neg c4, ← List.take_succ_eq_append_getElem hj]
   refine .inl ⟨_, rfl, rfl, fun y hy => ?_⟩
   rw [List.take_succ_eq_append_getElem hj] at hy
   rcases List.mem_append.1 hy with hy | hy
   ·exact ha y hy
   ·simp at hy; subst hy
    unfold inM; rw [decide_eq_true]; omega)
  (by
   rintro _ ⟨rfl, ha⟩
   rw [List.take_length] at ha
   simp only [ref07_Of_b1]
   rw [if_neg (by omega), if_pos (List.all_eq_true.2 ha), List.take_length]
   exact ⟨_, rfl, rfl⟩) 0 (Nat.zero_le _) ([], 0, 0, 0, [], [], []) ⟨rfl, by simp⟩
 rw [q1, q2]
theorem ref07_Of_loop2 {l : List E3} {e : Int} (hl : l.length ≤ 65536) {s : Sl E3} (hs : okS 3 s) (hsl : s.l = l) : loopO (ref07_Of_b2 (s, e)) ([], 0) = some (.inl l) := by
 refine loop_stop l.length (fun j => (l.take j, (j : Int))) rfl (fun j hj => ?_) ?_
 ·have ej : atS 3 s (j : Int) = some l[j] := atS_some' hs (by rw [hsl]; simp [hj])
  have hlen : (l.take j).length ≤ 65536 := by simp; omega
  have ap : app (l.take j) [(l[j].1, l[j].2.1, l[j].2.2)] = some (l.take j ++ [l[j]]) := app_ok (by simp; unfold bound; omega)
  simp only [ref07_Of_b2, ej, Option.bind_some, ap, w_succ hj (by omega), hsl]
  rw [if_pos (by omega), List.take_succ_eq_append_getElem hj]
 ·simp only [ref07_Of_b2, hsl, List.take_length]
  rw [if_neg (by omega)]
theorem rows_in {n c : Int} {l : List E3} (h : l.all (inM n c) = true) {r : Int} : ∀ x ∈ (sumR (RG r) l).1, (0 ≤ x.1 ∧ x.1 < n) ∧ 0 ≤ x.2.1 ∧ x.2.1 < c := by
 intro x hx
 obtain ⟨_, y, hy, e1, e2⟩ := (sum_spec (r := r) (l := l)).2.2.1 x hx
 have := List.all_eq_true.1 h y hy
 unfold inM at this
 simp only [decide_eq_true_eq] at this
 omega
theorem csr_Of_w {r n c : Int} {x : Sl E3} (hs : okS 3 x) (hn : x.nn = false → x.l = []) (hw : w64 x.l) : csr_Of r n c x = some (ofV r n c x.l) := by
 rw [csr_Of_eq, ring_Is_w]
 unfold ofV
 cases hr : isRing r with
 | false => rfl
 | true =>
  simp only [Option.bind_some, not_true_eq_false, if_false, if_true, csr_size_w]
  cases h1 : sizeF n with
  | false => simp; rfl
  | true =>
   cases h2 : sizeF c with
   | false => simp; rfl
   | true =>
    simp only [not_true_eq_false, if_false, and_self, if_true]
    by_cases hl : x.l.length ≤ 65536
    ·rw [if_neg (by omega), if_pos hl, csr_Of_loop hs hl]
     by_cases ha : x.l.all (inM n c) = true
     ·obtain ⟨s, e1, e2, e3⟩ := csr_summed_w (r := r) hs hn hl hw
      simp only [if_pos ha, Option.bind_some, Sum.elim_inl, e1]
      by_cases h0 : (sumR (RG r) x.l).2 = 0
      ·rw [if_neg (fun h => h h0), if_pos h0, csr_build_w (sizeF_iff.1 h1) e2 (by rw [e3]; have := (sum_spec (r := r) (l := x.l)).2.1; omega) (by rw [e3]; exact fun y hy => (rows_in ha y hy).1), e3]
       rfl
      ·rw [if_pos h0, if_neg h0]; rfl
     ·rw [if_neg ha, if_neg ha]; rfl
    ·rw [if_pos (by omega), if_neg hl]; rfl
theorem ref07_Of_w {r n c : Int} {x : Sl E3} (hs : okS 3 x) : ref07_Of r n c x = some (ofV r n c x.l) := by
 rw [ref07_Of_eq, ref02_Is_w]
 unfold ofV
 cases hr : isRing r with
 | false => rfl
 | true =>
  simp only [Option.bind_some, not_true_eq_false, if_false, if_true]
  by_cases h1 : sizeF n = true
  ·obtain ⟨g1, g2⟩ := sizeF_iff.1 h1
   rw [if_neg (by omega), if_neg (by omega)]
   by_cases h2 : sizeF c = true
   ·obtain ⟨g3, g4⟩ := sizeF_iff.1 h2
    rw [if_neg (by omega), if_neg (by omega), if_pos (show sizeF n = true ∧ sizeF c = true from ⟨h1, h2⟩)]
    by_cases hl : x.l.length ≤ 65536
    ·rw [if_neg (by omega), if_pos hl, ref07_Of_loop hs hl]
     by_cases ha : x.l.all (inM n c) = true
     ·have hlen := (sum_spec (r := r) (l := x.l)).2.1
      simp only [if_pos ha, Option.bind_some, Sum.elim_inl]
      rw [ref05_Combine_w (ok_mo _) (by rw [mo_l]; exact hl) hr]
      simp only [mo_l, Option.bind_some]
      by_cases h0 : (sumR (RG r) x.l).2 = 0
      ·rw [if_neg (fun h => h h0), if_pos h0, ref07_Of_loop2 (l := (sumR (RG r) x.l).1) (by omega) (ok_mo _) (mo_l _ _)]
       simp only [Option.bind_some, Sum.elim_inl]
       rw [ref07_built_w ⟨g1, g2⟩ (ok_mo _) (by rw [mo_l]; omega) (by rw [mo_l]; exact fun y hy => (rows_in ha y hy).1), mo_l]
       rfl
      ·rw [if_pos h0, if_neg h0]; rfl
     ·rw [if_neg ha, if_neg ha]; rfl
    ·rw [if_pos (by omega), if_neg hl]; rfl
   ·rw [if_neg (show ¬ (sizeF n = true ∧ sizeF c = true) from fun h => h2 h.2)]
    have : ¬ (0 ≤ c ∧ c ≤ 4096) := fun h => h2 (sizeF_iff.2 h)
    by_cases h3 : c < 0
    ·rw [if_pos h3]; rfl
    ·rw [if_neg h3, if_pos (by omega)]; rfl
  ·rw [if_neg (show ¬ (sizeF n = true ∧ sizeF c = true) from fun h => h1 h.1)]
   have : ¬ (0 ≤ n ∧ n ≤ 4096) := fun h => h1 (sizeF_iff.2 h)
   by_cases h3 : n < 0
   ·rw [if_pos h3]; rfl
   ·rw [if_neg h3, if_pos (by omega)]; rfl
end Ev
end Go.Proofs.Ytlkcneneagifoaa
end
section
namespace Go.Proofs.Ytlkcneneagifoaa
namespace Ev
open Go Sm
set_option linter.unusedVariables false
set_option linter.unusedSimpArgs false
theorem same_slice {α : Type} [DecidableEq α] {x y : Sl α} (hl : x.l.length ≤ 9223372036854775806) {w : Nat} (hx : okS w x) (hy : okS w y) {b : Int → Option (Int ⊕ PUnit ⊕ Bool ⊕ Empty)}
  (hb : ∀ a, b a = if a < (x.l.length : Int) then (atS w x a).bind fun u => (atS w y a).bind fun v => if u ≠ v then some (.inr (.inr (.inl false))) else some (.inl (IntKind.i64.wrap (a + 1))) else some (.inr (.inl ()))) :
  (if (x.l.length : Int) ≠ (y.l.length : Int) then some false else (loopO b 0).bind fun (y : PUnit ⊕ Bool ⊕ Empty) => Sum.elim (fun _ => some true) (fun v => Sum.elim (fun v => some v) (fun v => nE v) v) y) = some (decide (x.l = y.l)) := by
 by_cases h : x.l.length = y.l.length
 ·rw [if_neg (by omega)]
  rw [same_loop h (b := b) (fun j hj => by
   rw [hb, if_pos (by omega), atS_some' hx (List.getElem?_eq_getElem hj), atS_some' hy (List.getElem?_eq_getElem (by omega))]
   simp only [Option.bind_some]
   by_cases he : x.l[j] = y.l[j]
   ·rw [if_neg (by simp [he]), if_pos he, w_succ hj (by omega)]
   ·rw [if_pos he, if_neg he]) (fun j hj => by rw [hb, if_neg (by omega)])]
  by_cases he : x.l = y.l
  ·simp [he]
  ·simp [he]
 ·rw [if_pos (by omega), decide_eq_false]
  exact fun he => h (by rw [he])
theorem ref03_SameInts_w {x y : Sl Int} (hl : x.l.length ≤ 9223372036854775806) (hx : okS 1 x) (hy : okS 1 y) : ref03_SameInts x y = some (decide (x.l = y.l)) := by
 rw [ref03_SameInts_eq]
 exact same_slice hl hx hy fun a => by unfold ref03_SameInts_b1; rfl
theorem ref07_SameVals_w {x y : Sl Int} (hl : x.l.length ≤ 9223372036854775806) (hx : okS 1 x) (hy : okS 1 y) : ref07_SameVals x y = some (decide (x.l = y.l)) := by
 rw [ref07_SameVals_eq]
 exact same_slice hl hx hy fun a => by unfold ref07_SameVals_b1; rfl
structure Mok (m : Mx) : Prop where
 s : okS 1 m.2.2.1
 c : okS 1 m.2.2.2.1
 v : okS 1 m.2.2.2.2
 ls : m.2.2.1.l.length ≤ 9223372036854775806
 lc : m.2.2.2.1.l.length ≤ 9223372036854775806
 lv : m.2.2.2.2.l.length ≤ 9223372036854775806
theorem ref07_Same_w {x y : Mx} (hx : Mok x) (hy : Mok y) : ref07_Same x y = some (decide (x.1 = y.1 ∧ x.2.1 = y.2.1 ∧ x.2.2.1.l = y.2.2.1.l ∧ x.2.2.2.1.l = y.2.2.2.1.l ∧ x.2.2.2.2.l = y.2.2.2.2.l)) := by
 rw [ref07_Same_eq, ref03_SameInts_w hx.ls hx.s hy.s, ref03_SameInts_w hx.lc hx.c hy.c, ref07_SameVals_w hx.lv hx.v hy.v]
 simp only [Option.bind_some, decide_eq_true_eq]
 by_cases h1 : x.1 = y.1
 ·by_cases h2 : x.2.1 = y.2.1
  ·by_cases h3 : x.2.2.1.l = y.2.2.1.l
   ·by_cases h4 : x.2.2.2.1.l = y.2.2.2.1.l <;> simp [h1, h2, h3, h4]
   ·simp [h1, h2, h3]
  ·simp [h1, h2]
 ·simp [h1]
theorem mok_nil : Mok nilM := ⟨ok_nil, ok_nil, ok_nil, by simp [nilM, nilS], by simp [nilM, nilS], by simp [nilM, nilS]⟩
theorem mok_mat {n c : Int} {l : List E3} (hn : 0 ≤ n ∧ n ≤ 4096) (hl : l.length ≤ 65536) : Mok (matV n c l) := by
 refine ⟨.inr rfl, ok_mo _, ok_mo _, ?_, ?_, ?_⟩
 ·show (tabN _ _).length ≤ _
  rw [tabN_len]; omega
 ·show (mo 1 (l.map _)).l.length ≤ _
  rw [mo_l, List.length_map]; omega
 ·show (mo 1 (l.map _)).l.length ≤ _
  rw [mo_l, List.length_map]; omega
theorem ofV_mok (r n c : Int) (l : List E3) : Mok (ofV r n c l).1 := by
 unfold ofV
 split
 ·split
  ·split
   ·split
    ·split
     ·exact mok_mat (sizeF_iff.1 (by rename_i h _ _ _; exact h.1)) (by have := (sum_spec (r := r) (l := l)).2.1; omega)
     ·exact mok_nil
    ·exact mok_nil
   ·exact mok_nil
  ·exact mok_nil
 ·exact mok_nil
theorem law07_Few_w {x : Sl E3} (hs : okS 3 x) : ∃ s : Sl E3, law07_Few x = some s ∧ s.l = x.l.take 60 ∧ okS 3 s ∧ s.nn = x.nn := by
 rw [law07_Few_eq]
 by_cases h : x.l.length > 60
 ·rw [if_pos (by omega)]
  have hz : x.sz = 3 := hs.resolve_left (by intro h'; rw [h'] at h; simp at h)
  refine ⟨⟨x.nn, x.sz, x.l.take 60⟩, ?_, rfl, .inr hz, rfl⟩
  unfold cutS
  rw [if_pos ⟨by omega, by omega, by omega, .inl hz⟩]
  simp
 ·rw [if_neg (by omega)]
  exact ⟨x, rfl, (List.take_of_length_le (by omega)).symm, hs, rfl⟩
theorem w64_of {x : Sl E3} (h : K.W (.S (.C (.I .i64) (.C (.I .i64) (.I .i64)))) x) : okS 3 x ∧ (x.nn = false → x.l = []) ∧ w64 x.l := ⟨.inr h.1, h.2.1, fun y hy => ⟨i64r_of (h.2.2.2 y hy).1, i64r_of (h.2.2.2 y hy).2.1, i64r_of (h.2.2.2 y hy).2.2⟩⟩
theorem law07_CsrOf_true (r : Int) (p : Int × Int) (x : Sl E3) (h0 : K.W (.I .i64) r) (h1 : K.W (.C (.I .i64) (.I .i64)) p) (h2 : K.W (.S (.C (.I .i64) (.C (.I .i64) (.I .i64)))) x) : law07_CsrOf r p x = some true := by
 obtain ⟨hs, hn, hw⟩ := w64_of h2
 obtain ⟨s, e1, e2, e3, e4⟩ := law07_Few_w hs
 have hn' : s.nn = false → s.l = [] := fun h => by rw [e2, hn (by rw [← e4]; exact h)]; rfl
 have hw' : w64 s.l := fun y hy => hw y (List.mem_of_mem_take (by rw [← e2]; exact hy))
 rw [law07_CsrOf_eq, e1]
 simp only [Option.bind_some]
 rw [csr_Of_w e3 hn' hw', ref07_Of_w e3, show FL17 = some true from rfl]
 simp only [Option.bind_some, if_true]
 rw [ref07_Same_w (ofV_mok ..) (ofV_mok ..)]
 simp
end Ev
end Go.Proofs.Ytlkcneneagifoaa
end
