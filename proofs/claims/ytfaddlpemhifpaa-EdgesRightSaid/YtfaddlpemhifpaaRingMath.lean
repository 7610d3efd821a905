/- Plain numbers: the semirings. No program is named here. -/
import Derived.Test.YtfaddlpemhifpaaMul
namespace Go.Proofs.Ytfaddlpemhifpaa
open Go.RowKit

/-- The lesser one of two wide numbers. -/
def lsr (x y : Int) : Int := if sv y < sv x then y else x
def nz (x : Int) : Bool := !(hi x == 0 && lo x == 0)
def zeroR (r : Int) : Int := if r = 1 ∨ r = 3 ∨ r = 4 then 4611686018427387904 else 0
def addR (r x y : Int) : Int := if r = 1 ∨ r = 3 ∨ r = 4 then lsr x y else if r = 2 then (if nz x = true ∨ nz y = true then 1 else 0) else if r = 5 then x + y else 0
def far (a x : Int) : Prop := 4611686018427387904 ≤ a ∨ 4611686018427387904 ≤ x
instance (a x : Int) : Decidable (far a x) := by unfold far; infer_instance
def mulR (r a x : Int) : Int :=
  if r = 1 then (if far a x then 4611686018427387904 else lsr (a + x) 4611686018427387904)
  else if r = 2 then (if a = 0 ∨ x = 0 then 0 else 1)
  else if r = 3 then (if far a x then 4611686018427387904 else a)
  else if r = 4 then (if far a x then 4611686018427387904 else x)
  else if r = 5 then a * x else 0
def oneR (r : Int) : Int × Bool := if r = 1 then (0, true) else if r = 2 ∨ r = 5 then (1, true) else (0, false)
def isR (r : Int) : Bool := decide (1 ≤ r ∧ r ≤ 5)
theorem lsr_b (x y : Int) (h : cmp y x < 0) : lsr x y = y := by
  unfold cmp at h; unfold lsr
  by_cases c : sv y < sv x
  · rw [if_pos c]
  · rw [if_neg c] at h; split at h <;> omega
theorem lsr_a (x y : Int) (h : 0 ≤ cmp y x) : lsr x y = x := by
  unfold cmp at h; unfold lsr
  by_cases c : sv y < sv x
  · rw [if_pos c] at h; omega
  · rw [if_neg c]
end Go.Proofs.Ytfaddlpemhifpaa
