/- Plain numbers: the semirings' laws. No program is named here. -/
import Derived.Test.YtekkgidoblddfaaRingLaw
namespace Go.Proofs.Ytekkgidoblddfaa
open Go.RowKit
set_option linter.unusedVariables false

/-- A number of no sign, at most Inf: itself. -/
theorem sv_low (x : Int) (h0 : 0 ≤ x) (h1 : x ≤ 9223372036854775808) : sv x = x := sv_in x (by omega) (by omega)
theorem lsr_low (x y : Int) (x0 : 0 ≤ x) (x1 : x ≤ 9223372036854775808) (y0 : 0 ≤ y) (y1 : y ≤ 9223372036854775808) : lsr x y = if y < x then y else x := by
  unfold lsr; rw [sv_low x x0 x1, sv_low y y0 y1]
theorem nv_low (x : Int) (h0 : 0 ≤ x) (h1 : x ≤ 4611686018427387904) : nb x = true ∧ nv x = x := by
  have hb : nb x = true := by unfold nb; rw [sv_low x h0 (by omega)]; simp; omega
  exact ⟨hb, by unfold nv; rw [if_pos hb, sv_low x h0 (by omega)]⟩
/-- A value of the rings that take the least. -/
def Low (x : Int) : Prop := 0 ≤ x ∧ x ≤ 4611686018427387904
theorem val_low (r n : Int) (h5 : ¬ r = 5) (h2 : ¬ r = 2) : Low (valR r n) := by
  unfold valR Low; rw [if_neg h5, if_neg h2]; split <;> omega
theorem val_or (n : Int) : valR 2 n = 0 ∨ valR 2 n = 1 := by unfold valR; simp; omega

/-- What a law asks of a ring's products and sums. -/
structure Spreads (r a x y : Int) : Prop where
  d1 : nb (addR r x y) = true → mulR r a (nv (addR r x y)) = addR r (mulR r a x) (mulR r a y)
  d2 : (oneR r).2 = true → mulR r (oneR r).1 x = x
  d3 : mulR r a (zeroR r) = zeroR r
  d4 : mulR r (zeroR r) x = zeroR r
  s1 : -9223372036854775808 ≤ nv (addR r x y) ∧ nv (addR r x y) ≤ 9223372036854775807

theorem nv_bd (x : Int) : -9223372036854775808 ≤ nv x ∧ nv x ≤ 9223372036854775807 := by
  unfold nv; split
  · rename_i h; unfold nb at h; simpa using h
  · omega

theorem spreads1 (a x y : Int) (ha : Low a) (hx : Low x) (hy : Low y) : Spreads 1 a x y := by
  unfold Low at *
  have e : addR 1 x y = if y < x then y else x := by unfold addR; rw [if_pos (by decide), lsr_low x y (by omega) (by omega) (by omega) (by omega)]
  have hm : ∀ u v : Int, Low u → Low v → mulR 1 u v = (if 4611686018427387904 ≤ u + v then 4611686018427387904 else u + v) := by
    intro u v hu hv
    unfold Low at *
    unfold mulR; rw [if_pos rfl, lsr_low _ _ (by omega) (by omega) (by omega) (by omega)]
    by_cases hf : far u v
    · rw [if_pos hf]; unfold far at hf; split <;> omega
    · rw [if_neg hf]; unfold far at hf; split <;> split <;> omega
  have hl : ∀ u v : Int, Low u → Low v → addR 1 u v = if v < u then v else u := by
    intro u v hu hv
    unfold Low at *
    unfold addR; rw [if_pos (by decide), lsr_low u v (by omega) (by omega) (by omega) (by omega)]
  have hL : ∀ u v : Int, Low u → Low v → Low (mulR 1 u v) := by
    intro u v hu hv; rw [hm u v hu hv]; unfold Low at *; split <;> omega
  refine ⟨fun _ => ?_, fun _ => ?_, ?_, ?_, nv_bd _⟩
  · have hs : nv (addR 1 x y) = if y < x then y else x := by
      rw [e]; exact (nv_low _ (by split <;> omega) (by split <;> omega)).2
    rw [hs, hl _ _ (hL a x ha hx) (hL a y ha hy), hm a x ha hx, hm a y ha hy, hm a _ ha (by unfold Low; split <;> omega)]
    split <;> split <;> (try split) <;> (try split) <;> omega
  · show mulR 1 0 x = x
    rw [hm 0 x (by unfold Low; omega) hx]; split <;> omega
  · show mulR 1 a 4611686018427387904 = 4611686018427387904
    rw [hm a _ ha (by unfold Low; omega)]; split <;> omega
  · show mulR 1 4611686018427387904 x = 4611686018427387904
    rw [hm _ x (by unfold Low; omega) hx]; split <;> omega

theorem spreads3 (a x y : Int) (ha : Low a) (hx : Low x) (hy : Low y) : Spreads 3 a x y := by
  unfold Low at *
  have hm : ∀ u v : Int, mulR 3 u v = (if 4611686018427387904 ≤ u ∨ 4611686018427387904 ≤ v then 4611686018427387904 else u) := by
    intro u v; unfold mulR; rw [if_neg (by decide), if_neg (by decide), if_pos rfl]; by_cases hf : far u v
    · rw [if_pos hf]; unfold far at hf; rw [if_pos hf]
    · rw [if_neg hf]; unfold far at hf; rw [if_neg hf]
  have hl : ∀ u v : Int, Low u → Low v → addR 3 u v = if v < u then v else u := by
    intro u v hu hv
    unfold Low at *
    unfold addR; rw [if_pos (by decide), lsr_low u v (by omega) (by omega) (by omega) (by omega)]
  have hL : ∀ u v : Int, Low u → Low v → Low (mulR 3 u v) := by
    intro u v hu hv; rw [hm u v]; unfold Low at *; split <;> omega
  refine ⟨fun _ => ?_, fun h => ?_, ?_, ?_, nv_bd _⟩
  · have hs : nv (addR 3 x y) = if y < x then y else x := by
      rw [hl x y hx hy]; exact (nv_low _ (by split <;> omega) (by split <;> omega)).2
    rw [hs, hl _ _ (hL a x ha hx) (hL a y ha hy), hm a x, hm a y, hm a _]
    split <;> split <;> (try split) <;> (try split) <;> omega
  · exact absurd h (by decide)
  · show mulR 3 a 4611686018427387904 = 4611686018427387904
    rw [hm]; split <;> omega
  · show mulR 3 4611686018427387904 x = 4611686018427387904
    rw [hm]; split <;> omega

theorem spreads4 (a x y : Int) (ha : Low a) (hx : Low x) (hy : Low y) : Spreads 4 a x y := by
  unfold Low at *
  have hm : ∀ u v : Int, mulR 4 u v = (if 4611686018427387904 ≤ u ∨ 4611686018427387904 ≤ v then 4611686018427387904 else v) := by
    intro u v; unfold mulR; rw [if_neg (by decide), if_neg (by decide), if_neg (by decide), if_pos rfl]; by_cases hf : far u v
    · rw [if_pos hf]; unfold far at hf; rw [if_pos hf]
    · rw [if_neg hf]; unfold far at hf; rw [if_neg hf]
  have hl : ∀ u v : Int, Low u → Low v → addR 4 u v = if v < u then v else u := by
    intro u v hu hv
    unfold Low at *
    unfold addR; rw [if_pos (by decide), lsr_low u v (by omega) (by omega) (by omega) (by omega)]
  have hL : ∀ u v : Int, Low u → Low v → Low (mulR 4 u v) := by
    intro u v hu hv; rw [hm u v]; unfold Low at *; split <;> omega
  refine ⟨fun _ => ?_, fun h => ?_, ?_, ?_, nv_bd _⟩
  · have hs : nv (addR 4 x y) = if y < x then y else x := by
      rw [hl x y hx hy]; exact (nv_low _ (by split <;> omega) (by split <;> omega)).2
    rw [hs, hl _ _ (hL a x ha hx) (hL a y ha hy), hm a x, hm a y, hm a _]
    split <;> split <;> (try split) <;> (try split) <;> omega
  · exact absurd h (by decide)
  · show mulR 4 a 4611686018427387904 = 4611686018427387904
    rw [hm]; split <;> omega
  · show mulR 4 4611686018427387904 x = 4611686018427387904
    rw [hm]; split <;> omega

theorem spreads2 (a x y : Int) (ha : a = 0 ∨ a = 1) (hx : x = 0 ∨ x = 1) (hy : y = 0 ∨ y = 1) : Spreads 2 a x y := by
  rcases ha with rfl | rfl <;> rcases hx with rfl | rfl <;> rcases hy with rfl | rfl <;> exact ⟨by decide +kernel, by decide +kernel, by decide +kernel, by decide +kernel, nv_bd _⟩

theorem spreads5 (a x y : Int) (x1 : -9223372036854775808 ≤ x) (x2 : x ≤ 9223372036854775807) (y1 : -9223372036854775808 ≤ y) (y2 : y ≤ 9223372036854775807) : Spreads 5 a x y := by
  have e : addR 5 x y = x + y := by unfold addR; rw [if_neg (by decide), if_neg (by decide), if_pos rfl]
  have hm : ∀ u v : Int, mulR 5 u v = u * v := by intro u v; unfold mulR; rw [if_neg (by decide), if_neg (by decide), if_neg (by decide), if_neg (by decide), if_pos rfl]
  have ha : ∀ u v : Int, addR 5 u v = u + v := by intro u v; unfold addR; rw [if_neg (by decide), if_neg (by decide), if_pos rfl]
  refine ⟨fun h => ?_, fun _ => ?_, ?_, ?_, nv_bd _⟩
  · rw [e] at h ⊢
    have hs : nv (x + y) = x + y := by unfold nv; rw [if_pos h, sv_in _ (by omega) (by omega)]
    rw [hs, ha, hm, hm, hm, Int.mul_add]
  · show mulR 5 1 x = x
    rw [hm, Int.one_mul]
  · show mulR 5 a 0 = 0
    rw [hm, Int.mul_zero]
  · show mulR 5 0 x = 0
    rw [hm, Int.zero_mul]

/-- Products of the rings that are not PlusTimes are values. -/
theorem fits_low (r a x : Int) (hr : r = 1 ∨ r = 3 ∨ r = 4) (ha : Low a) (hx : Low x) : nb (mulR r a x) = true ∧ Low (nv (mulR r a x)) := by
  have : Low (mulR r a x) := by
    unfold Low at *
    by_cases hf : far a x
    · have e : mulR r a x = 4611686018427387904 := by rcases hr with rfl | rfl | rfl <;> simp [mulR, hf]
      rw [e]; omega
    · rcases hr with rfl | rfl | rfl
      · rw [show mulR 1 a x = lsr (a + x) 4611686018427387904 by simp [mulR, hf], lsr_low _ _ (by omega) (by omega) (by omega) (by omega)]; split <;> omega
      · rw [show mulR 3 a x = a by simp [mulR, hf]]; omega
      · rw [show mulR 4 a x = x by simp [mulR, hf]]; omega
  have h := nv_low _ this.1 this.2
  rw [h.2]; exact ⟨h.1, this⟩
theorem fits_or (a x : Int) (ha : a = 0 ∨ a = 1) (hx : x = 0 ∨ x = 1) : nb (mulR 2 a x) = true ∧ (nv (mulR 2 a x) = 0 ∨ nv (mulR 2 a x) = 1) := by
  rcases ha with rfl | rfl <;> rcases hx with rfl | rfl <;> decide +kernel
theorem fac_bd (r n : Int) (hr : r = 1 ∨ r = 2 ∨ r = 3 ∨ r = 4 ∨ r = 5) (n1 : -9223372036854775808 ≤ n) (n2 : n ≤ 9223372036854775807) : -9223372036854775808 ≤ facR r n ∧ facR r n ≤ 9223372036854775807 := by
  unfold facR
  split
  · have := Int.tmod_lt_of_pos n (show (0 : Int) < 2147483648 by decide)
    have h2 : -2147483648 < n.tmod 2147483648 := Int.lt_tmod_of_pos n (by decide)
    omega
  · unfold valR; split
    · omega
    · split
      · omega
      · split <;> omega
theorem val_bd (r n : Int) (n1 : -9223372036854775808 ≤ n) (n2 : n ≤ 9223372036854775807) : -9223372036854775808 ≤ valR r n ∧ valR r n ≤ 9223372036854775807 := by
  unfold valR; split
  · omega
  · split
    · omega
    · split <;> omega
theorem low_add (r x y : Int) (hr : r = 1 ∨ r = 3 ∨ r = 4) (hx : Low x) (hy : Low y) : nb (addR r x y) = true := by
  unfold Low at *
  rw [show addR r x y = if y < x then y else x by unfold addR; rw [if_pos hr, lsr_low x y (by omega) (by omega) (by omega) (by omega)]]
  exact (nv_low _ (by split <;> omega) (by split <;> omega)).1
theorem or_add (x y : Int) (hx : x = 0 ∨ x = 1) (hy : y = 0 ∨ y = 1) : nb (addR 2 x y) = true := by
  rcases hx with rfl | rfl <;> rcases hy with rfl | rfl <;> decide +kernel
end Go.Proofs.Ytekkgidoblddfaa
