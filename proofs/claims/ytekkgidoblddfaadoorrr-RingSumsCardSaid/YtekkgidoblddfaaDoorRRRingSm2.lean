/- The law of sums, of every ring. -/
import Derived.Test.YtekkgidoblddfaaDoorRRRingSm
namespace Go.Proofs.YtekkgidoblddfaaDoorRR
open Go.RowKit Go.Sort
set_option linter.unusedVariables false

structure Sums (r a b c : Int) : Prop where
  comm : addR r a b = addR r b a
  assoc : addR r (addR r a b) c = addR r a (addR r b c)
  zero : a = addR r a (zeroR r)

theorem low_min (r x y : Int) (hr : r = 1 ∨ r = 3 ∨ r = 4) (hx : Low x) (hy : Low y) : addR r x y = (if y < x then y else x) ∧ Low (addR r x y) := by
  unfold Low at *
  have e : addR r x y = if y < x then y else x := by unfold addR; rw [if_pos hr, lsr_low x y (by omega) (by omega) (by omega) (by omega)]
  rw [e]
  refine ⟨rfl, ?_⟩
  split <;> omega

theorem sums_low (r a b c : Int) (hr : r = 1 ∨ r = 3 ∨ r = 4) (ha : Low a) (hb : Low b) (hc : Low c) : Sums r a b c ∧ a = addR r a a ∧ nb (addR r a b) = true ∧ Low (nv (addR r a b)) := by
  have hz : zeroR r = 4611686018427387904 := by unfold zeroR; rw [if_pos hr]
  have lz : Low (zeroR r) := by rw [hz]; unfold Low; omega
  have ab := low_min r a b hr ha hb
  have ba := low_min r b a hr hb ha
  have bc := low_min r b c hr hb hc
  have az := low_min r a _ hr ha lz
  have aa := low_min r a a hr ha ha
  have abc := low_min r _ c hr ab.2 hc
  have abc' := low_min r a _ hr ha bc.2
  have nn := nv_low (addR r a b) ab.2.1 ab.2.2
  refine ⟨⟨?_, ?_, ?_⟩, ?_, nn.1, by rw [nn.2]; exact ab.2⟩
  · rw [ab.1, ba.1]; split <;> split <;> omega
  · rw [abc.1, abc'.1, ab.1, bc.1]; repeat' split
    all_goals omega
  · rw [az.1, hz]; unfold Low at ha; split <;> omega
  · rw [aa.1]; split <;> omega

theorem sums_or (a b c : Int) (ha : a = 0 ∨ a = 1) (hb : b = 0 ∨ b = 1) (hc : c = 0 ∨ c = 1) : Sums 2 a b c ∧ a = addR 2 a a ∧ nb (addR 2 a b) = true ∧ (nv (addR 2 a b) = 0 ∨ nv (addR 2 a b) = 1) := by
  rcases ha with rfl | rfl <;> rcases hb with rfl | rfl <;> rcases hc with rfl | rfl <;> exact ⟨⟨by decide +kernel, by decide +kernel, by decide +kernel⟩, by decide +kernel, by decide +kernel, by decide +kernel⟩

theorem sums5 (a b c : Int) : Sums 5 a b c := by
  have ha : ∀ u v : Int, addR 5 u v = u + v := by intro u v; unfold addR; rw [if_neg (by decide), if_neg (by decide), if_pos rfl]
  refine ⟨?_, ?_, ?_⟩
  · rw [ha, ha]; omega
  · rw [ha, ha, ha, ha]; omega
  · show a = addR 5 a 0
    rw [ha]; omega

theorem zero_bd (r : Int) : -9223372036854775808 ≤ zeroR r ∧ zeroR r ≤ 9223372036854775807 := by
  unfold zeroR; split <;> omega

theorem smA_f (r n0 n1 n2 : Int) (w : World) (hN : Names w) (hr : r = 1 ∨ r = 2 ∨ r = 3 ∨ r = 4 ∨ r = 5) (H5 : (r == 5) = false) (hI : true = isR r)
    (b0 : -9223372036854775808 ≤ n0 ∧ n0 ≤ 9223372036854775807) (b1 : -9223372036854775808 ≤ n1 ∧ n1 ≤ 9223372036854775807) (b2 : -9223372036854775808 ≤ n2 ∧ n2 ≤ 9223372036854775807)
    (sp : Sums r (valR r n0) (valR r n1) (valR r n2)) (hi : valR r n0 = addR r (valR r n0) (valR r n0)) (hok : nb (addR r (valR r n0) (valR r n1)) = true)
    (hR : ∀ w : World, Calls Tryd.prog 13 #[.int .i64 r, .int .i64 (nv (addR r (valR r n0) (valR r n1)))] w fun e w' => e = .returned (.bool true) ∧ Below w.heap.size w w') :
    Calls Tryd.prog 3 #[.int .i64 r, .agg #[.int .i64 n0, .int .i64 n1, .int .i64 n2]] w fun e w' => e = .returned (.bool true) ∧ Below w.heap.size w w' := by
  have v0 := val_bd r n0 b0.1 b0.2
  have v1 := val_bd r n1 b1.1 b1.2
  have v2 := val_bd r n2 b2.1 b2.2
  have zb := zero_bd r
  exact smA r n0 n1 n2 _ _ _ _ _ _ _ w (Lib.hid hN) (Lib.hid hr) H5 (Lib.hid rfl) (Lib.hid rfl) (Lib.hid rfl) v0.1 v0.2 v1.1 v1.2 v2.1 v2.2 zb.1 zb.2 (Lib.hid rfl) (Lib.hid rfl) (Lib.hid sp.comm) (Lib.hid rfl) (Lib.hid rfl) (Lib.hid sp.assoc) (Lib.hid sp.zero) (Lib.hid hI) _ (Lib.hid rfl) (Lib.hid hok.symm) (Lib.hid hi) (Lib.hid hR)

theorem ringSums_any (r n0 n1 n2 : Int) (w : World) (hN : Names w) (b0 : -9223372036854775808 ≤ n0 ∧ n0 ≤ 9223372036854775807) (b1 : -9223372036854775808 ≤ n1 ∧ n1 ≤ 9223372036854775807) (b2 : -9223372036854775808 ≤ n2 ∧ n2 ≤ 9223372036854775807) :
    Calls Tryd.prog 3 #[.int .i64 r, .agg #[.int .i64 n0, .int .i64 n1, .int .i64 n2]] w fun e w' => e = .returned (.bool true) ∧ Below w.heap.size w w' := by
  have hc : r = 1 ∨ r = 2 ∨ r = 3 ∨ r = 4 ∨ r = 5 ∨ (r < 1 ∨ 5 < r) := by omega
  rcases hc with rfl | rfl | rfl | rfl | rfl | ho
  · obtain ⟨sp, hi, hok, hl⟩ := sums_low 1 _ _ _ (by decide) (val_low 1 n0 (by decide) (by decide)) (val_low 1 n1 (by decide) (by decide)) (val_low 1 n2 (by decide) (by decide))
    exact smA_f 1 n0 n1 n2 w hN (by decide) (by decide) (by decide) b0 b1 b2 sp hi hok (fun w => right_low 1 _ w (by decide) hl)
  · obtain ⟨sp, hi, hok, hl⟩ := sums_or _ _ _ (val_or n0) (val_or n1) (val_or n2)
    exact smA_f 2 n0 n1 n2 w hN (by decide) (by decide) (by decide) b0 b1 b2 sp hi hok (fun w => right_or _ w hl)
  · obtain ⟨sp, hi, hok, hl⟩ := sums_low 3 _ _ _ (by decide) (val_low 3 n0 (by decide) (by decide)) (val_low 3 n1 (by decide) (by decide)) (val_low 3 n2 (by decide) (by decide))
    exact smA_f 3 n0 n1 n2 w hN (by decide) (by decide) (by decide) b0 b1 b2 sp hi hok (fun w => right_low 3 _ w (by decide) hl)
  · obtain ⟨sp, hi, hok, hl⟩ := sums_low 4 _ _ _ (by decide) (val_low 4 n0 (by decide) (by decide)) (val_low 4 n1 (by decide) (by decide)) (val_low 4 n2 (by decide) (by decide))
    exact smA_f 4 n0 n1 n2 w hN (by decide) (by decide) (by decide) b0 b1 b2 sp hi hok (fun w => right_low 4 _ w (by decide) hl)
  · have v0 := val_bd 5 n0 b0.1 b0.2
    have v1 := val_bd 5 n1 b1.1 b1.2
    have v2 := val_bd 5 n2 b2.1 b2.2
    have zb := zero_bd 5
    have sp := sums5 (valR 5 n0) (valR 5 n1) (valR 5 n2)
    exact smE 5 n0 n1 n2 _ _ _ _ _ _ _ w (Lib.hid hN) (Lib.hid (by decide)) (by decide) (Lib.hid rfl) (Lib.hid rfl) (Lib.hid rfl) v0.1 v0.2 v1.1 v1.2 v2.1 v2.2 zb.1 zb.2 (Lib.hid rfl) (Lib.hid rfl) (Lib.hid sp.comm) (Lib.hid rfl) (Lib.hid rfl) (Lib.hid sp.assoc) (Lib.hid sp.zero) (Lib.hid (by decide)) _ _ (Lib.hid rfl) (Lib.hid rfl)
  · have hi := isR_f r ho
    have HI := Lib.hid hi.symm
    clear hi
    go_enter Tryd.func3, Tryd.ntmps3
    go_wp2_with fail
    refine (rref_is r false _ HI.out).mono ?_
    rintro e w1 ⟨rfl, hb1⟩; obtain ⟨⟨d1, o1⟩, rfl⟩ := regrown_of_below hb1; clear hb1
    go_wp2_with fail
    refine (live2_any _ (hN.grown (by repeat (first | with_reducible refine blg ?_ _ _ | with_reducible refine bla ?_ _ | with_reducible exact Below.refl _ _)))).mono ?_
    rintro e w1 ⟨rfl, hb1⟩; obtain ⟨⟨d2, o2⟩, rfl⟩ := regrown_of_below hb1; clear hb1
    go_wp2
    go_ret
    exact ⟨rfl, (by repeat (first | with_reducible refine blg ?_ _ _ | with_reducible refine bla ?_ _ | with_reducible exact Below.refl _ _))⟩
end Go.Proofs.YtekkgidoblddfaaDoorRR
