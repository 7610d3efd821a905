/- Package ring, each function by a contract. -/
import Derived.Test.YtekkgidoblddfaaWide5
import Derived.Test.YtekkgidoblddfaaAlloc
import Derived.Test.YtekkgidoblddfaaRingMath
namespace Go.Proofs.Ytekkgidoblddfaa
open Go.RowKit Go.Sort
set_option linter.unusedVariables false

set_option maxRecDepth 100000 in
set_option maxHeartbeats 1000000 in
theorem lesser_any (x y : Int) (w : World) :
    Calls Try.prog 33 #[W x, W y] w fun e w' => e = .returned (W (lsr x y)) ∧ Below w.heap.size w w' := by
  go_enter Try.func33, Try.ntmps33
  go_wp2_with (go_at_call 16; refine (compare_any _ _ _).mono ?_; rintro e w1 ⟨rfl, hb1⟩; obtain ⟨⟨d1, o1⟩, rfl⟩ := regrown_of_below hb1; clear hb1)
  all_goals refine bodyPost_ret (v := W (lsr x y)) ?_ rfl ⟨rfl, (by repeat (first | with_reducible refine blg ?_ _ _ | with_reducible refine bla ?_ _ | with_reducible exact Below.refl _ _))⟩
  all_goals simp [W, results, Try.results33, go_sem]
  · rw [lsr_b x y (by assumption)]; exact ⟨rfl, rfl⟩
  · rw [lsr_a x y (by assumption)]; exact ⟨rfl, rfl⟩

set_option maxRecDepth 100000 in
set_option maxHeartbeats 1000000 in
theorem truth_any (b : Bool) (w : World) :
    Calls Try.prog 34 #[.bool b] w fun e w' => e = .returned (W (if b = true then 1 else 0)) ∧ Below w.heap.size w w' := by
  cases b
  all_goals
    go_enter Try.func34, Try.ntmps34
    go_wp2_with (go_at_call 14; refine (of_any _ _ (by decide) (by decide)).mono ?_; rintro e w1 ⟨rfl, hb1⟩; obtain ⟨⟨d1, o1⟩, rfl⟩ := regrown_of_below hb1; clear hb1)
  · refine bodyPost_ret (v := W 0) ?_ rfl ⟨rfl, (by repeat (first | with_reducible refine blg ?_ _ _ | with_reducible refine bla ?_ _ | with_reducible exact Below.refl _ _))⟩
    simp [W, results, Try.results34, go_sem]
    decide
  · refine bodyPost_ret (v := W 1) ?_ rfl ⟨rfl, (by repeat (first | with_reducible refine blg ?_ _ _ | with_reducible refine bla ?_ _ | with_reducible exact Below.refl _ _))⟩
    simp [W, results, Try.results34, go_sem]

theorem w_zero : (0 : Int) = hi 0 ∧ (0 : Int) = lo 0 := by decide

set_option maxRecDepth 100000 in
set_option maxHeartbeats 2000000 in
theorem ringMul_1_far1 (a x : Int) (w : World) (a1 : -9223372036854775808 ≤ a) (a2 : a ≤ 9223372036854775807) (x1 : -9223372036854775808 ≤ x) (x2 : x ≤ 9223372036854775807) (h : 4611686018427387904 ≤ a) :
    Calls Try.prog 28 #[.int .i64 1, .int .i64 a, .int .i64 x] w fun e w' => e = .returned (W (4611686018427387904)) ∧ Below w.heap.size w w' := by
  go_enter Try.func28, Try.ntmps28
  go_wp2_with (first
      | (go_at_call 14; refine (of_any _ _ (by first | assumption | decide) (by first | assumption | decide)).mono ?_; rintro e w1 ⟨rfl, hb1⟩; obtain ⟨⟨d1, o1⟩, rfl⟩ := regrown_of_below hb1; clear hb1)
      | (go_at_call 18; refine (add_any _ _ _).mono ?_; rintro e w1 ⟨rfl, hb1⟩; obtain ⟨⟨d1, o1⟩, rfl⟩ := regrown_of_below hb1; clear hb1)
      | (go_at_call 33; refine (lesser_any _ _ _).mono ?_; rintro e w1 ⟨rfl, hb1⟩; obtain ⟨⟨d1, o1⟩, rfl⟩ := regrown_of_below hb1; clear hb1)
      | (go_at_call 34; refine (truth_any _ _).mono ?_; rintro e w1 ⟨rfl, hb1⟩; obtain ⟨⟨d1, o1⟩, rfl⟩ := regrown_of_below hb1; clear hb1)
      | (go_at_call 22; refine (mul_any _ _ _ a1 a2 x1 x2).mono ?_; rintro e w1 ⟨rfl, hb1⟩; obtain ⟨⟨d1, o1⟩, rfl⟩ := regrown_of_below hb1; clear hb1))
  all_goals refine bodyPost_ret (v := W (4611686018427387904)) ?_ rfl ⟨rfl, (by repeat (first | with_reducible refine blg ?_ _ _ | with_reducible refine bla ?_ _ | with_reducible exact Below.refl _ _))⟩
  all_goals simp [W, results, Try.results28, go_sem]

set_option maxRecDepth 100000 in
set_option maxHeartbeats 2000000 in
theorem ringMul_1_far2 (a x : Int) (w : World) (a1 : -9223372036854775808 ≤ a) (a2 : a ≤ 9223372036854775807) (x1 : -9223372036854775808 ≤ x) (x2 : x ≤ 9223372036854775807) (h : a < 4611686018427387904) (g : 4611686018427387904 ≤ x) :
    Calls Try.prog 28 #[.int .i64 1, .int .i64 a, .int .i64 x] w fun e w' => e = .returned (W (4611686018427387904)) ∧ Below w.heap.size w w' := by
  go_enter Try.func28, Try.ntmps28
  go_wp2_with (first
      | (go_at_call 14; refine (of_any _ _ (by first | assumption | decide) (by first | assumption | decide)).mono ?_; rintro e w1 ⟨rfl, hb1⟩; obtain ⟨⟨d1, o1⟩, rfl⟩ := regrown_of_below hb1; clear hb1)
      | (go_at_call 18; refine (add_any _ _ _).mono ?_; rintro e w1 ⟨rfl, hb1⟩; obtain ⟨⟨d1, o1⟩, rfl⟩ := regrown_of_below hb1; clear hb1)
      | (go_at_call 33; refine (lesser_any _ _ _).mono ?_; rintro e w1 ⟨rfl, hb1⟩; obtain ⟨⟨d1, o1⟩, rfl⟩ := regrown_of_below hb1; clear hb1)
      | (go_at_call 34; refine (truth_any _ _).mono ?_; rintro e w1 ⟨rfl, hb1⟩; obtain ⟨⟨d1, o1⟩, rfl⟩ := regrown_of_below hb1; clear hb1)
      | (go_at_call 22; refine (mul_any _ _ _ a1 a2 x1 x2).mono ?_; rintro e w1 ⟨rfl, hb1⟩; obtain ⟨⟨d1, o1⟩, rfl⟩ := regrown_of_below hb1; clear hb1))
  all_goals refine bodyPost_ret (v := W (4611686018427387904)) ?_ rfl ⟨rfl, (by repeat (first | with_reducible refine blg ?_ _ _ | with_reducible refine bla ?_ _ | with_reducible exact Below.refl _ _))⟩
  all_goals simp [W, results, Try.results28, go_sem]

set_option maxRecDepth 100000 in
set_option maxHeartbeats 2000000 in
theorem ringMul_1_near (a x : Int) (w : World) (a1 : -9223372036854775808 ≤ a) (a2 : a ≤ 9223372036854775807) (x1 : -9223372036854775808 ≤ x) (x2 : x ≤ 9223372036854775807) (h : a < 4611686018427387904) (g : x < 4611686018427387904) :
    Calls Try.prog 28 #[.int .i64 1, .int .i64 a, .int .i64 x] w fun e w' => e = .returned (W (lsr (a + x) 4611686018427387904)) ∧ Below w.heap.size w w' := by
  go_enter Try.func28, Try.ntmps28
  go_wp2_with (first
      | (go_at_call 14; refine (of_any _ _ (by first | assumption | decide) (by first | assumption | decide)).mono ?_; rintro e w1 ⟨rfl, hb1⟩; obtain ⟨⟨d1, o1⟩, rfl⟩ := regrown_of_below hb1; clear hb1)
      | (go_at_call 18; refine (add_any _ _ _).mono ?_; rintro e w1 ⟨rfl, hb1⟩; obtain ⟨⟨d1, o1⟩, rfl⟩ := regrown_of_below hb1; clear hb1)
      | (go_at_call 33; refine (lesser_any _ _ _).mono ?_; rintro e w1 ⟨rfl, hb1⟩; obtain ⟨⟨d1, o1⟩, rfl⟩ := regrown_of_below hb1; clear hb1)
      | (go_at_call 34; refine (truth_any _ _).mono ?_; rintro e w1 ⟨rfl, hb1⟩; obtain ⟨⟨d1, o1⟩, rfl⟩ := regrown_of_below hb1; clear hb1)
      | (go_at_call 22; refine (mul_any _ _ _ a1 a2 x1 x2).mono ?_; rintro e w1 ⟨rfl, hb1⟩; obtain ⟨⟨d1, o1⟩, rfl⟩ := regrown_of_below hb1; clear hb1))
  all_goals refine bodyPost_ret (v := W (lsr (a + x) 4611686018427387904)) ?_ rfl ⟨rfl, (by repeat (first | with_reducible refine blg ?_ _ _ | with_reducible refine bla ?_ _ | with_reducible exact Below.refl _ _))⟩
  all_goals simp [W, results, Try.results28, go_sem]

set_option maxRecDepth 100000 in
set_option maxHeartbeats 2000000 in
theorem ringMul_3_far1 (a x : Int) (w : World) (a1 : -9223372036854775808 ≤ a) (a2 : a ≤ 9223372036854775807) (x1 : -9223372036854775808 ≤ x) (x2 : x ≤ 9223372036854775807) (h : 4611686018427387904 ≤ a) :
    Calls Try.prog 28 #[.int .i64 3, .int .i64 a, .int .i64 x] w fun e w' => e = .returned (W (4611686018427387904)) ∧ Below w.heap.size w w' := by
  go_enter Try.func28, Try.ntmps28
  go_wp2_with (first
      | (go_at_call 14; refine (of_any _ _ (by first | assumption | decide) (by first | assumption | decide)).mono ?_; rintro e w1 ⟨rfl, hb1⟩; obtain ⟨⟨d1, o1⟩, rfl⟩ := regrown_of_below hb1; clear hb1)
      | (go_at_call 18; refine (add_any _ _ _).mono ?_; rintro e w1 ⟨rfl, hb1⟩; obtain ⟨⟨d1, o1⟩, rfl⟩ := regrown_of_below hb1; clear hb1)
      | (go_at_call 33; refine (lesser_any _ _ _).mono ?_; rintro e w1 ⟨rfl, hb1⟩; obtain ⟨⟨d1, o1⟩, rfl⟩ := regrown_of_below hb1; clear hb1)
      | (go_at_call 34; refine (truth_any _ _).mono ?_; rintro e w1 ⟨rfl, hb1⟩; obtain ⟨⟨d1, o1⟩, rfl⟩ := regrown_of_below hb1; clear hb1)
      | (go_at_call 22; refine (mul_any _ _ _ a1 a2 x1 x2).mono ?_; rintro e w1 ⟨rfl, hb1⟩; obtain ⟨⟨d1, o1⟩, rfl⟩ := regrown_of_below hb1; clear hb1))
  all_goals refine bodyPost_ret (v := W (4611686018427387904)) ?_ rfl ⟨rfl, (by repeat (first | with_reducible refine blg ?_ _ _ | with_reducible refine bla ?_ _ | with_reducible exact Below.refl _ _))⟩
  all_goals simp [W, results, Try.results28, go_sem]

set_option maxRecDepth 100000 in
set_option maxHeartbeats 2000000 in
theorem ringMul_3_far2 (a x : Int) (w : World) (a1 : -9223372036854775808 ≤ a) (a2 : a ≤ 9223372036854775807) (x1 : -9223372036854775808 ≤ x) (x2 : x ≤ 9223372036854775807) (h : a < 4611686018427387904) (g : 4611686018427387904 ≤ x) :
    Calls Try.prog 28 #[.int .i64 3, .int .i64 a, .int .i64 x] w fun e w' => e = .returned (W (4611686018427387904)) ∧ Below w.heap.size w w' := by
  go_enter Try.func28, Try.ntmps28
  go_wp2_with (first
      | (go_at_call 14; refine (of_any _ _ (by first | assumption | decide) (by first | assumption | decide)).mono ?_; rintro e w1 ⟨rfl, hb1⟩; obtain ⟨⟨d1, o1⟩, rfl⟩ := regrown_of_below hb1; clear hb1)
      | (go_at_call 18; refine (add_any _ _ _).mono ?_; rintro e w1 ⟨rfl, hb1⟩; obtain ⟨⟨d1, o1⟩, rfl⟩ := regrown_of_below hb1; clear hb1)
      | (go_at_call 33; refine (lesser_any _ _ _).mono ?_; rintro e w1 ⟨rfl, hb1⟩; obtain ⟨⟨d1, o1⟩, rfl⟩ := regrown_of_below hb1; clear hb1)
      | (go_at_call 34; refine (truth_any _ _).mono ?_; rintro e w1 ⟨rfl, hb1⟩; obtain ⟨⟨d1, o1⟩, rfl⟩ := regrown_of_below hb1; clear hb1)
      | (go_at_call 22; refine (mul_any _ _ _ a1 a2 x1 x2).mono ?_; rintro e w1 ⟨rfl, hb1⟩; obtain ⟨⟨d1, o1⟩, rfl⟩ := regrown_of_below hb1; clear hb1))
  all_goals refine bodyPost_ret (v := W (4611686018427387904)) ?_ rfl ⟨rfl, (by repeat (first | with_reducible refine blg ?_ _ _ | with_reducible refine bla ?_ _ | with_reducible exact Below.refl _ _))⟩
  all_goals simp [W, results, Try.results28, go_sem]

set_option maxRecDepth 100000 in
set_option maxHeartbeats 2000000 in
theorem ringMul_3_near (a x : Int) (w : World) (a1 : -9223372036854775808 ≤ a) (a2 : a ≤ 9223372036854775807) (x1 : -9223372036854775808 ≤ x) (x2 : x ≤ 9223372036854775807) (h : a < 4611686018427387904) (g : x < 4611686018427387904) :
    Calls Try.prog 28 #[.int .i64 3, .int .i64 a, .int .i64 x] w fun e w' => e = .returned (W (a)) ∧ Below w.heap.size w w' := by
  go_enter Try.func28, Try.ntmps28
  go_wp2_with (first
      | (go_at_call 14; refine (of_any _ _ (by first | assumption | decide) (by first | assumption | decide)).mono ?_; rintro e w1 ⟨rfl, hb1⟩; obtain ⟨⟨d1, o1⟩, rfl⟩ := regrown_of_below hb1; clear hb1)
      | (go_at_call 18; refine (add_any _ _ _).mono ?_; rintro e w1 ⟨rfl, hb1⟩; obtain ⟨⟨d1, o1⟩, rfl⟩ := regrown_of_below hb1; clear hb1)
      | (go_at_call 33; refine (lesser_any _ _ _).mono ?_; rintro e w1 ⟨rfl, hb1⟩; obtain ⟨⟨d1, o1⟩, rfl⟩ := regrown_of_below hb1; clear hb1)
      | (go_at_call 34; refine (truth_any _ _).mono ?_; rintro e w1 ⟨rfl, hb1⟩; obtain ⟨⟨d1, o1⟩, rfl⟩ := regrown_of_below hb1; clear hb1)
      | (go_at_call 22; refine (mul_any _ _ _ a1 a2 x1 x2).mono ?_; rintro e w1 ⟨rfl, hb1⟩; obtain ⟨⟨d1, o1⟩, rfl⟩ := regrown_of_below hb1; clear hb1))
  all_goals refine bodyPost_ret (v := W (a)) ?_ rfl ⟨rfl, (by repeat (first | with_reducible refine blg ?_ _ _ | with_reducible refine bla ?_ _ | with_reducible exact Below.refl _ _))⟩
  all_goals simp [W, results, Try.results28, go_sem]

set_option maxRecDepth 100000 in
set_option maxHeartbeats 2000000 in
theorem ringMul_4_far1 (a x : Int) (w : World) (a1 : -9223372036854775808 ≤ a) (a2 : a ≤ 9223372036854775807) (x1 : -9223372036854775808 ≤ x) (x2 : x ≤ 9223372036854775807) (h : 4611686018427387904 ≤ a) :
    Calls Try.prog 28 #[.int .i64 4, .int .i64 a, .int .i64 x] w fun e w' => e = .returned (W (4611686018427387904)) ∧ Below w.heap.size w w' := by
  go_enter Try.func28, Try.ntmps28
  go_wp2_with (first
      | (go_at_call 14; refine (of_any _ _ (by first | assumption | decide) (by first | assumption | decide)).mono ?_; rintro e w1 ⟨rfl, hb1⟩; obtain ⟨⟨d1, o1⟩, rfl⟩ := regrown_of_below hb1; clear hb1)
      | (go_at_call 18; refine (add_any _ _ _).mono ?_; rintro e w1 ⟨rfl, hb1⟩; obtain ⟨⟨d1, o1⟩, rfl⟩ := regrown_of_below hb1; clear hb1)
      | (go_at_call 33; refine (lesser_any _ _ _).mono ?_; rintro e w1 ⟨rfl, hb1⟩; obtain ⟨⟨d1, o1⟩, rfl⟩ := regrown_of_below hb1; clear hb1)
      | (go_at_call 34; refine (truth_any _ _).mono ?_; rintro e w1 ⟨rfl, hb1⟩; obtain ⟨⟨d1, o1⟩, rfl⟩ := regrown_of_below hb1; clear hb1)
      | (go_at_call 22; refine (mul_any _ _ _ a1 a2 x1 x2).mono ?_; rintro e w1 ⟨rfl, hb1⟩; obtain ⟨⟨d1, o1⟩, rfl⟩ := regrown_of_below hb1; clear hb1))
  all_goals refine bodyPost_ret (v := W (4611686018427387904)) ?_ rfl ⟨rfl, (by repeat (first | with_reducible refine blg ?_ _ _ | with_reducible refine bla ?_ _ | with_reducible exact Below.refl _ _))⟩
  all_goals simp [W, results, Try.results28, go_sem]

set_option maxRecDepth 100000 in
set_option maxHeartbeats 2000000 in
theorem ringMul_4_far2 (a x : Int) (w : World) (a1 : -9223372036854775808 ≤ a) (a2 : a ≤ 9223372036854775807) (x1 : -9223372036854775808 ≤ x) (x2 : x ≤ 9223372036854775807) (h : a < 4611686018427387904) (g : 4611686018427387904 ≤ x) :
    Calls Try.prog 28 #[.int .i64 4, .int .i64 a, .int .i64 x] w fun e w' => e = .returned (W (4611686018427387904)) ∧ Below w.heap.size w w' := by
  go_enter Try.func28, Try.ntmps28
  go_wp2_with (first
      | (go_at_call 14; refine (of_any _ _ (by first | assumption | decide) (by first | assumption | decide)).mono ?_; rintro e w1 ⟨rfl, hb1⟩; obtain ⟨⟨d1, o1⟩, rfl⟩ := regrown_of_below hb1; clear hb1)
      | (go_at_call 18; refine (add_any _ _ _).mono ?_; rintro e w1 ⟨rfl, hb1⟩; obtain ⟨⟨d1, o1⟩, rfl⟩ := regrown_of_below hb1; clear hb1)
      | (go_at_call 33; refine (lesser_any _ _ _).mono ?_; rintro e w1 ⟨rfl, hb1⟩; obtain ⟨⟨d1, o1⟩, rfl⟩ := regrown_of_below hb1; clear hb1)
      | (go_at_call 34; refine (truth_any _ _).mono ?_; rintro e w1 ⟨rfl, hb1⟩; obtain ⟨⟨d1, o1⟩, rfl⟩ := regrown_of_below hb1; clear hb1)
      | (go_at_call 22; refine (mul_any _ _ _ a1 a2 x1 x2).mono ?_; rintro e w1 ⟨rfl, hb1⟩; obtain ⟨⟨d1, o1⟩, rfl⟩ := regrown_of_below hb1; clear hb1))
  all_goals refine bodyPost_ret (v := W (4611686018427387904)) ?_ rfl ⟨rfl, (by repeat (first | with_reducible refine blg ?_ _ _ | with_reducible refine bla ?_ _ | with_reducible exact Below.refl _ _))⟩
  all_goals simp [W, results, Try.results28, go_sem]

set_option maxRecDepth 100000 in
set_option maxHeartbeats 2000000 in
theorem ringMul_4_near (a x : Int) (w : World) (a1 : -9223372036854775808 ≤ a) (a2 : a ≤ 9223372036854775807) (x1 : -9223372036854775808 ≤ x) (x2 : x ≤ 9223372036854775807) (h : a < 4611686018427387904) (g : x < 4611686018427387904) :
    Calls Try.prog 28 #[.int .i64 4, .int .i64 a, .int .i64 x] w fun e w' => e = .returned (W (x)) ∧ Below w.heap.size w w' := by
  go_enter Try.func28, Try.ntmps28
  go_wp2_with (first
      | (go_at_call 14; refine (of_any _ _ (by first | assumption | decide) (by first | assumption | decide)).mono ?_; rintro e w1 ⟨rfl, hb1⟩; obtain ⟨⟨d1, o1⟩, rfl⟩ := regrown_of_below hb1; clear hb1)
      | (go_at_call 18; refine (add_any _ _ _).mono ?_; rintro e w1 ⟨rfl, hb1⟩; obtain ⟨⟨d1, o1⟩, rfl⟩ := regrown_of_below hb1; clear hb1)
      | (go_at_call 33; refine (lesser_any _ _ _).mono ?_; rintro e w1 ⟨rfl, hb1⟩; obtain ⟨⟨d1, o1⟩, rfl⟩ := regrown_of_below hb1; clear hb1)
      | (go_at_call 34; refine (truth_any _ _).mono ?_; rintro e w1 ⟨rfl, hb1⟩; obtain ⟨⟨d1, o1⟩, rfl⟩ := regrown_of_below hb1; clear hb1)
      | (go_at_call 22; refine (mul_any _ _ _ a1 a2 x1 x2).mono ?_; rintro e w1 ⟨rfl, hb1⟩; obtain ⟨⟨d1, o1⟩, rfl⟩ := regrown_of_below hb1; clear hb1))
  all_goals refine bodyPost_ret (v := W (x)) ?_ rfl ⟨rfl, (by repeat (first | with_reducible refine blg ?_ _ _ | with_reducible refine bla ?_ _ | with_reducible exact Below.refl _ _))⟩
  all_goals simp [W, results, Try.results28, go_sem]

set_option maxRecDepth 100000 in
set_option maxHeartbeats 2000000 in
theorem ringMul_2_a (a x : Int) (w : World) (a1 : -9223372036854775808 ≤ a) (a2 : a ≤ 9223372036854775807) (x1 : -9223372036854775808 ≤ x) (x2 : x ≤ 9223372036854775807) (h : (a != 0) = false) :
    Calls Try.prog 28 #[.int .i64 2, .int .i64 a, .int .i64 x] w fun e w' => e = .returned (W (0)) ∧ Below w.heap.size w w' := by
  go_enter Try.func28, Try.ntmps28
  go_wp2_with (first
      | (go_at_call 14; refine (of_any _ _ (by first | assumption | decide) (by first | assumption | decide)).mono ?_; rintro e w1 ⟨rfl, hb1⟩; obtain ⟨⟨d1, o1⟩, rfl⟩ := regrown_of_below hb1; clear hb1)
      | (go_at_call 18; refine (add_any _ _ _).mono ?_; rintro e w1 ⟨rfl, hb1⟩; obtain ⟨⟨d1, o1⟩, rfl⟩ := regrown_of_below hb1; clear hb1)
      | (go_at_call 33; refine (lesser_any _ _ _).mono ?_; rintro e w1 ⟨rfl, hb1⟩; obtain ⟨⟨d1, o1⟩, rfl⟩ := regrown_of_below hb1; clear hb1)
      | (go_at_call 34; refine (truth_any _ _).mono ?_; rintro e w1 ⟨rfl, hb1⟩; obtain ⟨⟨d1, o1⟩, rfl⟩ := regrown_of_below hb1; clear hb1)
      | (go_at_call 22; refine (mul_any _ _ _ a1 a2 x1 x2).mono ?_; rintro e w1 ⟨rfl, hb1⟩; obtain ⟨⟨d1, o1⟩, rfl⟩ := regrown_of_below hb1; clear hb1))
  all_goals refine bodyPost_ret (v := W (0)) ?_ rfl ⟨rfl, (by repeat (first | with_reducible refine blg ?_ _ _ | with_reducible refine bla ?_ _ | with_reducible exact Below.refl _ _))⟩
  all_goals simp [W, results, Try.results28, go_sem]

set_option maxRecDepth 100000 in
set_option maxHeartbeats 2000000 in
theorem ringMul_2_x (a x : Int) (w : World) (a1 : -9223372036854775808 ≤ a) (a2 : a ≤ 9223372036854775807) (x1 : -9223372036854775808 ≤ x) (x2 : x ≤ 9223372036854775807) (h : (a != 0) = true) (g : (x != 0) = false) :
    Calls Try.prog 28 #[.int .i64 2, .int .i64 a, .int .i64 x] w fun e w' => e = .returned (W (0)) ∧ Below w.heap.size w w' := by
  go_enter Try.func28, Try.ntmps28
  go_wp2_with (first
      | (go_at_call 14; refine (of_any _ _ (by first | assumption | decide) (by first | assumption | decide)).mono ?_; rintro e w1 ⟨rfl, hb1⟩; obtain ⟨⟨d1, o1⟩, rfl⟩ := regrown_of_below hb1; clear hb1)
      | (go_at_call 18; refine (add_any _ _ _).mono ?_; rintro e w1 ⟨rfl, hb1⟩; obtain ⟨⟨d1, o1⟩, rfl⟩ := regrown_of_below hb1; clear hb1)
      | (go_at_call 33; refine (lesser_any _ _ _).mono ?_; rintro e w1 ⟨rfl, hb1⟩; obtain ⟨⟨d1, o1⟩, rfl⟩ := regrown_of_below hb1; clear hb1)
      | (go_at_call 34; refine (truth_any _ _).mono ?_; rintro e w1 ⟨rfl, hb1⟩; obtain ⟨⟨d1, o1⟩, rfl⟩ := regrown_of_below hb1; clear hb1)
      | (go_at_call 22; refine (mul_any _ _ _ a1 a2 x1 x2).mono ?_; rintro e w1 ⟨rfl, hb1⟩; obtain ⟨⟨d1, o1⟩, rfl⟩ := regrown_of_below hb1; clear hb1))
  all_goals refine bodyPost_ret (v := W (0)) ?_ rfl ⟨rfl, (by repeat (first | with_reducible refine blg ?_ _ _ | with_reducible refine bla ?_ _ | with_reducible exact Below.refl _ _))⟩
  all_goals simp [W, results, Try.results28, go_sem]

set_option maxRecDepth 100000 in
set_option maxHeartbeats 2000000 in
theorem ringMul_2_n (a x : Int) (w : World) (a1 : -9223372036854775808 ≤ a) (a2 : a ≤ 9223372036854775807) (x1 : -9223372036854775808 ≤ x) (x2 : x ≤ 9223372036854775807) (h : (a != 0) = true) (g : (x != 0) = true) :
    Calls Try.prog 28 #[.int .i64 2, .int .i64 a, .int .i64 x] w fun e w' => e = .returned (W (1)) ∧ Below w.heap.size w w' := by
  go_enter Try.func28, Try.ntmps28
  go_wp2_with (first
      | (go_at_call 14; refine (of_any _ _ (by first | assumption | decide) (by first | assumption | decide)).mono ?_; rintro e w1 ⟨rfl, hb1⟩; obtain ⟨⟨d1, o1⟩, rfl⟩ := regrown_of_below hb1; clear hb1)
      | (go_at_call 18; refine (add_any _ _ _).mono ?_; rintro e w1 ⟨rfl, hb1⟩; obtain ⟨⟨d1, o1⟩, rfl⟩ := regrown_of_below hb1; clear hb1)
      | (go_at_call 33; refine (lesser_any _ _ _).mono ?_; rintro e w1 ⟨rfl, hb1⟩; obtain ⟨⟨d1, o1⟩, rfl⟩ := regrown_of_below hb1; clear hb1)
      | (go_at_call 34; refine (truth_any _ _).mono ?_; rintro e w1 ⟨rfl, hb1⟩; obtain ⟨⟨d1, o1⟩, rfl⟩ := regrown_of_below hb1; clear hb1)
      | (go_at_call 22; refine (mul_any _ _ _ a1 a2 x1 x2).mono ?_; rintro e w1 ⟨rfl, hb1⟩; obtain ⟨⟨d1, o1⟩, rfl⟩ := regrown_of_below hb1; clear hb1))
  all_goals refine bodyPost_ret (v := W (1)) ?_ rfl ⟨rfl, (by repeat (first | with_reducible refine blg ?_ _ _ | with_reducible refine bla ?_ _ | with_reducible exact Below.refl _ _))⟩
  all_goals simp [W, results, Try.results28, go_sem]

set_option maxRecDepth 100000 in
set_option maxHeartbeats 2000000 in
theorem ringMul_5_ (a x : Int) (w : World) (a1 : -9223372036854775808 ≤ a) (a2 : a ≤ 9223372036854775807) (x1 : -9223372036854775808 ≤ x) (x2 : x ≤ 9223372036854775807)  :
    Calls Try.prog 28 #[.int .i64 5, .int .i64 a, .int .i64 x] w fun e w' => e = .returned (W (a * x)) ∧ Below w.heap.size w w' := by
  go_enter Try.func28, Try.ntmps28
  go_wp2_with (first
      | (go_at_call 14; refine (of_any _ _ (by first | assumption | decide) (by first | assumption | decide)).mono ?_; rintro e w1 ⟨rfl, hb1⟩; obtain ⟨⟨d1, o1⟩, rfl⟩ := regrown_of_below hb1; clear hb1)
      | (go_at_call 18; refine (add_any _ _ _).mono ?_; rintro e w1 ⟨rfl, hb1⟩; obtain ⟨⟨d1, o1⟩, rfl⟩ := regrown_of_below hb1; clear hb1)
      | (go_at_call 33; refine (lesser_any _ _ _).mono ?_; rintro e w1 ⟨rfl, hb1⟩; obtain ⟨⟨d1, o1⟩, rfl⟩ := regrown_of_below hb1; clear hb1)
      | (go_at_call 34; refine (truth_any _ _).mono ?_; rintro e w1 ⟨rfl, hb1⟩; obtain ⟨⟨d1, o1⟩, rfl⟩ := regrown_of_below hb1; clear hb1)
      | (go_at_call 22; refine (mul_any _ _ _ a1 a2 x1 x2).mono ?_; rintro e w1 ⟨rfl, hb1⟩; obtain ⟨⟨d1, o1⟩, rfl⟩ := regrown_of_below hb1; clear hb1))
  all_goals refine bodyPost_ret (v := W (a * x)) ?_ rfl ⟨rfl, (by repeat (first | with_reducible refine blg ?_ _ _ | with_reducible refine bla ?_ _ | with_reducible exact Below.refl _ _))⟩
  all_goals simp [W, results, Try.results28, go_sem]

set_option maxRecDepth 100000 in
set_option maxHeartbeats 2000000 in
theorem ringMul_0_ (r a x : Int) (w : World) (a1 : -9223372036854775808 ≤ a) (a2 : a ≤ 9223372036854775807) (x1 : -9223372036854775808 ≤ x) (x2 : x ≤ 9223372036854775807) (h1 : (r == 1) = false) (h2 : (r == 2) = false) (h3 : (r == 3) = false) (h4 : (r == 4) = false) (h5 : (r == 5) = false) :
    Calls Try.prog 28 #[.int .i64 r, .int .i64 a, .int .i64 x] w fun e w' => e = .returned (W (0)) ∧ Below w.heap.size w w' := by
  go_enter Try.func28, Try.ntmps28
  go_wp2_with (first
      | (go_at_call 14; refine (of_any _ _ (by first | assumption | decide) (by first | assumption | decide)).mono ?_; rintro e w1 ⟨rfl, hb1⟩; obtain ⟨⟨d1, o1⟩, rfl⟩ := regrown_of_below hb1; clear hb1)
      | (go_at_call 18; refine (add_any _ _ _).mono ?_; rintro e w1 ⟨rfl, hb1⟩; obtain ⟨⟨d1, o1⟩, rfl⟩ := regrown_of_below hb1; clear hb1)
      | (go_at_call 33; refine (lesser_any _ _ _).mono ?_; rintro e w1 ⟨rfl, hb1⟩; obtain ⟨⟨d1, o1⟩, rfl⟩ := regrown_of_below hb1; clear hb1)
      | (go_at_call 34; refine (truth_any _ _).mono ?_; rintro e w1 ⟨rfl, hb1⟩; obtain ⟨⟨d1, o1⟩, rfl⟩ := regrown_of_below hb1; clear hb1)
      | (go_at_call 22; refine (mul_any _ _ _ a1 a2 x1 x2).mono ?_; rintro e w1 ⟨rfl, hb1⟩; obtain ⟨⟨d1, o1⟩, rfl⟩ := regrown_of_below hb1; clear hb1))
  all_goals refine bodyPost_ret (v := W (0)) ?_ rfl ⟨rfl, (by repeat (first | with_reducible refine blg ?_ _ _ | with_reducible refine bla ?_ _ | with_reducible exact Below.refl _ _))⟩
  all_goals simp [W, results, Try.results28, go_sem]
  exact w_zero

theorem ringMul_any (r a x : Int) (w : World) (a1 : -9223372036854775808 ≤ a) (a2 : a ≤ 9223372036854775807) (x1 : -9223372036854775808 ≤ x) (x2 : x ≤ 9223372036854775807) :
    Calls Try.prog 28 #[.int .i64 r, .int .i64 a, .int .i64 x] w fun e w' => e = .returned (W (mulR r a x)) ∧ Below w.heap.size w w' := by
  have hr : r = 1 ∨ r = 2 ∨ r = 3 ∨ r = 4 ∨ r = 5 ∨ (¬ r = 1 ∧ ¬ r = 2 ∧ ¬ r = 3 ∧ ¬ r = 4 ∧ ¬ r = 5) := by omega
  rcases hr with rfl | rfl | rfl | rfl | rfl | ⟨n1, n2, n3, n4, n5⟩
  · by_cases h : 4611686018427387904 ≤ a
    · rw [show mulR 1 a x = 4611686018427387904 by simp [mulR, far, h]]; exact ringMul_1_far1 a x w a1 a2 x1 x2 h
    · by_cases g : 4611686018427387904 ≤ x
      · rw [show mulR 1 a x = 4611686018427387904 by simp [mulR, far, g]]; exact ringMul_1_far2 a x w a1 a2 x1 x2 (by omega) g
      · rw [show mulR 1 a x = lsr (a + x) 4611686018427387904 by simp [mulR, far, h, g]]; exact ringMul_1_near a x w a1 a2 x1 x2 (by omega) (by omega)
  · by_cases h : a = 0
    · rw [show mulR 2 a x = 0 by simp [mulR, h]]; exact ringMul_2_a a x w a1 a2 x1 x2 (by simp [h])
    · by_cases g : x = 0
      · rw [show mulR 2 a x = 0 by simp [mulR, g]]; exact ringMul_2_x a x w a1 a2 x1 x2 (by simp [h]) (by simp [g])
      · rw [show mulR 2 a x = 1 by simp [mulR, h, g]]; exact ringMul_2_n a x w a1 a2 x1 x2 (by simp [h]) (by simp [g])
  · by_cases h : 4611686018427387904 ≤ a
    · rw [show mulR 3 a x = 4611686018427387904 by simp [mulR, far, h]]; exact ringMul_3_far1 a x w a1 a2 x1 x2 h
    · by_cases g : 4611686018427387904 ≤ x
      · rw [show mulR 3 a x = 4611686018427387904 by simp [mulR, far, g]]; exact ringMul_3_far2 a x w a1 a2 x1 x2 (by omega) g
      · rw [show mulR 3 a x = a by simp [mulR, far, h, g]]; exact ringMul_3_near a x w a1 a2 x1 x2 (by omega) (by omega)
  · by_cases h : 4611686018427387904 ≤ a
    · rw [show mulR 4 a x = 4611686018427387904 by simp [mulR, far, h]]; exact ringMul_4_far1 a x w a1 a2 x1 x2 h
    · by_cases g : 4611686018427387904 ≤ x
      · rw [show mulR 4 a x = 4611686018427387904 by simp [mulR, far, g]]; exact ringMul_4_far2 a x w a1 a2 x1 x2 (by omega) g
      · rw [show mulR 4 a x = x by simp [mulR, far, h, g]]; exact ringMul_4_near a x w a1 a2 x1 x2 (by omega) (by omega)
  · rw [show mulR 5 a x = a * x by simp [mulR]]; exact ringMul_5_ a x w a1 a2 x1 x2
  · rw [show mulR r a x = 0 by simp [mulR, n1, n2, n3, n4, n5]]; exact ringMul_0_ r a x w a1 a2 x1 x2 (by simp [n1]) (by simp [n2]) (by simp [n3]) (by simp [n4]) (by simp [n5])

set_option maxRecDepth 100000 in
set_option maxHeartbeats 2000000 in
theorem ringAdd_1 (r x y : Int) (w : World)  :
    Calls Try.prog 30 #[.int .i64 1, W x, W y] w fun e w' => e = .returned (W (lsr x y)) ∧ Below w.heap.size w w' := by
  go_enter Try.func30, Try.ntmps30
  go_wp2_with (first
      | (go_at_call 18; refine (add_any _ _ _).mono ?_; rintro e w1 ⟨rfl, hb1⟩; obtain ⟨⟨d1, o1⟩, rfl⟩ := regrown_of_below hb1; clear hb1)
      | (go_at_call 33; refine (lesser_any _ _ _).mono ?_; rintro e w1 ⟨rfl, hb1⟩; obtain ⟨⟨d1, o1⟩, rfl⟩ := regrown_of_below hb1; clear hb1)
      | (go_at_call 34; refine (truth_any _ _).mono ?_; rintro e w1 ⟨rfl, hb1⟩; obtain ⟨⟨d1, o1⟩, rfl⟩ := regrown_of_below hb1; clear hb1))
  all_goals refine bodyPost_ret (v := W (lsr x y)) ?_ rfl ⟨rfl, (by repeat (first | with_reducible refine blg ?_ _ _ | with_reducible refine bla ?_ _ | with_reducible exact Below.refl _ _))⟩
  all_goals simp [W, results, Try.results30, go_sem]


set_option maxRecDepth 100000 in
set_option maxHeartbeats 2000000 in
theorem ringAdd_3 (r x y : Int) (w : World)  :
    Calls Try.prog 30 #[.int .i64 3, W x, W y] w fun e w' => e = .returned (W (lsr x y)) ∧ Below w.heap.size w w' := by
  go_enter Try.func30, Try.ntmps30
  go_wp2_with (first
      | (go_at_call 18; refine (add_any _ _ _).mono ?_; rintro e w1 ⟨rfl, hb1⟩; obtain ⟨⟨d1, o1⟩, rfl⟩ := regrown_of_below hb1; clear hb1)
      | (go_at_call 33; refine (lesser_any _ _ _).mono ?_; rintro e w1 ⟨rfl, hb1⟩; obtain ⟨⟨d1, o1⟩, rfl⟩ := regrown_of_below hb1; clear hb1)
      | (go_at_call 34; refine (truth_any _ _).mono ?_; rintro e w1 ⟨rfl, hb1⟩; obtain ⟨⟨d1, o1⟩, rfl⟩ := regrown_of_below hb1; clear hb1))
  all_goals refine bodyPost_ret (v := W (lsr x y)) ?_ rfl ⟨rfl, (by repeat (first | with_reducible refine blg ?_ _ _ | with_reducible refine bla ?_ _ | with_reducible exact Below.refl _ _))⟩
  all_goals simp [W, results, Try.results30, go_sem]


set_option maxRecDepth 100000 in
set_option maxHeartbeats 2000000 in
theorem ringAdd_4 (r x y : Int) (w : World)  :
    Calls Try.prog 30 #[.int .i64 4, W x, W y] w fun e w' => e = .returned (W (lsr x y)) ∧ Below w.heap.size w w' := by
  go_enter Try.func30, Try.ntmps30
  go_wp2_with (first
      | (go_at_call 18; refine (add_any _ _ _).mono ?_; rintro e w1 ⟨rfl, hb1⟩; obtain ⟨⟨d1, o1⟩, rfl⟩ := regrown_of_below hb1; clear hb1)
      | (go_at_call 33; refine (lesser_any _ _ _).mono ?_; rintro e w1 ⟨rfl, hb1⟩; obtain ⟨⟨d1, o1⟩, rfl⟩ := regrown_of_below hb1; clear hb1)
      | (go_at_call 34; refine (truth_any _ _).mono ?_; rintro e w1 ⟨rfl, hb1⟩; obtain ⟨⟨d1, o1⟩, rfl⟩ := regrown_of_below hb1; clear hb1))
  all_goals refine bodyPost_ret (v := W (lsr x y)) ?_ rfl ⟨rfl, (by repeat (first | with_reducible refine blg ?_ _ _ | with_reducible refine bla ?_ _ | with_reducible exact Below.refl _ _))⟩
  all_goals simp [W, results, Try.results30, go_sem]


set_option maxRecDepth 100000 in
set_option maxHeartbeats 2000000 in
theorem ringAdd_5 (r x y : Int) (w : World)  :
    Calls Try.prog 30 #[.int .i64 5, W x, W y] w fun e w' => e = .returned (W (x + y)) ∧ Below w.heap.size w w' := by
  go_enter Try.func30, Try.ntmps30
  go_wp2_with (first
      | (go_at_call 18; refine (add_any _ _ _).mono ?_; rintro e w1 ⟨rfl, hb1⟩; obtain ⟨⟨d1, o1⟩, rfl⟩ := regrown_of_below hb1; clear hb1)
      | (go_at_call 33; refine (lesser_any _ _ _).mono ?_; rintro e w1 ⟨rfl, hb1⟩; obtain ⟨⟨d1, o1⟩, rfl⟩ := regrown_of_below hb1; clear hb1)
      | (go_at_call 34; refine (truth_any _ _).mono ?_; rintro e w1 ⟨rfl, hb1⟩; obtain ⟨⟨d1, o1⟩, rfl⟩ := regrown_of_below hb1; clear hb1))
  all_goals refine bodyPost_ret (v := W (x + y)) ?_ rfl ⟨rfl, (by repeat (first | with_reducible refine blg ?_ _ _ | with_reducible refine bla ?_ _ | with_reducible exact Below.refl _ _))⟩
  all_goals simp [W, results, Try.results30, go_sem]


set_option maxRecDepth 100000 in
set_option maxHeartbeats 2000000 in
theorem ringAdd_2a (r x y : Int) (w : World) (h : (hi x == 0 && lo x == 0) = false) :
    Calls Try.prog 30 #[.int .i64 2, W x, W y] w fun e w' => e = .returned (W (1)) ∧ Below w.heap.size w w' := by
  go_enter Try.func30, Try.ntmps30
  go_wp2_with (first
      | (go_at_call 18; refine (add_any _ _ _).mono ?_; rintro e w1 ⟨rfl, hb1⟩; obtain ⟨⟨d1, o1⟩, rfl⟩ := regrown_of_below hb1; clear hb1)
      | (go_at_call 33; refine (lesser_any _ _ _).mono ?_; rintro e w1 ⟨rfl, hb1⟩; obtain ⟨⟨d1, o1⟩, rfl⟩ := regrown_of_below hb1; clear hb1)
      | (go_at_call 34; refine (truth_any _ _).mono ?_; rintro e w1 ⟨rfl, hb1⟩; obtain ⟨⟨d1, o1⟩, rfl⟩ := regrown_of_below hb1; clear hb1))
  all_goals refine bodyPost_ret (v := W (1)) ?_ rfl ⟨rfl, (by repeat (first | with_reducible refine blg ?_ _ _ | with_reducible refine bla ?_ _ | with_reducible exact Below.refl _ _))⟩
  all_goals simp [W, results, Try.results30, go_sem]


set_option maxRecDepth 100000 in
set_option maxHeartbeats 2000000 in
theorem ringAdd_2b (r x y : Int) (w : World) (h : (hi x == 0 && lo x == 0) = true) (g : (hi y == 0 && lo y == 0) = false) :
    Calls Try.prog 30 #[.int .i64 2, W x, W y] w fun e w' => e = .returned (W (1)) ∧ Below w.heap.size w w' := by
  go_enter Try.func30, Try.ntmps30
  go_wp2_with (first
      | (go_at_call 18; refine (add_any _ _ _).mono ?_; rintro e w1 ⟨rfl, hb1⟩; obtain ⟨⟨d1, o1⟩, rfl⟩ := regrown_of_below hb1; clear hb1)
      | (go_at_call 33; refine (lesser_any _ _ _).mono ?_; rintro e w1 ⟨rfl, hb1⟩; obtain ⟨⟨d1, o1⟩, rfl⟩ := regrown_of_below hb1; clear hb1)
      | (go_at_call 34; refine (truth_any _ _).mono ?_; rintro e w1 ⟨rfl, hb1⟩; obtain ⟨⟨d1, o1⟩, rfl⟩ := regrown_of_below hb1; clear hb1))
  all_goals refine bodyPost_ret (v := W (1)) ?_ rfl ⟨rfl, (by repeat (first | with_reducible refine blg ?_ _ _ | with_reducible refine bla ?_ _ | with_reducible exact Below.refl _ _))⟩
  all_goals simp [W, results, Try.results30, go_sem]


set_option maxRecDepth 100000 in
set_option maxHeartbeats 2000000 in
theorem ringAdd_2c (r x y : Int) (w : World) (h : (hi x == 0 && lo x == 0) = true) (g : (hi y == 0 && lo y == 0) = true) :
    Calls Try.prog 30 #[.int .i64 2, W x, W y] w fun e w' => e = .returned (W (0)) ∧ Below w.heap.size w w' := by
  go_enter Try.func30, Try.ntmps30
  go_wp2_with (first
      | (go_at_call 18; refine (add_any _ _ _).mono ?_; rintro e w1 ⟨rfl, hb1⟩; obtain ⟨⟨d1, o1⟩, rfl⟩ := regrown_of_below hb1; clear hb1)
      | (go_at_call 33; refine (lesser_any _ _ _).mono ?_; rintro e w1 ⟨rfl, hb1⟩; obtain ⟨⟨d1, o1⟩, rfl⟩ := regrown_of_below hb1; clear hb1)
      | (go_at_call 34; refine (truth_any _ _).mono ?_; rintro e w1 ⟨rfl, hb1⟩; obtain ⟨⟨d1, o1⟩, rfl⟩ := regrown_of_below hb1; clear hb1))
  all_goals refine bodyPost_ret (v := W (0)) ?_ rfl ⟨rfl, (by repeat (first | with_reducible refine blg ?_ _ _ | with_reducible refine bla ?_ _ | with_reducible exact Below.refl _ _))⟩
  all_goals simp [W, results, Try.results30, go_sem]


set_option maxRecDepth 100000 in
set_option maxHeartbeats 2000000 in
theorem ringAdd_0 (r x y : Int) (w : World) (h1 : (r == 1) = false) (h2 : (r == 2) = false) (h3 : (r == 3) = false) (h4 : (r == 4) = false) (h5 : (r == 5) = false) :
    Calls Try.prog 30 #[.int .i64 r, W x, W y] w fun e w' => e = .returned (W (0)) ∧ Below w.heap.size w w' := by
  go_enter Try.func30, Try.ntmps30
  go_wp2_with (first
      | (go_at_call 18; refine (add_any _ _ _).mono ?_; rintro e w1 ⟨rfl, hb1⟩; obtain ⟨⟨d1, o1⟩, rfl⟩ := regrown_of_below hb1; clear hb1)
      | (go_at_call 33; refine (lesser_any _ _ _).mono ?_; rintro e w1 ⟨rfl, hb1⟩; obtain ⟨⟨d1, o1⟩, rfl⟩ := regrown_of_below hb1; clear hb1)
      | (go_at_call 34; refine (truth_any _ _).mono ?_; rintro e w1 ⟨rfl, hb1⟩; obtain ⟨⟨d1, o1⟩, rfl⟩ := regrown_of_below hb1; clear hb1))
  all_goals refine bodyPost_ret (v := W (0)) ?_ rfl ⟨rfl, (by repeat (first | with_reducible refine blg ?_ _ _ | with_reducible refine bla ?_ _ | with_reducible exact Below.refl _ _))⟩
  all_goals simp [W, results, Try.results30, go_sem]
  exact w_zero

theorem ringAdd_any (r x y : Int) (w : World) :
    Calls Try.prog 30 #[.int .i64 r, W x, W y] w fun e w' => e = .returned (W (addR r x y)) ∧ Below w.heap.size w w' := by
  have hr : r = 1 ∨ r = 2 ∨ r = 3 ∨ r = 4 ∨ r = 5 ∨ (¬ r = 1 ∧ ¬ r = 2 ∧ ¬ r = 3 ∧ ¬ r = 4 ∧ ¬ r = 5) := by omega
  rcases hr with rfl | rfl | rfl | rfl | rfl | ⟨n1, n2, n3, n4, n5⟩
  · rw [show addR 1 x y = lsr x y by simp [addR]]; exact ringAdd_1 0 x y w
  · cases h : (hi x == 0 && lo x == 0) with
    | false => rw [show addR 2 x y = 1 by simp [addR, nz, h]]; exact ringAdd_2a 0 x y w h
    | true =>
      cases g : (hi y == 0 && lo y == 0) with
      | false => rw [show addR 2 x y = 1 by simp [addR, nz, g]]; exact ringAdd_2b 0 x y w h g
      | true => rw [show addR 2 x y = 0 by simp [addR, nz, h, g]]; exact ringAdd_2c 0 x y w h g
  · rw [show addR 3 x y = lsr x y by simp [addR]]; exact ringAdd_3 0 x y w
  · rw [show addR 4 x y = lsr x y by simp [addR]]; exact ringAdd_4 0 x y w
  · rw [show addR 5 x y = x + y by simp [addR]]; exact ringAdd_5 0 x y w
  · rw [show addR r x y = 0 by simp [addR, n1, n2, n3, n4, n5]]; exact ringAdd_0 r x y w (by simp [n1]) (by simp [n2]) (by simp [n3]) (by simp [n4]) (by simp [n5])
end Go.Proofs.Ytekkgidoblddfaa
