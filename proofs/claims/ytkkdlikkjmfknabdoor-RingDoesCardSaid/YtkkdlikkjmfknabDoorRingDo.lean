/- The reference of the rings, and RingDoes. -/
import Derived.Test.YtkkdlikkjmfknabDoorRingLaw
import Derived.Test.YtkkdlikkjmfknabDoorWide5
namespace Go.Proofs.YtkkdlikkjmfknabDoor
open Go.RowKit Go.Sort
set_option linter.unusedVariables false

set_option maxRecDepth 100000 in
set_option maxHeartbeats 1000000 in
theorem truth2_any (b : Bool) (w : World) :
    Calls Tryd.prog 22 #[.bool b] w fun e w' => e = .returned (W (if b = true then 1 else 0)) ∧ Below w.heap.size w w' := by
  cases b
  all_goals
    go_enter Tryd.func22, Tryd.ntmps22
    go_wp2
  · refine bodyPost_ret (v := W 0) ?_ rfl ⟨rfl, (by repeat (first | with_reducible refine blg ?_ _ _ | with_reducible refine bla ?_ _ | with_reducible exact Below.refl _ _))⟩
    simp [W, results, Tryd.results22, go_sem]
    decide
  · refine bodyPost_ret (v := W 1) ?_ rfl ⟨rfl, (by repeat (first | with_reducible refine blg ?_ _ _ | with_reducible refine bla ?_ _ | with_reducible exact Below.refl _ _))⟩
    simp [W, results, Tryd.results22, go_sem]
    decide

theorem lsr_gt (x y : Int) (h : 0 < cmp x y) : lsr x y = y := by
  unfold cmp at h; unfold lsr
  by_cases c : sv y < sv x
  · rw [if_pos c]
  · exfalso; split at h
    · omega
    · split at h <;> omega
theorem lsr_le (x y : Int) (h : cmp x y ≤ 0) : lsr x y = x := by
  unfold cmp at h; unfold lsr
  by_cases c : sv y < sv x
  · exfalso; split at h
    · omega
    · split at h <;> omega
  · rw [if_neg c]

set_option maxRecDepth 100000 in
set_option maxHeartbeats 2000000 in
theorem refMul_1_far1 (a x : Int) (w : World) (a1 : -9223372036854775808 ≤ a) (a2 : a ≤ 9223372036854775807) (x1 : -9223372036854775808 ≤ x) (x2 : x ≤ 9223372036854775807) (h : 4611686018427387904 ≤ a) :
    Calls Tryd.prog 10 #[.int .i64 1, .int .i64 a, .int .i64 x] w fun e w' => e = .returned (W (4611686018427387904)) ∧ Below w.heap.size w w' := by
  go_enter Tryd.func10, Tryd.ntmps10
  go_wp2_with fail
  all_goals
    refine (refOf_any _ _ a1 a2).mono ?_
    rintro e w1 ⟨rfl, hb1⟩; obtain ⟨⟨d1, o1⟩, rfl⟩ := regrown_of_below hb1; clear hb1
    go_wp2_with fail
  all_goals
    refine (refOf_any _ _ x1 x2).mono ?_
    rintro e w1 ⟨rfl, hb1⟩; obtain ⟨⟨d1, o1⟩, rfl⟩ := regrown_of_below hb1; clear hb1
    go_wp2_with fail
  all_goals
    refine (refAdd_any _ _ _).mono ?_
    rintro e w1 ⟨rfl, hb1⟩; obtain ⟨⟨d1, o1⟩, rfl⟩ := regrown_of_below hb1; clear hb1
    go_wp2_with fail
  refine wp_region_quiet_below (by kernel_rfl) (by kernel_rfl) ?_
  repeat (go_big_quiet_step (first
    | (go_at_call 14; exact Calls.regrown_of (refOf_any 4611686018427387904 _ (by decide) (by decide)))
    | (go_at_call 21; exact Calls.regrown_of (refCompare_any _ _ _))))
  refine wpQuiet_nil ?_
  rintro _ ⟨⟨d2, o2⟩, rfl⟩
  go_wp2_with fail
  all_goals
    refine (refOf_any 4611686018427387904 _ (by decide) (by decide)).mono ?_
    rintro e w1 ⟨rfl, hb1⟩; obtain ⟨⟨d1, o1⟩, rfl⟩ := regrown_of_below hb1; clear hb1
    go_wp2_with fail
  all_goals refine bodyPost_ret (v := W (4611686018427387904)) ?_ rfl ⟨rfl, (by repeat (first | with_reducible refine blg ?_ _ _ | with_reducible refine bla ?_ _ | with_reducible exact Below.refl _ _))⟩
  all_goals simp [W, results, Tryd.results10, go_sem]

set_option maxRecDepth 100000 in
set_option maxHeartbeats 2000000 in
theorem refMul_1_far2 (a x : Int) (w : World) (a1 : -9223372036854775808 ≤ a) (a2 : a ≤ 9223372036854775807) (x1 : -9223372036854775808 ≤ x) (x2 : x ≤ 9223372036854775807) (h : a < 4611686018427387904) (g : 4611686018427387904 ≤ x) :
    Calls Tryd.prog 10 #[.int .i64 1, .int .i64 a, .int .i64 x] w fun e w' => e = .returned (W (4611686018427387904)) ∧ Below w.heap.size w w' := by
  go_enter Tryd.func10, Tryd.ntmps10
  go_wp2_with fail
  all_goals
    refine (refOf_any _ _ a1 a2).mono ?_
    rintro e w1 ⟨rfl, hb1⟩; obtain ⟨⟨d1, o1⟩, rfl⟩ := regrown_of_below hb1; clear hb1
    go_wp2_with fail
  all_goals
    refine (refOf_any _ _ x1 x2).mono ?_
    rintro e w1 ⟨rfl, hb1⟩; obtain ⟨⟨d1, o1⟩, rfl⟩ := regrown_of_below hb1; clear hb1
    go_wp2_with fail
  all_goals
    refine (refAdd_any _ _ _).mono ?_
    rintro e w1 ⟨rfl, hb1⟩; obtain ⟨⟨d1, o1⟩, rfl⟩ := regrown_of_below hb1; clear hb1
    go_wp2_with fail
  refine wp_region_quiet_below (by kernel_rfl) (by kernel_rfl) ?_
  repeat (go_big_quiet_step (first
    | (go_at_call 14; exact Calls.regrown_of (refOf_any 4611686018427387904 _ (by decide) (by decide)))
    | (go_at_call 21; exact Calls.regrown_of (refCompare_any _ _ _))))
  refine wpQuiet_nil ?_
  rintro _ ⟨⟨d2, o2⟩, rfl⟩
  go_wp2_with fail
  all_goals
    refine (refOf_any 4611686018427387904 _ (by decide) (by decide)).mono ?_
    rintro e w1 ⟨rfl, hb1⟩; obtain ⟨⟨d1, o1⟩, rfl⟩ := regrown_of_below hb1; clear hb1
    go_wp2_with fail
  all_goals refine bodyPost_ret (v := W (4611686018427387904)) ?_ rfl ⟨rfl, (by repeat (first | with_reducible refine blg ?_ _ _ | with_reducible refine bla ?_ _ | with_reducible exact Below.refl _ _))⟩
  all_goals simp [W, results, Tryd.results10, go_sem]

set_option maxRecDepth 100000 in
set_option maxHeartbeats 2000000 in
theorem refMul_1_nearb (a x : Int) (w : World) (a1 : -9223372036854775808 ≤ a) (a2 : a ≤ 9223372036854775807) (x1 : -9223372036854775808 ≤ x) (x2 : x ≤ 9223372036854775807) (h : a < 4611686018427387904) (g : x < 4611686018427387904) (g2 : decide (4611686018427387904 ≤ x) = false) (h2 : decide (4611686018427387904 ≤ a) = false) (k : 0 < cmp (a + x) 4611686018427387904) :
    Calls Tryd.prog 10 #[.int .i64 1, .int .i64 a, .int .i64 x] w fun e w' => e = .returned (W (4611686018427387904)) ∧ Below w.heap.size w w' := by
  go_enter Tryd.func10, Tryd.ntmps10
  go_wp2_with fail
  all_goals
    refine (refOf_any _ _ a1 a2).mono ?_
    rintro e w1 ⟨rfl, hb1⟩; obtain ⟨⟨d1, o1⟩, rfl⟩ := regrown_of_below hb1; clear hb1
    go_wp2_with fail
  all_goals
    refine (refOf_any _ _ x1 x2).mono ?_
    rintro e w1 ⟨rfl, hb1⟩; obtain ⟨⟨d1, o1⟩, rfl⟩ := regrown_of_below hb1; clear hb1
    go_wp2_with fail
  all_goals
    refine (refAdd_any _ _ _).mono ?_
    rintro e w1 ⟨rfl, hb1⟩; obtain ⟨⟨d1, o1⟩, rfl⟩ := regrown_of_below hb1; clear hb1
    go_wp2_with fail
  refine wp_region_quiet_below (by kernel_rfl) (by kernel_rfl) ?_
  repeat (go_big_quiet_step (first
    | (go_at_call 14; exact Calls.regrown_of (refOf_any 4611686018427387904 _ (by decide) (by decide)))
    | (go_at_call 21; exact Calls.regrown_of (refCompare_any _ _ _))))
  refine wpQuiet_nil ?_
  rintro _ ⟨⟨d2, o2⟩, rfl⟩
  go_wp2_with fail
  all_goals
    refine (refOf_any 4611686018427387904 _ (by decide) (by decide)).mono ?_
    rintro e w1 ⟨rfl, hb1⟩; obtain ⟨⟨d1, o1⟩, rfl⟩ := regrown_of_below hb1; clear hb1
    go_wp2_with fail
  all_goals refine bodyPost_ret (v := W (4611686018427387904)) ?_ rfl ⟨rfl, (by repeat (first | with_reducible refine blg ?_ _ _ | with_reducible refine bla ?_ _ | with_reducible exact Below.refl _ _))⟩
  all_goals simp [W, results, Tryd.results10, go_sem]

set_option maxRecDepth 100000 in
set_option maxHeartbeats 2000000 in
theorem refMul_1_neara (a x : Int) (w : World) (a1 : -9223372036854775808 ≤ a) (a2 : a ≤ 9223372036854775807) (x1 : -9223372036854775808 ≤ x) (x2 : x ≤ 9223372036854775807) (h : a < 4611686018427387904) (g : x < 4611686018427387904) (g2 : decide (4611686018427387904 ≤ x) = false) (h2 : decide (4611686018427387904 ≤ a) = false) (k : cmp (a + x) 4611686018427387904 ≤ 0) :
    Calls Tryd.prog 10 #[.int .i64 1, .int .i64 a, .int .i64 x] w fun e w' => e = .returned (W (a + x)) ∧ Below w.heap.size w w' := by
  go_enter Tryd.func10, Tryd.ntmps10
  go_wp2_with fail
  all_goals
    refine (refOf_any _ _ a1 a2).mono ?_
    rintro e w1 ⟨rfl, hb1⟩; obtain ⟨⟨d1, o1⟩, rfl⟩ := regrown_of_below hb1; clear hb1
    go_wp2_with fail
  all_goals
    refine (refOf_any _ _ x1 x2).mono ?_
    rintro e w1 ⟨rfl, hb1⟩; obtain ⟨⟨d1, o1⟩, rfl⟩ := regrown_of_below hb1; clear hb1
    go_wp2_with fail
  all_goals
    refine (refAdd_any _ _ _).mono ?_
    rintro e w1 ⟨rfl, hb1⟩; obtain ⟨⟨d1, o1⟩, rfl⟩ := regrown_of_below hb1; clear hb1
    go_wp2_with fail
  refine wp_region_quiet_below (by kernel_rfl) (by kernel_rfl) ?_
  repeat (go_big_quiet_step (first
    | (go_at_call 14; exact Calls.regrown_of (refOf_any 4611686018427387904 _ (by decide) (by decide)))
    | (go_at_call 21; exact Calls.regrown_of (refCompare_any _ _ _))))
  refine wpQuiet_nil ?_
  rintro _ ⟨⟨d2, o2⟩, rfl⟩
  go_wp2_with fail
  all_goals refine bodyPost_ret (v := W (a + x)) ?_ rfl ⟨rfl, (by repeat (first | with_reducible refine blg ?_ _ _ | with_reducible refine bla ?_ _ | with_reducible exact Below.refl _ _))⟩
  all_goals simp [W, results, Tryd.results10, go_sem]

set_option maxRecDepth 100000 in
set_option maxHeartbeats 2000000 in
theorem refMul_3_far1 (a x : Int) (w : World) (a1 : -9223372036854775808 ≤ a) (a2 : a ≤ 9223372036854775807) (x1 : -9223372036854775808 ≤ x) (x2 : x ≤ 9223372036854775807) (h : 4611686018427387904 ≤ a) :
    Calls Tryd.prog 10 #[.int .i64 3, .int .i64 a, .int .i64 x] w fun e w' => e = .returned (W (4611686018427387904)) ∧ Below w.heap.size w w' := by
  go_enter Tryd.func10, Tryd.ntmps10
  go_wp2_with fail
  all_goals
    refine (refOf_any 4611686018427387904 _ (by decide) (by decide)).mono ?_
    rintro e w1 ⟨rfl, hb1⟩; obtain ⟨⟨d1, o1⟩, rfl⟩ := regrown_of_below hb1; clear hb1
    go_wp2_with fail
  all_goals refine bodyPost_ret (v := W (4611686018427387904)) ?_ rfl ⟨rfl, (by repeat (first | with_reducible refine blg ?_ _ _ | with_reducible refine bla ?_ _ | with_reducible exact Below.refl _ _))⟩
  all_goals simp [W, results, Tryd.results10, go_sem]

set_option maxRecDepth 100000 in
set_option maxHeartbeats 2000000 in
theorem refMul_3_far2 (a x : Int) (w : World) (a1 : -9223372036854775808 ≤ a) (a2 : a ≤ 9223372036854775807) (x1 : -9223372036854775808 ≤ x) (x2 : x ≤ 9223372036854775807) (h : a < 4611686018427387904) (g : 4611686018427387904 ≤ x) :
    Calls Tryd.prog 10 #[.int .i64 3, .int .i64 a, .int .i64 x] w fun e w' => e = .returned (W (4611686018427387904)) ∧ Below w.heap.size w w' := by
  go_enter Tryd.func10, Tryd.ntmps10
  go_wp2_with fail
  all_goals
    refine (refOf_any 4611686018427387904 _ (by decide) (by decide)).mono ?_
    rintro e w1 ⟨rfl, hb1⟩; obtain ⟨⟨d1, o1⟩, rfl⟩ := regrown_of_below hb1; clear hb1
    go_wp2_with fail
  all_goals refine bodyPost_ret (v := W (4611686018427387904)) ?_ rfl ⟨rfl, (by repeat (first | with_reducible refine blg ?_ _ _ | with_reducible refine bla ?_ _ | with_reducible exact Below.refl _ _))⟩
  all_goals simp [W, results, Tryd.results10, go_sem]

set_option maxRecDepth 100000 in
set_option maxHeartbeats 2000000 in
theorem refMul_3_near (a x : Int) (w : World) (a1 : -9223372036854775808 ≤ a) (a2 : a ≤ 9223372036854775807) (x1 : -9223372036854775808 ≤ x) (x2 : x ≤ 9223372036854775807) (h : a < 4611686018427387904) (g : x < 4611686018427387904) :
    Calls Tryd.prog 10 #[.int .i64 3, .int .i64 a, .int .i64 x] w fun e w' => e = .returned (W (a)) ∧ Below w.heap.size w w' := by
  go_enter Tryd.func10, Tryd.ntmps10
  go_wp2_with fail
  all_goals
    refine (refOf_any _ _ a1 a2).mono ?_
    rintro e w1 ⟨rfl, hb1⟩; obtain ⟨⟨d1, o1⟩, rfl⟩ := regrown_of_below hb1; clear hb1
    go_wp2_with fail
  all_goals refine bodyPost_ret (v := W (a)) ?_ rfl ⟨rfl, (by repeat (first | with_reducible refine blg ?_ _ _ | with_reducible refine bla ?_ _ | with_reducible exact Below.refl _ _))⟩
  all_goals simp [W, results, Tryd.results10, go_sem]

set_option maxRecDepth 100000 in
set_option maxHeartbeats 2000000 in
theorem refMul_4_far1 (a x : Int) (w : World) (a1 : -9223372036854775808 ≤ a) (a2 : a ≤ 9223372036854775807) (x1 : -9223372036854775808 ≤ x) (x2 : x ≤ 9223372036854775807) (h : 4611686018427387904 ≤ a) :
    Calls Tryd.prog 10 #[.int .i64 4, .int .i64 a, .int .i64 x] w fun e w' => e = .returned (W (4611686018427387904)) ∧ Below w.heap.size w w' := by
  go_enter Tryd.func10, Tryd.ntmps10
  go_wp2_with fail
  all_goals
    refine (refOf_any 4611686018427387904 _ (by decide) (by decide)).mono ?_
    rintro e w1 ⟨rfl, hb1⟩; obtain ⟨⟨d1, o1⟩, rfl⟩ := regrown_of_below hb1; clear hb1
    go_wp2_with fail
  all_goals refine bodyPost_ret (v := W (4611686018427387904)) ?_ rfl ⟨rfl, (by repeat (first | with_reducible refine blg ?_ _ _ | with_reducible refine bla ?_ _ | with_reducible exact Below.refl _ _))⟩
  all_goals simp [W, results, Tryd.results10, go_sem]

set_option maxRecDepth 100000 in
set_option maxHeartbeats 2000000 in
theorem refMul_4_far2 (a x : Int) (w : World) (a1 : -9223372036854775808 ≤ a) (a2 : a ≤ 9223372036854775807) (x1 : -9223372036854775808 ≤ x) (x2 : x ≤ 9223372036854775807) (h : a < 4611686018427387904) (g : 4611686018427387904 ≤ x) :
    Calls Tryd.prog 10 #[.int .i64 4, .int .i64 a, .int .i64 x] w fun e w' => e = .returned (W (4611686018427387904)) ∧ Below w.heap.size w w' := by
  go_enter Tryd.func10, Tryd.ntmps10
  go_wp2_with fail
  all_goals
    refine (refOf_any 4611686018427387904 _ (by decide) (by decide)).mono ?_
    rintro e w1 ⟨rfl, hb1⟩; obtain ⟨⟨d1, o1⟩, rfl⟩ := regrown_of_below hb1; clear hb1
    go_wp2_with fail
  all_goals refine bodyPost_ret (v := W (4611686018427387904)) ?_ rfl ⟨rfl, (by repeat (first | with_reducible refine blg ?_ _ _ | with_reducible refine bla ?_ _ | with_reducible exact Below.refl _ _))⟩
  all_goals simp [W, results, Tryd.results10, go_sem]

set_option maxRecDepth 100000 in
set_option maxHeartbeats 2000000 in
theorem refMul_4_near (a x : Int) (w : World) (a1 : -9223372036854775808 ≤ a) (a2 : a ≤ 9223372036854775807) (x1 : -9223372036854775808 ≤ x) (x2 : x ≤ 9223372036854775807) (h : a < 4611686018427387904) (g : x < 4611686018427387904) :
    Calls Tryd.prog 10 #[.int .i64 4, .int .i64 a, .int .i64 x] w fun e w' => e = .returned (W (x)) ∧ Below w.heap.size w w' := by
  go_enter Tryd.func10, Tryd.ntmps10
  go_wp2_with fail
  all_goals
    refine (refOf_any _ _ x1 x2).mono ?_
    rintro e w1 ⟨rfl, hb1⟩; obtain ⟨⟨d1, o1⟩, rfl⟩ := regrown_of_below hb1; clear hb1
    go_wp2_with fail
  all_goals refine bodyPost_ret (v := W (x)) ?_ rfl ⟨rfl, (by repeat (first | with_reducible refine blg ?_ _ _ | with_reducible refine bla ?_ _ | with_reducible exact Below.refl _ _))⟩
  all_goals simp [W, results, Tryd.results10, go_sem]

set_option maxRecDepth 100000 in
set_option maxHeartbeats 2000000 in
theorem refMul_2_a (a x : Int) (w : World) (a1 : -9223372036854775808 ≤ a) (a2 : a ≤ 9223372036854775807) (x1 : -9223372036854775808 ≤ x) (x2 : x ≤ 9223372036854775807) (h : (a != 0) = false) :
    Calls Tryd.prog 10 #[.int .i64 2, .int .i64 a, .int .i64 x] w fun e w' => e = .returned (W (0)) ∧ Below w.heap.size w w' := by
  go_enter Tryd.func10, Tryd.ntmps10
  go_wp2_with fail
  all_goals
    refine (truth2_any false _).mono ?_
    rintro e w1 ⟨rfl, hb1⟩; obtain ⟨⟨d1, o1⟩, rfl⟩ := regrown_of_below hb1; clear hb1
    go_wp2_with fail
  all_goals refine bodyPost_ret (v := W (0)) ?_ rfl ⟨rfl, (by repeat (first | with_reducible refine blg ?_ _ _ | with_reducible refine bla ?_ _ | with_reducible exact Below.refl _ _))⟩
  all_goals simp [W, results, Tryd.results10, go_sem]

set_option maxRecDepth 100000 in
set_option maxHeartbeats 2000000 in
theorem refMul_2_x (a x : Int) (w : World) (a1 : -9223372036854775808 ≤ a) (a2 : a ≤ 9223372036854775807) (x1 : -9223372036854775808 ≤ x) (x2 : x ≤ 9223372036854775807) (h : (a != 0) = true) (g : (x != 0) = false) :
    Calls Tryd.prog 10 #[.int .i64 2, .int .i64 a, .int .i64 x] w fun e w' => e = .returned (W (0)) ∧ Below w.heap.size w w' := by
  go_enter Tryd.func10, Tryd.ntmps10
  go_wp2_with fail
  all_goals
    refine (truth2_any false _).mono ?_
    rintro e w1 ⟨rfl, hb1⟩; obtain ⟨⟨d1, o1⟩, rfl⟩ := regrown_of_below hb1; clear hb1
    go_wp2_with fail
  all_goals refine bodyPost_ret (v := W (0)) ?_ rfl ⟨rfl, (by repeat (first | with_reducible refine blg ?_ _ _ | with_reducible refine bla ?_ _ | with_reducible exact Below.refl _ _))⟩
  all_goals simp [W, results, Tryd.results10, go_sem]

set_option maxRecDepth 100000 in
set_option maxHeartbeats 2000000 in
theorem refMul_2_n (a x : Int) (w : World) (a1 : -9223372036854775808 ≤ a) (a2 : a ≤ 9223372036854775807) (x1 : -9223372036854775808 ≤ x) (x2 : x ≤ 9223372036854775807) (h : (a != 0) = true) (g : (x != 0) = true) :
    Calls Tryd.prog 10 #[.int .i64 2, .int .i64 a, .int .i64 x] w fun e w' => e = .returned (W (1)) ∧ Below w.heap.size w w' := by
  go_enter Tryd.func10, Tryd.ntmps10
  go_wp2_with fail
  all_goals
    refine (truth2_any true _).mono ?_
    rintro e w1 ⟨rfl, hb1⟩; obtain ⟨⟨d1, o1⟩, rfl⟩ := regrown_of_below hb1; clear hb1
    go_wp2_with fail
  all_goals refine bodyPost_ret (v := W (1)) ?_ rfl ⟨rfl, (by repeat (first | with_reducible refine blg ?_ _ _ | with_reducible refine bla ?_ _ | with_reducible exact Below.refl _ _))⟩
  all_goals simp [W, results, Tryd.results10, go_sem]

set_option maxRecDepth 100000 in
set_option maxHeartbeats 2000000 in
theorem refMul_5_ (a x : Int) (w : World) (a1 : -9223372036854775808 ≤ a) (a2 : a ≤ 9223372036854775807) (x1 : -9223372036854775808 ≤ x) (x2 : x ≤ 9223372036854775807) :
    Calls Tryd.prog 10 #[.int .i64 5, .int .i64 a, .int .i64 x] w fun e w' => e = .returned (W (a * x)) ∧ Below w.heap.size w w' := by
  go_enter Tryd.func10, Tryd.ntmps10
  go_wp2_with fail
  all_goals
    refine (refMul_any _ _ _ a1 a2 x1 x2).mono ?_
    rintro e w1 ⟨rfl, hb1⟩; obtain ⟨⟨d1, o1⟩, rfl⟩ := regrown_of_below hb1; clear hb1
    go_wp2_with fail
  all_goals refine bodyPost_ret (v := W (a * x)) ?_ rfl ⟨rfl, (by repeat (first | with_reducible refine blg ?_ _ _ | with_reducible refine bla ?_ _ | with_reducible exact Below.refl _ _))⟩
  all_goals simp [W, results, Tryd.results10, go_sem]

set_option maxRecDepth 100000 in
set_option maxHeartbeats 2000000 in
theorem refMul_0_ (r a x : Int) (w : World) (a1 : -9223372036854775808 ≤ a) (a2 : a ≤ 9223372036854775807) (x1 : -9223372036854775808 ≤ x) (x2 : x ≤ 9223372036854775807) (h1 : (r == 1) = false) (h2 : (r == 2) = false) (h3 : (r == 3) = false) (h4 : (r == 4) = false) (h5 : (r == 5) = false) :
    Calls Tryd.prog 10 #[.int .i64 r, .int .i64 a, .int .i64 x] w fun e w' => e = .returned (W (0)) ∧ Below w.heap.size w w' := by
  go_enter Tryd.func10, Tryd.ntmps10
  go_wp2_with fail
  all_goals refine bodyPost_ret (v := W (0)) ?_ rfl ⟨rfl, (by repeat (first | with_reducible refine blg ?_ _ _ | with_reducible refine bla ?_ _ | with_reducible exact Below.refl _ _))⟩
  all_goals simp [W, results, Tryd.results10, go_sem]
  all_goals exact w_zero

theorem ref2Mul_any (r a x : Int) (w : World) (a1 : -9223372036854775808 ≤ a) (a2 : a ≤ 9223372036854775807) (x1 : -9223372036854775808 ≤ x) (x2 : x ≤ 9223372036854775807) :
    Calls Tryd.prog 10 #[.int .i64 r, .int .i64 a, .int .i64 x] w fun e w' => e = .returned (W (mulR r a x)) ∧ Below w.heap.size w w' := by
  have hr : r = 1 ∨ r = 2 ∨ r = 3 ∨ r = 4 ∨ r = 5 ∨ (¬ r = 1 ∧ ¬ r = 2 ∧ ¬ r = 3 ∧ ¬ r = 4 ∧ ¬ r = 5) := by omega
  rcases hr with rfl | rfl | rfl | rfl | rfl | ⟨n1, n2, n3, n4, n5⟩
  · by_cases h : 4611686018427387904 ≤ a
    · rw [show mulR 1 a x = 4611686018427387904 by simp [mulR, far, h]]; exact refMul_1_far1 a x w a1 a2 x1 x2 h
    · by_cases g : 4611686018427387904 ≤ x
      · rw [show mulR 1 a x = 4611686018427387904 by simp [mulR, far, g]]; exact refMul_1_far2 a x w a1 a2 x1 x2 (by omega) g
      · by_cases k : 0 < cmp (a + x) 4611686018427387904
        · rw [show mulR 1 a x = 4611686018427387904 by simp [mulR, far, h, g, lsr_gt _ _ k]]; exact refMul_1_nearb a x w a1 a2 x1 x2 (by omega) (by omega) (by simp; omega) (by simp; omega) k
        · rw [show mulR 1 a x = a + x by simp [mulR, far, h, g, lsr_le _ _ (Int.not_lt.1 k)]]; exact refMul_1_neara a x w a1 a2 x1 x2 (by omega) (by omega) (by simp; omega) (by simp; omega) (by omega)
  · by_cases h : a = 0
    · rw [show mulR 2 a x = 0 by simp [mulR, h]]; exact refMul_2_a a x w a1 a2 x1 x2 (by simp [h])
    · by_cases g : x = 0
      · rw [show mulR 2 a x = 0 by simp [mulR, g]]; exact refMul_2_x a x w a1 a2 x1 x2 (by simp [h]) (by simp [g])
      · rw [show mulR 2 a x = 1 by simp [mulR, h, g]]; exact refMul_2_n a x w a1 a2 x1 x2 (by simp [h]) (by simp [g])
  · by_cases h : 4611686018427387904 ≤ a
    · rw [show mulR 3 a x = 4611686018427387904 by simp [mulR, far, h]]; exact refMul_3_far1 a x w a1 a2 x1 x2 h
    · by_cases g : 4611686018427387904 ≤ x
      · rw [show mulR 3 a x = 4611686018427387904 by simp [mulR, far, g]]; exact refMul_3_far2 a x w a1 a2 x1 x2 (by omega) g
      · rw [show mulR 3 a x = a by simp [mulR, far, h, g]]; exact refMul_3_near a x w a1 a2 x1 x2 (by omega) (by omega)
  · by_cases h : 4611686018427387904 ≤ a
    · rw [show mulR 4 a x = 4611686018427387904 by simp [mulR, far, h]]; exact refMul_4_far1 a x w a1 a2 x1 x2 h
    · by_cases g : 4611686018427387904 ≤ x
      · rw [show mulR 4 a x = 4611686018427387904 by simp [mulR, far, g]]; exact refMul_4_far2 a x w a1 a2 x1 x2 (by omega) g
      · rw [show mulR 4 a x = x by simp [mulR, far, h, g]]; exact refMul_4_near a x w a1 a2 x1 x2 (by omega) (by omega)
  · rw [show mulR 5 a x = a * x by simp [mulR]]; exact refMul_5_ a x w a1 a2 x1 x2
  · rw [show mulR r a x = 0 by simp [mulR, n1, n2, n3, n4, n5]]; exact refMul_0_ r a x w a1 a2 x1 x2 (by simp [n1]) (by simp [n2]) (by simp [n3]) (by simp [n4]) (by simp [n5])

set_option maxRecDepth 100000 in
set_option maxHeartbeats 2000000 in
theorem ref2Add_1b (x y : Int) (w : World) (h : cmp y x < 0) :
    Calls Tryd.prog 8 #[.int .i64 1, W x, W y] w fun e w' => e = .returned (W (y)) ∧ Below w.heap.size w w' := by
  go_enter Tryd.func8, Tryd.ntmps8
  go_wp2_with fail
  all_goals
    refine (refCompare_any _ _ _).mono ?_
    rintro e w1 ⟨rfl, hb1⟩; obtain ⟨⟨d1, o1⟩, rfl⟩ := regrown_of_below hb1; clear hb1
    go_wp2_with fail
  all_goals refine bodyPost_ret (v := W (y)) ?_ rfl ⟨rfl, (by repeat (first | with_reducible refine blg ?_ _ _ | with_reducible refine bla ?_ _ | with_reducible exact Below.refl _ _))⟩
  all_goals simp [W, results, Tryd.results8, go_sem]

set_option maxRecDepth 100000 in
set_option maxHeartbeats 2000000 in
theorem ref2Add_1a (x y : Int) (w : World) (h : 0 ≤ cmp y x) :
    Calls Tryd.prog 8 #[.int .i64 1, W x, W y] w fun e w' => e = .returned (W (x)) ∧ Below w.heap.size w w' := by
  go_enter Tryd.func8, Tryd.ntmps8
  go_wp2_with fail
  all_goals
    refine (refCompare_any _ _ _).mono ?_
    rintro e w1 ⟨rfl, hb1⟩; obtain ⟨⟨d1, o1⟩, rfl⟩ := regrown_of_below hb1; clear hb1
    go_wp2_with fail
  all_goals refine bodyPost_ret (v := W (x)) ?_ rfl ⟨rfl, (by repeat (first | with_reducible refine blg ?_ _ _ | with_reducible refine bla ?_ _ | with_reducible exact Below.refl _ _))⟩
  all_goals simp [W, results, Tryd.results8, go_sem]

set_option maxRecDepth 100000 in
set_option maxHeartbeats 2000000 in
theorem ref2Add_3b (x y : Int) (w : World) (h : cmp y x < 0) :
    Calls Tryd.prog 8 #[.int .i64 3, W x, W y] w fun e w' => e = .returned (W (y)) ∧ Below w.heap.size w w' := by
  go_enter Tryd.func8, Tryd.ntmps8
  go_wp2_with fail
  all_goals
    refine (refCompare_any _ _ _).mono ?_
    rintro e w1 ⟨rfl, hb1⟩; obtain ⟨⟨d1, o1⟩, rfl⟩ := regrown_of_below hb1; clear hb1
    go_wp2_with fail
  all_goals refine bodyPost_ret (v := W (y)) ?_ rfl ⟨rfl, (by repeat (first | with_reducible refine blg ?_ _ _ | with_reducible refine bla ?_ _ | with_reducible exact Below.refl _ _))⟩
  all_goals simp [W, results, Tryd.results8, go_sem]

set_option maxRecDepth 100000 in
set_option maxHeartbeats 2000000 in
theorem ref2Add_3a (x y : Int) (w : World) (h : 0 ≤ cmp y x) :
    Calls Tryd.prog 8 #[.int .i64 3, W x, W y] w fun e w' => e = .returned (W (x)) ∧ Below w.heap.size w w' := by
  go_enter Tryd.func8, Tryd.ntmps8
  go_wp2_with fail
  all_goals
    refine (refCompare_any _ _ _).mono ?_
    rintro e w1 ⟨rfl, hb1⟩; obtain ⟨⟨d1, o1⟩, rfl⟩ := regrown_of_below hb1; clear hb1
    go_wp2_with fail
  all_goals refine bodyPost_ret (v := W (x)) ?_ rfl ⟨rfl, (by repeat (first | with_reducible refine blg ?_ _ _ | with_reducible refine bla ?_ _ | with_reducible exact Below.refl _ _))⟩
  all_goals simp [W, results, Tryd.results8, go_sem]

set_option maxRecDepth 100000 in
set_option maxHeartbeats 2000000 in
theorem ref2Add_4b (x y : Int) (w : World) (h : cmp y x < 0) :
    Calls Tryd.prog 8 #[.int .i64 4, W x, W y] w fun e w' => e = .returned (W (y)) ∧ Below w.heap.size w w' := by
  go_enter Tryd.func8, Tryd.ntmps8
  go_wp2_with fail
  all_goals
    refine (refCompare_any _ _ _).mono ?_
    rintro e w1 ⟨rfl, hb1⟩; obtain ⟨⟨d1, o1⟩, rfl⟩ := regrown_of_below hb1; clear hb1
    go_wp2_with fail
  all_goals refine bodyPost_ret (v := W (y)) ?_ rfl ⟨rfl, (by repeat (first | with_reducible refine blg ?_ _ _ | with_reducible refine bla ?_ _ | with_reducible exact Below.refl _ _))⟩
  all_goals simp [W, results, Tryd.results8, go_sem]

set_option maxRecDepth 100000 in
set_option maxHeartbeats 2000000 in
theorem ref2Add_4a (x y : Int) (w : World) (h : 0 ≤ cmp y x) :
    Calls Tryd.prog 8 #[.int .i64 4, W x, W y] w fun e w' => e = .returned (W (x)) ∧ Below w.heap.size w w' := by
  go_enter Tryd.func8, Tryd.ntmps8
  go_wp2_with fail
  all_goals
    refine (refCompare_any _ _ _).mono ?_
    rintro e w1 ⟨rfl, hb1⟩; obtain ⟨⟨d1, o1⟩, rfl⟩ := regrown_of_below hb1; clear hb1
    go_wp2_with fail
  all_goals refine bodyPost_ret (v := W (x)) ?_ rfl ⟨rfl, (by repeat (first | with_reducible refine blg ?_ _ _ | with_reducible refine bla ?_ _ | with_reducible exact Below.refl _ _))⟩
  all_goals simp [W, results, Tryd.results8, go_sem]

set_option maxRecDepth 100000 in
set_option maxHeartbeats 2000000 in
theorem ref2Add_2a (x y : Int) (w : World) (h : (hi x == 0 && lo x == 0) = false) :
    Calls Tryd.prog 8 #[.int .i64 2, W x, W y] w fun e w' => e = .returned (W (1)) ∧ Below w.heap.size w w' := by
  go_enter Tryd.func8, Tryd.ntmps8
  go_wp2_with fail
  all_goals
    refine (truth2_any true _).mono ?_
    rintro e w1 ⟨rfl, hb1⟩; obtain ⟨⟨d1, o1⟩, rfl⟩ := regrown_of_below hb1; clear hb1
    go_wp2_with fail
  all_goals refine bodyPost_ret (v := W (1)) ?_ rfl ⟨rfl, (by repeat (first | with_reducible refine blg ?_ _ _ | with_reducible refine bla ?_ _ | with_reducible exact Below.refl _ _))⟩
  all_goals simp [W, results, Tryd.results8, go_sem]

set_option maxRecDepth 100000 in
set_option maxHeartbeats 2000000 in
theorem ref2Add_2b (x y : Int) (w : World) (h : (hi x == 0 && lo x == 0) = true) (g : (hi y == 0 && lo y == 0) = false) :
    Calls Tryd.prog 8 #[.int .i64 2, W x, W y] w fun e w' => e = .returned (W (1)) ∧ Below w.heap.size w w' := by
  go_enter Tryd.func8, Tryd.ntmps8
  go_wp2_with fail
  all_goals
    refine (truth2_any true _).mono ?_
    rintro e w1 ⟨rfl, hb1⟩; obtain ⟨⟨d1, o1⟩, rfl⟩ := regrown_of_below hb1; clear hb1
    go_wp2_with fail
  all_goals refine bodyPost_ret (v := W (1)) ?_ rfl ⟨rfl, (by repeat (first | with_reducible refine blg ?_ _ _ | with_reducible refine bla ?_ _ | with_reducible exact Below.refl _ _))⟩
  all_goals simp [W, results, Tryd.results8, go_sem]

set_option maxRecDepth 100000 in
set_option maxHeartbeats 2000000 in
theorem ref2Add_2c (x y : Int) (w : World) (h : (hi x == 0 && lo x == 0) = true) (g : (hi y == 0 && lo y == 0) = true) :
    Calls Tryd.prog 8 #[.int .i64 2, W x, W y] w fun e w' => e = .returned (W (0)) ∧ Below w.heap.size w w' := by
  go_enter Tryd.func8, Tryd.ntmps8
  go_wp2_with fail
  all_goals
    refine (truth2_any false _).mono ?_
    rintro e w1 ⟨rfl, hb1⟩; obtain ⟨⟨d1, o1⟩, rfl⟩ := regrown_of_below hb1; clear hb1
    go_wp2_with fail
  all_goals refine bodyPost_ret (v := W (0)) ?_ rfl ⟨rfl, (by repeat (first | with_reducible refine blg ?_ _ _ | with_reducible refine bla ?_ _ | with_reducible exact Below.refl _ _))⟩
  all_goals simp [W, results, Tryd.results8, go_sem]

set_option maxRecDepth 100000 in
set_option maxHeartbeats 2000000 in
theorem ref2Add_5 (x y : Int) (w : World) :
    Calls Tryd.prog 8 #[.int .i64 5, W x, W y] w fun e w' => e = .returned (W (x + y)) ∧ Below w.heap.size w w' := by
  go_enter Tryd.func8, Tryd.ntmps8
  go_wp2_with fail
  all_goals
    refine (refAdd_any _ _ _).mono ?_
    rintro e w1 ⟨rfl, hb1⟩; obtain ⟨⟨d1, o1⟩, rfl⟩ := regrown_of_below hb1; clear hb1
    go_wp2_with fail
  all_goals refine bodyPost_ret (v := W (x + y)) ?_ rfl ⟨rfl, (by repeat (first | with_reducible refine blg ?_ _ _ | with_reducible refine bla ?_ _ | with_reducible exact Below.refl _ _))⟩
  all_goals simp [W, results, Tryd.results8, go_sem]

set_option maxRecDepth 100000 in
set_option maxHeartbeats 2000000 in
theorem ref2Add_0 (r x y : Int) (w : World) (h1 : (r == 1) = false) (h2 : (r == 2) = false) (h3 : (r == 3) = false) (h4 : (r == 4) = false) (h5 : (r == 5) = false) :
    Calls Tryd.prog 8 #[.int .i64 r, W x, W y] w fun e w' => e = .returned (W (0)) ∧ Below w.heap.size w w' := by
  go_enter Tryd.func8, Tryd.ntmps8
  go_wp2_with fail
  all_goals refine bodyPost_ret (v := W (0)) ?_ rfl ⟨rfl, (by repeat (first | with_reducible refine blg ?_ _ _ | with_reducible refine bla ?_ _ | with_reducible exact Below.refl _ _))⟩
  all_goals simp [W, results, Tryd.results8, go_sem]
  all_goals exact w_zero

theorem ref2Add_any (r x y : Int) (w : World) :
    Calls Tryd.prog 8 #[.int .i64 r, W x, W y] w fun e w' => e = .returned (W (addR r x y)) ∧ Below w.heap.size w w' := by
  have hr : r = 1 ∨ r = 2 ∨ r = 3 ∨ r = 4 ∨ r = 5 ∨ (¬ r = 1 ∧ ¬ r = 2 ∧ ¬ r = 3 ∧ ¬ r = 4 ∧ ¬ r = 5) := by omega
  rcases hr with rfl | rfl | rfl | rfl | rfl | ⟨n1, n2, n3, n4, n5⟩
  · by_cases h : cmp y x < 0
    · rw [show addR 1 x y = y by simp [addR, lsr_b x y h]]; exact ref2Add_1b x y w h
    · rw [show addR 1 x y = x by simp [addR, lsr_a x y (Int.not_lt.1 h)]]; exact ref2Add_1a x y w (Int.not_lt.1 h)
  · cases h : (hi x == 0 && lo x == 0) with
    | false => rw [show addR 2 x y = 1 by simp [addR, nz, h]]; exact ref2Add_2a x y w h
    | true =>
      cases g : (hi y == 0 && lo y == 0) with
      | false => rw [show addR 2 x y = 1 by simp [addR, nz, g]]; exact ref2Add_2b x y w h g
      | true => rw [show addR 2 x y = 0 by simp [addR, nz, h, g]]; exact ref2Add_2c x y w h g
  · by_cases h : cmp y x < 0
    · rw [show addR 3 x y = y by simp [addR, lsr_b x y h]]; exact ref2Add_3b x y w h
    · rw [show addR 3 x y = x by simp [addR, lsr_a x y (Int.not_lt.1 h)]]; exact ref2Add_3a x y w (Int.not_lt.1 h)
  · by_cases h : cmp y x < 0
    · rw [show addR 4 x y = y by simp [addR, lsr_b x y h]]; exact ref2Add_4b x y w h
    · rw [show addR 4 x y = x by simp [addR, lsr_a x y (Int.not_lt.1 h)]]; exact ref2Add_4a x y w (Int.not_lt.1 h)
  · rw [show addR 5 x y = x + y by simp [addR]]; exact ref2Add_5 x y w
  · rw [show addR r x y = 0 by simp [addR, n1, n2, n3, n4, n5]]; exact ref2Add_0 r x y w (by simp [n1]) (by simp [n2]) (by simp [n3]) (by simp [n4]) (by simp [n5])

attribute [local irreducible] hi lo sv nv nb cmp mulR addR zeroR oneR isR lsr

set_option maxRecDepth 100000 in
set_option maxHeartbeats 2000000 in
theorem ringDoes_any (r x y a b : Int) (w : World) (hN : Names w) (a1 : -9223372036854775808 ≤ a) (a2 : a ≤ 9223372036854775807) (x1 : -9223372036854775808 ≤ b) (x2 : b ≤ 9223372036854775807) :
    Calls Tryd.prog 3 #[.int .i64 r, .agg #[.int .i64 (hi x), .int .u64 (lo x), .int .i64 (hi y), .int .u64 (lo y)], .agg #[.int .i64 a, .int .i64 b]] w fun e w' => e = .returned (.bool true) ∧ Below w.heap.size w w' := by
  go_enter Tryd.func3, Tryd.ntmps3
  go_wp2_with fail
  all_goals
    refine (ringNarrow_any r x _).mono ?_
    rintro e w1 ⟨rfl, hb1⟩; obtain ⟨⟨d1, o1⟩, rfl⟩ := regrown_of_below hb1; clear hb1
    go_wp2_with fail
  all_goals
    refine (refNarrow_any x _).mono ?_
    rintro e w1 ⟨rfl, hb1⟩; obtain ⟨⟨d1, o1⟩, rfl⟩ := regrown_of_below hb1; clear hb1
    go_wp2_with fail
  refine wp_region_grown' (by kernel_rfl) (by kernel_rfl) ?_
  repeat (go_big_quiet_step (first
    | (go_at_call 6; exact Calls.regrown_of (live2_any _ (hN.grown (by repeat (first | with_reducible refine blg ?_ _ _ | with_reducible refine bla ?_ _ | with_reducible exact Below.refl _ _)))))
    | (go_at_call 7; exact Calls.regrown_of (ringAdd_any r x y _))
    | (go_at_call 8; exact Calls.regrown_of (ref2Add_any r x y _))
    | (go_at_call 9; exact Calls.regrown_of (ringMul_any r a b _ a1 a2 x1 x2))
    | (go_at_call 10; exact Calls.regrown_of (ref2Mul_any r a b _ a1 a2 x1 x2))))
  refine wpQuiet_nil ?_
  rintro _ ⟨⟨d2, o2⟩, rfl⟩
  go_wp2
  go_ret
  exact ⟨rfl, (by repeat (first | with_reducible refine blg ?_ _ _ | with_reducible refine bla ?_ _ | with_reducible exact Below.refl _ _))⟩
end Go.Proofs.YtkkdlikkjmfknabDoor
