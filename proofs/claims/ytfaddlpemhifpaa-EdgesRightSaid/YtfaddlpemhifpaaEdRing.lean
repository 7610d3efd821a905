/- The contracts of package ring, and of its reference, that package edges uses. -/
import Derived.Test.YtfaddlpemhifpaaWide
import Derived.Test.YtfaddlpemhifpaaRingMath
import Derived.Test.YtfaddlpemhifpaaTail
namespace Go.Proofs.Ytfaddlpemhifpaa
open Go.RowKit Go.Sort
set_option linter.unusedVariables false
set_option linter.unusedSimpArgs false

set_option maxRecDepth 100000 in
set_option maxHeartbeats 1000000 in
theorem lesser_any (x y : Int) (w : World) :
    Calls Try.prog 65 #[W x, W y] w fun e w' => e = .returned (W (lsr x y)) ∧ Below w.heap.size w w' := by
  go_enter Try.func65, Try.ntmps65
  go_wp2_with (go_at_call 76; refine (compare_any _ _ _).mono ?_; rintro e w1 ⟨rfl, hb1⟩; obtain ⟨⟨d1, o1⟩, rfl⟩ := regrown_of_below hb1; clear hb1)
  all_goals refine bodyPost_ret (v := W (lsr x y)) ?_ rfl ⟨rfl, (by repeat (first | with_reducible refine blg ?_ _ _ | with_reducible refine bla ?_ _ | with_reducible exact Below.refl _ _))⟩
  all_goals simp [W, results, Try.results65, go_sem]
  · rw [lsr_b x y (by assumption)]; exact ⟨rfl, rfl⟩
  · rw [lsr_a x y (by assumption)]; exact ⟨rfl, rfl⟩

set_option maxRecDepth 100000 in
set_option maxHeartbeats 1000000 in
theorem truth_any (b : Bool) (w : World) :
    Calls Try.prog 66 #[.bool b] w fun e w' => e = .returned (W (if b = true then 1 else 0)) ∧ Below w.heap.size w w' := by
  cases b
  all_goals
    go_enter Try.func66, Try.ntmps66
    go_wp2_with (go_at_call 43; refine (of_any _ _ (by decide) (by decide)).mono ?_; rintro e w1 ⟨rfl, hb1⟩; obtain ⟨⟨d1, o1⟩, rfl⟩ := regrown_of_below hb1; clear hb1)
  · refine bodyPost_ret (v := W 0) ?_ rfl ⟨rfl, (by repeat (first | with_reducible refine blg ?_ _ _ | with_reducible refine bla ?_ _ | with_reducible exact Below.refl _ _))⟩
    simp [W, results, Try.results66, go_sem]
    decide
  · refine bodyPost_ret (v := W 1) ?_ rfl ⟨rfl, (by repeat (first | with_reducible refine blg ?_ _ _ | with_reducible refine bla ?_ _ | with_reducible exact Below.refl _ _))⟩
    simp [W, results, Try.results66, go_sem]

theorem w_zero : (0 : Int) = hi 0 ∧ (0 : Int) = lo 0 := by decide

set_option maxRecDepth 100000 in
set_option maxHeartbeats 2000000 in
theorem ringAdd_1 (r x y : Int) (w : World)  :
    Calls Try.prog 42 #[.int .i64 1, W x, W y] w fun e w' => e = .returned (W (lsr x y)) ∧ Below w.heap.size w w' := by
  go_enter Try.func42, Try.ntmps42
  go_wp2_with (first
      | (go_at_call 67; refine (add_any _ _ _).mono ?_; rintro e w1 ⟨rfl, hb1⟩; obtain ⟨⟨d1, o1⟩, rfl⟩ := regrown_of_below hb1; clear hb1)
      | (go_at_call 65; refine (lesser_any _ _ _).mono ?_; rintro e w1 ⟨rfl, hb1⟩; obtain ⟨⟨d1, o1⟩, rfl⟩ := regrown_of_below hb1; clear hb1)
      | (go_at_call 66; refine (truth_any _ _).mono ?_; rintro e w1 ⟨rfl, hb1⟩; obtain ⟨⟨d1, o1⟩, rfl⟩ := regrown_of_below hb1; clear hb1))
  all_goals refine bodyPost_ret (v := W (lsr x y)) ?_ rfl ⟨rfl, (by repeat (first | with_reducible refine blg ?_ _ _ | with_reducible refine bla ?_ _ | with_reducible exact Below.refl _ _))⟩
  all_goals simp [W, results, Try.results42, go_sem]


set_option maxRecDepth 100000 in
set_option maxHeartbeats 2000000 in
theorem ringAdd_3 (r x y : Int) (w : World)  :
    Calls Try.prog 42 #[.int .i64 3, W x, W y] w fun e w' => e = .returned (W (lsr x y)) ∧ Below w.heap.size w w' := by
  go_enter Try.func42, Try.ntmps42
  go_wp2_with (first
      | (go_at_call 67; refine (add_any _ _ _).mono ?_; rintro e w1 ⟨rfl, hb1⟩; obtain ⟨⟨d1, o1⟩, rfl⟩ := regrown_of_below hb1; clear hb1)
      | (go_at_call 65; refine (lesser_any _ _ _).mono ?_; rintro e w1 ⟨rfl, hb1⟩; obtain ⟨⟨d1, o1⟩, rfl⟩ := regrown_of_below hb1; clear hb1)
      | (go_at_call 66; refine (truth_any _ _).mono ?_; rintro e w1 ⟨rfl, hb1⟩; obtain ⟨⟨d1, o1⟩, rfl⟩ := regrown_of_below hb1; clear hb1))
  all_goals refine bodyPost_ret (v := W (lsr x y)) ?_ rfl ⟨rfl, (by repeat (first | with_reducible refine blg ?_ _ _ | with_reducible refine bla ?_ _ | with_reducible exact Below.refl _ _))⟩
  all_goals simp [W, results, Try.results42, go_sem]


set_option maxRecDepth 100000 in
set_option maxHeartbeats 2000000 in
theorem ringAdd_4 (r x y : Int) (w : World)  :
    Calls Try.prog 42 #[.int .i64 4, W x, W y] w fun e w' => e = .returned (W (lsr x y)) ∧ Below w.heap.size w w' := by
  go_enter Try.func42, Try.ntmps42
  go_wp2_with (first
      | (go_at_call 67; refine (add_any _ _ _).mono ?_; rintro e w1 ⟨rfl, hb1⟩; obtain ⟨⟨d1, o1⟩, rfl⟩ := regrown_of_below hb1; clear hb1)
      | (go_at_call 65; refine (lesser_any _ _ _).mono ?_; rintro e w1 ⟨rfl, hb1⟩; obtain ⟨⟨d1, o1⟩, rfl⟩ := regrown_of_below hb1; clear hb1)
      | (go_at_call 66; refine (truth_any _ _).mono ?_; rintro e w1 ⟨rfl, hb1⟩; obtain ⟨⟨d1, o1⟩, rfl⟩ := regrown_of_below hb1; clear hb1))
  all_goals refine bodyPost_ret (v := W (lsr x y)) ?_ rfl ⟨rfl, (by repeat (first | with_reducible refine blg ?_ _ _ | with_reducible refine bla ?_ _ | with_reducible exact Below.refl _ _))⟩
  all_goals simp [W, results, Try.results42, go_sem]


set_option maxRecDepth 100000 in
set_option maxHeartbeats 2000000 in
theorem ringAdd_5 (r x y : Int) (w : World)  :
    Calls Try.prog 42 #[.int .i64 5, W x, W y] w fun e w' => e = .returned (W (x + y)) ∧ Below w.heap.size w w' := by
  go_enter Try.func42, Try.ntmps42
  go_wp2_with (first
      | (go_at_call 67; refine (add_any _ _ _).mono ?_; rintro e w1 ⟨rfl, hb1⟩; obtain ⟨⟨d1, o1⟩, rfl⟩ := regrown_of_below hb1; clear hb1)
      | (go_at_call 65; refine (lesser_any _ _ _).mono ?_; rintro e w1 ⟨rfl, hb1⟩; obtain ⟨⟨d1, o1⟩, rfl⟩ := regrown_of_below hb1; clear hb1)
      | (go_at_call 66; refine (truth_any _ _).mono ?_; rintro e w1 ⟨rfl, hb1⟩; obtain ⟨⟨d1, o1⟩, rfl⟩ := regrown_of_below hb1; clear hb1))
  all_goals refine bodyPost_ret (v := W (x + y)) ?_ rfl ⟨rfl, (by repeat (first | with_reducible refine blg ?_ _ _ | with_reducible refine bla ?_ _ | with_reducible exact Below.refl _ _))⟩
  all_goals simp [W, results, Try.results42, go_sem]


set_option maxRecDepth 100000 in
set_option maxHeartbeats 2000000 in
theorem ringAdd_2a (r x y : Int) (w : World) (h : (hi x == 0 && lo x == 0) = false) :
    Calls Try.prog 42 #[.int .i64 2, W x, W y] w fun e w' => e = .returned (W (1)) ∧ Below w.heap.size w w' := by
  go_enter Try.func42, Try.ntmps42
  go_wp2_with (first
      | (go_at_call 67; refine (add_any _ _ _).mono ?_; rintro e w1 ⟨rfl, hb1⟩; obtain ⟨⟨d1, o1⟩, rfl⟩ := regrown_of_below hb1; clear hb1)
      | (go_at_call 65; refine (lesser_any _ _ _).mono ?_; rintro e w1 ⟨rfl, hb1⟩; obtain ⟨⟨d1, o1⟩, rfl⟩ := regrown_of_below hb1; clear hb1)
      | (go_at_call 66; refine (truth_any _ _).mono ?_; rintro e w1 ⟨rfl, hb1⟩; obtain ⟨⟨d1, o1⟩, rfl⟩ := regrown_of_below hb1; clear hb1))
  all_goals refine bodyPost_ret (v := W (1)) ?_ rfl ⟨rfl, (by repeat (first | with_reducible refine blg ?_ _ _ | with_reducible refine bla ?_ _ | with_reducible exact Below.refl _ _))⟩
  all_goals simp [W, results, Try.results42, go_sem]


set_option maxRecDepth 100000 in
set_option maxHeartbeats 2000000 in
theorem ringAdd_2b (r x y : Int) (w : World) (h : (hi x == 0 && lo x == 0) = true) (g : (hi y == 0 && lo y == 0) = false) :
    Calls Try.prog 42 #[.int .i64 2, W x, W y] w fun e w' => e = .returned (W (1)) ∧ Below w.heap.size w w' := by
  go_enter Try.func42, Try.ntmps42
  go_wp2_with (first
      | (go_at_call 67; refine (add_any _ _ _).mono ?_; rintro e w1 ⟨rfl, hb1⟩; obtain ⟨⟨d1, o1⟩, rfl⟩ := regrown_of_below hb1; clear hb1)
      | (go_at_call 65; refine (lesser_any _ _ _).mono ?_; rintro e w1 ⟨rfl, hb1⟩; obtain ⟨⟨d1, o1⟩, rfl⟩ := regrown_of_below hb1; clear hb1)
      | (go_at_call 66; refine (truth_any _ _).mono ?_; rintro e w1 ⟨rfl, hb1⟩; obtain ⟨⟨d1, o1⟩, rfl⟩ := regrown_of_below hb1; clear hb1))
  all_goals refine bodyPost_ret (v := W (1)) ?_ rfl ⟨rfl, (by repeat (first | with_reducible refine blg ?_ _ _ | with_reducible refine bla ?_ _ | with_reducible exact Below.refl _ _))⟩
  all_goals simp [W, results, Try.results42, go_sem]


set_option maxRecDepth 100000 in
set_option maxHeartbeats 2000000 in
theorem ringAdd_2c (r x y : Int) (w : World) (h : (hi x == 0 && lo x == 0) = true) (g : (hi y == 0 && lo y == 0) = true) :
    Calls Try.prog 42 #[.int .i64 2, W x, W y] w fun e w' => e = .returned (W (0)) ∧ Below w.heap.size w w' := by
  go_enter Try.func42, Try.ntmps42
  go_wp2_with (first
      | (go_at_call 67; refine (add_any _ _ _).mono ?_; rintro e w1 ⟨rfl, hb1⟩; obtain ⟨⟨d1, o1⟩, rfl⟩ := regrown_of_below hb1; clear hb1)
      | (go_at_call 65; refine (lesser_any _ _ _).mono ?_; rintro e w1 ⟨rfl, hb1⟩; obtain ⟨⟨d1, o1⟩, rfl⟩ := regrown_of_below hb1; clear hb1)
      | (go_at_call 66; refine (truth_any _ _).mono ?_; rintro e w1 ⟨rfl, hb1⟩; obtain ⟨⟨d1, o1⟩, rfl⟩ := regrown_of_below hb1; clear hb1))
  all_goals refine bodyPost_ret (v := W (0)) ?_ rfl ⟨rfl, (by repeat (first | with_reducible refine blg ?_ _ _ | with_reducible refine bla ?_ _ | with_reducible exact Below.refl _ _))⟩
  all_goals simp [W, results, Try.results42, go_sem]


set_option maxRecDepth 100000 in
set_option maxHeartbeats 2000000 in
theorem ringAdd_0 (r x y : Int) (w : World) (h1 : (r == 1) = false) (h2 : (r == 2) = false) (h3 : (r == 3) = false) (h4 : (r == 4) = false) (h5 : (r == 5) = false) :
    Calls Try.prog 42 #[.int .i64 r, W x, W y] w fun e w' => e = .returned (W (0)) ∧ Below w.heap.size w w' := by
  go_enter Try.func42, Try.ntmps42
  go_wp2_with (first
      | (go_at_call 67; refine (add_any _ _ _).mono ?_; rintro e w1 ⟨rfl, hb1⟩; obtain ⟨⟨d1, o1⟩, rfl⟩ := regrown_of_below hb1; clear hb1)
      | (go_at_call 65; refine (lesser_any _ _ _).mono ?_; rintro e w1 ⟨rfl, hb1⟩; obtain ⟨⟨d1, o1⟩, rfl⟩ := regrown_of_below hb1; clear hb1)
      | (go_at_call 66; refine (truth_any _ _).mono ?_; rintro e w1 ⟨rfl, hb1⟩; obtain ⟨⟨d1, o1⟩, rfl⟩ := regrown_of_below hb1; clear hb1))
  all_goals refine bodyPost_ret (v := W (0)) ?_ rfl ⟨rfl, (by repeat (first | with_reducible refine blg ?_ _ _ | with_reducible refine bla ?_ _ | with_reducible exact Below.refl _ _))⟩
  all_goals simp [W, results, Try.results42, go_sem]
  exact w_zero

theorem ringAdd_any (r x y : Int) (w : World) :
    Calls Try.prog 42 #[.int .i64 r, W x, W y] w fun e w' => e = .returned (W (addR r x y)) ∧ Below w.heap.size w w' := by
  have hr : r = 1 ∨ r = 2 ∨ r = 3 ∨ r = 4 ∨ r = 5 ∨ (¬ r = 1 ∧ ¬ r = 2 ∧ ¬ r = 3 ∧ ¬ r = 4 ∧ ¬ r = 5) := by omega
  rcases hr with rfl | rfl | rfl | rfl | rfl | ⟨n1, n2, n3, n4, n5⟩
  · rw [show addR 1 x y = lsr x y by simp [addR]]; exact ringAdd_1 0 x y w
  · cases h : (hi x == 0 && lo x == 0) with
    | false => rw [show addR 2 x y = 1 by simp [addR, nz, h]]; exact ringAdd_2a 0 x y w h
    | true =>
      cases g : (hi y == 0 && lo y == 0) with
      | false => rw [show addR 2 x y = 1 by simp [addR, nz, g]]; exact ringAdd_2b 0 x y w h g
      | true => rw [show addR 2 x y = 0 by simp [addR, nz, h, g]]; exact ringAdd_2c 0 x y w h g
  · rw [show addR 3 x y = lsr x y by simp [addR]]; exact ringAdd_3 0 x y w
  · rw [show addR 4 x y = lsr x y by simp [addR]]; exact ringAdd_4 0 x y w
  · rw [show addR 5 x y = x + y by simp [addR]]; exact ringAdd_5 0 x y w
  · rw [show addR r x y = 0 by simp [addR, n1, n2, n3, n4, n5]]; exact ringAdd_0 r x y w (by simp [n1]) (by simp [n2]) (by simp [n3]) (by simp [n4]) (by simp [n5])

set_option maxRecDepth 100000 in
theorem ringNarrow_any (r x : Int) (w : World) :
    Calls Try.prog 44 #[.int .i64 r, W x] w fun e w' => e = .returned (.tuple #[.int .i64 (nv x), .bool (nb x)]) ∧ Below w.heap.size w w' := by
  go_enter Try.func44, Try.ntmps44
  go_wp2_with (go_at_call 68; refine (narrow_any _ _).mono ?_; rintro e w1 ⟨rfl, hb1⟩; obtain ⟨⟨d1, o1⟩, rfl⟩ := regrown_of_below hb1; clear hb1)
  go_ret2
  exact ⟨rfl, (by repeat (first | with_reducible refine blg ?_ _ _ | with_reducible refine bla ?_ _ | with_reducible exact Below.refl _ _))⟩

theorem isR_t (r : Int) (h1 : 1 ≤ r) (h2 : r ≤ 5) : isR r = true := by unfold isR; simp; omega
theorem isR_f (r : Int) (h : r < 1 ∨ 5 < r) : isR r = false := by unfold isR; simp; omega

set_option maxRecDepth 100000 in
theorem is_any (r : Int) (w : World) :
    Calls Try.prog 40 #[.int .i64 r] w fun e w' => e = .returned (.bool (isR r)) ∧ Below w.heap.size w w' := by
  by_cases h1 : 1 ≤ r
  · by_cases h2 : r ≤ 5
    · go_enter Try.func40, Try.ntmps40
      go_wp2
      go_ret
      refine ⟨?_, Below.refl _ _⟩
      rw [isR_t r h1 (by omega)]; rfl
    · go_enter Try.func40, Try.ntmps40
      go_wp2
      go_ret
      refine ⟨?_, Below.refl _ _⟩
      rw [isR_f r (by omega)]; rfl
  · go_enter Try.func40, Try.ntmps40
    go_wp2
    go_ret
    refine ⟨?_, Below.refl _ _⟩
    rw [isR_f r (by omega)]; rfl

set_option maxRecDepth 100000 in
theorem refIs_any (r : Int) (w : World) :
    Calls Try.prog 47 #[.int .i64 r] w fun e w' => e = .returned (.bool (isR r)) ∧ Below w.heap.size w w' := by
  by_cases h1 : 1 ≤ r
  · by_cases h2 : r ≤ 5
    · go_enter Try.func47, Try.ntmps47
      go_wp2
      go_ret
      refine ⟨?_, Below.refl _ _⟩
      rw [isR_t r h1 (by omega)]; rfl
    · go_enter Try.func47, Try.ntmps47
      go_wp2
      go_ret
      refine ⟨?_, Below.refl _ _⟩
      rw [isR_f r (by omega)]; rfl
  · go_enter Try.func47, Try.ntmps47
    go_wp2
    go_ret
    refine ⟨?_, Below.refl _ _⟩
    rw [isR_f r (by omega)]; rfl

set_option maxRecDepth 100000 in
set_option maxHeartbeats 1000000 in
theorem truth2_any (b : Bool) (w : World) :
    Calls Try.prog 74 #[.bool b] w fun e w' => e = .returned (W (if b = true then 1 else 0)) ∧ Below w.heap.size w w' := by
  cases b
  all_goals
    go_enter Try.func74, Try.ntmps74
    go_wp2
  · refine bodyPost_ret (v := W 0) ?_ rfl ⟨rfl, (by repeat (first | with_reducible refine blg ?_ _ _ | with_reducible refine bla ?_ _ | with_reducible exact Below.refl _ _))⟩
    simp [W, results, Try.results74, go_sem]
    decide
  · refine bodyPost_ret (v := W 1) ?_ rfl ⟨rfl, (by repeat (first | with_reducible refine blg ?_ _ _ | with_reducible refine bla ?_ _ | with_reducible exact Below.refl _ _))⟩
    simp [W, results, Try.results74, go_sem]
    decide

theorem lsr_gt (x y : Int) (h : 0 < cmp x y) : lsr x y = y := by
  unfold cmp at h; unfold lsr
  by_cases c : sv y < sv x
  · rw [if_pos c]
  · exfalso; split at h
    · omega
    · split at h <;> omega
theorem lsr_le (x y : Int) (h : cmp x y ≤ 0) : lsr x y = x := by
  unfold cmp at h; unfold lsr
  by_cases c : sv y < sv x
  · exfalso; split at h
    · omega
    · split at h <;> omega
  · rw [if_neg c]

set_option maxRecDepth 100000 in
set_option maxHeartbeats 2000000 in
theorem ref2Add_1b (x y : Int) (w : World) (h : cmp y x < 0) :
    Calls Try.prog 50 #[.int .i64 1, W x, W y] w fun e w' => e = .returned (W (y)) ∧ Below w.heap.size w w' := by
  go_enter Try.func50, Try.ntmps50
  go_wp2_with fail
  all_goals
    refine (refCompare_any _ _ _).mono ?_
    rintro e w1 ⟨rfl, hb1⟩; obtain ⟨⟨d1, o1⟩, rfl⟩ := regrown_of_below hb1; clear hb1
    go_wp2_with fail
  all_goals refine bodyPost_ret (v := W (y)) ?_ rfl ⟨rfl, (by repeat (first | with_reducible refine blg ?_ _ _ | with_reducible refine bla ?_ _ | with_reducible exact Below.refl _ _))⟩
  all_goals simp [W, results, Try.results50, go_sem]

set_option maxRecDepth 100000 in
set_option maxHeartbeats 2000000 in
theorem ref2Add_1a (x y : Int) (w : World) (h : 0 ≤ cmp y x) :
    Calls Try.prog 50 #[.int .i64 1, W x, W y] w fun e w' => e = .returned (W (x)) ∧ Below w.heap.size w w' := by
  go_enter Try.func50, Try.ntmps50
  go_wp2_with fail
  all_goals
    refine (refCompare_any _ _ _).mono ?_
    rintro e w1 ⟨rfl, hb1⟩; obtain ⟨⟨d1, o1⟩, rfl⟩ := regrown_of_below hb1; clear hb1
    go_wp2_with fail
  all_goals refine bodyPost_ret (v := W (x)) ?_ rfl ⟨rfl, (by repeat (first | with_reducible refine blg ?_ _ _ | with_reducible refine bla ?_ _ | with_reducible exact Below.refl _ _))⟩
  all_goals simp [W, results, Try.results50, go_sem]

set_option maxRecDepth 100000 in
set_option maxHeartbeats 2000000 in
theorem ref2Add_3b (x y : Int) (w : World) (h : cmp y x < 0) :
    Calls Try.prog 50 #[.int .i64 3, W x, W y] w fun e w' => e = .returned (W (y)) ∧ Below w.heap.size w w' := by
  go_enter Try.func50, Try.ntmps50
  go_wp2_with fail
  all_goals
    refine (refCompare_any _ _ _).mono ?_
    rintro e w1 ⟨rfl, hb1⟩; obtain ⟨⟨d1, o1⟩, rfl⟩ := regrown_of_below hb1; clear hb1
    go_wp2_with fail
  all_goals refine bodyPost_ret (v := W (y)) ?_ rfl ⟨rfl, (by repeat (first | with_reducible refine blg ?_ _ _ | with_reducible refine bla ?_ _ | with_reducible exact Below.refl _ _))⟩
  all_goals simp [W, results, Try.results50, go_sem]

set_option maxRecDepth 100000 in
set_option maxHeartbeats 2000000 in
theorem ref2Add_3a (x y : Int) (w : World) (h : 0 ≤ cmp y x) :
    Calls Try.prog 50 #[.int .i64 3, W x, W y] w fun e w' => e = .returned (W (x)) ∧ Below w.heap.size w w' := by
  go_enter Try.func50, Try.ntmps50
  go_wp2_with fail
  all_goals
    refine (refCompare_any _ _ _).mono ?_
    rintro e w1 ⟨rfl, hb1⟩; obtain ⟨⟨d1, o1⟩, rfl⟩ := regrown_of_below hb1; clear hb1
    go_wp2_with fail
  all_goals refine bodyPost_ret (v := W (x)) ?_ rfl ⟨rfl, (by repeat (first | with_reducible refine blg ?_ _ _ | with_reducible refine bla ?_ _ | with_reducible exact Below.refl _ _))⟩
  all_goals simp [W, results, Try.results50, go_sem]

set_option maxRecDepth 100000 in
set_option maxHeartbeats 2000000 in
theorem ref2Add_4b (x y : Int) (w : World) (h : cmp y x < 0) :
    Calls Try.prog 50 #[.int .i64 4, W x, W y] w fun e w' => e = .returned (W (y)) ∧ Below w.heap.size w w' := by
  go_enter Try.func50, Try.ntmps50
  go_wp2_with fail
  all_goals
    refine (refCompare_any _ _ _).mono ?_
    rintro e w1 ⟨rfl, hb1⟩; obtain ⟨⟨d1, o1⟩, rfl⟩ := regrown_of_below hb1; clear hb1
    go_wp2_with fail
  all_goals refine bodyPost_ret (v := W (y)) ?_ rfl ⟨rfl, (by repeat (first | with_reducible refine blg ?_ _ _ | with_reducible refine bla ?_ _ | with_reducible exact Below.refl _ _))⟩
  all_goals simp [W, results, Try.results50, go_sem]

set_option maxRecDepth 100000 in
set_option maxHeartbeats 2000000 in
theorem ref2Add_4a (x y : Int) (w : World) (h : 0 ≤ cmp y x) :
    Calls Try.prog 50 #[.int .i64 4, W x, W y] w fun e w' => e = .returned (W (x)) ∧ Below w.heap.size w w' := by
  go_enter Try.func50, Try.ntmps50
  go_wp2_with fail
  all_goals
    refine (refCompare_any _ _ _).mono ?_
    rintro e w1 ⟨rfl, hb1⟩; obtain ⟨⟨d1, o1⟩, rfl⟩ := regrown_of_below hb1; clear hb1
    go_wp2_with fail
  all_goals refine bodyPost_ret (v := W (x)) ?_ rfl ⟨rfl, (by repeat (first | with_reducible refine blg ?_ _ _ | with_reducible refine bla ?_ _ | with_reducible exact Below.refl _ _))⟩
  all_goals simp [W, results, Try.results50, go_sem]

set_option maxRecDepth 100000 in
set_option maxHeartbeats 2000000 in
theorem ref2Add_2a (x y : Int) (w : World) (h : (hi x == 0 && lo x == 0) = false) :
    Calls Try.prog 50 #[.int .i64 2, W x, W y] w fun e w' => e = .returned (W (1)) ∧ Below w.heap.size w w' := by
  go_enter Try.func50, Try.ntmps50
  go_wp2_with fail
  all_goals
    refine (truth2_any true _).mono ?_
    rintro e w1 ⟨rfl, hb1⟩; obtain ⟨⟨d1, o1⟩, rfl⟩ := regrown_of_below hb1; clear hb1
    go_wp2_with fail
  all_goals refine bodyPost_ret (v := W (1)) ?_ rfl ⟨rfl, (by repeat (first | with_reducible refine blg ?_ _ _ | with_reducible refine bla ?_ _ | with_reducible exact Below.refl _ _))⟩
  all_goals simp [W, results, Try.results50, go_sem]

set_option maxRecDepth 100000 in
set_option maxHeartbeats 2000000 in
theorem ref2Add_2b (x y : Int) (w : World) (h : (hi x == 0 && lo x == 0) = true) (g : (hi y == 0 && lo y == 0) = false) :
    Calls Try.prog 50 #[.int .i64 2, W x, W y] w fun e w' => e = .returned (W (1)) ∧ Below w.heap.size w w' := by
  go_enter Try.func50, Try.ntmps50
  go_wp2_with fail
  all_goals
    refine (truth2_any true _).mono ?_
    rintro e w1 ⟨rfl, hb1⟩; obtain ⟨⟨d1, o1⟩, rfl⟩ := regrown_of_below hb1; clear hb1
    go_wp2_with fail
  all_goals refine bodyPost_ret (v := W (1)) ?_ rfl ⟨rfl, (by repeat (first | with_reducible refine blg ?_ _ _ | with_reducible refine bla ?_ _ | with_reducible exact Below.refl _ _))⟩
  all_goals simp [W, results, Try.results50, go_sem]

set_option maxRecDepth 100000 in
set_option maxHeartbeats 2000000 in
theorem ref2Add_2c (x y : Int) (w : World) (h : (hi x == 0 && lo x == 0) = true) (g : (hi y == 0 && lo y == 0) = true) :
    Calls Try.prog 50 #[.int .i64 2, W x, W y] w fun e w' => e = .returned (W (0)) ∧ Below w.heap.size w w' := by
  go_enter Try.func50, Try.ntmps50
  go_wp2_with fail
  all_goals
    refine (truth2_any false _).mono ?_
    rintro e w1 ⟨rfl, hb1⟩; obtain ⟨⟨d1, o1⟩, rfl⟩ := regrown_of_below hb1; clear hb1
    go_wp2_with fail
  all_goals refine bodyPost_ret (v := W (0)) ?_ rfl ⟨rfl, (by repeat (first | with_reducible refine blg ?_ _ _ | with_reducible refine bla ?_ _ | with_reducible exact Below.refl _ _))⟩
  all_goals simp [W, results, Try.results50, go_sem]

set_option maxRecDepth 100000 in
set_option maxHeartbeats 2000000 in
theorem ref2Add_5 (x y : Int) (w : World) :
    Calls Try.prog 50 #[.int .i64 5, W x, W y] w fun e w' => e = .returned (W (x + y)) ∧ Below w.heap.size w w' := by
  go_enter Try.func50, Try.ntmps50
  go_wp2_with fail
  all_goals
    refine (refAdd_any _ _ _).mono ?_
    rintro e w1 ⟨rfl, hb1⟩; obtain ⟨⟨d1, o1⟩, rfl⟩ := regrown_of_below hb1; clear hb1
    go_wp2_with fail
  all_goals refine bodyPost_ret (v := W (x + y)) ?_ rfl ⟨rfl, (by repeat (first | with_reducible refine blg ?_ _ _ | with_reducible refine bla ?_ _ | with_reducible exact Below.refl _ _))⟩
  all_goals simp [W, results, Try.results50, go_sem]

set_option maxRecDepth 100000 in
set_option maxHeartbeats 2000000 in
theorem ref2Add_0 (r x y : Int) (w : World) (h1 : (r == 1) = false) (h2 : (r == 2) = false) (h3 : (r == 3) = false) (h4 : (r == 4) = false) (h5 : (r == 5) = false) :
    Calls Try.prog 50 #[.int .i64 r, W x, W y] w fun e w' => e = .returned (W (0)) ∧ Below w.heap.size w w' := by
  go_enter Try.func50, Try.ntmps50
  go_wp2_with fail
  all_goals refine bodyPost_ret (v := W (0)) ?_ rfl ⟨rfl, (by repeat (first | with_reducible refine blg ?_ _ _ | with_reducible refine bla ?_ _ | with_reducible exact Below.refl _ _))⟩
  all_goals simp [W, results, Try.results50, go_sem]
  all_goals exact w_zero

theorem ref2Add_any (r x y : Int) (w : World) :
    Calls Try.prog 50 #[.int .i64 r, W x, W y] w fun e w' => e = .returned (W (addR r x y)) ∧ Below w.heap.size w w' := by
  have hr : r = 1 ∨ r = 2 ∨ r = 3 ∨ r = 4 ∨ r = 5 ∨ (¬ r = 1 ∧ ¬ r = 2 ∧ ¬ r = 3 ∧ ¬ r = 4 ∧ ¬ r = 5) := by omega
  rcases hr with rfl | rfl | rfl | rfl | rfl | ⟨n1, n2, n3, n4, n5⟩
  · by_cases h : cmp y x < 0
    · rw [show addR 1 x y = y by simp [addR, lsr_b x y h]]; exact ref2Add_1b x y w h
    · rw [show addR 1 x y = x by simp [addR, lsr_a x y (Int.not_lt.1 h)]]; exact ref2Add_1a x y w (Int.not_lt.1 h)
  · cases h : (hi x == 0 && lo x == 0) with
    | false => rw [show addR 2 x y = 1 by simp [addR, nz, h]]; exact ref2Add_2a x y w h
    | true =>
      cases g : (hi y == 0 && lo y == 0) with
      | false => rw [show addR 2 x y = 1 by simp [addR, nz, g]]; exact ref2Add_2b x y w h g
      | true => rw [show addR 2 x y = 0 by simp [addR, nz, h, g]]; exact ref2Add_2c x y w h g
  · by_cases h : cmp y x < 0
    · rw [show addR 3 x y = y by simp [addR, lsr_b x y h]]; exact ref2Add_3b x y w h
    · rw [show addR 3 x y = x by simp [addR, lsr_a x y (Int.not_lt.1 h)]]; exact ref2Add_3a x y w (Int.not_lt.1 h)
  · by_cases h : cmp y x < 0
    · rw [show addR 4 x y = y by simp [addR, lsr_b x y h]]; exact ref2Add_4b x y w h
    · rw [show addR 4 x y = x by simp [addR, lsr_a x y (Int.not_lt.1 h)]]; exact ref2Add_4a x y w (Int.not_lt.1 h)
  · rw [show addR 5 x y = x + y by simp [addR]]; exact ref2Add_5 x y w
  · rw [show addR r x y = 0 by simp [addR, n1, n2, n3, n4, n5]]; exact ref2Add_0 r x y w (by simp [n1]) (by simp [n2]) (by simp [n3]) (by simp [n4]) (by simp [n5])
end Go.Proofs.Ytfaddlpemhifpaa
