/- What must be whatever is asked, of package wide. -/
import Derived.Test.YtekkgidoblddfaaWide5
namespace Go.Proofs.Ytekkgidoblddfaa
open Go.RowKit Go.Sort

theorem add_to (x y z h l h2 l2 : Int) (w : World) (eh : h = hi x) (el : l = lo x) (eh2 : h2 = hi y) (el2 : l2 = lo y) (ez : z = x + y) :
    Calls Try.prog 18 #[.agg #[.int .i64 h, .int .u64 l], .agg #[.int .i64 h2, .int .u64 l2]] w fun e w' => e = .returned (W z) ∧ Below w.heap.size w w' := by
  subst eh el eh2 el2 ez; exact add_any x y w
theorem mul_to (a b h l : Int) (w : World) (a1 : -9223372036854775808 ≤ a) (a2 : a ≤ 9223372036854775807) (b1 : -9223372036854775808 ≤ b) (b2 : b ≤ 9223372036854775807) (eh : h = hi (a * b)) (el : l = lo (a * b)) :
    Calls Try.prog 22 #[.int .i64 a, .int .i64 b] w fun e w' => e = .returned (.agg #[.int .i64 h, .int .u64 l]) ∧ Below w.heap.size w w' := by
  subst eh el; exact mul_any a b w a1 a2 b1 b2
theorem of_to (n h l : Int) (w : World) (h1 : -9223372036854775808 ≤ n) (h2 : n ≤ 9223372036854775807) (eh : h = hi n) (el : l = lo n) :
    Calls Try.prog 14 #[.int .i64 n] w fun e w' => e = .returned (.agg #[.int .i64 h, .int .u64 l]) ∧ Below w.heap.size w w' := by
  subst eh el; exact of_any n w h1 h2
theorem narrow_to (x h l v : Int) (b : Bool) (w : World) (eh : h = hi x) (el : l = lo x) (ev : v = nv x) (eb : b = nb x) :
    Calls Try.prog 11 #[.agg #[.int .i64 h, .int .u64 l]] w fun e w' => e = .returned (.tuple #[.int .i64 v, .bool b]) ∧ Below w.heap.size w w' := by
  subst eh el ev eb; exact narrow_any x w
theorem compare_to (x y h l h2 l2 c : Int) (w : World) (eh : h = hi x) (el : l = lo x) (eh2 : h2 = hi y) (el2 : l2 = lo y) (ec : c = cmp x y) :
    Calls Try.prog 16 #[.agg #[.int .i64 h, .int .u64 l], .agg #[.int .i64 h2, .int .u64 l2]] w fun e w' => e = .returned (.int .i64 c) ∧ Below w.heap.size w w' := by
  subst eh el eh2 el2 ec; exact compare_any x y w
theorem left_to (x n h l h2 l2 : Int) (w : World) (h1 : -9223372036854775808 ≤ n) (hn : n ≤ 9223372036854775807) (eh : h = hi x) (el : l = lo x) (eh2 : h2 = hi (x * 2 ^ n.toNat)) (el2 : l2 = lo (x * 2 ^ n.toNat)) :
    Calls Try.prog 24 #[.agg #[.int .i64 h, .int .u64 l], .int .i64 n] w fun e w' => e = .returned (.agg #[.int .i64 h2, .int .u64 l2]) ∧ Below w.heap.size w w' := by
  subst eh el eh2 el2; exact left_any x n w h1 hn
theorem right_to (x n h l h2 l2 : Int) (w : World) (h1 : -9223372036854775808 ≤ n) (hn : n ≤ 9223372036854775807) (eh : h = hi x) (el : l = lo x) (eh2 : h2 = hi (sv x / 2 ^ n.toNat)) (el2 : l2 = lo (sv x / 2 ^ n.toNat)) :
    Calls Try.prog 26 #[.agg #[.int .i64 h, .int .u64 l], .int .i64 n] w fun e w' => e = .returned (.agg #[.int .i64 h2, .int .u64 l2]) ∧ Below w.heap.size w w' := by
  subst eh el eh2 el2; exact right_any x n w h1 hn

set_option maxRecDepth 100000 in
set_option maxHeartbeats 1000000 in
theorem live_any (w : World) : Calls Try.prog 13 #[] w fun e w' => e = .returned (.bool true) ∧ Below w.heap.size w w' := by
  go_enter Try.func13, Try.ntmps13
  go_wp2_with fail
  refine (mul_to (-1) (-9223372036854775808) 0 9223372036854775808 _ (by decide +kernel) (by decide +kernel) (by decide +kernel) (by decide +kernel) (by decide +kernel) (by decide +kernel)).mono ?_
  rintro e w1 ⟨rfl, hb1⟩; obtain ⟨⟨d1, o1⟩, rfl⟩ := regrown_of_below hb1; clear hb1
  go_wp2_with fail
  refine (narrow_to 9223372036854775808 _ _ 0 false _ (by decide +kernel) (by decide +kernel) (by decide +kernel) (by decide +kernel)).mono ?_
  rintro e w1 ⟨rfl, hb1⟩; obtain ⟨⟨d2, o2⟩, rfl⟩ := regrown_of_below hb1; clear hb1
  go_wp2_with fail
  refine (of_to (-5) (-1) 18446744073709551611 _ (by decide +kernel) (by decide +kernel) (by decide +kernel) (by decide +kernel)).mono ?_
  rintro e w1 ⟨rfl, hb1⟩; obtain ⟨⟨d3, o3⟩, rfl⟩ := regrown_of_below hb1; clear hb1
  go_wp2_with fail
  refine (narrow_to (-5) _ _ (-5) true _ (by decide +kernel) (by decide +kernel) (by decide +kernel) (by decide +kernel)).mono ?_
  rintro e w1 ⟨rfl, hb1⟩; obtain ⟨⟨d4, o4⟩, rfl⟩ := regrown_of_below hb1; clear hb1
  go_wp2_with fail
  refine (mul_to (-1) (-9223372036854775808) 0 9223372036854775808 _ (by decide +kernel) (by decide +kernel) (by decide +kernel) (by decide +kernel) (by decide +kernel) (by decide +kernel)).mono ?_
  rintro e w1 ⟨rfl, hb1⟩; obtain ⟨⟨d5, o5⟩, rfl⟩ := regrown_of_below hb1; clear hb1
  go_wp2_with fail
  refine (of_to (3) (0) 3 _ (by decide +kernel) (by decide +kernel) (by decide +kernel) (by decide +kernel)).mono ?_
  rintro e w1 ⟨rfl, hb1⟩; obtain ⟨⟨d6, o6⟩, rfl⟩ := regrown_of_below hb1; clear hb1
  go_wp2_with fail
  refine (of_to (-4) (-1) 18446744073709551612 _ (by decide +kernel) (by decide +kernel) (by decide +kernel) (by decide +kernel)).mono ?_
  rintro e w1 ⟨rfl, hb1⟩; obtain ⟨⟨d7, o7⟩, rfl⟩ := regrown_of_below hb1; clear hb1
  go_wp2_with fail
  refine (add_to 3 (-4) (-1) _ _ _ _ _ (by decide +kernel) (by decide +kernel) (by decide +kernel) (by decide +kernel) (by decide +kernel)).mono ?_
  rintro e w1 ⟨rfl, hb1⟩; obtain ⟨⟨d8, o8⟩, rfl⟩ := regrown_of_below hb1; clear hb1
  go_wp2_with fail
  refine (of_to (-1) (hi (-1)) (lo (-1)) _ (by decide +kernel) (by decide +kernel) (by decide +kernel) (by decide +kernel)).mono ?_
  rintro e w1 ⟨rfl, hb1⟩; obtain ⟨⟨d9, o9⟩, rfl⟩ := regrown_of_below hb1; clear hb1
  go_wp2_with fail
  refine (of_to (-1) (-1) 18446744073709551615 _ (by decide +kernel) (by decide +kernel) (by decide +kernel) (by decide +kernel)).mono ?_
  rintro e w1 ⟨rfl, hb1⟩; obtain ⟨⟨d10, o10⟩, rfl⟩ := regrown_of_below hb1; clear hb1
  go_wp2_with fail
  refine (of_to (-1) (-1) 18446744073709551615 _ (by decide +kernel) (by decide +kernel) (by decide +kernel) (by decide +kernel)).mono ?_
  rintro e w1 ⟨rfl, hb1⟩; obtain ⟨⟨d11, o11⟩, rfl⟩ := regrown_of_below hb1; clear hb1
  go_wp2_with fail
  refine (of_to (0) (0) 0 _ (by decide +kernel) (by decide +kernel) (by decide +kernel) (by decide +kernel)).mono ?_
  rintro e w1 ⟨rfl, hb1⟩; obtain ⟨⟨d12, o12⟩, rfl⟩ := regrown_of_below hb1; clear hb1
  go_wp2_with fail
  refine (compare_to (-1) 0 _ _ _ _ (-1) _ (by decide +kernel) (by decide +kernel) (by decide +kernel) (by decide +kernel) (by decide +kernel)).mono ?_
  rintro e w1 ⟨rfl, hb1⟩; obtain ⟨⟨d13, o13⟩, rfl⟩ := regrown_of_below hb1; clear hb1
  go_wp2_with fail
  refine (of_to (1) (0) 1 _ (by decide +kernel) (by decide +kernel) (by decide +kernel) (by decide +kernel)).mono ?_
  rintro e w1 ⟨rfl, hb1⟩; obtain ⟨⟨d14, o14⟩, rfl⟩ := regrown_of_below hb1; clear hb1
  go_wp2_with fail
  refine (left_to 1 64 _ _ 1 0 _ (by decide +kernel) (by decide +kernel) (by decide +kernel) (by decide +kernel) (by decide +kernel) (by decide +kernel)).mono ?_
  rintro e w1 ⟨rfl, hb1⟩; obtain ⟨⟨d15, o15⟩, rfl⟩ := regrown_of_below hb1; clear hb1
  go_wp2_with fail
  refine (of_to (-3) (-1) 18446744073709551613 _ (by decide +kernel) (by decide +kernel) (by decide +kernel) (by decide +kernel)).mono ?_
  rintro e w1 ⟨rfl, hb1⟩; obtain ⟨⟨d16, o16⟩, rfl⟩ := regrown_of_below hb1; clear hb1
  go_wp2_with fail
  refine (right_to (-3) 1 _ _ (-1) 18446744073709551614 _ (by decide +kernel) (by decide +kernel) (by decide +kernel) (by decide +kernel) (by decide +kernel) (by decide +kernel)).mono ?_
  rintro e w1 ⟨rfl, hb1⟩; obtain ⟨⟨d17, o17⟩, rfl⟩ := regrown_of_below hb1; clear hb1
  go_wp2_with fail
  refine (of_to (-2) (-1) 18446744073709551614 _ (by decide +kernel) (by decide +kernel) (by decide +kernel) (by decide +kernel)).mono ?_
  rintro e w1 ⟨rfl, hb1⟩; obtain ⟨⟨d18, o18⟩, rfl⟩ := regrown_of_below hb1; clear hb1
  go_wp2_with fail
  go_ret
  exact ⟨rfl, (by repeat (first | with_reducible refine blg ?_ _ _ | with_reducible refine bla ?_ _ | with_reducible exact Below.refl _ _))⟩

/-! The laws. -/
set_option maxRecDepth 100000 in
set_option maxHeartbeats 1000000 in
theorem wideIs_any (n x y : Int) (w : World) (h1 : -9223372036854775808 ≤ n) (h2 : n ≤ 9223372036854775807) :
    Calls Try.prog 3 #[.int .i64 n, W x, W y] w fun e w' => e = .returned (.bool true) ∧ Below w.heap.size w w' := by
  go_enter Try.func3, Try.ntmps3
  go_wp2_with (first | (go_at_call 11; refine (narrow_any _ _).mono ?_; rintro e w1 ⟨rfl, hb1⟩; obtain ⟨⟨d1, o1⟩, rfl⟩ := regrown_of_below hb1; clear hb1) | (go_at_call 12; refine (refNarrow_any _ _).mono ?_; rintro e w1 ⟨rfl, hb1⟩; obtain ⟨⟨d1, o1⟩, rfl⟩ := regrown_of_below hb1; clear hb1))
  refine wp_region_grown' (by kernel_rfl) (by kernel_rfl) ?_
  repeat (go_big_quiet_step (first
    | (go_at_call 13; exact Calls.regrown_of (live_any _))
    | (go_at_call 14; exact Calls.regrown_of (of_any _ _ h1 h2))
    | (go_at_call 15; exact Calls.regrown_of (refOf_any _ _ h1 h2))
    | (go_at_call 16; exact Calls.regrown_of (compare_any _ _ _))
    | (go_at_call 17; exact Calls.regrown_of (refCompare_any _ _ _))))
  refine wpQuiet_nil ?_
  rintro _ ⟨⟨d2, o2⟩, rfl⟩
  go_wp2
  go_ret
  exact ⟨rfl, (by repeat (first | with_reducible refine blg ?_ _ _ | with_reducible refine bla ?_ _ | with_reducible exact Below.refl _ _))⟩
end Go.Proofs.Ytekkgidoblddfaa
