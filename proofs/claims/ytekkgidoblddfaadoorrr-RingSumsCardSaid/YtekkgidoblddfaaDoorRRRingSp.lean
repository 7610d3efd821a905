/- The law that products spread over sums: its walk. -/
import Derived.Test.YtekkgidoblddfaaDoorRRRingMath2
namespace Go.Proofs.YtekkgidoblddfaaDoorRR
open Go.RowKit Go.Sort
set_option linter.unusedVariables false

theorem rmul_e (r a x a' x' z : Int) (w : World) (a1 : -9223372036854775808 ≤ a) (a2 : a ≤ 9223372036854775807) (x1 : -9223372036854775808 ≤ x) (x2 : x ≤ 9223372036854775807) (ea : a' = a) (ex : x' = x) (ez : z = mulR r a x) :
    Calls Tryd.prog 16 #[.int .i64 r, .int .i64 a', .int .i64 x'] w fun e w' => e = .returned (W z) ∧ Below w.heap.size w w' := by
  subst ea ex ez; exact ringMul_any r _ _ w a1 a2 x1 x2

theorem rnarrow_e (r x h l v : Int) (b : Bool) (w : World) (eh : h = hi x) (el : l = lo x) (ev : v = nv x) (eb : b = nb x) :
    Calls Tryd.prog 12 #[.int .i64 r, .agg #[.int .i64 h, .int .u64 l]] w fun e w' => e = .returned (.tuple #[.int .i64 v, .bool b]) ∧ Below w.heap.size w w' := by
  subst eh el ev eb; exact ringNarrow_any r x w

theorem rof_e (n n' : Int) (w : World) (h1 : -9223372036854775808 ≤ n) (h2 : n ≤ 9223372036854775807) (en : n' = n) :
    Calls Tryd.prog 8 #[.int .i64 n'] w fun e w' => e = .returned (W n) ∧ Below w.heap.size w w' := by
  subst en; exact refOf_any _ w h1 h2

theorem rvalue_e (r n n' v : Int) (w : World) (hr : r = 1 ∨ r = 2 ∨ r = 3 ∨ r = 4 ∨ r = 5) (en : n' = n) (ev : v = valR r n) :
    Calls Tryd.prog 9 #[.int .i64 r, .int .i64 n'] w fun e w' => e = .returned (.int .i64 v) ∧ Below w.heap.size w w' := by
  subst en ev; exact calls_same (value_in r _ w hr)

theorem rfactor_e (r n n' v : Int) (w : World) (hr : r = 1 ∨ r = 2 ∨ r = 3 ∨ r = 4 ∨ r = 5) (en : n' = n) (ev : v = facR r n) :
    Calls Tryd.prog 14 #[.int .i64 r, .int .i64 n'] w fun e w' => e = .returned (.int .i64 v) ∧ Below w.heap.size w w' := by
  subst en ev; exact calls_same (factor_in r _ w hr)

theorem rref_is (r : Int) (b : Bool) (w : World) (eb : b = isR r) :
    Calls Tryd.prog 6 #[.int .i64 r] w fun e w' => e = .returned (.bool b) ∧ Below w.heap.size w w' := by
  subst eb; exact refIs_any r w

/-- A value of a ring. -/
def rightR (r v : Int) : Bool := if r = 5 then true else if r = 2 then decide (0 ≤ v ∧ v ≤ 1) else if r = 1 ∨ r = 3 ∨ r = 4 then decide (0 ≤ v ∧ v ≤ 4611686018427387904) else false

set_option maxRecDepth 100000 in
set_option maxHeartbeats 1000000 in
theorem right_low (r v : Int) (w : World) (hr : r = 1 ∨ r = 3 ∨ r = 4) (h : Low v) :
    Calls Tryd.prog 13 #[.int .i64 r, .int .i64 v] w fun e w' => e = .returned (.bool true) ∧ Below w.heap.size w w' := by
  unfold Low at h
  obtain ⟨h1, h2⟩ := h
  rcases hr with rfl | rfl | rfl
  all_goals
    go_enter Tryd.func13, Tryd.ntmps13
    go_wp2
    go_ret
    exact ⟨rfl, Below.refl _ _⟩

set_option maxRecDepth 100000 in
set_option maxHeartbeats 1000000 in
theorem right_or (v : Int) (w : World) (h : v = 0 ∨ v = 1) :
    Calls Tryd.prog 13 #[.int .i64 2, .int .i64 v] w fun e w' => e = .returned (.bool true) ∧ Below w.heap.size w w' := by
  rcases h with rfl | rfl
  all_goals
    go_enter Tryd.func13, Tryd.ntmps13
    go_wp2
    go_ret
    exact ⟨rfl, Below.refl _ _⟩

attribute [local irreducible] hi lo sv nv nb cmp mulR addR zeroR oneR valR facR isR lsr

set_option maxRecDepth 100000 in
set_option maxHeartbeats 4000000 in
theorem spA (r n0 n1 n2 a x y s one z0 p : Int) (fv : Bool) (w : World) (hN : Hid (Names w)) (hr : Hid (r = 1 ∨ r = 2 ∨ r = 3 ∨ r = 4 ∨ r = 5)) (h5 : (r == 5) = false)
    (EA : Hid (a = facR r n0)) (EX : Hid (x = valR r n1)) (EY : Hid (y = valR r n2)) (a1 : -9223372036854775808 ≤ a) (a2 : a ≤ 9223372036854775807) (x1 : -9223372036854775808 ≤ x) (x2 : x ≤ 9223372036854775807) (y1 : -9223372036854775808 ≤ y) (y2 : y ≤ 9223372036854775807) (s1 : -9223372036854775808 ≤ s) (s2 : s ≤ 9223372036854775807) (on1 : -9223372036854775808 ≤ one) (on2 : one ≤ 9223372036854775807) (z01 : -9223372036854775808 ≤ z0) (z02 : z0 ≤ 9223372036854775807)
    (Z : Hid (z0 = zeroR r)) (ES : Hid (s = nv (addR r x y))) (EO : Hid (true = nb (addR r x y))) (EI : Hid (one = (oneR r).1)) (EJ : Hid (true = (oneR r).2)) (EP : Hid (p = nv (mulR r a x))) (EF : Hid (fv = nb (mulR r a x)))
    (D1 : Hid (addR r (mulR r a x) (mulR r a y) = mulR r a s)) (D2 : Hid (x = mulR r one x)) (D3 : Hid (z0 = mulR r a z0)) (D4 : Hid (z0 = mulR r z0 x)) (EIS : Hid (true = isR r))
    (hfv : fv = true) (hR : Hid (∀ w : World, Calls Tryd.prog 13 #[.int .i64 r, .int .i64 p] w fun e w' => e = .returned (.bool true) ∧ Below w.heap.size w w')) :
    Calls Tryd.prog 4 #[.int .i64 r, .agg #[.int .i64 n0, .int .i64 n1, .int .i64 n2]] w fun e w' => e = .returned (.bool true) ∧ Below w.heap.size w w' := by
  subst hfv
  go_enter Tryd.func4, Tryd.ntmps4
  go_wp2_with ((go_at_call 6; refine (rref_is r true _ EIS.out).mono ?_; rintro e w1 ⟨rfl, hb1⟩; obtain ⟨⟨d1, o1⟩, rfl⟩ := regrown_of_below hb1; clear hb1))
  refine wp_region_grown' (by kernel_rfl) (by kernel_rfl) ?_
  repeat (go_big_quiet_step (first
    | (go_at_call 14; exact Calls.regrown_of (rfactor_e r n0 _ a _ hr.out rfl EA.out))
    | (go_at_call 9; exact Calls.regrown_of (rvalue_e r n1 _ x _ hr.out rfl EX.out))
    | (go_at_call 9; exact Calls.regrown_of (rvalue_e r n2 _ y _ hr.out rfl EY.out))))
  refine wpQuiet_nil ?_
  rintro _ ⟨⟨d2, o2⟩, rfl⟩
  go_wp2_with fail
  refine (rzero_to r z0 _ hr.out Z.out).mono ?_
  rintro e w1 ⟨rfl, hb1⟩; obtain ⟨⟨dd0, oo0⟩, rfl⟩ := regrown_of_below hb1; clear hb1
  go_wp2_with fail
  refine (rof_e z0 _ _ z01 z02 rfl).mono ?_
  rintro e w1 ⟨rfl, hb1⟩; obtain ⟨⟨dd1, oo1⟩, rfl⟩ := regrown_of_below hb1; clear hb1
  go_wp2_with fail
  refine (rof_e x _ _ x1 x2 rfl).mono ?_
  rintro e w1 ⟨rfl, hb1⟩; obtain ⟨⟨dd2, oo2⟩, rfl⟩ := regrown_of_below hb1; clear hb1
  go_wp2_with fail
  refine (rof_e y _ _ y1 y2 rfl).mono ?_
  rintro e w1 ⟨rfl, hb1⟩; obtain ⟨⟨dd3, oo3⟩, rfl⟩ := regrown_of_below hb1; clear hb1
  go_wp2_with fail
  refine (radd_to r x y (addR r x y) _ _ _ _ _ rfl rfl rfl rfl rfl).mono ?_
  rintro e w1 ⟨rfl, hb1⟩; obtain ⟨⟨dd4, oo4⟩, rfl⟩ := regrown_of_below hb1; clear hb1
  go_wp2_with fail
  refine (rnarrow_e r (addR r x y) _ _ s true _ rfl rfl ES.out EO.out).mono ?_
  rintro e w1 ⟨rfl, hb1⟩; obtain ⟨⟨dd5, oo5⟩, rfl⟩ := regrown_of_below hb1; clear hb1
  go_wp2_with fail
  refine (rone_to r one true _ hr.out EI.out EJ.out).mono ?_
  rintro e w1 ⟨rfl, hb1⟩; obtain ⟨⟨dd6, oo6⟩, rfl⟩ := regrown_of_below hb1; clear hb1
  go_wp2_with fail
  refine (rmul_e r a x _ _ (mulR r a x) _ a1 a2 x1 x2 rfl rfl rfl).mono ?_
  rintro e w1 ⟨rfl, hb1⟩; obtain ⟨⟨dd7, oo7⟩, rfl⟩ := regrown_of_below hb1; clear hb1
  go_wp2_with fail
  refine (rnarrow_e r (mulR r a x) _ _ p true _ rfl rfl EP.out EF.out).mono ?_
  rintro e w1 ⟨rfl, hb1⟩; obtain ⟨⟨dd8, oo8⟩, rfl⟩ := regrown_of_below hb1; clear hb1
  go_wp2_with fail
  refine (live2_any _ (hN.out.grown (by repeat (first | with_reducible refine blg ?_ _ _ | with_reducible refine bla ?_ _ | with_reducible exact Below.refl _ _)))).mono ?_
  rintro e w1 ⟨rfl, hb1⟩; obtain ⟨⟨dd9, oo9⟩, rfl⟩ := regrown_of_below hb1; clear hb1
  go_wp2_with fail
  refine (rmul_e r a s _ _ (addR r (mulR r a x) (mulR r a y)) _ a1 a2 s1 s2 rfl rfl D1.out).mono ?_
  rintro e w1 ⟨rfl, hb1⟩; obtain ⟨⟨dd10, oo10⟩, rfl⟩ := regrown_of_below hb1; clear hb1
  go_wp2_with fail
  refine (rmul_e r a x _ _ (mulR r a x) _ a1 a2 x1 x2 rfl rfl rfl).mono ?_
  rintro e w1 ⟨rfl, hb1⟩; obtain ⟨⟨dd11, oo11⟩, rfl⟩ := regrown_of_below hb1; clear hb1
  go_wp2_with fail
  refine (rmul_e r a y _ _ (mulR r a y) _ a1 a2 y1 y2 rfl rfl rfl).mono ?_
  rintro e w1 ⟨rfl, hb1⟩; obtain ⟨⟨dd12, oo12⟩, rfl⟩ := regrown_of_below hb1; clear hb1
  go_wp2_with fail
  refine (radd_to r (mulR r a x) (mulR r a y) (addR r (mulR r a x) (mulR r a y)) _ _ _ _ _ rfl rfl rfl rfl rfl).mono ?_
  rintro e w1 ⟨rfl, hb1⟩; obtain ⟨⟨dd13, oo13⟩, rfl⟩ := regrown_of_below hb1; clear hb1
  go_wp2_with fail
  refine (rmul_e r one x _ _ x _ on1 on2 x1 x2 rfl rfl D2.out).mono ?_
  rintro e w1 ⟨rfl, hb1⟩; obtain ⟨⟨dd14, oo14⟩, rfl⟩ := regrown_of_below hb1; clear hb1
  go_wp2_with fail
  refine (rof_e x _ _ x1 x2 rfl).mono ?_
  rintro e w1 ⟨rfl, hb1⟩; obtain ⟨⟨dd15, oo15⟩, rfl⟩ := regrown_of_below hb1; clear hb1
  go_wp2_with fail
  refine wp_region_grown' (by kernel_rfl) (by kernel_rfl) ?_
  repeat (go_big_quiet_step (first
    | (go_at_call 10; exact Calls.regrown_of (rzero_to r z0 _ hr.out Z.out))
    | (go_at_call 16; exact Calls.regrown_of (rmul_e r a z0 _ _ z0 _ a1 a2 z01 z02 rfl rfl D3.out))
    | (go_at_call 16; exact Calls.regrown_of (rmul_e r z0 x _ _ z0 _ z01 z02 x1 x2 rfl rfl D4.out))
    | (go_at_call 13; exact Calls.regrown_of (hR.out _))))
  refine wpQuiet_nil ?_
  rintro _ ⟨⟨d9, o9⟩, rfl⟩
  go_wp2
  go_ret
  exact ⟨rfl, (by repeat (first | with_reducible refine blg ?_ _ _ | with_reducible refine bla ?_ _ | with_reducible exact Below.refl _ _))⟩

set_option maxRecDepth 100000 in
set_option maxHeartbeats 4000000 in
theorem spB (r n0 n1 n2 a x y s one z0 p : Int) (fv : Bool) (w : World) (hN : Hid (Names w)) (hr : Hid (r = 1 ∨ r = 2 ∨ r = 3 ∨ r = 4 ∨ r = 5)) (h5 : (r == 5) = false)
    (EA : Hid (a = facR r n0)) (EX : Hid (x = valR r n1)) (EY : Hid (y = valR r n2)) (a1 : -9223372036854775808 ≤ a) (a2 : a ≤ 9223372036854775807) (x1 : -9223372036854775808 ≤ x) (x2 : x ≤ 9223372036854775807) (y1 : -9223372036854775808 ≤ y) (y2 : y ≤ 9223372036854775807) (s1 : -9223372036854775808 ≤ s) (s2 : s ≤ 9223372036854775807) (on1 : -9223372036854775808 ≤ one) (on2 : one ≤ 9223372036854775807) (z01 : -9223372036854775808 ≤ z0) (z02 : z0 ≤ 9223372036854775807)
    (Z : Hid (z0 = zeroR r)) (ES : Hid (s = nv (addR r x y))) (EO : Hid (true = nb (addR r x y))) (EI : Hid (one = (oneR r).1)) (EJ : Hid (false = (oneR r).2)) (EP : Hid (p = nv (mulR r a x))) (EF : Hid (fv = nb (mulR r a x)))
    (D1 : Hid (addR r (mulR r a x) (mulR r a y) = mulR r a s))  (D3 : Hid (z0 = mulR r a z0)) (D4 : Hid (z0 = mulR r z0 x)) (EIS : Hid (true = isR r))
    (hfv : fv = true) (hR : Hid (∀ w : World, Calls Tryd.prog 13 #[.int .i64 r, .int .i64 p] w fun e w' => e = .returned (.bool true) ∧ Below w.heap.size w w')) :
    Calls Tryd.prog 4 #[.int .i64 r, .agg #[.int .i64 n0, .int .i64 n1, .int .i64 n2]] w fun e w' => e = .returned (.bool true) ∧ Below w.heap.size w w' := by
  subst hfv
  go_enter Tryd.func4, Tryd.ntmps4
  go_wp2_with ((go_at_call 6; refine (rref_is r true _ EIS.out).mono ?_; rintro e w1 ⟨rfl, hb1⟩; obtain ⟨⟨d1, o1⟩, rfl⟩ := regrown_of_below hb1; clear hb1))
  refine wp_region_grown' (by kernel_rfl) (by kernel_rfl) ?_
  repeat (go_big_quiet_step (first
    | (go_at_call 14; exact Calls.regrown_of (rfactor_e r n0 _ a _ hr.out rfl EA.out))
    | (go_at_call 9; exact Calls.regrown_of (rvalue_e r n1 _ x _ hr.out rfl EX.out))
    | (go_at_call 9; exact Calls.regrown_of (rvalue_e r n2 _ y _ hr.out rfl EY.out))))
  refine wpQuiet_nil ?_
  rintro _ ⟨⟨d2, o2⟩, rfl⟩
  go_wp2_with fail
  refine (rzero_to r z0 _ hr.out Z.out).mono ?_
  rintro e w1 ⟨rfl, hb1⟩; obtain ⟨⟨dd0, oo0⟩, rfl⟩ := regrown_of_below hb1; clear hb1
  go_wp2_with fail
  refine (rof_e z0 _ _ z01 z02 rfl).mono ?_
  rintro e w1 ⟨rfl, hb1⟩; obtain ⟨⟨dd1, oo1⟩, rfl⟩ := regrown_of_below hb1; clear hb1
  go_wp2_with fail
  refine (rof_e x _ _ x1 x2 rfl).mono ?_
  rintro e w1 ⟨rfl, hb1⟩; obtain ⟨⟨dd2, oo2⟩, rfl⟩ := regrown_of_below hb1; clear hb1
  go_wp2_with fail
  refine (rof_e y _ _ y1 y2 rfl).mono ?_
  rintro e w1 ⟨rfl, hb1⟩; obtain ⟨⟨dd3, oo3⟩, rfl⟩ := regrown_of_below hb1; clear hb1
  go_wp2_with fail
  refine (radd_to r x y (addR r x y) _ _ _ _ _ rfl rfl rfl rfl rfl).mono ?_
  rintro e w1 ⟨rfl, hb1⟩; obtain ⟨⟨dd4, oo4⟩, rfl⟩ := regrown_of_below hb1; clear hb1
  go_wp2_with fail
  refine (rnarrow_e r (addR r x y) _ _ s true _ rfl rfl ES.out EO.out).mono ?_
  rintro e w1 ⟨rfl, hb1⟩; obtain ⟨⟨dd5, oo5⟩, rfl⟩ := regrown_of_below hb1; clear hb1
  go_wp2_with fail
  refine (rone_to r one false _ hr.out EI.out EJ.out).mono ?_
  rintro e w1 ⟨rfl, hb1⟩; obtain ⟨⟨dd6, oo6⟩, rfl⟩ := regrown_of_below hb1; clear hb1
  go_wp2_with fail
  refine (rmul_e r a x _ _ (mulR r a x) _ a1 a2 x1 x2 rfl rfl rfl).mono ?_
  rintro e w1 ⟨rfl, hb1⟩; obtain ⟨⟨dd7, oo7⟩, rfl⟩ := regrown_of_below hb1; clear hb1
  go_wp2_with fail
  refine (rnarrow_e r (mulR r a x) _ _ p true _ rfl rfl EP.out EF.out).mono ?_
  rintro e w1 ⟨rfl, hb1⟩; obtain ⟨⟨dd8, oo8⟩, rfl⟩ := regrown_of_below hb1; clear hb1
  go_wp2_with fail
  refine (live2_any _ (hN.out.grown (by repeat (first | with_reducible refine blg ?_ _ _ | with_reducible refine bla ?_ _ | with_reducible exact Below.refl _ _)))).mono ?_
  rintro e w1 ⟨rfl, hb1⟩; obtain ⟨⟨dd9, oo9⟩, rfl⟩ := regrown_of_below hb1; clear hb1
  go_wp2_with fail
  refine (rmul_e r a s _ _ (addR r (mulR r a x) (mulR r a y)) _ a1 a2 s1 s2 rfl rfl D1.out).mono ?_
  rintro e w1 ⟨rfl, hb1⟩; obtain ⟨⟨dd10, oo10⟩, rfl⟩ := regrown_of_below hb1; clear hb1
  go_wp2_with fail
  refine (rmul_e r a x _ _ (mulR r a x) _ a1 a2 x1 x2 rfl rfl rfl).mono ?_
  rintro e w1 ⟨rfl, hb1⟩; obtain ⟨⟨dd11, oo11⟩, rfl⟩ := regrown_of_below hb1; clear hb1
  go_wp2_with fail
  refine (rmul_e r a y _ _ (mulR r a y) _ a1 a2 y1 y2 rfl rfl rfl).mono ?_
  rintro e w1 ⟨rfl, hb1⟩; obtain ⟨⟨dd12, oo12⟩, rfl⟩ := regrown_of_below hb1; clear hb1
  go_wp2_with fail
  refine (radd_to r (mulR r a x) (mulR r a y) (addR r (mulR r a x) (mulR r a y)) _ _ _ _ _ rfl rfl rfl rfl rfl).mono ?_
  rintro e w1 ⟨rfl, hb1⟩; obtain ⟨⟨dd13, oo13⟩, rfl⟩ := regrown_of_below hb1; clear hb1
  go_wp2_with fail
  refine wp_region_grown' (by kernel_rfl) (by kernel_rfl) ?_
  repeat (go_big_quiet_step (first
    | (go_at_call 10; exact Calls.regrown_of (rzero_to r z0 _ hr.out Z.out))
    | (go_at_call 16; exact Calls.regrown_of (rmul_e r a z0 _ _ z0 _ a1 a2 z01 z02 rfl rfl D3.out))
    | (go_at_call 16; exact Calls.regrown_of (rmul_e r z0 x _ _ z0 _ z01 z02 x1 x2 rfl rfl D4.out))
    | (go_at_call 13; exact Calls.regrown_of (hR.out _))))
  refine wpQuiet_nil ?_
  rintro _ ⟨⟨d9, o9⟩, rfl⟩
  go_wp2
  go_ret
  exact ⟨rfl, (by repeat (first | with_reducible refine blg ?_ _ _ | with_reducible refine bla ?_ _ | with_reducible exact Below.refl _ _))⟩

set_option maxRecDepth 100000 in
set_option maxHeartbeats 4000000 in
theorem spC (r n0 n1 n2 a x y s one z0 p : Int) (fv : Bool) (w : World) (hN : Hid (Names w)) (hr : Hid (r = 1 ∨ r = 2 ∨ r = 3 ∨ r = 4 ∨ r = 5)) (h5 : (r == 5) = true)
    (EA : Hid (a = facR r n0)) (EX : Hid (x = valR r n1)) (EY : Hid (y = valR r n2)) (a1 : -9223372036854775808 ≤ a) (a2 : a ≤ 9223372036854775807) (x1 : -9223372036854775808 ≤ x) (x2 : x ≤ 9223372036854775807) (y1 : -9223372036854775808 ≤ y) (y2 : y ≤ 9223372036854775807) (s1 : -9223372036854775808 ≤ s) (s2 : s ≤ 9223372036854775807) (on1 : -9223372036854775808 ≤ one) (on2 : one ≤ 9223372036854775807) (z01 : -9223372036854775808 ≤ z0) (z02 : z0 ≤ 9223372036854775807)
    (Z : Hid (z0 = zeroR r)) (ES : Hid (s = nv (addR r x y))) (EO : Hid (true = nb (addR r x y))) (EI : Hid (one = (oneR r).1)) (EJ : Hid (true = (oneR r).2)) (EP : Hid (p = nv (mulR r a x))) (EF : Hid (fv = nb (mulR r a x)))
    (D1 : Hid (addR r (mulR r a x) (mulR r a y) = mulR r a s)) (D2 : Hid (x = mulR r one x)) (D3 : Hid (z0 = mulR r a z0)) (D4 : Hid (z0 = mulR r z0 x)) (EIS : Hid (true = isR r)) :
    Calls Tryd.prog 4 #[.int .i64 r, .agg #[.int .i64 n0, .int .i64 n1, .int .i64 n2]] w fun e w' => e = .returned (.bool true) ∧ Below w.heap.size w w' := by
  skip
  go_enter Tryd.func4, Tryd.ntmps4
  go_wp2_with ((go_at_call 6; refine (rref_is r true _ EIS.out).mono ?_; rintro e w1 ⟨rfl, hb1⟩; obtain ⟨⟨d1, o1⟩, rfl⟩ := regrown_of_below hb1; clear hb1))
  refine wp_region_grown' (by kernel_rfl) (by kernel_rfl) ?_
  repeat (go_big_quiet_step (first
    | (go_at_call 14; exact Calls.regrown_of (rfactor_e r n0 _ a _ hr.out rfl EA.out))
    | (go_at_call 9; exact Calls.regrown_of (rvalue_e r n1 _ x _ hr.out rfl EX.out))
    | (go_at_call 9; exact Calls.regrown_of (rvalue_e r n2 _ y _ hr.out rfl EY.out))))
  refine wpQuiet_nil ?_
  rintro _ ⟨⟨d2, o2⟩, rfl⟩
  go_wp2_with fail
  refine (rzero_to r z0 _ hr.out Z.out).mono ?_
  rintro e w1 ⟨rfl, hb1⟩; obtain ⟨⟨dd0, oo0⟩, rfl⟩ := regrown_of_below hb1; clear hb1
  go_wp2_with fail
  refine (rof_e z0 _ _ z01 z02 rfl).mono ?_
  rintro e w1 ⟨rfl, hb1⟩; obtain ⟨⟨dd1, oo1⟩, rfl⟩ := regrown_of_below hb1; clear hb1
  go_wp2_with fail
  refine (rof_e x _ _ x1 x2 rfl).mono ?_
  rintro e w1 ⟨rfl, hb1⟩; obtain ⟨⟨dd2, oo2⟩, rfl⟩ := regrown_of_below hb1; clear hb1
  go_wp2_with fail
  refine (rof_e y _ _ y1 y2 rfl).mono ?_
  rintro e w1 ⟨rfl, hb1⟩; obtain ⟨⟨dd3, oo3⟩, rfl⟩ := regrown_of_below hb1; clear hb1
  go_wp2_with fail
  refine (radd_to r x y (addR r x y) _ _ _ _ _ rfl rfl rfl rfl rfl).mono ?_
  rintro e w1 ⟨rfl, hb1⟩; obtain ⟨⟨dd4, oo4⟩, rfl⟩ := regrown_of_below hb1; clear hb1
  go_wp2_with fail
  refine (rnarrow_e r (addR r x y) _ _ s true _ rfl rfl ES.out EO.out).mono ?_
  rintro e w1 ⟨rfl, hb1⟩; obtain ⟨⟨dd5, oo5⟩, rfl⟩ := regrown_of_below hb1; clear hb1
  go_wp2_with fail
  refine (rone_to r one true _ hr.out EI.out EJ.out).mono ?_
  rintro e w1 ⟨rfl, hb1⟩; obtain ⟨⟨dd6, oo6⟩, rfl⟩ := regrown_of_below hb1; clear hb1
  go_wp2_with fail
  refine (rmul_e r a x _ _ (mulR r a x) _ a1 a2 x1 x2 rfl rfl rfl).mono ?_
  rintro e w1 ⟨rfl, hb1⟩; obtain ⟨⟨dd7, oo7⟩, rfl⟩ := regrown_of_below hb1; clear hb1
  go_wp2_with fail
  refine (rnarrow_e r (mulR r a x) _ _ p fv _ rfl rfl EP.out EF.out).mono ?_
  rintro e w1 ⟨rfl, hb1⟩; obtain ⟨⟨dd8, oo8⟩, rfl⟩ := regrown_of_below hb1; clear hb1
  go_wp2_with fail
  refine (live2_any _ (hN.out.grown (by repeat (first | with_reducible refine blg ?_ _ _ | with_reducible refine bla ?_ _ | with_reducible exact Below.refl _ _)))).mono ?_
  rintro e w1 ⟨rfl, hb1⟩; obtain ⟨⟨dd9, oo9⟩, rfl⟩ := regrown_of_below hb1; clear hb1
  go_wp2_with fail
  refine (rmul_e r a s _ _ (addR r (mulR r a x) (mulR r a y)) _ a1 a2 s1 s2 rfl rfl D1.out).mono ?_
  rintro e w1 ⟨rfl, hb1⟩; obtain ⟨⟨dd10, oo10⟩, rfl⟩ := regrown_of_below hb1; clear hb1
  go_wp2_with fail
  refine (rmul_e r a x _ _ (mulR r a x) _ a1 a2 x1 x2 rfl rfl rfl).mono ?_
  rintro e w1 ⟨rfl, hb1⟩; obtain ⟨⟨dd11, oo11⟩, rfl⟩ := regrown_of_below hb1; clear hb1
  go_wp2_with fail
  refine (rmul_e r a y _ _ (mulR r a y) _ a1 a2 y1 y2 rfl rfl rfl).mono ?_
  rintro e w1 ⟨rfl, hb1⟩; obtain ⟨⟨dd12, oo12⟩, rfl⟩ := regrown_of_below hb1; clear hb1
  go_wp2_with fail
  refine (radd_to r (mulR r a x) (mulR r a y) (addR r (mulR r a x) (mulR r a y)) _ _ _ _ _ rfl rfl rfl rfl rfl).mono ?_
  rintro e w1 ⟨rfl, hb1⟩; obtain ⟨⟨dd13, oo13⟩, rfl⟩ := regrown_of_below hb1; clear hb1
  go_wp2_with fail
  refine (rmul_e r one x _ _ x _ on1 on2 x1 x2 rfl rfl D2.out).mono ?_
  rintro e w1 ⟨rfl, hb1⟩; obtain ⟨⟨dd14, oo14⟩, rfl⟩ := regrown_of_below hb1; clear hb1
  go_wp2_with fail
  refine (rof_e x _ _ x1 x2 rfl).mono ?_
  rintro e w1 ⟨rfl, hb1⟩; obtain ⟨⟨dd15, oo15⟩, rfl⟩ := regrown_of_below hb1; clear hb1
  go_wp2_with fail
  refine wp_region_grown' (by kernel_rfl) (by kernel_rfl) ?_
  repeat (go_big_quiet_step (first
    | (go_at_call 10; exact Calls.regrown_of (rzero_to r z0 _ hr.out Z.out))
    | (go_at_call 16; exact Calls.regrown_of (rmul_e r a z0 _ _ z0 _ a1 a2 z01 z02 rfl rfl D3.out))
    | (go_at_call 16; exact Calls.regrown_of (rmul_e r z0 x _ _ z0 _ z01 z02 x1 x2 rfl rfl D4.out))))
  refine wpQuiet_nil ?_
  rintro _ ⟨⟨d9, o9⟩, rfl⟩
  go_wp2
  go_ret
  exact ⟨rfl, (by repeat (first | with_reducible refine blg ?_ _ _ | with_reducible refine bla ?_ _ | with_reducible exact Below.refl _ _))⟩

set_option maxRecDepth 100000 in
set_option maxHeartbeats 4000000 in
theorem spD (r n0 n1 n2 a x y s one z0 p : Int) (fv : Bool) (w : World) (hN : Hid (Names w)) (hr : Hid (r = 1 ∨ r = 2 ∨ r = 3 ∨ r = 4 ∨ r = 5)) (h5 : (r == 5) = true)
    (EA : Hid (a = facR r n0)) (EX : Hid (x = valR r n1)) (EY : Hid (y = valR r n2)) (a1 : -9223372036854775808 ≤ a) (a2 : a ≤ 9223372036854775807) (x1 : -9223372036854775808 ≤ x) (x2 : x ≤ 9223372036854775807) (y1 : -9223372036854775808 ≤ y) (y2 : y ≤ 9223372036854775807) (s1 : -9223372036854775808 ≤ s) (s2 : s ≤ 9223372036854775807) (on1 : -9223372036854775808 ≤ one) (on2 : one ≤ 9223372036854775807) (z01 : -9223372036854775808 ≤ z0) (z02 : z0 ≤ 9223372036854775807)
    (Z : Hid (z0 = zeroR r)) (ES : Hid (s = nv (addR r x y))) (EO : Hid (false = nb (addR r x y))) (EI : Hid (one = (oneR r).1)) (EJ : Hid (true = (oneR r).2)) (EP : Hid (p = nv (mulR r a x))) (EF : Hid (fv = nb (mulR r a x)))
     (D2 : Hid (x = mulR r one x)) (D3 : Hid (z0 = mulR r a z0)) (D4 : Hid (z0 = mulR r z0 x)) (EIS : Hid (true = isR r)) :
    Calls Tryd.prog 4 #[.int .i64 r, .agg #[.int .i64 n0, .int .i64 n1, .int .i64 n2]] w fun e w' => e = .returned (.bool true) ∧ Below w.heap.size w w' := by
  skip
  go_enter Tryd.func4, Tryd.ntmps4
  go_wp2_with ((go_at_call 6; refine (rref_is r true _ EIS.out).mono ?_; rintro e w1 ⟨rfl, hb1⟩; obtain ⟨⟨d1, o1⟩, rfl⟩ := regrown_of_below hb1; clear hb1))
  refine wp_region_grown' (by kernel_rfl) (by kernel_rfl) ?_
  repeat (go_big_quiet_step (first
    | (go_at_call 14; exact Calls.regrown_of (rfactor_e r n0 _ a _ hr.out rfl EA.out))
    | (go_at_call 9; exact Calls.regrown_of (rvalue_e r n1 _ x _ hr.out rfl EX.out))
    | (go_at_call 9; exact Calls.regrown_of (rvalue_e r n2 _ y _ hr.out rfl EY.out))))
  refine wpQuiet_nil ?_
  rintro _ ⟨⟨d2, o2⟩, rfl⟩
  go_wp2_with fail
  refine (rzero_to r z0 _ hr.out Z.out).mono ?_
  rintro e w1 ⟨rfl, hb1⟩; obtain ⟨⟨dd0, oo0⟩, rfl⟩ := regrown_of_below hb1; clear hb1
  go_wp2_with fail
  refine (rof_e z0 _ _ z01 z02 rfl).mono ?_
  rintro e w1 ⟨rfl, hb1⟩; obtain ⟨⟨dd1, oo1⟩, rfl⟩ := regrown_of_below hb1; clear hb1
  go_wp2_with fail
  refine (rof_e x _ _ x1 x2 rfl).mono ?_
  rintro e w1 ⟨rfl, hb1⟩; obtain ⟨⟨dd2, oo2⟩, rfl⟩ := regrown_of_below hb1; clear hb1
  go_wp2_with fail
  refine (rof_e y _ _ y1 y2 rfl).mono ?_
  rintro e w1 ⟨rfl, hb1⟩; obtain ⟨⟨dd3, oo3⟩, rfl⟩ := regrown_of_below hb1; clear hb1
  go_wp2_with fail
  refine (radd_to r x y (addR r x y) _ _ _ _ _ rfl rfl rfl rfl rfl).mono ?_
  rintro e w1 ⟨rfl, hb1⟩; obtain ⟨⟨dd4, oo4⟩, rfl⟩ := regrown_of_below hb1; clear hb1
  go_wp2_with fail
  refine (rnarrow_e r (addR r x y) _ _ s false _ rfl rfl ES.out EO.out).mono ?_
  rintro e w1 ⟨rfl, hb1⟩; obtain ⟨⟨dd5, oo5⟩, rfl⟩ := regrown_of_below hb1; clear hb1
  go_wp2_with fail
  refine (rone_to r one true _ hr.out EI.out EJ.out).mono ?_
  rintro e w1 ⟨rfl, hb1⟩; obtain ⟨⟨dd6, oo6⟩, rfl⟩ := regrown_of_below hb1; clear hb1
  go_wp2_with fail
  refine (rmul_e r a x _ _ (mulR r a x) _ a1 a2 x1 x2 rfl rfl rfl).mono ?_
  rintro e w1 ⟨rfl, hb1⟩; obtain ⟨⟨dd7, oo7⟩, rfl⟩ := regrown_of_below hb1; clear hb1
  go_wp2_with fail
  refine (rnarrow_e r (mulR r a x) _ _ p fv _ rfl rfl EP.out EF.out).mono ?_
  rintro e w1 ⟨rfl, hb1⟩; obtain ⟨⟨dd8, oo8⟩, rfl⟩ := regrown_of_below hb1; clear hb1
  go_wp2_with fail
  refine (live2_any _ (hN.out.grown (by repeat (first | with_reducible refine blg ?_ _ _ | with_reducible refine bla ?_ _ | with_reducible exact Below.refl _ _)))).mono ?_
  rintro e w1 ⟨rfl, hb1⟩; obtain ⟨⟨dd9, oo9⟩, rfl⟩ := regrown_of_below hb1; clear hb1
  go_wp2_with fail
  refine (rmul_e r one x _ _ x _ on1 on2 x1 x2 rfl rfl D2.out).mono ?_
  rintro e w1 ⟨rfl, hb1⟩; obtain ⟨⟨dd10, oo10⟩, rfl⟩ := regrown_of_below hb1; clear hb1
  go_wp2_with fail
  refine (rof_e x _ _ x1 x2 rfl).mono ?_
  rintro e w1 ⟨rfl, hb1⟩; obtain ⟨⟨dd11, oo11⟩, rfl⟩ := regrown_of_below hb1; clear hb1
  go_wp2_with fail
  refine wp_region_grown' (by kernel_rfl) (by kernel_rfl) ?_
  repeat (go_big_quiet_step (first
    | (go_at_call 10; exact Calls.regrown_of (rzero_to r z0 _ hr.out Z.out))
    | (go_at_call 16; exact Calls.regrown_of (rmul_e r a z0 _ _ z0 _ a1 a2 z01 z02 rfl rfl D3.out))
    | (go_at_call 16; exact Calls.regrown_of (rmul_e r z0 x _ _ z0 _ z01 z02 x1 x2 rfl rfl D4.out))))
  refine wpQuiet_nil ?_
  rintro _ ⟨⟨d9, o9⟩, rfl⟩
  go_wp2
  go_ret
  exact ⟨rfl, (by repeat (first | with_reducible refine blg ?_ _ _ | with_reducible refine bla ?_ _ | with_reducible exact Below.refl _ _))⟩

attribute [local semireducible] hi lo sv nv nb cmp mulR addR zeroR oneR valR facR isR lsr

theorem spA_f (r n0 n1 n2 : Int) (w : World) (hN : Names w) (hr : r = 1 ∨ r = 2 ∨ r = 3 ∨ r = 4 ∨ r = 5) (H5 : (r == 5) = false) (HJ : true = (oneR r).2) (sp : Spreads r (facR r n0) (valR r n1) (valR r n2))
    (hok : nb (addR r (valR r n1) (valR r n2)) = true) (b0 : -9223372036854775808 ≤ n0 ∧ n0 ≤ 9223372036854775807) (b1 : -9223372036854775808 ≤ n1 ∧ n1 ≤ 9223372036854775807) (b2 : -9223372036854775808 ≤ n2 ∧ n2 ≤ 9223372036854775807) (hfv : nb (mulR r (facR r n0) (valR r n1)) = true) (hR : ∀ w : World, Calls Tryd.prog 13 #[.int .i64 r, .int .i64 (nv (mulR r (facR r n0) (valR r n1)))] w fun e w1 => e = .returned (.bool true) ∧ Below w.heap.size w w1) :
    Calls Tryd.prog 4 #[.int .i64 r, .agg #[.int .i64 n0, .int .i64 n1, .int .i64 n2]] w fun e w' => e = .returned (.bool true) ∧ Below w.heap.size w w' := by
  have fb := fac_bd r n0 hr b0.1 b0.2
  have v1 := val_bd r n1 b1.1 b1.2
  have v2 := val_bd r n2 b2.1 b2.2
  have ob : -9223372036854775808 ≤ (oneR r).1 ∧ (oneR r).1 ≤ 9223372036854775807 := by unfold oneR; split <;> (try split) <;> decide
  have zb : -9223372036854775808 ≤ zeroR r ∧ zeroR r ≤ 9223372036854775807 := by unfold zeroR; split <;> decide
  exact spA r n0 n1 n2 (facR r n0) (valR r n1) (valR r n2) (nv (addR r (valR r n1) (valR r n2))) (oneR r).1 (zeroR r) (nv (mulR r (facR r n0) (valR r n1))) (nb (mulR r (facR r n0) (valR r n1))) w (Lib.hid hN) (Lib.hid hr) H5 (Lib.hid rfl) (Lib.hid rfl) (Lib.hid rfl) fb.1 fb.2 v1.1 v1.2 v2.1 v2.2 (nv_bd _).1 (nv_bd _).2 ob.1 ob.2 zb.1 zb.2 (Lib.hid rfl) (Lib.hid rfl) (Lib.hid hok.symm) (Lib.hid rfl) (Lib.hid HJ) (Lib.hid rfl) (Lib.hid rfl) (Lib.hid (sp.d1 hok).symm) (Lib.hid (sp.d2 HJ.symm).symm) (Lib.hid sp.d3.symm) (Lib.hid sp.d4.symm) (Lib.hid (isR_t r (by omega) (by omega)).symm) hfv (Lib.hid hR)

theorem spB_f (r n0 n1 n2 : Int) (w : World) (hN : Names w) (hr : r = 1 ∨ r = 2 ∨ r = 3 ∨ r = 4 ∨ r = 5) (H5 : (r == 5) = false) (HJ : false = (oneR r).2) (sp : Spreads r (facR r n0) (valR r n1) (valR r n2))
    (hok : nb (addR r (valR r n1) (valR r n2)) = true) (b0 : -9223372036854775808 ≤ n0 ∧ n0 ≤ 9223372036854775807) (b1 : -9223372036854775808 ≤ n1 ∧ n1 ≤ 9223372036854775807) (b2 : -9223372036854775808 ≤ n2 ∧ n2 ≤ 9223372036854775807) (hfv : nb (mulR r (facR r n0) (valR r n1)) = true) (hR : ∀ w : World, Calls Tryd.prog 13 #[.int .i64 r, .int .i64 (nv (mulR r (facR r n0) (valR r n1)))] w fun e w1 => e = .returned (.bool true) ∧ Below w.heap.size w w1) :
    Calls Tryd.prog 4 #[.int .i64 r, .agg #[.int .i64 n0, .int .i64 n1, .int .i64 n2]] w fun e w' => e = .returned (.bool true) ∧ Below w.heap.size w w' := by
  have fb := fac_bd r n0 hr b0.1 b0.2
  have v1 := val_bd r n1 b1.1 b1.2
  have v2 := val_bd r n2 b2.1 b2.2
  have ob : -9223372036854775808 ≤ (oneR r).1 ∧ (oneR r).1 ≤ 9223372036854775807 := by unfold oneR; split <;> (try split) <;> decide
  have zb : -9223372036854775808 ≤ zeroR r ∧ zeroR r ≤ 9223372036854775807 := by unfold zeroR; split <;> decide
  exact spB r n0 n1 n2 (facR r n0) (valR r n1) (valR r n2) (nv (addR r (valR r n1) (valR r n2))) (oneR r).1 (zeroR r) (nv (mulR r (facR r n0) (valR r n1))) (nb (mulR r (facR r n0) (valR r n1))) w (Lib.hid hN) (Lib.hid hr) H5 (Lib.hid rfl) (Lib.hid rfl) (Lib.hid rfl) fb.1 fb.2 v1.1 v1.2 v2.1 v2.2 (nv_bd _).1 (nv_bd _).2 ob.1 ob.2 zb.1 zb.2 (Lib.hid rfl) (Lib.hid rfl) (Lib.hid hok.symm) (Lib.hid rfl) (Lib.hid HJ) (Lib.hid rfl) (Lib.hid rfl) (Lib.hid (sp.d1 hok).symm)  (Lib.hid sp.d3.symm) (Lib.hid sp.d4.symm) (Lib.hid (isR_t r (by omega) (by omega)).symm) hfv (Lib.hid hR)

theorem spC_f (r n0 n1 n2 : Int) (w : World) (hN : Names w) (hr : r = 1 ∨ r = 2 ∨ r = 3 ∨ r = 4 ∨ r = 5) (H5 : (r == 5) = true) (HJ : true = (oneR r).2) (sp : Spreads r (facR r n0) (valR r n1) (valR r n2))
    (hok : nb (addR r (valR r n1) (valR r n2)) = true) (b0 : -9223372036854775808 ≤ n0 ∧ n0 ≤ 9223372036854775807) (b1 : -9223372036854775808 ≤ n1 ∧ n1 ≤ 9223372036854775807) (b2 : -9223372036854775808 ≤ n2 ∧ n2 ≤ 9223372036854775807) :
    Calls Tryd.prog 4 #[.int .i64 r, .agg #[.int .i64 n0, .int .i64 n1, .int .i64 n2]] w fun e w' => e = .returned (.bool true) ∧ Below w.heap.size w w' := by
  have fb := fac_bd r n0 hr b0.1 b0.2
  have v1 := val_bd r n1 b1.1 b1.2
  have v2 := val_bd r n2 b2.1 b2.2
  have ob : -9223372036854775808 ≤ (oneR r).1 ∧ (oneR r).1 ≤ 9223372036854775807 := by unfold oneR; split <;> (try split) <;> decide
  have zb : -9223372036854775808 ≤ zeroR r ∧ zeroR r ≤ 9223372036854775807 := by unfold zeroR; split <;> decide
  exact spC r n0 n1 n2 (facR r n0) (valR r n1) (valR r n2) (nv (addR r (valR r n1) (valR r n2))) (oneR r).1 (zeroR r) (nv (mulR r (facR r n0) (valR r n1))) (nb (mulR r (facR r n0) (valR r n1))) w (Lib.hid hN) (Lib.hid hr) H5 (Lib.hid rfl) (Lib.hid rfl) (Lib.hid rfl) fb.1 fb.2 v1.1 v1.2 v2.1 v2.2 (nv_bd _).1 (nv_bd _).2 ob.1 ob.2 zb.1 zb.2 (Lib.hid rfl) (Lib.hid rfl) (Lib.hid hok.symm) (Lib.hid rfl) (Lib.hid HJ) (Lib.hid rfl) (Lib.hid rfl) (Lib.hid (sp.d1 hok).symm) (Lib.hid (sp.d2 HJ.symm).symm) (Lib.hid sp.d3.symm) (Lib.hid sp.d4.symm) (Lib.hid (isR_t r (by omega) (by omega)).symm)

theorem spD_f (r n0 n1 n2 : Int) (w : World) (hN : Names w) (hr : r = 1 ∨ r = 2 ∨ r = 3 ∨ r = 4 ∨ r = 5) (H5 : (r == 5) = true) (HJ : true = (oneR r).2) (sp : Spreads r (facR r n0) (valR r n1) (valR r n2))
    (hok : nb (addR r (valR r n1) (valR r n2)) = false) (b0 : -9223372036854775808 ≤ n0 ∧ n0 ≤ 9223372036854775807) (b1 : -9223372036854775808 ≤ n1 ∧ n1 ≤ 9223372036854775807) (b2 : -9223372036854775808 ≤ n2 ∧ n2 ≤ 9223372036854775807) :
    Calls Tryd.prog 4 #[.int .i64 r, .agg #[.int .i64 n0, .int .i64 n1, .int .i64 n2]] w fun e w' => e = .returned (.bool true) ∧ Below w.heap.size w w' := by
  have fb := fac_bd r n0 hr b0.1 b0.2
  have v1 := val_bd r n1 b1.1 b1.2
  have v2 := val_bd r n2 b2.1 b2.2
  have ob : -9223372036854775808 ≤ (oneR r).1 ∧ (oneR r).1 ≤ 9223372036854775807 := by unfold oneR; split <;> (try split) <;> decide
  have zb : -9223372036854775808 ≤ zeroR r ∧ zeroR r ≤ 9223372036854775807 := by unfold zeroR; split <;> decide
  exact spD r n0 n1 n2 (facR r n0) (valR r n1) (valR r n2) (nv (addR r (valR r n1) (valR r n2))) (oneR r).1 (zeroR r) (nv (mulR r (facR r n0) (valR r n1))) (nb (mulR r (facR r n0) (valR r n1))) w (Lib.hid hN) (Lib.hid hr) H5 (Lib.hid rfl) (Lib.hid rfl) (Lib.hid rfl) fb.1 fb.2 v1.1 v1.2 v2.1 v2.2 (nv_bd _).1 (nv_bd _).2 ob.1 ob.2 zb.1 zb.2 (Lib.hid rfl) (Lib.hid rfl) (Lib.hid hok.symm) (Lib.hid rfl) (Lib.hid HJ) (Lib.hid rfl) (Lib.hid rfl)  (Lib.hid (sp.d2 HJ.symm).symm) (Lib.hid sp.d3.symm) (Lib.hid sp.d4.symm) (Lib.hid (isR_t r (by omega) (by omega)).symm)

set_option maxRecDepth 100000 in
theorem ringSpreads_any (r n0 n1 n2 : Int) (w : World) (hN : Names w) (b0 : -9223372036854775808 ≤ n0 ∧ n0 ≤ 9223372036854775807) (b1 : -9223372036854775808 ≤ n1 ∧ n1 ≤ 9223372036854775807) (b2 : -9223372036854775808 ≤ n2 ∧ n2 ≤ 9223372036854775807) :
    Calls Tryd.prog 4 #[.int .i64 r, .agg #[.int .i64 n0, .int .i64 n1, .int .i64 n2]] w fun e w' => e = .returned (.bool true) ∧ Below w.heap.size w w' := by
  have hc : r = 1 ∨ r = 2 ∨ r = 3 ∨ r = 4 ∨ r = 5 ∨ (r < 1 ∨ 5 < r) := by omega
  have low : ∀ q n : Int, ¬ q = 5 → ¬ q = 2 → Low (facR q n) := fun q n h5 h2 => by rw [facR_small q n h5]; exact val_low q n h5 h2
  rcases hc with rfl | rfl | rfl | rfl | rfl | ho
  · have lf := low 1 n0 (by decide) (by decide)
    have l1 := val_low 1 n1 (by decide) (by decide)
    have l2 := val_low 1 n2 (by decide) (by decide)
    have fl := fits_low 1 _ _ (by decide) lf l1
    have hok : nb (addR 1 (valR 1 n1) (valR 1 n2)) = true := low_add 1 _ _ (by decide) l1 l2
    exact spA_f 1 n0 n1 n2 w hN (by decide) (by decide) (by decide) (spreads1 _ _ _ lf l1 l2) hok b0 b1 b2 fl.1 (fun w => right_low 1 _ w (by decide) fl.2)
  · have lf : facR 2 n0 = 0 ∨ facR 2 n0 = 1 := by rw [facR_small 2 n0 (by decide)]; exact val_or n0
    have l1 := val_or n1
    have l2 := val_or n2
    have fl := fits_or _ _ lf l1
    have hok : nb (addR 2 (valR 2 n1) (valR 2 n2)) = true := or_add _ _ l1 l2
    exact spA_f 2 n0 n1 n2 w hN (by decide) (by decide) (by decide) (spreads2 _ _ _ lf l1 l2) hok b0 b1 b2 fl.1 (fun w => right_or _ w fl.2)
  · have lf := low 3 n0 (by decide) (by decide)
    have l1 := val_low 3 n1 (by decide) (by decide)
    have l2 := val_low 3 n2 (by decide) (by decide)
    have fl := fits_low 3 _ _ (by decide) lf l1
    have hok : nb (addR 3 (valR 3 n1) (valR 3 n2)) = true := low_add 3 _ _ (by decide) l1 l2
    exact spB_f 3 n0 n1 n2 w hN (by decide) (by decide) (by decide) (spreads3 _ _ _ lf l1 l2) hok b0 b1 b2 fl.1 (fun w => right_low 3 _ w (by decide) fl.2)
  · have lf := low 4 n0 (by decide) (by decide)
    have l1 := val_low 4 n1 (by decide) (by decide)
    have l2 := val_low 4 n2 (by decide) (by decide)
    have fl := fits_low 4 _ _ (by decide) lf l1
    have hok : nb (addR 4 (valR 4 n1) (valR 4 n2)) = true := low_add 4 _ _ (by decide) l1 l2
    exact spB_f 4 n0 n1 n2 w hN (by decide) (by decide) (by decide) (spreads4 _ _ _ lf l1 l2) hok b0 b1 b2 fl.1 (fun w => right_low 4 _ w (by decide) fl.2)
  · have v1 := val_bd 5 n1 b1.1 b1.2
    have v2 := val_bd 5 n2 b2.1 b2.2
    have sp := spreads5 (facR 5 n0) _ _ v1.1 v1.2 v2.1 v2.2
    cases hok : nb (addR 5 (valR 5 n1) (valR 5 n2)) with
    | true => exact spC_f 5 n0 n1 n2 w hN (by decide) (by decide) (by decide) sp hok b0 b1 b2
    | false => exact spD_f 5 n0 n1 n2 w hN (by decide) (by decide) (by decide) sp hok b0 b1 b2
  · have hi := isR_f r ho
    have HI := Lib.hid hi.symm
    clear hi low
    go_enter Tryd.func4, Tryd.ntmps4
    go_wp2_with fail
    refine (rref_is r false _ HI.out).mono ?_
    rintro e w1 ⟨rfl, hb1⟩; obtain ⟨⟨d1, o1⟩, rfl⟩ := regrown_of_below hb1; clear hb1
    go_wp2_with fail
    refine (live2_any _ (hN.grown (by repeat (first | with_reducible refine blg ?_ _ _ | with_reducible refine bla ?_ _ | with_reducible exact Below.refl _ _)))).mono ?_
    rintro e w1 ⟨rfl, hb1⟩; obtain ⟨⟨d2, o2⟩, rfl⟩ := regrown_of_below hb1; clear hb1
    go_wp2
    go_ret
    exact ⟨rfl, (by repeat (first | with_reducible refine blg ?_ _ _ | with_reducible refine bla ?_ _ | with_reducible exact Below.refl _ _))⟩
end Go.Proofs.YtekkgidoblddfaaDoorRR
