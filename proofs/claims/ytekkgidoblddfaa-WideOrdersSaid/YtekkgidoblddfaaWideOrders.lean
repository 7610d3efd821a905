/- The law of package wide's order. -/
import Derived.Test.YtekkgidoblddfaaWideLaws
import Derived.Test.YtekkgidoblddfaaAlloc
namespace Go.Proofs.Ytekkgidoblddfaa
open Go.RowKit Go.Sort

theorem cmp_bd (x y : Int) : -1 ≤ cmp x y ∧ cmp x y ≤ 1 := by unfold cmp; split <;> (try split) <;> omega
theorem cmp_neg (x y : Int) : -cmp x y = cmp y x := by unfold cmp; split <;> split <;> (try split) <;> (try split) <;> omega
theorem cmp_trans (x y z : Int) (h : cmp x y ≤ 0) (k : cmp y z ≤ 0) : cmp x z ≤ 0 := by
  unfold cmp at *; split at h <;> (try split at h) <;> split at k <;> (try split at k) <;> split <;> (try split) <;> omega
theorem cmp_more (x : Int) (l : -170141183460469231731687303715884105728 ≤ x) (r : x < 170141183460469231731687303715884105727) : -1 = cmp x (x + 1) := by
  unfold cmp; rw [sv_in x l (by omega), sv_in (x + 1) (by omega) (by omega), if_pos (by omega)]
theorem top_yes : (hi 170141183460469231731687303715884105727 == 9223372036854775807 && lo 170141183460469231731687303715884105727 == 18446744073709551615) = true := by decide
theorem top_no (x : Int) (l : -170141183460469231731687303715884105728 ≤ x) (r : x < 170141183460469231731687303715884105727) : (hi x == 9223372036854775807 && lo x == 18446744073709551615) = false := by
  have e := sv_in x l (by omega)
  unfold sv at e
  simp only [Bool.and_eq_false_iff, beq_eq_false_iff_ne, ne_eq]
  omega
theorem one_no (x y : Int) (l : -170141183460469231731687303715884105728 ≤ x) (r : x < 170141183460469231731687303715884105728) (l2 : -170141183460469231731687303715884105728 ≤ y) (r2 : y < 170141183460469231731687303715884105728) (h : ¬ x = y) :
    (hi x == hi y && lo x == lo y) = false ∧ (cmp x y == 0) = false := by
  have e := sv_in x l r
  have e2 := sv_in y l2 r2
  constructor
  · unfold sv at e e2
    simp only [Bool.and_eq_false_iff, beq_eq_false_iff_ne, ne_eq]
    omega
  · unfold cmp; rw [e, e2]; simp only [beq_eq_false_iff_ne, ne_eq]; split <;> (try split) <;> omega
theorem cmp_self (x : Int) : cmp x x = 0 := by unfold cmp; rw [if_neg (by omega), if_pos rfl]

attribute [local irreducible] hi lo

/-- The facts of a case, hidden from the walk where they are equations. -/
theorem cmp_ab (a b : Int) (la : -170141183460469231731687303715884105728 ≤ a) (ra : a < 170141183460469231731687303715884105728) (lb : -170141183460469231731687303715884105728 ≤ b) (rb : b < 170141183460469231731687303715884105728) :
    ((cmp a b == 0) = true ∧ (hi a == hi b && lo a == lo b) = true) ∨ ((cmp a b == 0) = false ∧ (hi a == hi b && lo a == lo b) = false) := by
  by_cases h : a = b
  · subst h; exact Or.inl ⟨by rw [cmp_self]; rfl, by simp⟩
  · have := one_no a b la ra lb rb h; exact Or.inr ⟨this.2, this.1⟩

set_option maxRecDepth 100000 in
set_option maxHeartbeats 8000000 in
theorem wo_to (a b c : Int) (w : World) (la : -170141183460469231731687303715884105728 ≤ a) (ra : a < 170141183460469231731687303715884105728) (lb : -170141183460469231731687303715884105728 ≤ b) (rb : b < 170141183460469231731687303715884105728) (k : 0 < cmp a b ∨ (cmp a b ≤ 0 ∧ 0 < cmp b c) ∨ (cmp a b ≤ 0 ∧ cmp b c ≤ 0 ∧ cmp a c ≤ 0)) (hok : nb a = true) (ht : (hi a == 9223372036854775807 && lo a == 18446744073709551615) = true) :
    Calls Try.prog 8 #[W a, W b, W c] w fun e w' => e = .returned (.bool true) ∧ Below w.heap.size w w' := by
  have hn := nb_in a hok la ra
  have m1 := hn.1
  have m2 := hn.2.1
  have Hv := Lib.hid hn.2.2
  clear hn
  have Hok := Lib.hid hok.symm
  clear hok
  have cb := cmp_bd a b
  have cn : -9223372036854775808 ≤ -cmp a b := by omega
  have cm : -cmp a b ≤ 9223372036854775807 := by omega
  rcases cmp_ab a b la ra lb rb with ⟨g1, g2⟩ | ⟨g1, g2⟩ <;> rcases k with k1 | ⟨k1, k2⟩ | ⟨k1, k2, k3⟩
  all_goals clear la ra lb rb
  all_goals try (have kd1 : decide (0 < cmp a b) = false := by (simp; omega))
  all_goals try (have kd2 : decide (0 < cmp b c) = false := by (simp; omega))
  all_goals try (have kd3 : decide (cmp a c ≤ 0) = true := by (simp; omega))
  all_goals
    go_enter Try.func8, Try.ntmps8
    go_wp2_with fail
    refine wp_region_alloc (X := .cells #[.int .i64 0, .int .u64 0] 24) 3 (by kernel_rfl) (gr_one _) rfl rfl rfl (by kernel_rfl) (fun _ _ => by go_simp) ?_
    simp only [List.take_succ_cons, List.take_zero, List.drop_succ_cons, List.drop_zero]
    repeat (refine wpFirm_step (fun K hK => ?_); go_simp; first
      | (refine hK _ ?_; clear hK K)
      | (apply Exists.intro; refine ⟨fun _ => ?_, hK _ ?_⟩; (first
        | (go_at_call 14; exact Calls.firm (of_any 1 _ (by decide) (by decide)))
        | (go_at_call 18; exact Calls.firm (add_any _ _ _))); clear hK K))
    refine wpFirm_nil ?_
    intro d0 o0 d1 o1
    go_wp2_with fail
    refine wp_region_quiet_below (by kernel_rfl) (by kernel_rfl) ?_
    repeat (go_big_quiet_step ((go_at_call 16; exact Calls.regrown_of (compare_any _ _ _))))
    refine wpQuiet_nil ?_
    rintro _ ⟨⟨d2, o2⟩, rfl⟩
    go_wp2_with ((go_at_call 11; (with_reducible refine (narrow_z a a true _ Hv.out Hok.out).mono ?_); rintro e w1 ⟨rfl, hb1⟩; obtain ⟨⟨d1, o1⟩, rfl⟩ := regrown_of_below hb1; clear hb1))
    refine wp_region_grown' (by kernel_rfl) (by kernel_rfl) ?_
    repeat (go_big_quiet_step (first
      | (go_at_call 13; exact Calls.regrown_of (live_any _))
      | (go_at_call 16; exact Calls.regrown_of (compare_to b a _ _ _ _ (-cmp a b) _ rfl rfl rfl rfl (cmp_neg a b)))
      | (go_at_call 14; exact Calls.regrown_of (of_any a _ m1 m2))))
    refine wpQuiet_nil ?_
    rintro _ ⟨⟨d9, o9⟩, rfl⟩
    go_wp2
    go_ret
    exact ⟨rfl, (by repeat (first | with_reducible refine blg ?_ _ _ | with_reducible refine bla ?_ _ | with_reducible exact Below.refl _ _))⟩

set_option maxRecDepth 100000 in
set_option maxHeartbeats 8000000 in
theorem wo_tf (a b c : Int) (w : World) (la : -170141183460469231731687303715884105728 ≤ a) (ra : a < 170141183460469231731687303715884105728) (lb : -170141183460469231731687303715884105728 ≤ b) (rb : b < 170141183460469231731687303715884105728) (k : 0 < cmp a b ∨ (cmp a b ≤ 0 ∧ 0 < cmp b c) ∨ (cmp a b ≤ 0 ∧ cmp b c ≤ 0 ∧ cmp a c ≤ 0)) (hok : nb a = false) (ht : (hi a == 9223372036854775807 && lo a == 18446744073709551615) = true) :
    Calls Try.prog 8 #[W a, W b, W c] w fun e w' => e = .returned (.bool true) ∧ Below w.heap.size w w' := by
  have Hv := Lib.hid (nb_out a hok)
  have Hok := Lib.hid hok.symm
  clear hok
  have cb := cmp_bd a b
  have cn : -9223372036854775808 ≤ -cmp a b := by omega
  have cm : -cmp a b ≤ 9223372036854775807 := by omega
  rcases cmp_ab a b la ra lb rb with ⟨g1, g2⟩ | ⟨g1, g2⟩ <;> rcases k with k1 | ⟨k1, k2⟩ | ⟨k1, k2, k3⟩
  all_goals clear la ra lb rb
  all_goals try (have kd1 : decide (0 < cmp a b) = false := by (simp; omega))
  all_goals try (have kd2 : decide (0 < cmp b c) = false := by (simp; omega))
  all_goals try (have kd3 : decide (cmp a c ≤ 0) = true := by (simp; omega))
  all_goals
    go_enter Try.func8, Try.ntmps8
    go_wp2_with fail
    refine wp_region_alloc (X := .cells #[.int .i64 0, .int .u64 0] 24) 3 (by kernel_rfl) (gr_one _) rfl rfl rfl (by kernel_rfl) (fun _ _ => by go_simp) ?_
    simp only [List.take_succ_cons, List.take_zero, List.drop_succ_cons, List.drop_zero]
    repeat (refine wpFirm_step (fun K hK => ?_); go_simp; first
      | (refine hK _ ?_; clear hK K)
      | (apply Exists.intro; refine ⟨fun _ => ?_, hK _ ?_⟩; (first
        | (go_at_call 14; exact Calls.firm (of_any 1 _ (by decide) (by decide)))
        | (go_at_call 18; exact Calls.firm (add_any _ _ _))); clear hK K))
    refine wpFirm_nil ?_
    intro d0 o0 d1 o1
    go_wp2_with fail
    refine wp_region_quiet_below (by kernel_rfl) (by kernel_rfl) ?_
    repeat (go_big_quiet_step ((go_at_call 16; exact Calls.regrown_of (compare_any _ _ _))))
    refine wpQuiet_nil ?_
    rintro _ ⟨⟨d2, o2⟩, rfl⟩
    go_wp2_with ((go_at_call 11; (with_reducible refine (narrow_z a 0 false _ Hv.out Hok.out).mono ?_); rintro e w1 ⟨rfl, hb1⟩; obtain ⟨⟨d1, o1⟩, rfl⟩ := regrown_of_below hb1; clear hb1))
    refine wp_region_grown' (by kernel_rfl) (by kernel_rfl) ?_
    repeat (go_big_quiet_step (first
      | (go_at_call 13; exact Calls.regrown_of (live_any _))
      | (go_at_call 16; exact Calls.regrown_of (compare_to b a _ _ _ _ (-cmp a b) _ rfl rfl rfl rfl (cmp_neg a b)))))
    refine wpQuiet_nil ?_
    rintro _ ⟨⟨d9, o9⟩, rfl⟩
    go_wp2
    go_ret
    exact ⟨rfl, (by repeat (first | with_reducible refine blg ?_ _ _ | with_reducible refine bla ?_ _ | with_reducible exact Below.refl _ _))⟩

set_option maxRecDepth 100000 in
set_option maxHeartbeats 8000000 in
theorem wo_no (a b c : Int) (w : World) (la : -170141183460469231731687303715884105728 ≤ a) (ra : a < 170141183460469231731687303715884105728) (lb : -170141183460469231731687303715884105728 ≤ b) (rb : b < 170141183460469231731687303715884105728) (k : 0 < cmp a b ∨ (cmp a b ≤ 0 ∧ 0 < cmp b c) ∨ (cmp a b ≤ 0 ∧ cmp b c ≤ 0 ∧ cmp a c ≤ 0)) (hok : nb a = true) (ht : (hi a == 9223372036854775807 && lo a == 18446744073709551615) = false) (hm : -1 = cmp a (a + 1)) :
    Calls Try.prog 8 #[W a, W b, W c] w fun e w' => e = .returned (.bool true) ∧ Below w.heap.size w w' := by
  have hn := nb_in a hok la ra
  have m1 := hn.1
  have m2 := hn.2.1
  have Hv := Lib.hid hn.2.2
  clear hn
  have Hok := Lib.hid hok.symm
  clear hok
  have Hmore := Lib.hid hm
  clear hm
  have cb := cmp_bd a b
  have cn : -9223372036854775808 ≤ -cmp a b := by omega
  have cm : -cmp a b ≤ 9223372036854775807 := by omega
  rcases cmp_ab a b la ra lb rb with ⟨g1, g2⟩ | ⟨g1, g2⟩ <;> rcases k with k1 | ⟨k1, k2⟩ | ⟨k1, k2, k3⟩
  all_goals clear la ra lb rb
  all_goals try (have kd1 : decide (0 < cmp a b) = false := by (simp; omega))
  all_goals try (have kd2 : decide (0 < cmp b c) = false := by (simp; omega))
  all_goals try (have kd3 : decide (cmp a c ≤ 0) = true := by (simp; omega))
  all_goals
    go_enter Try.func8, Try.ntmps8
    go_wp2_with fail
    refine wp_region_alloc (X := .cells #[.int .i64 0, .int .u64 0] 24) 3 (by kernel_rfl) (gr_one _) rfl rfl rfl (by kernel_rfl) (fun _ _ => by go_simp) ?_
    simp only [List.take_succ_cons, List.take_zero, List.drop_succ_cons, List.drop_zero]
    repeat (refine wpFirm_step (fun K hK => ?_); go_simp; first
      | (refine hK _ ?_; clear hK K)
      | (apply Exists.intro; refine ⟨fun _ => ?_, hK _ ?_⟩; (first
        | (go_at_call 14; exact Calls.firm (of_any 1 _ (by decide) (by decide)))
        | (go_at_call 18; exact Calls.firm (add_any _ _ _))); clear hK K))
    refine wpFirm_nil ?_
    intro d0 o0 d1 o1
    go_wp2_with fail
    refine wp_region_quiet_below (by kernel_rfl) (by kernel_rfl) ?_
    repeat (go_big_quiet_step ((go_at_call 16; exact Calls.regrown_of (compare_any _ _ _))))
    refine wpQuiet_nil ?_
    rintro _ ⟨⟨d2, o2⟩, rfl⟩
    go_wp2_with ((go_at_call 11; (with_reducible refine (narrow_z a a true _ Hv.out Hok.out).mono ?_); rintro e w1 ⟨rfl, hb1⟩; obtain ⟨⟨d1, o1⟩, rfl⟩ := regrown_of_below hb1; clear hb1))
    refine wp_region_grown' (by kernel_rfl) (by kernel_rfl) ?_
    repeat (go_big_quiet_step (first
      | (go_at_call 13; exact Calls.regrown_of (live_any _))
      | (go_at_call 16; exact Calls.regrown_of (compare_to a (a + 1) _ _ _ _ (-1) _ rfl rfl rfl rfl Hmore.out))
      | (go_at_call 16; exact Calls.regrown_of (compare_to b a _ _ _ _ (-cmp a b) _ rfl rfl rfl rfl (cmp_neg a b)))
      | (go_at_call 14; exact Calls.regrown_of (of_any a _ m1 m2))))
    refine wpQuiet_nil ?_
    rintro _ ⟨⟨d9, o9⟩, rfl⟩
    go_wp2
    go_ret
    exact ⟨rfl, (by repeat (first | with_reducible refine blg ?_ _ _ | with_reducible refine bla ?_ _ | with_reducible exact Below.refl _ _))⟩

set_option maxRecDepth 100000 in
set_option maxHeartbeats 8000000 in
theorem wo_nf (a b c : Int) (w : World) (la : -170141183460469231731687303715884105728 ≤ a) (ra : a < 170141183460469231731687303715884105728) (lb : -170141183460469231731687303715884105728 ≤ b) (rb : b < 170141183460469231731687303715884105728) (k : 0 < cmp a b ∨ (cmp a b ≤ 0 ∧ 0 < cmp b c) ∨ (cmp a b ≤ 0 ∧ cmp b c ≤ 0 ∧ cmp a c ≤ 0)) (hok : nb a = false) (ht : (hi a == 9223372036854775807 && lo a == 18446744073709551615) = false) (hm : -1 = cmp a (a + 1)) :
    Calls Try.prog 8 #[W a, W b, W c] w fun e w' => e = .returned (.bool true) ∧ Below w.heap.size w w' := by
  have Hv := Lib.hid (nb_out a hok)
  have Hok := Lib.hid hok.symm
  clear hok
  have Hmore := Lib.hid hm
  clear hm
  have cb := cmp_bd a b
  have cn : -9223372036854775808 ≤ -cmp a b := by omega
  have cm : -cmp a b ≤ 9223372036854775807 := by omega
  rcases cmp_ab a b la ra lb rb with ⟨g1, g2⟩ | ⟨g1, g2⟩ <;> rcases k with k1 | ⟨k1, k2⟩ | ⟨k1, k2, k3⟩
  all_goals clear la ra lb rb
  all_goals try (have kd1 : decide (0 < cmp a b) = false := by (simp; omega))
  all_goals try (have kd2 : decide (0 < cmp b c) = false := by (simp; omega))
  all_goals try (have kd3 : decide (cmp a c ≤ 0) = true := by (simp; omega))
  all_goals
    go_enter Try.func8, Try.ntmps8
    go_wp2_with fail
    refine wp_region_alloc (X := .cells #[.int .i64 0, .int .u64 0] 24) 3 (by kernel_rfl) (gr_one _) rfl rfl rfl (by kernel_rfl) (fun _ _ => by go_simp) ?_
    simp only [List.take_succ_cons, List.take_zero, List.drop_succ_cons, List.drop_zero]
    repeat (refine wpFirm_step (fun K hK => ?_); go_simp; first
      | (refine hK _ ?_; clear hK K)
      | (apply Exists.intro; refine ⟨fun _ => ?_, hK _ ?_⟩; (first
        | (go_at_call 14; exact Calls.firm (of_any 1 _ (by decide) (by decide)))
        | (go_at_call 18; exact Calls.firm (add_any _ _ _))); clear hK K))
    refine wpFirm_nil ?_
    intro d0 o0 d1 o1
    go_wp2_with fail
    refine wp_region_quiet_below (by kernel_rfl) (by kernel_rfl) ?_
    repeat (go_big_quiet_step ((go_at_call 16; exact Calls.regrown_of (compare_any _ _ _))))
    refine wpQuiet_nil ?_
    rintro _ ⟨⟨d2, o2⟩, rfl⟩
    go_wp2_with ((go_at_call 11; (with_reducible refine (narrow_z a 0 false _ Hv.out Hok.out).mono ?_); rintro e w1 ⟨rfl, hb1⟩; obtain ⟨⟨d1, o1⟩, rfl⟩ := regrown_of_below hb1; clear hb1))
    refine wp_region_grown' (by kernel_rfl) (by kernel_rfl) ?_
    repeat (go_big_quiet_step (first
      | (go_at_call 13; exact Calls.regrown_of (live_any _))
      | (go_at_call 16; exact Calls.regrown_of (compare_to a (a + 1) _ _ _ _ (-1) _ rfl rfl rfl rfl Hmore.out))
      | (go_at_call 16; exact Calls.regrown_of (compare_to b a _ _ _ _ (-cmp a b) _ rfl rfl rfl rfl (cmp_neg a b)))))
    refine wpQuiet_nil ?_
    rintro _ ⟨⟨d9, o9⟩, rfl⟩
    go_wp2
    go_ret
    exact ⟨rfl, (by repeat (first | with_reducible refine blg ?_ _ _ | with_reducible refine bla ?_ _ | with_reducible exact Below.refl _ _))⟩

theorem wideOrders_any (a b c : Int) (w : World) (la : -170141183460469231731687303715884105728 ≤ a) (ra : a < 170141183460469231731687303715884105728) (lb : -170141183460469231731687303715884105728 ≤ b) (rb : b < 170141183460469231731687303715884105728) :
    Calls Try.prog 8 #[W a, W b, W c] w fun e w' => e = .returned (.bool true) ∧ Below w.heap.size w w' := by
  have k : 0 < cmp a b ∨ (cmp a b ≤ 0 ∧ 0 < cmp b c) ∨ (cmp a b ≤ 0 ∧ cmp b c ≤ 0 ∧ cmp a c ≤ 0) := by
    by_cases h : 0 < cmp a b
    · exact Or.inl h
    · by_cases g : 0 < cmp b c
      · exact Or.inr (Or.inl ⟨by omega, g⟩)
      · exact Or.inr (Or.inr ⟨by omega, by omega, cmp_trans a b c (by omega) (by omega)⟩)
  by_cases ht : a = 170141183460469231731687303715884105727
  · have t1 : (hi a == 9223372036854775807 && lo a == 18446744073709551615) = true := by rw [ht]; exact top_yes
    cases hok : nb a with
    | true => exact wo_to a b c w la ra lb rb k hok t1
    | false => exact wo_tf a b c w la ra lb rb k hok t1
  · have t1 := top_no a la (by omega)
    have hm := cmp_more a la (by omega)
    cases hok : nb a with
    | true => exact wo_no a b c w la ra lb rb k hok t1 hm
    | false => exact wo_nf a b c w la ra lb rb k hok t1 hm
end Go.Proofs.Ytekkgidoblddfaa
