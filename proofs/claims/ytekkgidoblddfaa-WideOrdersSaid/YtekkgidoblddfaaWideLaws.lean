/- The laws of package wide: their walks. -/
import Derived.Test.YtekkgidoblddfaaWideLive
namespace Go.Proofs.Ytekkgidoblddfaa
open Go.RowKit Go.Sort

theorem sub_to (x y z h l h2 l2 : Int) (w : World) (eh : h = hi x) (el : l = lo x) (eh2 : h2 = hi y) (el2 : l2 = lo y) (ez : z = x - y) :
    Calls Try.prog 20 #[.agg #[.int .i64 h, .int .u64 l], .agg #[.int .i64 h2, .int .u64 l2]] w fun e w' => e = .returned (W z) ∧ Below w.heap.size w w' := by
  subst eh el eh2 el2 ez; exact sub_any x y w
theorem mul_z (a b z : Int) (w : World) (a1 : -9223372036854775808 ≤ a) (a2 : a ≤ 9223372036854775807) (b1 : -9223372036854775808 ≤ b) (b2 : b ≤ 9223372036854775807) (ez : z = a * b) :
    Calls Try.prog 22 #[.int .i64 a, .int .i64 b] w fun e w' => e = .returned (W z) ∧ Below w.heap.size w w' := by
  subst ez; exact mul_any a b w a1 a2 b1 b2
theorem left_z (x n z : Int) (w : World) (h1 : -9223372036854775808 ≤ n) (hn : n ≤ 9223372036854775807) (ez : z = x * 2 ^ n.toNat) :
    Calls Try.prog 24 #[W x, .int .i64 n] w fun e w' => e = .returned (W z) ∧ Below w.heap.size w w' := by
  subst ez; exact left_any x n w h1 hn
theorem right_z (x n z : Int) (w : World) (h1 : -9223372036854775808 ≤ n) (hn : n ≤ 9223372036854775807) (ez : z = sv x / 2 ^ n.toNat) :
    Calls Try.prog 26 #[W x, .int .i64 n] w fun e w' => e = .returned (W z) ∧ Below w.heap.size w w' := by
  subst ez; exact right_any x n w h1 hn
theorem narrow_z (x v : Int) (b : Bool) (w : World) (ev : v = nv x) (eb : b = nb x) :
    Calls Try.prog 11 #[W x] w fun e w' => e = .returned (.tuple #[.int .i64 v, .bool b]) ∧ Below w.heap.size w w' := by
  subst ev eb; exact narrow_any x w
theorem compare_z (x y c : Int) (w : World) (ec : c = cmp x y) :
    Calls Try.prog 16 #[W x, W y] w fun e w' => e = .returned (.int .i64 c) ∧ Below w.heap.size w w' := by
  subst ec; exact compare_any x y w
theorem nb_in (z : Int) (h : nb z = true) (l : -170141183460469231731687303715884105728 ≤ z) (r : z < 170141183460469231731687303715884105728) : -9223372036854775808 ≤ z ∧ z ≤ 9223372036854775807 ∧ z = nv z := by
  have e := sv_in z l r
  have h' := h
  unfold nb at h'
  rw [e] at h'
  simp only [decide_eq_true_eq] at h'
  refine ⟨h'.1, h'.2, ?_⟩
  unfold nv; rw [if_pos h, e]
theorem nb_out (z : Int) (h : nb z = false) : 0 = nv z := by unfold nv; rw [h]; rfl

set_option maxRecDepth 100000 in
set_option maxHeartbeats 2000000 in
theorem wideAdds_any (x y p q : Int) (w : World) (p1 : -9223372036854775808 ≤ p) (p2 : p ≤ 9223372036854775807) (q1 : -9223372036854775808 ≤ q) (q2 : q ≤ 9223372036854775807) :
    Calls Try.prog 4 #[W x, W y, .agg #[.int .i64 p, .int .i64 q]] w fun e w' => e = .returned (.bool true) ∧ Below w.heap.size w w' := by
  go_enter Try.func4, Try.ntmps4
  go_wp2_with fail
  refine wp_region_quiet_below (by kernel_rfl) (by kernel_rfl) ?_
  repeat (go_big_quiet_step (first
    | (go_at_call 13; exact Calls.regrown_of (live_any _))
    | (go_at_call 18; exact Calls.regrown_of (add_any _ _ _))
    | (go_at_call 19; exact Calls.regrown_of (refAdd_any _ _ _))
    | (go_at_call 20; exact Calls.regrown_of (sub_any _ _ _))
    | (go_at_call 21; exact Calls.regrown_of (refSub_any _ _ _))
    | (go_at_call 22; exact Calls.regrown_of (mul_any _ _ _ p1 p2 q1 q2))
    | (go_at_call 23; exact Calls.regrown_of (refMul_any _ _ _ p1 p2 q1 q2))))
  refine wpQuiet_nil ?_
  rintro _ ⟨⟨d9, o9⟩, rfl⟩
  go_wp2
  go_ret
  exact ⟨rfl, (by repeat (first | with_reducible refine blg ?_ _ _ | with_reducible refine bla ?_ _ | with_reducible exact Below.refl _ _))⟩

set_option maxRecDepth 100000 in
set_option maxHeartbeats 2000000 in
theorem wideShifts_any (x n : Int) (w : World) (h1 : -9223372036854775808 ≤ n) (h2 : n ≤ 9223372036854775807) :
    Calls Try.prog 5 #[W x, .int .i64 n] w fun e w' => e = .returned (.bool true) ∧ Below w.heap.size w w' := by
  go_enter Try.func5, Try.ntmps5
  go_wp2_with fail
  refine wp_region_quiet_below (by kernel_rfl) (by kernel_rfl) ?_
  repeat (go_big_quiet_step (first
    | (go_at_call 13; exact Calls.regrown_of (live_any _))
    | (go_at_call 24; exact Calls.regrown_of (left_any _ _ _ h1 h2))
    | (go_at_call 25; exact Calls.regrown_of (refLeft_any _ _ _ h1 h2))
    | (go_at_call 26; exact Calls.regrown_of (right_any _ _ _ h1 h2))
    | (go_at_call 27; exact Calls.regrown_of (refRight_any _ _ _ h1 h2))))
  refine wpQuiet_nil ?_
  rintro _ ⟨⟨d9, o9⟩, rfl⟩
  go_wp2
  go_ret
  exact ⟨rfl, (by repeat (first | with_reducible refine blg ?_ _ _ | with_reducible refine bla ?_ _ | with_reducible exact Below.refl _ _))⟩

set_option maxRecDepth 100000 in
set_option maxHeartbeats 2000000 in
theorem wideRing_any (a b c : Int) (w : World) :
    Calls Try.prog 6 #[W a, W b, W c] w fun e w' => e = .returned (.bool true) ∧ Below w.heap.size w w' := by
  go_enter Try.func6, Try.ntmps6
  go_wp2_with fail
  refine wp_region_quiet_below (by kernel_rfl) (by kernel_rfl) ?_
  repeat (go_big_quiet_step (first
    | (go_at_call 13; exact Calls.regrown_of (live_any _))
    | (go_at_call 14; exact Calls.regrown_of (of_any 0 _ (by decide) (by decide)))
    | (go_at_call 18; exact Calls.regrown_of (add_to b a (a + b) _ _ _ _ _ rfl rfl rfl rfl (by omega)))
    | (go_at_call 18; exact Calls.regrown_of (add_to a (b + c) (a + b + c) _ _ _ _ _ rfl rfl rfl rfl (by omega)))
    | (go_at_call 18; exact Calls.regrown_of (add_to a 0 a _ _ _ _ _ rfl rfl rfl rfl (by omega)))
    | (go_at_call 18; exact Calls.regrown_of (add_any _ _ _))
    | (go_at_call 20; exact Calls.regrown_of (sub_to (a + b) b a _ _ _ _ _ rfl rfl rfl rfl (by omega)))))
  refine wpQuiet_nil ?_
  rintro _ ⟨⟨d9, o9⟩, rfl⟩
  go_wp2
  go_ret
  exact ⟨rfl, (by repeat (first | with_reducible refine blg ?_ _ _ | with_reducible refine bla ?_ _ | with_reducible exact Below.refl _ _))⟩

set_option maxRecDepth 100000 in
set_option maxHeartbeats 2000000 in
theorem wideSpreads_any (a b c : Int) (w : World) (a1 : -9223372036854775808 ≤ a) (a2 : a ≤ 9223372036854775807) (b1 : -9223372036854775808 ≤ b) (b2 : b ≤ 9223372036854775807) (c1 : -9223372036854775808 ≤ c) (c2 : c ≤ 9223372036854775807) :
    Calls Try.prog 7 #[.int .i64 a, .int .i64 b, .int .i64 c] w fun e w' => e = .returned (.bool true) ∧ Below w.heap.size w w' := by
  cases hok : nb (b + c) with
  | true =>
    have hn := nb_in (b + c) hok (by omega) (by omega)
    have Hv := Lib.hid hn.2.2
    have Hok := Lib.hid hok
    have m1 := hn.1
    have m2 := hn.2.1
    clear hn hok
    go_enter Try.func7, Try.ntmps7
    go_wp2_with (first
      | (go_at_call 13; (with_reducible refine (live_any _).mono ?_); rintro e w1 ⟨rfl, hb1⟩; obtain ⟨⟨d1, o1⟩, rfl⟩ := regrown_of_below hb1; clear hb1)
      | (go_at_call 14; (with_reducible refine (of_any a _ a1 a2).mono ?_); rintro e w1 ⟨rfl, hb1⟩; obtain ⟨⟨d1, o1⟩, rfl⟩ := regrown_of_below hb1; clear hb1)
      | (go_at_call 22; (with_reducible refine (mul_z a b (a * b) _ a1 a2 b1 b2 rfl).mono ?_); rintro e w1 ⟨rfl, hb1⟩; obtain ⟨⟨d1, o1⟩, rfl⟩ := regrown_of_below hb1; clear hb1)
      | (go_at_call 22; (with_reducible refine (mul_z b a (a * b) _ b1 b2 a1 a2 (Int.mul_comm a b)).mono ?_); rintro e w1 ⟨rfl, hb1⟩; obtain ⟨⟨d1, o1⟩, rfl⟩ := regrown_of_below hb1; clear hb1)
      | (go_at_call 22; (with_reducible refine (mul_z a c (a * c) _ a1 a2 c1 c2 rfl).mono ?_); rintro e w1 ⟨rfl, hb1⟩; obtain ⟨⟨d1, o1⟩, rfl⟩ := regrown_of_below hb1; clear hb1)
      | (go_at_call 22; (with_reducible refine (mul_z a 1 a _ a1 a2 (by decide) (by decide) (Int.mul_one a).symm).mono ?_); rintro e w1 ⟨rfl, hb1⟩; obtain ⟨⟨d1, o1⟩, rfl⟩ := regrown_of_below hb1; clear hb1)
      | (go_at_call 14; (with_reducible refine (of_any b _ b1 b2).mono ?_); rintro e w1 ⟨rfl, hb1⟩; obtain ⟨⟨d1, o1⟩, rfl⟩ := regrown_of_below hb1; clear hb1)
      | (go_at_call 14; (with_reducible refine (of_any c _ c1 c2).mono ?_); rintro e w1 ⟨rfl, hb1⟩; obtain ⟨⟨d1, o1⟩, rfl⟩ := regrown_of_below hb1; clear hb1)
      | (go_at_call 18; (with_reducible refine (add_any _ _ _).mono ?_); rintro e w1 ⟨rfl, hb1⟩; obtain ⟨⟨d1, o1⟩, rfl⟩ := regrown_of_below hb1; clear hb1)
      | (go_at_call 11; (with_reducible refine (narrow_z (b + c) (b + c) true _ Hv.out Hok.out.symm).mono ?_); rintro e w1 ⟨rfl, hb1⟩; obtain ⟨⟨d1, o1⟩, rfl⟩ := regrown_of_below hb1; clear hb1)
      | (go_at_call 22; (with_reducible refine (mul_z a (b + c) (a * b + a * c) _ a1 a2 m1 m2 (Int.mul_add a b c).symm).mono ?_); rintro e w1 ⟨rfl, hb1⟩; obtain ⟨⟨d1, o1⟩, rfl⟩ := regrown_of_below hb1; clear hb1))
    go_ret
    exact ⟨rfl, (by repeat (first | with_reducible refine blg ?_ _ _ | with_reducible refine bla ?_ _ | with_reducible exact Below.refl _ _))⟩
  | false =>
    have Hv := Lib.hid (nb_out (b + c) hok)
    have Hok := Lib.hid hok
    clear hok
    go_enter Try.func7, Try.ntmps7
    go_wp2_with (first
      | (go_at_call 13; (with_reducible refine (live_any _).mono ?_); rintro e w1 ⟨rfl, hb1⟩; obtain ⟨⟨d1, o1⟩, rfl⟩ := regrown_of_below hb1; clear hb1)
      | (go_at_call 14; (with_reducible refine (of_any a _ a1 a2).mono ?_); rintro e w1 ⟨rfl, hb1⟩; obtain ⟨⟨d1, o1⟩, rfl⟩ := regrown_of_below hb1; clear hb1)
      | (go_at_call 22; (with_reducible refine (mul_z a b (a * b) _ a1 a2 b1 b2 rfl).mono ?_); rintro e w1 ⟨rfl, hb1⟩; obtain ⟨⟨d1, o1⟩, rfl⟩ := regrown_of_below hb1; clear hb1)
      | (go_at_call 22; (with_reducible refine (mul_z b a (a * b) _ b1 b2 a1 a2 (Int.mul_comm a b)).mono ?_); rintro e w1 ⟨rfl, hb1⟩; obtain ⟨⟨d1, o1⟩, rfl⟩ := regrown_of_below hb1; clear hb1)
      | (go_at_call 22; (with_reducible refine (mul_z a c (a * c) _ a1 a2 c1 c2 rfl).mono ?_); rintro e w1 ⟨rfl, hb1⟩; obtain ⟨⟨d1, o1⟩, rfl⟩ := regrown_of_below hb1; clear hb1)
      | (go_at_call 22; (with_reducible refine (mul_z a 1 a _ a1 a2 (by decide) (by decide) (Int.mul_one a).symm).mono ?_); rintro e w1 ⟨rfl, hb1⟩; obtain ⟨⟨d1, o1⟩, rfl⟩ := regrown_of_below hb1; clear hb1)
      | (go_at_call 14; (with_reducible refine (of_any b _ b1 b2).mono ?_); rintro e w1 ⟨rfl, hb1⟩; obtain ⟨⟨d1, o1⟩, rfl⟩ := regrown_of_below hb1; clear hb1)
      | (go_at_call 14; (with_reducible refine (of_any c _ c1 c2).mono ?_); rintro e w1 ⟨rfl, hb1⟩; obtain ⟨⟨d1, o1⟩, rfl⟩ := regrown_of_below hb1; clear hb1)
      | (go_at_call 18; (with_reducible refine (add_any _ _ _).mono ?_); rintro e w1 ⟨rfl, hb1⟩; obtain ⟨⟨d1, o1⟩, rfl⟩ := regrown_of_below hb1; clear hb1)
      | (go_at_call 11; (with_reducible refine (narrow_z (b + c) 0 false _ Hv.out Hok.out.symm).mono ?_); rintro e w1 ⟨rfl, hb1⟩; obtain ⟨⟨d1, o1⟩, rfl⟩ := regrown_of_below hb1; clear hb1))
    go_ret
    exact ⟨rfl, (by repeat (first | with_reducible refine blg ?_ _ _ | with_reducible refine bla ?_ _ | with_reducible exact Below.refl _ _))⟩

theorem back_sv (a : Int) (k : Nat) (a1 : -9223372036854775808 ≤ a) (a2 : a ≤ 9223372036854775807) (hk : k ≤ 63) : a = sv (a * 2 ^ k) / 2 ^ k := by
  have hp := pow_pos k
  have hq := pow_pos (63 - k)
  have hpq : (2 : Int) ^ k * 2 ^ (63 - k) = 9223372036854775808 := by rw [← Int.pow_add, show k + (63 - k) = 63 from by omega]; rfl
  have hle := le_mul_r ((2 : Int) ^ k) (2 ^ (63 - k)) (by omega) (by omega)
  rw [hpq] at hle
  generalize (2 : Int) ^ k = p at *
  have u1 : a * p ≤ 9223372036854775807 * p := Int.mul_le_mul_of_nonneg_right a2 (by omega)
  have u2 : -9223372036854775808 * p ≤ a * p := Int.mul_le_mul_of_nonneg_right a1 (by omega)
  rw [sv_in _ (by omega) (by omega), Int.mul_ediv_cancel _ (by omega)]
theorem back_l (a k : Int) (h0 : 0 ≤ k) : a * 2 ^ (k + 3).toNat = a * 2 ^ k.toNat * 2 ^ (3 : Int).toNat := by
  rw [show (k + 3).toNat = k.toNat + 3 from by omega, Int.pow_add, Int.mul_assoc]; rfl

set_option maxRecDepth 100000 in
set_option maxHeartbeats 2000000 in
theorem wideBack_any (a n : Int) (w : World) (a1 : -9223372036854775808 ≤ a) (a2 : a ≤ 9223372036854775807) (n1 : 0 ≤ n) (n2 : n ≤ 255) :
    Calls Try.prog 9 #[.int .i64 a, .int .u8 n] w fun e w' => e = .returned (.bool true) ∧ Below w.heap.size w w' := by
  go_enter Try.func9, Try.ntmps9
  go_wp2_with (first
    | (go_at_call 13; (with_reducible refine (live_any _).mono ?_); rintro e w1 ⟨rfl, hb1⟩; obtain ⟨⟨d1, o1⟩, rfl⟩ := regrown_of_below hb1; clear hb1)
    | (go_at_call 14; (with_reducible refine (of_any _ _ a1 a2).mono ?_); rintro e w1 ⟨rfl, hb1⟩; obtain ⟨⟨d1, o1⟩, rfl⟩ := regrown_of_below hb1; clear hb1)
    | (go_at_call 24; (with_reducible refine (left_z (a * 2 ^ (n % 64).toNat) 3 (a * 2 ^ (n % 64 + 3).toNat) _ (by decide) (by decide) (back_l a (n % 64) (by omega))).mono ?_); rintro e w1 ⟨rfl, hb1⟩; obtain ⟨⟨d1, o1⟩, rfl⟩ := regrown_of_below hb1; clear hb1)
    | (go_at_call 24; (with_reducible refine (left_any a (n % 64) _ (by omega) (by omega)).mono ?_); rintro e w1 ⟨rfl, hb1⟩; obtain ⟨⟨d1, o1⟩, rfl⟩ := regrown_of_below hb1; clear hb1)
    | (go_at_call 24; (with_reducible refine (left_any a (n % 64 + 3) _ (by omega) (by omega)).mono ?_); rintro e w1 ⟨rfl, hb1⟩; obtain ⟨⟨d1, o1⟩, rfl⟩ := regrown_of_below hb1; clear hb1)
    | (go_at_call 26; (with_reducible refine (right_z (a * 2 ^ (n % 64).toNat) (n % 64) a _ (by omega) (by omega) (back_sv a _ a1 a2 (by omega))).mono ?_); rintro e w1 ⟨rfl, hb1⟩; obtain ⟨⟨d1, o1⟩, rfl⟩ := regrown_of_below hb1; clear hb1))
  go_ret
  exact ⟨rfl, (by repeat (first | with_reducible refine blg ?_ _ _ | with_reducible refine bla ?_ _ | with_reducible exact Below.refl _ _))⟩
end Go.Proofs.Ytekkgidoblddfaa
