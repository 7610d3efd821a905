/- Shifts and products of package wide, each by a contract. -/
import Derived.Test.YtekkgidoblddfaaWide
import Derived.Test.YtekkgidoblddfaaMul
import Derived.Test.YtekkgidoblddfaaTail
namespace Go.Proofs.Ytekkgidoblddfaa
open Go.RowKit Go.Sort

set_option maxHeartbeats 400000 in
theorem left_any (x n : Int) (w : World) (h1 : -9223372036854775808 ≤ n) (h2 : n ≤ 9223372036854775807) :
    Calls Try.prog 24 #[W x, .int .i64 n] w fun e w' => e = .returned (W (x * 2 ^ n.toNat)) ∧ Below w.heap.size w w' := by
  go_enter Try.func24, Try.ntmps24
  go_wp2
  all_goals refine bodyPost_ret (v := W (x * 2 ^ n.toNat)) ?_ rfl ⟨rfl, bl2 _ _ _⟩
  all_goals simp [W, results, Try.results24, go_sem]
  · rw [Int.toNat_of_nonpos (by omega)]; simp
  · exact left_none x _ (by omega)
  · rw [show (n - 64).toNat = n.toNat - 64 from by omega]; exact left_big x _ (by omega)
  · rw [show (64 - n).toNat = 64 - n.toNat from by omega]; exact ⟨left_hi x _ (by omega), left_lo x _⟩

theorem shr_bd (x : Int) (k : Nat) : -9223372036854775808 ≤ hi x / 2 ^ k ∧ hi x / 2 ^ k ≤ 9223372036854775807 := by
  have hp := pow_pos k
  have hh := hi_bd x
  generalize (2 : Int) ^ k = p at *
  constructor
  · have h1 := Int.ediv_le_ediv hp hh.1
    have h2 : -9223372036854775808 ≤ -9223372036854775808 / p := Int.le_ediv_of_mul_le hp (by
      have : (9223372036854775808 : Int) * 1 ≤ 9223372036854775808 * p := Int.mul_le_mul_of_nonneg_left (by omega) (by decide)
      omega)
    omega
  · have h1 := Int.ediv_le_ediv hp hh.2
    have h2 : (9223372036854775807 : Int) / p ≤ 9223372036854775807 := Int.ediv_le_self _ (by decide)
    omega

set_option maxHeartbeats 400000 in
theorem right_any (x n : Int) (w : World) (h1 : -9223372036854775808 ≤ n) (h2 : n ≤ 9223372036854775807) :
    Calls Try.prog 26 #[W x, .int .i64 n] w fun e w' => e = .returned (W (sv x / 2 ^ n.toNat)) ∧ Below w.heap.size w w' := by
  have hh := hi_bd x
  go_enter Try.func26, Try.ntmps26
  go_wp2_with (go_at_call 14; refine (of_any _ _ (by first | omega | exact (shr_bd x _).1) (by first | omega | exact (shr_bd x _).2)).mono ?_; rintro e w1 ⟨rfl, hb1⟩; obtain ⟨⟨d1, o1⟩, rfl⟩ := regrown_of_below hb1; clear hb1)
  all_goals refine bodyPost_ret (v := W (sv x / 2 ^ n.toNat)) ?_ rfl ⟨rfl, (by first | exact bl2 _ _ _ | exact blg (bl2 _ _ _) _ _)⟩
  all_goals simp [W, results, Try.results26, go_sem]
  · rw [Int.toNat_of_nonpos (by omega)]; simp [hi_sv, lo_sv]
  · rw [right_none x n.toNat (by omega)]; exact ⟨rfl, rfl⟩
  · rw [show (n - 64).toNat = n.toNat - 64 from by omega]; exact right_big x _ (by omega)
  · rw [show (64 - n).toNat = 64 - n.toNat from by omega]
    have h := right_halves x n.toNat (by omega)
    exact ⟨h.2, h.1⟩

set_option maxHeartbeats 400000 in
theorem products_any (x y : Int) (w : World) (h1 : 0 ≤ x) (h2 : x ≤ 18446744073709551615) (h3 : 0 ≤ y) (h4 : y ≤ 18446744073709551615) :
    Calls Try.prog 32 #[.int .u64 x, .int .u64 y] w fun e w' => e = .returned (.agg #[.int .u64 (q0 x y), .int .u64 (q1 x y), .int .u64 (q2 x y), .int .u64 (q3 x y)]) ∧ Below w.heap.size w w' := by
  have hq := Lib.hid (q_bd x y h1 h2 h3 h4)
  go_enter Try.func32, Try.ntmps32
  go_wp2
  refine bodyPost_ret (v := .agg #[.int .u64 (q0 x y), .int .u64 (q1 x y), .int .u64 (q2 x y), .int .u64 (q3 x y)]) ?_ rfl ⟨rfl, bl1 _ _⟩
  simp [results, Try.results32, go_sem]
  rw [and_half x h1 h2, and_half y h3 h4]
  obtain ⟨b0, b1, b2, b3⟩ := hq.out
  unfold q0 q1 q2 q3 at *
  refine ⟨?_, ?_, ?_, ?_⟩ <;> exact IntWalk.u64_in _ (by omega)

theorem left_as (x h l n : Int) (w : World) (h1 : -9223372036854775808 ≤ n) (h2 : n ≤ 9223372036854775807) (eh : h = hi x) (el : l = lo x) :
    Calls Try.prog 24 #[.agg #[.int .i64 h, .int .u64 l], .int .i64 n] w fun e w' => e = .returned (W (x * 2 ^ n.toNat)) ∧ Below w.heap.size w w' := by
  subst eh el; exact left_any x n w h1 h2

theorem add_as (x y h l : Int) (w : World) (eh : h = hi x) (el : l = lo x) :
    Calls Try.prog 18 #[.agg #[.int .i64 h, .int .u64 l], W y] w fun e w' => e = .returned (W (x + y)) ∧ Below w.heap.size w w' := by
  subst eh el; exact add_any x y w

theorem hi_s (q0 q3 : Int) (h0 : 0 ≤ q0) (h1 : q0 ≤ 18446744065119617025) : wrap64 q3 = hi (q0 + q3 * 18446744073709551616) := by unfold wrap64 hi; omega
theorem lo_s (q0 q3 : Int) (h0 : 0 ≤ q0) (h1 : q0 ≤ 18446744065119617025) : q0 = lo (q0 + q3 * 18446744073709551616) := by unfold lo; omega

theorem products_un (a b : Int) (w : World) (a1 : -9223372036854775808 ≤ a) (a2 : a ≤ 9223372036854775807) (b1 : -9223372036854775808 ≤ b) (b2 : b ≤ 9223372036854775807) :
    Calls Try.prog 32 #[.int .u64 (IntKind.u64.wrap a), .int .u64 (IntKind.u64.wrap b)] w fun e w' => e = .returned (.agg #[.int .u64 (q0 (un a) (un b)), .int .u64 (q1 (un a) (un b)), .int .u64 (q2 (un a) (un b)), .int .u64 (q3 (un a) (un b))]) ∧ Below w.heap.size w w' := by
  rw [un_lo a a1 a2, un_lo b b1 b2]
  have ha := un_bd a a1 a2
  have hb := un_bd b b1 b2
  exact products_any _ _ _ ha.1 ha.2 hb.1 hb.2

set_option maxHeartbeats 400000 in
theorem mul_any (a b : Int) (w : World) (a1 : -9223372036854775808 ≤ a) (a2 : a ≤ 9223372036854775807) (b1 : -9223372036854775808 ≤ b) (b2 : b ≤ 9223372036854775807) :
    Calls Try.prog 22 #[.int .i64 a, .int .i64 b] w fun e w' => e = .returned (W (a * b)) ∧ Below w.heap.size w w' := by
  go_enter Try.func22, Try.ntmps22
  have hub := q_bd (un a) (un b) (un_bd a a1 a2).1 (un_bd a a1 a2).2 (un_bd b b1 b2).1 (un_bd b b1 b2).2
  go_wp2_with fail
  refine (products_un a b _ a1 a2 b1 b2).mono ?_
  rintro e w1 ⟨rfl, hb1⟩; obtain ⟨⟨d1, o1⟩, rfl⟩ := regrown_of_below hb1; clear hb1
  go_wp2_with fail
  refine wp_region_grown_tail 6 (by kernel_rfl) (by kernel_rfl) ?_
  simp only [List.take_succ_cons, List.take_zero, List.drop_succ_cons, List.drop_zero]
  repeat (go_big_quiet_step (first | (go_at_call 24; exact Calls.regrown_of (left_as _ _ _ _ _ (by decide) (by decide) (of_hi_pos _ (by omega) (by omega)) (of_lo_pos _ (by omega) (by omega)))) | (go_at_call 18; exact Calls.regrown_of (add_as _ _ _ _ _ (hi_s _ _ hub.1.1 hub.1.2) (lo_s _ _ hub.1.1 hub.1.2)))))
  refine wpQuiet_nil ?_
  rintro _ ⟨⟨d2, o2⟩, rfl⟩
  go_wp2
  refine wp_region_grown_tail' 6 (by kernel_rfl) (by kernel_rfl) ?_
  simp only [List.take_succ_cons, List.take_zero, List.drop_succ_cons, List.drop_zero]
  repeat (go_big_quiet_step (first | (go_at_call 24; exact Calls.regrown_of (left_as _ _ _ _ _ (by decide) (by decide) (of_hi_pos _ (by omega) (by omega)) (of_lo_pos _ (by omega) (by omega)))) | (go_at_call 18; exact Calls.regrown_of (add_any _ _ _))))
  refine wpQuiet_nil ?_
  rintro _ ⟨⟨d3, o3⟩, rfl⟩
  go_wp2
  all_goals refine bodyPost_ret (v := W (a * b)) ?_ rfl ⟨rfl, (by repeat (first | with_reducible refine blg ?_ _ _ | with_reducible refine bla ?_ _ | with_reducible exact Below.refl _ _))⟩
  all_goals simp [W, results, Try.results22, go_sem]
  · exact fin_tt a b (by assumption) (by assumption)
  · exact fin_tn a b (by assumption) (by assumption)
  · exact fin_nt a b (by assumption) (by assumption)
  · exact fin_nn a b (by assumption) (by assumption)

end Go.Proofs.Ytekkgidoblddfaa
