/- The reference's product, bit by bit. -/
import Derived.Test.YtekkgidoblddfaaWide4
namespace Go.Proofs.Ytekkgidoblddfaa
open Go.RowKit Go.Sort

/-- The worlds of its loop. -/
def mw (W0 : World) (X O : Int) (d : Nat) (os : Array Obj) : World := grow (redrawn ((W0.alloc (.cells #[.int .i64 (hi X), .int .u64 (lo X)] 24)).alloc (.cells #[.int .i64 (hi O), .int .u64 (lo O)] 24)) d) os

theorem neg_un (b : Int) (b1 : -9223372036854775808 ≤ b) (hb : b < 0) : IntKind.u64.wrap (-IntKind.u64.wrap b) = -b := by
  rw [IntKind.wrap_u64, IntKind.wrap_u64]; omega
theorem pos_un (b : Int) (b2 : b ≤ 9223372036854775807) (hb : ¬ b < 0) : IntKind.u64.wrap b = b := by
  rw [IntKind.wrap_u64]; omega
theorem mul_odd (O X m : Int) (h : m % 2 = 1) : (O + X) + (X + X) * (m / 2) = O + X * m := by
  have e : m = 2 * (m / 2) + 1 := by omega
  conv => rhs; rw [e]
  generalize m / 2 = q
  rw [Int.mul_add, Int.add_mul, ← Int.mul_assoc, Int.mul_comm X 2, Int.mul_assoc]; omega
theorem mul_even (O X m : Int) (h : ¬ m % 2 = 1) : O + (X + X) * (m / 2) = O + X * m := by
  have e : m = 2 * (m / 2) := by omega
  conv => rhs; rw [e]
  generalize m / 2 = q
  rw [Int.add_mul, ← Int.mul_assoc, Int.mul_comm X 2, Int.mul_assoc]; omega

set_option maxRecDepth 100000 in
set_option maxHeartbeats 1000000 in
theorem refMul_any (a b : Int) (w : World) (a1 : -9223372036854775808 ≤ a) (a2 : a ≤ 9223372036854775807) (b1 : -9223372036854775808 ≤ b) (b2 : b ≤ 9223372036854775807) :
    Calls Try.prog 23 #[.int .i64 a, .int .i64 b] w fun e w' => e = .returned (W (a * b)) ∧ Below w.heap.size w w' := by
  have z1 : (0 : Int) = hi 0 := by decide
  have z2 : (0 : Int) = lo 0 := by decide
  have Z1 := Lib.hid z1
  have Z2 := Lib.hid z2
  clear z1 z2
  by_cases hb : b < 0
  · go_enter Try.func23, Try.ntmps23
    go_wp2_with (go_at_call 15; refine (refOf_any _ _ a1 a2).mono ?_; rintro e w1 ⟨rfl, hb1⟩; obtain ⟨⟨d1, o1⟩, rfl⟩ := regrown_of_below hb1; clear hb1)
    go_loopw [7] (fun n wr => ∃ (m X O : Int) (d : Nat) (os : Array Obj), 0 ≤ m ∧ m ≤ 18446744073709551615 ∧ Hid (O + X * m = a * (-b)) ∧ n = .int .u64 m ∧ wr = mw (grow (redrawn (w.alloc (Obj.cells #[Value.int IntKind.i64 0, Value.int IntKind.u64 0] 24)) d1) o1) X O d os) (fun n _ => (intOf n).toNat)
    case atStart =>
      refine ⟨-b, a, 0, (grow (redrawn (w.alloc (Obj.cells #[Value.int IntKind.i64 0, Value.int IntKind.u64 0] 24)) d1) o1).drawn, #[], by omega, by omega, by unfold Hid; omega, by rw [neg_un b b1 hb], ?_⟩
      unfold mw
      rw [← Z1.out, ← Z2.out]
      exact gr_start _
    case round =>
      obtain ⟨m, X, O, d, os, hm0, hm1, hinv, rfl, rfl⟩ := hrel
      unfold mw
      by_cases hlt : 0 < m
      · by_cases hodd : m % 2 = 1
        · go_wp2_with (go_at_call 19; refine (refAdd_any _ _ _).mono ?_; rintro e w1 ⟨rfl, hb1⟩; obtain ⟨⟨d2, o2⟩, rfl⟩ := regrown_of_below hb1; clear hb1)
          refine ⟨?_, by simp [intOf]; omega⟩
          exact ⟨m / 2, X + X, O + X, _, _, by omega, by omega, by unfold Hid; rw [mul_odd O X m hodd]; exact hinv.out, by go_num, rfl⟩
        · go_wp2_with (go_at_call 19; refine (refAdd_any _ _ _).mono ?_; rintro e w1 ⟨rfl, hb1⟩; obtain ⟨⟨d2, o2⟩, rfl⟩ := regrown_of_below hb1; clear hb1)
          refine ⟨?_, by simp [intOf]; omega⟩
          exact ⟨m / 2, X + X, O, _, _, by omega, by omega, by unfold Hid; rw [mul_even O X m hodd]; exact hinv.out, by go_num, rfl⟩
      · have hm : m = 0 := by omega
        subst hm
        have HO := hinv.out
        have eO : O = a * (-b) := by simpa using HO
        subst eO
        go_wp2_with (go_at_call 31; refine (refMinus_any _ _).mono ?_; rintro e w1 ⟨rfl, hb1⟩; obtain ⟨⟨d3, o3⟩, rfl⟩ := regrown_of_below hb1; clear hb1)
        refine bodyPost_ret (v := W (a * b)) ?_ rfl ⟨rfl, (by repeat (first | with_reducible refine blg ?_ _ _ | with_reducible refine bla ?_ _ | with_reducible exact Below.refl _ _))⟩
        simp [W, results, Try.results23, go_sem]
        rw [show -(a * -b) = a * b from by rw [Int.mul_neg, Int.neg_neg]]
        exact ⟨rfl, rfl⟩
  · go_enter Try.func23, Try.ntmps23
    go_wp2_with (go_at_call 15; refine (refOf_any _ _ a1 a2).mono ?_; rintro e w1 ⟨rfl, hb1⟩; obtain ⟨⟨d1, o1⟩, rfl⟩ := regrown_of_below hb1; clear hb1)
    go_loopw [7] (fun n wr => ∃ (m X O : Int) (d : Nat) (os : Array Obj), 0 ≤ m ∧ m ≤ 18446744073709551615 ∧ Hid (O + X * m = a * (b)) ∧ n = .int .u64 m ∧ wr = mw (grow (redrawn (w.alloc (Obj.cells #[Value.int IntKind.i64 0, Value.int IntKind.u64 0] 24)) d1) o1) X O d os) (fun n _ => (intOf n).toNat)
    case atStart =>
      refine ⟨b, a, 0, (grow (redrawn (w.alloc (Obj.cells #[Value.int IntKind.i64 0, Value.int IntKind.u64 0] 24)) d1) o1).drawn, #[], by omega, by omega, by unfold Hid; omega, by first | rfl | rw [pos_un b b2 (by omega)], ?_⟩
      unfold mw
      rw [← Z1.out, ← Z2.out]
      exact gr_start _
    case round =>
      obtain ⟨m, X, O, d, os, hm0, hm1, hinv, rfl, rfl⟩ := hrel
      unfold mw
      by_cases hlt : 0 < m
      · by_cases hodd : m % 2 = 1
        · go_wp2_with (go_at_call 19; refine (refAdd_any _ _ _).mono ?_; rintro e w1 ⟨rfl, hb1⟩; obtain ⟨⟨d2, o2⟩, rfl⟩ := regrown_of_below hb1; clear hb1)
          refine ⟨?_, by simp [intOf]; omega⟩
          exact ⟨m / 2, X + X, O + X, _, _, by omega, by omega, by unfold Hid; rw [mul_odd O X m hodd]; exact hinv.out, by go_num, rfl⟩
        · go_wp2_with (go_at_call 19; refine (refAdd_any _ _ _).mono ?_; rintro e w1 ⟨rfl, hb1⟩; obtain ⟨⟨d2, o2⟩, rfl⟩ := regrown_of_below hb1; clear hb1)
          refine ⟨?_, by simp [intOf]; omega⟩
          exact ⟨m / 2, X + X, O, _, _, by omega, by omega, by unfold Hid; rw [mul_even O X m hodd]; exact hinv.out, by go_num, rfl⟩
      · have hm : m = 0 := by omega
        subst hm
        have HO := hinv.out
        have eO : O = a * (b) := by simpa using HO
        subst eO
        go_wp2
        refine bodyPost_ret (v := W (a * b)) ?_ rfl ⟨rfl, (by repeat (first | with_reducible refine blg ?_ _ _ | with_reducible refine bla ?_ _ | with_reducible exact Below.refl _ _))⟩
        simp [W, results, Try.results23, go_sem]
end Go.Proofs.Ytekkgidoblddfaa
