/- Package part: a worker's row and column are those of its number. -/
import Derived.Test.YtphgkgpkallgeaaPart10
namespace Go.Proofs.Ytphgkgpkallgeaa
open Go.RowKit Go.Sort
set_option linter.unusedVariables false

theorem places_at (q x y : Int) (q1 : 1 ≤ q) (q2 : q ≤ 8) (x0 : 0 ≤ x) (x1 : x < 8) (y0 : 0 ≤ y) (y1 : y < q) :
    placeV q x y = x * q + y ∧ rowV q (x * q + y) = x ∧ colV q (x * q + y) = y := by
  have e1 : (x * q + y) / q = x := by rw [Int.mul_comm, Int.add_comm, Int.add_mul_ediv_left _ _ (by omega), Int.ediv_eq_zero_of_lt y0 y1]; omega
  have e2 : (x * q + y) % q = y := by rw [Int.add_comm, Int.add_mul_emod_self_right]; exact Int.emod_eq_of_lt y0 y1
  have b0 : 0 ≤ x * q := Int.mul_nonneg x0 (by omega)
  have b1 : x * q ≤ 7 * q := Int.mul_le_mul_of_nonneg_right (by omega) (by omega)
  refine ⟨?_, ?_, ?_⟩
  · unfold placeV; rw [if_pos (by omega)]
  · unfold rowV; rw [if_pos (works_t (by omega))]; exact e1
  · unfold colV; rw [if_pos (works_t (by omega))]; exact e2

attribute [local irreducible] lowV mayB sizeV mostV placeV rowV colV ofV worksB
set_option maxRecDepth 100000 in
set_option maxHeartbeats 1000000 in
theorem partPlaces_any (c i j : Int) (w : World) (c1 : 0 ≤ c) (c2 : c ≤ 255) (i1 : 0 ≤ i) (i2 : i ≤ 255) (j1 : 0 ≤ j) (j2 : j ≤ 255) :
    Calls Try.prog 7 #[.int .u8 c, .int .u8 i, .int .u8 j] w fun e w' => e = .returned (.bool true) ∧ Below w.heap.size w w' := by
  have Q1 : 1 ≤ c % 8 + 1 := by omega
  have Q2 : c % 8 + 1 ≤ 8 := by omega
  have Q0 : ¬ c % 8 + 1 = 0 := by omega
  have X0 : 0 ≤ i % 8 := by omega
  have X1 : i % 8 < 8 := by omega
  have Y0 : 0 ≤ j % (c % 8 + 1) := Int.emod_nonneg _ Q0
  have Y1 : j % (c % 8 + 1) < c % 8 + 1 := Int.emod_lt_of_pos _ (by omega)
  obtain ⟨p1, p2, p3⟩ := places_at (c % 8 + 1) (i % 8) (j % (c % 8 + 1)) Q1 Q2 X0 X1 Y0 Y1
  have P1 := Lib.hid p1
  have P2 := Lib.hid p2
  have P3 := Lib.hid p3
  clear p1 p2 p3
  go_enter Try.func7, Try.ntmps7
  go_wp2_with fail
  refine wp_region_quiet_below (by kernel_rfl) (by kernel_rfl) ?_
  repeat (go_big_quiet_step (fail))
  refine wpQuiet_nil ?_
  rintro _ ⟨⟨d2, o2⟩, rfl⟩
  go_wp2_with fail
  refine (place_any _ _ _ _).mono ?_
  rw [P1.out]
  rintro e w2 ⟨rfl, hb1⟩; obtain ⟨⟨d1, o1⟩, rfl⟩ := regrown_of_below hb1; clear hb1
  go_wp2_with fail
  refine (live_any _).mono ?_
  rintro e w2 ⟨rfl, hb1⟩; obtain ⟨⟨d1, o1⟩, rfl⟩ := regrown_of_below hb1; clear hb1
  go_wp2_with fail
  refine (row_any _ _ _).mono ?_
  rw [P2.out]
  rintro e w2 ⟨rfl, hb1⟩; obtain ⟨⟨d1, o1⟩, rfl⟩ := regrown_of_below hb1; clear hb1
  go_wp2_with fail
  refine (col_any _ _ _).mono ?_
  rw [P3.out]
  rintro e w2 ⟨rfl, hb1⟩; obtain ⟨⟨d1, o1⟩, rfl⟩ := regrown_of_below hb1; clear hb1
  go_wp2
  go_ret
  exact ⟨rfl, (by repeat (first | with_reducible refine blg ?_ _ _ | with_reducible refine bla ?_ _ | with_reducible exact Below.refl _ _))⟩
end Go.Proofs.Ytphgkgpkallgeaa
