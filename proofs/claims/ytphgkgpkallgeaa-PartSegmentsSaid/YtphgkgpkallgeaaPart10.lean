/- Package part: what is so whatever is asked. -/
import Derived.Test.YtphgkgpkallgeaaPart6
import Derived.Test.YtphgkgpkallgeaaPart9
namespace Go.Proofs.Ytphgkgpkallgeaa
open Go.RowKit Go.Shelf Go.Sort
set_option linter.unusedVariables false

theorem segs_523 : segsV 5 2 3 = [⟨0, 1, 0, 0⟩, ⟨1, 2, 0, 1⟩, ⟨2, 3, 1, 1⟩, ⟨3, 5, 1, 2⟩] := by kernel_rfl

theorem live_vals : lowV 5 2 1 = 2 ∧ sizeV 5 2 1 = 3 ∧ mostV 5 2 = 3 ∧ ofV 5 2 4 = 1 ∧ ofV 5 2 5 = -1 ∧ placeV 3 2 1 = 7 ∧ rowV 3 7 = 2 ∧ colV 3 7 = 1 ∧ placeV 3 0 3 = -1 := by decide +kernel

attribute [local irreducible] lowV mayB sizeV mostV placeV rowV colV ofV worksB
set_option maxRecDepth 100000 in
set_option maxHeartbeats 1000000 in
theorem live_any (w : World) : Calls Try.prog 8 #[] w fun e w' => e = .returned (.bool true) ∧ Below w.heap.size w w' := by
  obtain ⟨l1, l2, l3, l4, l5, l6, l7, l8, l9⟩ := live_vals
  go_enter Try.func8, Try.ntmps8
  go_wp2_with fail
  refine (segments_of 5 2 3 (may_t (by decide)) (may_t (by decide)) _).mono ?_
  rintro e w1 ⟨v, rfl, hrow, hb⟩
  rw [segs_523] at hrow
  obtain ⟨g, cap, rfl⟩ := ownsRow_succ hrow
  have k1 : Has w1 g := (hrow.lt g rfl).2
  have c4 : w1.cell? ⟨g, 4, none⟩ = some (.int .i64 1) := hrow.cellAt 4 (by decide)
  have c5 : w1.cell? ⟨g, 5, none⟩ = some (.int .i64 2) := hrow.cellAt 5 (by decide)
  have c6 : w1.cell? ⟨g, 6, none⟩ = some (.int .i64 0) := hrow.cellAt 6 (by decide)
  have c7 : w1.cell? ⟨g, 7, none⟩ = some (.int .i64 1) := hrow.cellAt 7 (by decide)
  clear hrow
  go_wp2_with fail
  refine (low_any 5 2 1 _ (by decide) (by decide)).mono ?_
  rw [l1]
  rintro e w2 ⟨rfl, hb1⟩; obtain ⟨⟨d1, o1⟩, rfl⟩ := regrown_of_below hb1; clear hb1
  go_wp2_with fail
  refine (size_any 5 2 1 _ (by decide) (by decide) (by decide)).mono ?_
  rw [l2]
  rintro e w2 ⟨rfl, hb1⟩; obtain ⟨⟨d1, o1⟩, rfl⟩ := regrown_of_below hb1; clear hb1
  go_wp2_with fail
  refine (most_any 5 2 _).mono ?_
  rw [l3]
  rintro e w2 ⟨rfl, hb1⟩; obtain ⟨⟨d1, o1⟩, rfl⟩ := regrown_of_below hb1; clear hb1
  go_wp2_with fail
  refine (of_any 5 2 4 _).mono ?_
  rw [l4]
  rintro e w2 ⟨rfl, hb1⟩; obtain ⟨⟨d1, o1⟩, rfl⟩ := regrown_of_below hb1; clear hb1
  go_wp2_with fail
  refine (of_any 5 2 5 _).mono ?_
  rw [l5]
  rintro e w2 ⟨rfl, hb1⟩; obtain ⟨⟨d1, o1⟩, rfl⟩ := regrown_of_below hb1; clear hb1
  go_wp2_with fail
  refine (place_any 3 2 1 _).mono ?_
  rw [l6]
  rintro e w2 ⟨rfl, hb1⟩; obtain ⟨⟨d1, o1⟩, rfl⟩ := regrown_of_below hb1; clear hb1
  go_wp2_with fail
  refine (row_any 3 7 _).mono ?_
  rw [l7]
  rintro e w2 ⟨rfl, hb1⟩; obtain ⟨⟨d1, o1⟩, rfl⟩ := regrown_of_below hb1; clear hb1
  go_wp2_with fail
  refine (col_any 3 7 _).mono ?_
  rw [l8]
  rintro e w2 ⟨rfl, hb1⟩; obtain ⟨⟨d1, o1⟩, rfl⟩ := regrown_of_below hb1; clear hb1
  go_wp2_with fail
  refine (place_any 3 0 3 _).mono ?_
  rw [l9]
  rintro e w2 ⟨rfl, hb1⟩; obtain ⟨⟨d1, o1⟩, rfl⟩ := regrown_of_below hb1; clear hb1
  go_wp2
  go_ret
  exact ⟨rfl, blg hb _ _⟩
end Go.Proofs.Ytphgkgpkallgeaa
