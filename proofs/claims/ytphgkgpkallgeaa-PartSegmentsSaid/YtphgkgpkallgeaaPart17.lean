/- Package part: numbers cut in two ways at once: as the document's answer says. -/
import Derived.Test.YtphgkgpkallgeaaPart16
namespace Go.Proofs.Ytphgkgpkallgeaa
open Go.RowKit Go.Shelf Go.Sort
set_option linter.unusedVariables false

attribute [local irreducible] lowV mayB sizeV mostV placeV rowV colV ofV worksB
theorem segsV_none {n r c : Int} (h : ¬ (mayB n r = true ∧ mayB n c = true)) : segsV n r c = [] := by unfold segsV; rw [if_neg h]

set_option maxRecDepth 100000 in
set_option maxHeartbeats 1000000 in
theorem segments_none (n r c : Int) (b : Bool) (hr : mayB n r = b) (hc : b = true → mayB n c = false) (w : World) :
    Calls Try.prog 24 #[.int .i64 n, .int .i64 r, .int .i64 c] w fun e w' => e = .returned (.slice none 0 0) ∧ Below w.heap.size w w' := by
  go_enter Try.func24, Try.ntmps24
  go_wp2_with fail
  refine (may_to n r b _ hr.symm).mono ?_
  rintro e w1 ⟨rfl, hb1⟩; obtain ⟨⟨d1, o1⟩, rfl⟩ := regrown_of_below hb1; clear hb1 hr
  cases b with
  | false =>
    go_wp2
    go_ret
    exact ⟨rfl, (by repeat (first | with_reducible refine blg ?_ _ _ | with_reducible refine bla ?_ _ | with_reducible exact Below.refl _ _))⟩
  | true =>
    have hc := hc rfl
    have HC := Lib.hid hc.symm
    clear hc
    go_wp2_with fail
    refine (may_to n c false _ HC.out).mono ?_
    rintro e w1 ⟨rfl, hb1⟩; obtain ⟨⟨d1, o1⟩, rfl⟩ := regrown_of_below hb1; clear hb1
    go_wp2
    go_ret
    exact ⟨rfl, (by repeat (first | with_reducible refine blg ?_ _ _ | with_reducible refine bla ?_ _ | with_reducible exact Below.refl _ _))⟩

set_option maxRecDepth 100000 in
set_option maxHeartbeats 1000000 in
theorem refSegments_none (n r c : Int) (b : Bool) (hr : mayB n r = b) (hc : b = true → mayB n c = false) (w : World) :
    Calls Try.prog 25 #[.int .i64 n, .int .i64 r, .int .i64 c] w fun e w' => e = .returned (.slice none 0 0) ∧ Below w.heap.size w w' := by
  go_enter Try.func25, Try.ntmps25
  go_wp2_with fail
  refine (refMay_to n r b _ hr.symm).mono ?_
  rintro e w1 ⟨rfl, hb1⟩; obtain ⟨⟨d1, o1⟩, rfl⟩ := regrown_of_below hb1; clear hb1 hr
  cases b with
  | false =>
    go_wp2
    go_ret
    exact ⟨rfl, (by repeat (first | with_reducible refine blg ?_ _ _ | with_reducible refine bla ?_ _ | with_reducible exact Below.refl _ _))⟩
  | true =>
    have hc := hc rfl
    have HC := Lib.hid hc.symm
    clear hc
    go_wp2_with fail
    refine (refMay_to n c false _ HC.out).mono ?_
    rintro e w1 ⟨rfl, hb1⟩; obtain ⟨⟨d1, o1⟩, rfl⟩ := regrown_of_below hb1; clear hb1
    go_wp2
    go_ret
    exact ⟨rfl, (by repeat (first | with_reducible refine blg ?_ _ _ | with_reducible refine bla ?_ _ | with_reducible exact Below.refl _ _))⟩

theorem segmentsV_any (n r c : Int) (w : World) :
    Calls Try.prog 24 #[.int .i64 n, .int .i64 r, .int .i64 c] w fun e w' => ∃ v, e = .returned v ∧ w'.ownsRow w.heap.size 32 4 v (segsV n r c).length (rowS (segsV n r c)) ∧ Below w.heap.size w w' := by
  by_cases h : mayB n r = true ∧ mayB n c = true
  · exact segments_of n r c h.1 h.2 w
  · rw [segsV_none h]
    refine (segments_none n r c (mayB n r) rfl (fun h1 => by cases hx : mayB n c with | false => rfl | true => exact absurd ⟨h1, hx⟩ h) w).mono ?_
    rintro e w' ⟨rfl, hb⟩
    exact ⟨_, rfl, World.ownsRow_nil _ _ _ _, hb⟩

theorem refSegments_any (n r c : Int) (w : World) :
    Calls Try.prog 25 #[.int .i64 n, .int .i64 r, .int .i64 c] w fun e w' => ∃ v, e = .returned v ∧ w'.ownsRow w.heap.size 32 4 v (segsV n r c).length (rowS (segsV n r c)) ∧ Below w.heap.size w w' := by
  by_cases h : mayB n r = true ∧ mayB n c = true
  · exact refSegments_of n r c h.1 h.2 w
  · rw [segsV_none h]
    refine (refSegments_none n r c (mayB n r) rfl (fun h1 => by cases hx : mayB n c with | false => rfl | true => exact absurd ⟨h1, hx⟩ h) w).mono ?_
    rintro e w' ⟨rfl, hb⟩
    exact ⟨_, rfl, World.ownsRow_nil _ _ _ _, hb⟩

theorem segsV_len (n r c : Int) : (segsV n r c).length ≤ 5000 := by
  by_cases h : mayB n r = true ∧ mayB n c = true
  · have := segsV_few n r c h.1 h.2
    have m1 := may_un h.1
    have m2 := may_un h.2
    omega
  · rw [segsV_none h]; simp

set_option maxRecDepth 100000 in
set_option maxHeartbeats 1000000 in
theorem partSegments_any (n r c : Int) (w : World) :
    Calls Try.prog 4 #[.int .i64 n, .int .i64 r, .int .i64 c] w fun e w' => e = .returned (.bool true) ∧ Below w.heap.size w w' := by
  have hl := segsV_len n r c
  go_enter Try.func4, Try.ntmps4
  go_wp2_with fail
  refine (live_any _).mono ?_
  rintro e w1 ⟨rfl, hb1⟩
  go_wp2_with fail
  refine (segmentsV_any n r c _).mono ?_
  rintro e w2 ⟨v1, rfl, r1, hb2⟩
  obtain ⟨bs1, cap1, rfl, _⟩ := rowK (W' := w) (b := 0) r1
  go_wp2_with fail
  refine (refSegments_any n r c _).mono ?_
  rintro e w3 ⟨v2, rfl, r2, hb3⟩
  have r3 := r1.kept (grownBy_of_below hb3) (by cases bs1 <;> simp [Value.ownBlock])
  obtain ⟨bs2, cap2, rfl, _⟩ := rowK (W' := w) (b := 0) r2
  go_wp2_with fail
  refine (sameSegments_any (segsV n r c) hl _ _ _ _ _ r3 r2).mono ?_
  rintro e w4 ⟨rfl, hb4⟩
  have hb : Below w.heap.size w w4 := ((hb1.trans (hb2.mono hb1.size)).trans (hb3.mono (Nat.le_trans hb1.size hb2.size))).trans (hb4.mono (Nat.le_trans (Nat.le_trans hb1.size hb2.size) hb3.size))
  clear hb1 hb2 hb3 hb4 r1 r2 r3
  go_wp2
  go_ret
  exact ⟨rfl, hb⟩
end Go.Proofs.Ytphgkgpkallgeaa
