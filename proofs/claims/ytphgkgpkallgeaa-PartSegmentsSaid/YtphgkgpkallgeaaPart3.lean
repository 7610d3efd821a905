/- Package part: the reference of Of, and what is so whatever is asked. -/
import Derived.Test.YtphgkgpkallgeaaPart2
namespace Go.Proofs.Ytphgkgpkallgeaa
open Go.RowKit Go.Sort
set_option linter.unusedVariables false

set_option maxRecDepth 100000 in
theorem refOf_in (n k a : Int) (w : World) (h : mayB n k = true) :
    Calls Try.prog 16 #[.int .i64 n, .int .i64 k, .int .i64 a] w fun e w' => e = .returned (.int .i64 (inFrom n k a k.toNat 0)) ∧ Below w.heap.size w w' := by
  obtain ⟨m1, m2, m3, m4⟩ := may_un h
  have H := Lib.hid h.symm
  clear h
  go_enter Try.func16, Try.ntmps16
  go_wp2_with fail
  refine (refMay_to n k true _ H.out).mono ?_
  rintro e w1 ⟨rfl, hb1⟩; obtain ⟨⟨d1, o1⟩, rfl⟩ := regrown_of_below hb1; clear hb1
  go_wp2_with fail
  go_loopw [7] (fun v wr => ∃ (i : Nat) (d : Nat) (os : Array Obj), i ≤ k.toNat ∧ v = .int .i64 i ∧ Hid (inFrom n k a (k.toNat - i) i = inFrom n k a k.toNat 0) ∧ wr = grow (redrawn w d) os) (fun v _ => k.toNat - (intOf v).toNat)
  case atStart =>
    exact ⟨0, d1, o1, by omega, rfl, Lib.hid rfl, rfl⟩
  case round =>
    obtain ⟨i, d, os, hi, rfl, hrel, rfl⟩ := hrel
    by_cases hlt : (i : Int) < k
    · have es : k.toNat - i = (k.toNat - (i + 1)) + 1 := by omega
      have hb := lowV_bd n k ((i : Int) + 1)
      by_cases hl : lowV n k (i : Int) ≤ a
      · by_cases ha : a < lowV n k ((i : Int) + 1)
        · have he : inFrom n k a k.toNat 0 = (i : Int) := by rw [← hrel.out, es]; unfold inFrom; rw [if_pos ⟨hl, ha⟩]
          have HE := Lib.hid he
          clear hrel he
          go_wp2_with fail
          refine (refLow_any n k (i : Int) _ (by omega) (by omega)).mono ?_
          rintro e w1 ⟨rfl, hb1⟩; obtain ⟨⟨d1, o1⟩, rfl⟩ := regrown_of_below hb1; clear hb1
          go_wp2_with fail
          refine (refLow_any n k ((i : Int) + 1) _ (by omega) (by omega)).mono ?_
          rintro e w1 ⟨rfl, hb1⟩; obtain ⟨⟨d2, o2⟩, rfl⟩ := regrown_of_below hb1; clear hb1
          go_wp2
          go_ret
          exact ⟨by rw [HE.out]; rfl, (by repeat (first | with_reducible refine blg ?_ _ _ | with_reducible refine bla ?_ _ | with_reducible exact Below.refl _ _))⟩
        · have he : inFrom n k a (k.toNat - (i + 1)) ((i : Int) + 1) = inFrom n k a k.toNat 0 := by rw [← hrel.out, es]; conv => rhs; unfold inFrom; rw [if_neg (fun hh => ha hh.2)]
          have HE := Lib.hid he
          have h3 : decide (a < lowV n k ((i : Int) + 1)) = false := by simp; omega
          clear hrel he
          go_wp2_with fail
          refine (refLow_any n k (i : Int) _ (by omega) (by omega)).mono ?_
          rintro e w1 ⟨rfl, hb1⟩; obtain ⟨⟨d1, o1⟩, rfl⟩ := regrown_of_below hb1; clear hb1
          go_wp2_with fail
          refine (refLow_any n k ((i : Int) + 1) _ (by omega) (by omega)).mono ?_
          rintro e w1 ⟨rfl, hb1⟩; obtain ⟨⟨d2, o2⟩, rfl⟩ := regrown_of_below hb1; clear hb1
          go_wp2
          refine ⟨?_, by simp [intOf]; omega⟩
          exact ⟨i + 1, d2, _, by omega, by go_num, by simpa using HE, rfl⟩
      · have he : inFrom n k a (k.toNat - (i + 1)) ((i : Int) + 1) = inFrom n k a k.toNat 0 := by rw [← hrel.out, es]; conv => rhs; unfold inFrom; rw [if_neg (fun hh => hl hh.1)]
        have HE := Lib.hid he
        clear hrel he
        go_wp2_with fail
        refine (refLow_any n k (i : Int) _ (by omega) (by omega)).mono ?_
        rintro e w1 ⟨rfl, hb1⟩; obtain ⟨⟨d1, o1⟩, rfl⟩ := regrown_of_below hb1; clear hb1
        go_wp2
        refine ⟨?_, by simp [intOf]; omega⟩
        exact ⟨i + 1, d1, _, by omega, by go_num, by simpa using HE, rfl⟩
    · have he : inFrom n k a k.toNat 0 = -1 := by rw [← hrel.out, show k.toNat - i = 0 by omega]; rfl
      have HE := Lib.hid he
      clear hrel he
      go_wp2
      go_ret
      exact ⟨by rw [HE.out]; rfl, (by repeat (first | with_reducible refine blg ?_ _ _ | with_reducible refine bla ?_ _ | with_reducible exact Below.refl _ _))⟩

set_option maxRecDepth 100000 in
theorem refOf_any (n k a : Int) (w : World) :
    Calls Try.prog 16 #[.int .i64 n, .int .i64 k, .int .i64 a] w fun e w' => e = .returned (.int .i64 (ofV n k a)) ∧ Below w.heap.size w w' := by
  cases h : mayB n k with
  | false =>
    rw [show ofV n k a = -1 by unfold ofV; rw [if_neg (by simp [h])]]
    have H := Lib.hid h.symm
    clear h
    go_enter Try.func16, Try.ntmps16
    go_wp2_with fail
    refine (refMay_to n k false _ H.out).mono ?_
    rintro e w1 ⟨rfl, hb1⟩; obtain ⟨⟨d1, o1⟩, rfl⟩ := regrown_of_below hb1; clear hb1
    go_wp2
    go_ret
    exact ⟨rfl, (by repeat (first | with_reducible refine blg ?_ _ _ | with_reducible refine bla ?_ _ | with_reducible exact Below.refl _ _))⟩
  | true =>
    rw [← inFrom_all n k a h]
    exact refOf_in n k a w h

attribute [local irreducible] lowV mayB sizeV mostV placeV rowV colV ofV worksB
set_option maxRecDepth 100000 in
set_option maxHeartbeats 1000000 in
/-- PartIs, where what must be so whatever is asked is so. -/
theorem partIs_of (hL : Hid (∀ w : World, Calls Try.prog 8 #[] w fun e w' => e = .returned (.bool true) ∧ Below w.heap.size w w'))
    (n k i : Int) (w : World) (i1 : -9223372036854775808 ≤ i) (i2 : i ≤ 9223372036854775807) (k2 : k ≤ 9223372036854775807) :
    Calls Try.prog 3 #[.int .i64 n, .int .i64 k, .int .i64 i] w fun e w' => e = .returned (.bool true) ∧ Below w.heap.size w w' := by
  go_enter Try.func3, Try.ntmps3
  go_wp2_with fail
  refine (hL.out _).mono ?_
  rintro e w1 ⟨rfl, hb1⟩; obtain ⟨⟨d1, o1⟩, rfl⟩ := regrown_of_below hb1; clear hb1
  go_wp2_with fail
  refine (low_any n k i _ i1 i2).mono ?_
  rintro e w1 ⟨rfl, hb1⟩; obtain ⟨⟨d1, o1⟩, rfl⟩ := regrown_of_below hb1; clear hb1
  go_wp2_with fail
  refine (refLow_any n k i _ i1 i2).mono ?_
  rintro e w1 ⟨rfl, hb1⟩; obtain ⟨⟨d1, o1⟩, rfl⟩ := regrown_of_below hb1; clear hb1
  go_wp2_with fail
  refine (size_any n k i _ i1 i2 k2).mono ?_
  rintro e w1 ⟨rfl, hb1⟩; obtain ⟨⟨d1, o1⟩, rfl⟩ := regrown_of_below hb1; clear hb1
  go_wp2_with fail
  refine (refSize_any n k i _ i1 i2 k2).mono ?_
  rintro e w1 ⟨rfl, hb1⟩; obtain ⟨⟨d1, o1⟩, rfl⟩ := regrown_of_below hb1; clear hb1
  go_wp2_with fail
  refine (most_any n k _).mono ?_
  rintro e w1 ⟨rfl, hb1⟩; obtain ⟨⟨d1, o1⟩, rfl⟩ := regrown_of_below hb1; clear hb1
  go_wp2_with fail
  refine (refMost_any n k _).mono ?_
  rintro e w1 ⟨rfl, hb1⟩; obtain ⟨⟨d1, o1⟩, rfl⟩ := regrown_of_below hb1; clear hb1
  go_wp2_with fail
  refine (of_any n k i _).mono ?_
  rintro e w1 ⟨rfl, hb1⟩; obtain ⟨⟨d1, o1⟩, rfl⟩ := regrown_of_below hb1; clear hb1
  go_wp2_with fail
  refine (refOf_any n k i _).mono ?_
  rintro e w1 ⟨rfl, hb1⟩; obtain ⟨⟨d1, o1⟩, rfl⟩ := regrown_of_below hb1; clear hb1
  go_wp2_with fail
  refine (place_any n k i _).mono ?_
  rintro e w1 ⟨rfl, hb1⟩; obtain ⟨⟨d1, o1⟩, rfl⟩ := regrown_of_below hb1; clear hb1
  go_wp2_with fail
  refine (refPlace_any n k i _).mono ?_
  rintro e w1 ⟨rfl, hb1⟩; obtain ⟨⟨d1, o1⟩, rfl⟩ := regrown_of_below hb1; clear hb1
  go_wp2_with fail
  refine (row_any n i _).mono ?_
  rintro e w1 ⟨rfl, hb1⟩; obtain ⟨⟨d1, o1⟩, rfl⟩ := regrown_of_below hb1; clear hb1
  go_wp2_with fail
  refine (refRow_any n i _).mono ?_
  rintro e w1 ⟨rfl, hb1⟩; obtain ⟨⟨d1, o1⟩, rfl⟩ := regrown_of_below hb1; clear hb1
  go_wp2_with fail
  refine (col_any n i _).mono ?_
  rintro e w1 ⟨rfl, hb1⟩; obtain ⟨⟨d1, o1⟩, rfl⟩ := regrown_of_below hb1; clear hb1
  go_wp2_with fail
  refine (refCol_any n i _).mono ?_
  rintro e w1 ⟨rfl, hb1⟩; obtain ⟨⟨d1, o1⟩, rfl⟩ := regrown_of_below hb1; clear hb1
  go_wp2
  go_ret
  exact ⟨rfl, (by repeat (first | with_reducible refine blg ?_ _ _ | with_reducible refine bla ?_ _ | with_reducible exact Below.refl _ _))⟩
end Go.Proofs.Ytphgkgpkallgeaa
