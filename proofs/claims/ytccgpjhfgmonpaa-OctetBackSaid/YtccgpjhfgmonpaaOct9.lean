/- Package octet: what a reader tells. -/
import Derived.Test.YtccgpjhfgmonpaaOct7
namespace Go.Proofs.Ytccgpjhfgmonpaa
open Go.RowKit Go.Sort
set_option linter.unusedVariables false

theorem rdead_no (R : Nat) (v : Value) (p : Nat) (fa : Int) (w : World) (hR : CellsAt w R 57 (rdr v p 0 fa)) :
    Calls Try.prog 49 #[.pointer (some ⟨R, 0, none⟩)] w fun x w' => x = .returned (.bool false) ∧ Below w.heap.size w w' := by
  have c2 : w.cell? ⟨R, 2, none⟩ = some (.int .i64 0) := hR.cell 2
  go_enter Try.func49, Try.ntmps49
  go_wp2
  go_ret
  exact ⟨rfl, Below.refl _ _⟩

theorem rdead_yes (R : Nat) (v : Value) (p : Nat) (e fa : Int) (w : World) (hR : CellsAt w R 57 (rdr v p e fa)) (he : ¬ e = 0) :
    Calls Try.prog 49 #[.pointer (some ⟨R, 0, none⟩)] w fun x w' => x = .returned (.bool true) ∧ Below w.heap.size w w' := by
  have c2 : w.cell? ⟨R, 2, none⟩ = some (.int .i64 e) := hR.cell 2
  have b1 : (e != 0) = true := by simpa using he
  go_enter Try.func49, Try.ntmps49
  go_wp2
  go_ret
  exact ⟨by first | rfl | simp [b1], Below.refl _ _⟩

theorem rdead_nil (w : World) : Calls Try.prog 49 #[.pointer none] w fun x w' => x = .returned (.bool true) ∧ Below w.heap.size w w' := by
  go_enter Try.func49, Try.ntmps49
  go_wp2
  go_ret
  exact ⟨rfl, Below.refl _ _⟩

theorem rAt_any (R : Nat) (v : Value) (p : Nat) (e fa : Int) (w : World) (hR : CellsAt w R 57 (rdr v p e fa)) :
    Calls Try.prog 34 #[.pointer (some ⟨R, 0, none⟩)] w fun x w' => x = .returned (.int .i64 p) ∧ Below w.heap.size w w' := by
  have c1 : w.cell? ⟨R, 1, none⟩ = some (.int .i64 p) := hR.cell 1
  go_enter Try.func34, Try.ntmps34
  go_wp2
  go_ret
  exact ⟨rfl, Below.refl _ _⟩

theorem rLeft_no (R : Nat) (a : Option Addr) (m c p : Nat) (fa : Int) (w : World) (hR : CellsAt w R 57 (rdr (.slice a m c) p 0 fa)) (hm : m ≤ 100000) (hp : p ≤ m) :
    Calls Try.prog 35 #[.pointer (some ⟨R, 0, none⟩)] w fun x w' => x = .returned (.int .i64 ((m : Int) - p)) ∧ Below w.heap.size w w' := by
  have c0 : w.cell? ⟨R, 0, none⟩ = some (.slice a m c) := hR.cell 0
  have c1 : w.cell? ⟨R, 1, none⟩ = some (.int .i64 p) := hR.cell 1
  have c2 : w.cell? ⟨R, 2, none⟩ = some (.int .i64 0) := hR.cell 2
  have kR : Has w R := hR.lt
  go_enter Try.func35, Try.ntmps35
  go_wp2_with fail
  refine (rdead_no R _ p fa _ hR).mono ?_
  rintro x w1 ⟨rfl, hb1⟩; obtain ⟨⟨d1, o1⟩, rfl⟩ := regrown_of_below hb1; clear hb1
  go_wp2_with fail
  refine wp_region_grown' (by kernel_rfl) (by kernel_rfl) ?_
  repeat (go_big_quiet_step (fail))
  refine wpQuiet_nil ?_
  rintro _ ⟨⟨d2, o2⟩, rfl⟩
  go_wp2_with fail
  go_ret
  exact ⟨rfl, (by repeat (first | with_reducible refine blg ?_ _ _ | with_reducible refine bla ?_ _ | with_reducible exact Below.refl _ _))⟩

theorem rLeft_yes (R : Nat) (v : Value) (p : Nat) (e fa : Int) (w : World) (hR : CellsAt w R 57 (rdr v p e fa)) (he : ¬ e = 0) :
    Calls Try.prog 35 #[.pointer (some ⟨R, 0, none⟩)] w fun x w' => x = .returned (.int .i64 0) ∧ Below w.heap.size w w' := by
  have c2 : w.cell? ⟨R, 2, none⟩ = some (.int .i64 e) := hR.cell 2
  have kR : Has w R := hR.lt
  go_enter Try.func35, Try.ntmps35
  go_wp2_with fail
  refine (rdead_yes R _ p e fa _ hR he).mono ?_
  rintro x w1 ⟨rfl, hb1⟩; obtain ⟨⟨d1, o1⟩, rfl⟩ := regrown_of_below hb1; clear hb1
  go_wp2_with fail
  go_ret
  exact ⟨rfl, (by repeat (first | with_reducible refine blg ?_ _ _ | with_reducible refine bla ?_ _ | with_reducible exact Below.refl _ _))⟩

theorem rEnd_no (R : Nat) (a : Option Addr) (m c p : Nat) (fa : Int) (w : World) (hR : CellsAt w R 57 (rdr (.slice a m c) p 0 fa)) (b : Bool) (hbp : b = decide (p = m)) :
    Calls Try.prog 33 #[.pointer (some ⟨R, 0, none⟩)] w fun x w' => x = .returned (.bool b) ∧ Below w.heap.size w w' := by
  have c0 : w.cell? ⟨R, 0, none⟩ = some (.slice a m c) := hR.cell 0
  have c1 : w.cell? ⟨R, 1, none⟩ = some (.int .i64 p) := hR.cell 1
  have c2 : w.cell? ⟨R, 2, none⟩ = some (.int .i64 0) := hR.cell 2
  have kR : Has w R := hR.lt
  have b1 : ((p : Int) == (m : Int)) = b := by rw [hbp]; by_cases h : p = m <;> simp [h] <;> omega
  clear hbp
  have HB := Lib.hid b1
  clear b1
  go_enter Try.func33, Try.ntmps33
  go_wp2_with fail
  refine wp_region_quiet_below (by kernel_rfl) (by kernel_rfl) ?_
  repeat (go_big_quiet_step (first | (go_at_call 49; exact Calls.regrown_of (rdead_no R _ p fa _ (hR.below (by repeat (first | with_reducible refine blg ?_ _ _ | with_reducible refine bla ?_ _ | with_reducible exact Below.refl _ _)))))))
  refine wpQuiet_nil ?_
  rintro _ ⟨⟨d2, o2⟩, rfl⟩
  go_wp2_with fail
  go_ret
  exact ⟨by rw [← HB.out]; rfl, (by repeat (first | with_reducible refine blg ?_ _ _ | with_reducible refine bla ?_ _ | with_reducible exact Below.refl _ _))⟩

theorem rEnd_yes (R : Nat) (v : Value) (p : Nat) (e fa : Int) (w : World) (hR : CellsAt w R 57 (rdr v p e fa)) (he : ¬ e = 0) :
    Calls Try.prog 33 #[.pointer (some ⟨R, 0, none⟩)] w fun x w' => x = .returned (.bool false) ∧ Below w.heap.size w w' := by
  have c2 : w.cell? ⟨R, 2, none⟩ = some (.int .i64 e) := hR.cell 2
  have kR : Has w R := hR.lt
  have b1 : (e == 0) = false := by simpa using he
  go_enter Try.func33, Try.ntmps33
  go_wp2_with fail
  refine wp_region_quiet_below (by kernel_rfl) (by kernel_rfl) ?_
  repeat (go_big_quiet_step (first | (go_at_call 49; exact Calls.regrown_of (rdead_yes R _ p e fa _ (hR.below (by repeat (first | with_reducible refine blg ?_ _ _ | with_reducible refine bla ?_ _ | with_reducible exact Below.refl _ _))) he))))
  refine wpQuiet_nil ?_
  rintro _ ⟨⟨d2, o2⟩, rfl⟩
  go_wp2_with fail
  go_ret
  exact ⟨rfl, (by repeat (first | with_reducible refine blg ?_ _ _ | with_reducible refine bla ?_ _ | with_reducible exact Below.refl _ _))⟩

theorem rFault_any (R : Nat) (v : Value) (p : Nat) (e fa : Int) (w : World) (hR : CellsAt w R 57 (rdr v p e fa)) :
    Calls Try.prog 36 #[.pointer (some ⟨R, 0, none⟩)] w fun x w' => x = .returned (.agg #[.int .i64 e, .int .i64 fa]) ∧ Below w.heap.size w w' := by
  have c2 : w.cell? ⟨R, 2, none⟩ = some (.int .i64 e) := hR.cell 2
  have c3 : w.cell? ⟨R, 3, none⟩ = some (.int .i64 fa) := hR.cell 3
  have kR : Has w R := hR.lt
  go_enter Try.func36, Try.ntmps36
  go_wp2
  refine bodyPost_ret (v := .agg #[.int .i64 e, .int .i64 fa]) ?_ rfl ⟨rfl, (by repeat (first | with_reducible refine blg ?_ _ _ | with_reducible refine bla ?_ _ | with_reducible exact Below.refl _ _))⟩
  simp [results, Try.results36, go_sem]

theorem rFail_not (R : Nat) (v : Value) (p : Nat) (e fa e2 f2 : Int) (w : World) (hR : CellsAt w R 57 (rdr v p e fa)) (he : ¬ (e = 0 ∧ ¬ e2 = 0)) :
    Calls Try.prog 32 #[.pointer (some ⟨R, 0, none⟩), .int .i64 e2, .int .i64 f2] w fun x w' => x = .returned (.tuple #[]) ∧ Below w.heap.size w w' := by
  by_cases h : e = 0
  · obtain rfl : e2 = 0 := Classical.byContradiction fun hh => he ⟨h, hh⟩
    subst h
    clear he
    have c2 : w.cell? ⟨R, 2, none⟩ = some (.int .i64 0) := hR.cell 2
    go_enter Try.func32, Try.ntmps32
    go_wp2_with fail
    refine (rdead_no R _ p fa _ hR).mono ?_
    rintro x w1 ⟨rfl, hb1⟩; obtain ⟨⟨d1, o1⟩, rfl⟩ := regrown_of_below hb1; clear hb1
    go_wp2_with fail
    go_end0
    exact ⟨rfl, (by repeat (first | with_reducible refine blg ?_ _ _ | with_reducible refine bla ?_ _ | with_reducible exact Below.refl _ _))⟩
  · have he := h
    clear h
    have b1 : (e == 0) = false := by simpa using he
    have c2 : w.cell? ⟨R, 2, none⟩ = some (.int .i64 e) := hR.cell 2
    go_enter Try.func32, Try.ntmps32
    go_wp2_with fail
    refine (rdead_yes R _ p e fa _ hR he).mono ?_
    rintro x w1 ⟨rfl, hb1⟩; obtain ⟨⟨d1, o1⟩, rfl⟩ := regrown_of_below hb1; clear hb1
    go_wp2_with fail
    go_end0
    exact ⟨rfl, (by repeat (first | with_reducible refine blg ?_ _ _ | with_reducible refine bla ?_ _ | with_reducible exact Below.refl _ _))⟩

theorem rFail_so (R : Nat) (v : Value) (p : Nat) (fa e2 f2 : Int) (w : World) (hR : CellsAt w R 57 (rdr v p 0 fa)) (he : ¬ e2 = 0) :
    Calls Try.prog 32 #[.pointer (some ⟨R, 0, none⟩), .int .i64 e2, .int .i64 f2] w fun x w' => x = .returned (.tuple #[]) ∧ CellsAt w' R 57 (rdr v p e2 f2) ∧ w.grownBy w' (some R) := by
  have c2 : w.cell? ⟨R, 2, none⟩ = some (.int .i64 0) := hR.cell 2
  have b1 : (e2 != 0) = true := by simpa using he
  go_enter Try.func32, Try.ntmps32
  go_wp2_with fail
  refine (rdead_no R _ p fa _ hR).mono ?_
  rintro x w1 ⟨rfl, hb1⟩
  have hR1 := hR.below hb1
  have c2 : w1.cell? ⟨R, 2, none⟩ = some (.int .i64 0) := hR1.cell 2
  have c3 : w1.cell? ⟨R, 3, none⟩ = some (.int .i64 fa) := hR1.cell 3
  have f2' := hR1.frozen 2
  have f3' := hR1.frozen 3
  have kR : Has w1 R := hR1.lt
  go_wp2_with fail
  have h1 := (hR1.set 2 (.int .i64 e2)).set 3 (.int .i64 f2)
  have h2 := grownBy_trans (grownBy_setCell'' w1 R 2 (.int .i64 e2)) (grownBy_setCell'' _ R 3 (.int .i64 f2))
  go_end0
  exact ⟨rfl, h1, grownBy_trans (grownBy_of_below hb1 _) h2⟩
end Go.Proofs.Ytccgpjhfgmonpaa
