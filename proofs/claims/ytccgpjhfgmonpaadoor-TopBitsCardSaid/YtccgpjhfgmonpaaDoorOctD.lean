/- Package octet: what TopBits uses of it. -/
import Derived.Test.YtccgpjhfgmonpaaDoorOct7
import Derived.Test.YtccgpjhfgmonpaaDoorOct16
namespace Go.Proofs.YtccgpjhfgmonpaaDoor
open Go.RowKit Go.Sort
set_option linter.unusedVariables false

theorem oEnd_no (R : Nat) (a : Option Addr) (m c p : Nat) (fa : Int) (w : World) (hR : CellsAt w R 70 (rdr (.slice a m c) p 0 fa)) (b : Bool) (hbp : b = decide (p = m)) :
    Calls Tryd.prog 46 #[.pointer (some ⟨R, 0, none⟩)] w fun x w' => x = .returned (.bool b) ∧ Below w.heap.size w w' := by
  have c0 : w.cell? ⟨R, 0, none⟩ = some (.slice a m c) := hR.cell 0
  have c1 : w.cell? ⟨R, 1, none⟩ = some (.int .i64 p) := hR.cell 1
  have c2 : w.cell? ⟨R, 2, none⟩ = some (.int .i64 0) := hR.cell 2
  have kR : Has w R := hR.lt
  have b1 : ((p : Int) == (m : Int)) = b := by rw [hbp]; by_cases h : p = m <;> simp [h] <;> omega
  clear hbp
  have HB := Lib.hid b1
  clear b1
  go_enter Tryd.func46, Tryd.ntmps46
  go_wp2_with fail
  refine wp_region_quiet_below (by kernel_rfl) (by kernel_rfl) ?_
  repeat (go_big_quiet_step (fail))
  refine wpQuiet_nil ?_
  rintro _ ⟨⟨d2, o2⟩, rfl⟩
  go_wp2_with fail
  go_ret
  exact ⟨by rw [← HB.out]; rfl, (by repeat (first | with_reducible refine blg ?_ _ _ | with_reducible refine bla ?_ _ | with_reducible exact Below.refl _ _))⟩

theorem rd8_below {W W' : World} {a : Option Addr} {n : Nat} {f : Nat → Int} (h : Rd8 W a n f) (hb : Below W.heap.size W W') : Rd8 W' a n f := h.grown (grownBy_of_below hb none) (fun _ _ => by simp)

set_option maxHeartbeats 1000000 in
theorem oOpen_any (a : Option Addr) (k c : Nat) (f : Nat → Int) (w : World) (hr : Rd8 w a k f) (hk : k ≤ 100000) (hc : k ≤ c) :
    Calls Tryd.prog 44 #[.slice a k c] w fun e w' => ∃ R g, e = .returned (.pointer (some ⟨R, 0, none⟩)) ∧ CellsAt w' R 70 (rdr (.slice (some ⟨g, 0, none⟩) k k) 0 0 0) ∧ Rd8 w' (some ⟨g, 0, none⟩) k f ∧ g ≠ R ∧ w.heap.size ≤ R ∧ w.heap.size ≤ g ∧ g < w'.heap.size ∧ Below w.heap.size w w' := by
  go_enter Tryd.func44, Tryd.ntmps44
  go_wp2_with fail
  refine (clone_any a k c f _ hr hk hc).mono ?_
  rintro x w1 ⟨g, rfl, hg, hgc, hb1⟩
  have hf : ∀ i, i < k → 0 ≤ f i ∧ f i ≤ 255 := fun i hi => by obtain ⟨_, _, _, _, h⟩ := hr i hi; exact h
  have hgl := hgc.lt
  have hrd := rd8_of_row hgc hf
  clear hgc hr
  go_wp2
  go_ret
  refine ⟨w1.heap.size, g, rfl, World.alloc_heap_new w1 _, rd8_below hrd (bl1 w1 _), by omega, hb1.size, hg, by simp; omega, hb1.trans ((bl1 w1 _).mono hb1.size)⟩

theorem oPut64_any (n : Int) (hn : -9223372036854775808 ≤ n ∧ n < 9223372036854775808) (w : World) :
    Calls Tryd.prog 43 #[.int .i64 n] w fun e w' => ∃ a c, e = .returned (.slice a 8 c) ∧ 8 ≤ c ∧ Rd8 w' a 8 (bt n) ∧ Below w.heap.size w w' := by
  have H := Lib.hid (oput64_any n hn w)
  go_enter Tryd.func43, Tryd.ntmps43
  go_wp2_with fail
  refine H.out.mono ?_
  rintro x w' ⟨g, rfl, h1, h2, h3⟩
  go_wp2_with fail
  go_ret
  exact ⟨_, _, rfl, Nat.le_refl _, rd8_of_row h2 (fun i _ => bt_bd n i), h3⟩
end Go.Proofs.YtccgpjhfgmonpaaDoor
