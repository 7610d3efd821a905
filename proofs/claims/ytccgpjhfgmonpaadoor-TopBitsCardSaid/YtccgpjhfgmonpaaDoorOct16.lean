/- Package octet: the bytes of numbers. -/
import Derived.Test.YtccgpjhfgmonpaaDoorOct4
namespace Go.Proofs.YtccgpjhfgmonpaaDoor
open Go.RowKit Go.Sort
set_option linter.unusedVariables false
/-- Byte i of a number. -/
def bt (n : Int) (i : Nat) : Int := n / 2 ^ (8 * i) % 256
theorem bt_bd (n : Int) (i : Nat) : 0 ≤ bt n i ∧ bt n i ≤ 255 := by unfold bt; omega
theorem bt8 {n : Int} (hn : 0 ≤ n ∧ n < 256) {i : Nat} (h : i < 1) : n / 2 ^ (8 * i) = bt n i := by
  obtain rfl : i = 0 := by omega
  unfold bt
  simp
  omega

set_option maxRecDepth 100000 in
set_option maxHeartbeats 2000000 in
theorem oput64_any (n : Int) (hn : -9223372036854775808 ≤ n ∧ n < 9223372036854775808) (w : World) :
    Calls Tryd.prog 61 #[.int .i64 n, .int .i64 8] w fun e w' => ∃ g, e = .returned (.slice (some ⟨g, 0, none⟩) 8 8) ∧ w.heap.size ≤ g ∧ CellsAt w' g 5 (cellsB (bt n) 8).toArray ∧ Below w.heap.size w w' := by
  obtain ⟨i0, hi0, hz0, hz1, hz2⟩ := info_parts infoByte
  have hmk := run_makeSlice (P := Tryd.prog) w 46 5 i0 (.int .u8 0) Tryd.underlying46 hi0 hz0 .i64 .i64 8 8 (by omega) (by omega) (by rw [hz1]; simp) (by rw [hz2]; omega) (by omega)
  simp only [hz1, Nat.mul_one] at hmk
  have hsz : (madeCells (Value.int .u8 0).cells (Int.toNat 8)).size = 8 := size_madeCells _ _
  generalize madeCells (Value.int .u8 0).cells (Int.toNat 8) = cur at hmk hsz
  have hcur : CellsAt (w.alloc (.cells cur 5)) w.heap.size 5 cur := World.alloc_heap_new w _
  have hb1 : Below w.heap.size w (w.alloc (.cells cur 5)) := bl1 _ _
  go_enter Tryd.func61, Tryd.ntmps61
  have h0 : ∀ j : Nat, j < 0 → cur[j]? = some (.int .u8 (bt n j)) := fun j hj => absurd hj (Nat.not_lt_zero _)
  clear hi0 hz0 hz1 hz2
  go_wp2_with fail
  obtain ⟨g, hg⟩ : ∃ g, g = w.heap.size := ⟨_, rfl⟩
  simp only [← hg] at hcur hb1 ⊢
  generalize w.alloc (.cells cur 5) = V at hcur hb1 ⊢
  clear hmk
  have HG := Lib.hid hg
  clear hg
  go_loopw [11, 6] (fun z y wr => ∃ (i : Nat) (cur' : Array Value), z = .int .i64 i ∧ i ≤ 8 ∧ CellsAt wr g 5 cur' ∧ cur'.size = 8 ∧ (∀ j : Nat, j < i → cur'[j]? = some (.int .u8 (bt n j))) ∧ Below g w wr) (fun z _ _ => 8 - (intOf z).toNat)
  case atStart => exact ⟨0, cur, rfl, by omega, hcur, hsz, h0, hb1⟩
  case round =>
    clear hcur hb1 h0 hsz
    obtain ⟨i, cur', rfl, hi, hC, hs, hj, hB⟩ := hrel
    by_cases hlt : i < 8
    · have i0 : (0 : Int) ≤ (i : Int) := by omega
      have i4 : (i : Int) < 8 := by omega
      have hh : cur'[i]? = some cur'[i] := Array.getElem?_eq_getElem (by omega)
      have hc0 := hC.cell i
      rw [hh] at hc0
      generalize cur'[i] = old at hc0
      have hf0 := hC.frozen i
      have hH : Has wr g := hC.lt
      go_wp2_with fail
      refine ⟨?_, by simp [intOf]; omega⟩
      refine ⟨i + 1, cur'.setIfInBounds i (.int .u8 (bt n i)), by simp, by omega, hC.set i _, by simp [hs], ?_, hB.trans (below_of_grownBy (grownBy_setCell'' wr g i _) (Nat.le_of_lt hC.lt) (Nat.le_refl _))⟩
      intro j hj'
      by_cases e : j = i
      · subst e
        rw [Array.getElem?_setIfInBounds_self_of_lt (by omega)]
      · rw [Array.getElem?_setIfInBounds_ne (Ne.symm e)]
        exact hj j (by omega)
    · obtain rfl : i = 8 := by omega
      go_wp2
      go_ret
      refine ⟨g, rfl, Nat.le_of_eq HG.out.symm, ?_, by rw [← HG.out]; exact hB⟩
      rw [show (cellsB (bt n) 8).toArray = cur' from ?_]
      · exact hC
      · refine Array.ext_getElem? (fun j => ?_)
        by_cases h : j < 8
        · rw [hj j h]; simpa using cellsB_at (bt n) 8 j h
        · have e1 : cur'[j]? = none := Array.getElem?_eq_none (by omega)
          have e2 : (cellsB (bt n) 8).toArray[j]? = none := Array.getElem?_eq_none (by simp [cellsB]; omega)
          rw [e1, e2]
end Go.Proofs.YtccgpjhfgmonpaaDoor
