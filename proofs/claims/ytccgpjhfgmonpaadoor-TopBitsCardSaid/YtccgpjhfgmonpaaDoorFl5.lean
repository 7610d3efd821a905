/- Package flags: words that are the same; numbers that are; how many bits are 1. -/
import Derived.Test.YtccgpjhfgmonpaaDoorFl2
import Derived.Test.YtccgpjhfgmonpaaDoorFlMath2
namespace Go.Proofs.YtccgpjhfgmonpaaDoor
open Go.RowKit Go.Sort
set_option linter.unusedVariables false

/-- A slice of numbers that may be read. -/
def RdI (w : World) (a : Option Addr) (n : Nat) (F : Nat → Int) : Prop := ∀ i, i < n → ∃ b, a = some b ∧ b.block < w.heap.size ∧ w.cell? (b.add i) = some (.int .i64 (F i)) ∧ -9223372036854775808 ≤ F i ∧ F i ≤ 9223372036854775807
theorem RdI.grown {W W' : World} {a : Option Addr} {n : Nat} {F : Nat → Int} {row : Option Nat} (h : RdI W a n F) (hg : W.grownBy W' row) (hne : ∀ b, a = some b → some b.block ≠ row) : RdI W' a n F := by
  intro i hi
  obtain ⟨b, hb, h1, h2, h3⟩ := h i hi
  refine ⟨b, hb, Nat.lt_of_lt_of_le h1 hg.size, ?_, h3⟩
  rw [← h2]
  have := hg.block b.block h1 (hne b hb)
  unfold World.cell?
  rw [blk_add, this]
theorem RdI.below {W W' : World} {a : Option Addr} {n : Nat} {F : Nat → Int} (h : RdI W a n F) (hb : Below W.heap.size W W') : RdI W' a n F := h.grown (grownBy_of_below hb none) (fun _ _ => by simp)

set_option maxRecDepth 100000 in
set_option maxHeartbeats 1000000 in
theorem same_any (a b : Option Addr) (n c d : Nat) (f g : Nat → Nat) (w : World) (ha : RdW w a n f) (hb : RdW w b n g) (hfg : ∀ i, i < n → f i = g i) (hn : n ≤ 100000) :
    Calls Tryd.prog 12 #[.slice a n c, .slice b n d] w fun e w' => e = .returned (.bool true) ∧ Below w.heap.size w w' := by
  have HF := Lib.hid hfg
  clear hfg
  go_enter Tryd.func12, Tryd.ntmps12
  go_wp2_with fail
  go_loopw [5] (fun z wr => ∃ (i dd : Nat) (os : Array Obj), z = .int .i64 i ∧ i ≤ n ∧ wr = grow (redrawn w dd) os) (fun z _ => n - (intOf z).toNat)
  case atStart =>
    exact ⟨0, w.drawn, #[], rfl, by omega, gr_start w⟩
  case round =>
    obtain ⟨i, dd, os, rfl, hi, rfl⟩ := hrel
    by_cases hlt : i < n
    · obtain ⟨x, rfl, hx, cx, x0⟩ := ha i hlt
      obtain ⟨y, rfl, hy, cy, _⟩ := hb i hlt
      rw [← HF.out i hlt] at cy
      have hk0 : (0 : Int) ≤ (i : Int) := by omega
      have hki : (i : Int) < (n : Int) := by omega
      have k1 := Has.of hx
      have k2 := Has.of hy
      generalize f i = fi at cx cy x0
      go_wp2_with fail
      refine wp_region_grown' (by kernel_rfl) (by kernel_rfl) ?_
      repeat (go_big_quiet_step (fail))
      refine wpQuiet_nil ?_
      rintro _ ⟨⟨d2, o2⟩, rfl⟩
      go_wp2
      refine ⟨?_, by simp [intOf] <;> omega⟩
      exact ⟨i + 1, d2, _, by simp, by omega, rfl⟩
    · obtain rfl : i = n := by omega
      go_wp2
      go_ret
      exact ⟨rfl, (by repeat (first | with_reducible refine blg ?_ _ _ | with_reducible refine bla ?_ _ | with_reducible exact Below.refl _ _))⟩

set_option maxRecDepth 100000 in
set_option maxHeartbeats 1000000 in
theorem sameI_any (a b : Option Addr) (n c d : Nat) (f g : Nat → Int) (w : World) (ha : RdI w a n f) (hb : RdI w b n g) (hfg : ∀ i, i < n → f i = g i) (hn : n ≤ 100000) :
    Calls Tryd.prog 31 #[.slice a n c, .slice b n d] w fun e w' => e = .returned (.bool true) ∧ Below w.heap.size w w' := by
  have HF := Lib.hid hfg
  clear hfg
  go_enter Tryd.func31, Tryd.ntmps31
  go_wp2_with fail
  go_loopw [5] (fun z wr => ∃ (i dd : Nat) (os : Array Obj), z = .int .i64 i ∧ i ≤ n ∧ wr = grow (redrawn w dd) os) (fun z _ => n - (intOf z).toNat)
  case atStart =>
    exact ⟨0, w.drawn, #[], rfl, by omega, gr_start w⟩
  case round =>
    obtain ⟨i, dd, os, rfl, hi, rfl⟩ := hrel
    by_cases hlt : i < n
    · obtain ⟨x, rfl, hx, cx, x0⟩ := ha i hlt
      obtain ⟨y, rfl, hy, cy, _⟩ := hb i hlt
      rw [← HF.out i hlt] at cy
      have hk0 : (0 : Int) ≤ (i : Int) := by omega
      have hki : (i : Int) < (n : Int) := by omega
      have k1 := Has.of hx
      have k2 := Has.of hy
      generalize f i = fi at cx cy x0
      go_wp2_with fail
      refine wp_region_grown' (by kernel_rfl) (by kernel_rfl) ?_
      repeat (go_big_quiet_step (fail))
      refine wpQuiet_nil ?_
      rintro _ ⟨⟨d2, o2⟩, rfl⟩
      go_wp2
      refine ⟨?_, by simp [intOf] <;> omega⟩
      exact ⟨i + 1, d2, _, by simp, by omega, rfl⟩
    · obtain rfl : i = n := by omega
      go_wp2
      go_ret
      exact ⟨rfl, (by repeat (first | with_reducible refine blg ?_ _ _ | with_reducible refine bla ?_ _ | with_reducible exact Below.refl _ _))⟩
end Go.Proofs.YtccgpjhfgmonpaaDoor
