/- Package octet: the next bytes. -/
import Derived.Test.YtccgpjhfgmonpaaDoorOct
namespace Go.Proofs.YtccgpjhfgmonpaaDoor
open Go.RowKit Go.Sort
set_option linter.unusedVariables false

abbrev rdr (v : Value) (p e fa : Int) : Array Value := #[v, .int .i64 p, .int .i64 e, .int .i64 fa]
/-- What is thrown where there are not so many bytes. -/
abbrev gaveUp (e fa : Int) : PanicEntry := { v := .iface 76 (.agg #[.int .i64 e, .int .i64 fa]), recovered := false }

theorem nextO_neg (R : Nat) (v : Value) (p : Nat) (e fa k : Int) (w : World) (hR : CellsAt w R 70 (rdr v p e fa)) (hk : k < 0) :
    Calls Tryd.prog 67 #[.pointer (some ⟨R, 0, none⟩), .int .i64 k] w fun x w' => x = .panicked [gaveUp 3 p] ∧ Below w.heap.size w w' := by
  have c1 : w.cell? ⟨R, 1, none⟩ = some (.int .i64 p) := hR.cell 1
  go_enter Tryd.func67, Tryd.ntmps67
  go_wp2_with fail
  exact ⟨rfl, rfl, Below.refl _ _⟩

theorem next_short (R : Nat) (a : Option Addr) (n c p : Nat) (e fa : Int) (k : Int) (w : World) (hR : CellsAt w R 70 (rdr (.slice a n c) p e fa)) (hk : 0 ≤ k) (hp : p ≤ n) (hn : n ≤ 9223372036854775807) (hs : (n : Int) - p < k) :
    Calls Tryd.prog 67 #[.pointer (some ⟨R, 0, none⟩), .int .i64 k] w fun x w' => x = .panicked [gaveUp 2 n] ∧ Below w.heap.size w w' := by
  have c0 : w.cell? ⟨R, 0, none⟩ = some (.slice a n c) := hR.cell 0
  have c1 : w.cell? ⟨R, 1, none⟩ = some (.int .i64 p) := hR.cell 1
  have kR : Has w R := hR.lt
  go_enter Tryd.func67, Tryd.ntmps67
  go_wp2_with fail
  refine wp_region_quiet_below (by kernel_rfl) (by kernel_rfl) ?_
  repeat (go_big_quiet_step (fail))
  refine wpQuiet_nil ?_
  rintro _ ⟨⟨d2, o2⟩, rfl⟩
  go_wp2_with fail
  exact ⟨rfl, rfl, below_regrown _ _ _⟩

theorem next_ok (R : Nat) (a : Option Addr) (n c p k : Nat) (e fa : Int) (f : Nat → Int) (w : World) (hR : CellsAt w R 70 (rdr (.slice a n c) p e fa)) (hb : Rd8 w a n f) (hne : ∀ b, a = some b → b.block ≠ R) (hc : n ≤ c) (hn : n ≤ 9223372036854775807) (hp : p + k ≤ n) :
    Calls Tryd.prog 67 #[.pointer (some ⟨R, 0, none⟩), .int .i64 k] w fun x w' => ∃ a' c', x = .returned (.slice a' k c') ∧ k ≤ c' ∧ CellsAt w' R 70 (rdr (.slice a n c) (p + k : Nat) e fa) ∧ Rd8 w' a' k (fun i => f (p + i)) ∧ w.grownBy w' (some R) := by
  have c0 : w.cell? ⟨R, 0, none⟩ = some (.slice a n c) := hR.cell 0
  have c1 : w.cell? ⟨R, 1, none⟩ = some (.int .i64 p) := hR.cell 1
  have f1 := hR.frozen 1
  have kR : Has w R := hR.lt
  go_enter Tryd.func67, Tryd.ntmps67
  go_wp2_with fail
  refine wp_region_quiet_below (by kernel_rfl) (by kernel_rfl) ?_
  repeat (go_big_quiet_step (fail))
  refine wpQuiet_nil ?_
  rintro _ ⟨⟨d2, o2⟩, rfl⟩
  have hU : Below w.heap.size w (grow (redrawn w d2) o2) := below_regrown w d2 o2
  generalize grow (redrawn w d2) o2 = U at hU ⊢
  have hR1 := hR.below hU
  have hb1 := hb.grown (grownBy_of_below hU none) (fun _ _ => by simp)
  have g1 : w.grownBy U none := grownBy_of_below hU none
  have c0 : U.cell? ⟨R, 0, none⟩ = some (.slice a n c) := hR1.cell 0
  have c1 : U.cell? ⟨R, 1, none⟩ = some (.int .i64 p) := hR1.cell 1
  have f1 := hR1.frozen 1
  go_wp2_with fail
  have hR2 := hR1.set 1 (.int .i64 (p + k))
  have hV := grownBy_setCell'' U R 1 (.int .i64 (p + k))
  have hb2 := hb1.grown hV (fun b hb => by simpa using hne b hb)
  generalize U.setCell ⟨R, 1, none⟩ (.int .i64 (p + k)) = V at hR2 hV hb2 ⊢
  have c0 : V.cell? ⟨R, 0, none⟩ = some (.slice a n c) := hR2.cell 0
  have c1 : V.cell? ⟨R, 1, none⟩ = some (.int .i64 (p + k)) := hR2.cell 1
  have kR : Has V R := hR2.lt
  have gV : w.grownBy V (some R) := grownBy_trans (grownBy_none g1) hV
  clear hU hR1 hb1 g1 f1
  have q1 : ((p : Int) + k) - k = p := by omega
  have q2 : (0 : Int) ≤ p := by omega
  have q3 : (p : Int) ≤ p + k := by omega
  have q4 : (p : Int) + k ≤ c := by omega
  refine wp_region_quiet_below (by kernel_rfl) (by kernel_rfl) ?_
  repeat (go_big_quiet_step (fail))
  refine wpQuiet_nil ?_
  rintro _ ⟨⟨d3, o3⟩, rfl⟩
  go_wp2_with fail
  · obtain rfl : c = p := by omega
    go_ret
    exact ⟨_, _, rfl, by omega, by simpa using hR2.below (below_regrown V d3 o3), fun i hi => by omega, grownBy_trans gV (grownBy_of_below (below_regrown V d3 o3) _)⟩
  · go_ret
    exact ⟨_, _, rfl, by omega, by simpa using hR2.below (below_regrown V d3 o3), (hb2.cut hp).grown (grownBy_of_below (below_regrown V d3 o3) none) (fun _ _ => by simp), grownBy_trans gV (grownBy_of_below (below_regrown V d3 o3) _)⟩
end Go.Proofs.YtccgpjhfgmonpaaDoor
