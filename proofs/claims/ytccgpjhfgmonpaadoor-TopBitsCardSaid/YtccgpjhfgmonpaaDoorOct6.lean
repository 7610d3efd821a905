/- Package octet: what is read. -/
import Derived.Test.YtccgpjhfgmonpaaDoorOct5
namespace Go.Proofs.YtccgpjhfgmonpaaDoor
open Go.RowKit Go.Sort
set_option linter.unusedVariables false

theorem read64_nil (n : Int) (w : World) :
    Calls Tryd.prog 63 #[.pointer none, .int .i64 n, .func (.func 64) #[] #[]] w fun e w' => e = .returned (.int .i64 0) ∧ Below w.heap.size w w' := by
  have hmf : ∀ (fn : Fn) (first cap : Array Value) (w : World), (Instr.makeFunc fn first cap).run Tryd.prog w = .ok (.func fn first cap) w := fun _ _ _ _ => rfl
  go_enter_defers Tryd.func63, Tryd.ntmps63
  go_wp2_with fail
  exact ⟨_, results_tmp rfl _ _ _, rfl, bl1 _ _⟩

theorem read64_bad (R : Nat) (v : Value) (p e fa n : Int) (w : World) (hR : CellsAt w R 70 (rdr v p e fa)) (he : ¬ e = 0) :
    Calls Tryd.prog 63 #[.pointer (some ⟨R, 0, none⟩), .int .i64 n, .func (.func 64) #[] #[]] w fun x w' => x = .returned (.int .i64 0) ∧ Below w.heap.size w w' := by
  have c2 : w.cell? ⟨R, 2, none⟩ = some (.int .i64 e) := hR.cell 2
  have kR : Has w R := hR.lt
  have hmf : ∀ (fn : Fn) (first cap : Array Value) (w : World), (Instr.makeFunc fn first cap).run Tryd.prog w = .ok (.func fn first cap) w := fun _ _ _ _ => rfl
  go_enter_defers Tryd.func63, Tryd.ntmps63
  go_wp2_with fail
  exact ⟨_, results_tmp rfl _ _ _, rfl, bl1 _ _⟩

theorem read64_neg (R : Nat) (v : Value) (p : Nat) (fa n : Int) (w : World) (hR : CellsAt w R 70 (rdr v p 0 fa)) (hn : n < 0) :
    Calls Tryd.prog 63 #[.pointer (some ⟨R, 0, none⟩), .int .i64 n, .func (.func 64) #[] #[]] w fun x w' => x = .returned (.int .i64 0) ∧ CellsAt w' R 70 (rdr v p 3 p) ∧ w.grownBy w' (some R) := by
  have c2 : w.cell? ⟨R, 2, none⟩ = some (.int .i64 0) := hR.cell 2
  have kR : Has w R := hR.lt
  have hmf : ∀ (fn : Fn) (first cap : Array Value) (w : World), (Instr.makeFunc fn first cap).run Tryd.prog w = .ok (.func fn first cap) w := fun _ _ _ _ => rfl
  go_enter_defers Tryd.func63, Tryd.ntmps63
  go_wp2_with fail
  have hR1 := hR.below (bl1 w (.cells #[.pointer (some ⟨R, 0, none⟩)] 49))
  refine (nextO_neg R v p 0 fa n _ hR1 hn).mono ?_
  rintro x w2 ⟨rfl, hb2⟩
  have hB := CellsAt.below (show CellsAt (w.alloc (.cells #[.pointer (some ⟨R, 0, none⟩)] 49)) w.heap.size 49 #[.pointer (some ⟨R, 0, none⟩)] from World.alloc_heap_new w _) hb2
  have hR2 := hR1.below hb2
  have hb3 : Below w.heap.size w w2 := (bl1 w _).trans (hb2.mono (by simp))
  refine leaves_cons (f := 66) (args := #[.pointer (some ⟨w.heap.size, 0, none⟩)]) (by simp) (by simp [go_sem]) ?_
  refine (catch64_thrown w.heap.size R _ _ _ _ 3 p [] w2 hB hR2).mono ?_
  rintro x u' w3 ⟨rfl, rfl, hR3, hg3⟩
  exact ⟨_, results_tmp rfl _ _ _, rfl, hR3, grownBy_trans (grownBy_of_below hb3 _) hg3⟩

theorem read64_short (R : Nat) (a : Option Addr) (m c p : Nat) (fa n : Int) (w : World) (hR : CellsAt w R 70 (rdr (.slice a m c) p 0 fa)) (hn : 0 ≤ n) (hp : p ≤ m) (hm : m ≤ 9223372036854775807) (hs : (m : Int) - p < n) :
    Calls Tryd.prog 63 #[.pointer (some ⟨R, 0, none⟩), .int .i64 n, .func (.func 64) #[] #[]] w fun x w' => x = .returned (.int .i64 0) ∧ CellsAt w' R 70 (rdr (.slice a m c) p 2 m) ∧ w.grownBy w' (some R) := by
  have c2 : w.cell? ⟨R, 2, none⟩ = some (.int .i64 0) := hR.cell 2
  have kR : Has w R := hR.lt
  have hmf : ∀ (fn : Fn) (first cap : Array Value) (w : World), (Instr.makeFunc fn first cap).run Tryd.prog w = .ok (.func fn first cap) w := fun _ _ _ _ => rfl
  go_enter_defers Tryd.func63, Tryd.ntmps63
  go_wp2_with fail
  have hR1 := hR.below (bl1 w (.cells #[.pointer (some ⟨R, 0, none⟩)] 49))
  refine (next_short R a m c p 0 fa n _ hR1 hn hp hm hs).mono ?_
  rintro x w2 ⟨rfl, hb2⟩
  have hB := CellsAt.below (show CellsAt (w.alloc (.cells #[.pointer (some ⟨R, 0, none⟩)] 49)) w.heap.size 49 #[.pointer (some ⟨R, 0, none⟩)] from World.alloc_heap_new w _) hb2
  have hR2 := hR1.below hb2
  have hb3 : Below w.heap.size w w2 := (bl1 w _).trans (hb2.mono (by simp))
  refine leaves_cons (f := 66) (args := #[.pointer (some ⟨w.heap.size, 0, none⟩)]) (by simp) (by simp [go_sem]) ?_
  refine (catch64_thrown w.heap.size R _ _ _ _ 2 m [] w2 hB hR2).mono ?_
  rintro x u' w3 ⟨rfl, rfl, hR3, hg3⟩
  exact ⟨_, results_tmp rfl _ _ _, rfl, hR3, grownBy_trans (grownBy_of_below hb3 _) hg3⟩

theorem read64_ok (R : Nat) (a : Option Addr) (m c p : Nat) (fa : Int) (f : Nat → Int) (w : World) (hR : CellsAt w R 70 (rdr (.slice a m c) p 0 fa)) (hb : Rd8 w a m f) (hne : ∀ b, a = some b → b.block ≠ R) (hc : m ≤ c) (hm : m ≤ 9223372036854775807) (hp : p + 8 ≤ m) :
    Calls Tryd.prog 63 #[.pointer (some ⟨R, 0, none⟩), .int .i64 8, .func (.func 64) #[] #[]] w fun x w' => x = .returned (.int .i64 (lw (fun i => f (p + i)) 8)) ∧ CellsAt w' R 70 (rdr (.slice a m c) (p + 8 : Nat) 0 fa) ∧ w.grownBy w' (some R) := by
  have c2 : w.cell? ⟨R, 2, none⟩ = some (.int .i64 0) := hR.cell 2
  have kR : Has w R := hR.lt
  have hmf : ∀ (fn : Fn) (first cap : Array Value) (w : World), (Instr.makeFunc fn first cap).run Tryd.prog w = .ok (.func fn first cap) w := fun _ _ _ _ => rfl
  go_enter_defers Tryd.func63, Tryd.ntmps63
  go_wp2_with fail
  have hR1 := hR.below (bl1 w (.cells #[.pointer (some ⟨R, 0, none⟩)] 49))
  have hb1 := hb.grown (grownBy_of_below (bl1 w (.cells #[.pointer (some ⟨R, 0, none⟩)] 49)) none) (fun _ _ => by simp)
  refine (next_ok R a m c p 8 0 fa f _ hR1 hb1 hne hc hm hp).mono ?_
  rintro x w2 ⟨a', c', rfl, hkc, hR3, hq, hg2⟩
  have hg := grownBy_trans (grownBy_of_below (bl1 w (.cells #[.pointer (some ⟨R, 0, none⟩)] 49)) (some R)) hg2
  go_wp2_with fail
  refine (number64_any a' c' _ w2 hq).mono ?_
  rintro x w4 ⟨rfl, hb4⟩
  go_wp2_with fail
  refine leaves_cons (f := 66) (args := #[.pointer (some ⟨w.heap.size, 0, none⟩)]) (by simp) (by simp [go_sem]) ?_
  refine (catch64_idle w.heap.size w4).mono ?_
  rintro x u' w3 ⟨rfl, rfl, rfl⟩
  exact ⟨_, results_tmp rfl _ _ _, rfl, (hR3.below hb4), grownBy_trans hg (grownBy_of_below hb4 _)⟩
end Go.Proofs.YtccgpjhfgmonpaaDoor
