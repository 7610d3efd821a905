/- Package octet: what is read. -/
import Derived.Test.YtccgpjhfgmonpaaOct5
namespace Go.Proofs.Ytccgpjhfgmonpaa
open Go.RowKit Go.Sort
set_option linter.unusedVariables false

theorem read8_nil (n : Int) (w : World) :
    Calls Try.prog 37 #[.pointer none, .int .i64 n, .func (.func 38) #[] #[]] w fun e w' => e = .returned (.int .u8 0) ∧ Below w.heap.size w w' := by
  have hmf : ∀ (fn : Fn) (first cap : Array Value) (w : World), (Instr.makeFunc fn first cap).run Try.prog w = .ok (.func fn first cap) w := fun _ _ _ _ => rfl
  go_enter_defers Try.func37, Try.ntmps37
  go_wp2_with fail
  exact ⟨_, results_tmp rfl _ _ _, rfl, bl1 _ _⟩

theorem read8_bad (R : Nat) (v : Value) (p e fa n : Int) (w : World) (hR : CellsAt w R 55 (rdr v p e fa)) (he : ¬ e = 0) :
    Calls Try.prog 37 #[.pointer (some ⟨R, 0, none⟩), .int .i64 n, .func (.func 38) #[] #[]] w fun x w' => x = .returned (.int .u8 0) ∧ Below w.heap.size w w' := by
  have c2 : w.cell? ⟨R, 2, none⟩ = some (.int .i64 e) := hR.cell 2
  have kR : Has w R := hR.lt
  have hmf : ∀ (fn : Fn) (first cap : Array Value) (w : World), (Instr.makeFunc fn first cap).run Try.prog w = .ok (.func fn first cap) w := fun _ _ _ _ => rfl
  go_enter_defers Try.func37, Try.ntmps37
  go_wp2_with fail
  exact ⟨_, results_tmp rfl _ _ _, rfl, bl1 _ _⟩

theorem read8_neg (R : Nat) (v : Value) (p : Nat) (fa n : Int) (w : World) (hR : CellsAt w R 55 (rdr v p 0 fa)) (hn : n < 0) :
    Calls Try.prog 37 #[.pointer (some ⟨R, 0, none⟩), .int .i64 n, .func (.func 38) #[] #[]] w fun x w' => x = .returned (.int .u8 0) ∧ CellsAt w' R 55 (rdr v p 3 p) ∧ w.grownBy w' (some R) := by
  have c2 : w.cell? ⟨R, 2, none⟩ = some (.int .i64 0) := hR.cell 2
  have kR : Has w R := hR.lt
  have hmf : ∀ (fn : Fn) (first cap : Array Value) (w : World), (Instr.makeFunc fn first cap).run Try.prog w = .ok (.func fn first cap) w := fun _ _ _ _ => rfl
  go_enter_defers Try.func37, Try.ntmps37
  go_wp2_with fail
  have hR1 := hR.below (bl1 w (.cells #[.pointer (some ⟨R, 0, none⟩)] 25))
  refine (next_neg R v p 0 fa n _ hR1 hn).mono ?_
  rintro x w2 ⟨rfl, hb2⟩
  have hB := CellsAt.below (show CellsAt (w.alloc (.cells #[.pointer (some ⟨R, 0, none⟩)] 25)) w.heap.size 25 #[.pointer (some ⟨R, 0, none⟩)] from World.alloc_heap_new w _) hb2
  have hR2 := hR1.below hb2
  have hb3 : Below w.heap.size w w2 := (bl1 w _).trans (hb2.mono (by simp))
  refine leaves_cons (f := 50) (args := #[.pointer (some ⟨w.heap.size, 0, none⟩)]) (by simp) (by simp [go_sem]) ?_
  refine (catch8_thrown w.heap.size R _ _ _ _ 3 p [] w2 hB hR2).mono ?_
  rintro x u' w3 ⟨rfl, rfl, hR3, hg3⟩
  exact ⟨_, results_tmp rfl _ _ _, rfl, hR3, grownBy_trans (grownBy_of_below hb3 _) hg3⟩

theorem read8_short (R : Nat) (a : Option Addr) (m c p : Nat) (fa n : Int) (w : World) (hR : CellsAt w R 55 (rdr (.slice a m c) p 0 fa)) (hn : 0 ≤ n) (hp : p ≤ m) (hm : m ≤ 9223372036854775807) (hs : (m : Int) - p < n) :
    Calls Try.prog 37 #[.pointer (some ⟨R, 0, none⟩), .int .i64 n, .func (.func 38) #[] #[]] w fun x w' => x = .returned (.int .u8 0) ∧ CellsAt w' R 55 (rdr (.slice a m c) p 2 m) ∧ w.grownBy w' (some R) := by
  have c2 : w.cell? ⟨R, 2, none⟩ = some (.int .i64 0) := hR.cell 2
  have kR : Has w R := hR.lt
  have hmf : ∀ (fn : Fn) (first cap : Array Value) (w : World), (Instr.makeFunc fn first cap).run Try.prog w = .ok (.func fn first cap) w := fun _ _ _ _ => rfl
  go_enter_defers Try.func37, Try.ntmps37
  go_wp2_with fail
  have hR1 := hR.below (bl1 w (.cells #[.pointer (some ⟨R, 0, none⟩)] 25))
  refine (next_short R a m c p 0 fa n _ hR1 hn hp hm hs).mono ?_
  rintro x w2 ⟨rfl, hb2⟩
  have hB := CellsAt.below (show CellsAt (w.alloc (.cells #[.pointer (some ⟨R, 0, none⟩)] 25)) w.heap.size 25 #[.pointer (some ⟨R, 0, none⟩)] from World.alloc_heap_new w _) hb2
  have hR2 := hR1.below hb2
  have hb3 : Below w.heap.size w w2 := (bl1 w _).trans (hb2.mono (by simp))
  refine leaves_cons (f := 50) (args := #[.pointer (some ⟨w.heap.size, 0, none⟩)]) (by simp) (by simp [go_sem]) ?_
  refine (catch8_thrown w.heap.size R _ _ _ _ 2 m [] w2 hB hR2).mono ?_
  rintro x u' w3 ⟨rfl, rfl, hR3, hg3⟩
  exact ⟨_, results_tmp rfl _ _ _, rfl, hR3, grownBy_trans (grownBy_of_below hb3 _) hg3⟩

theorem read8_ok (R : Nat) (a : Option Addr) (m c p : Nat) (fa : Int) (f : Nat → Int) (w : World) (hR : CellsAt w R 55 (rdr (.slice a m c) p 0 fa)) (hb : Rd8 w a m f) (hne : ∀ b, a = some b → b.block ≠ R) (hc : m ≤ c) (hm : m ≤ 9223372036854775807) (hp : p + 1 ≤ m) :
    Calls Try.prog 37 #[.pointer (some ⟨R, 0, none⟩), .int .i64 1, .func (.func 38) #[] #[]] w fun x w' => x = .returned (.int .u8 (le (fun i => f (p + i)) 1)) ∧ CellsAt w' R 55 (rdr (.slice a m c) (p + 1 : Nat) 0 fa) ∧ w.grownBy w' (some R) := by
  have c2 : w.cell? ⟨R, 2, none⟩ = some (.int .i64 0) := hR.cell 2
  have kR : Has w R := hR.lt
  have hmf : ∀ (fn : Fn) (first cap : Array Value) (w : World), (Instr.makeFunc fn first cap).run Try.prog w = .ok (.func fn first cap) w := fun _ _ _ _ => rfl
  go_enter_defers Try.func37, Try.ntmps37
  go_wp2_with fail
  have hR1 := hR.below (bl1 w (.cells #[.pointer (some ⟨R, 0, none⟩)] 25))
  have hb1 := hb.grown (grownBy_of_below (bl1 w (.cells #[.pointer (some ⟨R, 0, none⟩)] 25)) none) (fun _ _ => by simp)
  refine (next_ok R a m c p 1 0 fa f _ hR1 hb1 hne hc hm hp).mono ?_
  rintro x w2 ⟨a', c', rfl, hkc, hR3, hq, hg2⟩
  have hg := grownBy_trans (grownBy_of_below (bl1 w (.cells #[.pointer (some ⟨R, 0, none⟩)] 25)) (some R)) hg2
  go_wp2_with fail
  refine (number8_any a' c' _ w2 hq).mono ?_
  rintro x w4 ⟨rfl, hb4⟩
  go_wp2_with fail
  refine leaves_cons (f := 50) (args := #[.pointer (some ⟨w.heap.size, 0, none⟩)]) (by simp) (by simp [go_sem]) ?_
  refine (catch8_idle w.heap.size w4).mono ?_
  rintro x u' w3 ⟨rfl, rfl, rfl⟩
  exact ⟨_, results_tmp rfl _ _ _, rfl, (hR3.below hb4), grownBy_trans hg (grownBy_of_below hb4 _)⟩

theorem read32_nil (n : Int) (w : World) :
    Calls Try.prog 39 #[.pointer none, .int .i64 n, .func (.func 40) #[] #[]] w fun e w' => e = .returned (.int .u32 0) ∧ Below w.heap.size w w' := by
  have hmf : ∀ (fn : Fn) (first cap : Array Value) (w : World), (Instr.makeFunc fn first cap).run Try.prog w = .ok (.func fn first cap) w := fun _ _ _ _ => rfl
  go_enter_defers Try.func39, Try.ntmps39
  go_wp2_with fail
  exact ⟨_, results_tmp rfl _ _ _, rfl, bl1 _ _⟩

theorem read32_bad (R : Nat) (v : Value) (p e fa n : Int) (w : World) (hR : CellsAt w R 55 (rdr v p e fa)) (he : ¬ e = 0) :
    Calls Try.prog 39 #[.pointer (some ⟨R, 0, none⟩), .int .i64 n, .func (.func 40) #[] #[]] w fun x w' => x = .returned (.int .u32 0) ∧ Below w.heap.size w w' := by
  have c2 : w.cell? ⟨R, 2, none⟩ = some (.int .i64 e) := hR.cell 2
  have kR : Has w R := hR.lt
  have hmf : ∀ (fn : Fn) (first cap : Array Value) (w : World), (Instr.makeFunc fn first cap).run Try.prog w = .ok (.func fn first cap) w := fun _ _ _ _ => rfl
  go_enter_defers Try.func39, Try.ntmps39
  go_wp2_with fail
  exact ⟨_, results_tmp rfl _ _ _, rfl, bl1 _ _⟩

theorem read32_neg (R : Nat) (v : Value) (p : Nat) (fa n : Int) (w : World) (hR : CellsAt w R 55 (rdr v p 0 fa)) (hn : n < 0) :
    Calls Try.prog 39 #[.pointer (some ⟨R, 0, none⟩), .int .i64 n, .func (.func 40) #[] #[]] w fun x w' => x = .returned (.int .u32 0) ∧ CellsAt w' R 55 (rdr v p 3 p) ∧ w.grownBy w' (some R) := by
  have c2 : w.cell? ⟨R, 2, none⟩ = some (.int .i64 0) := hR.cell 2
  have kR : Has w R := hR.lt
  have hmf : ∀ (fn : Fn) (first cap : Array Value) (w : World), (Instr.makeFunc fn first cap).run Try.prog w = .ok (.func fn first cap) w := fun _ _ _ _ => rfl
  go_enter_defers Try.func39, Try.ntmps39
  go_wp2_with fail
  have hR1 := hR.below (bl1 w (.cells #[.pointer (some ⟨R, 0, none⟩)] 25))
  refine (next_neg R v p 0 fa n _ hR1 hn).mono ?_
  rintro x w2 ⟨rfl, hb2⟩
  have hB := CellsAt.below (show CellsAt (w.alloc (.cells #[.pointer (some ⟨R, 0, none⟩)] 25)) w.heap.size 25 #[.pointer (some ⟨R, 0, none⟩)] from World.alloc_heap_new w _) hb2
  have hR2 := hR1.below hb2
  have hb3 : Below w.heap.size w w2 := (bl1 w _).trans (hb2.mono (by simp))
  refine leaves_cons (f := 52) (args := #[.pointer (some ⟨w.heap.size, 0, none⟩)]) (by simp) (by simp [go_sem]) ?_
  refine (catch32_thrown w.heap.size R _ _ _ _ 3 p [] w2 hB hR2).mono ?_
  rintro x u' w3 ⟨rfl, rfl, hR3, hg3⟩
  exact ⟨_, results_tmp rfl _ _ _, rfl, hR3, grownBy_trans (grownBy_of_below hb3 _) hg3⟩

theorem read32_short (R : Nat) (a : Option Addr) (m c p : Nat) (fa n : Int) (w : World) (hR : CellsAt w R 55 (rdr (.slice a m c) p 0 fa)) (hn : 0 ≤ n) (hp : p ≤ m) (hm : m ≤ 9223372036854775807) (hs : (m : Int) - p < n) :
    Calls Try.prog 39 #[.pointer (some ⟨R, 0, none⟩), .int .i64 n, .func (.func 40) #[] #[]] w fun x w' => x = .returned (.int .u32 0) ∧ CellsAt w' R 55 (rdr (.slice a m c) p 2 m) ∧ w.grownBy w' (some R) := by
  have c2 : w.cell? ⟨R, 2, none⟩ = some (.int .i64 0) := hR.cell 2
  have kR : Has w R := hR.lt
  have hmf : ∀ (fn : Fn) (first cap : Array Value) (w : World), (Instr.makeFunc fn first cap).run Try.prog w = .ok (.func fn first cap) w := fun _ _ _ _ => rfl
  go_enter_defers Try.func39, Try.ntmps39
  go_wp2_with fail
  have hR1 := hR.below (bl1 w (.cells #[.pointer (some ⟨R, 0, none⟩)] 25))
  refine (next_short R a m c p 0 fa n _ hR1 hn hp hm hs).mono ?_
  rintro x w2 ⟨rfl, hb2⟩
  have hB := CellsAt.below (show CellsAt (w.alloc (.cells #[.pointer (some ⟨R, 0, none⟩)] 25)) w.heap.size 25 #[.pointer (some ⟨R, 0, none⟩)] from World.alloc_heap_new w _) hb2
  have hR2 := hR1.below hb2
  have hb3 : Below w.heap.size w w2 := (bl1 w _).trans (hb2.mono (by simp))
  refine leaves_cons (f := 52) (args := #[.pointer (some ⟨w.heap.size, 0, none⟩)]) (by simp) (by simp [go_sem]) ?_
  refine (catch32_thrown w.heap.size R _ _ _ _ 2 m [] w2 hB hR2).mono ?_
  rintro x u' w3 ⟨rfl, rfl, hR3, hg3⟩
  exact ⟨_, results_tmp rfl _ _ _, rfl, hR3, grownBy_trans (grownBy_of_below hb3 _) hg3⟩

theorem read32_ok (R : Nat) (a : Option Addr) (m c p : Nat) (fa : Int) (f : Nat → Int) (w : World) (hR : CellsAt w R 55 (rdr (.slice a m c) p 0 fa)) (hb : Rd8 w a m f) (hne : ∀ b, a = some b → b.block ≠ R) (hc : m ≤ c) (hm : m ≤ 9223372036854775807) (hp : p + 4 ≤ m) :
    Calls Try.prog 39 #[.pointer (some ⟨R, 0, none⟩), .int .i64 4, .func (.func 40) #[] #[]] w fun x w' => x = .returned (.int .u32 (le (fun i => f (p + i)) 4)) ∧ CellsAt w' R 55 (rdr (.slice a m c) (p + 4 : Nat) 0 fa) ∧ w.grownBy w' (some R) := by
  have c2 : w.cell? ⟨R, 2, none⟩ = some (.int .i64 0) := hR.cell 2
  have kR : Has w R := hR.lt
  have hmf : ∀ (fn : Fn) (first cap : Array Value) (w : World), (Instr.makeFunc fn first cap).run Try.prog w = .ok (.func fn first cap) w := fun _ _ _ _ => rfl
  go_enter_defers Try.func39, Try.ntmps39
  go_wp2_with fail
  have hR1 := hR.below (bl1 w (.cells #[.pointer (some ⟨R, 0, none⟩)] 25))
  have hb1 := hb.grown (grownBy_of_below (bl1 w (.cells #[.pointer (some ⟨R, 0, none⟩)] 25)) none) (fun _ _ => by simp)
  refine (next_ok R a m c p 4 0 fa f _ hR1 hb1 hne hc hm hp).mono ?_
  rintro x w2 ⟨a', c', rfl, hkc, hR3, hq, hg2⟩
  have hg := grownBy_trans (grownBy_of_below (bl1 w (.cells #[.pointer (some ⟨R, 0, none⟩)] 25)) (some R)) hg2
  go_wp2_with fail
  refine (number32_any a' c' _ w2 hq).mono ?_
  rintro x w4 ⟨rfl, hb4⟩
  go_wp2_with fail
  refine leaves_cons (f := 52) (args := #[.pointer (some ⟨w.heap.size, 0, none⟩)]) (by simp) (by simp [go_sem]) ?_
  refine (catch32_idle w.heap.size w4).mono ?_
  rintro x u' w3 ⟨rfl, rfl, rfl⟩
  exact ⟨_, results_tmp rfl _ _ _, rfl, (hR3.below hb4), grownBy_trans hg (grownBy_of_below hb4 _)⟩

theorem read64_nil (n : Int) (w : World) :
    Calls Try.prog 41 #[.pointer none, .int .i64 n, .func (.func 42) #[] #[]] w fun e w' => e = .returned (.int .i64 0) ∧ Below w.heap.size w w' := by
  have hmf : ∀ (fn : Fn) (first cap : Array Value) (w : World), (Instr.makeFunc fn first cap).run Try.prog w = .ok (.func fn first cap) w := fun _ _ _ _ => rfl
  go_enter_defers Try.func41, Try.ntmps41
  go_wp2_with fail
  exact ⟨_, results_tmp rfl _ _ _, rfl, bl1 _ _⟩

theorem read64_bad (R : Nat) (v : Value) (p e fa n : Int) (w : World) (hR : CellsAt w R 55 (rdr v p e fa)) (he : ¬ e = 0) :
    Calls Try.prog 41 #[.pointer (some ⟨R, 0, none⟩), .int .i64 n, .func (.func 42) #[] #[]] w fun x w' => x = .returned (.int .i64 0) ∧ Below w.heap.size w w' := by
  have c2 : w.cell? ⟨R, 2, none⟩ = some (.int .i64 e) := hR.cell 2
  have kR : Has w R := hR.lt
  have hmf : ∀ (fn : Fn) (first cap : Array Value) (w : World), (Instr.makeFunc fn first cap).run Try.prog w = .ok (.func fn first cap) w := fun _ _ _ _ => rfl
  go_enter_defers Try.func41, Try.ntmps41
  go_wp2_with fail
  exact ⟨_, results_tmp rfl _ _ _, rfl, bl1 _ _⟩

theorem read64_neg (R : Nat) (v : Value) (p : Nat) (fa n : Int) (w : World) (hR : CellsAt w R 55 (rdr v p 0 fa)) (hn : n < 0) :
    Calls Try.prog 41 #[.pointer (some ⟨R, 0, none⟩), .int .i64 n, .func (.func 42) #[] #[]] w fun x w' => x = .returned (.int .i64 0) ∧ CellsAt w' R 55 (rdr v p 3 p) ∧ w.grownBy w' (some R) := by
  have c2 : w.cell? ⟨R, 2, none⟩ = some (.int .i64 0) := hR.cell 2
  have kR : Has w R := hR.lt
  have hmf : ∀ (fn : Fn) (first cap : Array Value) (w : World), (Instr.makeFunc fn first cap).run Try.prog w = .ok (.func fn first cap) w := fun _ _ _ _ => rfl
  go_enter_defers Try.func41, Try.ntmps41
  go_wp2_with fail
  have hR1 := hR.below (bl1 w (.cells #[.pointer (some ⟨R, 0, none⟩)] 25))
  refine (next_neg R v p 0 fa n _ hR1 hn).mono ?_
  rintro x w2 ⟨rfl, hb2⟩
  have hB := CellsAt.below (show CellsAt (w.alloc (.cells #[.pointer (some ⟨R, 0, none⟩)] 25)) w.heap.size 25 #[.pointer (some ⟨R, 0, none⟩)] from World.alloc_heap_new w _) hb2
  have hR2 := hR1.below hb2
  have hb3 : Below w.heap.size w w2 := (bl1 w _).trans (hb2.mono (by simp))
  refine leaves_cons (f := 53) (args := #[.pointer (some ⟨w.heap.size, 0, none⟩)]) (by simp) (by simp [go_sem]) ?_
  refine (catch64_thrown w.heap.size R _ _ _ _ 3 p [] w2 hB hR2).mono ?_
  rintro x u' w3 ⟨rfl, rfl, hR3, hg3⟩
  exact ⟨_, results_tmp rfl _ _ _, rfl, hR3, grownBy_trans (grownBy_of_below hb3 _) hg3⟩

theorem read64_short (R : Nat) (a : Option Addr) (m c p : Nat) (fa n : Int) (w : World) (hR : CellsAt w R 55 (rdr (.slice a m c) p 0 fa)) (hn : 0 ≤ n) (hp : p ≤ m) (hm : m ≤ 9223372036854775807) (hs : (m : Int) - p < n) :
    Calls Try.prog 41 #[.pointer (some ⟨R, 0, none⟩), .int .i64 n, .func (.func 42) #[] #[]] w fun x w' => x = .returned (.int .i64 0) ∧ CellsAt w' R 55 (rdr (.slice a m c) p 2 m) ∧ w.grownBy w' (some R) := by
  have c2 : w.cell? ⟨R, 2, none⟩ = some (.int .i64 0) := hR.cell 2
  have kR : Has w R := hR.lt
  have hmf : ∀ (fn : Fn) (first cap : Array Value) (w : World), (Instr.makeFunc fn first cap).run Try.prog w = .ok (.func fn first cap) w := fun _ _ _ _ => rfl
  go_enter_defers Try.func41, Try.ntmps41
  go_wp2_with fail
  have hR1 := hR.below (bl1 w (.cells #[.pointer (some ⟨R, 0, none⟩)] 25))
  refine (next_short R a m c p 0 fa n _ hR1 hn hp hm hs).mono ?_
  rintro x w2 ⟨rfl, hb2⟩
  have hB := CellsAt.below (show CellsAt (w.alloc (.cells #[.pointer (some ⟨R, 0, none⟩)] 25)) w.heap.size 25 #[.pointer (some ⟨R, 0, none⟩)] from World.alloc_heap_new w _) hb2
  have hR2 := hR1.below hb2
  have hb3 : Below w.heap.size w w2 := (bl1 w _).trans (hb2.mono (by simp))
  refine leaves_cons (f := 53) (args := #[.pointer (some ⟨w.heap.size, 0, none⟩)]) (by simp) (by simp [go_sem]) ?_
  refine (catch64_thrown w.heap.size R _ _ _ _ 2 m [] w2 hB hR2).mono ?_
  rintro x u' w3 ⟨rfl, rfl, hR3, hg3⟩
  exact ⟨_, results_tmp rfl _ _ _, rfl, hR3, grownBy_trans (grownBy_of_below hb3 _) hg3⟩

theorem read64_ok (R : Nat) (a : Option Addr) (m c p : Nat) (fa : Int) (f : Nat → Int) (w : World) (hR : CellsAt w R 55 (rdr (.slice a m c) p 0 fa)) (hb : Rd8 w a m f) (hne : ∀ b, a = some b → b.block ≠ R) (hc : m ≤ c) (hm : m ≤ 9223372036854775807) (hp : p + 8 ≤ m) :
    Calls Try.prog 41 #[.pointer (some ⟨R, 0, none⟩), .int .i64 8, .func (.func 42) #[] #[]] w fun x w' => x = .returned (.int .i64 (lw (fun i => f (p + i)) 8)) ∧ CellsAt w' R 55 (rdr (.slice a m c) (p + 8 : Nat) 0 fa) ∧ w.grownBy w' (some R) := by
  have c2 : w.cell? ⟨R, 2, none⟩ = some (.int .i64 0) := hR.cell 2
  have kR : Has w R := hR.lt
  have hmf : ∀ (fn : Fn) (first cap : Array Value) (w : World), (Instr.makeFunc fn first cap).run Try.prog w = .ok (.func fn first cap) w := fun _ _ _ _ => rfl
  go_enter_defers Try.func41, Try.ntmps41
  go_wp2_with fail
  have hR1 := hR.below (bl1 w (.cells #[.pointer (some ⟨R, 0, none⟩)] 25))
  have hb1 := hb.grown (grownBy_of_below (bl1 w (.cells #[.pointer (some ⟨R, 0, none⟩)] 25)) none) (fun _ _ => by simp)
  refine (next_ok R a m c p 8 0 fa f _ hR1 hb1 hne hc hm hp).mono ?_
  rintro x w2 ⟨a', c', rfl, hkc, hR3, hq, hg2⟩
  have hg := grownBy_trans (grownBy_of_below (bl1 w (.cells #[.pointer (some ⟨R, 0, none⟩)] 25)) (some R)) hg2
  go_wp2_with fail
  refine (number64_any a' c' _ w2 hq).mono ?_
  rintro x w4 ⟨rfl, hb4⟩
  go_wp2_with fail
  refine leaves_cons (f := 53) (args := #[.pointer (some ⟨w.heap.size, 0, none⟩)]) (by simp) (by simp [go_sem]) ?_
  refine (catch64_idle w.heap.size w4).mono ?_
  rintro x u' w3 ⟨rfl, rfl, rfl⟩
  exact ⟨_, results_tmp rfl _ _ _, rfl, (hR3.below hb4), grownBy_trans hg (grownBy_of_below hb4 _)⟩

theorem readB_nil (n : Int) (w : World) :
    Calls Try.prog 43 #[.pointer none, .int .i64 n, .func (.func 27) #[] #[]] w fun e w' => e = .returned (.slice none 0 0) ∧ Below w.heap.size w w' := by
  have hmf : ∀ (fn : Fn) (first cap : Array Value) (w : World), (Instr.makeFunc fn first cap).run Try.prog w = .ok (.func fn first cap) w := fun _ _ _ _ => rfl
  go_enter_defers Try.func43, Try.ntmps43
  go_wp2_with fail
  exact ⟨_, results_tmp rfl _ _ _, rfl, bl1 _ _⟩

theorem readB_bad (R : Nat) (v : Value) (p e fa n : Int) (w : World) (hR : CellsAt w R 55 (rdr v p e fa)) (he : ¬ e = 0) :
    Calls Try.prog 43 #[.pointer (some ⟨R, 0, none⟩), .int .i64 n, .func (.func 27) #[] #[]] w fun x w' => x = .returned (.slice none 0 0) ∧ Below w.heap.size w w' := by
  have c2 : w.cell? ⟨R, 2, none⟩ = some (.int .i64 e) := hR.cell 2
  have kR : Has w R := hR.lt
  have hmf : ∀ (fn : Fn) (first cap : Array Value) (w : World), (Instr.makeFunc fn first cap).run Try.prog w = .ok (.func fn first cap) w := fun _ _ _ _ => rfl
  go_enter_defers Try.func43, Try.ntmps43
  go_wp2_with fail
  exact ⟨_, results_tmp rfl _ _ _, rfl, bl1 _ _⟩

theorem readB_neg (R : Nat) (v : Value) (p : Nat) (fa n : Int) (w : World) (hR : CellsAt w R 55 (rdr v p 0 fa)) (hn : n < 0) :
    Calls Try.prog 43 #[.pointer (some ⟨R, 0, none⟩), .int .i64 n, .func (.func 27) #[] #[]] w fun x w' => x = .returned (.slice none 0 0) ∧ CellsAt w' R 55 (rdr v p 3 p) ∧ w.grownBy w' (some R) := by
  have c2 : w.cell? ⟨R, 2, none⟩ = some (.int .i64 0) := hR.cell 2
  have kR : Has w R := hR.lt
  have hmf : ∀ (fn : Fn) (first cap : Array Value) (w : World), (Instr.makeFunc fn first cap).run Try.prog w = .ok (.func fn first cap) w := fun _ _ _ _ => rfl
  go_enter_defers Try.func43, Try.ntmps43
  go_wp2_with fail
  have hR1 := hR.below (bl1 w (.cells #[.pointer (some ⟨R, 0, none⟩)] 25))
  refine (next_neg R v p 0 fa n _ hR1 hn).mono ?_
  rintro x w2 ⟨rfl, hb2⟩
  have hB := CellsAt.below (show CellsAt (w.alloc (.cells #[.pointer (some ⟨R, 0, none⟩)] 25)) w.heap.size 25 #[.pointer (some ⟨R, 0, none⟩)] from World.alloc_heap_new w _) hb2
  have hR2 := hR1.below hb2
  have hb3 : Below w.heap.size w w2 := (bl1 w _).trans (hb2.mono (by simp))
  refine leaves_cons (f := 54) (args := #[.pointer (some ⟨w.heap.size, 0, none⟩)]) (by simp) (by simp [go_sem]) ?_
  refine (catchB_thrown w.heap.size R _ _ _ _ 3 p [] w2 hB hR2).mono ?_
  rintro x u' w3 ⟨rfl, rfl, hR3, hg3⟩
  exact ⟨_, results_tmp rfl _ _ _, rfl, hR3, grownBy_trans (grownBy_of_below hb3 _) hg3⟩

theorem readB_short (R : Nat) (a : Option Addr) (m c p : Nat) (fa n : Int) (w : World) (hR : CellsAt w R 55 (rdr (.slice a m c) p 0 fa)) (hn : 0 ≤ n) (hp : p ≤ m) (hm : m ≤ 9223372036854775807) (hs : (m : Int) - p < n) :
    Calls Try.prog 43 #[.pointer (some ⟨R, 0, none⟩), .int .i64 n, .func (.func 27) #[] #[]] w fun x w' => x = .returned (.slice none 0 0) ∧ CellsAt w' R 55 (rdr (.slice a m c) p 2 m) ∧ w.grownBy w' (some R) := by
  have c2 : w.cell? ⟨R, 2, none⟩ = some (.int .i64 0) := hR.cell 2
  have kR : Has w R := hR.lt
  have hmf : ∀ (fn : Fn) (first cap : Array Value) (w : World), (Instr.makeFunc fn first cap).run Try.prog w = .ok (.func fn first cap) w := fun _ _ _ _ => rfl
  go_enter_defers Try.func43, Try.ntmps43
  go_wp2_with fail
  have hR1 := hR.below (bl1 w (.cells #[.pointer (some ⟨R, 0, none⟩)] 25))
  refine (next_short R a m c p 0 fa n _ hR1 hn hp hm hs).mono ?_
  rintro x w2 ⟨rfl, hb2⟩
  have hB := CellsAt.below (show CellsAt (w.alloc (.cells #[.pointer (some ⟨R, 0, none⟩)] 25)) w.heap.size 25 #[.pointer (some ⟨R, 0, none⟩)] from World.alloc_heap_new w _) hb2
  have hR2 := hR1.below hb2
  have hb3 : Below w.heap.size w w2 := (bl1 w _).trans (hb2.mono (by simp))
  refine leaves_cons (f := 54) (args := #[.pointer (some ⟨w.heap.size, 0, none⟩)]) (by simp) (by simp [go_sem]) ?_
  refine (catchB_thrown w.heap.size R _ _ _ _ 2 m [] w2 hB hR2).mono ?_
  rintro x u' w3 ⟨rfl, rfl, hR3, hg3⟩
  exact ⟨_, results_tmp rfl _ _ _, rfl, hR3, grownBy_trans (grownBy_of_below hb3 _) hg3⟩

theorem readB_ok (R : Nat) (a : Option Addr) (m c p k : Nat) (fa : Int) (f : Nat → Int) (w : World) (hR : CellsAt w R 55 (rdr (.slice a m c) p 0 fa)) (hb : Rd8 w a m f) (hne : ∀ b, a = some b → b.block ≠ R) (hc : m ≤ c) (hm : m ≤ 9223372036854775807) (hp : p + k ≤ m) (hk : k ≤ 100000) :
    Calls Try.prog 43 #[.pointer (some ⟨R, 0, none⟩), .int .i64 (k : Nat), .func (.func 27) #[] #[]] w fun x w' => ∃ g, x = .returned (.slice (some ⟨g, 0, none⟩) k k) ∧ w.heap.size ≤ g ∧ CellsAt w' g 5 (cellsB (fun i => f (p + i)) k).toArray ∧ CellsAt w' R 55 (rdr (.slice a m c) (p + k : Nat) 0 fa) ∧ w.grownBy w' (some R) := by
  have c2 : w.cell? ⟨R, 2, none⟩ = some (.int .i64 0) := hR.cell 2
  have kR : Has w R := hR.lt
  have hmf : ∀ (fn : Fn) (first cap : Array Value) (w : World), (Instr.makeFunc fn first cap).run Try.prog w = .ok (.func fn first cap) w := fun _ _ _ _ => rfl
  go_enter_defers Try.func43, Try.ntmps43
  go_wp2_with fail
  have hR1 := hR.below (bl1 w (.cells #[.pointer (some ⟨R, 0, none⟩)] 25))
  have hb1 := hb.grown (grownBy_of_below (bl1 w (.cells #[.pointer (some ⟨R, 0, none⟩)] 25)) none) (fun _ _ => by simp)
  refine (next_ok R a m c p k 0 fa f _ hR1 hb1 hne hc hm hp).mono ?_
  rintro x w2 ⟨a', c', rfl, hkc, hR3, hq, hg2⟩
  have hg := grownBy_trans (grownBy_of_below (bl1 w (.cells #[.pointer (some ⟨R, 0, none⟩)] 25)) (some R)) hg2
  go_wp2_with fail
  refine (clone_any a' k c' _ w2 hq (by omega) hkc).mono ?_
  rintro x w4 ⟨g, rfl, hg0, hgc, hb4⟩
  go_wp2_with fail
  refine leaves_cons (f := 54) (args := #[.pointer (some ⟨w.heap.size, 0, none⟩)]) (by simp) (by simp [go_sem]) ?_
  refine (catchB_idle w.heap.size w4).mono ?_
  rintro x u' w3 ⟨rfl, rfl, rfl⟩
  exact ⟨_, results_tmp rfl _ _ _, g, rfl, Nat.le_trans hg.size hg0, hgc, (hR3.below hb4), grownBy_trans hg (grownBy_of_below hb4 _)⟩
end Go.Proofs.Ytccgpjhfgmonpaa
