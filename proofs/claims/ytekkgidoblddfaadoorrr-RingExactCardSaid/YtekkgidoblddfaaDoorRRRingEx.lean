/- RingExact. -/
import Derived.Test.YtekkgidoblddfaaDoorRRRingLaw
import Derived.Test.YtekkgidoblddfaaDoorRRWide5
import Derived.Test.YtekkgidoblddfaaDoorRRRingMath2
import Derived.Test.YtekkgidoblddfaaDoorRRRingMath2
import Derived.Test.YtekkgidoblddfaaDoorRRRingMath2
import Derived.Test.YtekkgidoblddfaaDoorRRRingMath2
import Derived.Test.YtekkgidoblddfaaDoorRRRingMath2
namespace Go.Proofs.YtekkgidoblddfaaDoorRR
open Go.RowKit Go.Sort

/-- A slice of int64 that may be read: its i-th element is f i. -/
def Rd (w : World) (a : Option Addr) (n : Nat) (f : Nat → Int) : Prop := ∀ i, i < n → ∃ b, a = some b ∧ b.block < w.heap.size ∧ w.cell? (b.add i) = some (.int .i64 (f i)) ∧ -9223372036854775808 ≤ f i ∧ f i ≤ 9223372036854775807

def sumTo (f g : Nat → Int) : Nat → Int
  | 0 => 0
  | n + 1 => sumTo f g n + facR 5 (f n) * g n

def xw (W0 : World) (X : Int) (d : Nat) (os : Array Obj) : World := grow (redrawn (W0.alloc (.cells #[.int .i64 (hi X), .int .u64 (lo X)] 28)) d) os

@[go_sem] theorem blk_add (b : Addr) (k : Nat) : (b.add k).block = b.block := by unfold Addr.add; split <;> rfl
theorem add5 (x y z : Int) (h : z = x + y) : addR 5 x y = z := by subst h; rfl
theorem mul5 (a x : Int) : mulR 5 a x = a * x := rfl
theorem fac5_bd (n : Int) (n1 : -9223372036854775808 ≤ n) (n2 : n ≤ 9223372036854775807) : -9223372036854775808 ≤ facR 5 n ∧ facR 5 n ≤ 9223372036854775807 := fac_bd 5 n (by decide) n1 n2

theorem rmul5 (a x z : Int) (w : World) (a1 : -9223372036854775808 ≤ a) (a2 : a ≤ 9223372036854775807) (x1 : -9223372036854775808 ≤ x) (x2 : x ≤ 9223372036854775807) (ez : z = a * x) :
    Calls Tryd.prog 16 #[.int .i64 5, .int .i64 a, .int .i64 x] w fun e w' => e = .returned (W z) ∧ Below w.heap.size w w' := by
  subst ez; exact ringMul_any 5 a x w a1 a2 x1 x2
theorem radd5 (x y z : Int) (w : World) (ez : z = x + y) :
    Calls Tryd.prog 11 #[.int .i64 5, W x, W y] w fun e w' => e = .returned (W z) ∧ Below w.heap.size w w' := by
  subst ez; exact ringAdd_any 5 x y w
theorem rfac5 (n v : Int) (w : World) (ev : v = facR 5 n) :
    Calls Tryd.prog 14 #[.int .i64 5, .int .i64 n] w fun e w' => e = .returned (.int .i64 v) ∧ Below w.heap.size w w' := by
  subst ev; exact (factor_in 5 n w (by decide)).mono fun _ _ ⟨he, hw⟩ => ⟨he, by rw [hw]; exact Below.refl _ _⟩
theorem rsub_e (x y z : Int) (w : World) (ez : z = x - y) :
    Calls Tryd.prog 17 #[W x, W y] w fun e w' => e = .returned (W z) ∧ Below w.heap.size w w' := by
  subst ez; exact refSub_any x y w
theorem fmul_e (a b z : Int) (w : World) (a1 : -9223372036854775808 ≤ a) (a2 : a ≤ 9223372036854775807) (b1 : -9223372036854775808 ≤ b) (b2 : b ≤ 9223372036854775807) (ez : z = a * b) :
    Calls Tryd.prog 18 #[.int .i64 a, .int .i64 b] w fun e w' => e = .returned (W z) ∧ Below w.heap.size w w' := by
  subst ez; exact refMul_any a b w a1 a2 b1 b2

attribute [local irreducible] hi lo addR mulR facR

set_option maxRecDepth 100000 in
set_option maxHeartbeats 2000000 in
theorem ringExact_any (a x : Option Addr) (la ca lx cx : Nat) (f g : Nat → Int) (w : World) (hN : Names w) (ha : Rd w a la f) (hx : Rd w x lx g) :
    Calls Tryd.prog 5 #[.slice a la ca, .slice x lx cx] w fun e w' => e = .returned (.bool true) ∧ Below w.heap.size w w' := by
  have z1 : (0 : Int) = hi 0 := by decide +kernel
  have z2 : (0 : Int) = lo 0 := by decide +kernel
  have Z1 := Lib.hid z1
  have Z2 := Lib.hid z2
  clear z1 z2
  go_enter Tryd.func5, Tryd.ntmps5
  go_wp2_with fail
  · go_loopw [7] (fun v wr => ∃ (k : Nat) (d : Nat) (os : Array Obj), k ≤ 500 ∧ v = .int .i64 k ∧ wr = xw w (sumTo f g k) d os) (fun v _ => 500 - (intOf v).toNat)
    case atStart =>
      refine ⟨0, (w.alloc (Obj.cells #[.int .i64 0, .int .u64 0] 28)).drawn, #[], by omega, rfl, ?_⟩
      unfold xw
      rw [show sumTo f g 0 = 0 from rfl, ← Z1.out, ← Z2.out]
      exact gr_start _
    case round =>
      obtain ⟨k, d, os, hk, rfl, rfl⟩ := hrel
      unfold xw
      by_cases hlt : k < 500
      · have hlt' : (k : Int) < 500 := by omega
        have hka : (k : Int) < (la : Int) := by omega
        have hkx : (k : Int) < (lx : Int) := by omega
        have hk0 : 0 ≤ (k : Int) := by omega
        obtain ⟨ba, rfl, hba, cA, a1, a2⟩ := ha k (by omega)
        obtain ⟨bx, rfl, hbx, cX, x1, x2⟩ := hx k (by omega)
        have hba := Has.of hba
        have hbx := Has.of hbx
        have fb := fac5_bd (f k) a1 a2
        go_wp2_with fail
        refine wp_region_grown_tail' 12 (by kernel_rfl) (by kernel_rfl) ?_
        simp only [List.take_succ_cons, List.take_zero, List.drop_succ_cons, List.drop_zero]
        repeat (go_big_quiet_step (first | (go_at_call 14; exact Calls.regrown_of (rfac5 _ _ _ rfl)) | (go_at_call 16; exact Calls.regrown_of (rmul5 _ _ _ _ fb.1 fb.2 x1 x2 rfl)) | (go_at_call 11; exact Calls.regrown_of (radd5 _ _ _ _ rfl))))
        refine wpQuiet_nil ?_
        rintro _ ⟨⟨d2, o2⟩, rfl⟩
        go_wp2_with fail
        refine ⟨?_, by simp [intOf]; omega⟩
        refine ⟨k + 1, d2, o2, by omega, by go_num, ?_⟩
        rw [show (sumTo f g (k + 1)) = (sumTo f g k) + facR 5 (f k) * g k from rfl]
      · have ek : k = 500 := by omega
        have hge : ¬ (k : Int) < 500 := by omega
        go_wp2_with fail
        go_loopw [8] (fun v wr => ∃ (k : Nat) (d : Nat) (os : Array Obj), k ≤ 500 ∧ v = .int .i64 k ∧ wr = xw w (sumTo f g (500) - sumTo f g k) d os) (fun v _ => 500 - (intOf v).toNat)
        case atStart =>
          refine ⟨0, d, os, by omega, rfl, ?_⟩
          unfold xw
          rw [show sumTo f g 500 - sumTo f g 0 = sumTo f g 500 from by simp [sumTo]]
        case round =>
          obtain ⟨k, d, os, hk, rfl, rfl⟩ := hrel
          unfold xw
          by_cases hlt : k < 500
          · have hlt' : (k : Int) < 500 := by omega
            have hka : (k : Int) < (la : Int) := by omega
            have hkx : (k : Int) < (lx : Int) := by omega
            have hk0 : 0 ≤ (k : Int) := by omega
            obtain ⟨ba, rfl, hba, cA, a1, a2⟩ := ha k (by omega)
            obtain ⟨bx, rfl, hbx, cX, x1, x2⟩ := hx k (by omega)
            have hba := Has.of hba
            have hbx := Has.of hbx
            have fb := fac5_bd (f k) a1 a2
            go_wp2_with fail
            refine wp_region_grown_tail' 12 (by kernel_rfl) (by kernel_rfl) ?_
            simp only [List.take_succ_cons, List.take_zero, List.drop_succ_cons, List.drop_zero]
            repeat (go_big_quiet_step (first | (go_at_call 14; exact Calls.regrown_of (rfac5 _ _ _ rfl)) | (go_at_call 18; exact Calls.regrown_of (fmul_e _ _ _ _ fb.1 fb.2 x1 x2 rfl)) | (go_at_call 17; exact Calls.regrown_of (rsub_e _ _ _ _ rfl))))
            refine wpQuiet_nil ?_
            rintro _ ⟨⟨d2, o2⟩, rfl⟩
            go_wp2_with fail
            refine ⟨?_, by simp [intOf]; omega⟩
            refine ⟨k + 1, d2, o2, by omega, by go_num, ?_⟩
            rw [show (sumTo f g (500) - sumTo f g (k + 1)) = (sumTo f g (500) - sumTo f g k) - facR 5 (f k) * g k from (by rw [show sumTo f g (k + 1) = sumTo f g k + facR 5 (f k) * g k from rfl]; omega)]
          · have ek : k = 500 := by omega
            have hge : ¬ (k : Int) < 500 := by omega
            go_wp2_with fail
            rw [← Z1.out, ← Z2.out]
            refine (live2_any _ (hN.grown (by repeat (first | with_reducible refine blg ?_ _ _ | with_reducible refine bla ?_ _ | with_reducible exact Below.refl _ _)))).mono ?_
            rintro e w1 ⟨rfl, hb1⟩; obtain ⟨⟨d9, o9⟩, rfl⟩ := regrown_of_below hb1; clear hb1
            go_wp2_with fail
            go_ret
            exact ⟨rfl, (by repeat (first | with_reducible refine blg ?_ _ _ | with_reducible refine bla ?_ _ | with_reducible exact Below.refl _ _))⟩
  · go_loopw [7] (fun v wr => ∃ (k : Nat) (d : Nat) (os : Array Obj), k ≤ 500 ∧ v = .int .i64 k ∧ wr = xw w (sumTo f g k) d os) (fun v _ => 500 - (intOf v).toNat)
    case atStart =>
      refine ⟨0, (w.alloc (Obj.cells #[.int .i64 0, .int .u64 0] 28)).drawn, #[], by omega, rfl, ?_⟩
      unfold xw
      rw [show sumTo f g 0 = 0 from rfl, ← Z1.out, ← Z2.out]
      exact gr_start _
    case round =>
      obtain ⟨k, d, os, hk, rfl, rfl⟩ := hrel
      unfold xw
      by_cases hlt : k < 500
      · have hlt' : (k : Int) < 500 := by omega
        have hka : (k : Int) < (la : Int) := by omega
        have hkx : (k : Int) < (lx : Int) := by omega
        have hk0 : 0 ≤ (k : Int) := by omega
        obtain ⟨ba, rfl, hba, cA, a1, a2⟩ := ha k (by omega)
        obtain ⟨bx, rfl, hbx, cX, x1, x2⟩ := hx k (by omega)
        have hba := Has.of hba
        have hbx := Has.of hbx
        have fb := fac5_bd (f k) a1 a2
        go_wp2_with fail
        refine wp_region_grown_tail' 12 (by kernel_rfl) (by kernel_rfl) ?_
        simp only [List.take_succ_cons, List.take_zero, List.drop_succ_cons, List.drop_zero]
        repeat (go_big_quiet_step (first | (go_at_call 14; exact Calls.regrown_of (rfac5 _ _ _ rfl)) | (go_at_call 16; exact Calls.regrown_of (rmul5 _ _ _ _ fb.1 fb.2 x1 x2 rfl)) | (go_at_call 11; exact Calls.regrown_of (radd5 _ _ _ _ rfl))))
        refine wpQuiet_nil ?_
        rintro _ ⟨⟨d2, o2⟩, rfl⟩
        go_wp2_with fail
        refine ⟨?_, by simp [intOf]; omega⟩
        refine ⟨k + 1, d2, o2, by omega, by go_num, ?_⟩
        rw [show (sumTo f g (k + 1)) = (sumTo f g k) + facR 5 (f k) * g k from rfl]
      · have ek : k = 500 := by omega
        have hge : ¬ (k : Int) < 500 := by omega
        go_wp2_with fail
        go_loopw [8] (fun v wr => ∃ (k : Nat) (d : Nat) (os : Array Obj), k ≤ 500 ∧ v = .int .i64 k ∧ wr = xw w (sumTo f g (500) - sumTo f g k) d os) (fun v _ => 500 - (intOf v).toNat)
        case atStart =>
          refine ⟨0, d, os, by omega, rfl, ?_⟩
          unfold xw
          rw [show sumTo f g 500 - sumTo f g 0 = sumTo f g 500 from by simp [sumTo]]
        case round =>
          obtain ⟨k, d, os, hk, rfl, rfl⟩ := hrel
          unfold xw
          by_cases hlt : k < 500
          · have hlt' : (k : Int) < 500 := by omega
            have hka : (k : Int) < (la : Int) := by omega
            have hkx : (k : Int) < (lx : Int) := by omega
            have hk0 : 0 ≤ (k : Int) := by omega
            obtain ⟨ba, rfl, hba, cA, a1, a2⟩ := ha k (by omega)
            obtain ⟨bx, rfl, hbx, cX, x1, x2⟩ := hx k (by omega)
            have hba := Has.of hba
            have hbx := Has.of hbx
            have fb := fac5_bd (f k) a1 a2
            go_wp2_with fail
            refine wp_region_grown_tail' 12 (by kernel_rfl) (by kernel_rfl) ?_
            simp only [List.take_succ_cons, List.take_zero, List.drop_succ_cons, List.drop_zero]
            repeat (go_big_quiet_step (first | (go_at_call 14; exact Calls.regrown_of (rfac5 _ _ _ rfl)) | (go_at_call 18; exact Calls.regrown_of (fmul_e _ _ _ _ fb.1 fb.2 x1 x2 rfl)) | (go_at_call 17; exact Calls.regrown_of (rsub_e _ _ _ _ rfl))))
            refine wpQuiet_nil ?_
            rintro _ ⟨⟨d2, o2⟩, rfl⟩
            go_wp2_with fail
            refine ⟨?_, by simp [intOf]; omega⟩
            refine ⟨k + 1, d2, o2, by omega, by go_num, ?_⟩
            rw [show (sumTo f g (500) - sumTo f g (k + 1)) = (sumTo f g (500) - sumTo f g k) - facR 5 (f k) * g k from (by rw [show sumTo f g (k + 1) = sumTo f g k + facR 5 (f k) * g k from rfl]; omega)]
          · have ek : k = 500 := by omega
            have hge : ¬ (k : Int) < 500 := by omega
            go_wp2_with fail
            rw [← Z1.out, ← Z2.out]
            refine (live2_any _ (hN.grown (by repeat (first | with_reducible refine blg ?_ _ _ | with_reducible refine bla ?_ _ | with_reducible exact Below.refl _ _)))).mono ?_
            rintro e w1 ⟨rfl, hb1⟩; obtain ⟨⟨d9, o9⟩, rfl⟩ := regrown_of_below hb1; clear hb1
            go_wp2_with fail
            go_ret
            exact ⟨rfl, (by repeat (first | with_reducible refine blg ?_ _ _ | with_reducible refine bla ?_ _ | with_reducible exact Below.refl _ _))⟩
  · go_loopw [7] (fun v wr => ∃ (k : Nat) (d : Nat) (os : Array Obj), k ≤ lx ∧ v = .int .i64 k ∧ wr = xw w (sumTo f g k) d os) (fun v _ => lx - (intOf v).toNat)
    case atStart =>
      refine ⟨0, (w.alloc (Obj.cells #[.int .i64 0, .int .u64 0] 28)).drawn, #[], by omega, rfl, ?_⟩
      unfold xw
      rw [show sumTo f g 0 = 0 from rfl, ← Z1.out, ← Z2.out]
      exact gr_start _
    case round =>
      obtain ⟨k, d, os, hk, rfl, rfl⟩ := hrel
      unfold xw
      by_cases hlt : k < lx
      · have hlt' : (k : Int) < (lx : Int) := by omega
        have hka : (k : Int) < (la : Int) := by omega
        have hkx : (k : Int) < (lx : Int) := by omega
        have hk0 : 0 ≤ (k : Int) := by omega
        obtain ⟨ba, rfl, hba, cA, a1, a2⟩ := ha k (by omega)
        obtain ⟨bx, rfl, hbx, cX, x1, x2⟩ := hx k (by omega)
        have hba := Has.of hba
        have hbx := Has.of hbx
        have fb := fac5_bd (f k) a1 a2
        go_wp2_with fail
        refine wp_region_grown_tail' 12 (by kernel_rfl) (by kernel_rfl) ?_
        simp only [List.take_succ_cons, List.take_zero, List.drop_succ_cons, List.drop_zero]
        repeat (go_big_quiet_step (first | (go_at_call 14; exact Calls.regrown_of (rfac5 _ _ _ rfl)) | (go_at_call 16; exact Calls.regrown_of (rmul5 _ _ _ _ fb.1 fb.2 x1 x2 rfl)) | (go_at_call 11; exact Calls.regrown_of (radd5 _ _ _ _ rfl))))
        refine wpQuiet_nil ?_
        rintro _ ⟨⟨d2, o2⟩, rfl⟩
        go_wp2_with fail
        refine ⟨?_, by simp [intOf]; omega⟩
        refine ⟨k + 1, d2, o2, by omega, by go_num, ?_⟩
        rw [show (sumTo f g (k + 1)) = (sumTo f g k) + facR 5 (f k) * g k from rfl]
      · have ek : k = lx := by omega
        have hge : ¬ (k : Int) < (lx : Int) := by omega
        go_wp2_with fail
        go_loopw [8] (fun v wr => ∃ (k : Nat) (d : Nat) (os : Array Obj), k ≤ lx ∧ v = .int .i64 k ∧ wr = xw w (sumTo f g (lx) - sumTo f g k) d os) (fun v _ => lx - (intOf v).toNat)
        case atStart =>
          refine ⟨0, d, os, by omega, rfl, ?_⟩
          unfold xw
          rw [show sumTo f g lx - sumTo f g 0 = sumTo f g lx from by simp [sumTo]]
        case round =>
          obtain ⟨k, d, os, hk, rfl, rfl⟩ := hrel
          unfold xw
          by_cases hlt : k < lx
          · have hlt' : (k : Int) < (lx : Int) := by omega
            have hka : (k : Int) < (la : Int) := by omega
            have hkx : (k : Int) < (lx : Int) := by omega
            have hk0 : 0 ≤ (k : Int) := by omega
            obtain ⟨ba, rfl, hba, cA, a1, a2⟩ := ha k (by omega)
            obtain ⟨bx, rfl, hbx, cX, x1, x2⟩ := hx k (by omega)
            have hba := Has.of hba
            have hbx := Has.of hbx
            have fb := fac5_bd (f k) a1 a2
            go_wp2_with fail
            refine wp_region_grown_tail' 12 (by kernel_rfl) (by kernel_rfl) ?_
            simp only [List.take_succ_cons, List.take_zero, List.drop_succ_cons, List.drop_zero]
            repeat (go_big_quiet_step (first | (go_at_call 14; exact Calls.regrown_of (rfac5 _ _ _ rfl)) | (go_at_call 18; exact Calls.regrown_of (fmul_e _ _ _ _ fb.1 fb.2 x1 x2 rfl)) | (go_at_call 17; exact Calls.regrown_of (rsub_e _ _ _ _ rfl))))
            refine wpQuiet_nil ?_
            rintro _ ⟨⟨d2, o2⟩, rfl⟩
            go_wp2_with fail
            refine ⟨?_, by simp [intOf]; omega⟩
            refine ⟨k + 1, d2, o2, by omega, by go_num, ?_⟩
            rw [show (sumTo f g (lx) - sumTo f g (k + 1)) = (sumTo f g (lx) - sumTo f g k) - facR 5 (f k) * g k from (by rw [show sumTo f g (k + 1) = sumTo f g k + facR 5 (f k) * g k from rfl]; omega)]
          · have ek : k = lx := by omega
            have hge : ¬ (k : Int) < (lx : Int) := by omega
            go_wp2_with fail
            rw [← Z1.out, ← Z2.out]
            refine (live2_any _ (hN.grown (by repeat (first | with_reducible refine blg ?_ _ _ | with_reducible refine bla ?_ _ | with_reducible exact Below.refl _ _)))).mono ?_
            rintro e w1 ⟨rfl, hb1⟩; obtain ⟨⟨d9, o9⟩, rfl⟩ := regrown_of_below hb1; clear hb1
            go_wp2_with fail
            go_ret
            exact ⟨rfl, (by repeat (first | with_reducible refine blg ?_ _ _ | with_reducible refine bla ?_ _ | with_reducible exact Below.refl _ _))⟩
  · go_loopw [7] (fun v wr => ∃ (k : Nat) (d : Nat) (os : Array Obj), k ≤ la ∧ v = .int .i64 k ∧ wr = xw w (sumTo f g k) d os) (fun v _ => la - (intOf v).toNat)
    case atStart =>
      refine ⟨0, (w.alloc (Obj.cells #[.int .i64 0, .int .u64 0] 28)).drawn, #[], by omega, rfl, ?_⟩
      unfold xw
      rw [show sumTo f g 0 = 0 from rfl, ← Z1.out, ← Z2.out]
      exact gr_start _
    case round =>
      obtain ⟨k, d, os, hk, rfl, rfl⟩ := hrel
      unfold xw
      by_cases hlt : k < la
      · have hlt' : (k : Int) < (la : Int) := by omega
        have hka : (k : Int) < (la : Int) := by omega
        have hkx : (k : Int) < (lx : Int) := by omega
        have hk0 : 0 ≤ (k : Int) := by omega
        obtain ⟨ba, rfl, hba, cA, a1, a2⟩ := ha k (by omega)
        obtain ⟨bx, rfl, hbx, cX, x1, x2⟩ := hx k (by omega)
        have hba := Has.of hba
        have hbx := Has.of hbx
        have fb := fac5_bd (f k) a1 a2
        go_wp2_with fail
        refine wp_region_grown_tail' 12 (by kernel_rfl) (by kernel_rfl) ?_
        simp only [List.take_succ_cons, List.take_zero, List.drop_succ_cons, List.drop_zero]
        repeat (go_big_quiet_step (first | (go_at_call 14; exact Calls.regrown_of (rfac5 _ _ _ rfl)) | (go_at_call 16; exact Calls.regrown_of (rmul5 _ _ _ _ fb.1 fb.2 x1 x2 rfl)) | (go_at_call 11; exact Calls.regrown_of (radd5 _ _ _ _ rfl))))
        refine wpQuiet_nil ?_
        rintro _ ⟨⟨d2, o2⟩, rfl⟩
        go_wp2_with fail
        refine ⟨?_, by simp [intOf]; omega⟩
        refine ⟨k + 1, d2, o2, by omega, by go_num, ?_⟩
        rw [show (sumTo f g (k + 1)) = (sumTo f g k) + facR 5 (f k) * g k from rfl]
      · have ek : k = la := by omega
        have hge : ¬ (k : Int) < (la : Int) := by omega
        go_wp2_with fail
        go_loopw [8] (fun v wr => ∃ (k : Nat) (d : Nat) (os : Array Obj), k ≤ la ∧ v = .int .i64 k ∧ wr = xw w (sumTo f g (la) - sumTo f g k) d os) (fun v _ => la - (intOf v).toNat)
        case atStart =>
          refine ⟨0, d, os, by omega, rfl, ?_⟩
          unfold xw
          rw [show sumTo f g la - sumTo f g 0 = sumTo f g la from by simp [sumTo]]
        case round =>
          obtain ⟨k, d, os, hk, rfl, rfl⟩ := hrel
          unfold xw
          by_cases hlt : k < la
          · have hlt' : (k : Int) < (la : Int) := by omega
            have hka : (k : Int) < (la : Int) := by omega
            have hkx : (k : Int) < (lx : Int) := by omega
            have hk0 : 0 ≤ (k : Int) := by omega
            obtain ⟨ba, rfl, hba, cA, a1, a2⟩ := ha k (by omega)
            obtain ⟨bx, rfl, hbx, cX, x1, x2⟩ := hx k (by omega)
            have hba := Has.of hba
            have hbx := Has.of hbx
            have fb := fac5_bd (f k) a1 a2
            go_wp2_with fail
            refine wp_region_grown_tail' 12 (by kernel_rfl) (by kernel_rfl) ?_
            simp only [List.take_succ_cons, List.take_zero, List.drop_succ_cons, List.drop_zero]
            repeat (go_big_quiet_step (first | (go_at_call 14; exact Calls.regrown_of (rfac5 _ _ _ rfl)) | (go_at_call 18; exact Calls.regrown_of (fmul_e _ _ _ _ fb.1 fb.2 x1 x2 rfl)) | (go_at_call 17; exact Calls.regrown_of (rsub_e _ _ _ _ rfl))))
            refine wpQuiet_nil ?_
            rintro _ ⟨⟨d2, o2⟩, rfl⟩
            go_wp2_with fail
            refine ⟨?_, by simp [intOf]; omega⟩
            refine ⟨k + 1, d2, o2, by omega, by go_num, ?_⟩
            rw [show (sumTo f g (la) - sumTo f g (k + 1)) = (sumTo f g (la) - sumTo f g k) - facR 5 (f k) * g k from (by rw [show sumTo f g (k + 1) = sumTo f g k + facR 5 (f k) * g k from rfl]; omega)]
          · have ek : k = la := by omega
            have hge : ¬ (k : Int) < (la : Int) := by omega
            go_wp2_with fail
            rw [← Z1.out, ← Z2.out]
            refine (live2_any _ (hN.grown (by repeat (first | with_reducible refine blg ?_ _ _ | with_reducible refine bla ?_ _ | with_reducible exact Below.refl _ _)))).mono ?_
            rintro e w1 ⟨rfl, hb1⟩; obtain ⟨⟨d9, o9⟩, rfl⟩ := regrown_of_below hb1; clear hb1
            go_wp2_with fail
            go_ret
            exact ⟨rfl, (by repeat (first | with_reducible refine blg ?_ _ _ | with_reducible refine bla ?_ _ | with_reducible exact Below.refl _ _))⟩
end Go.Proofs.YtekkgidoblddfaaDoorRR
