/- Package flags: sets of so many places, and whether a place is there. -/
import Derived.StillTail
import Derived.Test.YtccgpjhfgmonpaaDoorFl1
namespace Go.Proofs.YtccgpjhfgmonpaaDoor
open Go.RowKit Go.Sort
set_option linter.unusedVariables false

theorem made_zero (k : Nat) : madeCells (Value.int .u64 0).cells k = (cellsW (fun _ => 0) k).toArray := by
  refine Array.ext_getElem? fun i => ?_
  by_cases hi : i < k
  · simp [madeCells, Value.cells, cellsW, hi]
    rw [Nat.mod_one]; rfl
  · rw [Array.getElem?_eq_none (by simp [madeCells, Value.cells]; omega), Array.getElem?_eq_none (by simp [cellsW]; omega)]

theorem make_words (w : World) (k : Nat) (hk : k ≤ 100000) : (Instr.makeSlice 22 (.int .i64 (k : Int)) (.int .i64 (k : Int))).run Tryd.prog w = .ok (.slice (some ⟨w.heap.size, 0, none⟩) k k) (w.alloc (.cells (cellsW (fun _ => 0) k).toArray 48)) := by
  obtain ⟨i0, hi0, hz0, hz1, hz2⟩ := info_parts infoWord
  have hmk := run_makeSlice (P := Tryd.prog) w 22 48 i0 (.int .u64 0) Tryd.underlying22 hi0 hz0 .i64 .i64 (k : Int) (k : Int) (by omega) (by omega) (by rw [hz1]; simp; omega) (by rw [hz2]; omega) (by omega)
  simp only [Int.toNat_natCast, hz1, Nat.mul_one, made_zero] at hmk
  exact hmk
theorem rd_zero (w : World) (k : Nat) : RdW (w.alloc (.cells (cellsW (fun _ => 0) k).toArray 48)) (some ⟨w.heap.size, 0, none⟩) k (fun _ => 0) :=
  rdW_of_cells (World.alloc_heap_new w _) (fun _ _ => by decide)

theorem new_any (n : Int) (w : World) : Calls Tryd.prog 13 #[.int .i64 n] w fun e w' => ∃ g, e = .returned (.slice (some ⟨g, 0, none⟩) (nw n) (nw n)) ∧ w.heap.size ≤ g ∧ CellsAt w' g 48 (cellsW (fun _ => 0) (nw n)).toArray ∧ Below w.heap.size w w' := by
  have hmk := make_words w (nw n) (by have := nw_le n; omega)
  go_enter Tryd.func13, Tryd.ntmps13
  go_wp2_with fail
  refine (words_any n w).mono ?_
  rintro e w' ⟨rfl, rfl⟩
  go_wp2
  go_ret
  exact ⟨_, rfl, Nat.le_refl _, World.alloc_heap_new w _, bl1 w _⟩
theorem rnew_any (n : Int) (w : World) : Calls Tryd.prog 14 #[.int .i64 n] w fun e w' => ∃ g, e = .returned (.slice (some ⟨g, 0, none⟩) (nw n) (nw n)) ∧ w.heap.size ≤ g ∧ CellsAt w' g 48 (cellsW (fun _ => 0) (nw n)).toArray ∧ Below w.heap.size w w' := by
  have hmk := make_words w (nw n) (by have := nw_le n; omega)
  go_enter Tryd.func14, Tryd.ntmps14
  go_wp2_with fail
  refine (rwords_any n w).mono ?_
  rintro e w' ⟨rfl, rfl⟩
  go_wp2
  go_ret
  exact ⟨_, rfl, Nat.le_refl _, World.alloc_heap_new w _, bl1 w _⟩

/-- Is a place in a set of so many words? -/
def hasB (p : Nat → Bool) (n : Nat) (x : Int) : Bool := inB n x && p x.toNat
theorem hasB_f {p : Nat → Bool} {n : Nat} {x : Int} (h : inB n x = false) : hasB p n x = false := by unfold hasB; rw [h]; rfl
theorem hasB_t {p : Nat → Bool} {n : Nat} {x : Int} (h : inB n x = true) : hasB p n x = p x.toNat := by unfold hasB; rw [h]; rfl
theorem has_word (p : Nat → Bool) (x : Nat) : (bits .and .u64 ((wd p (x / 64) : Nat) : Int) ((2 ^ (x % 64) : Nat) : Int) != 0) = p x := by
  have hb : 2 ^ (x % 64) < 18446744073709551616 := by have := Nat.pow_lt_pow_right (a := 2) (show 1 < 2 by decide) (show x % 64 < 64 by omega); simpa using this
  rw [bits_and_u64_nat _ _ (wd_lt p _) hb]
  have := wd_and_one p x
  cases hp : p x
  · rw [this.2 hp]; rfl
  · have h0 : wd p (x / 64) &&& 2 ^ (x % 64) ≠ 0 := fun h => by rw [this.1 h] at hp; cases hp
    simp only [bne_iff_ne, ne_eq]
    omega
theorem rhas_word (p : Nat → Bool) (x : Nat) : (bits .and .u64 (((wd p (x / 64) : Nat) : Int) / 2 ^ (x % 64)) 1 == 1) = p x := by
  have e : ((wd p (x / 64) : Nat) : Int) / 2 ^ (x % 64) = ((wd p (x / 64) / 2 ^ (x % 64) : Nat) : Int) := by simp
  have h2 := wd_shift_odd p x
  have hl : wd p (x / 64) / 2 ^ (x % 64) < 18446744073709551616 := Nat.lt_of_le_of_lt (Nat.div_le_self _ _) (wd_lt p _)
  have ea : bits .and .u64 ((wd p (x / 64) / 2 ^ (x % 64) : Nat) : Int) 1 = ((wd p (x / 64) / 2 ^ (x % 64) % 2 : Nat) : Int) := by
    rw [show (1 : Int) = ((1 : Nat) : Int) from rfl, bits_and_u64_nat _ _ hl (by decide), Nat.and_one_is_mod]
  rw [e, ea, h2]
  cases p x <;> rfl

set_option maxHeartbeats 1000000 in
theorem has_any (a : Option Addr) (n c : Nat) (p : Nat → Bool) (x : Int) (w : World) (hr : RdW w a n (wd p)) (hn : n ≤ 100000) (hx : x ≤ 9223372036854775807) :
    Calls Tryd.prog 19 #[.slice a n c, .int .i64 x] w fun e w' => e = .returned (.bool (hasB p n x)) ∧ Below w.heap.size w w' := by
  cases hin : inB n x
  · rw [hasB_f hin]
    have HW := Lib.hid (fun W => within_f a n c x W hin hx)
    clear hr
    go_enter Tryd.func19, Tryd.ntmps19
    go_wp2_with fail
    refine wp_region_quiet_below (by kernel_rfl) (by kernel_rfl) ?_
    repeat (go_big_quiet_step (first
      | (go_at_call 50; exact Calls.regrown_of ((HW.out _).mono fun _ _ ⟨h1, h2⟩ => ⟨h1, h2 ▸ Below.refl _ _⟩))))
    refine wpQuiet_nil ?_
    rintro _ ⟨⟨d4, o4⟩, rfl⟩
    go_wp2
    go_ret
    exact ⟨rfl, below_regrown w d4 o4⟩
  · rw [hasB_t hin]
    obtain ⟨h1, h2⟩ := of_decide_eq_true hin
    obtain ⟨y, rfl⟩ : ∃ y : Nat, x = (y : Int) := ⟨x.toNat, by omega⟩
    have hy : y / 64 < n := by omega
    obtain ⟨b, rfl, hbl, hcell, hlt⟩ := hr (y / 64) hy
    have HW := Lib.hid (fun W => within_t (some b) n c y W hin hn)
    have HB := Lib.hid (fun W => bit_any y (by omega) W)
    have HV := Lib.hid (has_word p y)
    have h3 : (y : Int) / 64 < (n : Int) := by omega
    have h5 : ((y : Int) / 64).toNat = y / 64 := by omega
    have h6 : (0 : Int) ≤ (y : Int) / 64 := by omega
    have kb := Has.of hbl
    obtain ⟨V, hV⟩ : ∃ V, V = wd p (y / 64) := ⟨_, rfl⟩
    rw [← hV] at hcell HV
    obtain ⟨B, hB⟩ : ∃ B, B = 2 ^ (y % 64) := ⟨_, rfl⟩
    rw [← hB] at HB HV
    have hT : (bits .and .u64 (V : Int) (B : Int) != 0) = p y := HV.out
    clear hV hB hr hin hlt HV
    go_enter Tryd.func19, Tryd.ntmps19
    go_wp2_with fail
    refine wp_region_quiet_below (by kernel_rfl) (by kernel_rfl) ?_
    repeat (go_big_quiet_step (first
      | (go_at_call 50; exact Calls.regrown_of ((HW.out _).mono fun _ _ ⟨h1, h2⟩ => ⟨h1, h2 ▸ Below.refl _ _⟩))
      | (go_at_call 49; exact Calls.regrown_of ((HB.out _).mono fun _ _ ⟨h1, h2⟩ => ⟨h1, h2 ▸ Below.refl _ _⟩))))
    refine wpQuiet_nil ?_
    rintro _ ⟨⟨d4, o4⟩, rfl⟩
    go_wp2
    go_ret
    exact ⟨ret_bool rfl, below_regrown w d4 o4⟩

set_option maxHeartbeats 1000000 in
theorem rhas_any (a : Option Addr) (n c : Nat) (p : Nat → Bool) (x : Int) (w : World) (hr : RdW w a n (wd p)) (hn : n ≤ 100000) (hx : x ≤ 9223372036854775807) :
    Calls Tryd.prog 20 #[.slice a n c, .int .i64 x] w fun e w' => e = .returned (.bool (hasB p n x)) ∧ w = w' := by
  cases hin : inB n x
  · rw [hasB_f hin]
    have h' := of_decide_eq_false hin
    clear hr hin
    by_cases h1 : 0 ≤ x
    · have h3 : ¬ x / 64 < (n : Int) := by omega
      clear h'
      go_enter Tryd.func20, Tryd.ntmps20
      go_wp2
      go_ret
      exact ⟨rfl, rfl⟩
    · clear h'
      have h2 : x < 0 := by omega
      go_enter Tryd.func20, Tryd.ntmps20
      go_wp2
      go_ret
      exact ⟨rfl, rfl⟩
  · rw [hasB_t hin]
    obtain ⟨h1, h2⟩ := of_decide_eq_true hin
    obtain ⟨y, rfl⟩ : ∃ y : Nat, x = (y : Int) := ⟨x.toNat, by omega⟩
    have hy : y / 64 < n := by omega
    obtain ⟨b, rfl, hbl, hcell, hlt⟩ := hr (y / 64) hy
    have HV := Lib.hid (rhas_word p y)
    have h3 : (y : Int) / 64 < (n : Int) := by omega
    have h5 : ((y : Int) / 64).toNat = y / 64 := by omega
    have h6 : (0 : Int) ≤ (y : Int) / 64 := by omega
    have e2 : ((y : Int) % 64).toNat = y % 64 := by omega
    obtain ⟨V, hV⟩ : ∃ V, V = wd p (y / 64) := ⟨_, rfl⟩
    rw [← hV] at hcell HV
    have hT : (bits .and .u64 ((V : Int) / 2 ^ (y % 64)) 1 == 1) = p y := HV.out
    clear hV hr hin hlt HV
    go_enter Tryd.func20, Tryd.ntmps20
    go_wp2
    go_ret
    exact ⟨ret_bool rfl, rfl⟩
end Go.Proofs.YtccgpjhfgmonpaaDoor
