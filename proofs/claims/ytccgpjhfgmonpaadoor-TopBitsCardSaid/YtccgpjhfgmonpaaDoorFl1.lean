/- Package flags: what memory holds of sets; numbers of words, bits. -/
import Derived.Laws.CopyOwn
import Derived.Laws.MakeOwn
import Derived.Test.YtccgpjhfgmonpaaDoorOct
import Derived.Test.YtccgpjhfgmonpaaDoorFlMath
namespace Go.Proofs.YtccgpjhfgmonpaaDoor
open Go.RowKit Go.Sort
set_option linter.unusedVariables false

theorem infoWord : (Tryd.prog.info? 48).map (fun i => (i.zero, i.size, i.bytes)) = some (some (.int .u64 0), 1, 8) := by kernel_rfl
theorem sizeWord : (Tryd.prog.info? 48).map (·.size) = some 1 := by kernel_rfl

/-- A slice of words that may be read. -/
def RdW (w : World) (a : Option Addr) (n : Nat) (F : Nat → Nat) : Prop := ∀ i, i < n → ∃ b, a = some b ∧ b.block < w.heap.size ∧ w.cell? (b.add i) = some (.int .u64 (F i)) ∧ F i < 18446744073709551616
theorem RdW.grown {W W' : World} {a : Option Addr} {n : Nat} {F : Nat → Nat} {row : Option Nat} (h : RdW W a n F) (hg : W.grownBy W' row) (hne : ∀ b, a = some b → some b.block ≠ row) : RdW W' a n F := by
  intro i hi
  obtain ⟨b, hb, h1, h2, h3⟩ := h i hi
  refine ⟨b, hb, Nat.lt_of_lt_of_le h1 hg.size, ?_, h3⟩
  rw [← h2]
  have := hg.block b.block h1 (hne b hb)
  unfold World.cell?
  rw [blk_add, this]
theorem RdW.below {W W' : World} {a : Option Addr} {n : Nat} {F : Nat → Nat} (h : RdW W a n F) (hb : Below W.heap.size W W') : RdW W' a n F := h.grown (grownBy_of_below hb none) (fun _ _ => by simp)
theorem add_add (b : Addr) (p i : Nat) : (b.add p).add i = b.add (p + i) := by
  unfold Addr.add
  by_cases h4 : p = 0 <;> by_cases h5 : i = 0 <;> simp [h4, h5]
  omega
theorem RdW.cut {W : World} {a : Option Addr} {n p k : Nat} {F : Nat → Nat} (h : RdW W a n F) (hp : p + k ≤ n) : RdW W (Option.map (fun x => x.add p) a) k (fun i => F (p + i)) := by
  intro i hi
  obtain ⟨b, rfl, h1, h2, h3⟩ := h (p + i) (by omega)
  exact ⟨b.add p, rfl, by rw [blk_add]; exact h1, by rw [add_add]; exact h2, h3⟩
theorem RdW.less {W : World} {a : Option Addr} {n k : Nat} {F : Nat → Nat} (h : RdW W a n F) (hk : k ≤ n) : RdW W a k F := fun i hi => h i (by omega)
theorem RdW.congr {W : World} {a : Option Addr} {n : Nat} {F G : Nat → Nat} (h : RdW W a n F) (hk : ∀ i, i < n → F i = G i) : RdW W a n G := fun i hi => by
  obtain ⟨b, h1, h2, h3, h4⟩ := h i hi
  rw [hk i hi] at h3 h4
  exact ⟨b, h1, h2, h3, h4⟩

/-- Some words' cells. -/
def cellsW (F : Nat → Nat) (k : Nat) : List Value := (List.range k).map fun i => .int .u64 (F i)
theorem cellsW_len (F : Nat → Nat) (k : Nat) : (cellsW F k).length = k := by simp [cellsW]
theorem cellsW_at (F : Nat → Nat) (k j : Nat) (h : j < k) : (cellsW F k)[j]? = some (.int .u64 (F j)) := by simp [cellsW, h]
theorem cellsW_one (F : Nat → Nat) (k : Nat) : ∀ v ∈ cellsW F k, v.oneCell' = true := by
  intro v hv
  obtain ⟨i, _, rfl⟩ := List.mem_map.1 hv
  rfl
theorem cellsW_congr {F G : Nat → Nat} {k : Nat} (h : ∀ i, i < k → F i = G i) : cellsW F k = cellsW G k := by
  unfold cellsW
  refine List.map_congr_left fun i hi => ?_
  rw [h i (List.mem_range.1 hi)]
theorem cellsW_set (F : Nat → Nat) (k j x : Nat) : (cellsW F k).toArray.setIfInBounds j (.int .u64 (x : Int)) = (cellsW (fun i => if i = j then x else F i) k).toArray := by
  refine Array.ext_getElem? fun i => ?_
  by_cases hi : i < k
  · by_cases e : i = j
    · subst e
      rw [Array.getElem?_setIfInBounds_self_of_lt (by simp [cellsW]; exact hi)]
      simp [cellsW, hi]
    · rw [Array.getElem?_setIfInBounds_ne (Ne.symm e)]
      simp [cellsW, hi, e]
  · rw [Array.getElem?_eq_none (by simp [cellsW]; omega), Array.getElem?_eq_none (by simp [cellsW]; omega)]
theorem addr0 (g i : Nat) : ((⟨g, 0, none⟩ : Addr).add i) = ⟨g, i, none⟩ := by unfold Addr.add; split <;> simp_all
theorem rdW_of_cells {W : World} {g k : Nat} {t : TypeId} {F : Nat → Nat} (h : CellsAt W g t (cellsW F k).toArray) (hF : ∀ i, i < k → F i < 18446744073709551616) : RdW W (some ⟨g, 0, none⟩) k F := by
  intro i hi
  refine ⟨_, rfl, h.lt, ?_, hF i hi⟩
  rw [addr0, h.cell i]
  simpa using cellsW_at F k i hi

theorem ret_int {k : IntKind} {a b : Int} (h : a = b) : Ending.returned (.int k a) = .returned (.int k b) := by rw [h]
theorem ret_bool {a b : Bool} (h : a = b) : Ending.returned (.bool a) = .returned (.bool b) := by rw [h]

/-- How many words so many places take. -/
def nw (n : Int) : Nat := (min n.toNat 4096 + 63) / 64
theorem nw_le (n : Int) : nw n ≤ 64 := by unfold nw; omega
theorem words_any (n : Int) (w : World) : Calls Tryd.prog 47 #[.int .i64 n] w fun e w' => e = .returned (.int .i64 (nw n)) ∧ w = w' := by
  by_cases h0 : n < 0
  · have e : (nw n : Int) = 0 := by unfold nw; omega
    rw [e]
    clear e
    go_enter Tryd.func47, Tryd.ntmps47
    go_wp2
    go_ret
    exact ⟨rfl, rfl⟩
  · by_cases h1 : 4096 < n
    · have e : (nw n : Int) = 64 := by unfold nw; omega
      rw [e]
      clear e
      go_enter Tryd.func47, Tryd.ntmps47
      go_wp2
      go_ret
      exact ⟨rfl, rfl⟩
    · have e : (nw n : Int) = (n + 63) / 64 := by unfold nw; omega
      have a0 : 0 ≤ n := by omega
      have a1 : n ≤ 4096 := by omega
      rw [e]
      clear e
      go_enter Tryd.func47, Tryd.ntmps47
      go_wp2
      go_ret
      exact ⟨rfl, rfl⟩
theorem rwords_any (n : Int) (w : World) : Calls Tryd.prog 48 #[.int .i64 n] w fun e w' => e = .returned (.int .i64 (nw n)) ∧ w = w' := by
  by_cases h0 : n < 1
  · have e : (nw n : Int) = 0 := by unfold nw; omega
    have h2 : ¬ 4096 < n := by omega
    rw [e]
    clear e
    go_enter Tryd.func48, Tryd.ntmps48
    go_wp2
    go_ret
    exact ⟨rfl, rfl⟩
  · by_cases h1 : 4096 < n
    · have e : (nw n : Int) = 64 := by unfold nw; omega
      rw [e]
      clear e
      go_enter Tryd.func48, Tryd.ntmps48
      go_wp2
      go_ret
      exact ⟨rfl, rfl⟩
    · have e : (nw n : Int) = (n + 63) / 64 := by unfold nw; omega
      have a0 : 0 ≤ n := by omega
      have a1 : n ≤ 4096 := by omega
      rw [e]
      clear e
      go_enter Tryd.func48, Tryd.ntmps48
      go_wp2
      go_ret
      exact ⟨rfl, rfl⟩

theorem one_shl (x : Nat) : IntKind.u64.wrap (2 ^ (x % 64)) = ((2 ^ (x % 64) : Nat) : Int) := by
  have h : 2 ^ (x % 64) < 2 ^ 64 := Nat.pow_lt_pow_right (by decide) (by omega)
  rw [IntKind.wrap_u64]
  have e : ((2 : Int) ^ (x % 64)) = ((2 ^ (x % 64) : Nat) : Int) := by simp
  rw [e]
  generalize 2 ^ (x % 64) = k at h ⊢
  omega
theorem bit_any (x : Nat) (hx : x ≤ 9223372036854775807) (w : World) : Calls Tryd.prog 49 #[.int .i64 x] w fun e w' => e = .returned (.int .u64 ((2 ^ (x % 64) : Nat) : Int)) ∧ w = w' := by
  have h0 : (0 : Int) ≤ (x : Int) := by omega
  have h1 : (x : Int) ≤ 9223372036854775807 := by omega
  have e2 : ((x : Int) % 64).toNat = x % 64 := by omega
  have HS := Lib.hid (one_shl x)
  go_enter Tryd.func49, Tryd.ntmps49
  go_wp2
  go_ret
  exact ⟨ret_int HS.out, rfl⟩

/-- Is a place in one of so many words? -/
def inB (n : Nat) (at' : Int) : Bool := decide (0 ≤ at' ∧ at' < 64 * (n : Int))
theorem within_t (a : Option Addr) (n c : Nat) (x : Int) (w : World) (h : inB n x = true) (hn : n ≤ 100000) : Calls Tryd.prog 50 #[.slice a n c, .int .i64 x] w fun e w' => e = .returned (.bool true) ∧ w = w' := by
  have h' := of_decide_eq_true h
  obtain ⟨h1, h2⟩ := h'
  clear h
  have h3 : x / 64 < (n : Int) := by omega
  have h4 : x ≤ 9223372036854775807 := by omega
  go_enter Tryd.func50, Tryd.ntmps50
  go_wp2
  go_ret
  exact ⟨rfl, rfl⟩
theorem within_f (a : Option Addr) (n c : Nat) (x : Int) (w : World) (h : inB n x = false) (hx : x ≤ 9223372036854775807) : Calls Tryd.prog 50 #[.slice a n c, .int .i64 x] w fun e w' => e = .returned (.bool false) ∧ w = w' := by
  have h' := of_decide_eq_false h
  clear h
  by_cases h1 : 0 ≤ x
  · have h3 : ¬ x / 64 < (n : Int) := by omega
    clear h'
    go_enter Tryd.func50, Tryd.ntmps50
    go_wp2
    go_ret
    exact ⟨rfl, rfl⟩
  · clear h'
    have h2 : x < 0 := by omega
    go_enter Tryd.func50, Tryd.ntmps50
    go_wp2
    go_ret
    exact ⟨rfl, rfl⟩
end Go.Proofs.YtccgpjhfgmonpaaDoor
