/- Package octet: the bytes of numbers, the reference's; and what both give. -/
import Derived.Test.YtccgpjhfgmonpaaOct12
import Derived.Test.YtccgpjhfgmonpaaOct16
namespace Go.Proofs.Ytccgpjhfgmonpaa
open Go.RowKit Go.Sort
set_option linter.unusedVariables false
theorem cell_one_new (W : World) (x : Value) (t : TypeId) : ∀ j u, [x][j]? = some u → (W.alloc (.cells #[x] t)).cell? ((⟨W.heap.size, 0, none⟩ : Addr).add j) = some u := by
  intro j u hj
  match j with
  | 0 =>
    simp at hj
    subst hj
    have h : CellsAt (W.alloc (.cells #[x] t)) W.heap.size t #[x] := World.alloc_heap_new W _
    exact h.cell 0
  | k + 1 => simp at hj
theorem bt_step (U X : Int) (i : Nat) (h : X = U / 256 ^ i) : X % 256 = bt U i ∧ X / 256 = U / 256 ^ (i + 1) := by
  subst h
  constructor
  · unfold bt
    rw [show (2 : Int) ^ (8 * i) = 256 ^ i by rw [Int.pow_mul]; rfl]
  · rw [Int.pow_succ, Int.ediv_ediv_of_nonneg (by exact Int.le_of_lt (Int.pow_pos (by decide)))]
theorem bt_bound (U : Int) (hU : 0 ≤ U ∧ U < 18446744073709551616) (i : Nat) : 0 ≤ U / 256 ^ i ∧ U / 256 ^ i < 18446744073709551616 := by
  have hp : (0 : Int) < 256 ^ i := Int.pow_pos (by decide)
  refine ⟨Int.ediv_nonneg hU.1 (Int.le_of_lt hp), Int.lt_of_le_of_lt (Int.ediv_le_self _ hU.1) hU.2⟩
theorem cellsB_succ (f : Nat → Int) (k : Nat) : cellsB f (k + 1) = cellsB f k ++ [.int .u8 (f k)] := by simp [cellsB, List.range_succ]

set_option maxRecDepth 100000 in
set_option maxHeartbeats 2000000 in
theorem rput_any (U : Int) (hU : 0 ≤ U ∧ U < 18446744073709551616) (s : Nat) (hs : s ≤ 8) (w : World) :
    Calls Try.prog 45 #[.int .u64 U, .int .i64 s] w fun e w' => ∃ a c, e = .returned (.slice a s c) ∧ s ≤ c ∧ Rd8 w' a s (bt U) ∧ Below w.heap.size w w' := by
  obtain ⟨i0, hi0, hz0, hz1, hz2⟩ := info_parts infoByte
  go_enter Try.func45, Try.ntmps45
  go_wp2_with fail
  go_loopw [0, 5, 6] (fun u v z wr => ∃ (i : Nat) (X : Int), z = .int .i64 i ∧ i ≤ s ∧ u = .int .u64 X ∧ Hid (X = U / 256 ^ i) ∧ wr.ownsRow w.heap.size 5 1 v i (cellsB (bt U) i) ∧ Below w.heap.size w wr) (fun _ _ z _ => s - (intOf z).toNat)
  case atStart => exact ⟨0, U, rfl, by omega, rfl, Lib.hid (by simp), World.ownsRow_nil _ _ _ _, Below.refl _ _⟩
  case round =>
    obtain ⟨i, X, rfl, hi, rfl, HX, hrow, hB⟩ := hrel
    by_cases hlt : i < s
    · have b0 := bt_bound U hU i
      rw [← HX.out] at b0
      obtain ⟨x0, x1⟩ := b0
      have i0' : (0 : Int) ≤ (i : Int) := by omega
      have i4 : (i : Int) < (s : Int) := by omega
      have HS := Lib.hid (bt_step U X i HX.out)
      have hsz := hB.size
      go_wp2_with (refine wpList_append_own _ rfl _ _ 22 rfl w.heap.size 5 i0 (.int .u8 0) 1 1 Try.underlying22 hi0 hz0 hz1 hz2 rfl (by decide) _ _ _ rfl (hrow.alloc _) ⟨wr.heap.size, 0, none⟩ 1 1 [.int .u8 (X % 256)] rfl rfl (cell_one_new _ _ _) (by simp [Value.oneCell']) (by unfold maxLen; omega) (by omega) (by simp; omega) ?_; intro v' V2 hown' hgrow _)
      refine ⟨?_, by simp [intOf]; omega⟩
      refine ⟨i + 1, X / 256, by simp, by omega, rfl, Lib.hid HS.out.2, ?_, hB.trans (((Below.refl _ wr).alloc hsz _).grown hgrow (by simp; omega) (fun j e => (hrow.lt j e).1))⟩
      rw [cellsB_succ, ← HS.out.1]
      exact hown'
    · obtain rfl : i = s := by omega
      obtain ⟨a, c, rfl, h1, h2, h3, h4⟩ := row_rd8 hrow (fun j hj => cellsB_at _ _ _ hj) (fun j _ => bt_bd U j)
      go_wp2
      go_ret
      exact ⟨a, c, rfl, h1, h2, hB⟩
theorem bt_mod (n : Int) (i : Nat) (h : i < 8) : bt (n % 18446744073709551616) i = bt n i := by
  match i, h with
  | 0, _ => unfold bt; simp <;> omega
  | 1, _ => unfold bt; simp <;> omega
  | 2, _ => unfold bt; simp <;> omega
  | 3, _ => unfold bt; simp <;> omega
  | 4, _ => unfold bt; simp <;> omega
  | 5, _ => unfold bt; simp <;> omega
  | 6, _ => unfold bt; simp <;> omega
  | 7, _ => unfold bt; simp <;> omega

theorem oPut8_any (n : Int) (hn : 0 ≤ n ∧ n < 256) (w : World) :
    Calls Try.prog 21 #[.int .u8 n] w fun e w' => ∃ a c, e = .returned (.slice a 1 c) ∧ 1 ≤ c ∧ Rd8 w' a 1 (bt n) ∧ Below w.heap.size w w' := by
  have H := Lib.hid (oput8_any n hn w)
  go_enter Try.func21, Try.ntmps21
  go_wp2_with fail
  refine H.out.mono ?_
  rintro x w' ⟨g, rfl, h1, h2, h3⟩
  go_wp2_with fail
  go_ret
  exact ⟨_, _, rfl, Nat.le_refl _, rd8_of_row h2 (fun i _ => bt_bd n i), h3⟩

theorem rPut8_any (n : Int) (hn : 0 ≤ n ∧ n < 256) (w : World) :
    Calls Try.prog 22 #[.int .u8 n] w fun e w' => ∃ a c, e = .returned (.slice a 1 c) ∧ 1 ≤ c ∧ Rd8 w' a 1 (bt n) ∧ Below w.heap.size w w' := by
  have H := Lib.hid (rput_any n (by omega) 1 (by omega) w)
  go_enter Try.func22, Try.ntmps22
  go_wp2_with fail
  refine H.out.mono ?_
  rintro x w' ⟨a, c, rfl, h1, h2, h3⟩
  go_wp2_with fail
  go_ret
  exact ⟨_, _, rfl, h1, h2, h3⟩

theorem oPut32_any (n : Int) (hn : 0 ≤ n ∧ n < 4294967296) (w : World) :
    Calls Try.prog 23 #[.int .u32 n] w fun e w' => ∃ a c, e = .returned (.slice a 4 c) ∧ 4 ≤ c ∧ Rd8 w' a 4 (bt n) ∧ Below w.heap.size w w' := by
  have H := Lib.hid (oput32_any n hn w)
  go_enter Try.func23, Try.ntmps23
  go_wp2_with fail
  refine H.out.mono ?_
  rintro x w' ⟨g, rfl, h1, h2, h3⟩
  go_wp2_with fail
  go_ret
  exact ⟨_, _, rfl, Nat.le_refl _, rd8_of_row h2 (fun i _ => bt_bd n i), h3⟩

theorem rPut32_any (n : Int) (hn : 0 ≤ n ∧ n < 4294967296) (w : World) :
    Calls Try.prog 24 #[.int .u32 n] w fun e w' => ∃ a c, e = .returned (.slice a 4 c) ∧ 4 ≤ c ∧ Rd8 w' a 4 (bt n) ∧ Below w.heap.size w w' := by
  have H := Lib.hid (rput_any n (by omega) 4 (by omega) w)
  go_enter Try.func24, Try.ntmps24
  go_wp2_with fail
  refine H.out.mono ?_
  rintro x w' ⟨a, c, rfl, h1, h2, h3⟩
  go_wp2_with fail
  go_ret
  exact ⟨_, _, rfl, h1, h2, h3⟩

theorem oPut64_any (n : Int) (hn : -9223372036854775808 ≤ n ∧ n < 9223372036854775808) (w : World) :
    Calls Try.prog 25 #[.int .i64 n] w fun e w' => ∃ a c, e = .returned (.slice a 8 c) ∧ 8 ≤ c ∧ Rd8 w' a 8 (bt n) ∧ Below w.heap.size w w' := by
  have H := Lib.hid (oput64_any n hn w)
  go_enter Try.func25, Try.ntmps25
  go_wp2_with fail
  refine H.out.mono ?_
  rintro x w' ⟨g, rfl, h1, h2, h3⟩
  go_wp2_with fail
  go_ret
  exact ⟨_, _, rfl, Nat.le_refl _, rd8_of_row h2 (fun i _ => bt_bd n i), h3⟩

theorem rPut64_any (n : Int) (hn : -9223372036854775808 ≤ n ∧ n < 9223372036854775808) (w : World) :
    Calls Try.prog 26 #[.int .i64 n] w fun e w' => ∃ a c, e = .returned (.slice a 8 c) ∧ 8 ≤ c ∧ Rd8 w' a 8 (bt n) ∧ Below w.heap.size w w' := by
  have H := Lib.hid (rput_any (n % 18446744073709551616) (by omega) 8 (by omega) w)
  go_enter Try.func26, Try.ntmps26
  go_wp2_with fail
  refine H.out.mono ?_
  rintro x w' ⟨a, c, rfl, h1, h2, h3⟩
  go_wp2_with fail
  go_ret
  exact ⟨_, _, rfl, h1, fun i hi => by rw [← bt_mod n i hi]; exact h2 i hi, h3⟩
end Go.Proofs.Ytccgpjhfgmonpaa
