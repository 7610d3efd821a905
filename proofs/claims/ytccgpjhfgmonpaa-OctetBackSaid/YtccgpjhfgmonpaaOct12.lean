/- Package octet: bytes that are the same; readers that are opened. -/
import Derived.Test.YtccgpjhfgmonpaaOct8
import Derived.Test.YtccgpjhfgmonpaaOct11
namespace Go.Proofs.Ytccgpjhfgmonpaa
open Go.RowKit Go.Sort
set_option linter.unusedVariables false

theorem rd8_below {W W' : World} {a : Option Addr} {n : Nat} {f : Nat → Int} (h : Rd8 W a n f) (hb : Below W.heap.size W W') : Rd8 W' a n f := h.grown (grownBy_of_below hb none) (fun _ _ => by simp)

set_option maxRecDepth 100000 in
set_option maxHeartbeats 1000000 in
theorem sameBytes_any (a b : Option Addr) (n c d : Nat) (f : Nat → Int) (w : World) (ha : Rd8 w a n f) (hb : Rd8 w b n f) (hn : n ≤ 100000) :
    Calls Try.prog 20 #[.slice a n c, .slice b n d] w fun e w' => e = .returned (.bool true) ∧ Below w.heap.size w w' := by
  go_enter Try.func20, Try.ntmps20
  go_wp2_with fail
  go_loopw [5] (fun z wr => ∃ (i dd : Nat) (os : Array Obj), z = .int .i64 i ∧ i ≤ n ∧ wr = grow (redrawn w dd) os) (fun z _ => n - (intOf z).toNat)
  case atStart =>
    exact ⟨0, w.drawn, #[], rfl, by omega, gr_start w⟩
  case round =>
    obtain ⟨i, dd, os, rfl, hi, rfl⟩ := hrel
    by_cases hlt : i < n
    · obtain ⟨x, rfl, hx, cx, x0, x1⟩ := ha i hlt
      obtain ⟨y, rfl, hy, cy, _, _⟩ := hb i hlt
      have hk0 : (0 : Int) ≤ (i : Int) := by omega
      have hki : (i : Int) < (n : Int) := by omega
      have k1 := Has.of hx
      have k2 := Has.of hy
      go_wp2_with fail
      refine wp_region_grown' (by kernel_rfl) (by kernel_rfl) ?_
      repeat (go_big_quiet_step (fail))
      refine wpQuiet_nil ?_
      rintro _ ⟨⟨d2, o2⟩, rfl⟩
      go_wp2
      refine ⟨?_, by simp [intOf] <;> omega⟩
      exact ⟨i + 1, d2, _, by simp, by omega, rfl⟩
    · obtain rfl : i = n := by omega
      go_wp2
      go_ret
      exact ⟨rfl, (by repeat (first | with_reducible refine blg ?_ _ _ | with_reducible refine bla ?_ _ | with_reducible exact Below.refl _ _))⟩

set_option maxHeartbeats 1000000 in
theorem oOpen_any (a : Option Addr) (k c : Nat) (f : Nat → Int) (w : World) (hr : Rd8 w a k f) (hk : k ≤ 100000) (hc : k ≤ c) :
    Calls Try.prog 8 #[.slice a k c] w fun e w' => ∃ R g, e = .returned (.pointer (some ⟨R, 0, none⟩)) ∧ CellsAt w' R 55 (rdr (.slice (some ⟨g, 0, none⟩) k k) 0 0 0) ∧ Rd8 w' (some ⟨g, 0, none⟩) k f ∧ g ≠ R ∧ w.heap.size ≤ R ∧ w.heap.size ≤ g ∧ g < w'.heap.size ∧ Below w.heap.size w w' := by
  go_enter Try.func8, Try.ntmps8
  go_wp2_with fail
  refine (clone_any a k c f _ hr hk hc).mono ?_
  rintro x w1 ⟨g, rfl, hg, hgc, hb1⟩
  have hf : ∀ i, i < k → 0 ≤ f i ∧ f i ≤ 255 := fun i hi => by obtain ⟨_, _, _, _, h⟩ := hr i hi; exact h
  have hgl := hgc.lt
  have hrd := rd8_of_row hgc hf
  clear hgc hr
  go_wp2
  go_ret
  refine ⟨w1.heap.size, g, rfl, World.alloc_heap_new w1 _, rd8_below hrd (bl1 w1 _), by omega, hb1.size, hg, by simp; omega, hb1.trans ((bl1 w1 _).mono hb1.size)⟩

set_option maxHeartbeats 1000000 in
theorem rOpen_any (a : Option Addr) (k c : Nat) (f : Nat → Int) (w : World) (hr : Rd8 w a k f) (hk : k ≤ 100000) (hc : k ≤ c) (hz : a = none → c = 0 ∧ k = 0) :
    Calls Try.prog 9 #[.slice a k c] w fun e w' => ∃ R a' c', e = .returned (.pointer (some ⟨R, 0, none⟩)) ∧ CellsAt w' R 57 (rdr (.slice a' k c') 0 0 0) ∧ Rd8 w' a' k f ∧ k ≤ c' ∧ (∀ b, a' = some b → b.block ≠ R ∧ w.heap.size ≤ b.block ∧ b.block < w'.heap.size) ∧ (a' = none → c' = 0 ∧ k = 0) ∧ w.heap.size ≤ R ∧ Below w.heap.size w w' := by
  obtain ⟨i0, hi0, hz0, hz1, hz2⟩ := info_parts infoByte
  have hf : ∀ i, i < k → 0 ≤ f i ∧ f i ≤ 255 := fun i hi => by obtain ⟨_, _, _, _, h⟩ := hr i hi; exact h
  have hb1 : Below w.heap.size w (w.alloc (.cells #[.slice none 0 0, .int .i64 0, .int .i64 0, .int .i64 0] 57)) := bl1 w _
  have hR1 : CellsAt (w.alloc (.cells #[.slice none 0 0, .int .i64 0, .int .i64 0, .int .i64 0] 57)) w.heap.size 57 (rdr (.slice none 0 0) 0 0 0) := World.alloc_heap_new w _
  have hr1 := rd8_below hr hb1
  have hsz : (w.alloc (.cells #[.slice none 0 0, .int .i64 0, .int .i64 0, .int .i64 0] 57)).heap.size = w.heap.size + 1 := by simp
  have hN := World.ownsRow_nil (w.alloc (.cells #[.slice none 0 0, .int .i64 0, .int .i64 0, .int .i64 0] 57)) (w.heap.size + 1) 5 1
  go_enter Try.func9, Try.ntmps9
  cases a with
  | none =>
    obtain ⟨rfl, rfl⟩ := hz rfl
    go_wp2_with (refine wpList_append_own_none rfl _ _ 22 rfl (w.heap.size + 1) 5 i0 1 Try.underlying22 hi0 (.slice none 0 0) 0 [] rfl hN rfl ?_)
    go_ret
    exact ⟨w.heap.size, rfl, none, 0, hR1, rd8_none _ _ _, (fun b hb => by cases hb), (fun _ => rfl), Nat.le_refl _, hb1⟩
  | some b =>
    have hnews : ∀ j u, (cellsB f k)[j]? = some u → (w.alloc (.cells #[.slice none 0 0, .int .i64 0, .int .i64 0, .int .i64 0] 57)).cell? (b.add j) = some u := by
      intro j u hj
      have hj' : j < k := by have := (List.getElem?_eq_some_iff.1 hj).1; rwa [cellsB_len] at this
      rw [cellsB_at _ _ _ hj'] at hj
      cases hj
      obtain ⟨b', hb', _, h2, _⟩ := hr1 j hj'
      cases hb'
      exact h2
    go_wp2_with (refine wpList_append_own _ rfl _ _ 22 rfl (w.heap.size + 1) 5 i0 (.int .u8 0) 1 1 Try.underlying22 hi0 hz0 hz1 hz2 rfl (by decide) (.slice none 0 0) 0 [] rfl hN b k c (cellsB f k) rfl (by rw [cellsB_len]; omega) hnews (cellsB_one _ _) (by unfold maxLen; omega) (by omega) (by omega) ?_; intro v' V2 hown hgrow _; rw [Nat.zero_add, List.nil_append] at hown; obtain ⟨a', c', rfl, hkc, hrd, hbk, hzz⟩ := row_rd8 hown (fun i hi => cellsB_at _ _ _ hi) hf; have hR4 := hR1.grown hgrow (by simp [Value.ownBlock]); have c0 : V2.cell? ⟨w.heap.size, 0, none⟩ = some (.slice none 0 0) := hR4.cell 0; have f1 := hR4.frozen 0)
    go_ret
    have hR5 := hR4.set 0 (.slice a' k c')
    have hb2 : Below w.heap.size w V2 := hb1.trans ((below_of_grownNone hgrow).mono (by simp))
    have hs := hgrow.size
    exact ⟨w.heap.size, rfl, a', c', by simpa using hR5, hrd.grown (grownBy_setCell'' V2 w.heap.size 0 _) (fun b hb => by have := hbk b hb; simp; omega), hkc, (fun b hb => by have := hbk b hb; refine ⟨by omega, by omega, ?_⟩; have h4 := (grownBy_setCell'' V2 w.heap.size 0 (.slice a' k c')).size; omega), hzz, Nat.le_refl _, hb2.setCell (p := ⟨w.heap.size, 0, none⟩) (Nat.le_refl _) _⟩
end Go.Proofs.Ytccgpjhfgmonpaa
