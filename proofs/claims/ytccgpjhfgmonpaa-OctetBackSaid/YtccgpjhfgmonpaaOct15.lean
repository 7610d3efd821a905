/- Package octet: what is taken, failed, ended, of both readers. -/
import Derived.Test.YtccgpjhfgmonpaaOct14
namespace Go.Proofs.Ytccgpjhfgmonpaa
open Go.RowKit Go.Sort
set_option linter.unusedVariables false
theorem rdr_no8 (v : Value) (p : Int) (e fa : Int) (i : Nat) (x : Int) (hv : ∀ y, v ≠ Value.int .u8 y) : (rdr v p e fa)[i]? ≠ some (.int .u8 x) := by
  intro h
  match i with
  | 0 => simp [rdr] at h; exact hv _ h
  | 1 => simp [rdr] at h
  | 2 => simp [rdr] at h
  | 3 => simp [rdr] at h
  | k + 4 => simp [rdr] at h
theorem Rd8.apart {W W' : World} {a : Option Addr} {n k t : Nat} {cs : Array Value} {f : Nat → Int} (h : Rd8 W a n f) (hg : W.grownBy W' (some k)) (hc : CellsAt W k t cs) (hn : ∀ (i : Nat) (x : Int), cs[i]? ≠ some (.int .u8 x)) : Rd8 W' a n f := by
  intro i hi
  obtain ⟨b, hb, h1, h2, h3⟩ := h i hi
  have hne : b.block ≠ k := by
    intro hk
    have h4 := h2
    unfold World.cell? at h4
    rw [blk_add, hk, show W.heap[k]? = _ from hc] at h4
    dsimp only at h4
    split at h4
    · cases h4
    · exact hn _ _ h4
  refine ⟨b, hb, Nat.lt_of_lt_of_le h1 hg.size, ?_, h3⟩
  rw [← h2]
  have := hg.block b.block h1 (by simp [hne])
  unfold World.cell?
  rw [blk_add, this]

set_option maxRecDepth 100000 in
set_option maxHeartbeats 4000000 in
theorem bothFail_any (R S : Nat) (a1 a2 : Option Addr) (m c1 c2 p : Nat) (e fa n : Int) (f : Nat → Int) (w : World)
    (hR : CellsAt w R 55 (rdr (.slice a1 m c1) p e fa)) (hS : CellsAt w S 57 (rdr (.slice a2 m c2) p e fa)) (hb1 : Rd8 w a1 m f) (hb2 : Rd8 w a2 m f)
    (n1 : ∀ b, a1 = some b → b.block ≠ R ∧ b.block ≠ S) (n2 : ∀ b, a2 = some b → b.block ≠ R ∧ b.block ≠ S) (hRS : R ≠ S) (hz : a2 = none → c2 = 0 ∧ m = 0) (hc1 : m ≤ c1) (hc2 : m ≤ c2) (hm : m ≤ 100000) (hp : p ≤ m) :
    Calls Try.prog 10 #[.agg #[.pointer (some ⟨R, 0, none⟩), .pointer (some ⟨S, 0, none⟩)], .agg #[.int .i64 4, .int .i64 n]] w fun x w' => x = .returned (.bool true) ∧ CellsAt w' R 55 (rdr (.slice a1 m c1) (p) (fE e n) (fF e fa n n)) ∧ CellsAt w' S 57 (rdr (.slice a2 m c2) (p) (fE e n) (fF e fa n n)) ∧ Keep2 R S w w'  := by
  go_enter Try.func10, Try.ntmps10
  go_wp2_with fail

  have hB0 : Below w.heap.size w ((w.alloc (.cells #[.pointer (some ⟨R, 0, none⟩), .pointer (some ⟨S, 0, none⟩)] 30)).alloc (.cells #[.int .i64 4, .int .i64 n] 33)) := bl2 _ _ _
  have bX : CellsAt ((w.alloc (.cells #[.pointer (some ⟨R, 0, none⟩), .pointer (some ⟨S, 0, none⟩)] 30)).alloc (.cells #[.int .i64 4, .int .i64 n] 33)) w.heap.size 30 #[.pointer (some ⟨R, 0, none⟩), .pointer (some ⟨S, 0, none⟩)] := (Below.heap_alloc _ _ _ (by simp)).trans (World.alloc_heap_new w _)
  have bY : CellsAt ((w.alloc (.cells #[.pointer (some ⟨R, 0, none⟩), .pointer (some ⟨S, 0, none⟩)] 30)).alloc (.cells #[.int .i64 4, .int .i64 n] 33)) (w.heap.size + 1) 33 #[.int .i64 4, .int .i64 n] := by
    have := World.alloc_heap_new (w.alloc (.cells #[.pointer (some ⟨R, 0, none⟩), .pointer (some ⟨S, 0, none⟩)] 30)) (.cells #[.int .i64 4, .int .i64 n] 33)
    rwa [World.size_alloc] at this
  have xR := hR.lt
  have xS := hS.lt
  have yR : w.heap.size ≠ R ∧ w.heap.size ≠ S ∧ w.heap.size + 1 ≠ R ∧ w.heap.size + 1 ≠ S := by omega
  have hR1 := hR.below hB0
  have hS1 := hS.below hB0
  have hb11 := rd8_below hb1 hB0
  have hb21 := rd8_below hb2 hB0
  have hK1 : Keep2 R S w ((w.alloc (.cells #[.pointer (some ⟨R, 0, none⟩), .pointer (some ⟨S, 0, none⟩)] 30)).alloc (.cells #[.int .i64 4, .int .i64 n] 33)) := Keep2.of hB0
  clear hB0 xR xS hR hS hb1 hb2
  obtain ⟨Bx, hBx⟩ : ∃ Bx, Bx = w.heap.size := ⟨_, rfl⟩
  obtain ⟨By, hBy⟩ : ∃ By, By = w.heap.size + 1 := ⟨_, rfl⟩
  simp only [← hBy] at bY yR ⊢
  simp only [← hBx] at bX yR ⊢
  clear hBx hBy
  generalize (w.alloc (.cells #[.pointer (some ⟨R, 0, none⟩), .pointer (some ⟨S, 0, none⟩)] 30)).alloc (.cells #[.int .i64 4, .int .i64 n] 33) = V at bX bY hR1 hS1 hb11 hb21 hK1 ⊢
  have cX0 : V.cell? ⟨Bx, 0, none⟩ = some (.pointer (some ⟨R, 0, none⟩)) := bX.cell 0
  have cX1 : V.cell? ⟨Bx, 1, none⟩ = some (.pointer (some ⟨S, 0, none⟩)) := bX.cell 1
  have cY0 : V.cell? ⟨By, 0, none⟩ = some (.int .i64 4) := bY.cell 0
  have cY1 : V.cell? ⟨By, 1, none⟩ = some (.int .i64 n) := bY.cell 1

  go_wp2_with fail
  refine (oFail_any R _ p e fa n n V hR1).mono ?_
  rintro x W1 ⟨rfl, hR2, hgV⟩
  have kRR : Keep2 R R V W1 := Keep2.left hgV
  have bX1 := bX.grown hgV (by simp; omega)
  have bY1 := bY.grown hgV (by simp; omega)
  have hS1' := hS1.keep2 kRR (Ne.symm hRS) (Ne.symm hRS)
  have dX0 : W1.cell? ⟨Bx, 0, none⟩ = some (.pointer (some ⟨R, 0, none⟩)) := bX1.cell 0
  have dX1 : W1.cell? ⟨Bx, 1, none⟩ = some (.pointer (some ⟨S, 0, none⟩)) := bX1.cell 1
  have dY1 : W1.cell? ⟨By, 1, none⟩ = some (.int .i64 n) := bY1.cell 1
  go_wp2_with fail
  refine (rFail_any S _ p e fa n n W1 hS1').mono ?_
  rintro x V2 ⟨rfl, hS2, hgW⟩
  have hK2 : Keep2 R S w V2 := (hK1.trans (Keep2.left hgV)).trans (Keep2.right hgW)
  have hR3 := hR2
  clear hR2
  have hR2 := hR3.grown hgW (by simp; omega)
  have bX2 := bX1.grown hgW (by simp; omega)
  go_wp2_with fail

  have cX0 : V2.cell? ⟨Bx, 0, none⟩ = some (.pointer (some ⟨R, 0, none⟩)) := bX2.cell 0
  have cX1 : V2.cell? ⟨Bx, 1, none⟩ = some (.pointer (some ⟨S, 0, none⟩)) := bX2.cell 1
  have kX : Has V2 Bx := bX2.lt
  obtain ⟨p2, hp2⟩ : ∃ p2 : Nat, p2 = p := ⟨_, rfl⟩
  obtain ⟨e2, he2⟩ : ∃ e2 : Int, e2 = fE e n := ⟨_, rfl⟩
  obtain ⟨f2, hf2⟩ : ∃ f2 : Int, f2 = fF e fa n n := ⟨_, rfl⟩
  rw [← hp2, ← he2, ← hf2] at hR2 hS2
  have hpm : p2 ≤ m := (by rw [hp2]; exact hp)
  have hpH := Lib.hid (And.intro hp2 (And.intro he2 hf2))
  clear hp2 he2 hf2
  obtain ⟨L, hL⟩ : ∃ L, L = leftV e2 m p2 := ⟨_, rfl⟩
  have LO := Lib.hid (show ∀ W : World, Below V2.heap.size V2 W → Calls Try.prog 17 #[.pointer (some ⟨R, 0, none⟩)] W (fun x w' => x = .returned (.int .i64 L) ∧ Below W.heap.size W w') from fun W hW => by rw [hL]; exact oLeft_any R a1 m c1 p2 e2 f2 W (hR2.below hW) hm hpm)
  have LR := Lib.hid (show ∀ W : World, Below V2.heap.size V2 W → Calls Try.prog 35 #[.pointer (some ⟨S, 0, none⟩)] W (fun x w' => x = .returned (.int .i64 L) ∧ Below W.heap.size W w') from fun W hW => by rw [hL]; exact rLeft_any S a2 m c2 p2 e2 f2 W (hS2.below hW) hm hpm)
  have AO := Lib.hid (show ∀ W : World, Below V2.heap.size V2 W → Calls Try.prog 16 #[.pointer (some ⟨R, 0, none⟩)] W (fun x w' => x = .returned (.int .i64 p2) ∧ Below W.heap.size W w') from fun W hW => oAt_any R _ p2 e2 f2 W (hR2.below hW))
  have AR := Lib.hid (show ∀ W : World, Below V2.heap.size V2 W → Calls Try.prog 34 #[.pointer (some ⟨S, 0, none⟩)] W (fun x w' => x = .returned (.int .i64 p2) ∧ Below W.heap.size W w') from fun W hW => rAt_any S _ p2 e2 f2 W (hS2.below hW))
  have FO := Lib.hid (show ∀ W : World, Below V2.heap.size V2 W → Calls Try.prog 19 #[.pointer (some ⟨R, 0, none⟩)] W (fun x w' => x = .returned (.agg #[.int .i64 e2, .int .i64 f2]) ∧ Below W.heap.size W w') from fun W hW => oFault_any R _ p2 e2 f2 W (hR2.below hW))
  have FR := Lib.hid (show ∀ W : World, Below V2.heap.size V2 W → Calls Try.prog 36 #[.pointer (some ⟨S, 0, none⟩)] W (fun x w' => x = .returned (.agg #[.int .i64 e2, .int .i64 f2]) ∧ Below W.heap.size W w') from fun W hW => rFault_any S _ p2 e2 f2 W (hS2.below hW))
  clear hL
  clear cY0 cY1 bY
  refine wp_region_quiet_below (by kernel_rfl) (by kernel_rfl) ?_
  repeat (go_big_quiet_step (first
    | (go_at_call 16; exact Calls.regrown_of (AO.out _ (by repeat (first | with_reducible refine blg ?_ _ _ | with_reducible refine bla ?_ _ | with_reducible exact Below.refl _ _))))
    | (go_at_call 34; exact Calls.regrown_of (AR.out _ (by repeat (first | with_reducible refine blg ?_ _ _ | with_reducible refine bla ?_ _ | with_reducible exact Below.refl _ _))))
    | (go_at_call 17; exact Calls.regrown_of (LO.out _ (by repeat (first | with_reducible refine blg ?_ _ _ | with_reducible refine bla ?_ _ | with_reducible exact Below.refl _ _))))
    | (go_at_call 35; exact Calls.regrown_of (LR.out _ (by repeat (first | with_reducible refine blg ?_ _ _ | with_reducible refine bla ?_ _ | with_reducible exact Below.refl _ _))))
    | (go_at_call 19; exact Calls.regrown_of (FO.out _ (by repeat (first | with_reducible refine blg ?_ _ _ | with_reducible refine bla ?_ _ | with_reducible exact Below.refl _ _))))
    | (go_at_call 36; exact Calls.regrown_of (FR.out _ (by repeat (first | with_reducible refine blg ?_ _ _ | with_reducible refine bla ?_ _ | with_reducible exact Below.refl _ _))))))
  refine wpQuiet_nil ?_
  rintro _ ⟨⟨d4, o4⟩, rfl⟩
  have hb9 : Below V2.heap.size V2 (grow (redrawn V2 d4) o4) := below_regrown V2 d4 o4
  go_wp2
  go_ret
  obtain ⟨hp2, he2, hf2⟩ := hpH.out
  subst hp2 he2 hf2
  exact ⟨rfl, hR2.below hb9, hS2.below hb9, hK2.trans (Keep2.of hb9)⟩

set_option maxRecDepth 100000 in
set_option maxHeartbeats 4000000 in
theorem bothEnd_any (k : Int) (k0 : ¬ k = 0) (k1 : ¬ k = 1) (k2 : ¬ k = 2) (k3 : ¬ k = 3) (k4 : ¬ k = 4) (R S : Nat) (a1 a2 : Option Addr) (m c1 c2 p : Nat) (e fa n : Int) (f : Nat → Int) (w : World)
    (hR : CellsAt w R 55 (rdr (.slice a1 m c1) p e fa)) (hS : CellsAt w S 57 (rdr (.slice a2 m c2) p e fa)) (hb1 : Rd8 w a1 m f) (hb2 : Rd8 w a2 m f)
    (n1 : ∀ b, a1 = some b → b.block ≠ R ∧ b.block ≠ S) (n2 : ∀ b, a2 = some b → b.block ≠ R ∧ b.block ≠ S) (hRS : R ≠ S) (hz : a2 = none → c2 = 0 ∧ m = 0) (hc1 : m ≤ c1) (hc2 : m ≤ c2) (hm : m ≤ 100000) (hp : p ≤ m) :
    Calls Try.prog 10 #[.agg #[.pointer (some ⟨R, 0, none⟩), .pointer (some ⟨S, 0, none⟩)], .agg #[.int .i64 k, .int .i64 n]] w fun x w' => x = .returned (.bool true) ∧ CellsAt w' R 55 (rdr (.slice a1 m c1) (p) (e) (fa)) ∧ CellsAt w' S 57 (rdr (.slice a2 m c2) (p) (e) (fa)) ∧ Keep2 R S w w'  := by
  go_enter Try.func10, Try.ntmps10
  go_wp2_with fail

  have hB0 : Below w.heap.size w ((w.alloc (.cells #[.pointer (some ⟨R, 0, none⟩), .pointer (some ⟨S, 0, none⟩)] 30)).alloc (.cells #[.int .i64 k, .int .i64 n] 33)) := bl2 _ _ _
  have bX : CellsAt ((w.alloc (.cells #[.pointer (some ⟨R, 0, none⟩), .pointer (some ⟨S, 0, none⟩)] 30)).alloc (.cells #[.int .i64 k, .int .i64 n] 33)) w.heap.size 30 #[.pointer (some ⟨R, 0, none⟩), .pointer (some ⟨S, 0, none⟩)] := (Below.heap_alloc _ _ _ (by simp)).trans (World.alloc_heap_new w _)
  have bY : CellsAt ((w.alloc (.cells #[.pointer (some ⟨R, 0, none⟩), .pointer (some ⟨S, 0, none⟩)] 30)).alloc (.cells #[.int .i64 k, .int .i64 n] 33)) (w.heap.size + 1) 33 #[.int .i64 k, .int .i64 n] := by
    have := World.alloc_heap_new (w.alloc (.cells #[.pointer (some ⟨R, 0, none⟩), .pointer (some ⟨S, 0, none⟩)] 30)) (.cells #[.int .i64 k, .int .i64 n] 33)
    rwa [World.size_alloc] at this
  have xR := hR.lt
  have xS := hS.lt
  have yR : w.heap.size ≠ R ∧ w.heap.size ≠ S ∧ w.heap.size + 1 ≠ R ∧ w.heap.size + 1 ≠ S := by omega
  have hR1 := hR.below hB0
  have hS1 := hS.below hB0
  have hb11 := rd8_below hb1 hB0
  have hb21 := rd8_below hb2 hB0
  have hK1 : Keep2 R S w ((w.alloc (.cells #[.pointer (some ⟨R, 0, none⟩), .pointer (some ⟨S, 0, none⟩)] 30)).alloc (.cells #[.int .i64 k, .int .i64 n] 33)) := Keep2.of hB0
  clear hB0 xR xS hR hS hb1 hb2
  obtain ⟨Bx, hBx⟩ : ∃ Bx, Bx = w.heap.size := ⟨_, rfl⟩
  obtain ⟨By, hBy⟩ : ∃ By, By = w.heap.size + 1 := ⟨_, rfl⟩
  simp only [← hBy] at bY yR ⊢
  simp only [← hBx] at bX yR ⊢
  clear hBx hBy
  generalize (w.alloc (.cells #[.pointer (some ⟨R, 0, none⟩), .pointer (some ⟨S, 0, none⟩)] 30)).alloc (.cells #[.int .i64 k, .int .i64 n] 33) = V at bX bY hR1 hS1 hb11 hb21 hK1 ⊢
  have cX0 : V.cell? ⟨Bx, 0, none⟩ = some (.pointer (some ⟨R, 0, none⟩)) := bX.cell 0
  have cX1 : V.cell? ⟨Bx, 1, none⟩ = some (.pointer (some ⟨S, 0, none⟩)) := bX.cell 1
  have cY0 : V.cell? ⟨By, 0, none⟩ = some (.int .i64 k) := bY.cell 0
  have cY1 : V.cell? ⟨By, 1, none⟩ = some (.int .i64 n) := bY.cell 1

  obtain ⟨L, hL⟩ : ∃ L, L = endV e m p := ⟨_, rfl⟩
  have EO := Lib.hid (show ∀ W : World, Below V.heap.size V W → Calls Try.prog 18 #[.pointer (some ⟨R, 0, none⟩)] W (fun x w' => x = .returned (.bool L) ∧ Below W.heap.size W w') from fun W hW => by rw [hL]; exact oEnd_any R a1 m c1 p e fa W (hR1.below hW))
  have ER := Lib.hid (show ∀ W : World, Below V.heap.size V W → Calls Try.prog 33 #[.pointer (some ⟨S, 0, none⟩)] W (fun x w' => x = .returned (.bool L) ∧ Below W.heap.size W w') from fun W hW => by rw [hL]; exact rEnd_any S a2 m c2 p e fa W (hS1.below hW))
  clear hL
  have kX : Has V Bx := bX.lt
  go_wp2_with fail
  refine wp_region_quiet_below (by kernel_rfl) (by kernel_rfl) ?_
  repeat (go_big_quiet_step (first
    | (go_at_call 18; exact Calls.regrown_of (EO.out _ (by repeat (first | with_reducible refine blg ?_ _ _ | with_reducible refine bla ?_ _ | with_reducible exact Below.refl _ _))))
    | (go_at_call 33; exact Calls.regrown_of (ER.out _ (by repeat (first | with_reducible refine blg ?_ _ _ | with_reducible refine bla ?_ _ | with_reducible exact Below.refl _ _))))))
  refine wpQuiet_nil ?_
  rintro _ ⟨⟨d3, o3⟩, rfl⟩
  have hb9 : Below V.heap.size V (grow (redrawn V d3) o3) := below_regrown V d3 o3
  have hK2 : Keep2 R S w (grow (redrawn V d3) o3) := hK1.trans (Keep2.of hb9)
  have hR2 := hR1.below hb9
  have hS2 := hS1.below hb9
  have bX2 := bX.below hb9
  clear cX0 cX1 cY0 cY1 kX EO ER
  generalize grow (redrawn V d3) o3 = V2 at hb9 hK2 hR2 hS2 bX2 ⊢
  go_wp2_with fail

  have cX0 : V2.cell? ⟨Bx, 0, none⟩ = some (.pointer (some ⟨R, 0, none⟩)) := bX2.cell 0
  have cX1 : V2.cell? ⟨Bx, 1, none⟩ = some (.pointer (some ⟨S, 0, none⟩)) := bX2.cell 1
  have kX : Has V2 Bx := bX2.lt
  obtain ⟨p2, hp2⟩ : ∃ p2 : Nat, p2 = p := ⟨_, rfl⟩
  obtain ⟨e2, he2⟩ : ∃ e2 : Int, e2 = e := ⟨_, rfl⟩
  obtain ⟨f2, hf2⟩ : ∃ f2 : Int, f2 = fa := ⟨_, rfl⟩
  rw [← hp2, ← he2, ← hf2] at hR2 hS2
  have hpm : p2 ≤ m := (by rw [hp2]; exact hp)
  have hpH := Lib.hid (And.intro hp2 (And.intro he2 hf2))
  clear hp2 he2 hf2
  obtain ⟨L, hL⟩ : ∃ L, L = leftV e2 m p2 := ⟨_, rfl⟩
  have LO := Lib.hid (show ∀ W : World, Below V2.heap.size V2 W → Calls Try.prog 17 #[.pointer (some ⟨R, 0, none⟩)] W (fun x w' => x = .returned (.int .i64 L) ∧ Below W.heap.size W w') from fun W hW => by rw [hL]; exact oLeft_any R a1 m c1 p2 e2 f2 W (hR2.below hW) hm hpm)
  have LR := Lib.hid (show ∀ W : World, Below V2.heap.size V2 W → Calls Try.prog 35 #[.pointer (some ⟨S, 0, none⟩)] W (fun x w' => x = .returned (.int .i64 L) ∧ Below W.heap.size W w') from fun W hW => by rw [hL]; exact rLeft_any S a2 m c2 p2 e2 f2 W (hS2.below hW) hm hpm)
  have AO := Lib.hid (show ∀ W : World, Below V2.heap.size V2 W → Calls Try.prog 16 #[.pointer (some ⟨R, 0, none⟩)] W (fun x w' => x = .returned (.int .i64 p2) ∧ Below W.heap.size W w') from fun W hW => oAt_any R _ p2 e2 f2 W (hR2.below hW))
  have AR := Lib.hid (show ∀ W : World, Below V2.heap.size V2 W → Calls Try.prog 34 #[.pointer (some ⟨S, 0, none⟩)] W (fun x w' => x = .returned (.int .i64 p2) ∧ Below W.heap.size W w') from fun W hW => rAt_any S _ p2 e2 f2 W (hS2.below hW))
  have FO := Lib.hid (show ∀ W : World, Below V2.heap.size V2 W → Calls Try.prog 19 #[.pointer (some ⟨R, 0, none⟩)] W (fun x w' => x = .returned (.agg #[.int .i64 e2, .int .i64 f2]) ∧ Below W.heap.size W w') from fun W hW => oFault_any R _ p2 e2 f2 W (hR2.below hW))
  have FR := Lib.hid (show ∀ W : World, Below V2.heap.size V2 W → Calls Try.prog 36 #[.pointer (some ⟨S, 0, none⟩)] W (fun x w' => x = .returned (.agg #[.int .i64 e2, .int .i64 f2]) ∧ Below W.heap.size W w') from fun W hW => rFault_any S _ p2 e2 f2 W (hS2.below hW))
  clear hL
  clear bY
  refine wp_region_quiet_below (by kernel_rfl) (by kernel_rfl) ?_
  repeat (go_big_quiet_step (first
    | (go_at_call 16; exact Calls.regrown_of (AO.out _ (by repeat (first | with_reducible refine blg ?_ _ _ | with_reducible refine bla ?_ _ | with_reducible exact Below.refl _ _))))
    | (go_at_call 34; exact Calls.regrown_of (AR.out _ (by repeat (first | with_reducible refine blg ?_ _ _ | with_reducible refine bla ?_ _ | with_reducible exact Below.refl _ _))))
    | (go_at_call 17; exact Calls.regrown_of (LO.out _ (by repeat (first | with_reducible refine blg ?_ _ _ | with_reducible refine bla ?_ _ | with_reducible exact Below.refl _ _))))
    | (go_at_call 35; exact Calls.regrown_of (LR.out _ (by repeat (first | with_reducible refine blg ?_ _ _ | with_reducible refine bla ?_ _ | with_reducible exact Below.refl _ _))))
    | (go_at_call 19; exact Calls.regrown_of (FO.out _ (by repeat (first | with_reducible refine blg ?_ _ _ | with_reducible refine bla ?_ _ | with_reducible exact Below.refl _ _))))
    | (go_at_call 36; exact Calls.regrown_of (FR.out _ (by repeat (first | with_reducible refine blg ?_ _ _ | with_reducible refine bla ?_ _ | with_reducible exact Below.refl _ _))))))
  refine wpQuiet_nil ?_
  rintro _ ⟨⟨d4, o4⟩, rfl⟩
  have hb7 : Below V2.heap.size V2 (grow (redrawn V2 d4) o4) := below_regrown V2 d4 o4
  go_wp2
  go_ret
  obtain ⟨hp2, he2, hf2⟩ := hpH.out
  subst hp2 he2 hf2
  exact ⟨rfl, hR2.below hb7, hS2.below hb7, hK2.trans (Keep2.of hb7)⟩

set_option maxRecDepth 100000 in
set_option maxHeartbeats 4000000 in
theorem bothTake_any (R S : Nat) (a1 a2 : Option Addr) (m c1 c2 p : Nat) (e fa n : Int) (f : Nat → Int) (w : World)
    (hR : CellsAt w R 55 (rdr (.slice a1 m c1) p e fa)) (hS : CellsAt w S 57 (rdr (.slice a2 m c2) p e fa)) (hb1 : Rd8 w a1 m f) (hb2 : Rd8 w a2 m f)
    (n1 : ∀ b, a1 = some b → b.block ≠ R ∧ b.block ≠ S) (n2 : ∀ b, a2 = some b → b.block ≠ R ∧ b.block ≠ S) (hRS : R ≠ S) (hz : a2 = none → c2 = 0 ∧ m = 0) (hc1 : m ≤ c1) (hc2 : m ≤ c2) (hm : m ≤ 100000) (hp : p ≤ m) :
    Calls Try.prog 10 #[.agg #[.pointer (some ⟨R, 0, none⟩), .pointer (some ⟨S, 0, none⟩)], .agg #[.int .i64 3, .int .i64 n]] w fun x w' => x = .returned (.bool true) ∧ CellsAt w' R 55 (rdr (.slice a1 m c1) (nP e m p n) (nE e m p n) (nF fa e m p n)) ∧ CellsAt w' S 57 (rdr (.slice a2 m c2) (nP e m p n) (nE e m p n) (nF fa e m p n)) ∧ Keep2 R S w w'  := by
  go_enter Try.func10, Try.ntmps10
  go_wp2_with fail

  have hB0 : Below w.heap.size w ((w.alloc (.cells #[.pointer (some ⟨R, 0, none⟩), .pointer (some ⟨S, 0, none⟩)] 30)).alloc (.cells #[.int .i64 3, .int .i64 n] 33)) := bl2 _ _ _
  have bX : CellsAt ((w.alloc (.cells #[.pointer (some ⟨R, 0, none⟩), .pointer (some ⟨S, 0, none⟩)] 30)).alloc (.cells #[.int .i64 3, .int .i64 n] 33)) w.heap.size 30 #[.pointer (some ⟨R, 0, none⟩), .pointer (some ⟨S, 0, none⟩)] := (Below.heap_alloc _ _ _ (by simp)).trans (World.alloc_heap_new w _)
  have bY : CellsAt ((w.alloc (.cells #[.pointer (some ⟨R, 0, none⟩), .pointer (some ⟨S, 0, none⟩)] 30)).alloc (.cells #[.int .i64 3, .int .i64 n] 33)) (w.heap.size + 1) 33 #[.int .i64 3, .int .i64 n] := by
    have := World.alloc_heap_new (w.alloc (.cells #[.pointer (some ⟨R, 0, none⟩), .pointer (some ⟨S, 0, none⟩)] 30)) (.cells #[.int .i64 3, .int .i64 n] 33)
    rwa [World.size_alloc] at this
  have xR := hR.lt
  have xS := hS.lt
  have yR : w.heap.size ≠ R ∧ w.heap.size ≠ S ∧ w.heap.size + 1 ≠ R ∧ w.heap.size + 1 ≠ S := by omega
  have hR1 := hR.below hB0
  have hS1 := hS.below hB0
  have hb11 := rd8_below hb1 hB0
  have hb21 := rd8_below hb2 hB0
  have hK1 : Keep2 R S w ((w.alloc (.cells #[.pointer (some ⟨R, 0, none⟩), .pointer (some ⟨S, 0, none⟩)] 30)).alloc (.cells #[.int .i64 3, .int .i64 n] 33)) := Keep2.of hB0
  clear hB0 xR xS hR hS hb1 hb2
  obtain ⟨Bx, hBx⟩ : ∃ Bx, Bx = w.heap.size := ⟨_, rfl⟩
  obtain ⟨By, hBy⟩ : ∃ By, By = w.heap.size + 1 := ⟨_, rfl⟩
  simp only [← hBy] at bY yR ⊢
  simp only [← hBx] at bX yR ⊢
  clear hBx hBy
  generalize (w.alloc (.cells #[.pointer (some ⟨R, 0, none⟩), .pointer (some ⟨S, 0, none⟩)] 30)).alloc (.cells #[.int .i64 3, .int .i64 n] 33) = V at bX bY hR1 hS1 hb11 hb21 hK1 ⊢
  have cX0 : V.cell? ⟨Bx, 0, none⟩ = some (.pointer (some ⟨R, 0, none⟩)) := bX.cell 0
  have cX1 : V.cell? ⟨Bx, 1, none⟩ = some (.pointer (some ⟨S, 0, none⟩)) := bX.cell 1
  have cY0 : V.cell? ⟨By, 0, none⟩ = some (.int .i64 3) := bY.cell 0
  have cY1 : V.cell? ⟨By, 1, none⟩ = some (.int .i64 n) := bY.cell 1

  obtain ⟨N, hN⟩ : ∃ N, N = (if good e m p n = true then n.toNat else 0) := ⟨_, rfl⟩
  have hNm : N ≤ 100000 := by
    rw [hN]; split
    · rename_i g
      have := of_decide_eq_true g
      omega
    · omega
  have CO := Lib.hid (show ∀ W : World, W.heap = V.heap → Calls Try.prog 15 #[.pointer (some ⟨R, 0, none⟩), .int .i64 n] W (fun x w' => ∃ a' c', x = .returned (.slice a' N c') ∧ Rd8 w' a' N (fun i => f (p + i)) ∧ CellsAt w' R 55 (rdr (.slice a1 m c1) (nP e m p n) (nE e m p n) (nF fa e m p n)) ∧ W.grownBy w' (some R)) from fun W hW => (oTake_any R a1 m c1 p e fa n f W (by unfold CellsAt; rw [hW]; exact hR1) (fun i hi => by obtain ⟨b, h1, h2, h3, h4⟩ := hb11 i hi; exact ⟨b, h1, by rw [hW]; exact h2, by unfold World.cell?; rw [hW]; exact h3, h4⟩) (fun b hb => (n1 b hb).1) hc1 hm hp).mono (fun x w' ⟨a', n', c', h0, h1, _, h2, h3, h4⟩ => by rw [← hN] at h1; subst h1; exact ⟨a', c', h0, h2, h3, h4⟩))
  have CR := Lib.hid (show ∀ W : World, Keep2 R R V W → Calls Try.prog 31 #[.pointer (some ⟨S, 0, none⟩), .int .i64 n] W (fun x w' => ∃ a' c', x = .returned (.slice a' N c') ∧ Rd8 w' a' N (fun i => f (p + i)) ∧ CellsAt w' S 57 (rdr (.slice a2 m c2) (nP e m p n) (nE e m p n) (nF fa e m p n)) ∧ W.grownBy w' (some S)) from fun W hW => (rTake_any S a2 m c2 p e fa n f W (hS1.keep2 hW (Ne.symm hRS) (Ne.symm hRS)) (hW.rd8 hb21 (fun b hb => ⟨(n2 b hb).1, (n2 b hb).1⟩)) (fun b hb => (n2 b hb).2) hz hc2 hm hp).mono (fun x w' ⟨a', n', c', h0, h1, _, h2, h3, h4⟩ => by rw [← hN] at h1; subst h1; exact ⟨a', c', h0, h2, h3, h4⟩))
  clear hN
  go_wp2_with fail
  go_region_held3 (fun w' => w'.cell? ⟨Bx, 0, none⟩ = some (.pointer (some ⟨R, 0, none⟩)) ∧ w'.cell? ⟨Bx, 1, none⟩ = some (.pointer (some ⟨S, 0, none⟩)) ∧ w'.cell? ⟨By, 1, none⟩ = some (.int .i64 n))
    (first | exact ⟨cX0, cX1, cY1⟩ | exact ⟨dX0, dX1, dY1⟩ | exact ⟨eX0, eX1, eY1⟩ | exact ⟨fX0, fX1, fY1⟩)
    (first
      | (go_at_call 15; refine (CO.out V.drew rfl).mono ?_; clear CO; rintro x W1 ⟨a', c', rfl, hra, hR2, hg1⟩; have hgV : V.grownBy W1 (some R) := ⟨hg1.os, hg1.tape, hg1.output, hg1.size, hg1.block⟩; have kRR : Keep2 R R V W1 := Keep2.left hgV; have bX1 := bX.grown hgV (by simp; omega); have bY1 := bY.grown hgV (by simp; omega); have hS1' := hS1.keep2 kRR (Ne.symm hRS) (Ne.symm hRS); have dX0 : W1.cell? ⟨Bx, 0, none⟩ = some (.pointer (some ⟨R, 0, none⟩)) := bX1.cell 0; have dX1 : W1.cell? ⟨Bx, 1, none⟩ = some (.pointer (some ⟨S, 0, none⟩)) := bX1.cell 1; have dY1 : W1.cell? ⟨By, 1, none⟩ = some (.int .i64 n) := bY1.cell 1)
      | (go_at_call 31; refine (CR.out _ kRR).mono ?_; clear CR; rintro x W2 ⟨b', d', rfl, hrb, hS2, hg2⟩; have hgW : W1.grownBy W2 (some S) := ⟨hg2.os, hg2.tape, hg2.output, hg2.size, hg2.block⟩; have hra2 := hra.apart hgW hS1' (fun i x => rdr_no8 _ _ _ _ i x (by intro y h; cases h)); have bX2 := bX1.grown hgW (by simp; omega); have bY2 := bY1.grown hgW (by simp; omega); have eX0 : W2.cell? ⟨Bx, 0, none⟩ = some (.pointer (some ⟨R, 0, none⟩)) := bX2.cell 0; have eX1 : W2.cell? ⟨Bx, 1, none⟩ = some (.pointer (some ⟨S, 0, none⟩)) := bX2.cell 1; have eY1 : W2.cell? ⟨By, 1, none⟩ = some (.int .i64 n) := bY2.cell 1)
      | (go_at_call 20; refine (sameBytes_any _ _ _ _ _ _ _ hra2 hrb hNm).mono ?_; rintro x V2 ⟨rfl, hb3⟩; have bX3 := bX2.below hb3; have bY3 := bY2.below hb3; have fX0 : V2.cell? ⟨Bx, 0, none⟩ = some (.pointer (some ⟨R, 0, none⟩)) := bX3.cell 0; have fX1 : V2.cell? ⟨Bx, 1, none⟩ = some (.pointer (some ⟨S, 0, none⟩)) := bX3.cell 1; have fY1 : V2.cell? ⟨By, 1, none⟩ = some (.int .i64 n) := bY3.cell 1))
  have hK2 : Keep2 R S w V2 := ((hK1.trans (Keep2.left hgV)).trans (Keep2.right hgW)).trans (Keep2.of hb3)
  have hR3 := hR2
  have hS3 := hS2
  have bX4 := bX3
  clear hR2 hS2 bX2 bX3
  have bX2 := bX4
  have hR2 := (hR3.grown hgW (by simp; omega)).below hb3
  have hS2 := hS3.below hb3
  go_wp2_with fail

  have cX0 : V2.cell? ⟨Bx, 0, none⟩ = some (.pointer (some ⟨R, 0, none⟩)) := bX2.cell 0
  have cX1 : V2.cell? ⟨Bx, 1, none⟩ = some (.pointer (some ⟨S, 0, none⟩)) := bX2.cell 1
  have kX : Has V2 Bx := bX2.lt
  obtain ⟨p2, hp2⟩ : ∃ p2 : Nat, p2 = nP e m p n := ⟨_, rfl⟩
  obtain ⟨e2, he2⟩ : ∃ e2 : Int, e2 = nE e m p n := ⟨_, rfl⟩
  obtain ⟨f2, hf2⟩ : ∃ f2 : Int, f2 = nF fa e m p n := ⟨_, rfl⟩
  rw [← hp2, ← he2, ← hf2] at hR2 hS2
  have hpm : p2 ≤ m := (by rw [hp2]; exact nP_le hp)
  have hpH := Lib.hid (And.intro hp2 (And.intro he2 hf2))
  clear hp2 he2 hf2
  obtain ⟨L, hL⟩ : ∃ L, L = leftV e2 m p2 := ⟨_, rfl⟩
  have LO := Lib.hid (show ∀ W : World, Below V2.heap.size V2 W → Calls Try.prog 17 #[.pointer (some ⟨R, 0, none⟩)] W (fun x w' => x = .returned (.int .i64 L) ∧ Below W.heap.size W w') from fun W hW => by rw [hL]; exact oLeft_any R a1 m c1 p2 e2 f2 W (hR2.below hW) hm hpm)
  have LR := Lib.hid (show ∀ W : World, Below V2.heap.size V2 W → Calls Try.prog 35 #[.pointer (some ⟨S, 0, none⟩)] W (fun x w' => x = .returned (.int .i64 L) ∧ Below W.heap.size W w') from fun W hW => by rw [hL]; exact rLeft_any S a2 m c2 p2 e2 f2 W (hS2.below hW) hm hpm)
  have AO := Lib.hid (show ∀ W : World, Below V2.heap.size V2 W → Calls Try.prog 16 #[.pointer (some ⟨R, 0, none⟩)] W (fun x w' => x = .returned (.int .i64 p2) ∧ Below W.heap.size W w') from fun W hW => oAt_any R _ p2 e2 f2 W (hR2.below hW))
  have AR := Lib.hid (show ∀ W : World, Below V2.heap.size V2 W → Calls Try.prog 34 #[.pointer (some ⟨S, 0, none⟩)] W (fun x w' => x = .returned (.int .i64 p2) ∧ Below W.heap.size W w') from fun W hW => rAt_any S _ p2 e2 f2 W (hS2.below hW))
  have FO := Lib.hid (show ∀ W : World, Below V2.heap.size V2 W → Calls Try.prog 19 #[.pointer (some ⟨R, 0, none⟩)] W (fun x w' => x = .returned (.agg #[.int .i64 e2, .int .i64 f2]) ∧ Below W.heap.size W w') from fun W hW => oFault_any R _ p2 e2 f2 W (hR2.below hW))
  have FR := Lib.hid (show ∀ W : World, Below V2.heap.size V2 W → Calls Try.prog 36 #[.pointer (some ⟨S, 0, none⟩)] W (fun x w' => x = .returned (.agg #[.int .i64 e2, .int .i64 f2]) ∧ Below W.heap.size W w') from fun W hW => rFault_any S _ p2 e2 f2 W (hS2.below hW))
  clear hL
  clear cY0 cY1 bY
  refine wp_region_quiet_below (by kernel_rfl) (by kernel_rfl) ?_
  repeat (go_big_quiet_step (first
    | (go_at_call 16; exact Calls.regrown_of (AO.out _ (by repeat (first | with_reducible refine blg ?_ _ _ | with_reducible refine bla ?_ _ | with_reducible exact Below.refl _ _))))
    | (go_at_call 34; exact Calls.regrown_of (AR.out _ (by repeat (first | with_reducible refine blg ?_ _ _ | with_reducible refine bla ?_ _ | with_reducible exact Below.refl _ _))))
    | (go_at_call 17; exact Calls.regrown_of (LO.out _ (by repeat (first | with_reducible refine blg ?_ _ _ | with_reducible refine bla ?_ _ | with_reducible exact Below.refl _ _))))
    | (go_at_call 35; exact Calls.regrown_of (LR.out _ (by repeat (first | with_reducible refine blg ?_ _ _ | with_reducible refine bla ?_ _ | with_reducible exact Below.refl _ _))))
    | (go_at_call 19; exact Calls.regrown_of (FO.out _ (by repeat (first | with_reducible refine blg ?_ _ _ | with_reducible refine bla ?_ _ | with_reducible exact Below.refl _ _))))
    | (go_at_call 36; exact Calls.regrown_of (FR.out _ (by repeat (first | with_reducible refine blg ?_ _ _ | with_reducible refine bla ?_ _ | with_reducible exact Below.refl _ _))))))
  refine wpQuiet_nil ?_
  rintro _ ⟨⟨d4, o4⟩, rfl⟩
  have hb9 : Below V2.heap.size V2 (grow (redrawn V2 d4) o4) := below_regrown V2 d4 o4
  go_wp2
  go_ret
  obtain ⟨hp2, he2, hf2⟩ := hpH.out
  subst hp2 he2 hf2
  exact ⟨rfl, hR2.below hb9, hS2.below hb9, hK2.trans (Keep2.of hb9)⟩
end Go.Proofs.Ytccgpjhfgmonpaa
