/- Package octet: one thing, of both readers. -/
import Derived.Deep.RegionHeld3
import Derived.Test.YtccgpjhfgmonpaaOct13
namespace Go.Proofs.Ytccgpjhfgmonpaa
open Go.RowKit Go.Sort
set_option linter.unusedVariables false
theorem nP_le {e : Int} {m p : Nat} {n : Int} (h : p ≤ m) : nP e m p n ≤ m := by
  unfold nP
  split
  · rename_i g
    have := of_decide_eq_true g
    omega
  · exact h

set_option maxRecDepth 100000 in
set_option maxHeartbeats 2000000 in
theorem bothU8_any (R S : Nat) (a1 a2 : Option Addr) (m c1 c2 p : Nat) (e fa n : Int) (f : Nat → Int) (w : World)
    (hR : CellsAt w R 55 (rdr (.slice a1 m c1) p e fa)) (hS : CellsAt w S 57 (rdr (.slice a2 m c2) p e fa)) (hb1 : Rd8 w a1 m f) (hb2 : Rd8 w a2 m f)
    (n1 : ∀ b, a1 = some b → b.block ≠ R ∧ b.block ≠ S) (n2 : ∀ b, a2 = some b → b.block ≠ R ∧ b.block ≠ S) (hRS : R ≠ S) (hz : a2 = none → c2 = 0 ∧ m = 0) (hc1 : m ≤ c1) (hc2 : m ≤ c2) (hm : m ≤ 100000) (hp : p ≤ m) :
    Calls Try.prog 10 #[.agg #[.pointer (some ⟨R, 0, none⟩), .pointer (some ⟨S, 0, none⟩)], .agg #[.int .i64 0, .int .i64 n]] w fun x w' => x = .returned (.bool true) ∧ CellsAt w' R 55 (rdr (.slice a1 m c1) (nP e m p 1) (nE e m p 1) (nF fa e m p 1)) ∧ CellsAt w' S 57 (rdr (.slice a2 m c2) (nP e m p 1) (nE e m p 1) (nF fa e m p 1)) ∧ Keep2 R S w w'  := by
  go_enter Try.func10, Try.ntmps10
  go_wp2_with fail

  have hB0 : Below w.heap.size w ((w.alloc (.cells #[.pointer (some ⟨R, 0, none⟩), .pointer (some ⟨S, 0, none⟩)] 30)).alloc (.cells #[.int .i64 0, .int .i64 n] 33)) := bl2 _ _ _
  have bX : CellsAt ((w.alloc (.cells #[.pointer (some ⟨R, 0, none⟩), .pointer (some ⟨S, 0, none⟩)] 30)).alloc (.cells #[.int .i64 0, .int .i64 n] 33)) w.heap.size 30 #[.pointer (some ⟨R, 0, none⟩), .pointer (some ⟨S, 0, none⟩)] := (Below.heap_alloc _ _ _ (by simp)).trans (World.alloc_heap_new w _)
  have bY : CellsAt ((w.alloc (.cells #[.pointer (some ⟨R, 0, none⟩), .pointer (some ⟨S, 0, none⟩)] 30)).alloc (.cells #[.int .i64 0, .int .i64 n] 33)) (w.heap.size + 1) 33 #[.int .i64 0, .int .i64 n] := by
    have := World.alloc_heap_new (w.alloc (.cells #[.pointer (some ⟨R, 0, none⟩), .pointer (some ⟨S, 0, none⟩)] 30)) (.cells #[.int .i64 0, .int .i64 n] 33)
    rwa [World.size_alloc] at this
  have xR := hR.lt
  have xS := hS.lt
  have yR : w.heap.size ≠ R ∧ w.heap.size ≠ S ∧ w.heap.size + 1 ≠ R ∧ w.heap.size + 1 ≠ S := by omega
  have hR1 := hR.below hB0
  have hS1 := hS.below hB0
  have hb11 := rd8_below hb1 hB0
  have hb21 := rd8_below hb2 hB0
  have hK1 : Keep2 R S w ((w.alloc (.cells #[.pointer (some ⟨R, 0, none⟩), .pointer (some ⟨S, 0, none⟩)] 30)).alloc (.cells #[.int .i64 0, .int .i64 n] 33)) := Keep2.of hB0
  clear hB0 xR xS hR hS hb1 hb2
  obtain ⟨Bx, hBx⟩ : ∃ Bx, Bx = w.heap.size := ⟨_, rfl⟩
  obtain ⟨By, hBy⟩ : ∃ By, By = w.heap.size + 1 := ⟨_, rfl⟩
  simp only [← hBy] at bY yR ⊢
  simp only [← hBx] at bX yR ⊢
  clear hBx hBy
  generalize (w.alloc (.cells #[.pointer (some ⟨R, 0, none⟩), .pointer (some ⟨S, 0, none⟩)] 30)).alloc (.cells #[.int .i64 0, .int .i64 n] 33) = V at bX bY hR1 hS1 hb11 hb21 hK1 ⊢
  have cX0 : V.cell? ⟨Bx, 0, none⟩ = some (.pointer (some ⟨R, 0, none⟩)) := bX.cell 0
  have cX1 : V.cell? ⟨Bx, 1, none⟩ = some (.pointer (some ⟨S, 0, none⟩)) := bX.cell 1
  have cY0 : V.cell? ⟨By, 0, none⟩ = some (.int .i64 0) := bY.cell 0
  have cY1 : V.cell? ⟨By, 1, none⟩ = some (.int .i64 n) := bY.cell 1

  obtain ⟨Z, hZ⟩ : ∃ Z, Z = (if good e m p 1 = true then le (fun i => f (p + i)) 1 else 0) := ⟨_, rfl⟩
  have CO := Lib.hid (show ∀ W : World, W.heap = V.heap → Calls Try.prog 12 #[.pointer (some ⟨R, 0, none⟩)] W (fun x w' => x = .returned (.int .u8 Z) ∧ CellsAt w' R 55 (rdr (.slice a1 m c1) (nP e m p 1) (nE e m p 1) (nF fa e m p 1)) ∧ W.grownBy w' (some R)) from fun W hW => by rw [hZ]; exact oU8_any R a1 m c1 p e fa f W (by unfold CellsAt; rw [hW]; exact hR1) (fun i hi => by obtain ⟨b, h1, h2, h3, h4⟩ := hb11 i hi; exact ⟨b, h1, by rw [hW]; exact h2, by unfold World.cell?; rw [hW]; exact h3, h4⟩) (fun b hb => (n1 b hb).1) hc1 hm hp)
  have CR := Lib.hid (show ∀ W : World, Keep2 R R V W → Calls Try.prog 28 #[.pointer (some ⟨S, 0, none⟩)] W (fun x w' => x = .returned (.int .u8 Z) ∧ CellsAt w' S 57 (rdr (.slice a2 m c2) (nP e m p 1) (nE e m p 1) (nF fa e m p 1)) ∧ W.grownBy w' (some S)) from fun W hW => by rw [hZ]; exact rU8_any S a2 m c2 p e fa f W (hS1.keep2 hW (Ne.symm hRS) (Ne.symm hRS)) (hW.rd8 hb21 (fun b hb => ⟨(n2 b hb).1, (n2 b hb).1⟩)) (fun b hb => (n2 b hb).2) hz hc2 hm hp)
  clear hZ
  go_wp2_with fail
  go_region_held3 (fun w' => w'.cell? ⟨Bx, 0, none⟩ = some (.pointer (some ⟨R, 0, none⟩)) ∧ w'.cell? ⟨Bx, 1, none⟩ = some (.pointer (some ⟨S, 0, none⟩)))
    (first | exact ⟨cX0, cX1⟩ | exact ⟨dX0, dX1⟩ | exact ⟨eX0, eX1⟩)
    (first
      | (go_at_call 12; refine (CO.out V.drew rfl).mono ?_; clear CO; rintro x W1 ⟨rfl, hR2, hg1⟩; have hgV : V.grownBy W1 (some R) := ⟨hg1.os, hg1.tape, hg1.output, hg1.size, hg1.block⟩; have kRR : Keep2 R R V W1 := Keep2.left hgV; have bX1 := bX.grown hgV (by simp; omega); have dX0 : W1.cell? ⟨Bx, 0, none⟩ = some (.pointer (some ⟨R, 0, none⟩)) := bX1.cell 0; have dX1 : W1.cell? ⟨Bx, 1, none⟩ = some (.pointer (some ⟨S, 0, none⟩)) := bX1.cell 1)
      | (go_at_call 28; refine (CR.out _ kRR).mono ?_; clear CR; rintro x V2 ⟨rfl, hS2, hg2⟩; have hgW : W1.grownBy V2 (some S) := ⟨hg2.os, hg2.tape, hg2.output, hg2.size, hg2.block⟩; have bX2 := bX1.grown hgW (by simp; omega); have eX0 : V2.cell? ⟨Bx, 0, none⟩ = some (.pointer (some ⟨R, 0, none⟩)) := bX2.cell 0; have eX1 : V2.cell? ⟨Bx, 1, none⟩ = some (.pointer (some ⟨S, 0, none⟩)) := bX2.cell 1))
  have hK2 : Keep2 R S w V2 := (hK1.trans (Keep2.left hgV)).trans (Keep2.right hgW)
  have hR3 := hR2
  clear hR2
  have hR2 := hR3.grown hgW (by simp; omega)
  go_wp2_with fail

  have cX0 : V2.cell? ⟨Bx, 0, none⟩ = some (.pointer (some ⟨R, 0, none⟩)) := bX2.cell 0
  have cX1 : V2.cell? ⟨Bx, 1, none⟩ = some (.pointer (some ⟨S, 0, none⟩)) := bX2.cell 1
  have kX : Has V2 Bx := bX2.lt
  obtain ⟨p2, hp2⟩ : ∃ p2 : Nat, p2 = nP e m p 1 := ⟨_, rfl⟩
  obtain ⟨e2, he2⟩ : ∃ e2 : Int, e2 = nE e m p 1 := ⟨_, rfl⟩
  obtain ⟨f2, hf2⟩ : ∃ f2 : Int, f2 = nF fa e m p 1 := ⟨_, rfl⟩
  rw [← hp2, ← he2, ← hf2] at hR2 hS2
  have hpm : p2 ≤ m := (by rw [hp2]; exact nP_le hp)
  have hpH := Lib.hid (And.intro hp2 (And.intro he2 hf2))
  clear hp2 he2 hf2
  obtain ⟨L, hL⟩ : ∃ L, L = leftV e2 m p2 := ⟨_, rfl⟩
  have LO := Lib.hid (show ∀ W : World, Below V2.heap.size V2 W → Calls Try.prog 17 #[.pointer (some ⟨R, 0, none⟩)] W (fun x w' => x = .returned (.int .i64 L) ∧ Below W.heap.size W w') from fun W hW => by rw [hL]; exact oLeft_any R a1 m c1 p2 e2 f2 W (hR2.below hW) hm hpm)
  have LR := Lib.hid (show ∀ W : World, Below V2.heap.size V2 W → Calls Try.prog 35 #[.pointer (some ⟨S, 0, none⟩)] W (fun x w' => x = .returned (.int .i64 L) ∧ Below W.heap.size W w') from fun W hW => by rw [hL]; exact rLeft_any S a2 m c2 p2 e2 f2 W (hS2.below hW) hm hpm)
  have AO := Lib.hid (show ∀ W : World, Below V2.heap.size V2 W → Calls Try.prog 16 #[.pointer (some ⟨R, 0, none⟩)] W (fun x w' => x = .returned (.int .i64 p2) ∧ Below W.heap.size W w') from fun W hW => oAt_any R _ p2 e2 f2 W (hR2.below hW))
  have AR := Lib.hid (show ∀ W : World, Below V2.heap.size V2 W → Calls Try.prog 34 #[.pointer (some ⟨S, 0, none⟩)] W (fun x w' => x = .returned (.int .i64 p2) ∧ Below W.heap.size W w') from fun W hW => rAt_any S _ p2 e2 f2 W (hS2.below hW))
  have FO := Lib.hid (show ∀ W : World, Below V2.heap.size V2 W → Calls Try.prog 19 #[.pointer (some ⟨R, 0, none⟩)] W (fun x w' => x = .returned (.agg #[.int .i64 e2, .int .i64 f2]) ∧ Below W.heap.size W w') from fun W hW => oFault_any R _ p2 e2 f2 W (hR2.below hW))
  have FR := Lib.hid (show ∀ W : World, Below V2.heap.size V2 W → Calls Try.prog 36 #[.pointer (some ⟨S, 0, none⟩)] W (fun x w' => x = .returned (.agg #[.int .i64 e2, .int .i64 f2]) ∧ Below W.heap.size W w') from fun W hW => rFault_any S _ p2 e2 f2 W (hS2.below hW))
  clear hL
  clear cY0 cY1 bY
  refine wp_region_quiet_below (by kernel_rfl) (by kernel_rfl) ?_
  repeat (go_big_quiet_step (first
    | (go_at_call 16; exact Calls.regrown_of (AO.out _ (by repeat (first | with_reducible refine blg ?_ _ _ | with_reducible refine bla ?_ _ | with_reducible exact Below.refl _ _))))
    | (go_at_call 34; exact Calls.regrown_of (AR.out _ (by repeat (first | with_reducible refine blg ?_ _ _ | with_reducible refine bla ?_ _ | with_reducible exact Below.refl _ _))))
    | (go_at_call 17; exact Calls.regrown_of (LO.out _ (by repeat (first | with_reducible refine blg ?_ _ _ | with_reducible refine bla ?_ _ | with_reducible exact Below.refl _ _))))
    | (go_at_call 35; exact Calls.regrown_of (LR.out _ (by repeat (first | with_reducible refine blg ?_ _ _ | with_reducible refine bla ?_ _ | with_reducible exact Below.refl _ _))))
    | (go_at_call 19; exact Calls.regrown_of (FO.out _ (by repeat (first | with_reducible refine blg ?_ _ _ | with_reducible refine bla ?_ _ | with_reducible exact Below.refl _ _))))
    | (go_at_call 36; exact Calls.regrown_of (FR.out _ (by repeat (first | with_reducible refine blg ?_ _ _ | with_reducible refine bla ?_ _ | with_reducible exact Below.refl _ _))))))
  refine wpQuiet_nil ?_
  rintro _ ⟨⟨d4, o4⟩, rfl⟩
  have hb9 : Below V2.heap.size V2 (grow (redrawn V2 d4) o4) := below_regrown V2 d4 o4
  go_wp2
  go_ret
  obtain ⟨hp2, he2, hf2⟩ := hpH.out
  subst hp2 he2 hf2
  exact ⟨rfl, hR2.below hb9, hS2.below hb9, hK2.trans (Keep2.of hb9)⟩

set_option maxRecDepth 100000 in
set_option maxHeartbeats 2000000 in
theorem bothU32_any (R S : Nat) (a1 a2 : Option Addr) (m c1 c2 p : Nat) (e fa n : Int) (f : Nat → Int) (w : World)
    (hR : CellsAt w R 55 (rdr (.slice a1 m c1) p e fa)) (hS : CellsAt w S 57 (rdr (.slice a2 m c2) p e fa)) (hb1 : Rd8 w a1 m f) (hb2 : Rd8 w a2 m f)
    (n1 : ∀ b, a1 = some b → b.block ≠ R ∧ b.block ≠ S) (n2 : ∀ b, a2 = some b → b.block ≠ R ∧ b.block ≠ S) (hRS : R ≠ S) (hz : a2 = none → c2 = 0 ∧ m = 0) (hc1 : m ≤ c1) (hc2 : m ≤ c2) (hm : m ≤ 100000) (hp : p ≤ m) :
    Calls Try.prog 10 #[.agg #[.pointer (some ⟨R, 0, none⟩), .pointer (some ⟨S, 0, none⟩)], .agg #[.int .i64 1, .int .i64 n]] w fun x w' => x = .returned (.bool true) ∧ CellsAt w' R 55 (rdr (.slice a1 m c1) (nP e m p 4) (nE e m p 4) (nF fa e m p 4)) ∧ CellsAt w' S 57 (rdr (.slice a2 m c2) (nP e m p 4) (nE e m p 4) (nF fa e m p 4)) ∧ Keep2 R S w w'  := by
  go_enter Try.func10, Try.ntmps10
  go_wp2_with fail

  have hB0 : Below w.heap.size w ((w.alloc (.cells #[.pointer (some ⟨R, 0, none⟩), .pointer (some ⟨S, 0, none⟩)] 30)).alloc (.cells #[.int .i64 1, .int .i64 n] 33)) := bl2 _ _ _
  have bX : CellsAt ((w.alloc (.cells #[.pointer (some ⟨R, 0, none⟩), .pointer (some ⟨S, 0, none⟩)] 30)).alloc (.cells #[.int .i64 1, .int .i64 n] 33)) w.heap.size 30 #[.pointer (some ⟨R, 0, none⟩), .pointer (some ⟨S, 0, none⟩)] := (Below.heap_alloc _ _ _ (by simp)).trans (World.alloc_heap_new w _)
  have bY : CellsAt ((w.alloc (.cells #[.pointer (some ⟨R, 0, none⟩), .pointer (some ⟨S, 0, none⟩)] 30)).alloc (.cells #[.int .i64 1, .int .i64 n] 33)) (w.heap.size + 1) 33 #[.int .i64 1, .int .i64 n] := by
    have := World.alloc_heap_new (w.alloc (.cells #[.pointer (some ⟨R, 0, none⟩), .pointer (some ⟨S, 0, none⟩)] 30)) (.cells #[.int .i64 1, .int .i64 n] 33)
    rwa [World.size_alloc] at this
  have xR := hR.lt
  have xS := hS.lt
  have yR : w.heap.size ≠ R ∧ w.heap.size ≠ S ∧ w.heap.size + 1 ≠ R ∧ w.heap.size + 1 ≠ S := by omega
  have hR1 := hR.below hB0
  have hS1 := hS.below hB0
  have hb11 := rd8_below hb1 hB0
  have hb21 := rd8_below hb2 hB0
  have hK1 : Keep2 R S w ((w.alloc (.cells #[.pointer (some ⟨R, 0, none⟩), .pointer (some ⟨S, 0, none⟩)] 30)).alloc (.cells #[.int .i64 1, .int .i64 n] 33)) := Keep2.of hB0
  clear hB0 xR xS hR hS hb1 hb2
  obtain ⟨Bx, hBx⟩ : ∃ Bx, Bx = w.heap.size := ⟨_, rfl⟩
  obtain ⟨By, hBy⟩ : ∃ By, By = w.heap.size + 1 := ⟨_, rfl⟩
  simp only [← hBy] at bY yR ⊢
  simp only [← hBx] at bX yR ⊢
  clear hBx hBy
  generalize (w.alloc (.cells #[.pointer (some ⟨R, 0, none⟩), .pointer (some ⟨S, 0, none⟩)] 30)).alloc (.cells #[.int .i64 1, .int .i64 n] 33) = V at bX bY hR1 hS1 hb11 hb21 hK1 ⊢
  have cX0 : V.cell? ⟨Bx, 0, none⟩ = some (.pointer (some ⟨R, 0, none⟩)) := bX.cell 0
  have cX1 : V.cell? ⟨Bx, 1, none⟩ = some (.pointer (some ⟨S, 0, none⟩)) := bX.cell 1
  have cY0 : V.cell? ⟨By, 0, none⟩ = some (.int .i64 1) := bY.cell 0
  have cY1 : V.cell? ⟨By, 1, none⟩ = some (.int .i64 n) := bY.cell 1

  obtain ⟨Z, hZ⟩ : ∃ Z, Z = (if good e m p 4 = true then le (fun i => f (p + i)) 4 else 0) := ⟨_, rfl⟩
  have CO := Lib.hid (show ∀ W : World, W.heap = V.heap → Calls Try.prog 13 #[.pointer (some ⟨R, 0, none⟩)] W (fun x w' => x = .returned (.int .u32 Z) ∧ CellsAt w' R 55 (rdr (.slice a1 m c1) (nP e m p 4) (nE e m p 4) (nF fa e m p 4)) ∧ W.grownBy w' (some R)) from fun W hW => by rw [hZ]; exact oU32_any R a1 m c1 p e fa f W (by unfold CellsAt; rw [hW]; exact hR1) (fun i hi => by obtain ⟨b, h1, h2, h3, h4⟩ := hb11 i hi; exact ⟨b, h1, by rw [hW]; exact h2, by unfold World.cell?; rw [hW]; exact h3, h4⟩) (fun b hb => (n1 b hb).1) hc1 hm hp)
  have CR := Lib.hid (show ∀ W : World, Keep2 R R V W → Calls Try.prog 29 #[.pointer (some ⟨S, 0, none⟩)] W (fun x w' => x = .returned (.int .u32 Z) ∧ CellsAt w' S 57 (rdr (.slice a2 m c2) (nP e m p 4) (nE e m p 4) (nF fa e m p 4)) ∧ W.grownBy w' (some S)) from fun W hW => by rw [hZ]; exact rU32_any S a2 m c2 p e fa f W (hS1.keep2 hW (Ne.symm hRS) (Ne.symm hRS)) (hW.rd8 hb21 (fun b hb => ⟨(n2 b hb).1, (n2 b hb).1⟩)) (fun b hb => (n2 b hb).2) hz hc2 hm hp)
  clear hZ
  go_wp2_with fail
  go_region_held3 (fun w' => w'.cell? ⟨Bx, 0, none⟩ = some (.pointer (some ⟨R, 0, none⟩)) ∧ w'.cell? ⟨Bx, 1, none⟩ = some (.pointer (some ⟨S, 0, none⟩)))
    (first | exact ⟨cX0, cX1⟩ | exact ⟨dX0, dX1⟩ | exact ⟨eX0, eX1⟩)
    (first
      | (go_at_call 13; refine (CO.out V.drew rfl).mono ?_; clear CO; rintro x W1 ⟨rfl, hR2, hg1⟩; have hgV : V.grownBy W1 (some R) := ⟨hg1.os, hg1.tape, hg1.output, hg1.size, hg1.block⟩; have kRR : Keep2 R R V W1 := Keep2.left hgV; have bX1 := bX.grown hgV (by simp; omega); have dX0 : W1.cell? ⟨Bx, 0, none⟩ = some (.pointer (some ⟨R, 0, none⟩)) := bX1.cell 0; have dX1 : W1.cell? ⟨Bx, 1, none⟩ = some (.pointer (some ⟨S, 0, none⟩)) := bX1.cell 1)
      | (go_at_call 29; refine (CR.out _ kRR).mono ?_; clear CR; rintro x V2 ⟨rfl, hS2, hg2⟩; have hgW : W1.grownBy V2 (some S) := ⟨hg2.os, hg2.tape, hg2.output, hg2.size, hg2.block⟩; have bX2 := bX1.grown hgW (by simp; omega); have eX0 : V2.cell? ⟨Bx, 0, none⟩ = some (.pointer (some ⟨R, 0, none⟩)) := bX2.cell 0; have eX1 : V2.cell? ⟨Bx, 1, none⟩ = some (.pointer (some ⟨S, 0, none⟩)) := bX2.cell 1))
  have hK2 : Keep2 R S w V2 := (hK1.trans (Keep2.left hgV)).trans (Keep2.right hgW)
  have hR3 := hR2
  clear hR2
  have hR2 := hR3.grown hgW (by simp; omega)
  go_wp2_with fail

  have cX0 : V2.cell? ⟨Bx, 0, none⟩ = some (.pointer (some ⟨R, 0, none⟩)) := bX2.cell 0
  have cX1 : V2.cell? ⟨Bx, 1, none⟩ = some (.pointer (some ⟨S, 0, none⟩)) := bX2.cell 1
  have kX : Has V2 Bx := bX2.lt
  obtain ⟨p2, hp2⟩ : ∃ p2 : Nat, p2 = nP e m p 4 := ⟨_, rfl⟩
  obtain ⟨e2, he2⟩ : ∃ e2 : Int, e2 = nE e m p 4 := ⟨_, rfl⟩
  obtain ⟨f2, hf2⟩ : ∃ f2 : Int, f2 = nF fa e m p 4 := ⟨_, rfl⟩
  rw [← hp2, ← he2, ← hf2] at hR2 hS2
  have hpm : p2 ≤ m := (by rw [hp2]; exact nP_le hp)
  have hpH := Lib.hid (And.intro hp2 (And.intro he2 hf2))
  clear hp2 he2 hf2
  obtain ⟨L, hL⟩ : ∃ L, L = leftV e2 m p2 := ⟨_, rfl⟩
  have LO := Lib.hid (show ∀ W : World, Below V2.heap.size V2 W → Calls Try.prog 17 #[.pointer (some ⟨R, 0, none⟩)] W (fun x w' => x = .returned (.int .i64 L) ∧ Below W.heap.size W w') from fun W hW => by rw [hL]; exact oLeft_any R a1 m c1 p2 e2 f2 W (hR2.below hW) hm hpm)
  have LR := Lib.hid (show ∀ W : World, Below V2.heap.size V2 W → Calls Try.prog 35 #[.pointer (some ⟨S, 0, none⟩)] W (fun x w' => x = .returned (.int .i64 L) ∧ Below W.heap.size W w') from fun W hW => by rw [hL]; exact rLeft_any S a2 m c2 p2 e2 f2 W (hS2.below hW) hm hpm)
  have AO := Lib.hid (show ∀ W : World, Below V2.heap.size V2 W → Calls Try.prog 16 #[.pointer (some ⟨R, 0, none⟩)] W (fun x w' => x = .returned (.int .i64 p2) ∧ Below W.heap.size W w') from fun W hW => oAt_any R _ p2 e2 f2 W (hR2.below hW))
  have AR := Lib.hid (show ∀ W : World, Below V2.heap.size V2 W → Calls Try.prog 34 #[.pointer (some ⟨S, 0, none⟩)] W (fun x w' => x = .returned (.int .i64 p2) ∧ Below W.heap.size W w') from fun W hW => rAt_any S _ p2 e2 f2 W (hS2.below hW))
  have FO := Lib.hid (show ∀ W : World, Below V2.heap.size V2 W → Calls Try.prog 19 #[.pointer (some ⟨R, 0, none⟩)] W (fun x w' => x = .returned (.agg #[.int .i64 e2, .int .i64 f2]) ∧ Below W.heap.size W w') from fun W hW => oFault_any R _ p2 e2 f2 W (hR2.below hW))
  have FR := Lib.hid (show ∀ W : World, Below V2.heap.size V2 W → Calls Try.prog 36 #[.pointer (some ⟨S, 0, none⟩)] W (fun x w' => x = .returned (.agg #[.int .i64 e2, .int .i64 f2]) ∧ Below W.heap.size W w') from fun W hW => rFault_any S _ p2 e2 f2 W (hS2.below hW))
  clear hL
  clear cY0 cY1 bY
  refine wp_region_quiet_below (by kernel_rfl) (by kernel_rfl) ?_
  repeat (go_big_quiet_step (first
    | (go_at_call 16; exact Calls.regrown_of (AO.out _ (by repeat (first | with_reducible refine blg ?_ _ _ | with_reducible refine bla ?_ _ | with_reducible exact Below.refl _ _))))
    | (go_at_call 34; exact Calls.regrown_of (AR.out _ (by repeat (first | with_reducible refine blg ?_ _ _ | with_reducible refine bla ?_ _ | with_reducible exact Below.refl _ _))))
    | (go_at_call 17; exact Calls.regrown_of (LO.out _ (by repeat (first | with_reducible refine blg ?_ _ _ | with_reducible refine bla ?_ _ | with_reducible exact Below.refl _ _))))
    | (go_at_call 35; exact Calls.regrown_of (LR.out _ (by repeat (first | with_reducible refine blg ?_ _ _ | with_reducible refine bla ?_ _ | with_reducible exact Below.refl _ _))))
    | (go_at_call 19; exact Calls.regrown_of (FO.out _ (by repeat (first | with_reducible refine blg ?_ _ _ | with_reducible refine bla ?_ _ | with_reducible exact Below.refl _ _))))
    | (go_at_call 36; exact Calls.regrown_of (FR.out _ (by repeat (first | with_reducible refine blg ?_ _ _ | with_reducible refine bla ?_ _ | with_reducible exact Below.refl _ _))))))
  refine wpQuiet_nil ?_
  rintro _ ⟨⟨d4, o4⟩, rfl⟩
  have hb9 : Below V2.heap.size V2 (grow (redrawn V2 d4) o4) := below_regrown V2 d4 o4
  go_wp2
  go_ret
  obtain ⟨hp2, he2, hf2⟩ := hpH.out
  subst hp2 he2 hf2
  exact ⟨rfl, hR2.below hb9, hS2.below hb9, hK2.trans (Keep2.of hb9)⟩

set_option maxRecDepth 100000 in
set_option maxHeartbeats 2000000 in
theorem bothI64_any (R S : Nat) (a1 a2 : Option Addr) (m c1 c2 p : Nat) (e fa n : Int) (f : Nat → Int) (w : World)
    (hR : CellsAt w R 55 (rdr (.slice a1 m c1) p e fa)) (hS : CellsAt w S 57 (rdr (.slice a2 m c2) p e fa)) (hb1 : Rd8 w a1 m f) (hb2 : Rd8 w a2 m f)
    (n1 : ∀ b, a1 = some b → b.block ≠ R ∧ b.block ≠ S) (n2 : ∀ b, a2 = some b → b.block ≠ R ∧ b.block ≠ S) (hRS : R ≠ S) (hz : a2 = none → c2 = 0 ∧ m = 0) (hc1 : m ≤ c1) (hc2 : m ≤ c2) (hm : m ≤ 100000) (hp : p ≤ m) :
    Calls Try.prog 10 #[.agg #[.pointer (some ⟨R, 0, none⟩), .pointer (some ⟨S, 0, none⟩)], .agg #[.int .i64 2, .int .i64 n]] w fun x w' => x = .returned (.bool true) ∧ CellsAt w' R 55 (rdr (.slice a1 m c1) (nP e m p 8) (nE e m p 8) (nF fa e m p 8)) ∧ CellsAt w' S 57 (rdr (.slice a2 m c2) (nP e m p 8) (nE e m p 8) (nF fa e m p 8)) ∧ Keep2 R S w w'  := by
  go_enter Try.func10, Try.ntmps10
  go_wp2_with fail

  have hB0 : Below w.heap.size w ((w.alloc (.cells #[.pointer (some ⟨R, 0, none⟩), .pointer (some ⟨S, 0, none⟩)] 30)).alloc (.cells #[.int .i64 2, .int .i64 n] 33)) := bl2 _ _ _
  have bX : CellsAt ((w.alloc (.cells #[.pointer (some ⟨R, 0, none⟩), .pointer (some ⟨S, 0, none⟩)] 30)).alloc (.cells #[.int .i64 2, .int .i64 n] 33)) w.heap.size 30 #[.pointer (some ⟨R, 0, none⟩), .pointer (some ⟨S, 0, none⟩)] := (Below.heap_alloc _ _ _ (by simp)).trans (World.alloc_heap_new w _)
  have bY : CellsAt ((w.alloc (.cells #[.pointer (some ⟨R, 0, none⟩), .pointer (some ⟨S, 0, none⟩)] 30)).alloc (.cells #[.int .i64 2, .int .i64 n] 33)) (w.heap.size + 1) 33 #[.int .i64 2, .int .i64 n] := by
    have := World.alloc_heap_new (w.alloc (.cells #[.pointer (some ⟨R, 0, none⟩), .pointer (some ⟨S, 0, none⟩)] 30)) (.cells #[.int .i64 2, .int .i64 n] 33)
    rwa [World.size_alloc] at this
  have xR := hR.lt
  have xS := hS.lt
  have yR : w.heap.size ≠ R ∧ w.heap.size ≠ S ∧ w.heap.size + 1 ≠ R ∧ w.heap.size + 1 ≠ S := by omega
  have hR1 := hR.below hB0
  have hS1 := hS.below hB0
  have hb11 := rd8_below hb1 hB0
  have hb21 := rd8_below hb2 hB0
  have hK1 : Keep2 R S w ((w.alloc (.cells #[.pointer (some ⟨R, 0, none⟩), .pointer (some ⟨S, 0, none⟩)] 30)).alloc (.cells #[.int .i64 2, .int .i64 n] 33)) := Keep2.of hB0
  clear hB0 xR xS hR hS hb1 hb2
  obtain ⟨Bx, hBx⟩ : ∃ Bx, Bx = w.heap.size := ⟨_, rfl⟩
  obtain ⟨By, hBy⟩ : ∃ By, By = w.heap.size + 1 := ⟨_, rfl⟩
  simp only [← hBy] at bY yR ⊢
  simp only [← hBx] at bX yR ⊢
  clear hBx hBy
  generalize (w.alloc (.cells #[.pointer (some ⟨R, 0, none⟩), .pointer (some ⟨S, 0, none⟩)] 30)).alloc (.cells #[.int .i64 2, .int .i64 n] 33) = V at bX bY hR1 hS1 hb11 hb21 hK1 ⊢
  have cX0 : V.cell? ⟨Bx, 0, none⟩ = some (.pointer (some ⟨R, 0, none⟩)) := bX.cell 0
  have cX1 : V.cell? ⟨Bx, 1, none⟩ = some (.pointer (some ⟨S, 0, none⟩)) := bX.cell 1
  have cY0 : V.cell? ⟨By, 0, none⟩ = some (.int .i64 2) := bY.cell 0
  have cY1 : V.cell? ⟨By, 1, none⟩ = some (.int .i64 n) := bY.cell 1

  obtain ⟨Z, hZ⟩ : ∃ Z, Z = (if good e m p 8 = true then lw (fun i => f (p + i)) 8 else 0) := ⟨_, rfl⟩
  have CO := Lib.hid (show ∀ W : World, W.heap = V.heap → Calls Try.prog 14 #[.pointer (some ⟨R, 0, none⟩)] W (fun x w' => x = .returned (.int .i64 Z) ∧ CellsAt w' R 55 (rdr (.slice a1 m c1) (nP e m p 8) (nE e m p 8) (nF fa e m p 8)) ∧ W.grownBy w' (some R)) from fun W hW => by rw [hZ]; exact oI64_any R a1 m c1 p e fa f W (by unfold CellsAt; rw [hW]; exact hR1) (fun i hi => by obtain ⟨b, h1, h2, h3, h4⟩ := hb11 i hi; exact ⟨b, h1, by rw [hW]; exact h2, by unfold World.cell?; rw [hW]; exact h3, h4⟩) (fun b hb => (n1 b hb).1) hc1 hm hp)
  have CR := Lib.hid (show ∀ W : World, Keep2 R R V W → Calls Try.prog 30 #[.pointer (some ⟨S, 0, none⟩)] W (fun x w' => x = .returned (.int .i64 Z) ∧ CellsAt w' S 57 (rdr (.slice a2 m c2) (nP e m p 8) (nE e m p 8) (nF fa e m p 8)) ∧ W.grownBy w' (some S)) from fun W hW => by rw [hZ]; exact rI64_any S a2 m c2 p e fa f W (hS1.keep2 hW (Ne.symm hRS) (Ne.symm hRS)) (hW.rd8 hb21 (fun b hb => ⟨(n2 b hb).1, (n2 b hb).1⟩)) (fun b hb => (n2 b hb).2) hz hc2 hm hp)
  clear hZ
  go_wp2_with fail
  go_region_held3 (fun w' => w'.cell? ⟨Bx, 0, none⟩ = some (.pointer (some ⟨R, 0, none⟩)) ∧ w'.cell? ⟨Bx, 1, none⟩ = some (.pointer (some ⟨S, 0, none⟩)))
    (first | exact ⟨cX0, cX1⟩ | exact ⟨dX0, dX1⟩ | exact ⟨eX0, eX1⟩)
    (first
      | (go_at_call 14; refine (CO.out V.drew rfl).mono ?_; clear CO; rintro x W1 ⟨rfl, hR2, hg1⟩; have hgV : V.grownBy W1 (some R) := ⟨hg1.os, hg1.tape, hg1.output, hg1.size, hg1.block⟩; have kRR : Keep2 R R V W1 := Keep2.left hgV; have bX1 := bX.grown hgV (by simp; omega); have dX0 : W1.cell? ⟨Bx, 0, none⟩ = some (.pointer (some ⟨R, 0, none⟩)) := bX1.cell 0; have dX1 : W1.cell? ⟨Bx, 1, none⟩ = some (.pointer (some ⟨S, 0, none⟩)) := bX1.cell 1)
      | (go_at_call 30; refine (CR.out _ kRR).mono ?_; clear CR; rintro x V2 ⟨rfl, hS2, hg2⟩; have hgW : W1.grownBy V2 (some S) := ⟨hg2.os, hg2.tape, hg2.output, hg2.size, hg2.block⟩; have bX2 := bX1.grown hgW (by simp; omega); have eX0 : V2.cell? ⟨Bx, 0, none⟩ = some (.pointer (some ⟨R, 0, none⟩)) := bX2.cell 0; have eX1 : V2.cell? ⟨Bx, 1, none⟩ = some (.pointer (some ⟨S, 0, none⟩)) := bX2.cell 1))
  have hK2 : Keep2 R S w V2 := (hK1.trans (Keep2.left hgV)).trans (Keep2.right hgW)
  have hR3 := hR2
  clear hR2
  have hR2 := hR3.grown hgW (by simp; omega)
  go_wp2_with fail

  have cX0 : V2.cell? ⟨Bx, 0, none⟩ = some (.pointer (some ⟨R, 0, none⟩)) := bX2.cell 0
  have cX1 : V2.cell? ⟨Bx, 1, none⟩ = some (.pointer (some ⟨S, 0, none⟩)) := bX2.cell 1
  have kX : Has V2 Bx := bX2.lt
  obtain ⟨p2, hp2⟩ : ∃ p2 : Nat, p2 = nP e m p 8 := ⟨_, rfl⟩
  obtain ⟨e2, he2⟩ : ∃ e2 : Int, e2 = nE e m p 8 := ⟨_, rfl⟩
  obtain ⟨f2, hf2⟩ : ∃ f2 : Int, f2 = nF fa e m p 8 := ⟨_, rfl⟩
  rw [← hp2, ← he2, ← hf2] at hR2 hS2
  have hpm : p2 ≤ m := (by rw [hp2]; exact nP_le hp)
  have hpH := Lib.hid (And.intro hp2 (And.intro he2 hf2))
  clear hp2 he2 hf2
  obtain ⟨L, hL⟩ : ∃ L, L = leftV e2 m p2 := ⟨_, rfl⟩
  have LO := Lib.hid (show ∀ W : World, Below V2.heap.size V2 W → Calls Try.prog 17 #[.pointer (some ⟨R, 0, none⟩)] W (fun x w' => x = .returned (.int .i64 L) ∧ Below W.heap.size W w') from fun W hW => by rw [hL]; exact oLeft_any R a1 m c1 p2 e2 f2 W (hR2.below hW) hm hpm)
  have LR := Lib.hid (show ∀ W : World, Below V2.heap.size V2 W → Calls Try.prog 35 #[.pointer (some ⟨S, 0, none⟩)] W (fun x w' => x = .returned (.int .i64 L) ∧ Below W.heap.size W w') from fun W hW => by rw [hL]; exact rLeft_any S a2 m c2 p2 e2 f2 W (hS2.below hW) hm hpm)
  have AO := Lib.hid (show ∀ W : World, Below V2.heap.size V2 W → Calls Try.prog 16 #[.pointer (some ⟨R, 0, none⟩)] W (fun x w' => x = .returned (.int .i64 p2) ∧ Below W.heap.size W w') from fun W hW => oAt_any R _ p2 e2 f2 W (hR2.below hW))
  have AR := Lib.hid (show ∀ W : World, Below V2.heap.size V2 W → Calls Try.prog 34 #[.pointer (some ⟨S, 0, none⟩)] W (fun x w' => x = .returned (.int .i64 p2) ∧ Below W.heap.size W w') from fun W hW => rAt_any S _ p2 e2 f2 W (hS2.below hW))
  have FO := Lib.hid (show ∀ W : World, Below V2.heap.size V2 W → Calls Try.prog 19 #[.pointer (some ⟨R, 0, none⟩)] W (fun x w' => x = .returned (.agg #[.int .i64 e2, .int .i64 f2]) ∧ Below W.heap.size W w') from fun W hW => oFault_any R _ p2 e2 f2 W (hR2.below hW))
  have FR := Lib.hid (show ∀ W : World, Below V2.heap.size V2 W → Calls Try.prog 36 #[.pointer (some ⟨S, 0, none⟩)] W (fun x w' => x = .returned (.agg #[.int .i64 e2, .int .i64 f2]) ∧ Below W.heap.size W w') from fun W hW => rFault_any S _ p2 e2 f2 W (hS2.below hW))
  clear hL
  clear cY0 cY1 bY
  refine wp_region_quiet_below (by kernel_rfl) (by kernel_rfl) ?_
  repeat (go_big_quiet_step (first
    | (go_at_call 16; exact Calls.regrown_of (AO.out _ (by repeat (first | with_reducible refine blg ?_ _ _ | with_reducible refine bla ?_ _ | with_reducible exact Below.refl _ _))))
    | (go_at_call 34; exact Calls.regrown_of (AR.out _ (by repeat (first | with_reducible refine blg ?_ _ _ | with_reducible refine bla ?_ _ | with_reducible exact Below.refl _ _))))
    | (go_at_call 17; exact Calls.regrown_of (LO.out _ (by repeat (first | with_reducible refine blg ?_ _ _ | with_reducible refine bla ?_ _ | with_reducible exact Below.refl _ _))))
    | (go_at_call 35; exact Calls.regrown_of (LR.out _ (by repeat (first | with_reducible refine blg ?_ _ _ | with_reducible refine bla ?_ _ | with_reducible exact Below.refl _ _))))
    | (go_at_call 19; exact Calls.regrown_of (FO.out _ (by repeat (first | with_reducible refine blg ?_ _ _ | with_reducible refine bla ?_ _ | with_reducible exact Below.refl _ _))))
    | (go_at_call 36; exact Calls.regrown_of (FR.out _ (by repeat (first | with_reducible refine blg ?_ _ _ | with_reducible refine bla ?_ _ | with_reducible exact Below.refl _ _))))))
  refine wpQuiet_nil ?_
  rintro _ ⟨⟨d4, o4⟩, rfl⟩
  have hb9 : Below V2.heap.size V2 (grow (redrawn V2 d4) o4) := below_regrown V2 d4 o4
  go_wp2
  go_ret
  obtain ⟨hp2, he2, hf2⟩ := hpH.out
  subst hp2 he2 hf2
  exact ⟨rfl, hR2.below hb9, hS2.below hb9, hK2.trans (Keep2.of hb9)⟩
end Go.Proofs.Ytccgpjhfgmonpaa
