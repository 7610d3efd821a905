/- Package edges: what must be whatever is asked. -/
import Derived.Test.YtfaddlpemhifpaaEd15
namespace Go.Proofs.Ytfaddlpemhifpaa
open Go.RowKit Go.Sort
set_option linter.unusedVariables false
set_option linter.unusedSimpArgs false

theorem rdN_new' (W : World) (x y z : Int) (B : Nat) (hB : B = W.heap.size) : RdN (W.alloc (.cells #[.int .i64 x, .int .i64 y, .int .i64 z] 3)) (some ⟨B, 0, none⟩) [x, y, z] := by
  subst hB; exact rdN_new W x y z
set_option maxRecDepth 100000 in
set_option maxHeartbeats 8000000 in
theorem live_any (w : World) : Calls Try.prog 9 #[] w fun e w' => e = .returned (.bool true) ∧ Below w.heap.size w w' := by
  go_enter Try.func9, Try.ntmps9
  go_wp2_with fail
  obtain ⟨W0, hW0⟩ : ∃ W0, W0 = (w.alloc (.cells #[.int .i64 1, .int .i64 2, .int .i64 5, .int .i64 0, .int .i64 0, .int .i64 1, .int .i64 1, .int .i64 2, .int .i64 3] 41)).alloc (.cells #[.int .i64 3, .slice (some ⟨w.heap.size, 0, none⟩) 3 3] 24) := ⟨_, rfl⟩
  have hR0 : RdE W0 (some ⟨w.heap.size, 0, none⟩) lst := by rw [hW0]; exact (rdE_lst w).below (bl1 _ _)
  have hG0 : CellsAt W0 (w.heap.size + 1) 24 #[.int .i64 3, .slice (some ⟨w.heap.size, 0, none⟩) 3 3] := by
    have h1 : CellsAt ((w.alloc (.cells #[.int .i64 1, .int .i64 2, .int .i64 5, .int .i64 0, .int .i64 0, .int .i64 1, .int .i64 1, .int .i64 2, .int .i64 3] 41)).alloc (.cells #[.int .i64 3, .slice (some ⟨w.heap.size, 0, none⟩) 3 3] 24)) (w.alloc (.cells #[.int .i64 1, .int .i64 2, .int .i64 5, .int .i64 0, .int .i64 0, .int .i64 1, .int .i64 1, .int .i64 2, .int .i64 3] 41)).heap.size 24 #[.int .i64 3, .slice (some ⟨w.heap.size, 0, none⟩) 3 3] := World.alloc_heap_new _ _
    rw [World.size_alloc] at h1
    rw [hW0]; exact h1
  have hB0 : Below w.heap.size w W0 := by rw [hW0]; exact bl2 _ _ _
  rw [← hW0]
  clear hW0
  generalize w.heap.size + 1 = G1 at hG0 ⊢
  obtain ⟨p, hp⟩ : ∃ p : Addr, p = ⟨w.heap.size, 0, none⟩ := ⟨_, rfl⟩
  rw [← hp] at hR0 hG0 ⊢
  clear hp
  have HC0 := Lib.hid (lv_canon p W0 hR0)
  refine HC0.out.mono ?_
  rintro x w1 ⟨b2, c2, rfl, hR2, hb1⟩
  have hG1 := hG0.below hb1
  have hR1 := hR0.below hb1
  have hB1 := hB0.trans (hb1.mono hB0.size)
  clear hb1 hG0 hR0 hB0 HC0
  have y0 : w1.cell? ⟨G1, 0, none⟩ = some (.int .i64 3) := hG1.cell 0
  have y1 : w1.cell? ⟨G1, 1, none⟩ = some (.slice (some p) 3 3) := hG1.cell 1
  have yk := Has.of hG1.lt
  obtain ⟨V, hV⟩ : ∃ V, V = w1.alloc (.cells #[.int .i64 3, .slice (some b2) 2 c2] 24) := ⟨_, rfl⟩
  have hbV : Below w1.heap.size w1 V := by rw [hV]; exact bl1 _ _
  have hG2 : CellsAt V w1.heap.size 24 #[.int .i64 3, .slice (some b2) 2 c2] := by rw [hV]; exact World.alloc_heap_new _ _
  have hG1 := hG1.below hbV
  have hR1 := hR1.below hbV
  have hR2 := hR2.below hbV
  have hB1 := hB1.trans (hbV.mono hB1.size)
  have hVe := Lib.hid hV
  clear hV hbV
  have g1c0 : V.cell? ⟨G1, 0, none⟩ = some (.int .i64 3) := hG1.cell 0
  have g1c1 : V.cell? ⟨G1, 1, none⟩ = some (.slice (some p) 3 3) := hG1.cell 1
  have g2c0 : V.cell? ⟨w1.heap.size, 0, none⟩ = some (.int .i64 3) := hG2.cell 0
  have g2c1 : V.cell? ⟨w1.heap.size, 1, none⟩ = some (.slice (some b2) 2 c2) := hG2.cell 1
  have kG1 := Has.of hG1.lt
  have kG2 := Has.of hG2.lt
  obtain ⟨bb2, hbb, hbl2, e0, e1, e2⟩ := hR2 1 (by decide)
  obtain rfl := Option.some.inj hbb
  have kb2 := Has.of hbl2
  have e2' : V.cell? ⟨b2.block, b2.off + 3 + 2, none⟩ = some (.int .i64 3) := e2
  clear e0 e1 e2 hbb
  have HC1 := Lib.hid (fun W (hb : Below V.heap.size V W) => lv_comb p W (hR1.below hb))
  go_wp2_with fail
  rw [← hVe.out]
  clear y0 y1 yk
  obtain ⟨g2, hg2⟩ : ∃ g2, g2 = w1.heap.size := ⟨_, rfl⟩
  rw [← hg2] at g2c0 g2c1 kG2 ⊢
  rw [← hg2] at hG2
  clear hVe hg2
  refine (HC1.out V (Below.refl _ _)).mono ?_
  rintro x U ⟨b6, c6, rfl, hb6, z6, hb1⟩
  clear HC1 g1c0 g1c1 g2c0 g2c1 kG1 kG2 e2' kb2 hbl2
  have hG1 := hG1.below hb1
  have hG2 := hG2.below hb1
  have hR1 := hR1.below hb1
  have hR2 := hR2.below hb1
  have hB1 := hB1.trans (hb1.mono hB1.size)
  have g1c0 : U.cell? ⟨G1, 0, none⟩ = some (.int .i64 3) := hG1.cell 0
  have g1c1 : U.cell? ⟨G1, 1, none⟩ = some (.slice (some p) 3 3) := hG1.cell 1
  have g2c0 : U.cell? ⟨g2, 0, none⟩ = some (.int .i64 3) := hG2.cell 0
  have g2c1 : U.cell? ⟨g2, 1, none⟩ = some (.slice (some b2) 2 c2) := hG2.cell 1
  have kG1 := Has.of hG1.lt
  have kG2 := Has.of hG2.lt
  have kb6 := Has.of hb6
  obtain ⟨bb2, hbb, hbl2, e0, e1, e2⟩ := hR2 1 (by decide)
  obtain rfl := Option.some.inj hbb
  have kb2 := Has.of hbl2
  have e2' : U.cell? ⟨b2.block, b2.off + 3 + 2, none⟩ = some (.int .i64 3) := e2
  clear e0 e1 e2 hbb
  have HC2 := Lib.hid (fun W (hb : Below U.heap.size U W) => lv_comb0 W)
  have HC3 := Lib.hid (fun W (hb : Below U.heap.size U W) => lv_right p W (hR1.below hb))
  have HC4 := Lib.hid (fun W (hb : Below U.heap.size U W) => lv_right1 W)
  have HC5 := Lib.hid (fun W (hb : Below U.heap.size U W) => lv_turn p W (hR1.below hb))
  have HC6 := Lib.hid (fun W (hb : Below U.heap.size U W) => lv_both p W (hR1.below hb))
  have HC7 := Lib.hid (fun W (hb : Below U.heap.size U W) => lv_simple p W (hR1.below hb))
  have HC8 := Lib.hid (fun W (hb : Below U.heap.size U W) => lv_plain p W (hR1.below hb))
  have HC9 := Lib.hid (fun W (hb : Below U.heap.size U W) => lv_lower p W (hR1.below hb))
  have HC10 := Lib.hid (fun W (hb : Below U.heap.size U W) => lv_outs p W (hR1.below hb))
  have HC11 := Lib.hid (fun W (hb : Below U.heap.size U W) => lv_ins p W (hR1.below hb))
  have HC12 := Lib.hid (fun W (hb : Below U.heap.size U W) => lv_same b2 c2 W (hR2.below hb))
  have HC13 := Lib.hid (fun W (hb : Below U.heap.size U W) => lv_differ b2 p c2 W (hR2.below hb) (hR1.below hb))
  have HC14 := Lib.hid (fun W (hb : Below U.heap.size U W) => lv_rises b2 c2 W (hR2.below hb))
  clear hb1 hG1 hG2 hR1 hR2
  go_wp2_with fail
  refine (HC2.out _ ((by repeat (first | with_reducible refine blg ?_ _ _ | with_reducible refine bla ?_ _ | with_reducible exact Below.refl _ _)))).mono ?_
  rintro x w1 ⟨a7, c7, rfl, hb1⟩
  obtain ⟨⟨d2, o2⟩, rfl⟩ := regrown_of_below hb1
  clear hb1
  go_wp2_with fail
  refine (HC3.out _ ((by repeat (first | with_reducible refine blg ?_ _ _ | with_reducible refine bla ?_ _ | with_reducible exact Below.refl _ _)))).mono ?_
  rintro x w1 ⟨rfl, hb1⟩
  obtain ⟨⟨d3, o3⟩, rfl⟩ := regrown_of_below hb1
  clear hb1
  go_wp2_with fail
  refine (HC4.out _ ((by repeat (first | with_reducible refine blg ?_ _ _ | with_reducible refine bla ?_ _ | with_reducible exact Below.refl _ _)))).mono ?_
  rintro x w1 ⟨rfl, hb1⟩
  obtain ⟨⟨d4, o4⟩, rfl⟩ := regrown_of_below hb1
  clear hb1
  go_wp2_with fail
  refine (HC5.out _ ((by repeat (first | with_reducible refine blg ?_ _ _ | with_reducible refine bla ?_ _ | with_reducible exact Below.refl _ _)))).mono ?_
  rintro x w1 ⟨b8, c8, rfl, hb8, z5, hb1⟩
  obtain ⟨⟨d5, o5⟩, rfl⟩ := regrown_of_below hb1
  clear hb1
  simp only [gr_gr, Array.append_assoc] at z5
  go_wp2_with fail
  refine (HC6.out _ ((by repeat (first | with_reducible refine blg ?_ _ _ | with_reducible refine bla ?_ _ | with_reducible exact Below.refl _ _)))).mono ?_
  rintro x w1 ⟨a9, c9, rfl, hb1⟩
  obtain ⟨⟨d6, o6⟩, rfl⟩ := regrown_of_below hb1
  clear hb1
  go_wp2_with fail
  refine (HC7.out _ ((by repeat (first | with_reducible refine blg ?_ _ _ | with_reducible refine bla ?_ _ | with_reducible exact Below.refl _ _)))).mono ?_
  rintro x w1 ⟨a10, c10, rfl, hb1⟩
  obtain ⟨⟨d7, o7⟩, rfl⟩ := regrown_of_below hb1
  clear hb1
  go_wp2_with fail
  refine (HC8.out _ ((by repeat (first | with_reducible refine blg ?_ _ _ | with_reducible refine bla ?_ _ | with_reducible exact Below.refl _ _)))).mono ?_
  rintro x w1 ⟨b11, c11, rfl, hb11, z8, hb1⟩
  obtain ⟨⟨d8, o8⟩, rfl⟩ := regrown_of_below hb1
  clear hb1
  simp only [gr_gr, Array.append_assoc] at z8
  go_wp2_with fail
  refine (HC9.out _ ((by repeat (first | with_reducible refine blg ?_ _ _ | with_reducible refine bla ?_ _ | with_reducible exact Below.refl _ _)))).mono ?_
  rintro x w1 ⟨a12, c12, rfl, hb1⟩
  obtain ⟨⟨d9, o9⟩, rfl⟩ := regrown_of_below hb1
  clear hb1
  go_wp2_with fail
  refine (HC10.out _ ((by repeat (first | with_reducible refine blg ?_ _ _ | with_reducible refine bla ?_ _ | with_reducible exact Below.refl _ _)))).mono ?_
  rintro x w1 ⟨a13, c13, rfl, hN13, hb1⟩
  obtain ⟨⟨d10, o10⟩, rfl⟩ := regrown_of_below hb1
  clear hb1
  simp only [gr_gr, Array.append_assoc] at hN13
  go_wp2_with fail
  refine (lv_sameInts a13 _ 1 2 0 c13 _ (hN13.below (bl1 _ _)) (rdN_new' _ 1 2 0 _ (by simp [grow, redrawn, Nat.add_assoc]))).mono ?_
  rintro x w1 ⟨rfl, hb1⟩
  obtain ⟨⟨e13, q13⟩, rfl⟩ := regrown_of_below hb1
  clear hb1
  go_wp2_with fail
  refine (HC11.out _ ((by repeat (first | with_reducible refine blg ?_ _ _ | with_reducible refine bla ?_ _ | with_reducible exact Below.refl _ _)))).mono ?_
  rintro x w1 ⟨a14, c14, rfl, hN14, hb1⟩
  obtain ⟨⟨d11, o11⟩, rfl⟩ := regrown_of_below hb1
  clear hb1
  simp only [gr_gr, Array.append_assoc] at hN14
  go_wp2_with fail
  refine (lv_sameInts a14 _ 1 0 2 c14 _ (hN14.below (bl1 _ _)) (rdN_new' _ 1 0 2 _ (by simp [grow, redrawn, Nat.add_assoc]))).mono ?_
  rintro x w1 ⟨rfl, hb1⟩
  obtain ⟨⟨e14, q14⟩, rfl⟩ := regrown_of_below hb1
  clear hb1
  go_wp2_with fail
  refine (HC12.out _ ((by repeat (first | with_reducible refine blg ?_ _ _ | with_reducible refine bla ?_ _ | with_reducible exact Below.refl _ _)))).mono ?_
  rintro x w1 ⟨rfl, hb1⟩
  obtain ⟨⟨d12, o12⟩, rfl⟩ := regrown_of_below hb1
  clear hb1
  go_wp2_with fail
  refine (HC13.out _ ((by repeat (first | with_reducible refine blg ?_ _ _ | with_reducible refine bla ?_ _ | with_reducible exact Below.refl _ _)))).mono ?_
  rintro x w1 ⟨rfl, hb1⟩
  obtain ⟨⟨d13, o13⟩, rfl⟩ := regrown_of_below hb1
  clear hb1
  go_wp2_with fail
  refine (HC14.out _ ((by repeat (first | with_reducible refine blg ?_ _ _ | with_reducible refine bla ?_ _ | with_reducible exact Below.refl _ _)))).mono ?_
  rintro x w1 ⟨rfl, hb1⟩
  obtain ⟨⟨d14, o14⟩, rfl⟩ := regrown_of_below hb1
  clear hb1
  go_wp2_with fail
  go_ret
  refine ⟨rfl, hB1.trans (Below.mono ?_ hB1.size)⟩
  exact (by repeat (first | with_reducible refine blg ?_ _ _ | with_reducible refine bla ?_ _ | with_reducible exact Below.refl _ _))
end Go.Proofs.Ytfaddlpemhifpaa
