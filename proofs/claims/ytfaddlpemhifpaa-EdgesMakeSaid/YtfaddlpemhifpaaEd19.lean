/- Package edges: the statement EdgesMake. -/
import Derived.Deep.RegionHeld3
import Derived.Test.YtfaddlpemhifpaaEd18
namespace Go.Proofs.Ytfaddlpemhifpaa
open Go.RowKit Go.Sort
set_option linter.unusedVariables false
set_option linter.unusedSimpArgs false

set_option maxRecDepth 100000 in
set_option maxHeartbeats 4000000 in
theorem edgesMake_law (HL : ∀ W : World, Calls Try.prog 9 #[] W fun e w' => e = .returned (.bool true) ∧ Below W.heap.size W w') (n : Int) (a : Option Addr) (l : List Ed) (c : Nat) (w : World) (hn : In64 n) (hC : Came w a l c) :
    Calls Try.prog 4 #[GV n a l.length c] w fun e w' => e = .returned (.bool true) ∧ Below w.heap.size w w' := by
  have HF := Lib.hid (fun W => few_any n a l c W hC.2.2.1 hC.2.2.2.1 hC.2.2.2.2)
  have HC := Lib.hid hC
  clear hC
  go_enter Try.func4, Try.ntmps4
  go_wp2_with fail
  refine (HF.out _).mono ?_
  rintro x w1 ⟨rfl, hb1⟩
  have hX0 : CellsAt (w.alloc (.cells #[.int .i64 n, .slice a l.length c] 24)) w.heap.size 24 #[.int .i64 n, .slice a l.length c] := World.alloc_heap_new _ _
  have hX1 := hX0.below hb1
  have hbw := (bl1 w _).trans (hb1.mono (by simp))
  have q0 : w1.cell? ⟨w.heap.size, 0, none⟩ = some (.int .i64 n) := hX1.cell 0
  have q1 : w1.cell? ⟨w.heap.size, 1, none⟩ = some (.slice a l.length c) := hX1.cell 1
  have f0 := hX1.frozen 0
  have f1 := hX1.frozen 1
  have kX := Has.of hX1.lt
  clear hX0 hb1
  obtain ⟨V, hV⟩ : ∃ V, V = (w1.setCell ⟨w.heap.size, 0, none⟩ (.int .i64 n)).setCell ⟨w.heap.size, 1, none⟩ (.slice a (few l).length c) := ⟨_, rfl⟩
  have hXV : CellsAt V w.heap.size 24 #[.int .i64 n, .slice a (few l).length c] := by
    rw [hV]; simpa using (hX1.set 0 (.int .i64 n)).set 1 (.slice a (few l).length c)
  have hbV : Below w.heap.size w V := by rw [hV]; exact bls (bls hbw (Nat.le_refl _) _) (Nat.le_refl _) _
  have hG := gd_new w n a l c V HC.out hXV hbV
  have hVh := Lib.hid hV
  clear hV hX1 hXV hbV hbw
  generalize few l = m at hG hVh HF ⊢
  generalize w.heap.size = X at hG q0 q1 f0 f1 kX hVh ⊢
  go_wp2_with fail
  rw [← hVh.out]
  clear hVh q0 q1 f0 f1 kX HF HC
  obtain ⟨e0, e1⟩ := hG.two
  go_region_held3 (fun w' => w'.cell? ⟨X, 0, none⟩ = some (.int .i64 n) ∧ w'.cell? ⟨X, 1, none⟩ = some (.slice a m.length c))
    (first | exact ⟨e0, e1⟩ | (simp only [World.cell?_drew]; exact ⟨e0, e1⟩) | exact hG19.two | exact hG18.two | exact hG17.two | exact hG16.two | exact hG15.two | exact hG14.two | exact hG13.two | exact hG12.two | exact hG11.two | exact hG10.two | exact hG9.two | exact hG8.two | exact hG7.two | exact hG6.two | exact hG5.two | exact hG4.two | exact hG3.two | exact hG2.two | exact hG1.two)
    (first
      | (go_at_call 9; refine (HL _).mono ?_; rintro x L ⟨rfl, hb⟩; have hG1 := hG.below (Below.trans (Below.refl _ V).drew hb); clear hb)
      | (go_at_call 18; refine (p_canon n a m c _ hG1.ou hG1.ins (by have := hG1.len; omega)).mono ?_; rintro x L ⟨a1, c1, rfl, hO1, hb⟩; have hG2 := hG1.below hb; clear hb)
      | (go_at_call 19; refine (r_canon n a m c _ hG2.ou hG2.ins (by have := hG2.len; omega)).mono ?_; rintro x L ⟨b1, d1, rfl, hP1, hb⟩; have hG3 := hG2.below hb; replace hO1 := hO1.below hb; clear hb)
      | (go_at_call 17; refine (refSame_t n a1 b1 (mC m) c1 d1 _ hO1 hP1 (by have := hG3.len; have := mC_len m; omega)).mono ?_; rintro x L ⟨rfl, hb⟩; have hG4 := hG3.below hb; clear hb hO1 hP1 hG2 hG3)
      | (go_at_call 20; refine (p_turn n a m c _ hG4.ou hG4.ins (by have := hG4.len; omega)).mono ?_; rintro x L ⟨a4, c4, rfl, hO4, hb⟩; have hG5 := hG4.below hb; clear hb)
      | (go_at_call 21; refine (r_turn n a m c _ hG5.ou hG5.ins (by have := hG5.len; omega)).mono ?_; rintro x L ⟨b4, d4, rfl, hP4, hb⟩; have hG6 := hG5.below hb; replace hO4 := hO4.below hb; clear hb)
      | (go_at_call 17; refine (refSame_t n a4 b4 (mT m) c4 d4 _ hO4 hP4 (by have := hG6.len; have := mT_len m; omega)).mono ?_; rintro x L ⟨rfl, hb⟩; have hG7 := hG6.below hb; clear hb hO4 hP4 hG5 hG6)
      | (go_at_call 22; refine (p_both n a m c _ hG7.ou hG7.ins (by have := hG7.len; omega)).mono ?_; rintro x L ⟨a7, c7, rfl, hO7, hb⟩; have hG8 := hG7.below hb; clear hb)
      | (go_at_call 23; refine (r_both n a m c _ hG8.ou hG8.ins (by have := hG8.len; omega)).mono ?_; rintro x L ⟨b7, d7, rfl, hP7, hb⟩; have hG9 := hG8.below hb; replace hO7 := hO7.below hb; clear hb)
      | (go_at_call 17; refine (refSame_t n a7 b7 (mB m) c7 d7 _ hO7 hP7 (by have := hG9.len; have := mB_len m; omega)).mono ?_; rintro x L ⟨rfl, hb⟩; have hG10 := hG9.below hb; clear hb hO7 hP7 hG8 hG9)
      | (go_at_call 24; refine (p_simple n a m c _ hG10.ou hG10.ins (by have := hG10.len; omega)).mono ?_; rintro x L ⟨a10, c10, rfl, hO10, hb⟩; have hG11 := hG10.below hb; clear hb)
      | (go_at_call 25; refine (r_simple n a m c _ hG11.ou hG11.ins (by have := hG11.len; omega)).mono ?_; rintro x L ⟨b10, d10, rfl, hP10, hb⟩; have hG12 := hG11.below hb; replace hO10 := hO10.below hb; clear hb)
      | (go_at_call 17; refine (refSame_t n a10 b10 (mS m) c10 d10 _ hO10 hP10 (by have := hG12.len; have := mS_len m; omega)).mono ?_; rintro x L ⟨rfl, hb⟩; have hG13 := hG12.below hb; clear hb hO10 hP10 hG11 hG12)
      | (go_at_call 26; refine (p_plain n a m c _ hG13.ou hG13.ins (by have := hG13.len; omega)).mono ?_; rintro x L ⟨a13, c13, rfl, hO13, hb⟩; have hG14 := hG13.below hb; clear hb)
      | (go_at_call 27; refine (r_plain n a m c _ hG14.ou hG14.ins (by have := hG14.len; omega)).mono ?_; rintro x L ⟨b13, d13, rfl, hP13, hb⟩; have hG15 := hG14.below hb; replace hO13 := hO13.below hb; clear hb)
      | (go_at_call 17; refine (refSame_t n a13 b13 (mP m) c13 d13 _ hO13 hP13 (by have := hG15.len; have := mP_len m; omega)).mono ?_; rintro x L ⟨rfl, hb⟩; have hG16 := hG15.below hb; clear hb hO13 hP13 hG14 hG15)
      | (go_at_call 28; refine (p_lower n a m c _ hG16.ou hG16.ins (by have := hG16.len; omega)).mono ?_; rintro x L ⟨a16, c16, rfl, hO16, hb⟩; have hG17 := hG16.below hb; clear hb)
      | (go_at_call 29; refine (r_lower n a m c _ hG17.ou hG17.ins (by have := hG17.len; omega)).mono ?_; rintro x L ⟨b16, d16, rfl, hP16, hb⟩; have hG18 := hG17.below hb; replace hO16 := hO16.below hb; clear hb)
      | (go_at_call 17; refine (refSame_t n a16 b16 (mL m) c16 d16 _ hO16 hP16 (by have := hG18.len; have := mL_len m; omega)).mono ?_; rintro x L ⟨rfl, hb⟩; have hG19 := hG18.below hb; clear hb hO16 hP16 hG17 hG18))
  go_wp2_with fail
  go_ret
  exact ⟨rfl, hG19.bel⟩
end Go.Proofs.Ytfaddlpemhifpaa
