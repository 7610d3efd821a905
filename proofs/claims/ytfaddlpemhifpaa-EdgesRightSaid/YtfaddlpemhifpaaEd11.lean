/- Package edges: Both. -/
import Derived.Deep.RegionHeld3
import Derived.Test.YtfaddlpemhifpaaEd10
namespace Go.Proofs.Ytfaddlpemhifpaa
open Go.RowKit Go.Sort
set_option linter.unusedVariables false
set_option linter.unusedSimpArgs false

set_option maxRecDepth 100000 in
set_option maxHeartbeats 2000000 in
theorem both_any (n : Int) (a : Option Addr) (l : List Ed) (c : Nat) (w : World) (hr : RdE w a l) (hz : a = none → c = 0 ∧ l.length = 0) (hI : ∀ e ∈ l ++ l.map turnE, InE e) (hl : l.length ≤ 400) :
    Calls Try.prog 22 #[GV n a l.length c] w fun e w' => ∃ a' c', e = .returned (GV n a' (canR (l ++ l.map turnE)).length c') ∧ Out w.heap.size w' a' c' (canR (l ++ l.map turnE)) ∧ Below w.heap.size w w' := by
  have HCL := Lib.hid (fun W (hb : Below w.heap.size w W) => cloneE_any a l c W (hr.below hb) hz (by omega))
  obtain ⟨k, hk⟩ : ∃ k, k = l.length := ⟨_, rfl⟩
  rw [← hk] at hl HCL hz ⊢
  have HK := Lib.hid hk
  clear hk
  generalize hR : canR (l ++ l.map turnE) = R
  have HR := Lib.hid hR
  clear hR
  go_enter Try.func22, Try.ntmps22
  go_wp2_with fail
  obtain ⟨V, hV⟩ : ∃ V, V = (w.alloc (.cells #[.int .i64 n, .slice a k c] 24)).alloc (.cells #[.int .i64 0, .slice none 0 0] 24) := ⟨_, rfl⟩
  have hbV : Below w.heap.size w V := by rw [hV]; exact bl2 _ _ _
  have hCB : CellsAt V w.heap.size 24 #[.int .i64 n, .slice a k c] := by
    have h1 : CellsAt (w.alloc (.cells #[.int .i64 n, .slice a k c] 24)) w.heap.size 24 #[.int .i64 n, .slice a k c] := World.alloc_heap_new _ _
    rw [hV]; exact h1.below (bl1 _ _)
  have hCR : CellsAt V (w.heap.size + 1) 24 #[.int .i64 0, .slice none 0 0] := by
    have h1 : CellsAt ((w.alloc (.cells #[.int .i64 n, .slice a k c] 24)).alloc (.cells #[.int .i64 0, .slice none 0 0] 24)) (w.alloc (.cells #[.int .i64 n, .slice a k c] 24)).heap.size 24 #[.int .i64 0, .slice none 0 0] := World.alloc_heap_new _ _
    rw [World.size_alloc] at h1
    rw [hV]; exact h1
  rw [← hV]
  clear hV
  have hR0 : w.heap.size ≤ w.heap.size + 1 := by omega
  generalize w.heap.size + 1 = RB at hCR hR0 ⊢
  have b0 : V.cell? ⟨w.heap.size, 0, none⟩ = some (.int .i64 n) := hCB.cell 0
  have b1 : V.cell? ⟨w.heap.size, 1, none⟩ = some (.slice a k c) := hCB.cell 1
  have hBV : w.heap.size ≠ V.heap.size := by have := hCB.lt; omega
  go_region_held3 (fun w' => w'.cell? ⟨w.heap.size, 0, none⟩ = some (.int .i64 n) ∧ w'.cell? ⟨w.heap.size, 1, none⟩ = some (.slice a k c))
    (first | exact ⟨b0, b1⟩ | exact ⟨q0, q1⟩ | exact ⟨p0 _, p1 _⟩ | exact ⟨(cells_other (cells_other hB2 hBV _ _) hBV _ _).cell 0, (cells_other (cells_other hB2 hBV _ _) hBV _ _).cell 1⟩ | exact ⟨(hCB.below (bl1 V _)).cell 0, (hCB.below (bl1 V _)).cell 1⟩ | (simp [go_sem, *]; done))
    (first
      | (go_at_call 41; refine (HCL.out _ (by first | exact hbV.drew | exact bla hbV.drew _)).mono ?_; rintro x w2 ⟨v, rfl, hown, hb2⟩; obtain ⟨a6, c6, rfl, ha6⟩ := row_slice hown; have hbW : Below V.heap.size V w2 := Below.trans (by first | exact (Below.refl _ V).drew | exact bla (Below.refl _ V).drew _) (hb2.mono (by simp)); have hB2 := hCB.below hbW; have q0 := hB2.cell 0; have q1 := hB2.cell 1; have p0 := fun X => (hB2.below (bl1 w2 X)).cell 0; have p1 := fun X => (hB2.below (bl1 w2 X)).cell 1; first | (have hG0 : CellsAt w2 V.heap.size 24 #[.int .i64 0, .slice none 0 0] := (show CellsAt (V.drew.alloc _) V.drew.heap.size _ _ from World.alloc_heap_new V.drew _).below hb2; have z0 : w2.cell? ⟨V.heap.size, 0, none⟩ = some (.int .i64 0) := hG0.cell 0; have z1 : w2.cell? ⟨V.heap.size, 1, none⟩ = some (.slice none 0 0) := hG0.cell 1; have zf0 := hG0.frozen 0; have zf1 := hG0.frozen 1) | skip))
  have hF : CellsAt (w2.alloc (.cells #[.int .i64 n, .slice a6 k c6] 24)) w2.heap.size 24 #[.int .i64 n, .slice a6 k c6] := World.alloc_heap_new _ _
  have hBx := hB2.below (bl1 w2 (.cells #[.int .i64 n, .slice a6 k c6] 24))
  have hRx := (hCR.below hbW).below (bl1 w2 (.cells #[.int .i64 n, .slice a6 k c6] 24))
  have hrow := row_mono (row_below hown (bl1 w2 (.cells #[.int .i64 n, .slice a6 k c6] 24))) (show V.heap.size ≤ V.drew.heap.size from Nat.le_refl _)
  have hne : (Value.slice a6 k c6).ownBlock ≠ some w2.heap.size := fun e => by have := (hown.lt _ e).2; omega
  have hBw := bla (hbV.trans (hbW.mono hbV.size)) (.cells #[.int .i64 n, .slice a6 k c6] 24)
  have hGV : V.heap.size ≤ w2.heap.size := hbW.size
  generalize w2.alloc (.cells #[.int .i64 n, .slice a6 k c6] 24) = U at hF hBx hRx hrow hBw ⊢
  generalize w2.heap.size = G at hF hne hGV ⊢
  rotate_left
  have hG1 : CellsAt ((w2.setCell ⟨V.heap.size, 0, none⟩ (.int .i64 n)).setCell ⟨V.heap.size, 1, none⟩ (.slice a6 k c6)) V.heap.size 24 #[.int .i64 n, .slice a6 k c6] := by simpa using (hG0.set 0 (.int .i64 n)).set 1 (.slice a6 k c6)
  have hF := hG1
  have hBx := cells_other (cells_other hB2 hBV (.int .i64 n) 0) hBV (.slice a6 k c6) 1
  have hRx := cells_other (cells_other (hCR.below hbW) (show RB ≠ V.heap.size by have := hCR.lt; omega) (.int .i64 n) 0) (show RB ≠ V.heap.size by have := hCR.lt; omega) (.slice a6 k c6) 1
  have hne : (Value.slice a6 k c6).ownBlock ≠ some V.heap.size := fun e => by have := (hown.lt _ e).1; simp at this; omega
  have hown1 := hown.kept (grownBy_setCell'' w2 V.heap.size 0 (.int .i64 n)) (.inr hne)
  have hrow := row_mono (hown1.kept (grownBy_setCell'' _ V.heap.size 1 (.slice a6 k c6)) (.inr hne)) (show V.heap.size ≤ _ by simp)
  have hBw := bls (bls (hbV.trans (hbW.mono hbV.size)) (show w.heap.size ≤ (⟨V.heap.size, 0, none⟩ : Addr).block from hbV.size) (.int .i64 n)) (show w.heap.size ≤ (⟨V.heap.size, 1, none⟩ : Addr).block from hbV.size) (.slice a6 k c6)
  have hGV : V.heap.size ≤ V.heap.size := Nat.le_refl _
  clear hG1 hG0 z0 z1 zf0 zf1 hown1
  generalize (w2.setCell ⟨V.heap.size, 0, none⟩ (.int .i64 n)).setCell ⟨V.heap.size, 1, none⟩ (.slice a6 k c6) = U at hF hBx hRx hrow hBw ⊢
  generalize hGe : V.heap.size = G at hF hne hGV ⊢
  have hGV : V.heap.size ≤ G := Nat.le_of_eq hGe
  clear hGe
  rotate_left
  all_goals clear hb2 hown hbW hB2 q0 q1 p0 p1 b0 b1 ha6
  all_goals have hBl := hCB.lt
  all_goals have hRl := hCR.lt
  all_goals have hUG := hF.lt
  all_goals have e0' : U.cell? ⟨w.heap.size, 0, none⟩ = some (.int .i64 n) := hBx.cell 0
  all_goals have e1' : U.cell? ⟨w.heap.size, 1, none⟩ = some (.slice a k c) := hBx.cell 1
  all_goals have hbVs := hbV.size
  · go_wp2_with fail
    go_loopw [15] (fun y wr => ∃ (j : Nat) (v : Value), y = .int .i64 (j : Int) ∧ j ≤ k ∧ CellsAt wr G 24 #[.int .i64 n, v] ∧ CellsAt wr RB 24 #[.int .i64 0, .slice none 0 0] ∧ wr.ownsRow V.heap.size 41 3 v (k + j) (cellsE (l ++ (l.take j).map turnE)) ∧ v.ownBlock ≠ some G ∧ Below w.heap.size w wr) (fun y _ => k - (intOf y).toNat)
    case atStart => exact ⟨0, .slice a6 k c6, rfl, by omega, hF, hRx, by simpa using hrow, hne, hBw⟩
    case round =>
      clear hF hRx hrow hne hBw hBx e0' e1'
      obtain ⟨j, v, rfl, hj, hCG, hCR', hown, hvG, hB⟩ := hrel
      obtain ⟨m, hm⟩ : ∃ m, m = k + j := ⟨_, rfl⟩
      have hmj : m = k + j := hm
      rw [← hm] at hown
      have HM := Lib.hid hm
      have hmb : m ≤ 900 := by omega
      clear hm hmj
      obtain ⟨a6', c6', rfl, ha6⟩ := row_slice hown
      have kG := Has.of hCG.lt
      have kR := Has.of hCR'.lt
      by_cases hlt : (j : Int) < (k : Int)
      · obtain ⟨b, rfl, hbl, c0, c1, c2⟩ := (hr.below hB) j (by rw [← HK.out]; omega)
        have j0 : (0 : Int) ≤ (j : Int) := by omega
        have kb := Has.of hbl
        have HT := Lib.hid (take_el (l := l) (j := j) (by rw [← HK.out]; omega))
        obtain ⟨ej, hej⟩ : ∃ ej, ej = el l j := ⟨_, rfl⟩
        rw [← hej] at c0 c1 c2 HT
        clear hej
        have HQ2 := Lib.hid (fun W => turned_any ej W)
        have hbW : Below wr.heap.size wr (wr.alloc (.cells #[.int .i64 ej.1, .int .i64 ej.2.1, .int .i64 ej.2.2] 41)) := bl1 _ _
        have hE1 : CellsAt (wr.alloc (.cells #[.int .i64 ej.1, .int .i64 ej.2.1, .int .i64 ej.2.2] 41)) wr.heap.size 41 #[.int .i64 ej.1, .int .i64 ej.2.1, .int .i64 ej.2.2] := World.alloc_heap_new wr _
        go_wp2_with fail
        have hownU := row_below hown hbW
        have hGU := hCG.below hbW
        have hRU := hCR'.below hbW
        have hBU := hB.trans (hbW.mono hB.size)
        generalize wr.alloc (.cells #[.int .i64 ej.1, .int .i64 ej.2.1, .int .i64 ej.2.2] 41) = U1 at hbW hE1 hownU hGU hRU hBU ⊢
        generalize wr.heap.size = E at hE1 ⊢
        clear hown hCG hCR' hB c0 c1 c2 kb kG kR
        have g1 : U1.cell? ⟨G, 1, none⟩ = some (.slice a6' m c6') := hGU.cell 1
        have x0 : U1.cell? ⟨E, 0, none⟩ = some (.int .i64 ej.1) := hE1.cell 0
        have x1 : U1.cell? ⟨E, 1, none⟩ = some (.int .i64 ej.2.1) := hE1.cell 1
        have x2 : U1.cell? ⟨E, 2, none⟩ = some (.int .i64 ej.2.2) := hE1.cell 2
        have kG := Has.of hGU.lt
        have kE := Has.of hE1.lt
        refine wp_region_lay (W := U1) 4 (by kernel_rfl) (gr_one _) rfl rfl (by kernel_rfl) ?_
        simp only [List.take_succ_cons, List.take_zero, List.drop_succ_cons, List.drop_zero]
        repeat (refine wpFirm_step (fun K hK => ?_); go_simp; first
          | (refine hK _ ?_; clear hK K)
          | (apply Exists.intro; refine ⟨fun _ => ?_, hK _ ?_⟩; (first
            | (go_at_call 54; exact Calls.firm (HQ2.out _))); clear hK K))
        refine wpFirm_nil ?_
        refine ⟨fun k => .slice (some ⟨k, 0, none⟩) 1 1, .cells #[.int .i64 (turnE ej).1, .int .i64 (turnE ej).2.1, .int .i64 (turnE ej).2.2] 41, fun w => by go_simp, ?_⟩
        intro d3 o3 d4 o4
        obtain ⟨hX, hbX⟩ := laid_rdE U1 d3 d4 o3 o4 (turnE ej)
        generalize grow (redrawn ((grow (redrawn U1 d3) o3).alloc (.cells #[.int .i64 (turnE ej).1, .int .i64 (turnE ej).2.1, .int .i64 (turnE ej).2.2] 41)) d4) o4 = U2 at hX hbX ⊢
        generalize U1.heap.size + o3.size = X at hX ⊢
        have hown2 := row_below hownU hbX
        have hG2 := hGU.below hbX
        have hR2 := hRU.below hbX
        have hB2 := hBU.trans (hbX.mono hBU.size)
        have hVB2 : V.heap.size ≤ U2.heap.size ∨ m = 0 := by
          rcases ha6 with rfl | ⟨g, rfl⟩
          · right; have := hown2.1; have h3 := hown2.2; rcases h3 with ⟨_, h0⟩ | ⟨g, cap, cur, h1, _⟩
            · exact h0
            · cases h1
          · left; have := hown2.lt g rfl; omega
        clear hownU hGU hRU hBU hE1 g1 x0 x1 x2 kG kE HQ2 hbX hbW
        have hVU2 : V.heap.size ≤ U2.heap.size := Nat.le_trans hGV (Nat.le_of_lt hG2.lt)
        go_wp2_with (refine wpList_append_rdE rfl _ _ rfl V.heap.size _ m (l ++ (l.take j).map turnE) rfl hown2 _ 1 1 [turnE ej] rfl rfl hX (by simp) (by omega) hVU2 ?_; intro v' w3 hown3 hg3 hat3; obtain ⟨g', c', rfl, hgb, hgl⟩ := row_one hown3 (by omega); have hG3 := hG2.grown hg3 (fun e => hvG e.symm); have hR3 := hR2.grown hg3 (fun e => by have := (hown2.lt RB e.symm).1; omega); have t1 := hG3.cell 1; have tf := hG3.frozen 1; have kG3 := Has.of hG3.lt)
        have hB3 : Below w.heap.size w w3 := hB2.trans (below_app hg3 (fun q hq => Nat.le_trans (by omega) (hown2.lt q hq).1) hB2.size)
        have hgG : (Value.slice (some ⟨g', 0, none⟩) (m + 1) c').ownBlock ≠ some G := by
          rcases hat3 with e | e
          · exact fun h => hvG (e.symm.trans h)
          · intro h; rw [e] at h; cases h; have := hG2.lt; omega
        refine ⟨⟨j + 1, .slice (some ⟨g', 0, none⟩) (m + 1) c', by simp, by omega, by simpa using hG3.set 1 (.slice (some ⟨g', 0, none⟩) (m + 1) c'), cells_other hR3 (by omega) _ _, ?_, hgG, bls hB3 (show w.heap.size ≤ (⟨G, 1, none⟩ : Addr).block from (by simp; omega)) _⟩, by simp [intOf]; omega⟩
        rw [show k + (j + 1) = m + 1 by rw [HM.out]; omega, HT.out, List.map_append, ← List.append_assoc]
        exact hown3.kept (grownBy_setCell'' w3 G 1 _) (.inr hgG)
      · obtain rfl : j = k := by omega
        rw [List.take_of_length_le (by rw [← HK.out]; exact Nat.le_refl _)] at hown
        obtain ⟨hmm, a', c', e, _, hrd, hz9⟩ := row_rdE hown
        cases e
        have HMM := Lib.hid hmm
        clear hmm
        have hCAN := Lib.hid (canon_any n a6' (l ++ l.map turnE) c6' wr hrd (fun h => ⟨(hz9 h).1, by rw [← HMM.out]; exact (hz9 h).2⟩) hI (by rw [← HMM.out]; omega))
        rw [← HMM.out, HR.out] at hCAN
        have g0 : wr.cell? ⟨G, 0, none⟩ = some (.int .i64 n) := hCG.cell 0
        have g1 : wr.cell? ⟨G, 1, none⟩ = some (.slice a6' m c6') := hCG.cell 1
        have r0 : wr.cell? ⟨RB, 0, none⟩ = some (.int .i64 0) := hCR'.cell 0
        have r1 : wr.cell? ⟨RB, 1, none⟩ = some (.slice none 0 0) := hCR'.cell 1
        have f0 := hCR'.frozen 0
        have f1 := hCR'.frozen 1
        clear hrd hz9 hown
        go_wp2_with fail
        refine hCAN.out.mono ?_
        rintro x w1 ⟨a', c', rfl, hout, hb1⟩
        obtain ⟨⟨d1, o1⟩, rfl⟩ := regrown_of_below hb1
        go_wp2_with fail
        refine bodyPost_ret (v := GV n a' R.length c') ?_ rfl ⟨a', c', rfl, ?_, ?_⟩
        · have hCF : CellsAt ((wr.setCell ⟨RB, 0, none⟩ (.int .i64 n)).setCell ⟨RB, 1, none⟩ (.slice a' R.length c')) RB 24 #[.int .i64 n, .slice a' R.length c'] := by simpa using (hCR'.set 0 (.int .i64 n)).set 1 (.slice a' R.length c')
          have hCF2 := hCF.below (below_regrown _ d1 o1)
          have k0 : (grow (redrawn ((wr.setCell ⟨RB, 0, none⟩ (.int .i64 n)).setCell ⟨RB, 1, none⟩ (.slice a' R.length c')) d1) o1).cell? ⟨RB, 0, none⟩ = some (.int .i64 n) := hCF2.cell 0
          have k1 : (grow (redrawn ((wr.setCell ⟨RB, 0, none⟩ (.int .i64 n)).setCell ⟨RB, 1, none⟩ (.slice a' R.length c')) d1) o1).cell? ⟨RB, 1, none⟩ = some (.slice a' R.length c') := hCF2.cell 1
          simp [results, Try.results22, go_sem, k0, k1]
        · have hsz : ((wr.setCell ⟨RB, 0, none⟩ (.int .i64 n)).setCell ⟨RB, 1, none⟩ (.slice a' R.length c')).heap.size = wr.heap.size := by simp
          have h9 := Out.regrown (X := wr) (X' := (wr.setCell ⟨RB, 0, none⟩ (.int .i64 n)).setCell ⟨RB, 1, none⟩ (.slice a' R.length c')) hsz hout
          exact h9.mono (by rw [hsz]; exact hB.size)
        · exact blg (bls (bls hB hR0 _) hR0 _) _ _
  · go_wp2_with fail
    go_loopw [15] (fun y wr => ∃ (j : Nat) (v : Value), y = .int .i64 (j : Int) ∧ j ≤ k ∧ CellsAt wr G 24 #[.int .i64 n, v] ∧ CellsAt wr RB 24 #[.int .i64 0, .slice none 0 0] ∧ wr.ownsRow V.heap.size 41 3 v (k + j) (cellsE (l ++ (l.take j).map turnE)) ∧ v.ownBlock ≠ some G ∧ Below w.heap.size w wr) (fun y _ => k - (intOf y).toNat)
    case atStart => exact ⟨0, .slice a6 k c6, rfl, by omega, hF, hRx, by simpa using hrow, hne, hBw⟩
    case round =>
      clear hF hRx hrow hne hBw hBx e0' e1'
      obtain ⟨j, v, rfl, hj, hCG, hCR', hown, hvG, hB⟩ := hrel
      obtain ⟨m, hm⟩ : ∃ m, m = k + j := ⟨_, rfl⟩
      have hmj : m = k + j := hm
      rw [← hm] at hown
      have HM := Lib.hid hm
      have hmb : m ≤ 900 := by omega
      clear hm hmj
      obtain ⟨a6', c6', rfl, ha6⟩ := row_slice hown
      have kG := Has.of hCG.lt
      have kR := Has.of hCR'.lt
      by_cases hlt : (j : Int) < (k : Int)
      · obtain ⟨b, rfl, hbl, c0, c1, c2⟩ := (hr.below hB) j (by rw [← HK.out]; omega)
        have j0 : (0 : Int) ≤ (j : Int) := by omega
        have kb := Has.of hbl
        have HT := Lib.hid (take_el (l := l) (j := j) (by rw [← HK.out]; omega))
        obtain ⟨ej, hej⟩ : ∃ ej, ej = el l j := ⟨_, rfl⟩
        rw [← hej] at c0 c1 c2 HT
        clear hej
        have HQ2 := Lib.hid (fun W => turned_any ej W)
        have hbW : Below wr.heap.size wr (wr.alloc (.cells #[.int .i64 ej.1, .int .i64 ej.2.1, .int .i64 ej.2.2] 41)) := bl1 _ _
        have hE1 : CellsAt (wr.alloc (.cells #[.int .i64 ej.1, .int .i64 ej.2.1, .int .i64 ej.2.2] 41)) wr.heap.size 41 #[.int .i64 ej.1, .int .i64 ej.2.1, .int .i64 ej.2.2] := World.alloc_heap_new wr _
        go_wp2_with fail
        have hownU := row_below hown hbW
        have hGU := hCG.below hbW
        have hRU := hCR'.below hbW
        have hBU := hB.trans (hbW.mono hB.size)
        generalize wr.alloc (.cells #[.int .i64 ej.1, .int .i64 ej.2.1, .int .i64 ej.2.2] 41) = U1 at hbW hE1 hownU hGU hRU hBU ⊢
        generalize wr.heap.size = E at hE1 ⊢
        clear hown hCG hCR' hB c0 c1 c2 kb kG kR
        have g1 : U1.cell? ⟨G, 1, none⟩ = some (.slice a6' m c6') := hGU.cell 1
        have x0 : U1.cell? ⟨E, 0, none⟩ = some (.int .i64 ej.1) := hE1.cell 0
        have x1 : U1.cell? ⟨E, 1, none⟩ = some (.int .i64 ej.2.1) := hE1.cell 1
        have x2 : U1.cell? ⟨E, 2, none⟩ = some (.int .i64 ej.2.2) := hE1.cell 2
        have kG := Has.of hGU.lt
        have kE := Has.of hE1.lt
        refine wp_region_lay (W := U1) 4 (by kernel_rfl) (gr_one _) rfl rfl (by kernel_rfl) ?_
        simp only [List.take_succ_cons, List.take_zero, List.drop_succ_cons, List.drop_zero]
        repeat (refine wpFirm_step (fun K hK => ?_); go_simp; first
          | (refine hK _ ?_; clear hK K)
          | (apply Exists.intro; refine ⟨fun _ => ?_, hK _ ?_⟩; (first
            | (go_at_call 54; exact Calls.firm (HQ2.out _))); clear hK K))
        refine wpFirm_nil ?_
        refine ⟨fun k => .slice (some ⟨k, 0, none⟩) 1 1, .cells #[.int .i64 (turnE ej).1, .int .i64 (turnE ej).2.1, .int .i64 (turnE ej).2.2] 41, fun w => by go_simp, ?_⟩
        intro d3 o3 d4 o4
        obtain ⟨hX, hbX⟩ := laid_rdE U1 d3 d4 o3 o4 (turnE ej)
        generalize grow (redrawn ((grow (redrawn U1 d3) o3).alloc (.cells #[.int .i64 (turnE ej).1, .int .i64 (turnE ej).2.1, .int .i64 (turnE ej).2.2] 41)) d4) o4 = U2 at hX hbX ⊢
        generalize U1.heap.size + o3.size = X at hX ⊢
        have hown2 := row_below hownU hbX
        have hG2 := hGU.below hbX
        have hR2 := hRU.below hbX
        have hB2 := hBU.trans (hbX.mono hBU.size)
        have hVB2 : V.heap.size ≤ U2.heap.size ∨ m = 0 := by
          rcases ha6 with rfl | ⟨g, rfl⟩
          · right; have := hown2.1; have h3 := hown2.2; rcases h3 with ⟨_, h0⟩ | ⟨g, cap, cur, h1, _⟩
            · exact h0
            · cases h1
          · left; have := hown2.lt g rfl; omega
        clear hownU hGU hRU hBU hE1 g1 x0 x1 x2 kG kE HQ2 hbX hbW
        have hVU2 : V.heap.size ≤ U2.heap.size := Nat.le_trans hGV (Nat.le_of_lt hG2.lt)
        go_wp2_with (refine wpList_append_rdE rfl _ _ rfl V.heap.size _ m (l ++ (l.take j).map turnE) rfl hown2 _ 1 1 [turnE ej] rfl rfl hX (by simp) (by omega) hVU2 ?_; intro v' w3 hown3 hg3 hat3; obtain ⟨g', c', rfl, hgb, hgl⟩ := row_one hown3 (by omega); have hG3 := hG2.grown hg3 (fun e => hvG e.symm); have hR3 := hR2.grown hg3 (fun e => by have := (hown2.lt RB e.symm).1; omega); have t1 := hG3.cell 1; have tf := hG3.frozen 1; have kG3 := Has.of hG3.lt)
        have hB3 : Below w.heap.size w w3 := hB2.trans (below_app hg3 (fun q hq => Nat.le_trans (by omega) (hown2.lt q hq).1) hB2.size)
        have hgG : (Value.slice (some ⟨g', 0, none⟩) (m + 1) c').ownBlock ≠ some G := by
          rcases hat3 with e | e
          · exact fun h => hvG (e.symm.trans h)
          · intro h; rw [e] at h; cases h; have := hG2.lt; omega
        refine ⟨⟨j + 1, .slice (some ⟨g', 0, none⟩) (m + 1) c', by simp, by omega, by simpa using hG3.set 1 (.slice (some ⟨g', 0, none⟩) (m + 1) c'), cells_other hR3 (by omega) _ _, ?_, hgG, bls hB3 (show w.heap.size ≤ (⟨G, 1, none⟩ : Addr).block from (by simp; omega)) _⟩, by simp [intOf]; omega⟩
        rw [show k + (j + 1) = m + 1 by rw [HM.out]; omega, HT.out, List.map_append, ← List.append_assoc]
        exact hown3.kept (grownBy_setCell'' w3 G 1 _) (.inr hgG)
      · obtain rfl : j = k := by omega
        rw [List.take_of_length_le (by rw [← HK.out]; exact Nat.le_refl _)] at hown
        obtain ⟨hmm, a', c', e, _, hrd, hz9⟩ := row_rdE hown
        cases e
        have HMM := Lib.hid hmm
        clear hmm
        have hCAN := Lib.hid (canon_any n a6' (l ++ l.map turnE) c6' wr hrd (fun h => ⟨(hz9 h).1, by rw [← HMM.out]; exact (hz9 h).2⟩) hI (by rw [← HMM.out]; omega))
        rw [← HMM.out, HR.out] at hCAN
        have g0 : wr.cell? ⟨G, 0, none⟩ = some (.int .i64 n) := hCG.cell 0
        have g1 : wr.cell? ⟨G, 1, none⟩ = some (.slice a6' m c6') := hCG.cell 1
        have r0 : wr.cell? ⟨RB, 0, none⟩ = some (.int .i64 0) := hCR'.cell 0
        have r1 : wr.cell? ⟨RB, 1, none⟩ = some (.slice none 0 0) := hCR'.cell 1
        have f0 := hCR'.frozen 0
        have f1 := hCR'.frozen 1
        clear hrd hz9 hown
        go_wp2_with fail
        refine hCAN.out.mono ?_
        rintro x w1 ⟨a', c', rfl, hout, hb1⟩
        obtain ⟨⟨d1, o1⟩, rfl⟩ := regrown_of_below hb1
        go_wp2_with fail
        refine bodyPost_ret (v := GV n a' R.length c') ?_ rfl ⟨a', c', rfl, ?_, ?_⟩
        · have hCF : CellsAt ((wr.setCell ⟨RB, 0, none⟩ (.int .i64 n)).setCell ⟨RB, 1, none⟩ (.slice a' R.length c')) RB 24 #[.int .i64 n, .slice a' R.length c'] := by simpa using (hCR'.set 0 (.int .i64 n)).set 1 (.slice a' R.length c')
          have hCF2 := hCF.below (below_regrown _ d1 o1)
          have k0 : (grow (redrawn ((wr.setCell ⟨RB, 0, none⟩ (.int .i64 n)).setCell ⟨RB, 1, none⟩ (.slice a' R.length c')) d1) o1).cell? ⟨RB, 0, none⟩ = some (.int .i64 n) := hCF2.cell 0
          have k1 : (grow (redrawn ((wr.setCell ⟨RB, 0, none⟩ (.int .i64 n)).setCell ⟨RB, 1, none⟩ (.slice a' R.length c')) d1) o1).cell? ⟨RB, 1, none⟩ = some (.slice a' R.length c') := hCF2.cell 1
          simp [results, Try.results22, go_sem, k0, k1]
        · have hsz : ((wr.setCell ⟨RB, 0, none⟩ (.int .i64 n)).setCell ⟨RB, 1, none⟩ (.slice a' R.length c')).heap.size = wr.heap.size := by simp
          have h9 := Out.regrown (X := wr) (X' := (wr.setCell ⟨RB, 0, none⟩ (.int .i64 n)).setCell ⟨RB, 1, none⟩ (.slice a' R.length c')) hsz hout
          exact h9.mono (by rw [hsz]; exact hB.size)
        · exact blg (bls (bls hB hR0 _) hR0 _) _ _
end Go.Proofs.Ytfaddlpemhifpaa
