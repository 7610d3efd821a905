/- The reference's graphs made of others, by contracts. -/
import Derived.Test.YtfaddlpemhifpaaEd11
namespace Go.Proofs.Ytfaddlpemhifpaa
open Go.RowKit Go.Sort
set_option linter.unusedVariables false
set_option linter.unusedSimpArgs false
theorem rdE_oneg (W : World) (g : Nat) (e : Ed) (hg : g = W.heap.size) : RdE (W.alloc (.cells #[.int .i64 e.1, .int .i64 e.2.1, .int .i64 e.2.2] 41)) (some ⟨g, 0, none⟩) [e] := by
  subst hg; exact rdE_one W e.1 e.2.1 e.2.2


set_option maxRecDepth 100000 in
set_option maxHeartbeats 2000000 in
theorem refTurn_any (n : Int) (a : Option Addr) (l : List Ed) (c : Nat) (w : World) (hr : RdE w a l) (hI : ∀ e ∈ chg (fun _ => true) turnE l, InE e) (hl : l.length ≤ 500) :
    Calls Try.prog 21 #[GV n a l.length c] w fun e w' => ∃ v, e = .returned (.agg #[.int .i64 n, v]) ∧ w'.ownsRow w.heap.size 41 3 v (canR (chg (fun _ => true) turnE l)).length (cellsE (canR (chg (fun _ => true) turnE l))) ∧ Below w.heap.size w w' := by
  obtain ⟨k, hk⟩ : ∃ k, k = l.length := ⟨_, rfl⟩
  rw [← hk] at hl ⊢
  have HK := Lib.hid hk
  clear hk
  generalize hR : canR (chg (fun _ => true) turnE l) = R
  have HR := Lib.hid hR
  clear hR
  go_enter Try.func21, Try.ntmps21
  go_wp2_with fail
  obtain ⟨V, hV⟩ : ∃ V, V = ((w.alloc (.cells #[.int .i64 n, .slice a k c] 24)).alloc (.cells #[.int .i64 0, .slice none 0 0] 24)).alloc (.cells #[.int .i64 n, .slice none 0 0] 24) := ⟨_, rfl⟩
  have hbV : Below w.heap.size w V := by rw [hV]; exact bl3 _ _ _ _
  have hCB : CellsAt V w.heap.size 24 #[.int .i64 n, .slice a k c] := by
    have h1 : CellsAt (w.alloc (.cells #[.int .i64 n, .slice a k c] 24)) w.heap.size 24 #[.int .i64 n, .slice a k c] := World.alloc_heap_new _ _
    rw [hV]; exact (h1.below (bl1 _ _)).below (bl1 _ _)
  have hCR : CellsAt V (w.heap.size + 1) 24 #[.int .i64 0, .slice none 0 0] := by
    have h1 : CellsAt ((w.alloc (.cells #[.int .i64 n, .slice a k c] 24)).alloc (.cells #[.int .i64 0, .slice none 0 0] 24)) (w.alloc (.cells #[.int .i64 n, .slice a k c] 24)).heap.size 24 #[.int .i64 0, .slice none 0 0] := World.alloc_heap_new _ _
    rw [World.size_alloc] at h1
    rw [hV]; exact h1.below (bl1 _ _)
  have hCG : CellsAt V (w.heap.size + 1 + 1) 24 #[.int .i64 n, .slice none 0 0] := by
    have h1 : CellsAt (((w.alloc (.cells #[.int .i64 n, .slice a k c] 24)).alloc (.cells #[.int .i64 0, .slice none 0 0] 24)).alloc (.cells #[.int .i64 n, .slice none 0 0] 24)) ((w.alloc (.cells #[.int .i64 n, .slice a k c] 24)).alloc (.cells #[.int .i64 0, .slice none 0 0] 24)).heap.size 24 #[.int .i64 n, .slice none 0 0] := World.alloc_heap_new _ _
    rw [World.size_alloc, World.size_alloc] at h1
    rw [hV]; exact h1
  rw [← hV]
  clear hV
  have hB0 : w.heap.size ≤ w.heap.size := Nat.le_refl _
  have hG0 : w.heap.size ≤ w.heap.size + 1 + 1 := by omega
  have hR0 : w.heap.size ≤ w.heap.size + 1 := by omega
  have hGR : w.heap.size + 1 ≠ w.heap.size + 1 + 1 := by omega
  have hGB : w.heap.size ≠ w.heap.size + 1 + 1 := by omega
  generalize w.heap.size + 1 + 1 = G at hCG hG0 hGR hGB ⊢
  generalize w.heap.size + 1 = RB at hCR hR0 hGR ⊢
  obtain ⟨Bx, hBx⟩ : ∃ Bx, Bx = w.heap.size := ⟨_, rfl⟩
  rw [← hBx] at hCB hGB hB0 ⊢
  have HBX := Lib.hid hBx
  clear hBx
  have hGV := hCG.lt
  have hRV := hCR.lt
  have hBV := hCB.lt
  go_loopw [4] (fun y wr => ∃ (j : Nat) (v : Value), y = .int .i64 (j : Int) ∧ j ≤ k ∧ CellsAt wr G 24 #[.int .i64 n, v] ∧ CellsAt wr RB 24 #[.int .i64 0, .slice none 0 0] ∧ CellsAt wr Bx 24 #[.int .i64 n, .slice a k c] ∧ wr.ownsRow V.heap.size 41 3 v (chg (fun _ => true) turnE (l.take j)).length (cellsE (chg (fun _ => true) turnE (l.take j))) ∧ Below w.heap.size w wr ∧ V.heap.size ≤ wr.heap.size) (fun y _ => k - (intOf y).toNat)
  case atStart => exact ⟨0, .slice none 0 0, rfl, by omega, hCG, hCR, hCB, World.ownsRow_nil _ _ _ _, by rw [HBX.out] at hB0; exact hbV, Nat.le_refl _⟩
  case round =>
    clear hCG hCR hCB hbV
    obtain ⟨j, v, rfl, hj, hCG, hCR, hCB, hown, hB, hVs⟩ := hrel
    obtain ⟨m, hm⟩ : ∃ m, m = (chg (fun _ => true) turnE (l.take j)).length := ⟨_, rfl⟩
    have hmj : m ≤ j := by rw [hm]; exact Nat.le_trans (chg_len _ _ _) (by simp; omega)
    rw [← hm] at hown
    have HM := Lib.hid hm
    clear hm
    obtain ⟨a6, c6, rfl, ha6⟩ := row_slice hown
    have kG := Has.of hCG.lt
    have kR := Has.of hCR.lt
    have kB := Has.of hCB.lt
    have g1 : wr.cell? ⟨G, 1, none⟩ = some (.slice a6 m c6) := hCG.cell 1
    have b1 : wr.cell? ⟨Bx, 1, none⟩ = some (.slice a k c) := hCB.cell 1
    by_cases hlt : (j : Int) < (k : Int)
    · obtain ⟨b, rfl, hbl, c0, c1, c2⟩ := (hr.below hB) j (by rw [← HK.out]; omega)
      have j0 : (0 : Int) ≤ (j : Int) := by omega
      have kb := Has.of hbl
      have HT := take_el (l := l) (j := j) (by rw [← HK.out]; omega)
      have HS := chg_snoc (fun _ => true) turnE (l.take j) (el l j)
      rw [← HT] at HS
      obtain ⟨ej, hej⟩ : ∃ ej, ej = el l j := ⟨_, rfl⟩
      rw [← hej] at c0 c1 c2 HS
      have HS' := Lib.hid HS
      clear hej HT HS
      have HS2 := Lib.hid (HS'.out.trans (by rw [if_pos (show ((fun _ => true)) ej = true from rfl)]))
      have hbX : Below wr.heap.size wr (wr.alloc (.cells #[.int .i64 ej.1, .int .i64 ej.2.1, .int .i64 ej.2.2] 41)) := bl1 _ _
      have hown2 := row_below hown hbX
      have hG2 := hCG.below hbX
      have hR2 := hCR.below hbX
      have hBx2 := hCB.below hbX
      have hB2 := hB.trans (hbX.mono hB.size)
      have hV2 := Nat.le_trans hVs hbX.size
      have hmb : m ≤ 1000 := by omega
      clear hown hCG hCR hCB hB hVs
      go_wp2_with (refine wpList_append_rdE rfl _ _ rfl V.heap.size _ m (chg (fun _ => true) turnE (l.take j)) rfl (hown2.alloc _) _ 1 1 [turnE ej] rfl rfl (rdE_oneg _ _ (turnE ej) (by simp)) (by simp) (by omega) (by have h9 := hV2; simp at h9 ⊢; omega) ?_; intro v' w3 hown3 hg3 hat3; obtain ⟨g', c', rfl, hgb, hgl⟩ := row_one hown3 (by omega); have hG3 := (hG2.below (bl1 _ _)).grown hg3 (fun e => by have := (hown2.lt G e.symm).1; omega); have hR3 := (hR2.below (bl1 _ _)).grown hg3 (fun e => by have := (hown2.lt RB e.symm).1; omega); have hBx3 := (hBx2.below (bl1 _ _)).grown hg3 (fun e => by have := (hown2.lt Bx e.symm).1; omega); have t1 := hG3.cell 1; have tf := hG3.frozen 1; have kG3 := Has.of hG3.lt)
      have hB3 : Below w.heap.size w w3 := (bla hB2 _).trans (below_app hg3 (fun q hq => Nat.le_trans (by have := HBX.out; omega) (hown2.lt q hq).1) (by have := hB2.size; simp at *; omega))
      have hs3 := hg3.size
      simp at hs3 hV2
      refine ⟨⟨j + 1, .slice (some ⟨g', 0, none⟩) (m + 1) c', by simp, by omega, by simpa using hG3.set 1 (.slice (some ⟨g', 0, none⟩) (m + 1) c'), cells_other hR3 hGR _ _, cells_other hBx3 hGB _ _, ?_, bls hB3 hG0 _, by simp; omega⟩, by simp [intOf]; omega⟩
      have hlen : (chg (fun _ => true) turnE (l.take (j + 1))).length = m + 1 := by rw [HS2.out, List.length_append, ← HM.out]; rfl
      rw [hlen, HS2.out]
      exact hown3.kept (grownBy_setCell'' w3 G 1 _) (.inr (by simp [Value.ownBlock]; omega))
    · obtain rfl : j = k := by omega
      rw [List.take_of_length_le (by rw [← HK.out]; exact Nat.le_refl _)] at hown HM
      obtain ⟨hmm, a', c', e, _, hrd, hz⟩ := row_rdE hown
      cases e
      clear hmm
      have hCAN := Lib.hid (refCanon_any n a6 (chg (fun _ => true) turnE l) c6 wr hrd hI (by rw [← HM.out]; omega))
      rw [← HM.out, HR.out] at hCAN
      have g0 : wr.cell? ⟨G, 0, none⟩ = some (.int .i64 n) := hCG.cell 0
      have r0 : wr.cell? ⟨RB, 0, none⟩ = some (.int .i64 0) := hCR.cell 0
      have r1 : wr.cell? ⟨RB, 1, none⟩ = some (.slice none 0 0) := hCR.cell 1
      have f0 := hCR.frozen 0
      have f1 := hCR.frozen 1
      clear hrd hz hown
      go_wp2_with fail
      refine hCAN.out.mono ?_
      rintro x w1 ⟨v, rfl, hout, hb1⟩
      obtain ⟨⟨d1, o1⟩, rfl⟩ := regrown_of_below hb1
      obtain ⟨a', c', rfl, _⟩ := row_slice hout
      go_wp2_with fail
      refine bodyPost_ret (v := GV n a' R.length c') ?_ rfl ⟨_, rfl, ?_, ?_⟩
      · have hCF : CellsAt ((wr.setCell ⟨RB, 0, none⟩ (.int .i64 n)).setCell ⟨RB, 1, none⟩ (.slice a' R.length c')) RB 24 #[.int .i64 n, .slice a' R.length c'] := by simpa using (hCR.set 0 (.int .i64 n)).set 1 (.slice a' R.length c')
        have hCF2 := hCF.below (below_regrown _ d1 o1)
        have k0 : (grow (redrawn ((wr.setCell ⟨RB, 0, none⟩ (.int .i64 n)).setCell ⟨RB, 1, none⟩ (.slice a' R.length c')) d1) o1).cell? ⟨RB, 0, none⟩ = some (.int .i64 n) := hCF2.cell 0
        have k1 : (grow (redrawn ((wr.setCell ⟨RB, 0, none⟩ (.int .i64 n)).setCell ⟨RB, 1, none⟩ (.slice a' R.length c')) d1) o1).cell? ⟨RB, 1, none⟩ = some (.slice a' R.length c') := hCF2.cell 1
        simp [results, Try.results21, go_sem, k0, k1]
      · have hsz : ((wr.setCell ⟨RB, 0, none⟩ (.int .i64 n)).setCell ⟨RB, 1, none⟩ (.slice a' R.length c')).heap.size = wr.heap.size := by simp
        have h9 := row_regrown (X := wr) (X' := (wr.setCell ⟨RB, 0, none⟩ (.int .i64 n)).setCell ⟨RB, 1, none⟩ (.slice a' R.length c')) hsz hout
        exact row_mono h9 (by rw [hsz]; exact hB.size)
      · exact blg (bls (bls hB hR0 _) hR0 _) _ _


set_option maxRecDepth 100000 in
set_option maxHeartbeats 2000000 in
theorem refPlain_any (n : Int) (a : Option Addr) (l : List Ed) (c : Nat) (w : World) (hr : RdE w a l) (hI : ∀ e ∈ chg (fun _ => true) plainE l, InE e) (hl : l.length ≤ 500) :
    Calls Try.prog 27 #[GV n a l.length c] w fun e w' => ∃ v, e = .returned (.agg #[.int .i64 n, v]) ∧ w'.ownsRow w.heap.size 41 3 v (canR (chg (fun _ => true) plainE l)).length (cellsE (canR (chg (fun _ => true) plainE l))) ∧ Below w.heap.size w w' := by
  obtain ⟨k, hk⟩ : ∃ k, k = l.length := ⟨_, rfl⟩
  rw [← hk] at hl ⊢
  have HK := Lib.hid hk
  clear hk
  generalize hR : canR (chg (fun _ => true) plainE l) = R
  have HR := Lib.hid hR
  clear hR
  go_enter Try.func27, Try.ntmps27
  go_wp2_with fail
  obtain ⟨V, hV⟩ : ∃ V, V = ((w.alloc (.cells #[.int .i64 n, .slice a k c] 24)).alloc (.cells #[.int .i64 0, .slice none 0 0] 24)).alloc (.cells #[.int .i64 n, .slice none 0 0] 24) := ⟨_, rfl⟩
  have hbV : Below w.heap.size w V := by rw [hV]; exact bl3 _ _ _ _
  have hCB : CellsAt V w.heap.size 24 #[.int .i64 n, .slice a k c] := by
    have h1 : CellsAt (w.alloc (.cells #[.int .i64 n, .slice a k c] 24)) w.heap.size 24 #[.int .i64 n, .slice a k c] := World.alloc_heap_new _ _
    rw [hV]; exact (h1.below (bl1 _ _)).below (bl1 _ _)
  have hCR : CellsAt V (w.heap.size + 1) 24 #[.int .i64 0, .slice none 0 0] := by
    have h1 : CellsAt ((w.alloc (.cells #[.int .i64 n, .slice a k c] 24)).alloc (.cells #[.int .i64 0, .slice none 0 0] 24)) (w.alloc (.cells #[.int .i64 n, .slice a k c] 24)).heap.size 24 #[.int .i64 0, .slice none 0 0] := World.alloc_heap_new _ _
    rw [World.size_alloc] at h1
    rw [hV]; exact h1.below (bl1 _ _)
  have hCG : CellsAt V (w.heap.size + 1 + 1) 24 #[.int .i64 n, .slice none 0 0] := by
    have h1 : CellsAt (((w.alloc (.cells #[.int .i64 n, .slice a k c] 24)).alloc (.cells #[.int .i64 0, .slice none 0 0] 24)).alloc (.cells #[.int .i64 n, .slice none 0 0] 24)) ((w.alloc (.cells #[.int .i64 n, .slice a k c] 24)).alloc (.cells #[.int .i64 0, .slice none 0 0] 24)).heap.size 24 #[.int .i64 n, .slice none 0 0] := World.alloc_heap_new _ _
    rw [World.size_alloc, World.size_alloc] at h1
    rw [hV]; exact h1
  rw [← hV]
  clear hV
  have hB0 : w.heap.size ≤ w.heap.size := Nat.le_refl _
  have hG0 : w.heap.size ≤ w.heap.size + 1 + 1 := by omega
  have hR0 : w.heap.size ≤ w.heap.size + 1 := by omega
  have hGR : w.heap.size + 1 ≠ w.heap.size + 1 + 1 := by omega
  have hGB : w.heap.size ≠ w.heap.size + 1 + 1 := by omega
  generalize w.heap.size + 1 + 1 = G at hCG hG0 hGR hGB ⊢
  generalize w.heap.size + 1 = RB at hCR hR0 hGR ⊢
  obtain ⟨Bx, hBx⟩ : ∃ Bx, Bx = w.heap.size := ⟨_, rfl⟩
  rw [← hBx] at hCB hGB hB0 ⊢
  have HBX := Lib.hid hBx
  clear hBx
  have hGV := hCG.lt
  have hRV := hCR.lt
  have hBV := hCB.lt
  go_loopw [4] (fun y wr => ∃ (j : Nat) (v : Value), y = .int .i64 (j : Int) ∧ j ≤ k ∧ CellsAt wr G 24 #[.int .i64 n, v] ∧ CellsAt wr RB 24 #[.int .i64 0, .slice none 0 0] ∧ CellsAt wr Bx 24 #[.int .i64 n, .slice a k c] ∧ wr.ownsRow V.heap.size 41 3 v (chg (fun _ => true) plainE (l.take j)).length (cellsE (chg (fun _ => true) plainE (l.take j))) ∧ Below w.heap.size w wr ∧ V.heap.size ≤ wr.heap.size) (fun y _ => k - (intOf y).toNat)
  case atStart => exact ⟨0, .slice none 0 0, rfl, by omega, hCG, hCR, hCB, World.ownsRow_nil _ _ _ _, by rw [HBX.out] at hB0; exact hbV, Nat.le_refl _⟩
  case round =>
    clear hCG hCR hCB hbV
    obtain ⟨j, v, rfl, hj, hCG, hCR, hCB, hown, hB, hVs⟩ := hrel
    obtain ⟨m, hm⟩ : ∃ m, m = (chg (fun _ => true) plainE (l.take j)).length := ⟨_, rfl⟩
    have hmj : m ≤ j := by rw [hm]; exact Nat.le_trans (chg_len _ _ _) (by simp; omega)
    rw [← hm] at hown
    have HM := Lib.hid hm
    clear hm
    obtain ⟨a6, c6, rfl, ha6⟩ := row_slice hown
    have kG := Has.of hCG.lt
    have kR := Has.of hCR.lt
    have kB := Has.of hCB.lt
    have g1 : wr.cell? ⟨G, 1, none⟩ = some (.slice a6 m c6) := hCG.cell 1
    have b1 : wr.cell? ⟨Bx, 1, none⟩ = some (.slice a k c) := hCB.cell 1
    by_cases hlt : (j : Int) < (k : Int)
    · obtain ⟨b, rfl, hbl, c0, c1, c2⟩ := (hr.below hB) j (by rw [← HK.out]; omega)
      have j0 : (0 : Int) ≤ (j : Int) := by omega
      have kb := Has.of hbl
      have HT := take_el (l := l) (j := j) (by rw [← HK.out]; omega)
      have HS := chg_snoc (fun _ => true) plainE (l.take j) (el l j)
      rw [← HT] at HS
      obtain ⟨ej, hej⟩ : ∃ ej, ej = el l j := ⟨_, rfl⟩
      rw [← hej] at c0 c1 c2 HS
      have HS' := Lib.hid HS
      clear hej HT HS
      have HS2 := Lib.hid (HS'.out.trans (by rw [if_pos (show ((fun _ => true)) ej = true from rfl)]))
      go_wp2_with fail
      refine wp_region_lay (W := wr) 15 (by kernel_rfl) (gr_one _) rfl rfl (by kernel_rfl) ?_
      simp only [List.take_succ_cons, List.take_zero, List.drop_succ_cons, List.drop_zero]
      repeat (refine wpFirm_step (fun K hK => ?_); go_simp; first
        | (refine hK _ ?_; clear hK K)
        | fail)
      refine wpFirm_nil ?_
      refine ⟨fun k => .slice (some ⟨k, 0, none⟩) 1 1, .cells #[.int .i64 (plainE ej).1, .int .i64 (plainE ej).2.1, .int .i64 (plainE ej).2.2] 41, fun w => by first | (go_simp; done) | (go_simp; rfl), ?_⟩
      intro d3 o3 d4 o4
      obtain ⟨hX, hbX⟩ := laid_rdE wr d3 d4 o3 o4 (plainE ej)
      generalize grow (redrawn ((grow (redrawn wr d3) o3).alloc (.cells #[.int .i64 (plainE ej).1, .int .i64 (plainE ej).2.1, .int .i64 (plainE ej).2.2] 41)) d4) o4 = U2 at hX hbX ⊢
      generalize wr.heap.size + o3.size = X at hX ⊢
      have hown2 := row_below hown hbX
      have hG2 := hCG.below hbX
      have hR2 := hCR.below hbX
      have hBx2 := hCB.below hbX
      have hB2 := hB.trans (hbX.mono hB.size)
      have hV2 := Nat.le_trans hVs hbX.size
      have hmb : m ≤ 1000 := by omega
      clear hown hCG hCR hCB hB hVs g1 b1 kG kR kB c0 c1 c2 kb
      go_wp2_with (refine wpList_append_rdE rfl _ _ rfl V.heap.size _ m (chg (fun _ => true) plainE (l.take j)) rfl hown2 _ 1 1 [plainE ej] rfl rfl hX (by simp) (by omega) (by omega) ?_; intro v' w3 hown3 hg3 hat3; obtain ⟨g', c', rfl, hgb, hgl⟩ := row_one hown3 (by omega); have hG3 := hG2.grown hg3 (fun e => by have := (hown2.lt G e.symm).1; omega); have hR3 := hR2.grown hg3 (fun e => by have := (hown2.lt RB e.symm).1; omega); have hBx3 := hBx2.grown hg3 (fun e => by have := (hown2.lt Bx e.symm).1; omega); have t1 := hG3.cell 1; have tf := hG3.frozen 1; have kG3 := Has.of hG3.lt)
      have hB3 : Below w.heap.size w w3 := hB2.trans (below_app hg3 (fun q hq => Nat.le_trans (by have := HBX.out; omega) (hown2.lt q hq).1) hB2.size)
      have hs3 := hg3.size
      refine ⟨⟨j + 1, .slice (some ⟨g', 0, none⟩) (m + 1) c', by simp, by omega, by simpa using hG3.set 1 (.slice (some ⟨g', 0, none⟩) (m + 1) c'), cells_other hR3 hGR _ _, cells_other hBx3 hGB _ _, ?_, bls hB3 hG0 _, by simp; omega⟩, by simp [intOf]; omega⟩
      have hlen : (chg (fun _ => true) plainE (l.take (j + 1))).length = m + 1 := by rw [HS2.out, List.length_append, ← HM.out]; rfl
      rw [hlen, HS2.out]
      exact hown3.kept (grownBy_setCell'' w3 G 1 _) (.inr (by simp [Value.ownBlock]; omega))
    · obtain rfl : j = k := by omega
      rw [List.take_of_length_le (by rw [← HK.out]; exact Nat.le_refl _)] at hown HM
      obtain ⟨hmm, a', c', e, _, hrd, hz⟩ := row_rdE hown
      cases e
      clear hmm
      have hCAN := Lib.hid (refCanon_any n a6 (chg (fun _ => true) plainE l) c6 wr hrd hI (by rw [← HM.out]; omega))
      rw [← HM.out, HR.out] at hCAN
      have g0 : wr.cell? ⟨G, 0, none⟩ = some (.int .i64 n) := hCG.cell 0
      have r0 : wr.cell? ⟨RB, 0, none⟩ = some (.int .i64 0) := hCR.cell 0
      have r1 : wr.cell? ⟨RB, 1, none⟩ = some (.slice none 0 0) := hCR.cell 1
      have f0 := hCR.frozen 0
      have f1 := hCR.frozen 1
      clear hrd hz hown
      go_wp2_with fail
      refine hCAN.out.mono ?_
      rintro x w1 ⟨v, rfl, hout, hb1⟩
      obtain ⟨⟨d1, o1⟩, rfl⟩ := regrown_of_below hb1
      obtain ⟨a', c', rfl, _⟩ := row_slice hout
      go_wp2_with fail
      refine bodyPost_ret (v := GV n a' R.length c') ?_ rfl ⟨_, rfl, ?_, ?_⟩
      · have hCF : CellsAt ((wr.setCell ⟨RB, 0, none⟩ (.int .i64 n)).setCell ⟨RB, 1, none⟩ (.slice a' R.length c')) RB 24 #[.int .i64 n, .slice a' R.length c'] := by simpa using (hCR.set 0 (.int .i64 n)).set 1 (.slice a' R.length c')
        have hCF2 := hCF.below (below_regrown _ d1 o1)
        have k0 : (grow (redrawn ((wr.setCell ⟨RB, 0, none⟩ (.int .i64 n)).setCell ⟨RB, 1, none⟩ (.slice a' R.length c')) d1) o1).cell? ⟨RB, 0, none⟩ = some (.int .i64 n) := hCF2.cell 0
        have k1 : (grow (redrawn ((wr.setCell ⟨RB, 0, none⟩ (.int .i64 n)).setCell ⟨RB, 1, none⟩ (.slice a' R.length c')) d1) o1).cell? ⟨RB, 1, none⟩ = some (.slice a' R.length c') := hCF2.cell 1
        simp [results, Try.results27, go_sem, k0, k1]
      · have hsz : ((wr.setCell ⟨RB, 0, none⟩ (.int .i64 n)).setCell ⟨RB, 1, none⟩ (.slice a' R.length c')).heap.size = wr.heap.size := by simp
        have h9 := row_regrown (X := wr) (X' := (wr.setCell ⟨RB, 0, none⟩ (.int .i64 n)).setCell ⟨RB, 1, none⟩ (.slice a' R.length c')) hsz hout
        exact row_mono h9 (by rw [hsz]; exact hB.size)
      · exact blg (bls (bls hB hR0 _) hR0 _) _ _


set_option maxRecDepth 100000 in
set_option maxHeartbeats 2000000 in
theorem refSimple_any (n : Int) (a : Option Addr) (l : List Ed) (c : Nat) (w : World) (hr : RdE w a l) (hI : ∀ e ∈ chg (fun e : Ed => e.1 != e.2.1) (fun e : Ed => e) l, InE e) (hl : l.length ≤ 500) :
    Calls Try.prog 25 #[GV n a l.length c] w fun e w' => ∃ v, e = .returned (.agg #[.int .i64 n, v]) ∧ w'.ownsRow w.heap.size 41 3 v (canR (chg (fun e : Ed => e.1 != e.2.1) (fun e : Ed => e) l)).length (cellsE (canR (chg (fun e : Ed => e.1 != e.2.1) (fun e : Ed => e) l))) ∧ Below w.heap.size w w' := by
  obtain ⟨k, hk⟩ : ∃ k, k = l.length := ⟨_, rfl⟩
  rw [← hk] at hl ⊢
  have HK := Lib.hid hk
  clear hk
  generalize hR : canR (chg (fun e : Ed => e.1 != e.2.1) (fun e : Ed => e) l) = R
  have HR := Lib.hid hR
  clear hR
  go_enter Try.func25, Try.ntmps25
  go_wp2_with fail
  obtain ⟨V, hV⟩ : ∃ V, V = ((w.alloc (.cells #[.int .i64 n, .slice a k c] 24)).alloc (.cells #[.int .i64 0, .slice none 0 0] 24)).alloc (.cells #[.int .i64 n, .slice none 0 0] 24) := ⟨_, rfl⟩
  have hbV : Below w.heap.size w V := by rw [hV]; exact bl3 _ _ _ _
  have hCB : CellsAt V w.heap.size 24 #[.int .i64 n, .slice a k c] := by
    have h1 : CellsAt (w.alloc (.cells #[.int .i64 n, .slice a k c] 24)) w.heap.size 24 #[.int .i64 n, .slice a k c] := World.alloc_heap_new _ _
    rw [hV]; exact (h1.below (bl1 _ _)).below (bl1 _ _)
  have hCR : CellsAt V (w.heap.size + 1) 24 #[.int .i64 0, .slice none 0 0] := by
    have h1 : CellsAt ((w.alloc (.cells #[.int .i64 n, .slice a k c] 24)).alloc (.cells #[.int .i64 0, .slice none 0 0] 24)) (w.alloc (.cells #[.int .i64 n, .slice a k c] 24)).heap.size 24 #[.int .i64 0, .slice none 0 0] := World.alloc_heap_new _ _
    rw [World.size_alloc] at h1
    rw [hV]; exact h1.below (bl1 _ _)
  have hCG : CellsAt V (w.heap.size + 1 + 1) 24 #[.int .i64 n, .slice none 0 0] := by
    have h1 : CellsAt (((w.alloc (.cells #[.int .i64 n, .slice a k c] 24)).alloc (.cells #[.int .i64 0, .slice none 0 0] 24)).alloc (.cells #[.int .i64 n, .slice none 0 0] 24)) ((w.alloc (.cells #[.int .i64 n, .slice a k c] 24)).alloc (.cells #[.int .i64 0, .slice none 0 0] 24)).heap.size 24 #[.int .i64 n, .slice none 0 0] := World.alloc_heap_new _ _
    rw [World.size_alloc, World.size_alloc] at h1
    rw [hV]; exact h1
  rw [← hV]
  clear hV
  have hB0 : w.heap.size ≤ w.heap.size := Nat.le_refl _
  have hG0 : w.heap.size ≤ w.heap.size + 1 + 1 := by omega
  have hR0 : w.heap.size ≤ w.heap.size + 1 := by omega
  have hGR : w.heap.size + 1 ≠ w.heap.size + 1 + 1 := by omega
  have hGB : w.heap.size ≠ w.heap.size + 1 + 1 := by omega
  generalize w.heap.size + 1 + 1 = G at hCG hG0 hGR hGB ⊢
  generalize w.heap.size + 1 = RB at hCR hR0 hGR ⊢
  obtain ⟨Bx, hBx⟩ : ∃ Bx, Bx = w.heap.size := ⟨_, rfl⟩
  rw [← hBx] at hCB hGB hB0 ⊢
  have HBX := Lib.hid hBx
  clear hBx
  have hGV := hCG.lt
  have hRV := hCR.lt
  have hBV := hCB.lt
  go_loopw [4] (fun y wr => ∃ (j : Nat) (v : Value), y = .int .i64 (j : Int) ∧ j ≤ k ∧ CellsAt wr G 24 #[.int .i64 n, v] ∧ CellsAt wr RB 24 #[.int .i64 0, .slice none 0 0] ∧ CellsAt wr Bx 24 #[.int .i64 n, .slice a k c] ∧ wr.ownsRow V.heap.size 41 3 v (chg (fun e : Ed => e.1 != e.2.1) (fun e : Ed => e) (l.take j)).length (cellsE (chg (fun e : Ed => e.1 != e.2.1) (fun e : Ed => e) (l.take j))) ∧ Below w.heap.size w wr ∧ V.heap.size ≤ wr.heap.size) (fun y _ => k - (intOf y).toNat)
  case atStart => exact ⟨0, .slice none 0 0, rfl, by omega, hCG, hCR, hCB, World.ownsRow_nil _ _ _ _, by rw [HBX.out] at hB0; exact hbV, Nat.le_refl _⟩
  case round =>
    clear hCG hCR hCB hbV
    obtain ⟨j, v, rfl, hj, hCG, hCR, hCB, hown, hB, hVs⟩ := hrel
    obtain ⟨m, hm⟩ : ∃ m, m = (chg (fun e : Ed => e.1 != e.2.1) (fun e : Ed => e) (l.take j)).length := ⟨_, rfl⟩
    have hmj : m ≤ j := by rw [hm]; exact Nat.le_trans (chg_len _ _ _) (by simp; omega)
    rw [← hm] at hown
    have HM := Lib.hid hm
    clear hm
    obtain ⟨a6, c6, rfl, ha6⟩ := row_slice hown
    have kG := Has.of hCG.lt
    have kR := Has.of hCR.lt
    have kB := Has.of hCB.lt
    have g1 : wr.cell? ⟨G, 1, none⟩ = some (.slice a6 m c6) := hCG.cell 1
    have b1 : wr.cell? ⟨Bx, 1, none⟩ = some (.slice a k c) := hCB.cell 1
    by_cases hlt : (j : Int) < (k : Int)
    · obtain ⟨b, rfl, hbl, c0, c1, c2⟩ := (hr.below hB) j (by rw [← HK.out]; omega)
      have j0 : (0 : Int) ≤ (j : Int) := by omega
      have kb := Has.of hbl
      have HT := take_el (l := l) (j := j) (by rw [← HK.out]; omega)
      have HS := chg_snoc (fun e : Ed => e.1 != e.2.1) (fun e : Ed => e) (l.take j) (el l j)
      rw [← HT] at HS
      obtain ⟨ej, hej⟩ : ∃ ej, ej = el l j := ⟨_, rfl⟩
      rw [← hej] at c0 c1 c2 HS
      have HS' := Lib.hid HS
      clear hej HT HS
      have HQ : ((fun e : Ed => e.1 != e.2.1)) ej = (ej.1 != ej.2.1) := rfl
      cases hkp : ((fun e : Ed => e.1 != e.2.1)) ej
      · have HS3 := Lib.hid (HS'.out.trans (by rw [if_neg (fun h => by have h2 := hkp.symm.trans h; cases h2), List.append_nil]))
        rw [HQ] at hkp
        clear HQ
        simp at hkp
        go_wp2_with fail
        refine wp_region_quiet_below (by kernel_rfl) (by kernel_rfl) ?_
        repeat (go_big_quiet_step (fail))
        refine wpQuiet_nil ?_
        rintro _ ⟨⟨d2, o2⟩, rfl⟩
        go_wp2_with fail
        have hbW := below_regrown wr d2 o2
        refine ⟨⟨j + 1, _, by simp, by omega, hCG.below hbW, hCR.below hbW, hCB.below hbW, ?_, hB.trans (hbW.mono hB.size), Nat.le_trans hVs hbW.size⟩, by simp [intOf]; omega⟩
        rw [HS3.out, ← HM.out]
        exact row_below hown hbW
      · have HS2 := Lib.hid (HS'.out.trans (by rw [if_pos hkp]))
        rw [HQ] at hkp
        clear HQ
        simp at hkp
        go_wp2_with fail
        refine wp_region_quiet_below (by kernel_rfl) (by kernel_rfl) ?_
        repeat (go_big_quiet_step (fail))
        refine wpQuiet_nil ?_
        rintro _ ⟨⟨d2, o2⟩, rfl⟩
        go_wp2_with fail
        refine wp_region_lay (W := wr) 7 (by kernel_rfl) (gr_two _ _ _) rfl rfl (by kernel_rfl) ?_
        simp only [List.take_succ_cons, List.take_zero, List.drop_succ_cons, List.drop_zero]
        repeat (refine wpFirm_step (fun K hK => ?_); go_simp; first
          | (refine hK _ ?_; clear hK K)
          | fail)
        refine wpFirm_nil ?_
        refine ⟨fun k => .slice (some ⟨k, 0, none⟩) 1 1, .cells #[.int .i64 ((fun e : Ed => e) ej).1, .int .i64 ((fun e : Ed => e) ej).2.1, .int .i64 ((fun e : Ed => e) ej).2.2] 41, fun w => by first | (go_simp; done) | (go_simp; rfl), ?_⟩
        intro d3 o3 d4 o4
        obtain ⟨hX, hbX⟩ := laid_rdE wr d3 d4 o3 o4 ((fun e : Ed => e) ej)
        generalize grow (redrawn ((grow (redrawn wr d3) o3).alloc (.cells #[.int .i64 ((fun e : Ed => e) ej).1, .int .i64 ((fun e : Ed => e) ej).2.1, .int .i64 ((fun e : Ed => e) ej).2.2] 41)) d4) o4 = U2 at hX hbX ⊢
        generalize wr.heap.size + o3.size = X at hX ⊢
        have hown2 := row_below hown hbX
        have hG2 := hCG.below hbX
        have hR2 := hCR.below hbX
        have hBx2 := hCB.below hbX
        have hB2 := hB.trans (hbX.mono hB.size)
        have hV2 := Nat.le_trans hVs hbX.size
        have hmb : m ≤ 1000 := by omega
        clear hown hCG hCR hCB hB hVs g1 b1 kG kR kB c0 c1 c2 kb
        go_wp2_with (refine wpList_append_rdE rfl _ _ rfl V.heap.size _ m (chg (fun e : Ed => e.1 != e.2.1) (fun e : Ed => e) (l.take j)) rfl hown2 _ 1 1 [(fun e : Ed => e) ej] rfl rfl hX (by simp) (by omega) (by omega) ?_; intro v' w3 hown3 hg3 hat3; obtain ⟨g', c', rfl, hgb, hgl⟩ := row_one hown3 (by omega); have hG3 := hG2.grown hg3 (fun e => by have := (hown2.lt G e.symm).1; omega); have hR3 := hR2.grown hg3 (fun e => by have := (hown2.lt RB e.symm).1; omega); have hBx3 := hBx2.grown hg3 (fun e => by have := (hown2.lt Bx e.symm).1; omega); have t1 := hG3.cell 1; have tf := hG3.frozen 1; have kG3 := Has.of hG3.lt)
        have hB3 : Below w.heap.size w w3 := hB2.trans (below_app hg3 (fun q hq => Nat.le_trans (by have := HBX.out; omega) (hown2.lt q hq).1) hB2.size)
        have hs3 := hg3.size
        refine ⟨⟨j + 1, .slice (some ⟨g', 0, none⟩) (m + 1) c', by simp, by omega, by simpa using hG3.set 1 (.slice (some ⟨g', 0, none⟩) (m + 1) c'), cells_other hR3 hGR _ _, cells_other hBx3 hGB _ _, ?_, bls hB3 hG0 _, by simp; omega⟩, by simp [intOf]; omega⟩
        have hlen : (chg (fun e : Ed => e.1 != e.2.1) (fun e : Ed => e) (l.take (j + 1))).length = m + 1 := by rw [HS2.out, List.length_append, ← HM.out]; rfl
        rw [hlen, HS2.out]
        exact hown3.kept (grownBy_setCell'' w3 G 1 _) (.inr (by simp [Value.ownBlock]; omega))
    · obtain rfl : j = k := by omega
      rw [List.take_of_length_le (by rw [← HK.out]; exact Nat.le_refl _)] at hown HM
      obtain ⟨hmm, a', c', e, _, hrd, hz⟩ := row_rdE hown
      cases e
      clear hmm
      have hCAN := Lib.hid (refCanon_any n a6 (chg (fun e : Ed => e.1 != e.2.1) (fun e : Ed => e) l) c6 wr hrd hI (by rw [← HM.out]; omega))
      rw [← HM.out, HR.out] at hCAN
      have g0 : wr.cell? ⟨G, 0, none⟩ = some (.int .i64 n) := hCG.cell 0
      have r0 : wr.cell? ⟨RB, 0, none⟩ = some (.int .i64 0) := hCR.cell 0
      have r1 : wr.cell? ⟨RB, 1, none⟩ = some (.slice none 0 0) := hCR.cell 1
      have f0 := hCR.frozen 0
      have f1 := hCR.frozen 1
      clear hrd hz hown
      go_wp2_with fail
      refine hCAN.out.mono ?_
      rintro x w1 ⟨v, rfl, hout, hb1⟩
      obtain ⟨⟨d1, o1⟩, rfl⟩ := regrown_of_below hb1
      obtain ⟨a', c', rfl, _⟩ := row_slice hout
      go_wp2_with fail
      refine bodyPost_ret (v := GV n a' R.length c') ?_ rfl ⟨_, rfl, ?_, ?_⟩
      · have hCF : CellsAt ((wr.setCell ⟨RB, 0, none⟩ (.int .i64 n)).setCell ⟨RB, 1, none⟩ (.slice a' R.length c')) RB 24 #[.int .i64 n, .slice a' R.length c'] := by simpa using (hCR.set 0 (.int .i64 n)).set 1 (.slice a' R.length c')
        have hCF2 := hCF.below (below_regrown _ d1 o1)
        have k0 : (grow (redrawn ((wr.setCell ⟨RB, 0, none⟩ (.int .i64 n)).setCell ⟨RB, 1, none⟩ (.slice a' R.length c')) d1) o1).cell? ⟨RB, 0, none⟩ = some (.int .i64 n) := hCF2.cell 0
        have k1 : (grow (redrawn ((wr.setCell ⟨RB, 0, none⟩ (.int .i64 n)).setCell ⟨RB, 1, none⟩ (.slice a' R.length c')) d1) o1).cell? ⟨RB, 1, none⟩ = some (.slice a' R.length c') := hCF2.cell 1
        simp [results, Try.results25, go_sem, k0, k1]
      · have hsz : ((wr.setCell ⟨RB, 0, none⟩ (.int .i64 n)).setCell ⟨RB, 1, none⟩ (.slice a' R.length c')).heap.size = wr.heap.size := by simp
        have h9 := row_regrown (X := wr) (X' := (wr.setCell ⟨RB, 0, none⟩ (.int .i64 n)).setCell ⟨RB, 1, none⟩ (.slice a' R.length c')) hsz hout
        exact row_mono h9 (by rw [hsz]; exact hB.size)
      · exact blg (bls (bls hB hR0 _) hR0 _) _ _


set_option maxRecDepth 100000 in
set_option maxHeartbeats 2000000 in
theorem refLower_any (n : Int) (a : Option Addr) (l : List Ed) (c : Nat) (w : World) (hr : RdE w a l) (hI : ∀ e ∈ chg (fun e : Ed => decide (e.2.1 < e.1)) (fun e : Ed => e) l, InE e) (hl : l.length ≤ 500) :
    Calls Try.prog 29 #[GV n a l.length c] w fun e w' => ∃ v, e = .returned (.agg #[.int .i64 n, v]) ∧ w'.ownsRow w.heap.size 41 3 v (canR (chg (fun e : Ed => decide (e.2.1 < e.1)) (fun e : Ed => e) l)).length (cellsE (canR (chg (fun e : Ed => decide (e.2.1 < e.1)) (fun e : Ed => e) l))) ∧ Below w.heap.size w w' := by
  obtain ⟨k, hk⟩ : ∃ k, k = l.length := ⟨_, rfl⟩
  rw [← hk] at hl ⊢
  have HK := Lib.hid hk
  clear hk
  generalize hR : canR (chg (fun e : Ed => decide (e.2.1 < e.1)) (fun e : Ed => e) l) = R
  have HR := Lib.hid hR
  clear hR
  go_enter Try.func29, Try.ntmps29
  go_wp2_with fail
  obtain ⟨V, hV⟩ : ∃ V, V = ((w.alloc (.cells #[.int .i64 n, .slice a k c] 24)).alloc (.cells #[.int .i64 0, .slice none 0 0] 24)).alloc (.cells #[.int .i64 n, .slice none 0 0] 24) := ⟨_, rfl⟩
  have hbV : Below w.heap.size w V := by rw [hV]; exact bl3 _ _ _ _
  have hCB : CellsAt V w.heap.size 24 #[.int .i64 n, .slice a k c] := by
    have h1 : CellsAt (w.alloc (.cells #[.int .i64 n, .slice a k c] 24)) w.heap.size 24 #[.int .i64 n, .slice a k c] := World.alloc_heap_new _ _
    rw [hV]; exact (h1.below (bl1 _ _)).below (bl1 _ _)
  have hCR : CellsAt V (w.heap.size + 1) 24 #[.int .i64 0, .slice none 0 0] := by
    have h1 : CellsAt ((w.alloc (.cells #[.int .i64 n, .slice a k c] 24)).alloc (.cells #[.int .i64 0, .slice none 0 0] 24)) (w.alloc (.cells #[.int .i64 n, .slice a k c] 24)).heap.size 24 #[.int .i64 0, .slice none 0 0] := World.alloc_heap_new _ _
    rw [World.size_alloc] at h1
    rw [hV]; exact h1.below (bl1 _ _)
  have hCG : CellsAt V (w.heap.size + 1 + 1) 24 #[.int .i64 n, .slice none 0 0] := by
    have h1 : CellsAt (((w.alloc (.cells #[.int .i64 n, .slice a k c] 24)).alloc (.cells #[.int .i64 0, .slice none 0 0] 24)).alloc (.cells #[.int .i64 n, .slice none 0 0] 24)) ((w.alloc (.cells #[.int .i64 n, .slice a k c] 24)).alloc (.cells #[.int .i64 0, .slice none 0 0] 24)).heap.size 24 #[.int .i64 n, .slice none 0 0] := World.alloc_heap_new _ _
    rw [World.size_alloc, World.size_alloc] at h1
    rw [hV]; exact h1
  rw [← hV]
  clear hV
  have hB0 : w.heap.size ≤ w.heap.size := Nat.le_refl _
  have hG0 : w.heap.size ≤ w.heap.size + 1 + 1 := by omega
  have hR0 : w.heap.size ≤ w.heap.size + 1 := by omega
  have hGR : w.heap.size + 1 ≠ w.heap.size + 1 + 1 := by omega
  have hGB : w.heap.size ≠ w.heap.size + 1 + 1 := by omega
  generalize w.heap.size + 1 + 1 = G at hCG hG0 hGR hGB ⊢
  generalize w.heap.size + 1 = RB at hCR hR0 hGR ⊢
  obtain ⟨Bx, hBx⟩ : ∃ Bx, Bx = w.heap.size := ⟨_, rfl⟩
  rw [← hBx] at hCB hGB hB0 ⊢
  have HBX := Lib.hid hBx
  clear hBx
  have hGV := hCG.lt
  have hRV := hCR.lt
  have hBV := hCB.lt
  go_loopw [4] (fun y wr => ∃ (j : Nat) (v : Value), y = .int .i64 (j : Int) ∧ j ≤ k ∧ CellsAt wr G 24 #[.int .i64 n, v] ∧ CellsAt wr RB 24 #[.int .i64 0, .slice none 0 0] ∧ CellsAt wr Bx 24 #[.int .i64 n, .slice a k c] ∧ wr.ownsRow V.heap.size 41 3 v (chg (fun e : Ed => decide (e.2.1 < e.1)) (fun e : Ed => e) (l.take j)).length (cellsE (chg (fun e : Ed => decide (e.2.1 < e.1)) (fun e : Ed => e) (l.take j))) ∧ Below w.heap.size w wr ∧ V.heap.size ≤ wr.heap.size) (fun y _ => k - (intOf y).toNat)
  case atStart => exact ⟨0, .slice none 0 0, rfl, by omega, hCG, hCR, hCB, World.ownsRow_nil _ _ _ _, by rw [HBX.out] at hB0; exact hbV, Nat.le_refl _⟩
  case round =>
    clear hCG hCR hCB hbV
    obtain ⟨j, v, rfl, hj, hCG, hCR, hCB, hown, hB, hVs⟩ := hrel
    obtain ⟨m, hm⟩ : ∃ m, m = (chg (fun e : Ed => decide (e.2.1 < e.1)) (fun e : Ed => e) (l.take j)).length := ⟨_, rfl⟩
    have hmj : m ≤ j := by rw [hm]; exact Nat.le_trans (chg_len _ _ _) (by simp; omega)
    rw [← hm] at hown
    have HM := Lib.hid hm
    clear hm
    obtain ⟨a6, c6, rfl, ha6⟩ := row_slice hown
    have kG := Has.of hCG.lt
    have kR := Has.of hCR.lt
    have kB := Has.of hCB.lt
    have g1 : wr.cell? ⟨G, 1, none⟩ = some (.slice a6 m c6) := hCG.cell 1
    have b1 : wr.cell? ⟨Bx, 1, none⟩ = some (.slice a k c) := hCB.cell 1
    by_cases hlt : (j : Int) < (k : Int)
    · obtain ⟨b, rfl, hbl, c0, c1, c2⟩ := (hr.below hB) j (by rw [← HK.out]; omega)
      have j0 : (0 : Int) ≤ (j : Int) := by omega
      have kb := Has.of hbl
      have HT := take_el (l := l) (j := j) (by rw [← HK.out]; omega)
      have HS := chg_snoc (fun e : Ed => decide (e.2.1 < e.1)) (fun e : Ed => e) (l.take j) (el l j)
      rw [← HT] at HS
      obtain ⟨ej, hej⟩ : ∃ ej, ej = el l j := ⟨_, rfl⟩
      rw [← hej] at c0 c1 c2 HS
      have HS' := Lib.hid HS
      clear hej HT HS
      have HQ : ((fun e : Ed => decide (e.2.1 < e.1))) ej = decide (ej.2.1 < ej.1) := rfl
      cases hkp : ((fun e : Ed => decide (e.2.1 < e.1))) ej
      · have HS3 := Lib.hid (HS'.out.trans (by rw [if_neg (fun h => by have h2 := hkp.symm.trans h; cases h2), List.append_nil]))
        rw [HQ] at hkp
        clear HQ
        simp at hkp
        go_wp2_with fail
        refine wp_region_quiet_below (by kernel_rfl) (by kernel_rfl) ?_
        repeat (go_big_quiet_step (fail))
        refine wpQuiet_nil ?_
        rintro _ ⟨⟨d2, o2⟩, rfl⟩
        go_wp2_with fail
        have hbW := below_regrown wr d2 o2
        refine ⟨⟨j + 1, _, by simp, by omega, hCG.below hbW, hCR.below hbW, hCB.below hbW, ?_, hB.trans (hbW.mono hB.size), Nat.le_trans hVs hbW.size⟩, by simp [intOf]; omega⟩
        rw [HS3.out, ← HM.out]
        exact row_below hown hbW
      · have HS2 := Lib.hid (HS'.out.trans (by rw [if_pos hkp]))
        rw [HQ] at hkp
        clear HQ
        simp at hkp
        go_wp2_with fail
        refine wp_region_quiet_below (by kernel_rfl) (by kernel_rfl) ?_
        repeat (go_big_quiet_step (fail))
        refine wpQuiet_nil ?_
        rintro _ ⟨⟨d2, o2⟩, rfl⟩
        go_wp2_with fail
        refine wp_region_lay (W := wr) 7 (by kernel_rfl) (gr_two _ _ _) rfl rfl (by kernel_rfl) ?_
        simp only [List.take_succ_cons, List.take_zero, List.drop_succ_cons, List.drop_zero]
        repeat (refine wpFirm_step (fun K hK => ?_); go_simp; first
          | (refine hK _ ?_; clear hK K)
          | fail)
        refine wpFirm_nil ?_
        refine ⟨fun k => .slice (some ⟨k, 0, none⟩) 1 1, .cells #[.int .i64 ((fun e : Ed => e) ej).1, .int .i64 ((fun e : Ed => e) ej).2.1, .int .i64 ((fun e : Ed => e) ej).2.2] 41, fun w => by first | (go_simp; done) | (go_simp; rfl), ?_⟩
        intro d3 o3 d4 o4
        obtain ⟨hX, hbX⟩ := laid_rdE wr d3 d4 o3 o4 ((fun e : Ed => e) ej)
        generalize grow (redrawn ((grow (redrawn wr d3) o3).alloc (.cells #[.int .i64 ((fun e : Ed => e) ej).1, .int .i64 ((fun e : Ed => e) ej).2.1, .int .i64 ((fun e : Ed => e) ej).2.2] 41)) d4) o4 = U2 at hX hbX ⊢
        generalize wr.heap.size + o3.size = X at hX ⊢
        have hown2 := row_below hown hbX
        have hG2 := hCG.below hbX
        have hR2 := hCR.below hbX
        have hBx2 := hCB.below hbX
        have hB2 := hB.trans (hbX.mono hB.size)
        have hV2 := Nat.le_trans hVs hbX.size
        have hmb : m ≤ 1000 := by omega
        clear hown hCG hCR hCB hB hVs g1 b1 kG kR kB c0 c1 c2 kb
        go_wp2_with (refine wpList_append_rdE rfl _ _ rfl V.heap.size _ m (chg (fun e : Ed => decide (e.2.1 < e.1)) (fun e : Ed => e) (l.take j)) rfl hown2 _ 1 1 [(fun e : Ed => e) ej] rfl rfl hX (by simp) (by omega) (by omega) ?_; intro v' w3 hown3 hg3 hat3; obtain ⟨g', c', rfl, hgb, hgl⟩ := row_one hown3 (by omega); have hG3 := hG2.grown hg3 (fun e => by have := (hown2.lt G e.symm).1; omega); have hR3 := hR2.grown hg3 (fun e => by have := (hown2.lt RB e.symm).1; omega); have hBx3 := hBx2.grown hg3 (fun e => by have := (hown2.lt Bx e.symm).1; omega); have t1 := hG3.cell 1; have tf := hG3.frozen 1; have kG3 := Has.of hG3.lt)
        have hB3 : Below w.heap.size w w3 := hB2.trans (below_app hg3 (fun q hq => Nat.le_trans (by have := HBX.out; omega) (hown2.lt q hq).1) hB2.size)
        have hs3 := hg3.size
        refine ⟨⟨j + 1, .slice (some ⟨g', 0, none⟩) (m + 1) c', by simp, by omega, by simpa using hG3.set 1 (.slice (some ⟨g', 0, none⟩) (m + 1) c'), cells_other hR3 hGR _ _, cells_other hBx3 hGB _ _, ?_, bls hB3 hG0 _, by simp; omega⟩, by simp [intOf]; omega⟩
        have hlen : (chg (fun e : Ed => decide (e.2.1 < e.1)) (fun e : Ed => e) (l.take (j + 1))).length = m + 1 := by rw [HS2.out, List.length_append, ← HM.out]; rfl
        rw [hlen, HS2.out]
        exact hown3.kept (grownBy_setCell'' w3 G 1 _) (.inr (by simp [Value.ownBlock]; omega))
    · obtain rfl : j = k := by omega
      rw [List.take_of_length_le (by rw [← HK.out]; exact Nat.le_refl _)] at hown HM
      obtain ⟨hmm, a', c', e, _, hrd, hz⟩ := row_rdE hown
      cases e
      clear hmm
      have hCAN := Lib.hid (refCanon_any n a6 (chg (fun e : Ed => decide (e.2.1 < e.1)) (fun e : Ed => e) l) c6 wr hrd hI (by rw [← HM.out]; omega))
      rw [← HM.out, HR.out] at hCAN
      have g0 : wr.cell? ⟨G, 0, none⟩ = some (.int .i64 n) := hCG.cell 0
      have r0 : wr.cell? ⟨RB, 0, none⟩ = some (.int .i64 0) := hCR.cell 0
      have r1 : wr.cell? ⟨RB, 1, none⟩ = some (.slice none 0 0) := hCR.cell 1
      have f0 := hCR.frozen 0
      have f1 := hCR.frozen 1
      clear hrd hz hown
      go_wp2_with fail
      refine hCAN.out.mono ?_
      rintro x w1 ⟨v, rfl, hout, hb1⟩
      obtain ⟨⟨d1, o1⟩, rfl⟩ := regrown_of_below hb1
      obtain ⟨a', c', rfl, _⟩ := row_slice hout
      go_wp2_with fail
      refine bodyPost_ret (v := GV n a' R.length c') ?_ rfl ⟨_, rfl, ?_, ?_⟩
      · have hCF : CellsAt ((wr.setCell ⟨RB, 0, none⟩ (.int .i64 n)).setCell ⟨RB, 1, none⟩ (.slice a' R.length c')) RB 24 #[.int .i64 n, .slice a' R.length c'] := by simpa using (hCR.set 0 (.int .i64 n)).set 1 (.slice a' R.length c')
        have hCF2 := hCF.below (below_regrown _ d1 o1)
        have k0 : (grow (redrawn ((wr.setCell ⟨RB, 0, none⟩ (.int .i64 n)).setCell ⟨RB, 1, none⟩ (.slice a' R.length c')) d1) o1).cell? ⟨RB, 0, none⟩ = some (.int .i64 n) := hCF2.cell 0
        have k1 : (grow (redrawn ((wr.setCell ⟨RB, 0, none⟩ (.int .i64 n)).setCell ⟨RB, 1, none⟩ (.slice a' R.length c')) d1) o1).cell? ⟨RB, 1, none⟩ = some (.slice a' R.length c') := hCF2.cell 1
        simp [results, Try.results29, go_sem, k0, k1]
      · have hsz : ((wr.setCell ⟨RB, 0, none⟩ (.int .i64 n)).setCell ⟨RB, 1, none⟩ (.slice a' R.length c')).heap.size = wr.heap.size := by simp
        have h9 := row_regrown (X := wr) (X' := (wr.setCell ⟨RB, 0, none⟩ (.int .i64 n)).setCell ⟨RB, 1, none⟩ (.slice a' R.length c')) hsz hout
        exact row_mono h9 (by rw [hsz]; exact hB.size)
      · exact blg (bls (bls hB hR0 _) hR0 _) _ _


theorem chg_all (ch : Ed → Ed) (l : List Ed) : chg (fun _ => true) ch l = l.map ch := by
  unfold chg; rw [List.filter_eq_self.2 (by simp)]

set_option maxRecDepth 100000 in
set_option maxHeartbeats 2000000 in
theorem refBoth_any (n : Int) (a : Option Addr) (l : List Ed) (c : Nat) (w : World) (hr : RdE w a l) (hz : a = none → c = 0 ∧ l.length = 0) (hI1 : ∀ e ∈ chg (fun _ => true) turnE l, InE e) (hI : ∀ e ∈ canR (chg (fun _ => true) turnE l) ++ l, InE e) (hl : l.length ≤ 400) (hl2 : (canR (chg (fun _ => true) turnE l)).length ≤ 400) :
    Calls Try.prog 23 #[GV n a l.length c] w fun e w' => ∃ v, e = .returned (.agg #[.int .i64 n, v]) ∧ w'.ownsRow w.heap.size 41 3 v (canR (canR (chg (fun _ => true) turnE l) ++ l)).length (cellsE (canR (canR (chg (fun _ => true) turnE l) ++ l))) ∧ Below w.heap.size w w' := by
  have HTU := Lib.hid (fun W (hb : Below w.heap.size w W) => refTurn_any n a l c W (hr.below hb) hI1 (by omega))
  generalize canR (chg (fun _ => true) turnE l) = T at HTU hI hl2 ⊢
  have HCA := Lib.hid (fun (a6 : Option Addr) (c6 : Nat) (W : World) (h : RdE W a6 (T ++ l)) => refCanon_any n a6 (T ++ l) c6 W h hI (by simp; omega))
  generalize canR (T ++ l) = R at HCA ⊢
  obtain ⟨k, hk⟩ : ∃ k, k = l.length := ⟨_, rfl⟩
  obtain ⟨m, hm⟩ : ∃ m, m = T.length := ⟨_, rfl⟩
  rw [List.length_append, ← hm, ← hk] at HCA
  rw [← hk] at hl HTU hz ⊢
  rw [← hm] at hl2 HTU
  have HK := Lib.hid hk
  have HM := Lib.hid hm
  clear hk hm
  obtain ⟨V, hV⟩ : ∃ V, V = (w.alloc (.cells #[.int .i64 n, .slice a k c] 24)).alloc (.cells #[.int .i64 0, .slice none 0 0] 24) := ⟨_, rfl⟩
  have hbV : Below w.heap.size w V := by rw [hV]; exact bl2 _ _ _
  have hCB : CellsAt V w.heap.size 24 #[.int .i64 n, .slice a k c] := by
    have h1 : CellsAt (w.alloc (.cells #[.int .i64 n, .slice a k c] 24)) w.heap.size 24 #[.int .i64 n, .slice a k c] := World.alloc_heap_new _ _
    rw [hV]; exact h1.below (bl1 _ _)
  have hCR : CellsAt V (w.heap.size + 1) 24 #[.int .i64 0, .slice none 0 0] := by
    have h1 : CellsAt ((w.alloc (.cells #[.int .i64 n, .slice a k c] 24)).alloc (.cells #[.int .i64 0, .slice none 0 0] 24)) (w.alloc (.cells #[.int .i64 n, .slice a k c] 24)).heap.size 24 #[.int .i64 0, .slice none 0 0] := World.alloc_heap_new _ _
    rw [World.size_alloc] at h1
    rw [hV]; exact h1
  go_enter Try.func23, Try.ntmps23
  go_wp2_with fail
  rw [← hV]
  clear hV
  have hR0 : w.heap.size ≤ w.heap.size + 1 := by omega
  generalize w.heap.size + 1 = RB at hCR hR0 ⊢
  refine (HTU.out V hbV).mono ?_
  rintro x w1 ⟨v, rfl, hrow, hb1⟩
  obtain ⟨a6, c6, rfl, ha6⟩ := row_slice hrow
  have hC1 := hCB.below hb1
  have hR1 := hCR.below hb1
  have hB1 := hbV.trans (hb1.mono hbV.size)
  obtain ⟨U, hU⟩ : ∃ U, U = w1.alloc (.cells #[.int .i64 n, .slice a6 m c6] 24) := ⟨_, rfl⟩
  have hG : CellsAt U w1.heap.size 24 #[.int .i64 n, .slice a6 m c6] := by rw [hU]; exact World.alloc_heap_new _ _
  have hbU : Below w1.heap.size w1 U := by rw [hU]; exact bl1 _ _
  have hCU := hC1.below hbU
  have hRU := hR1.below hbU
  have hrowU := row_below hrow hbU
  have hBU := hB1.trans (hbU.mono hB1.size)
  have hne : ∀ q, (Value.slice a6 m c6).ownBlock = some q → q < w1.heap.size := fun q hq => (hrow.lt q hq).2
  have hVs := hb1.size
  have b1 : w1.cell? ⟨w.heap.size, 1, none⟩ = some (.slice a k c) := hC1.cell 1
  have kB := Has.of hC1.lt
  have hVU : V.heap.size ≤ U.heap.size := Nat.le_trans hVs hbU.size
  have hUG : w1.heap.size < U.heap.size := hG.lt
  have hRG : RB ≠ w1.heap.size := by have := hR1.lt; omega
  subst hU
  go_wp2_with (refine wpList_append_rdE rfl _ _ rfl V.heap.size _ m T rfl hrowU a k c l rfl HK.out (hr.below hBU) hz (by omega) hVU ?_; intro v' w3 hown3 hg3 hat3; obtain ⟨a7, c7, rfl, ha7⟩ := row_slice hown3; have hG3 := hG.grown hg3 (fun e => by have := hne _ e.symm; omega); have hR3 := hRU.grown hg3 (fun e => by have := (hrow.lt RB e.symm).1; have := hCR.lt; omega); have t0 := hG3.cell 0; have t1 := hG3.cell 1; have tf := hG3.frozen 1; have kG3 := Has.of hG3.lt)
  have hB3 : Below w.heap.size w w3 := hBU.trans (below_app hg3 (fun q hq => Nat.le_trans hbV.size (hrow.lt q hq).1) hBU.size)
  have hgG : (Value.slice a7 (m + k) c7).ownBlock ≠ some w1.heap.size := by
    rcases hat3 with e | e
    · intro h; have := hne _ (e.symm.trans h); omega
    · intro h; rw [e] at h; simp at h
  have hown4 := hown3.kept (grownBy_setCell'' w3 w1.heap.size 1 (.slice a7 (m + k) c7)) (.inr hgG)
  have hR4 := cells_other hR3 hRG (.slice a7 (m + k) c7) 1
  have hB4 : Below w.heap.size w (w3.setCell ⟨w1.heap.size, 1, none⟩ (.slice a7 (m + k) c7)) := bls hB3 (show w.heap.size ≤ (⟨w1.heap.size, 1, none⟩ : Addr).block from hB1.size) _
  have hrd4 : RdE (w3.setCell ⟨w1.heap.size, 1, none⟩ (.slice a7 (m + k) c7)) a7 (T ++ l) := by
    obtain ⟨_, a', c', e, _, hrd, _⟩ := row_rdE hown4
    cases e; exact hrd
  generalize w3.setCell ⟨w1.heap.size, 1, none⟩ (.slice a7 (m + k) c7) = W4 at hown4 hR4 hB4 hrd4 ⊢
  refine (HCA.out a7 c7 W4 hrd4).mono ?_
  rintro x w5 ⟨v, rfl, hout, hb5⟩
  obtain ⟨⟨d1, o1⟩, rfl⟩ := regrown_of_below hb5
  obtain ⟨a', c', rfl, _⟩ := row_slice hout
  have r0 : W4.cell? ⟨RB, 0, none⟩ = some (.int .i64 0) := hR4.cell 0
  have r1 : W4.cell? ⟨RB, 1, none⟩ = some (.slice none 0 0) := hR4.cell 1
  have f0 := hR4.frozen 0
  have f1 := hR4.frozen 1
  have kR := Has.of hR4.lt
  go_wp2_with fail
  refine bodyPost_ret (v := GV n a' R.length c') ?_ rfl ⟨_, rfl, ?_, ?_⟩
  · have hCF : CellsAt ((W4.setCell ⟨RB, 0, none⟩ (.int .i64 n)).setCell ⟨RB, 1, none⟩ (.slice a' R.length c')) RB 24 #[.int .i64 n, .slice a' R.length c'] := by simpa using (hR4.set 0 (.int .i64 n)).set 1 (.slice a' R.length c')
    have hCF2 := hCF.below (below_regrown _ d1 o1)
    have k0 : (grow (redrawn ((W4.setCell ⟨RB, 0, none⟩ (.int .i64 n)).setCell ⟨RB, 1, none⟩ (.slice a' R.length c')) d1) o1).cell? ⟨RB, 0, none⟩ = some (.int .i64 n) := hCF2.cell 0
    have k1 : (grow (redrawn ((W4.setCell ⟨RB, 0, none⟩ (.int .i64 n)).setCell ⟨RB, 1, none⟩ (.slice a' R.length c')) d1) o1).cell? ⟨RB, 1, none⟩ = some (.slice a' R.length c') := hCF2.cell 1
    simp [results, Try.results23, go_sem, k0, k1]
  · have hsz : ((W4.setCell ⟨RB, 0, none⟩ (.int .i64 n)).setCell ⟨RB, 1, none⟩ (.slice a' R.length c')).heap.size = W4.heap.size := by simp
    have h9 := row_regrown (X := W4) (X' := (W4.setCell ⟨RB, 0, none⟩ (.int .i64 n)).setCell ⟨RB, 1, none⟩ (.slice a' R.length c')) hsz hout
    exact row_mono h9 (by rw [hsz]; exact hB4.size)
  · exact blg (bls (bls hB4 hR0 _) hR0 _) _ _
end Go.Proofs.Ytfaddlpemhifpaa
