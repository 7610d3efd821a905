/- Package octet: ONCE SOMETHING IS WRONG IT STAYS: the law. -/
import Derived.Test.YtccgpjhfgmonpaaOct21
namespace Go.Proofs.Ytccgpjhfgmonpaa
open Go.RowKit Go.Sort
set_option linter.unusedVariables false
set_option linter.unusedSimpArgs false

set_option maxRecDepth 100000 in
set_option maxHeartbeats 4000000 in
theorem octetStays_law (a0 a1 : Option Addr) (n0 c0 n1 c1 : Nat) (f K N : Nat → Int) (w : World) (hr : Rd8 w a0 n0 f) (hc : n0 ≤ c0) (hz : a0 = none → c0 = 0 ∧ n0 = 0) (hl : RdR w a1 n1 K N) :
    Calls Try.prog 6 #[.slice a0 n0 c0, .slice a1 n1 c1] w fun e w' => e = .returned (.bool true) ∧ Below w.heap.size w w' := by
  by_cases hbig : (2000 : Int) < (n0 : Int)
  · go_enter Try.func6, Try.ntmps6
    go_wp2_with fail
    refine (live_any w).mono ?_
    rintro x W0 ⟨rfl, hb0⟩
    go_wp2_with fail
    go_ret
    exact ⟨rfl, hb0⟩
  have hn0 : n0 ≤ 2000 := by omega
  go_enter Try.func6, Try.ntmps6
  go_wp2_with fail
  refine (oOpen_any a0 n0 c0 f w hr (by omega) hc).mono ?_
  rintro x W1 ⟨R, g, rfl, hR1, hg1, hgR, lR, lg, ugx, hb1⟩
  have hr1 := rd8_below hr hb1
  have uR1 := hR1.lt
  go_wp2_with fail
  refine (rOpen_any a0 n0 c0 f W1 hr1 (by omega) hc hz).mono ?_
  rintro x W2 ⟨S, a', c', rfl, hS2, hs2, hcc, hsb, hzz, lS, hb2⟩
  have hR2 := hR1.below hb2
  have hg2 := rd8_below hg1 hb2
  have hB2 : Below w.heap.size w W2 := hb1.trans (hb2.mono hb1.size)
  clear hR1 hg1 hr1 hb2 hr
  go_wp2_with fail
  have uS2 := hS2.lt
  have uR2 := hR2.lt
  have bx := bl1 W2 (.cells #[.pointer (some ⟨R, 0, none⟩), .pointer (some ⟨S, 0, none⟩)] 30)
  have bX : CellsAt (W2.alloc (.cells #[.pointer (some ⟨R, 0, none⟩), .pointer (some ⟨S, 0, none⟩)] 30)) W2.heap.size 30 #[.pointer (some ⟨R, 0, none⟩), .pointer (some ⟨S, 0, none⟩)] := World.alloc_heap_new W2 _
  have hR3 := hR2.below bx
  have hS3 := hS2.below bx
  have hg3 := rd8_below hg2 bx
  have hs3 := rd8_below hs2 bx
  have hB3 := hB2.trans (bx.mono hB2.size)
  have hRS : R ≠ S := by omega
  have m1 : ∀ b, (some ⟨g, 0, none⟩ : Option Addr) = some b → b.block ≠ R ∧ b.block ≠ S := fun b hb => by cases hb; exact ⟨hgR, by simp; omega⟩
  have m2 : ∀ b, a' = some b → b.block ≠ R ∧ b.block ≠ S := fun b hb => by have := hsb b hb; exact ⟨by omega, this.1⟩
  have hlX : w.heap.size ≤ W2.heap.size := hB2.size
  have lS' : w.heap.size ≤ S := Nat.le_trans hb1.size lS
  have hXR : W2.heap.size ≠ R := by omega
  have hXS : W2.heap.size ≠ S := by omega
  clear hR2 hS2 hg2 hs2 hB2 bx uS2 uR2 hsb lS lg ugx hgR uR1 hb1
  obtain ⟨X, hX⟩ : ∃ X, X = W2.heap.size := ⟨_, rfl⟩
  simp only [← hX] at bX hlX hXR hXS ⊢
  clear hX
  generalize W2.alloc (.cells #[.pointer (some ⟨R, 0, none⟩), .pointer (some ⟨S, 0, none⟩)] 30) = V at bX hR3 hS3 hg3 hs3 hB3 ⊢
  have HC := Lib.hid hcc
  clear hcc hz hc
  have HZ := Lib.hid hzz
  clear hzz
  go_loopw [6] (fun z wr => ∃ (i p : Nat) (e fa : Int), z = .int .i64 i ∧ i ≤ 40 ∧ p ≤ n0 ∧ CellsAt wr R 55 (rdr (.slice (some ⟨g, 0, none⟩) n0 n0) p e fa) ∧ CellsAt wr S 57 (rdr (.slice a' n0 c') p e fa) ∧ CellsAt wr X 30 #[.pointer (some ⟨R, 0, none⟩), .pointer (some ⟨S, 0, none⟩)] ∧ Rd8 wr (some ⟨g, 0, none⟩) n0 f ∧ Rd8 wr a' n0 f ∧ Below w.heap.size w wr) (fun z _ => 40 - (intOf z).toNat)
  case atStart => exact ⟨0, 0, 0, 0, rfl, by omega, by omega, hR3, hS3, bX, hg3, hs3, hB3⟩
  case round =>
    clear hR3 hS3 bX hg3 hs3 hB3
    obtain ⟨i, p, e, fa, rfl, hi, hp, hR, hS, hX, hg, hs, hB⟩ := hrel
    by_cases hlt : (i : Int) < n1 ∧ (i : Int) < 40
    · obtain ⟨h1, h2⟩ := hlt
      obtain ⟨b, rfl, hbw, _, _⟩ := hl i (by omega)
      obtain ⟨b', eb, hbl, cb0, cb1⟩ := (hl.below hB) i (by omega)
      cases eb
      have i0 : (0 : Int) ≤ (i : Int) := by omega
      have cX0 : wr.cell? ⟨X, 0, none⟩ = some (.pointer (some ⟨R, 0, none⟩)) := hX.cell 0
      have cX1 : wr.cell? ⟨X, 1, none⟩ = some (.pointer (some ⟨S, 0, none⟩)) := hX.cell 1
      have kX := Has.of hX.lt
      have kB := Has.of hbl
      have kp : ∀ W : World, Below wr.heap.size wr W → W.cell? ⟨X, 0, none⟩ = some (.pointer (some ⟨R, 0, none⟩)) ∧ Below wr.heap.size wr W := fun W hW => ⟨(hX.below hW).cell 0, hW⟩
      have FO := Lib.hid (show ∀ W : World, Below wr.heap.size wr W → Calls Try.prog 19 #[.pointer (some ⟨R, 0, none⟩)] W (fun x w' => x = .returned (.agg #[.int .i64 e, .int .i64 fa]) ∧ Below wr.heap.size wr w' ∧ Below W.heap.size W w') from fun W hW => (oFault_any R _ p e fa W (hR.below hW)).mono fun x w' ⟨h1, h2⟩ => ⟨h1, hW.trans (h2.mono hW.size), h2⟩)
      have AO := Lib.hid (show ∀ W : World, Below wr.heap.size wr W → Calls Try.prog 16 #[.pointer (some ⟨R, 0, none⟩)] W (fun x w' => x = .returned (.int .i64 p) ∧ Below wr.heap.size wr w' ∧ Below W.heap.size W w') from fun W hW => (oAt_any R _ p e fa W (hR.below hW)).mono fun x w' ⟨h1, h2⟩ => ⟨h1, hW.trans (h2.mono hW.size), h2⟩)
      go_wp2_with fail
      go_region_held3 (fun w' => w'.cell? ⟨X, 0, none⟩ = some (.pointer (some ⟨R, 0, none⟩)) ∧ Below wr.heap.size wr w')
        (first | exact kp _ (Below.refl _ _) | exact kp _ (Below.refl _ wr).drew | exact kp _ ((Below.refl _ wr).drew.alloc (Nat.le_refl _) _) | exact kp _ ((Below.refl _ wr).alloc (Nat.le_refl _) _) | exact kp _ h9 | exact kp _ (h9.alloc h9.size _) | exact kp _ h10 | exact kp _ (h10.alloc h10.size _) | exact kp _ ((h10.setCell (Nat.le_refl _) _).setCell (Nat.le_refl _) _) | exact kp _ ((h10.setCell h9.size _).setCell h9.size _) | exact kp _ (((h10.alloc h10.size _).setCell h10.size _).setCell h10.size _) | exact kp _ (h10.alloc h10.size _))
        (first
          | (go_at_call 19; refine (FO.out _ (by first | exact Below.refl _ _ | exact (Below.refl _ wr).drew | exact (Below.refl _ wr).drew.alloc (Nat.le_refl _) _ | exact (Below.refl _ wr).alloc (Nat.le_refl _) _)).mono ?_; rintro x W9 ⟨rfl, h9, hb9⟩; try have zA : CellsAt W9 wr.heap.size 43 #[.int .i64 0, .int .i64 0] := CellsAt.below (World.alloc_heap_new wr.drew _) hb9)
          | (go_at_call 16; refine (AO.out _ (by first | exact h9 | exact h9.alloc h9.size _)).mono ?_; rintro x W10 ⟨rfl, h10, hb10⟩; (first | (have zB : CellsAt W10 wr.heap.size 43 #[.int .i64 0, .int .i64 0] := zA.below hb10; have zc0 : W10.cell? ⟨wr.heap.size, 0, none⟩ = some (.int .i64 0) := zB.cell 0; have zc1 : W10.cell? ⟨wr.heap.size, 1, none⟩ = some (.int .i64 0) := zB.cell 1; have zf0 := zB.frozen 0; have zf1 := zB.frozen 1; have zH : Has W10 wr.heap.size := Has.of zB.lt) | (have zB : CellsAt W10 W9.heap.size 43 #[.int .i64 0, .int .i64 0] := CellsAt.below (World.alloc_heap_new W9 _) hb10; have zc0 : W10.cell? ⟨W9.heap.size, 0, none⟩ = some (.int .i64 0) := zB.cell 0; have zc1 : W10.cell? ⟨W9.heap.size, 1, none⟩ = some (.int .i64 0) := zB.cell 1; have zf0 := zB.frozen 0; have zf1 := zB.frozen 1; have zH : Has W10 W9.heap.size := Has.of zB.lt) | skip)))
      · have hV : Below wr.heap.size wr ((W10.alloc (.cells #[.int .i64 e, .int .i64 fa] 43))) := h10.alloc h10.size _
        have hAV : CellsAt ((W10.alloc (.cells #[.int .i64 e, .int .i64 fa] 43))) (W10.heap.size) 43 #[.int .i64 e, .int .i64 fa] := World.alloc_heap_new W10 _
        obtain ⟨A, hA0⟩ : ∃ A, A = W10.heap.size := ⟨_, rfl⟩
        have hAle : wr.heap.size ≤ A := by rw [hA0]; exact h10.size
        generalize (W10.alloc (.cells #[.int .i64 e, .int .i64 fa] 43)) = V at hAV hV ⊢
        rw [← hA0] at hAV
        simp only [← hA0]
        clear hA0
        clear h10
        have hRV := hR.below hV
        have hSV := hS.below hV
        have hXV := hX.below hV
        have hgV := rd8_below hg hV
        have hsV := rd8_below hs hV
        have hBV := hB.trans (hV.mono hB.size)
        have uR := hR.lt
        have uS := hS.lt
        have hAR : A ≠ R := by omega
        have hAS : A ≠ S := by omega
        have hbV : b.block < V.heap.size := Nat.lt_of_lt_of_le hbl hV.size
        have hkV := hV.block b.block hbl
        have vb0 : V.cell? (b.add (i * 2)) = some (.int .i64 (K i)) := (cell_of_block (by rw [blk_add]; exact hkV)).trans cb0
        have vb1 : V.cell? ⟨b.block, (b.add (i * 2)).off + 1, none⟩ = some (.int .i64 (N i)) := (cell_of_block (p := ⟨b.block, (b.add (i * 2)).off + 1, none⟩) hkV).trans cb1
        have v0 : V.cell? ⟨X, 0, none⟩ = some (.pointer (some ⟨R, 0, none⟩)) := hXV.cell 0
        have v1 : V.cell? ⟨X, 1, none⟩ = some (.pointer (some ⟨S, 0, none⟩)) := hXV.cell 1
        have v2 := vb0
        have v3 := vb1
        have v4 : V.cell? ⟨A, 0, none⟩ = some (.int .i64 e) := hAV.cell 0
        have v5 : V.cell? ⟨A, 1, none⟩ = some (.int .i64 fa) := hAV.cell 1
        have CB := Lib.hid (show ∀ W : World, W.heap = V.heap → Calls Try.prog 10 #[.agg #[.pointer (some ⟨R, 0, none⟩), .pointer (some ⟨S, 0, none⟩)], .agg #[.int .i64 (K i), .int .i64 (N i)]] W _ from fun W hW => both_any (K i) R S (some ⟨g, 0, none⟩) a' n0 n0 c' p e fa (N i) f W (by unfold CellsAt; rw [hW]; exact hRV) (by unfold CellsAt; rw [hW]; exact hSV) (fun j hj => by obtain ⟨b, h1, h2, h3, h4⟩ := hgV j hj; exact ⟨b, h1, by rw [hW]; exact h2, by unfold World.cell?; rw [hW]; exact h3, h4⟩) (fun j hj => by obtain ⟨b, h1, h2, h3, h4⟩ := hsV j hj; exact ⟨b, h1, by rw [hW]; exact h2, by unfold World.cell?; rw [hW]; exact h3, h4⟩) m1 m2 hRS HZ.out (Nat.le_refl _) HC.out (by omega) hp)
        clear hR hS hX hg hs hB kp FO AO cX0 cX1 cb0 cb1 kX kB
        have kX := Has.of hXV.lt
        have kB := Has.of hbV
        have kA := Has.of hAV.lt
        by_cases he : e = 0
        · have hE : (e != 0) = false := by simp [he]
          clear he
          go_wp2_with fail
          refine wp_region_held_drew (S := (fun w' => w'.cell? ⟨X, 0, none⟩ = some (.pointer (some ⟨R, 0, none⟩)) ∧ w'.cell? ⟨X, 1, none⟩ = some (.pointer (some ⟨S, 0, none⟩)) ∧ w'.cell? (b.add (i * 2)) = some (.int .i64 (K i)) ∧ w'.cell? ⟨b.block, (b.add (i * 2)).off + 1, none⟩ = some (.int .i64 (N i)) ∧ w'.cell? ⟨A, 0, none⟩ = some (.int .i64 e) ∧ w'.cell? ⟨A, 1, none⟩ = some (.int .i64 fa))) (by kernel_rfl) ⟨v0, v1, v2, v3, v4, v5⟩ (fun hHeld => ?_)
          refine wpAnyH_take (i := 0) (v := ?_) rfl (by kernel_rfl) (by kernel_rfl) (by kernel_rfl) (fun _ _ _ h => h) (Or.inl ⟨by kernel_rfl, ?_⟩) (by assumption) ?_
          rotate_left
          · intro w hSw
            try dsimp only at hSw
            go_simp
            try with_reducible rfl
          (try simp only [List.getElem_toArray, List.getElem_cons_zero, List.getElem_cons_succ]); (try simp only [Act.put, List.setIfInBounds_toArray, List.set_cons_zero, List.set_cons_succ])
          refine wpAnyH_take (i := 1) (v := ?_) rfl (by kernel_rfl) (by kernel_rfl) (by kernel_rfl) (fun _ _ _ h => h) (Or.inl ⟨by kernel_rfl, ?_⟩) (by assumption) ?_
          rotate_left
          · intro w hSw
            try dsimp only at hSw
            go_simp
            try with_reducible rfl
          (try simp only [List.getElem_toArray, List.getElem_cons_zero, List.getElem_cons_succ]); (try simp only [Act.put, List.setIfInBounds_toArray, List.set_cons_zero, List.set_cons_succ])
          refine wpAnyH_take (i := 2) (v := ?_) rfl (by kernel_rfl) (by kernel_rfl) (by kernel_rfl) (fun _ _ _ h => h) (Or.inl ⟨by kernel_rfl, ?_⟩) (by assumption) ?_
          rotate_left
          · intro w hSw
            try dsimp only at hSw
            go_simp
            try with_reducible rfl
          (try simp only [List.getElem_toArray, List.getElem_cons_zero, List.getElem_cons_succ]); (try simp only [Act.put, List.setIfInBounds_toArray, List.set_cons_zero, List.set_cons_succ])
          refine wpAnyH_take (i := 3) (v := ?_) rfl (by kernel_rfl) (by kernel_rfl) (by kernel_rfl) (fun _ _ _ h => h) (Or.inl ⟨by kernel_rfl, ?_⟩) (by assumption) ?_
          rotate_left
          · intro w hSw
            try dsimp only at hSw
            go_simp
            try with_reducible rfl
          (try simp only [List.getElem_toArray, List.getElem_cons_zero, List.getElem_cons_succ]); (try simp only [Act.put, List.setIfInBounds_toArray, List.set_cons_zero, List.set_cons_succ])
          refine wpAnyH_take (i := 4) (v := ?_) rfl (by kernel_rfl) (by kernel_rfl) (by kernel_rfl) (fun _ _ _ h => h) (Or.inl ⟨by kernel_rfl, ?_⟩) (by assumption) ?_
          rotate_left
          · intro w hSw
            try dsimp only at hSw
            go_simp
            try with_reducible rfl
          (try simp only [List.getElem_toArray, List.getElem_cons_zero, List.getElem_cons_succ]); (try simp only [Act.put, List.setIfInBounds_toArray, List.set_cons_zero, List.set_cons_succ])
          refine wpAnyH_ready (rs := [5]) (by kernel_rfl) (by simp) (AllReadyH.cons rfl (fun K9 hK9 => ?_) AllReadyH.nil)
          try simp only [List.getElem_toArray, List.getElem_cons_zero, List.getElem_cons_succ]
          rw [if_pos (by rfl)]
          go_wp2_with fail
          go_at_call 10; refine (CB.out V.drew rfl).mono ?_; clear CB; rintro x U1 ⟨p9, e9, fa9, rfl, hA9, hR9, hS9, k9⟩; have k8 : Keep2 R S V U1 := ⟨k9.os, k9.tape, k9.output, k9.size, k9.block⟩; have hX9 := hXV.keep2 k8 hXR hXS; have hAc := hAV.keep2 k8 hAR hAS; have hk8 := k8.block b.block hbV (by omega) (by omega); have s0 : U1.cell? ⟨X, 0, none⟩ = some (.pointer (some ⟨R, 0, none⟩)) := hX9.cell 0; have s1 : U1.cell? ⟨X, 1, none⟩ = some (.pointer (some ⟨S, 0, none⟩)) := hX9.cell 1; have s2 : U1.cell? (b.add (i * 2)) = some (.int .i64 (K i)) := (cell_of_block (by rw [blk_add]; exact hk8)).trans vb0; have s3 : U1.cell? ⟨b.block, (b.add (i * 2)).off + 1, none⟩ = some (.int .i64 (N i)) := (cell_of_block (p := ⟨b.block, (b.add (i * 2)).off + 1, none⟩) hk8).trans vb1; have s4 : U1.cell? ⟨A, 0, none⟩ = some (.int .i64 e) := hAc.cell 0; have s5 : U1.cell? ⟨A, 1, none⟩ = some (.int .i64 fa) := hAc.cell 1
          go_wp2_with fail
          refine hK9.out _ _ ⟨s0, s1, s2, s3, s4, s5⟩ (fun hHeld9 => ?_)
          clear hK9 K9
          (try simp only [List.getElem_toArray, List.getElem_cons_zero, List.getElem_cons_succ]); (try simp only [Act.put, List.setIfInBounds_toArray, List.set_cons_zero, List.set_cons_succ])
          refine wpAnyH_take (i := 6) (v := ?_) rfl (by kernel_rfl) (by kernel_rfl) (by kernel_rfl) (fun _ _ _ h => h) (Or.inl ⟨by kernel_rfl, ?_⟩) (by assumption) ?_
          rotate_left
          · intro w hSw
            try dsimp only at hSw
            go_simp
            try with_reducible rfl
          (try simp only [List.getElem_toArray, List.getElem_cons_zero, List.getElem_cons_succ]); (try simp only [Act.put, List.setIfInBounds_toArray, List.set_cons_zero, List.set_cons_succ])
          refine wpAnyH_take (i := 7) (v := ?_) rfl (by kernel_rfl) (by kernel_rfl) (by kernel_rfl) (fun _ _ _ h => h) (Or.inl ⟨by kernel_rfl, ?_⟩) (by assumption) ?_
          rotate_left
          · intro w hSw
            try dsimp only at hSw
            go_simp
            try with_reducible rfl
          (try simp only [List.getElem_toArray, List.getElem_cons_zero, List.getElem_cons_succ]); (try simp only [Act.put, List.setIfInBounds_toArray, List.set_cons_zero, List.set_cons_succ])
          refine wpAnyH_take (i := 8) (v := ?_) rfl (by kernel_rfl) (by kernel_rfl) (by kernel_rfl) (fun _ _ _ h => h) (Or.inl ⟨by kernel_rfl, ?_⟩) (by assumption) ?_
          rotate_left
          · intro w hSw
            try dsimp only at hSw
            go_simp
            try with_reducible rfl
          (try simp only [List.getElem_toArray, List.getElem_cons_zero, List.getElem_cons_succ]); (try simp only [Act.put, List.setIfInBounds_toArray, List.set_cons_zero, List.set_cons_succ])
          refine wpAnyH_take (i := 9) (v := ?_) rfl (by kernel_rfl) (by kernel_rfl) (by kernel_rfl) (fun _ _ _ h => h) (Or.inl ⟨by kernel_rfl, ?_⟩) (by assumption) ?_
          rotate_left
          · intro w hSw
            try dsimp only at hSw
            go_simp
            try with_reducible rfl
          (try simp only [List.getElem_toArray, List.getElem_cons_zero, List.getElem_cons_succ]); (try simp only [Act.put, List.setIfInBounds_toArray, List.set_cons_zero, List.set_cons_succ])
          refine wpAnyH_take (i := 10) (v := ?_) rfl (by kernel_rfl) (by kernel_rfl) (by kernel_rfl) (fun _ _ _ h => h) (Or.inl ⟨by kernel_rfl, ?_⟩) (by assumption) ?_
          rotate_left
          · intro w hSw
            try dsimp only at hSw
            go_simp
            try with_reducible rfl
          (try simp only [List.getElem_toArray, List.getElem_cons_zero, List.getElem_cons_succ]); (try simp only [Act.put, List.setIfInBounds_toArray, List.set_cons_zero, List.set_cons_succ])
          refine wpAnyH_take (i := 11) (v := ?_) rfl (by kernel_rfl) (by kernel_rfl) (by kernel_rfl) (fun _ _ _ h => h) (Or.inl ⟨by kernel_rfl, ?_⟩) (by assumption) ?_
          rotate_left
          · intro w hSw
            try dsimp only at hSw
            go_simp
            try with_reducible rfl
          (try simp only [List.getElem_toArray, List.getElem_cons_zero, List.getElem_cons_succ]); (try simp only [Act.put, List.setIfInBounds_toArray, List.set_cons_zero, List.set_cons_succ])
          refine wpAnyH_take (i := 12) (v := undef) rfl (by kernel_rfl) (by kernel_rfl) (by kernel_rfl) (fun _ _ _ h => h) (Or.inr ⟨by kernel_rfl, rfl⟩) (by assumption) ?_
          (try simp only [List.getElem_toArray, List.getElem_cons_zero, List.getElem_cons_succ]); (try simp only [Act.put, List.setIfInBounds_toArray, List.set_cons_zero, List.set_cons_succ])
          refine wpAnyH_take (i := 13) (v := undef) rfl (by kernel_rfl) (by kernel_rfl) (by kernel_rfl) (fun _ _ _ h => h) (Or.inr ⟨by kernel_rfl, rfl⟩) (by assumption) ?_
          (try simp only [List.getElem_toArray, List.getElem_cons_zero, List.getElem_cons_succ]); (try simp only [Act.put, List.setIfInBounds_toArray, List.set_cons_zero, List.set_cons_succ])
          refine wpAnyH_take (i := 14) (v := undef) rfl (by kernel_rfl) (by kernel_rfl) (by kernel_rfl) (fun _ _ _ h => h) (Or.inr ⟨by kernel_rfl, rfl⟩) (by assumption) ?_
          (try simp only [List.getElem_toArray, List.getElem_cons_zero, List.getElem_cons_succ]); (try simp only [Act.put, List.setIfInBounds_toArray, List.set_cons_zero, List.set_cons_succ])
          refine wpAnyH_take (i := 15) (v := undef) rfl (by kernel_rfl) (by kernel_rfl) (by kernel_rfl) (fun _ _ _ h => h) (Or.inr ⟨by kernel_rfl, rfl⟩) (by assumption) ?_
          (try simp only [List.getElem_toArray, List.getElem_cons_zero, List.getElem_cons_succ]); (try simp only [Act.put, List.setIfInBounds_toArray, List.set_cons_zero, List.set_cons_succ])
          refine wpAnyH_take (i := 16) (v := undef) rfl (by kernel_rfl) (by kernel_rfl) (by kernel_rfl) (fun _ _ _ h => h) (Or.inr ⟨by kernel_rfl, rfl⟩) (by assumption) ?_
          (try simp only [List.getElem_toArray, List.getElem_cons_zero, List.getElem_cons_succ]); (try simp only [Act.put, List.setIfInBounds_toArray, List.set_cons_zero, List.set_cons_succ])
          refine wpAnyH_take (i := 17) (v := undef) rfl (by kernel_rfl) (by kernel_rfl) (by kernel_rfl) (fun _ _ _ h => h) (Or.inr ⟨by kernel_rfl, rfl⟩) (by assumption) ?_
          (try simp only [List.getElem_toArray, List.getElem_cons_zero, List.getElem_cons_succ]); (try simp only [Act.put, List.setIfInBounds_toArray, List.set_cons_zero, List.set_cons_succ])
          refine wpAnyH_take (i := 18) (v := undef) rfl (by kernel_rfl) (by kernel_rfl) (by kernel_rfl) (fun _ _ _ h => h) (Or.inr ⟨by kernel_rfl, rfl⟩) (by assumption) ?_
          (try simp only [List.getElem_toArray, List.getElem_cons_zero, List.getElem_cons_succ]); (try simp only [Act.put, List.setIfInBounds_toArray, List.set_cons_zero, List.set_cons_succ])
          refine wpAnyH_take (i := 19) (v := undef) rfl (by kernel_rfl) (by kernel_rfl) (by kernel_rfl) (fun _ _ _ h => h) (Or.inr ⟨by kernel_rfl, rfl⟩) (by assumption) ?_
          (try simp only [List.getElem_toArray, List.getElem_cons_zero, List.getElem_cons_succ]); (try simp only [Act.put, List.setIfInBounds_toArray, List.set_cons_zero, List.set_cons_succ])
          refine wpAnyH_take (i := 20) (v := undef) rfl (by kernel_rfl) (by kernel_rfl) (by kernel_rfl) (fun _ _ _ h => h) (Or.inr ⟨by kernel_rfl, rfl⟩) (by assumption) ?_
          (try simp only [List.getElem_toArray, List.getElem_cons_zero, List.getElem_cons_succ]); (try simp only [Act.put, List.setIfInBounds_toArray, List.set_cons_zero, List.set_cons_succ])
          refine wpAnyH_take (i := 21) (v := undef) rfl (by kernel_rfl) (by kernel_rfl) (by kernel_rfl) (fun _ _ _ h => h) (Or.inr ⟨by kernel_rfl, rfl⟩) (by assumption) ?_
          (try simp only [List.getElem_toArray, List.getElem_cons_zero, List.getElem_cons_succ]); (try simp only [Act.put, List.setIfInBounds_toArray, List.set_cons_zero, List.set_cons_succ])
          refine wpAnyH_take (i := 22) (v := undef) rfl (by kernel_rfl) (by kernel_rfl) (by kernel_rfl) (fun _ _ _ h => h) (Or.inr ⟨by kernel_rfl, rfl⟩) (by assumption) ?_
          (try simp only [List.getElem_toArray, List.getElem_cons_zero, List.getElem_cons_succ]); (try simp only [Act.put, List.setIfInBounds_toArray, List.set_cons_zero, List.set_cons_succ])
          refine wpAnyH_take (i := 23) (v := undef) rfl (by kernel_rfl) (by kernel_rfl) (by kernel_rfl) (fun _ _ _ h => h) (Or.inr ⟨by kernel_rfl, rfl⟩) (by assumption) ?_
          (try simp only [List.getElem_toArray, List.getElem_cons_zero, List.getElem_cons_succ]); (try simp only [Act.put, List.setIfInBounds_toArray, List.set_cons_zero, List.set_cons_succ])
          refine wpAnyH_take (i := 24) (v := ?_) rfl (by kernel_rfl) (by kernel_rfl) (by kernel_rfl) (fun _ _ _ h => h) (Or.inl ⟨by kernel_rfl, ?_⟩) (by assumption) ?_
          rotate_left
          · intro w hSw
            try dsimp only at hSw
            go_simp
            try with_reducible rfl
          (try simp only [List.getElem_toArray, List.getElem_cons_zero, List.getElem_cons_succ]); (try simp only [Act.put, List.setIfInBounds_toArray, List.set_cons_zero, List.set_cons_succ])
          refine wpAnyH_take (i := 25) (v := ?_) rfl (by kernel_rfl) (by kernel_rfl) (by kernel_rfl) (fun _ _ _ h => h) (Or.inl ⟨by kernel_rfl, ?_⟩) (by assumption) ?_
          rotate_left
          · intro w hSw
            try dsimp only at hSw
            go_simp
            try with_reducible rfl
          (try simp only [List.getElem_toArray, List.getElem_cons_zero, List.getElem_cons_succ]); (try simp only [Act.put, List.setIfInBounds_toArray, List.set_cons_zero, List.set_cons_succ])
          refine wpAnyH_done (by kernel_rfl) ?_ _
          have hg9 := k8.rd8 hgV m1
          have hs9 := k8.rd8 hsV m2
          have hB9 := hBV.trans ((k8.below hBV.size lR lS'))
          go_wp2_with fail
          refine ⟨?_, by simp [intOf]; omega⟩
          exact ⟨i + 1, p9, e9, fa9, by simp, by omega, hA9.1, hR9, hS9, hX9, hg9, hs9, hB9⟩
        · have hE : (e != 0) = true := by simp [he]
          go_wp2_with fail
          go_region_held3 (fun w' => w'.cell? ⟨X, 0, none⟩ = some (.pointer (some ⟨R, 0, none⟩)) ∧ w'.cell? ⟨X, 1, none⟩ = some (.pointer (some ⟨S, 0, none⟩)) ∧ w'.cell? (b.add (i * 2)) = some (.int .i64 (K i)) ∧ w'.cell? ⟨b.block, (b.add (i * 2)).off + 1, none⟩ = some (.int .i64 (N i)) ∧ w'.cell? ⟨A, 0, none⟩ = some (.int .i64 e) ∧ w'.cell? ⟨A, 1, none⟩ = some (.int .i64 fa))
            (first | exact ⟨v0, v1, v2, v3, v4, v5⟩ | exact ⟨s0, s1, s2, s3, s4, s5⟩ | exact ⟨t0, t1, t2, t3, t4, t5⟩ | exact ⟨u0, u1, u2, u3, u4, u5⟩)
            (first
              | (go_at_call 10; refine (CB.out V.drew rfl).mono ?_; clear CB; rintro x U1 ⟨p9, e9, fa9, rfl, hA9, hR9, hS9, k9⟩; have k8 : Keep2 R S V U1 := ⟨k9.os, k9.tape, k9.output, k9.size, k9.block⟩; have hX9 := hXV.keep2 k8 hXR hXS; have hAc := hAV.keep2 k8 hAR hAS; have hk8 := k8.block b.block hbV (by omega) (by omega); have s0 : U1.cell? ⟨X, 0, none⟩ = some (.pointer (some ⟨R, 0, none⟩)) := hX9.cell 0; have s1 : U1.cell? ⟨X, 1, none⟩ = some (.pointer (some ⟨S, 0, none⟩)) := hX9.cell 1; have s2 : U1.cell? (b.add (i * 2)) = some (.int .i64 (K i)) := (cell_of_block (by rw [blk_add]; exact hk8)).trans vb0; have s3 : U1.cell? ⟨b.block, (b.add (i * 2)).off + 1, none⟩ = some (.int .i64 (N i)) := (cell_of_block (p := ⟨b.block, (b.add (i * 2)).off + 1, none⟩) hk8).trans vb1; have s4 : U1.cell? ⟨A, 0, none⟩ = some (.int .i64 e) := hAc.cell 0; have s5 : U1.cell? ⟨A, 1, none⟩ = some (.int .i64 fa) := hAc.cell 1; obtain ⟨q1, q2, q3⟩ := hA9.2 he; have hR8 := hR9; rw [q1, q2, q3] at hR8)
              | (go_at_call 19; refine (oFault_any R _ p e fa _ hR8).mono ?_; rintro x U2 ⟨rfl, h12⟩; have hX2 := hX9.below h12; have hA2 := hAc.below h12; have hR7 := hR8.below h12; have hk2 := (h12.block b.block (Nat.lt_of_lt_of_le hbV k8.size)).trans hk8; have t0 : U2.cell? ⟨X, 0, none⟩ = some (.pointer (some ⟨R, 0, none⟩)) := hX2.cell 0; have t1 : U2.cell? ⟨X, 1, none⟩ = some (.pointer (some ⟨S, 0, none⟩)) := hX2.cell 1; have t2 : U2.cell? (b.add (i * 2)) = some (.int .i64 (K i)) := (cell_of_block (by rw [blk_add]; exact hk2)).trans vb0; have t3 : U2.cell? ⟨b.block, (b.add (i * 2)).off + 1, none⟩ = some (.int .i64 (N i)) := (cell_of_block (p := ⟨b.block, (b.add (i * 2)).off + 1, none⟩) hk2).trans vb1; have t4 : U2.cell? ⟨A, 0, none⟩ = some (.int .i64 e) := hA2.cell 0; have t5 : U2.cell? ⟨A, 1, none⟩ = some (.int .i64 fa) := hA2.cell 1)
              | (go_at_call 16; refine (oAt_any R _ p e fa _ hR7).mono ?_; rintro x U3 ⟨rfl, h23⟩; have hX3 := hX2.below h23; have hA3 := hA2.below h23; have hk3 := (h23.block b.block (Nat.lt_of_lt_of_le (Nat.lt_of_lt_of_le hbV k8.size) h12.size)).trans hk2; have u0 : U3.cell? ⟨X, 0, none⟩ = some (.pointer (some ⟨R, 0, none⟩)) := hX3.cell 0; have u1 : U3.cell? ⟨X, 1, none⟩ = some (.pointer (some ⟨S, 0, none⟩)) := hX3.cell 1; have u2 : U3.cell? (b.add (i * 2)) = some (.int .i64 (K i)) := (cell_of_block (by rw [blk_add]; exact hk3)).trans vb0; have u3 : U3.cell? ⟨b.block, (b.add (i * 2)).off + 1, none⟩ = some (.int .i64 (N i)) := (cell_of_block (p := ⟨b.block, (b.add (i * 2)).off + 1, none⟩) hk3).trans vb1; have u4 : U3.cell? ⟨A, 0, none⟩ = some (.int .i64 e) := hA3.cell 0; have u5 : U3.cell? ⟨A, 1, none⟩ = some (.int .i64 fa) := hA3.cell 1))
          have h13 : Below U1.heap.size U1 U3 := h12.trans (h23.mono h12.size)
          have hg9 := rd8_below (k8.rd8 hgV m1) h13
          have hs9 := rd8_below (k8.rd8 hsV m2) h13
          have hB9 := hBV.trans ((k8.below hBV.size lR lS').trans (h13.mono (Nat.le_trans hBV.size k8.size)))
          go_wp2_with fail
          refine ⟨?_, by simp [intOf]; omega⟩
          exact ⟨i + 1, p9, e9, fa9, by simp, by omega, hA9.1, hR9.below h13, hS9.below h13, hX9.below h13, hg9, hs9, hB9⟩
      · have hV : Below wr.heap.size wr (((W10.setCell ⟨W9.heap.size, 0, none⟩ (.int .i64 e)).setCell ⟨W9.heap.size, 1, none⟩ (.int .i64 fa))) := (h10.setCell (p := ⟨W9.heap.size, 0, none⟩) h9.size _).setCell (p := ⟨W9.heap.size, 1, none⟩) h9.size _
        have hAV : CellsAt (((W10.setCell ⟨W9.heap.size, 0, none⟩ (.int .i64 e)).setCell ⟨W9.heap.size, 1, none⟩ (.int .i64 fa))) (W9.heap.size) 43 #[.int .i64 e, .int .i64 fa] := by have := (zB.set 0 (.int .i64 e)).set 1 (.int .i64 fa); simpa using this
        obtain ⟨A, hA0⟩ : ∃ A, A = W9.heap.size := ⟨_, rfl⟩
        have hAle : wr.heap.size ≤ A := by rw [hA0]; exact h9.size
        generalize ((W10.setCell ⟨W9.heap.size, 0, none⟩ (.int .i64 e)).setCell ⟨W9.heap.size, 1, none⟩ (.int .i64 fa)) = V at hAV hV ⊢
        rw [← hA0] at hAV
        simp only [← hA0]
        clear hA0
        clear zB zc0 zc1 zf0 zf1 zH h10 hb10
        have hRV := hR.below hV
        have hSV := hS.below hV
        have hXV := hX.below hV
        have hgV := rd8_below hg hV
        have hsV := rd8_below hs hV
        have hBV := hB.trans (hV.mono hB.size)
        have uR := hR.lt
        have uS := hS.lt
        have hAR : A ≠ R := by omega
        have hAS : A ≠ S := by omega
        have hbV : b.block < V.heap.size := Nat.lt_of_lt_of_le hbl hV.size
        have hkV := hV.block b.block hbl
        have vb0 : V.cell? (b.add (i * 2)) = some (.int .i64 (K i)) := (cell_of_block (by rw [blk_add]; exact hkV)).trans cb0
        have vb1 : V.cell? ⟨b.block, (b.add (i * 2)).off + 1, none⟩ = some (.int .i64 (N i)) := (cell_of_block (p := ⟨b.block, (b.add (i * 2)).off + 1, none⟩) hkV).trans cb1
        have v0 : V.cell? ⟨X, 0, none⟩ = some (.pointer (some ⟨R, 0, none⟩)) := hXV.cell 0
        have v1 : V.cell? ⟨X, 1, none⟩ = some (.pointer (some ⟨S, 0, none⟩)) := hXV.cell 1
        have v2 := vb0
        have v3 := vb1
        have v4 : V.cell? ⟨A, 0, none⟩ = some (.int .i64 e) := hAV.cell 0
        have v5 : V.cell? ⟨A, 1, none⟩ = some (.int .i64 fa) := hAV.cell 1
        have CB := Lib.hid (show ∀ W : World, W.heap = V.heap → Calls Try.prog 10 #[.agg #[.pointer (some ⟨R, 0, none⟩), .pointer (some ⟨S, 0, none⟩)], .agg #[.int .i64 (K i), .int .i64 (N i)]] W _ from fun W hW => both_any (K i) R S (some ⟨g, 0, none⟩) a' n0 n0 c' p e fa (N i) f W (by unfold CellsAt; rw [hW]; exact hRV) (by unfold CellsAt; rw [hW]; exact hSV) (fun j hj => by obtain ⟨b, h1, h2, h3, h4⟩ := hgV j hj; exact ⟨b, h1, by rw [hW]; exact h2, by unfold World.cell?; rw [hW]; exact h3, h4⟩) (fun j hj => by obtain ⟨b, h1, h2, h3, h4⟩ := hsV j hj; exact ⟨b, h1, by rw [hW]; exact h2, by unfold World.cell?; rw [hW]; exact h3, h4⟩) m1 m2 hRS HZ.out (Nat.le_refl _) HC.out (by omega) hp)
        clear hR hS hX hg hs hB kp FO AO cX0 cX1 cb0 cb1 kX kB
        have kX := Has.of hXV.lt
        have kB := Has.of hbV
        have kA := Has.of hAV.lt
        by_cases he : e = 0
        · have hE : (e != 0) = false := by simp [he]
          clear he
          go_wp2_with fail
          refine wp_region_held_drew (S := (fun w' => w'.cell? ⟨X, 0, none⟩ = some (.pointer (some ⟨R, 0, none⟩)) ∧ w'.cell? ⟨X, 1, none⟩ = some (.pointer (some ⟨S, 0, none⟩)) ∧ w'.cell? (b.add (i * 2)) = some (.int .i64 (K i)) ∧ w'.cell? ⟨b.block, (b.add (i * 2)).off + 1, none⟩ = some (.int .i64 (N i)) ∧ w'.cell? ⟨A, 0, none⟩ = some (.int .i64 e) ∧ w'.cell? ⟨A, 1, none⟩ = some (.int .i64 fa))) (by kernel_rfl) ⟨v0, v1, v2, v3, v4, v5⟩ (fun hHeld => ?_)
          refine wpAnyH_take (i := 0) (v := ?_) rfl (by kernel_rfl) (by kernel_rfl) (by kernel_rfl) (fun _ _ _ h => h) (Or.inl ⟨by kernel_rfl, ?_⟩) (by assumption) ?_
          rotate_left
          · intro w hSw
            try dsimp only at hSw
            go_simp
            try with_reducible rfl
          (try simp only [List.getElem_toArray, List.getElem_cons_zero, List.getElem_cons_succ]); (try simp only [Act.put, List.setIfInBounds_toArray, List.set_cons_zero, List.set_cons_succ])
          refine wpAnyH_take (i := 1) (v := ?_) rfl (by kernel_rfl) (by kernel_rfl) (by kernel_rfl) (fun _ _ _ h => h) (Or.inl ⟨by kernel_rfl, ?_⟩) (by assumption) ?_
          rotate_left
          · intro w hSw
            try dsimp only at hSw
            go_simp
            try with_reducible rfl
          (try simp only [List.getElem_toArray, List.getElem_cons_zero, List.getElem_cons_succ]); (try simp only [Act.put, List.setIfInBounds_toArray, List.set_cons_zero, List.set_cons_succ])
          refine wpAnyH_take (i := 2) (v := ?_) rfl (by kernel_rfl) (by kernel_rfl) (by kernel_rfl) (fun _ _ _ h => h) (Or.inl ⟨by kernel_rfl, ?_⟩) (by assumption) ?_
          rotate_left
          · intro w hSw
            try dsimp only at hSw
            go_simp
            try with_reducible rfl
          (try simp only [List.getElem_toArray, List.getElem_cons_zero, List.getElem_cons_succ]); (try simp only [Act.put, List.setIfInBounds_toArray, List.set_cons_zero, List.set_cons_succ])
          refine wpAnyH_take (i := 3) (v := ?_) rfl (by kernel_rfl) (by kernel_rfl) (by kernel_rfl) (fun _ _ _ h => h) (Or.inl ⟨by kernel_rfl, ?_⟩) (by assumption) ?_
          rotate_left
          · intro w hSw
            try dsimp only at hSw
            go_simp
            try with_reducible rfl
          (try simp only [List.getElem_toArray, List.getElem_cons_zero, List.getElem_cons_succ]); (try simp only [Act.put, List.setIfInBounds_toArray, List.set_cons_zero, List.set_cons_succ])
          refine wpAnyH_take (i := 4) (v := ?_) rfl (by kernel_rfl) (by kernel_rfl) (by kernel_rfl) (fun _ _ _ h => h) (Or.inl ⟨by kernel_rfl, ?_⟩) (by assumption) ?_
          rotate_left
          · intro w hSw
            try dsimp only at hSw
            go_simp
            try with_reducible rfl
          (try simp only [List.getElem_toArray, List.getElem_cons_zero, List.getElem_cons_succ]); (try simp only [Act.put, List.setIfInBounds_toArray, List.set_cons_zero, List.set_cons_succ])
          refine wpAnyH_ready (rs := [5]) (by kernel_rfl) (by simp) (AllReadyH.cons rfl (fun K9 hK9 => ?_) AllReadyH.nil)
          try simp only [List.getElem_toArray, List.getElem_cons_zero, List.getElem_cons_succ]
          rw [if_pos (by rfl)]
          go_wp2_with fail
          go_at_call 10; refine (CB.out V.drew rfl).mono ?_; clear CB; rintro x U1 ⟨p9, e9, fa9, rfl, hA9, hR9, hS9, k9⟩; have k8 : Keep2 R S V U1 := ⟨k9.os, k9.tape, k9.output, k9.size, k9.block⟩; have hX9 := hXV.keep2 k8 hXR hXS; have hAc := hAV.keep2 k8 hAR hAS; have hk8 := k8.block b.block hbV (by omega) (by omega); have s0 : U1.cell? ⟨X, 0, none⟩ = some (.pointer (some ⟨R, 0, none⟩)) := hX9.cell 0; have s1 : U1.cell? ⟨X, 1, none⟩ = some (.pointer (some ⟨S, 0, none⟩)) := hX9.cell 1; have s2 : U1.cell? (b.add (i * 2)) = some (.int .i64 (K i)) := (cell_of_block (by rw [blk_add]; exact hk8)).trans vb0; have s3 : U1.cell? ⟨b.block, (b.add (i * 2)).off + 1, none⟩ = some (.int .i64 (N i)) := (cell_of_block (p := ⟨b.block, (b.add (i * 2)).off + 1, none⟩) hk8).trans vb1; have s4 : U1.cell? ⟨A, 0, none⟩ = some (.int .i64 e) := hAc.cell 0; have s5 : U1.cell? ⟨A, 1, none⟩ = some (.int .i64 fa) := hAc.cell 1
          go_wp2_with fail
          refine hK9.out _ _ ⟨s0, s1, s2, s3, s4, s5⟩ (fun hHeld9 => ?_)
          clear hK9 K9
          (try simp only [List.getElem_toArray, List.getElem_cons_zero, List.getElem_cons_succ]); (try simp only [Act.put, List.setIfInBounds_toArray, List.set_cons_zero, List.set_cons_succ])
          refine wpAnyH_take (i := 6) (v := ?_) rfl (by kernel_rfl) (by kernel_rfl) (by kernel_rfl) (fun _ _ _ h => h) (Or.inl ⟨by kernel_rfl, ?_⟩) (by assumption) ?_
          rotate_left
          · intro w hSw
            try dsimp only at hSw
            go_simp
            try with_reducible rfl
          (try simp only [List.getElem_toArray, List.getElem_cons_zero, List.getElem_cons_succ]); (try simp only [Act.put, List.setIfInBounds_toArray, List.set_cons_zero, List.set_cons_succ])
          refine wpAnyH_take (i := 7) (v := ?_) rfl (by kernel_rfl) (by kernel_rfl) (by kernel_rfl) (fun _ _ _ h => h) (Or.inl ⟨by kernel_rfl, ?_⟩) (by assumption) ?_
          rotate_left
          · intro w hSw
            try dsimp only at hSw
            go_simp
            try with_reducible rfl
          (try simp only [List.getElem_toArray, List.getElem_cons_zero, List.getElem_cons_succ]); (try simp only [Act.put, List.setIfInBounds_toArray, List.set_cons_zero, List.set_cons_succ])
          refine wpAnyH_take (i := 8) (v := ?_) rfl (by kernel_rfl) (by kernel_rfl) (by kernel_rfl) (fun _ _ _ h => h) (Or.inl ⟨by kernel_rfl, ?_⟩) (by assumption) ?_
          rotate_left
          · intro w hSw
            try dsimp only at hSw
            go_simp
            try with_reducible rfl
          (try simp only [List.getElem_toArray, List.getElem_cons_zero, List.getElem_cons_succ]); (try simp only [Act.put, List.setIfInBounds_toArray, List.set_cons_zero, List.set_cons_succ])
          refine wpAnyH_take (i := 9) (v := ?_) rfl (by kernel_rfl) (by kernel_rfl) (by kernel_rfl) (fun _ _ _ h => h) (Or.inl ⟨by kernel_rfl, ?_⟩) (by assumption) ?_
          rotate_left
          · intro w hSw
            try dsimp only at hSw
            go_simp
            try with_reducible rfl
          (try simp only [List.getElem_toArray, List.getElem_cons_zero, List.getElem_cons_succ]); (try simp only [Act.put, List.setIfInBounds_toArray, List.set_cons_zero, List.set_cons_succ])
          refine wpAnyH_take (i := 10) (v := ?_) rfl (by kernel_rfl) (by kernel_rfl) (by kernel_rfl) (fun _ _ _ h => h) (Or.inl ⟨by kernel_rfl, ?_⟩) (by assumption) ?_
          rotate_left
          · intro w hSw
            try dsimp only at hSw
            go_simp
            try with_reducible rfl
          (try simp only [List.getElem_toArray, List.getElem_cons_zero, List.getElem_cons_succ]); (try simp only [Act.put, List.setIfInBounds_toArray, List.set_cons_zero, List.set_cons_succ])
          refine wpAnyH_take (i := 11) (v := ?_) rfl (by kernel_rfl) (by kernel_rfl) (by kernel_rfl) (fun _ _ _ h => h) (Or.inl ⟨by kernel_rfl, ?_⟩) (by assumption) ?_
          rotate_left
          · intro w hSw
            try dsimp only at hSw
            go_simp
            try with_reducible rfl
          (try simp only [List.getElem_toArray, List.getElem_cons_zero, List.getElem_cons_succ]); (try simp only [Act.put, List.setIfInBounds_toArray, List.set_cons_zero, List.set_cons_succ])
          refine wpAnyH_take (i := 12) (v := undef) rfl (by kernel_rfl) (by kernel_rfl) (by kernel_rfl) (fun _ _ _ h => h) (Or.inr ⟨by kernel_rfl, rfl⟩) (by assumption) ?_
          (try simp only [List.getElem_toArray, List.getElem_cons_zero, List.getElem_cons_succ]); (try simp only [Act.put, List.setIfInBounds_toArray, List.set_cons_zero, List.set_cons_succ])
          refine wpAnyH_take (i := 13) (v := undef) rfl (by kernel_rfl) (by kernel_rfl) (by kernel_rfl) (fun _ _ _ h => h) (Or.inr ⟨by kernel_rfl, rfl⟩) (by assumption) ?_
          (try simp only [List.getElem_toArray, List.getElem_cons_zero, List.getElem_cons_succ]); (try simp only [Act.put, List.setIfInBounds_toArray, List.set_cons_zero, List.set_cons_succ])
          refine wpAnyH_take (i := 14) (v := undef) rfl (by kernel_rfl) (by kernel_rfl) (by kernel_rfl) (fun _ _ _ h => h) (Or.inr ⟨by kernel_rfl, rfl⟩) (by assumption) ?_
          (try simp only [List.getElem_toArray, List.getElem_cons_zero, List.getElem_cons_succ]); (try simp only [Act.put, List.setIfInBounds_toArray, List.set_cons_zero, List.set_cons_succ])
          refine wpAnyH_take (i := 15) (v := undef) rfl (by kernel_rfl) (by kernel_rfl) (by kernel_rfl) (fun _ _ _ h => h) (Or.inr ⟨by kernel_rfl, rfl⟩) (by assumption) ?_
          (try simp only [List.getElem_toArray, List.getElem_cons_zero, List.getElem_cons_succ]); (try simp only [Act.put, List.setIfInBounds_toArray, List.set_cons_zero, List.set_cons_succ])
          refine wpAnyH_take (i := 16) (v := undef) rfl (by kernel_rfl) (by kernel_rfl) (by kernel_rfl) (fun _ _ _ h => h) (Or.inr ⟨by kernel_rfl, rfl⟩) (by assumption) ?_
          (try simp only [List.getElem_toArray, List.getElem_cons_zero, List.getElem_cons_succ]); (try simp only [Act.put, List.setIfInBounds_toArray, List.set_cons_zero, List.set_cons_succ])
          refine wpAnyH_take (i := 17) (v := undef) rfl (by kernel_rfl) (by kernel_rfl) (by kernel_rfl) (fun _ _ _ h => h) (Or.inr ⟨by kernel_rfl, rfl⟩) (by assumption) ?_
          (try simp only [List.getElem_toArray, List.getElem_cons_zero, List.getElem_cons_succ]); (try simp only [Act.put, List.setIfInBounds_toArray, List.set_cons_zero, List.set_cons_succ])
          refine wpAnyH_take (i := 18) (v := undef) rfl (by kernel_rfl) (by kernel_rfl) (by kernel_rfl) (fun _ _ _ h => h) (Or.inr ⟨by kernel_rfl, rfl⟩) (by assumption) ?_
          (try simp only [List.getElem_toArray, List.getElem_cons_zero, List.getElem_cons_succ]); (try simp only [Act.put, List.setIfInBounds_toArray, List.set_cons_zero, List.set_cons_succ])
          refine wpAnyH_take (i := 19) (v := undef) rfl (by kernel_rfl) (by kernel_rfl) (by kernel_rfl) (fun _ _ _ h => h) (Or.inr ⟨by kernel_rfl, rfl⟩) (by assumption) ?_
          (try simp only [List.getElem_toArray, List.getElem_cons_zero, List.getElem_cons_succ]); (try simp only [Act.put, List.setIfInBounds_toArray, List.set_cons_zero, List.set_cons_succ])
          refine wpAnyH_take (i := 20) (v := undef) rfl (by kernel_rfl) (by kernel_rfl) (by kernel_rfl) (fun _ _ _ h => h) (Or.inr ⟨by kernel_rfl, rfl⟩) (by assumption) ?_
          (try simp only [List.getElem_toArray, List.getElem_cons_zero, List.getElem_cons_succ]); (try simp only [Act.put, List.setIfInBounds_toArray, List.set_cons_zero, List.set_cons_succ])
          refine wpAnyH_take (i := 21) (v := undef) rfl (by kernel_rfl) (by kernel_rfl) (by kernel_rfl) (fun _ _ _ h => h) (Or.inr ⟨by kernel_rfl, rfl⟩) (by assumption) ?_
          (try simp only [List.getElem_toArray, List.getElem_cons_zero, List.getElem_cons_succ]); (try simp only [Act.put, List.setIfInBounds_toArray, List.set_cons_zero, List.set_cons_succ])
          refine wpAnyH_take (i := 22) (v := undef) rfl (by kernel_rfl) (by kernel_rfl) (by kernel_rfl) (fun _ _ _ h => h) (Or.inr ⟨by kernel_rfl, rfl⟩) (by assumption) ?_
          (try simp only [List.getElem_toArray, List.getElem_cons_zero, List.getElem_cons_succ]); (try simp only [Act.put, List.setIfInBounds_toArray, List.set_cons_zero, List.set_cons_succ])
          refine wpAnyH_take (i := 23) (v := undef) rfl (by kernel_rfl) (by kernel_rfl) (by kernel_rfl) (fun _ _ _ h => h) (Or.inr ⟨by kernel_rfl, rfl⟩) (by assumption) ?_
          (try simp only [List.getElem_toArray, List.getElem_cons_zero, List.getElem_cons_succ]); (try simp only [Act.put, List.setIfInBounds_toArray, List.set_cons_zero, List.set_cons_succ])
          refine wpAnyH_take (i := 24) (v := ?_) rfl (by kernel_rfl) (by kernel_rfl) (by kernel_rfl) (fun _ _ _ h => h) (Or.inl ⟨by kernel_rfl, ?_⟩) (by assumption) ?_
          rotate_left
          · intro w hSw
            try dsimp only at hSw
            go_simp
            try with_reducible rfl
          (try simp only [List.getElem_toArray, List.getElem_cons_zero, List.getElem_cons_succ]); (try simp only [Act.put, List.setIfInBounds_toArray, List.set_cons_zero, List.set_cons_succ])
          refine wpAnyH_take (i := 25) (v := ?_) rfl (by kernel_rfl) (by kernel_rfl) (by kernel_rfl) (fun _ _ _ h => h) (Or.inl ⟨by kernel_rfl, ?_⟩) (by assumption) ?_
          rotate_left
          · intro w hSw
            try dsimp only at hSw
            go_simp
            try with_reducible rfl
          (try simp only [List.getElem_toArray, List.getElem_cons_zero, List.getElem_cons_succ]); (try simp only [Act.put, List.setIfInBounds_toArray, List.set_cons_zero, List.set_cons_succ])
          refine wpAnyH_done (by kernel_rfl) ?_ _
          have hg9 := k8.rd8 hgV m1
          have hs9 := k8.rd8 hsV m2
          have hB9 := hBV.trans ((k8.below hBV.size lR lS'))
          go_wp2_with fail
          refine ⟨?_, by simp [intOf]; omega⟩
          exact ⟨i + 1, p9, e9, fa9, by simp, by omega, hA9.1, hR9, hS9, hX9, hg9, hs9, hB9⟩
        · have hE : (e != 0) = true := by simp [he]
          go_wp2_with fail
          go_region_held3 (fun w' => w'.cell? ⟨X, 0, none⟩ = some (.pointer (some ⟨R, 0, none⟩)) ∧ w'.cell? ⟨X, 1, none⟩ = some (.pointer (some ⟨S, 0, none⟩)) ∧ w'.cell? (b.add (i * 2)) = some (.int .i64 (K i)) ∧ w'.cell? ⟨b.block, (b.add (i * 2)).off + 1, none⟩ = some (.int .i64 (N i)) ∧ w'.cell? ⟨A, 0, none⟩ = some (.int .i64 e) ∧ w'.cell? ⟨A, 1, none⟩ = some (.int .i64 fa))
            (first | exact ⟨v0, v1, v2, v3, v4, v5⟩ | exact ⟨s0, s1, s2, s3, s4, s5⟩ | exact ⟨t0, t1, t2, t3, t4, t5⟩ | exact ⟨u0, u1, u2, u3, u4, u5⟩)
            (first
              | (go_at_call 10; refine (CB.out V.drew rfl).mono ?_; clear CB; rintro x U1 ⟨p9, e9, fa9, rfl, hA9, hR9, hS9, k9⟩; have k8 : Keep2 R S V U1 := ⟨k9.os, k9.tape, k9.output, k9.size, k9.block⟩; have hX9 := hXV.keep2 k8 hXR hXS; have hAc := hAV.keep2 k8 hAR hAS; have hk8 := k8.block b.block hbV (by omega) (by omega); have s0 : U1.cell? ⟨X, 0, none⟩ = some (.pointer (some ⟨R, 0, none⟩)) := hX9.cell 0; have s1 : U1.cell? ⟨X, 1, none⟩ = some (.pointer (some ⟨S, 0, none⟩)) := hX9.cell 1; have s2 : U1.cell? (b.add (i * 2)) = some (.int .i64 (K i)) := (cell_of_block (by rw [blk_add]; exact hk8)).trans vb0; have s3 : U1.cell? ⟨b.block, (b.add (i * 2)).off + 1, none⟩ = some (.int .i64 (N i)) := (cell_of_block (p := ⟨b.block, (b.add (i * 2)).off + 1, none⟩) hk8).trans vb1; have s4 : U1.cell? ⟨A, 0, none⟩ = some (.int .i64 e) := hAc.cell 0; have s5 : U1.cell? ⟨A, 1, none⟩ = some (.int .i64 fa) := hAc.cell 1; obtain ⟨q1, q2, q3⟩ := hA9.2 he; have hR8 := hR9; rw [q1, q2, q3] at hR8)
              | (go_at_call 19; refine (oFault_any R _ p e fa _ hR8).mono ?_; rintro x U2 ⟨rfl, h12⟩; have hX2 := hX9.below h12; have hA2 := hAc.below h12; have hR7 := hR8.below h12; have hk2 := (h12.block b.block (Nat.lt_of_lt_of_le hbV k8.size)).trans hk8; have t0 : U2.cell? ⟨X, 0, none⟩ = some (.pointer (some ⟨R, 0, none⟩)) := hX2.cell 0; have t1 : U2.cell? ⟨X, 1, none⟩ = some (.pointer (some ⟨S, 0, none⟩)) := hX2.cell 1; have t2 : U2.cell? (b.add (i * 2)) = some (.int .i64 (K i)) := (cell_of_block (by rw [blk_add]; exact hk2)).trans vb0; have t3 : U2.cell? ⟨b.block, (b.add (i * 2)).off + 1, none⟩ = some (.int .i64 (N i)) := (cell_of_block (p := ⟨b.block, (b.add (i * 2)).off + 1, none⟩) hk2).trans vb1; have t4 : U2.cell? ⟨A, 0, none⟩ = some (.int .i64 e) := hA2.cell 0; have t5 : U2.cell? ⟨A, 1, none⟩ = some (.int .i64 fa) := hA2.cell 1)
              | (go_at_call 16; refine (oAt_any R _ p e fa _ hR7).mono ?_; rintro x U3 ⟨rfl, h23⟩; have hX3 := hX2.below h23; have hA3 := hA2.below h23; have hk3 := (h23.block b.block (Nat.lt_of_lt_of_le (Nat.lt_of_lt_of_le hbV k8.size) h12.size)).trans hk2; have u0 : U3.cell? ⟨X, 0, none⟩ = some (.pointer (some ⟨R, 0, none⟩)) := hX3.cell 0; have u1 : U3.cell? ⟨X, 1, none⟩ = some (.pointer (some ⟨S, 0, none⟩)) := hX3.cell 1; have u2 : U3.cell? (b.add (i * 2)) = some (.int .i64 (K i)) := (cell_of_block (by rw [blk_add]; exact hk3)).trans vb0; have u3 : U3.cell? ⟨b.block, (b.add (i * 2)).off + 1, none⟩ = some (.int .i64 (N i)) := (cell_of_block (p := ⟨b.block, (b.add (i * 2)).off + 1, none⟩) hk3).trans vb1; have u4 : U3.cell? ⟨A, 0, none⟩ = some (.int .i64 e) := hA3.cell 0; have u5 : U3.cell? ⟨A, 1, none⟩ = some (.int .i64 fa) := hA3.cell 1))
          have h13 : Below U1.heap.size U1 U3 := h12.trans (h23.mono h12.size)
          have hg9 := rd8_below (k8.rd8 hgV m1) h13
          have hs9 := rd8_below (k8.rd8 hsV m2) h13
          have hB9 := hBV.trans ((k8.below hBV.size lR lS').trans (h13.mono (Nat.le_trans hBV.size k8.size)))
          go_wp2_with fail
          refine ⟨?_, by simp [intOf]; omega⟩
          exact ⟨i + 1, p9, e9, fa9, by simp, by omega, hA9.1, hR9.below h13, hS9.below h13, hX9.below h13, hg9, hs9, hB9⟩
      · have hV : Below wr.heap.size wr (((W10.setCell ⟨wr.heap.size, 0, none⟩ (.int .i64 e)).setCell ⟨wr.heap.size, 1, none⟩ (.int .i64 fa))) := (h10.setCell (p := ⟨wr.heap.size, 0, none⟩) (Nat.le_refl _) _).setCell (p := ⟨wr.heap.size, 1, none⟩) (Nat.le_refl _) _
        have hAV : CellsAt (((W10.setCell ⟨wr.heap.size, 0, none⟩ (.int .i64 e)).setCell ⟨wr.heap.size, 1, none⟩ (.int .i64 fa))) (wr.heap.size) 43 #[.int .i64 e, .int .i64 fa] := by have := (zB.set 0 (.int .i64 e)).set 1 (.int .i64 fa); simpa using this
        obtain ⟨A, hA0⟩ : ∃ A, A = wr.heap.size := ⟨_, rfl⟩
        have hAle : wr.heap.size ≤ A := by rw [hA0]; exact Nat.le_refl _
        generalize ((W10.setCell ⟨wr.heap.size, 0, none⟩ (.int .i64 e)).setCell ⟨wr.heap.size, 1, none⟩ (.int .i64 fa)) = V at hAV hV ⊢
        rw [← hA0] at hAV
        simp only [← hA0]
        clear hA0
        clear zB zA zc0 zc1 zf0 zf1 zH h10 hb10
        have hRV := hR.below hV
        have hSV := hS.below hV
        have hXV := hX.below hV
        have hgV := rd8_below hg hV
        have hsV := rd8_below hs hV
        have hBV := hB.trans (hV.mono hB.size)
        have uR := hR.lt
        have uS := hS.lt
        have hAR : A ≠ R := by omega
        have hAS : A ≠ S := by omega
        have hbV : b.block < V.heap.size := Nat.lt_of_lt_of_le hbl hV.size
        have hkV := hV.block b.block hbl
        have vb0 : V.cell? (b.add (i * 2)) = some (.int .i64 (K i)) := (cell_of_block (by rw [blk_add]; exact hkV)).trans cb0
        have vb1 : V.cell? ⟨b.block, (b.add (i * 2)).off + 1, none⟩ = some (.int .i64 (N i)) := (cell_of_block (p := ⟨b.block, (b.add (i * 2)).off + 1, none⟩) hkV).trans cb1
        have v0 : V.cell? ⟨X, 0, none⟩ = some (.pointer (some ⟨R, 0, none⟩)) := hXV.cell 0
        have v1 : V.cell? ⟨X, 1, none⟩ = some (.pointer (some ⟨S, 0, none⟩)) := hXV.cell 1
        have v2 := vb0
        have v3 := vb1
        have v4 : V.cell? ⟨A, 0, none⟩ = some (.int .i64 e) := hAV.cell 0
        have v5 : V.cell? ⟨A, 1, none⟩ = some (.int .i64 fa) := hAV.cell 1
        have CB := Lib.hid (show ∀ W : World, W.heap = V.heap → Calls Try.prog 10 #[.agg #[.pointer (some ⟨R, 0, none⟩), .pointer (some ⟨S, 0, none⟩)], .agg #[.int .i64 (K i), .int .i64 (N i)]] W _ from fun W hW => both_any (K i) R S (some ⟨g, 0, none⟩) a' n0 n0 c' p e fa (N i) f W (by unfold CellsAt; rw [hW]; exact hRV) (by unfold CellsAt; rw [hW]; exact hSV) (fun j hj => by obtain ⟨b, h1, h2, h3, h4⟩ := hgV j hj; exact ⟨b, h1, by rw [hW]; exact h2, by unfold World.cell?; rw [hW]; exact h3, h4⟩) (fun j hj => by obtain ⟨b, h1, h2, h3, h4⟩ := hsV j hj; exact ⟨b, h1, by rw [hW]; exact h2, by unfold World.cell?; rw [hW]; exact h3, h4⟩) m1 m2 hRS HZ.out (Nat.le_refl _) HC.out (by omega) hp)
        clear hR hS hX hg hs hB kp FO AO cX0 cX1 cb0 cb1 kX kB
        have kX := Has.of hXV.lt
        have kB := Has.of hbV
        have kA := Has.of hAV.lt
        by_cases he : e = 0
        · have hE : (e != 0) = false := by simp [he]
          clear he
          go_wp2_with fail
          refine wp_region_held_drew (S := (fun w' => w'.cell? ⟨X, 0, none⟩ = some (.pointer (some ⟨R, 0, none⟩)) ∧ w'.cell? ⟨X, 1, none⟩ = some (.pointer (some ⟨S, 0, none⟩)) ∧ w'.cell? (b.add (i * 2)) = some (.int .i64 (K i)) ∧ w'.cell? ⟨b.block, (b.add (i * 2)).off + 1, none⟩ = some (.int .i64 (N i)) ∧ w'.cell? ⟨A, 0, none⟩ = some (.int .i64 e) ∧ w'.cell? ⟨A, 1, none⟩ = some (.int .i64 fa))) (by kernel_rfl) ⟨v0, v1, v2, v3, v4, v5⟩ (fun hHeld => ?_)
          refine wpAnyH_take (i := 0) (v := ?_) rfl (by kernel_rfl) (by kernel_rfl) (by kernel_rfl) (fun _ _ _ h => h) (Or.inl ⟨by kernel_rfl, ?_⟩) (by assumption) ?_
          rotate_left
          · intro w hSw
            try dsimp only at hSw
            go_simp
            try with_reducible rfl
          (try simp only [List.getElem_toArray, List.getElem_cons_zero, List.getElem_cons_succ]); (try simp only [Act.put, List.setIfInBounds_toArray, List.set_cons_zero, List.set_cons_succ])
          refine wpAnyH_take (i := 1) (v := ?_) rfl (by kernel_rfl) (by kernel_rfl) (by kernel_rfl) (fun _ _ _ h => h) (Or.inl ⟨by kernel_rfl, ?_⟩) (by assumption) ?_
          rotate_left
          · intro w hSw
            try dsimp only at hSw
            go_simp
            try with_reducible rfl
          (try simp only [List.getElem_toArray, List.getElem_cons_zero, List.getElem_cons_succ]); (try simp only [Act.put, List.setIfInBounds_toArray, List.set_cons_zero, List.set_cons_succ])
          refine wpAnyH_take (i := 2) (v := ?_) rfl (by kernel_rfl) (by kernel_rfl) (by kernel_rfl) (fun _ _ _ h => h) (Or.inl ⟨by kernel_rfl, ?_⟩) (by assumption) ?_
          rotate_left
          · intro w hSw
            try dsimp only at hSw
            go_simp
            try with_reducible rfl
          (try simp only [List.getElem_toArray, List.getElem_cons_zero, List.getElem_cons_succ]); (try simp only [Act.put, List.setIfInBounds_toArray, List.set_cons_zero, List.set_cons_succ])
          refine wpAnyH_take (i := 3) (v := ?_) rfl (by kernel_rfl) (by kernel_rfl) (by kernel_rfl) (fun _ _ _ h => h) (Or.inl ⟨by kernel_rfl, ?_⟩) (by assumption) ?_
          rotate_left
          · intro w hSw
            try dsimp only at hSw
            go_simp
            try with_reducible rfl
          (try simp only [List.getElem_toArray, List.getElem_cons_zero, List.getElem_cons_succ]); (try simp only [Act.put, List.setIfInBounds_toArray, List.set_cons_zero, List.set_cons_succ])
          refine wpAnyH_take (i := 4) (v := ?_) rfl (by kernel_rfl) (by kernel_rfl) (by kernel_rfl) (fun _ _ _ h => h) (Or.inl ⟨by kernel_rfl, ?_⟩) (by assumption) ?_
          rotate_left
          · intro w hSw
            try dsimp only at hSw
            go_simp
            try with_reducible rfl
          (try simp only [List.getElem_toArray, List.getElem_cons_zero, List.getElem_cons_succ]); (try simp only [Act.put, List.setIfInBounds_toArray, List.set_cons_zero, List.set_cons_succ])
          refine wpAnyH_ready (rs := [5]) (by kernel_rfl) (by simp) (AllReadyH.cons rfl (fun K9 hK9 => ?_) AllReadyH.nil)
          try simp only [List.getElem_toArray, List.getElem_cons_zero, List.getElem_cons_succ]
          rw [if_pos (by rfl)]
          go_wp2_with fail
          go_at_call 10; refine (CB.out V.drew rfl).mono ?_; clear CB; rintro x U1 ⟨p9, e9, fa9, rfl, hA9, hR9, hS9, k9⟩; have k8 : Keep2 R S V U1 := ⟨k9.os, k9.tape, k9.output, k9.size, k9.block⟩; have hX9 := hXV.keep2 k8 hXR hXS; have hAc := hAV.keep2 k8 hAR hAS; have hk8 := k8.block b.block hbV (by omega) (by omega); have s0 : U1.cell? ⟨X, 0, none⟩ = some (.pointer (some ⟨R, 0, none⟩)) := hX9.cell 0; have s1 : U1.cell? ⟨X, 1, none⟩ = some (.pointer (some ⟨S, 0, none⟩)) := hX9.cell 1; have s2 : U1.cell? (b.add (i * 2)) = some (.int .i64 (K i)) := (cell_of_block (by rw [blk_add]; exact hk8)).trans vb0; have s3 : U1.cell? ⟨b.block, (b.add (i * 2)).off + 1, none⟩ = some (.int .i64 (N i)) := (cell_of_block (p := ⟨b.block, (b.add (i * 2)).off + 1, none⟩) hk8).trans vb1; have s4 : U1.cell? ⟨A, 0, none⟩ = some (.int .i64 e) := hAc.cell 0; have s5 : U1.cell? ⟨A, 1, none⟩ = some (.int .i64 fa) := hAc.cell 1
          go_wp2_with fail
          refine hK9.out _ _ ⟨s0, s1, s2, s3, s4, s5⟩ (fun hHeld9 => ?_)
          clear hK9 K9
          (try simp only [List.getElem_toArray, List.getElem_cons_zero, List.getElem_cons_succ]); (try simp only [Act.put, List.setIfInBounds_toArray, List.set_cons_zero, List.set_cons_succ])
          refine wpAnyH_take (i := 6) (v := ?_) rfl (by kernel_rfl) (by kernel_rfl) (by kernel_rfl) (fun _ _ _ h => h) (Or.inl ⟨by kernel_rfl, ?_⟩) (by assumption) ?_
          rotate_left
          · intro w hSw
            try dsimp only at hSw
            go_simp
            try with_reducible rfl
          (try simp only [List.getElem_toArray, List.getElem_cons_zero, List.getElem_cons_succ]); (try simp only [Act.put, List.setIfInBounds_toArray, List.set_cons_zero, List.set_cons_succ])
          refine wpAnyH_take (i := 7) (v := ?_) rfl (by kernel_rfl) (by kernel_rfl) (by kernel_rfl) (fun _ _ _ h => h) (Or.inl ⟨by kernel_rfl, ?_⟩) (by assumption) ?_
          rotate_left
          · intro w hSw
            try dsimp only at hSw
            go_simp
            try with_reducible rfl
          (try simp only [List.getElem_toArray, List.getElem_cons_zero, List.getElem_cons_succ]); (try simp only [Act.put, List.setIfInBounds_toArray, List.set_cons_zero, List.set_cons_succ])
          refine wpAnyH_take (i := 8) (v := ?_) rfl (by kernel_rfl) (by kernel_rfl) (by kernel_rfl) (fun _ _ _ h => h) (Or.inl ⟨by kernel_rfl, ?_⟩) (by assumption) ?_
          rotate_left
          · intro w hSw
            try dsimp only at hSw
            go_simp
            try with_reducible rfl
          (try simp only [List.getElem_toArray, List.getElem_cons_zero, List.getElem_cons_succ]); (try simp only [Act.put, List.setIfInBounds_toArray, List.set_cons_zero, List.set_cons_succ])
          refine wpAnyH_take (i := 9) (v := ?_) rfl (by kernel_rfl) (by kernel_rfl) (by kernel_rfl) (fun _ _ _ h => h) (Or.inl ⟨by kernel_rfl, ?_⟩) (by assumption) ?_
          rotate_left
          · intro w hSw
            try dsimp only at hSw
            go_simp
            try with_reducible rfl
          (try simp only [List.getElem_toArray, List.getElem_cons_zero, List.getElem_cons_succ]); (try simp only [Act.put, List.setIfInBounds_toArray, List.set_cons_zero, List.set_cons_succ])
          refine wpAnyH_take (i := 10) (v := ?_) rfl (by kernel_rfl) (by kernel_rfl) (by kernel_rfl) (fun _ _ _ h => h) (Or.inl ⟨by kernel_rfl, ?_⟩) (by assumption) ?_
          rotate_left
          · intro w hSw
            try dsimp only at hSw
            go_simp
            try with_reducible rfl
          (try simp only [List.getElem_toArray, List.getElem_cons_zero, List.getElem_cons_succ]); (try simp only [Act.put, List.setIfInBounds_toArray, List.set_cons_zero, List.set_cons_succ])
          refine wpAnyH_take (i := 11) (v := ?_) rfl (by kernel_rfl) (by kernel_rfl) (by kernel_rfl) (fun _ _ _ h => h) (Or.inl ⟨by kernel_rfl, ?_⟩) (by assumption) ?_
          rotate_left
          · intro w hSw
            try dsimp only at hSw
            go_simp
            try with_reducible rfl
          (try simp only [List.getElem_toArray, List.getElem_cons_zero, List.getElem_cons_succ]); (try simp only [Act.put, List.setIfInBounds_toArray, List.set_cons_zero, List.set_cons_succ])
          refine wpAnyH_take (i := 12) (v := undef) rfl (by kernel_rfl) (by kernel_rfl) (by kernel_rfl) (fun _ _ _ h => h) (Or.inr ⟨by kernel_rfl, rfl⟩) (by assumption) ?_
          (try simp only [List.getElem_toArray, List.getElem_cons_zero, List.getElem_cons_succ]); (try simp only [Act.put, List.setIfInBounds_toArray, List.set_cons_zero, List.set_cons_succ])
          refine wpAnyH_take (i := 13) (v := undef) rfl (by kernel_rfl) (by kernel_rfl) (by kernel_rfl) (fun _ _ _ h => h) (Or.inr ⟨by kernel_rfl, rfl⟩) (by assumption) ?_
          (try simp only [List.getElem_toArray, List.getElem_cons_zero, List.getElem_cons_succ]); (try simp only [Act.put, List.setIfInBounds_toArray, List.set_cons_zero, List.set_cons_succ])
          refine wpAnyH_take (i := 14) (v := undef) rfl (by kernel_rfl) (by kernel_rfl) (by kernel_rfl) (fun _ _ _ h => h) (Or.inr ⟨by kernel_rfl, rfl⟩) (by assumption) ?_
          (try simp only [List.getElem_toArray, List.getElem_cons_zero, List.getElem_cons_succ]); (try simp only [Act.put, List.setIfInBounds_toArray, List.set_cons_zero, List.set_cons_succ])
          refine wpAnyH_take (i := 15) (v := undef) rfl (by kernel_rfl) (by kernel_rfl) (by kernel_rfl) (fun _ _ _ h => h) (Or.inr ⟨by kernel_rfl, rfl⟩) (by assumption) ?_
          (try simp only [List.getElem_toArray, List.getElem_cons_zero, List.getElem_cons_succ]); (try simp only [Act.put, List.setIfInBounds_toArray, List.set_cons_zero, List.set_cons_succ])
          refine wpAnyH_take (i := 16) (v := undef) rfl (by kernel_rfl) (by kernel_rfl) (by kernel_rfl) (fun _ _ _ h => h) (Or.inr ⟨by kernel_rfl, rfl⟩) (by assumption) ?_
          (try simp only [List.getElem_toArray, List.getElem_cons_zero, List.getElem_cons_succ]); (try simp only [Act.put, List.setIfInBounds_toArray, List.set_cons_zero, List.set_cons_succ])
          refine wpAnyH_take (i := 17) (v := undef) rfl (by kernel_rfl) (by kernel_rfl) (by kernel_rfl) (fun _ _ _ h => h) (Or.inr ⟨by kernel_rfl, rfl⟩) (by assumption) ?_
          (try simp only [List.getElem_toArray, List.getElem_cons_zero, List.getElem_cons_succ]); (try simp only [Act.put, List.setIfInBounds_toArray, List.set_cons_zero, List.set_cons_succ])
          refine wpAnyH_take (i := 18) (v := undef) rfl (by kernel_rfl) (by kernel_rfl) (by kernel_rfl) (fun _ _ _ h => h) (Or.inr ⟨by kernel_rfl, rfl⟩) (by assumption) ?_
          (try simp only [List.getElem_toArray, List.getElem_cons_zero, List.getElem_cons_succ]); (try simp only [Act.put, List.setIfInBounds_toArray, List.set_cons_zero, List.set_cons_succ])
          refine wpAnyH_take (i := 19) (v := undef) rfl (by kernel_rfl) (by kernel_rfl) (by kernel_rfl) (fun _ _ _ h => h) (Or.inr ⟨by kernel_rfl, rfl⟩) (by assumption) ?_
          (try simp only [List.getElem_toArray, List.getElem_cons_zero, List.getElem_cons_succ]); (try simp only [Act.put, List.setIfInBounds_toArray, List.set_cons_zero, List.set_cons_succ])
          refine wpAnyH_take (i := 20) (v := undef) rfl (by kernel_rfl) (by kernel_rfl) (by kernel_rfl) (fun _ _ _ h => h) (Or.inr ⟨by kernel_rfl, rfl⟩) (by assumption) ?_
          (try simp only [List.getElem_toArray, List.getElem_cons_zero, List.getElem_cons_succ]); (try simp only [Act.put, List.setIfInBounds_toArray, List.set_cons_zero, List.set_cons_succ])
          refine wpAnyH_take (i := 21) (v := undef) rfl (by kernel_rfl) (by kernel_rfl) (by kernel_rfl) (fun _ _ _ h => h) (Or.inr ⟨by kernel_rfl, rfl⟩) (by assumption) ?_
          (try simp only [List.getElem_toArray, List.getElem_cons_zero, List.getElem_cons_succ]); (try simp only [Act.put, List.setIfInBounds_toArray, List.set_cons_zero, List.set_cons_succ])
          refine wpAnyH_take (i := 22) (v := undef) rfl (by kernel_rfl) (by kernel_rfl) (by kernel_rfl) (fun _ _ _ h => h) (Or.inr ⟨by kernel_rfl, rfl⟩) (by assumption) ?_
          (try simp only [List.getElem_toArray, List.getElem_cons_zero, List.getElem_cons_succ]); (try simp only [Act.put, List.setIfInBounds_toArray, List.set_cons_zero, List.set_cons_succ])
          refine wpAnyH_take (i := 23) (v := undef) rfl (by kernel_rfl) (by kernel_rfl) (by kernel_rfl) (fun _ _ _ h => h) (Or.inr ⟨by kernel_rfl, rfl⟩) (by assumption) ?_
          (try simp only [List.getElem_toArray, List.getElem_cons_zero, List.getElem_cons_succ]); (try simp only [Act.put, List.setIfInBounds_toArray, List.set_cons_zero, List.set_cons_succ])
          refine wpAnyH_take (i := 24) (v := ?_) rfl (by kernel_rfl) (by kernel_rfl) (by kernel_rfl) (fun _ _ _ h => h) (Or.inl ⟨by kernel_rfl, ?_⟩) (by assumption) ?_
          rotate_left
          · intro w hSw
            try dsimp only at hSw
            go_simp
            try with_reducible rfl
          (try simp only [List.getElem_toArray, List.getElem_cons_zero, List.getElem_cons_succ]); (try simp only [Act.put, List.setIfInBounds_toArray, List.set_cons_zero, List.set_cons_succ])
          refine wpAnyH_take (i := 25) (v := ?_) rfl (by kernel_rfl) (by kernel_rfl) (by kernel_rfl) (fun _ _ _ h => h) (Or.inl ⟨by kernel_rfl, ?_⟩) (by assumption) ?_
          rotate_left
          · intro w hSw
            try dsimp only at hSw
            go_simp
            try with_reducible rfl
          (try simp only [List.getElem_toArray, List.getElem_cons_zero, List.getElem_cons_succ]); (try simp only [Act.put, List.setIfInBounds_toArray, List.set_cons_zero, List.set_cons_succ])
          refine wpAnyH_done (by kernel_rfl) ?_ _
          have hg9 := k8.rd8 hgV m1
          have hs9 := k8.rd8 hsV m2
          have hB9 := hBV.trans ((k8.below hBV.size lR lS'))
          go_wp2_with fail
          refine ⟨?_, by simp [intOf]; omega⟩
          exact ⟨i + 1, p9, e9, fa9, by simp, by omega, hA9.1, hR9, hS9, hX9, hg9, hs9, hB9⟩
        · have hE : (e != 0) = true := by simp [he]
          go_wp2_with fail
          go_region_held3 (fun w' => w'.cell? ⟨X, 0, none⟩ = some (.pointer (some ⟨R, 0, none⟩)) ∧ w'.cell? ⟨X, 1, none⟩ = some (.pointer (some ⟨S, 0, none⟩)) ∧ w'.cell? (b.add (i * 2)) = some (.int .i64 (K i)) ∧ w'.cell? ⟨b.block, (b.add (i * 2)).off + 1, none⟩ = some (.int .i64 (N i)) ∧ w'.cell? ⟨A, 0, none⟩ = some (.int .i64 e) ∧ w'.cell? ⟨A, 1, none⟩ = some (.int .i64 fa))
            (first | exact ⟨v0, v1, v2, v3, v4, v5⟩ | exact ⟨s0, s1, s2, s3, s4, s5⟩ | exact ⟨t0, t1, t2, t3, t4, t5⟩ | exact ⟨u0, u1, u2, u3, u4, u5⟩)
            (first
              | (go_at_call 10; refine (CB.out V.drew rfl).mono ?_; clear CB; rintro x U1 ⟨p9, e9, fa9, rfl, hA9, hR9, hS9, k9⟩; have k8 : Keep2 R S V U1 := ⟨k9.os, k9.tape, k9.output, k9.size, k9.block⟩; have hX9 := hXV.keep2 k8 hXR hXS; have hAc := hAV.keep2 k8 hAR hAS; have hk8 := k8.block b.block hbV (by omega) (by omega); have s0 : U1.cell? ⟨X, 0, none⟩ = some (.pointer (some ⟨R, 0, none⟩)) := hX9.cell 0; have s1 : U1.cell? ⟨X, 1, none⟩ = some (.pointer (some ⟨S, 0, none⟩)) := hX9.cell 1; have s2 : U1.cell? (b.add (i * 2)) = some (.int .i64 (K i)) := (cell_of_block (by rw [blk_add]; exact hk8)).trans vb0; have s3 : U1.cell? ⟨b.block, (b.add (i * 2)).off + 1, none⟩ = some (.int .i64 (N i)) := (cell_of_block (p := ⟨b.block, (b.add (i * 2)).off + 1, none⟩) hk8).trans vb1; have s4 : U1.cell? ⟨A, 0, none⟩ = some (.int .i64 e) := hAc.cell 0; have s5 : U1.cell? ⟨A, 1, none⟩ = some (.int .i64 fa) := hAc.cell 1; obtain ⟨q1, q2, q3⟩ := hA9.2 he; have hR8 := hR9; rw [q1, q2, q3] at hR8)
              | (go_at_call 19; refine (oFault_any R _ p e fa _ hR8).mono ?_; rintro x U2 ⟨rfl, h12⟩; have hX2 := hX9.below h12; have hA2 := hAc.below h12; have hR7 := hR8.below h12; have hk2 := (h12.block b.block (Nat.lt_of_lt_of_le hbV k8.size)).trans hk8; have t0 : U2.cell? ⟨X, 0, none⟩ = some (.pointer (some ⟨R, 0, none⟩)) := hX2.cell 0; have t1 : U2.cell? ⟨X, 1, none⟩ = some (.pointer (some ⟨S, 0, none⟩)) := hX2.cell 1; have t2 : U2.cell? (b.add (i * 2)) = some (.int .i64 (K i)) := (cell_of_block (by rw [blk_add]; exact hk2)).trans vb0; have t3 : U2.cell? ⟨b.block, (b.add (i * 2)).off + 1, none⟩ = some (.int .i64 (N i)) := (cell_of_block (p := ⟨b.block, (b.add (i * 2)).off + 1, none⟩) hk2).trans vb1; have t4 : U2.cell? ⟨A, 0, none⟩ = some (.int .i64 e) := hA2.cell 0; have t5 : U2.cell? ⟨A, 1, none⟩ = some (.int .i64 fa) := hA2.cell 1)
              | (go_at_call 16; refine (oAt_any R _ p e fa _ hR7).mono ?_; rintro x U3 ⟨rfl, h23⟩; have hX3 := hX2.below h23; have hA3 := hA2.below h23; have hk3 := (h23.block b.block (Nat.lt_of_lt_of_le (Nat.lt_of_lt_of_le hbV k8.size) h12.size)).trans hk2; have u0 : U3.cell? ⟨X, 0, none⟩ = some (.pointer (some ⟨R, 0, none⟩)) := hX3.cell 0; have u1 : U3.cell? ⟨X, 1, none⟩ = some (.pointer (some ⟨S, 0, none⟩)) := hX3.cell 1; have u2 : U3.cell? (b.add (i * 2)) = some (.int .i64 (K i)) := (cell_of_block (by rw [blk_add]; exact hk3)).trans vb0; have u3 : U3.cell? ⟨b.block, (b.add (i * 2)).off + 1, none⟩ = some (.int .i64 (N i)) := (cell_of_block (p := ⟨b.block, (b.add (i * 2)).off + 1, none⟩) hk3).trans vb1; have u4 : U3.cell? ⟨A, 0, none⟩ = some (.int .i64 e) := hA3.cell 0; have u5 : U3.cell? ⟨A, 1, none⟩ = some (.int .i64 fa) := hA3.cell 1))
          have h13 : Below U1.heap.size U1 U3 := h12.trans (h23.mono h12.size)
          have hg9 := rd8_below (k8.rd8 hgV m1) h13
          have hs9 := rd8_below (k8.rd8 hsV m2) h13
          have hB9 := hBV.trans ((k8.below hBV.size lR lS').trans (h13.mono (Nat.le_trans hBV.size k8.size)))
          go_wp2_with fail
          refine ⟨?_, by simp [intOf]; omega⟩
          exact ⟨i + 1, p9, e9, fa9, by simp, by omega, hA9.1, hR9.below h13, hS9.below h13, hX9.below h13, hg9, hs9, hB9⟩
    · by_cases h1 : (i : Int) < n1
      · have h2 : ¬ (i : Int) < 40 := fun h => hlt ⟨h1, h⟩
        clear hlt hR hS hX hg hs hl
        go_wp2_with fail
        refine (live_any wr).mono ?_
        rintro x Y1 ⟨rfl, hy⟩
        replace hB := hB.trans (hy.mono hB.size)
        go_wp2_with fail
        go_ret
        exact ⟨rfl, hB⟩
      · clear hlt hR hS hX hg hs hl
        go_wp2_with fail
        refine (live_any wr).mono ?_
        rintro x Y1 ⟨rfl, hy⟩
        replace hB := hB.trans (hy.mono hB.size)
        go_wp2_with fail
        go_ret
        exact ⟨rfl, hB⟩
end Go.Proofs.Ytccgpjhfgmonpaa
