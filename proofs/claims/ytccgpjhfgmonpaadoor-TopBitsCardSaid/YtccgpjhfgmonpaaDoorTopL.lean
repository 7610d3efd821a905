/- TopBits: the law. -/
import Derived.Test.YtccgpjhfgmonpaaDoorTopM
import Derived.Deep.RegionHeld3
namespace Go.Proofs.YtccgpjhfgmonpaaDoor
open Go.RowKit Go.Sort
set_option linter.unusedVariables false
set_option linter.unusedSimpArgs false
theorem row_after {w w' : World} {base n : Nat} {e : TypeId} {v : Value} {xs : List Value} (h : w.ownsRow base e 1 v n xs) (hb : Below w.heap.size w w') : w'.ownsRow base e 1 v n xs := by
  refine h.kept (grownBy_of_below hb none) ?_
  by_cases hv : v.ownBlock = none
  · exact .inl hv
  · exact .inr hv
theorem le_congr' (f g : Nat → Int) (n : Nat) (h : ∀ i, i < n → f i = g i) : le f n = le g n := by
  induction n with
  | zero => rfl
  | succ n ih => unfold le; rw [ih (fun i hi => h i (by omega)), h n (by omega)]
theorem tbI64 {W : World} {R gg T i : Nat} (P : Nat → Bool) (hR : CellsAt W R 70 (rdr (.slice (some ⟨gg, 0, none⟩) T T) (8 * i) 0 0)) (hrB : Rd8 W (some ⟨gg, 0, none⟩) T (fb P)) (h1 : gg ≠ R) (hT : T ≤ 100000) (hi : 8 * i + 8 ≤ T) :
    Calls Tryd.prog 45 #[.pointer (some ⟨R, 0, none⟩)] W fun x W' => x = .returned (.int .i64 (kk P i)) ∧ CellsAt W' R 70 (rdr (.slice (some ⟨gg, 0, none⟩) T T) (8 * (i + 1)) 0 0) ∧ Rd8 W' (some ⟨gg, 0, none⟩) T (fb P) ∧ W.grownBy W' (some R) := by
  obtain ⟨g1, g2, g3, g4⟩ := st_ok 0 T (8 * i) 8 (by omega) (by omega)
  refine (oI64_any R _ T T (8 * i) 0 0 (fb P) W hR hrB (fun b hb => by cases hb; exact h1) (Nat.le_refl _) hT (by omega)).mono ?_
  rintro x W' ⟨rfl, hC, hgr⟩
  rw [g2, g3, g4] at hC
  refine ⟨?_, hC, hrB.grown hgr (fun b hb => by cases hb; simp; exact h1), hgr⟩
  rw [g1, if_pos rfl, show lw (fun j => fb P (8 * i + j)) 8 = lw (bt (kk P i)) 8 by
    unfold lw
    rw [le_congr' _ (bt (kk P i)) 8 (fun j hj => fb_at P i j hj)], lw_bt64 _ (kk_bd P i)]

set_option maxRecDepth 100000 in
set_option maxHeartbeats 4000000 in
theorem topBits_short (z : Int) (a : Option Addr) (m9 c : Nat) (L : Nat → Int) (w : World) (hr : RdI w a m9 L) (hT : Tab w) (hz : 0 ≤ z ∧ z ≤ 65535) (hc : m9 ≤ c) (hcm : c ≤ 9223372036854775807) (h50 : ¬ (50 : Int) < (m9 : Int)) :
    Calls Tryd.prog 9 #[.int .u16 z, .slice a m9 c] w fun e w' => e = .returned (.bool true) ∧ Below w.heap.size w w' := by
  obtain ⟨hz0, hz1⟩ := hz
  obtain ⟨k, hk⟩ : ∃ k, k = z % 300 := ⟨_, rfl⟩
  have hk0 : 0 ≤ k := by omega
  have hk1 : k < 300 := by omega
  have hkz : z % 300 = k := hk.symm
  have hO := Lib.hid (of_any k a m9 c L w hr (by omega))
  obtain ⟨N, hN⟩ : ∃ N, N = nw k := ⟨_, rfl⟩
  obtain ⟨P, hP⟩ : ∃ P, P = ofP k L m9 := ⟨_, rfl⟩
  have HAS := Lib.hid (fun j (hj : j < m9) => has_ofP (L := L) hk1 hj)
  have RGT := Lib.hid (right_ofP (L := L) (m := m9) hk0 hk1)
  rw [← hN, ← hP] at hO HAS RGT
  have hN5 : N ≤ 5 := by rw [hN]; unfold nw; omega
  clear hk hN hP
  go_enter Tryd.func9, Tryd.ntmps9
  go_wp2_with fail
  refine hO.out.mono ?_
  rintro e V ⟨g, rfl, _, hC, hb⟩
  have hF := rdW_of_cells hC (fun i _ => wd_lt _ i)
  have hL := hr.below hb
  have hTV := hT.below hb
  have hbV := hb
  clear hC hb hr hT hO
  go_wp2
  go_loopw [7, 8] (fun v y wr => ∃ i : Nat, i ≤ N ∧ y = .int .i64 i ∧ wr.ownsRow V.heap.size 5 1 v (8 * i) (cellsB (fb P) (8 * i)) ∧ Below V.heap.size V wr) (fun _ y _ => N - (intOf y).toNat)
  case atStart => exact ⟨0, by omega, rfl, World.ownsRow_nil _ _ _ _, Below.refl _ _⟩
  case round =>
    obtain ⟨i, hi, rfl, hown, hB⟩ := hrel
    have hi0 : (0 : Int) ≤ (i : Int) := by omega
    by_cases hlt : (i : Int) < (N : Int)
    · obtain ⟨b, hbe, hbl, hcell, _⟩ := hF.below hB i (by omega)
      cases hbe
      rw [addr0] at hcell
      have kb := Has.of hbl
      have hw : IntKind.i64.wrap ((wd P i : Nat) : Int) = kk P i := rfl
      have HW := Lib.hid (oPut64_any (kk P i) (kk_bd P i) wr)
      have hsz := hB.size
      go_wp2_with fail
      refine HW.out.mono ?_
      rintro x W2 ⟨a2, c2, rfl, _, hr2, hb2⟩
      have hsz2 := hb2.size
      go_wp2_with (refine wpList_append_rd8 rfl _ _ rfl V.heap.size _ (8 * i) _ rfl (row_after hown hb2) a2 8 c2 (bt (kk P i)) rfl hr2 (fun h => by obtain ⟨_, h1, _⟩ := hr2 0 (by omega); rw [h] at h1; cases h1) (by omega) (by omega) ?_; intro v1 w1 hown1 hb3 _)
      rw [fb_step] at hown1
      refine ⟨?_, by simp [intOf]; omega⟩
      exact ⟨i + 1, by omega, by simp, hown1, hB.trans ((hb2.mono hsz).trans hb3)⟩
    · obtain rfl : i = N := by omega
      obtain ⟨A, C, rfl, hAC, hrd, _, _⟩ := row_rd8 hown (fun j hj => cellsB_at _ _ _ hj) (fun j _ => fb_bd P j)
      have ⟨W0, hW0⟩ : ∃ W0, W0 = wr := ⟨_, rfl⟩
      subst hW0
      have hF0 := hF.below hB
      have hL0 := hL.below hB
      have hT0 := hTV.below hB
      have hbw : Below w.heap.size w W0 := hbV.trans (hB.mono hbV.size)
      have HOp := Lib.hid (oOpen_any A (8 * i) C (fb P) W0 hrd (by omega) hAC)
      clear hF hL hTV hbV hB hown hrd
      go_wp2_with fail
      refine HOp.out.mono ?_
      rintro x V1 ⟨R, gg, rfl, hR, hrB, hgR, lR, lg, ugg, hb1⟩
      have uR : R < V1.heap.size := hR.lt
      obtain ⟨T, hT⟩ : ∃ T, T = 8 * i := ⟨_, rfl⟩
      rw [← hT] at hR hrB
      have hb1s := hb1.size
      clear HOp hlt
      obtain ⟨i0, hi0, hz0, hz1, hz2⟩ := info_parts infoWord
      go_wp2
      go_loopw [10, 11] (fun v y wr => ∃ j : Nat, j ≤ i ∧ y = .int .i64 j ∧ wr.ownsRow V1.heap.size 48 1 v j (cellsW (wd P) j) ∧ CellsAt wr R 70 (rdr (.slice (some ⟨gg, 0, none⟩) T T) (8 * j) 0 0) ∧ Rd8 wr (some ⟨gg, 0, none⟩) T (fb P) ∧ Below W0.heap.size W0 wr ∧ V1.heap.size ≤ wr.heap.size) (fun _ y _ => i - (intOf y).toNat)
      case atStart => exact ⟨0, by omega, rfl, World.ownsRow_nil _ _ _ _, hR, hrB, hb1, Nat.le_refl _⟩
      case round =>
        clear hR hrB hb1
        obtain ⟨j, hj, rfl, hown, hR, hrB, hB, hV⟩ := hrel
        have hj0 : (0 : Int) ≤ (j : Int) := by omega
        by_cases hlt : (j : Int) < (i : Int)
        · have HI := Lib.hid (tbI64 P hR hrB hgR (by omega) (show 8 * j + 8 ≤ T by omega))
          have hkb := kk_back P j
          go_wp2_with fail
          refine HI.out.mono ?_
          rintro x W2 ⟨rfl, hR2, hrB2, hg2⟩
          have hown2 := hown.kept hg2 (.inr fun e => by have := (hown.lt _ e).1; omega)
          have hB2 := hB.trans (below_of_grownBy hg2 hB.size lR)
          have hs2 := hg2.size
          clear HI hown hR hrB
          go_wp2_with (at_builtin; refine wpList_append_own _ rfl _ _ 22 rfl V1.heap.size 48 i0 (.int .u64 0) 1 8 Tryd.underlying22 hi0 hz0 hz1 hz2 rfl (by decide) _ _ _ rfl (hown2.alloc _) ⟨W2.heap.size, 0, none⟩ 1 1 [.int .u64 ((wd P j : Nat) : Int)] rfl rfl (cell_one_new _ _ _) (by simp [Value.oneCell']) (by unfold maxLen; omega) (by omega) (by simp; omega) ?_; intro v' w1 hown3 hg3 _)
          have hle : W0.heap.size ≤ V1.heap.size := hb1s
          rw [cellsW_succ'] at hown3
          have hRlt := hR2.lt
          refine ⟨?_, by simp [intOf]; omega⟩
          refine ⟨j + 1, by omega, by simp, hown3, (hR2.below (bl1 W2 _)).grown hg3 (fun e => by have := (hown2.lt _ e.symm).1; omega), (rd8_below hrB2 (bl1 W2 _)).grown hg3 (fun b hb e => by cases hb; have := (hown2.lt _ e.symm).1; dsimp only at this; omega), (hB2.alloc hB2.size _).grown hg3 (by have := hB2.size; simp; omega) (fun r e => by have := (hown2.lt r e).1; omega), ?_⟩
          have := hg3.size
          simp at this
          omega
        · obtain rfl : j = i := by omega
          obtain ⟨A2, C2, rfl, hOw⟩ := owW_row hown (fun i _ => wd_lt P i)
          have hle2 := hOw.le
          have hG := hOw.rd
          have ⟨W1, hW1⟩ : ∃ W1, W1 = wr := ⟨_, rfl⟩
          subst hW1
          have hF1 := hF0.below hB
          have hL1 := hL0.below hB
          have hT1 := hT0.below hB
          have hbw1 : Below w.heap.size w W1 := hbw.trans (hB.mono hbw.size)
          clear hF0 hL0 hT0 hbw hB hOw hown hlt hrB hi0 hz0 hz1 hz2
          go_wp2
          go_loopw [12] (fun y wr => ∃ j : Nat, j ≤ m9 ∧ y = .int .i64 j ∧ Below W1.heap.size W1 wr) (fun y _ => m9 - (intOf y).toNat)
          case atStart => exact ⟨0, by omega, rfl, Below.refl _ _⟩
          case round =>
            obtain ⟨j2, hj2, rfl, hB⟩ := hrel
            have hj0 : (0 : Int) ≤ (j2 : Int) := by omega
            by_cases hlt : (j2 : Int) < (m9 : Int)
            · obtain ⟨b, hbe, hbl, hcell, hx0, hx1⟩ := hL1.below hB j2 (by omega)
              cases hbe
              obtain ⟨x, hx⟩ : ∃ x, x = L j2 := ⟨_, rfl⟩
              have hh := HAS.out j2 (by omega)
              rw [← hx] at hcell hx0 hx1 hh
              have kb := Has.of hbl
              have C3 := Lib.hid (fun W (h : Below wr.heap.size wr W) => has_any A2 j C2 P x W ((hG.below hB).below h) (by omega) hx1)
              rw [hh] at C3
              clear hx hh
              by_cases hx2 : 0 ≤ x
              · have d1 : decide (0 ≤ x) = true := by simp; omega
                by_cases hx3 : x < k
                · have d2 : decide (x < k) = true := by simp; omega
                  rw [d1, d2] at C3
                  simp only [Bool.and_true, Bool.and_false, Bool.true_and, Bool.false_and] at C3
                  go_wp2_with fail
                  refine wp_region_quiet_below (by kernel_rfl) (by kernel_rfl) ?_
                  repeat (go_big_quiet_step (first | (go_at_call 19; exact Calls.regrown_of (C3.out _ (by repeat (first | with_reducible refine blg ?_ _ _ | with_reducible refine bla ?_ _ | with_reducible exact Below.refl _ _))))))
                  refine wpQuiet_nil ?_
                  rintro _ ⟨⟨d3, o3⟩, rfl⟩
                  have hbg := below_regrown wr d3 o3
                  go_wp2
                  refine ⟨?_, by simp [intOf]; omega⟩
                  exact ⟨j2 + 1, by omega, by go_num, hB.trans (hbg.mono hB.size)⟩
                · have d2 : decide (x < k) = false := by simp; omega
                  rw [d1, d2] at C3
                  simp only [Bool.and_true, Bool.and_false, Bool.true_and, Bool.false_and] at C3
                  go_wp2_with fail
                  refine wp_region_quiet_below (by kernel_rfl) (by kernel_rfl) ?_
                  repeat (go_big_quiet_step (first | (go_at_call 19; exact Calls.regrown_of (C3.out _ (by repeat (first | with_reducible refine blg ?_ _ _ | with_reducible refine bla ?_ _ | with_reducible exact Below.refl _ _))))))
                  refine wpQuiet_nil ?_
                  rintro _ ⟨⟨d3, o3⟩, rfl⟩
                  have hbg := below_regrown wr d3 o3
                  go_wp2
                  refine ⟨?_, by simp [intOf]; omega⟩
                  exact ⟨j2 + 1, by omega, by go_num, hB.trans (hbg.mono hB.size)⟩
              · have d1 : decide (0 ≤ x) = false := by simp; omega
                rw [d1] at C3
                simp only [Bool.and_true, Bool.and_false, Bool.true_and, Bool.false_and] at C3
                go_wp2_with fail
                refine wp_region_quiet_below (by kernel_rfl) (by kernel_rfl) ?_
                repeat (go_big_quiet_step (first | (go_at_call 19; exact Calls.regrown_of (C3.out _ (by repeat (first | with_reducible refine blg ?_ _ _ | with_reducible refine bla ?_ _ | with_reducible exact Below.refl _ _))))))
                refine wpQuiet_nil ?_
                rintro _ ⟨⟨d3, o3⟩, rfl⟩
                have hbg := below_regrown wr d3 o3
                go_wp2
                refine ⟨?_, by simp [intOf]; omega⟩
                exact ⟨j2 + 1, by omega, by go_num, hB.trans (hbg.mono hB.size)⟩
            · obtain rfl : j2 = m9 := by omega
              have hb9 := bl1 wr (.cells #[.int .i64 3, .int .i64 3] 3)
              have hl9 : RdI (wr.alloc (.cells #[.int .i64 3, .int .i64 3] 3)) (some ⟨wr.heap.size, 0, none⟩) 2 (fun _ => 3) := fun i hi => by
                have h := rdI_lit wr [3, 3] _ rfl (by decide) i hi
                rwa [show nth [3, 3] i = 3 by (match i, hi with | 0, _ => rfl | 1, _ => rfl)] at h
              have HO := Lib.hid (of_any 9 _ 2 2 (fun _ => 3) _ hl9 (by decide))
              have HC := Lib.hid (fun W a c (h : RdW W a (nw 9) (wd (ofP 9 (fun _ => 3) 2))) => count_any a (nw 9) c _ W h (by decide))
              rw [cnt_nine] at HC
              obtain ⟨N9, hN9⟩ : ∃ N9, N9 = nw 9 := ⟨_, rfl⟩
              obtain ⟨P9, hP9⟩ : ∃ P9, P9 = ofP 9 (fun _ => 3) 2 := ⟨_, rfl⟩
              rw [← hN9, ← hP9] at HO HC
              clear hN9 hP9 hl9 hlt hj0 hj2
              have HE := Lib.hid (fun W (h : Below W1.heap.size W1 W) => oEnd_no R _ T T (8 * j) 0 W (hR.below h) true (by simp; omega))
              have HS := Lib.hid (fun W (h : Below W1.heap.size W1 W) => same_any _ A2 j j C2 _ _ W (hF1.below h) (hG.below h) (fun _ _ => rfl) (by omega))
              have HR := Lib.hid (fun W (h : Below W1.heap.size W1 W) => right_any A2 j C2 P k W (hG.below h) (hT1.below h) (by omega) hle2)
              rw [RGT.out] at HR
              go_wp2_with fail
              refine HO.out.mono ?_
              rintro e X1 ⟨g9, rfl, _, hC9, hb⟩
              have hA9 := rdW_of_cells hC9 (fun i _ => wd_lt _ i)
              replace hB := hB.trans ((hb9.trans (hb.mono hb9.size)).mono hB.size)
              clear hC9 hb hb9 HO
              go_wp2_with fail
              refine (HC.out _ _ _ hA9).mono ?_
              rintro e X2 ⟨rfl, rfl⟩
              clear hA9 HC
              go_wp2_with fail
              refine (HE.out _ hB).mono ?_
              rintro e X3 ⟨rfl, hb⟩
              replace hB := hB.trans (hb.mono hB.size)
              clear hb HE
              go_wp2_with fail
              refine (HS.out _ hB).mono ?_
              rintro e X4 ⟨rfl, hb⟩
              replace hB := hB.trans (hb.mono hB.size)
              clear hb HS
              go_wp2_with fail
              refine (HR.out _ hB).mono ?_
              rintro e X5 ⟨rfl, hb⟩
              replace hB := hB.trans (hb.mono hB.size)
              clear hb HR
              go_wp2_with fail
              go_ret
              exact ⟨rfl, hbw1.trans (hB.mono hbw1.size)⟩

set_option maxRecDepth 100000 in
set_option maxHeartbeats 4000000 in
theorem topBits_long (z : Int) (a : Option Addr) (m9 c : Nat) (L : Nat → Int) (w : World) (hr : RdI w a m9 L) (hT : Tab w) (hz : 0 ≤ z ∧ z ≤ 65535) (hc : m9 ≤ c) (hcm : c ≤ 9223372036854775807) (h50 : (50 : Int) < (m9 : Int)) :
    Calls Tryd.prog 9 #[.int .u16 z, .slice a m9 c] w fun e w' => e = .returned (.bool true) ∧ Below w.heap.size w w' := by
  have h5c : (50 : Int) ≤ (c : Int) := by omega
  have h5c' : 50 ≤ c := by omega
  obtain ⟨b0, rfl, _⟩ := hr 0 (by omega)
  replace hr : RdI w (some b0) 50 L := fun i hi => hr i (by omega)
  obtain ⟨hz0, hz1⟩ := hz
  obtain ⟨k, hk⟩ : ∃ k, k = z % 300 := ⟨_, rfl⟩
  have hk0 : 0 ≤ k := by omega
  have hk1 : k < 300 := by omega
  have hkz : z % 300 = k := hk.symm
  have hO := Lib.hid (of_any k (some b0) 50 c L w hr (by omega))
  obtain ⟨N, hN⟩ : ∃ N, N = nw k := ⟨_, rfl⟩
  obtain ⟨P, hP⟩ : ∃ P, P = ofP k L 50 := ⟨_, rfl⟩
  have HAS := Lib.hid (fun j (hj : j < 50) => has_ofP (L := L) hk1 hj)
  have RGT := Lib.hid (right_ofP (L := L) (m := 50) hk0 hk1)
  rw [← hN, ← hP] at hO HAS RGT
  have hN5 : N ≤ 5 := by rw [hN]; unfold nw; omega
  clear hk hN hP
  go_enter Tryd.func9, Tryd.ntmps9
  go_wp2_with fail
  refine hO.out.mono ?_
  rintro e V ⟨g, rfl, _, hC, hb⟩
  have hF := rdW_of_cells hC (fun i _ => wd_lt _ i)
  have hL := hr.below hb
  have hTV := hT.below hb
  have hbV := hb
  clear hC hb hr hT hO
  go_wp2
  go_loopw [7, 8] (fun v y wr => ∃ i : Nat, i ≤ N ∧ y = .int .i64 i ∧ wr.ownsRow V.heap.size 5 1 v (8 * i) (cellsB (fb P) (8 * i)) ∧ Below V.heap.size V wr) (fun _ y _ => N - (intOf y).toNat)
  case atStart => exact ⟨0, by omega, rfl, World.ownsRow_nil _ _ _ _, Below.refl _ _⟩
  case round =>
    obtain ⟨i, hi, rfl, hown, hB⟩ := hrel
    have hi0 : (0 : Int) ≤ (i : Int) := by omega
    by_cases hlt : (i : Int) < (N : Int)
    · obtain ⟨b, hbe, hbl, hcell, _⟩ := hF.below hB i (by omega)
      cases hbe
      rw [addr0] at hcell
      have kb := Has.of hbl
      have hw : IntKind.i64.wrap ((wd P i : Nat) : Int) = kk P i := rfl
      have HW := Lib.hid (oPut64_any (kk P i) (kk_bd P i) wr)
      have hsz := hB.size
      go_wp2_with fail
      refine HW.out.mono ?_
      rintro x W2 ⟨a2, c2, rfl, _, hr2, hb2⟩
      have hsz2 := hb2.size
      go_wp2_with (refine wpList_append_rd8 rfl _ _ rfl V.heap.size _ (8 * i) _ rfl (row_after hown hb2) a2 8 c2 (bt (kk P i)) rfl hr2 (fun h => by obtain ⟨_, h1, _⟩ := hr2 0 (by omega); rw [h] at h1; cases h1) (by omega) (by omega) ?_; intro v1 w1 hown1 hb3 _)
      rw [fb_step] at hown1
      refine ⟨?_, by simp [intOf]; omega⟩
      exact ⟨i + 1, by omega, by simp, hown1, hB.trans ((hb2.mono hsz).trans hb3)⟩
    · obtain rfl : i = N := by omega
      obtain ⟨A, C, rfl, hAC, hrd, _, _⟩ := row_rd8 hown (fun j hj => cellsB_at _ _ _ hj) (fun j _ => fb_bd P j)
      have ⟨W0, hW0⟩ : ∃ W0, W0 = wr := ⟨_, rfl⟩
      subst hW0
      have hF0 := hF.below hB
      have hL0 := hL.below hB
      have hT0 := hTV.below hB
      have hbw : Below w.heap.size w W0 := hbV.trans (hB.mono hbV.size)
      have HOp := Lib.hid (oOpen_any A (8 * i) C (fb P) W0 hrd (by omega) hAC)
      clear hF hL hTV hbV hB hown hrd
      go_wp2_with fail
      refine HOp.out.mono ?_
      rintro x V1 ⟨R, gg, rfl, hR, hrB, hgR, lR, lg, ugg, hb1⟩
      have uR : R < V1.heap.size := hR.lt
      obtain ⟨T, hT⟩ : ∃ T, T = 8 * i := ⟨_, rfl⟩
      rw [← hT] at hR hrB
      have hb1s := hb1.size
      clear HOp hlt
      obtain ⟨i0, hi0, hz0, hz1, hz2⟩ := info_parts infoWord
      go_wp2
      go_loopw [10, 11] (fun v y wr => ∃ j : Nat, j ≤ i ∧ y = .int .i64 j ∧ wr.ownsRow V1.heap.size 48 1 v j (cellsW (wd P) j) ∧ CellsAt wr R 70 (rdr (.slice (some ⟨gg, 0, none⟩) T T) (8 * j) 0 0) ∧ Rd8 wr (some ⟨gg, 0, none⟩) T (fb P) ∧ Below W0.heap.size W0 wr ∧ V1.heap.size ≤ wr.heap.size) (fun _ y _ => i - (intOf y).toNat)
      case atStart => exact ⟨0, by omega, rfl, World.ownsRow_nil _ _ _ _, hR, hrB, hb1, Nat.le_refl _⟩
      case round =>
        clear hR hrB hb1
        obtain ⟨j, hj, rfl, hown, hR, hrB, hB, hV⟩ := hrel
        have hj0 : (0 : Int) ≤ (j : Int) := by omega
        by_cases hlt : (j : Int) < (i : Int)
        · have HI := Lib.hid (tbI64 P hR hrB hgR (by omega) (show 8 * j + 8 ≤ T by omega))
          have hkb := kk_back P j
          go_wp2_with fail
          refine HI.out.mono ?_
          rintro x W2 ⟨rfl, hR2, hrB2, hg2⟩
          have hown2 := hown.kept hg2 (.inr fun e => by have := (hown.lt _ e).1; omega)
          have hB2 := hB.trans (below_of_grownBy hg2 hB.size lR)
          have hs2 := hg2.size
          clear HI hown hR hrB
          go_wp2_with (at_builtin; refine wpList_append_own _ rfl _ _ 22 rfl V1.heap.size 48 i0 (.int .u64 0) 1 8 Tryd.underlying22 hi0 hz0 hz1 hz2 rfl (by decide) _ _ _ rfl (hown2.alloc _) ⟨W2.heap.size, 0, none⟩ 1 1 [.int .u64 ((wd P j : Nat) : Int)] rfl rfl (cell_one_new _ _ _) (by simp [Value.oneCell']) (by unfold maxLen; omega) (by omega) (by simp; omega) ?_; intro v' w1 hown3 hg3 _)
          have hle : W0.heap.size ≤ V1.heap.size := hb1s
          rw [cellsW_succ'] at hown3
          have hRlt := hR2.lt
          refine ⟨?_, by simp [intOf]; omega⟩
          refine ⟨j + 1, by omega, by simp, hown3, (hR2.below (bl1 W2 _)).grown hg3 (fun e => by have := (hown2.lt _ e.symm).1; omega), (rd8_below hrB2 (bl1 W2 _)).grown hg3 (fun b hb e => by cases hb; have := (hown2.lt _ e.symm).1; dsimp only at this; omega), (hB2.alloc hB2.size _).grown hg3 (by have := hB2.size; simp; omega) (fun r e => by have := (hown2.lt r e).1; omega), ?_⟩
          have := hg3.size
          simp at this
          omega
        · obtain rfl : j = i := by omega
          obtain ⟨A2, C2, rfl, hOw⟩ := owW_row hown (fun i _ => wd_lt P i)
          have hle2 := hOw.le
          have hG := hOw.rd
          have ⟨W1, hW1⟩ : ∃ W1, W1 = wr := ⟨_, rfl⟩
          subst hW1
          have hF1 := hF0.below hB
          have hL1 := hL0.below hB
          have hT1 := hT0.below hB
          have hbw1 : Below w.heap.size w W1 := hbw.trans (hB.mono hbw.size)
          clear hF0 hL0 hT0 hbw hB hOw hown hlt hrB hi0 hz0 hz1 hz2
          go_wp2
          go_loopw [12] (fun y wr => ∃ j : Nat, j ≤ 50 ∧ y = .int .i64 j ∧ Below W1.heap.size W1 wr) (fun y _ => 50 - (intOf y).toNat)
          case atStart => exact ⟨0, by omega, rfl, Below.refl _ _⟩
          case round =>
            obtain ⟨j2, hj2, rfl, hB⟩ := hrel
            have hj0 : (0 : Int) ≤ (j2 : Int) := by omega
            by_cases hlt : (j2 : Int) < (50 : Int)
            · obtain ⟨b, hbe, hbl, hcell, hx0, hx1⟩ := hL1.below hB j2 (by omega)
              cases hbe
              obtain ⟨x, hx⟩ : ∃ x, x = L j2 := ⟨_, rfl⟩
              have hh := HAS.out j2 (by omega)
              rw [← hx] at hcell hx0 hx1 hh
              have kb := Has.of hbl
              have C3 := Lib.hid (fun W (h : Below wr.heap.size wr W) => has_any A2 j C2 P x W ((hG.below hB).below h) (by omega) hx1)
              rw [hh] at C3
              clear hx hh
              by_cases hx2 : 0 ≤ x
              · have d1 : decide (0 ≤ x) = true := by simp; omega
                by_cases hx3 : x < k
                · have d2 : decide (x < k) = true := by simp; omega
                  rw [d1, d2] at C3
                  simp only [Bool.and_true, Bool.and_false, Bool.true_and, Bool.false_and] at C3
                  go_wp2_with fail
                  refine wp_region_quiet_below (by kernel_rfl) (by kernel_rfl) ?_
                  repeat (go_big_quiet_step (first | (go_at_call 19; exact Calls.regrown_of (C3.out _ (by repeat (first | with_reducible refine blg ?_ _ _ | with_reducible refine bla ?_ _ | with_reducible exact Below.refl _ _))))))
                  refine wpQuiet_nil ?_
                  rintro _ ⟨⟨d3, o3⟩, rfl⟩
                  have hbg := below_regrown wr d3 o3
                  go_wp2
                  refine ⟨?_, by simp [intOf]; omega⟩
                  exact ⟨j2 + 1, by omega, by go_num, hB.trans (hbg.mono hB.size)⟩
                · have d2 : decide (x < k) = false := by simp; omega
                  rw [d1, d2] at C3
                  simp only [Bool.and_true, Bool.and_false, Bool.true_and, Bool.false_and] at C3
                  go_wp2_with fail
                  refine wp_region_quiet_below (by kernel_rfl) (by kernel_rfl) ?_
                  repeat (go_big_quiet_step (first | (go_at_call 19; exact Calls.regrown_of (C3.out _ (by repeat (first | with_reducible refine blg ?_ _ _ | with_reducible refine bla ?_ _ | with_reducible exact Below.refl _ _))))))
                  refine wpQuiet_nil ?_
                  rintro _ ⟨⟨d3, o3⟩, rfl⟩
                  have hbg := below_regrown wr d3 o3
                  go_wp2
                  refine ⟨?_, by simp [intOf]; omega⟩
                  exact ⟨j2 + 1, by omega, by go_num, hB.trans (hbg.mono hB.size)⟩
              · have d1 : decide (0 ≤ x) = false := by simp; omega
                rw [d1] at C3
                simp only [Bool.and_true, Bool.and_false, Bool.true_and, Bool.false_and] at C3
                go_wp2_with fail
                refine wp_region_quiet_below (by kernel_rfl) (by kernel_rfl) ?_
                repeat (go_big_quiet_step (first | (go_at_call 19; exact Calls.regrown_of (C3.out _ (by repeat (first | with_reducible refine blg ?_ _ _ | with_reducible refine bla ?_ _ | with_reducible exact Below.refl _ _))))))
                refine wpQuiet_nil ?_
                rintro _ ⟨⟨d3, o3⟩, rfl⟩
                have hbg := below_regrown wr d3 o3
                go_wp2
                refine ⟨?_, by simp [intOf]; omega⟩
                exact ⟨j2 + 1, by omega, by go_num, hB.trans (hbg.mono hB.size)⟩
            · obtain rfl : j2 = 50 := by omega
              have hb9 := bl1 wr (.cells #[.int .i64 3, .int .i64 3] 3)
              have hl9 : RdI (wr.alloc (.cells #[.int .i64 3, .int .i64 3] 3)) (some ⟨wr.heap.size, 0, none⟩) 2 (fun _ => 3) := fun i hi => by
                have h := rdI_lit wr [3, 3] _ rfl (by decide) i hi
                rwa [show nth [3, 3] i = 3 by (match i, hi with | 0, _ => rfl | 1, _ => rfl)] at h
              have HO := Lib.hid (of_any 9 _ 2 2 (fun _ => 3) _ hl9 (by decide))
              have HC := Lib.hid (fun W a c (h : RdW W a (nw 9) (wd (ofP 9 (fun _ => 3) 2))) => count_any a (nw 9) c _ W h (by decide))
              rw [cnt_nine] at HC
              obtain ⟨N9, hN9⟩ : ∃ N9, N9 = nw 9 := ⟨_, rfl⟩
              obtain ⟨P9, hP9⟩ : ∃ P9, P9 = ofP 9 (fun _ => 3) 2 := ⟨_, rfl⟩
              rw [← hN9, ← hP9] at HO HC
              clear hN9 hP9 hl9 hlt hj0 hj2
              have HE := Lib.hid (fun W (h : Below W1.heap.size W1 W) => oEnd_no R _ T T (8 * j) 0 W (hR.below h) true (by simp; omega))
              have HS := Lib.hid (fun W (h : Below W1.heap.size W1 W) => same_any _ A2 j j C2 _ _ W (hF1.below h) (hG.below h) (fun _ _ => rfl) (by omega))
              have HR := Lib.hid (fun W (h : Below W1.heap.size W1 W) => right_any A2 j C2 P k W (hG.below h) (hT1.below h) (by omega) hle2)
              rw [RGT.out] at HR
              go_wp2_with fail
              refine HO.out.mono ?_
              rintro e X1 ⟨g9, rfl, _, hC9, hb⟩
              have hA9 := rdW_of_cells hC9 (fun i _ => wd_lt _ i)
              replace hB := hB.trans ((hb9.trans (hb.mono hb9.size)).mono hB.size)
              clear hC9 hb hb9 HO
              go_wp2_with fail
              refine (HC.out _ _ _ hA9).mono ?_
              rintro e X2 ⟨rfl, rfl⟩
              clear hA9 HC
              go_wp2_with fail
              refine (HE.out _ hB).mono ?_
              rintro e X3 ⟨rfl, hb⟩
              replace hB := hB.trans (hb.mono hB.size)
              clear hb HE
              go_wp2_with fail
              refine (HS.out _ hB).mono ?_
              rintro e X4 ⟨rfl, hb⟩
              replace hB := hB.trans (hb.mono hB.size)
              clear hb HS
              go_wp2_with fail
              refine (HR.out _ hB).mono ?_
              rintro e X5 ⟨rfl, hb⟩
              replace hB := hB.trans (hb.mono hB.size)
              clear hb HR
              go_wp2_with fail
              go_ret
              exact ⟨rfl, hbw1.trans (hB.mono hbw1.size)⟩

theorem topBits_law (z : Int) (a : Option Addr) (m9 c : Nat) (L : Nat → Int) (w : World) (hr : RdI w a m9 L) (hT : Tab w) (hz : 0 ≤ z ∧ z ≤ 65535) (hc : m9 ≤ c) (hcm : c ≤ 9223372036854775807) :
    Calls Tryd.prog 9 #[.int .u16 z, .slice a m9 c] w fun e w' => e = .returned (.bool true) ∧ Below w.heap.size w w' := by
  by_cases h50 : (50 : Int) < (m9 : Int)
  · exact topBits_long z a m9 c L w hr hT hz hc hcm h50
  · exact topBits_short z a m9 c L w hr hT hz hc hcm h50
end Go.Proofs.YtccgpjhfgmonpaaDoor
