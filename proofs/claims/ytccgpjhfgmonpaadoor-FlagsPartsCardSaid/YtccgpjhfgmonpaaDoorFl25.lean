/- Package flags: THE PARTS OF A SET, ONE BEHIND THE OTHER, HAVE ALL OF IT: the law. -/
import Derived.Test.YtccgpjhfgmonpaaDoorFl23
namespace Go.Proofs.YtccgpjhfgmonpaaDoor
open Go.RowKit Go.Sort
set_option linter.unusedVariables false

theorem ppP_pl {f N : Nat} {t : Int} {p : Nat → Bool} {x : Nat} : ppP f t (pl p N) x = (decide (x + f < N) && p (x + f) && decide (((x + f : Nat) : Int) < t)) := by
  rw [Bool.eq_iff_iff, ppP_iff, mem_pl]
  simp only [Bool.and_eq_true, decide_eq_true_iff]
/-- What stands below the cut, in the first part. -/
theorem part_lo {p : Nat → Bool} {m i v : Nat} (hi : i < v) (hv : v ≤ 64 * m) (hm : 64 * m ≤ 4096) : hasB (ppP 0 (v : Int) (pl p (64 * m))) (nw ((v : Int) - ((0 : Nat) : Int))) (i : Int) = hasB p m (i : Int) := by
  have h1 : inB (nw ((v : Int) - ((0 : Nat) : Int))) (i : Int) = true := decide_eq_true (by unfold nw; omega)
  have h2 : inB m (i : Int) = true := decide_eq_true (by omega)
  rw [hasB_t h1, hasB_t h2, ppP_pl, show (i : Int).toNat = i by omega]
  have h3 : i < 64 * m := by omega
  have h4 : (i : Int) < (v : Int) := by omega
  simp only [Nat.add_zero, h3, h4, decide_true, Bool.true_and, Bool.and_true]
theorem part_hi {p : Nat → Bool} {m i v : Nat} (hi : v ≤ i) (hv : i < 64 * m) (hm : 64 * m ≤ 4096) : hasB (ppP v ((64 * m : Nat) : Int) (pl p (64 * m))) (nw (((64 * m : Nat) : Int) - (v : Int))) ((i : Int) - (v : Int)) = hasB p m (i : Int) := by
  have h1 : inB (nw (((64 * m : Nat) : Int) - (v : Int))) ((i : Int) - (v : Int)) = true := decide_eq_true (by unfold nw; omega)
  have h2 : inB m (i : Int) = true := decide_eq_true (by omega)
  rw [hasB_t h1, hasB_t h2, ppP_pl, show ((i : Int) - (v : Int)).toNat + v = i by omega, show (i : Int).toNat = i by omega]
  have h4 : ((i : Nat) : Int) < ((64 * m : Nat) : Int) := by omega
  simp only [hv, h4, decide_true, Bool.true_and, Bool.and_true]
theorem parts_cnt {p : Nat → Bool} {m v : Nat} (hv : v ≤ 64 * m) (hm : 64 * m ≤ 4096) :
    cnt (ppP 0 (v : Int) (pl p (64 * m))) (64 * nw ((v : Int) - ((0 : Nat) : Int))) + cnt (ppP v ((64 * m : Nat) : Int) (pl p (64 * m))) (64 * nw (((64 * m : Nat) : Int) - (v : Int))) = cnt p (64 * m) := by
  have e1 : cnt (ppP 0 (v : Int) (pl p (64 * m))) (64 * nw ((v : Int) - ((0 : Nat) : Int))) = cnt p v := by
    rw [cnt_gap (a := v) (by unfold nw; omega) (fun x h1 _ => by
      rw [ppP_pl]
      have : ¬ ((x + 0 : Nat) : Int) < (v : Int) := by omega
      simp only [this, decide_false, Bool.and_false])]
    refine cnt_congr fun x hx => ?_
    rw [ppP_pl]
    have h3 : x < 64 * m := by omega
    have h4 : (x : Int) < (v : Int) := by omega
    simp only [Nat.add_zero, h3, h4, decide_true, Bool.true_and, Bool.and_true]
  have e2 : cnt (ppP v ((64 * m : Nat) : Int) (pl p (64 * m))) (64 * nw (((64 * m : Nat) : Int) - (v : Int))) = cnt (fun x => p (v + x)) (64 * m - v) := by
    rw [cnt_gap (a := 64 * m - v) (by unfold nw; omega) (fun x h1 _ => by
      rw [ppP_pl]
      have : ¬ x + v < 64 * m := by omega
      simp only [this, decide_false, Bool.false_and])]
    refine cnt_congr fun x hx => ?_
    rw [ppP_pl]
    have h3 : x + v < 64 * m := by omega
    have h4 : ((x + v : Nat) : Int) < ((64 * m : Nat) : Int) := by omega
    simp only [h3, h4, decide_true, Bool.true_and, Bool.and_true]
    rw [Nat.add_comm]
  rw [e1, e2, ← cnt_add, show v + (64 * m - v) = 64 * m by omega]

set_option maxRecDepth 100000 in
set_option maxHeartbeats 16000000 in
theorem flagsParts_law (a : Option Addr) (n c : Nat) (p : Nat → Bool) (z z2 : Int) (w : World) (hr : RdW w a n (wd p)) (hT : Tab w) (hc : n ≤ c) (hcm : c ≤ 9223372036854775807) (hz : 0 ≤ z ∧ z ≤ 65535) :
    Calls Tryd.prog 8 #[.slice a n c, .agg #[.int .u16 z, .int .u16 z2]] w fun e w' => e = .returned (.bool true) ∧ Below w.heap.size w w' := by
  have HCM := Lib.hid hcm
  have hb0 := bl1 w (.cells #[.int .u16 z, .int .u16 z2] 44)
  have hS0 : St w a n p (w.alloc (.cells #[.int .u16 z, .int .u16 z2] 44)) := ⟨hr.below hb0, hT.below hb0, hb0⟩
  have hX0 : CellsAt (w.alloc (.cells #[.int .u16 z, .int .u16 z2] 44)) w.heap.size 44 #[.int .u16 z, .int .u16 z2] := World.alloc_heap_new w _
  obtain ⟨hz0, hz1⟩ := hz
  clear hcm hr hT hb0
  go_enter Tryd.func8, Tryd.ntmps8
  go_wp2_with fail
  refine (few_bl a n c _ hc HCM.out).mono ?_
  rintro e W1 ⟨m, hmn, hm8, rfl, hb⟩
  have hS1 := hS0.on hb
  have hX1 := hX0.below hb
  have hS : St w a m p W1 := ⟨hS1.rd.less hmn, hS1.tab, hS1.below⟩
  have c0 : W1.cell? ⟨w.heap.size, 0, none⟩ = some (.int .u16 z) := hX1.cell 0
  have hm : m ≤ 100000 := by omega
  have hm64 : 64 * m ≤ 4096 := by omega
  have h64 : (0 : Int) ≤ 64 * (m : Int) := by omega
  have hmi : (m : Int) ≤ 8 := by omega
  clear hS1 hb hS0 hX0 hX1
  obtain ⟨v, hv⟩ : ∃ v : Nat, (v : Int) = z % (64 * (m : Int) + 1) := ⟨(z % (64 * (m : Int) + 1)).toNat, by have := Int.emod_nonneg z (show (64 * (m : Int) + 1) ≠ 0 by omega); omega⟩
  have hvm : v ≤ 64 * m := by have := Int.emod_lt_of_pos z (show (0 : Int) < 64 * (m : Int) + 1 by omega); omega
  have hv' : z % (64 * (m : Int) + 1) = (v : Int) := hv.symm
  have hne : (64 * (m : Int) + 1 == 0) = false := by simp; omega
  have HP1 := Lib.hid (fun W (h : St w a m p W) => part_any a m c p 0 (v : Int) W h.rd h.tab hm (by decide) (by omega))
  have HP2 := Lib.hid (fun W (h : St w a m p W) => part_any a m c p (v : Int) (64 * (m : Int)) W h.rd h.tab hm (by omega) (by omega))
  rw [show (0 : Int).toNat = 0 by decide] at HP1
  rw [show (v : Int).toNat = v by omega, show (64 * (m : Int)) = ((64 * m : Nat) : Int) by omega] at HP2
  have HLO := Lib.hid (fun i (hi : i < v) => part_lo (p := p) (m := m) hi hvm hm64)
  have HHI := Lib.hid (fun i (h1 : v ≤ i) (h2 : i < 64 * m) => part_hi (p := p) (m := m) h1 h2 hm64)
  have HCN := Lib.hid (parts_cnt (p := p) (m := m) hvm hm64)
  have HN1 := Lib.hid (nw_le ((v : Int) - ((0 : Nat) : Int)))
  have HN2 := Lib.hid (nw_le (((64 * m : Nat) : Int) - (v : Int)))
  obtain ⟨P1, hP1⟩ : ∃ P1, P1 = ppP 0 (v : Int) (pl p (64 * m)) := ⟨_, rfl⟩
  obtain ⟨P2, hP2⟩ : ∃ P2, P2 = ppP v ((64 * m : Nat) : Int) (pl p (64 * m)) := ⟨_, rfl⟩
  obtain ⟨N1, hN1⟩ : ∃ N1, N1 = nw ((v : Int) - ((0 : Nat) : Int)) := ⟨_, rfl⟩
  obtain ⟨N2, hN2⟩ : ∃ N2, N2 = nw (((64 * m : Nat) : Int) - (v : Int)) := ⟨_, rfl⟩
  simp only [← hP1, ← hP2, ← hN1, ← hN2] at HP1 HP2 HLO HHI HCN HN1 HN2
  rw [show ((64 * m : Nat) : Int) = 64 * (m : Int) by omega] at HP2
  have kX := has_of_cell' c0
  clear hP1 hP2 hN1 hN2 hv hmn hm8
  go_wp2_with fail
  refine (HP1.out _ hS).mono ?_
  rintro e W2 ⟨g1, rfl, _, hC, hb⟩
  have hA := rdW_of_cells hC (fun i _ => wd_lt _ i)
  replace hS := hS.on hb
  clear hC hb c0 kX
  go_wp2_with fail
  refine (HP2.out _ hS).mono ?_
  rintro e W3 ⟨g2, rfl, _, hC, hb⟩
  have hB := rdW_of_cells hC (fun i _ => wd_lt _ i)
  replace hS := hS.on hb
  replace hA := hA.below hb
  clear hC hb
  have n1 : N1 ≤ 100000 := by have := HN1.out; omega
  have n2 : N2 ≤ 100000 := by have := HN2.out; omega
  go_wp2
  go_loopw [9] (fun y wr => ∃ i : Nat, i ≤ 64 * m ∧ y = .int .i64 i ∧ St w a m p wr ∧ RdW wr (some ⟨g1, 0, none⟩) N1 (wd P1) ∧ RdW wr (some ⟨g2, 0, none⟩) N2 (wd P2)) (fun y _ => 64 * m - (intOf y).toNat)
  case atStart => exact ⟨0, by omega, rfl, hS, hA, hB⟩
  case round =>
    clear hS hA hB
    obtain ⟨i, hi, rfl, hS, hA, hB⟩ := hrel
    have hi0 : (0 : Int) ≤ (i : Int) := by omega
    by_cases hlt : (i : Int) < 64 * (m : Int)
    · have hltn : i < 64 * m := by omega
      by_cases hiv : i < v
      · have b1 : decide (v ≤ i) = false := by simp; omega
        have h1 := has_any (some ⟨g1, 0, none⟩) N1 N1 P1 i wr hA n1 (by omega)
        rw [HLO.out i hiv] at h1
        have HH := Lib.hid h1
        clear h1
        go_wp2_with fail
        refine HH.out.mono ?_
        rintro e W5 ⟨rfl, hb⟩
        replace hS := hS.on hb
        replace hA := hA.below hb
        replace hB := hB.below hb
        clear hb HH
        go_wp2_with fail
        refine (has_any a m c p i W5 hS.rd hm (by omega)).mono ?_
        rintro e W6 ⟨rfl, hb⟩
        replace hS := hS.on hb
        replace hA := hA.below hb
        replace hB := hB.below hb
        clear hb
        go_wp2
        refine ⟨?_, by simp [intOf]; omega⟩
        exact ⟨i + 1, by omega, by simp, hS, hA, hB⟩
      · have b1 : decide (v ≤ i) = true := by simp; omega
        have hvi : v ≤ i := by omega
        have HH := Lib.hid (has_any (some ⟨g1, 0, none⟩) N1 N1 P1 i wr hA n1 (by omega))
        go_wp2_with fail
        refine HH.out.mono ?_
        rintro e W5 ⟨rfl, hb⟩
        replace hS := hS.on hb
        replace hA := hA.below hb
        replace hB := hB.below hb
        clear hb HH
        have h1 := has_any (some ⟨g2, 0, none⟩) N2 N2 P2 ((i : Int) - (v : Int)) W5 hB n2 (by omega)
        rw [HHI.out i hvi hltn] at h1
        have HH := Lib.hid h1
        clear h1
        go_wp2_with fail
        refine HH.out.mono ?_
        rintro e W6 ⟨rfl, hb⟩
        replace hS := hS.on hb
        replace hA := hA.below hb
        replace hB := hB.below hb
        clear hb HH
        go_wp2_with fail
        refine (has_any a m c p i W6 hS.rd hm (by omega)).mono ?_
        rintro e W7 ⟨rfl, hb⟩
        replace hS := hS.on hb
        replace hA := hA.below hb
        replace hB := hB.below hb
        clear hb
        go_wp2
        refine ⟨?_, by simp [intOf]; omega⟩
        exact ⟨i + 1, by omega, by simp, hS, hA, hB⟩
    · go_wp2_with fail
      refine (live_any wr hS.tab).mono ?_
      rintro e W5 ⟨rfl, hb⟩
      replace hS := hS.on hb
      replace hA := hA.below hb
      replace hB := hB.below hb
      clear hb
      go_wp2_with fail
      refine (calls_below (count_any (some ⟨g1, 0, none⟩) N1 N1 P1 W5 hA n1)).mono ?_
      rintro e W6 ⟨rfl, hb⟩
      replace hS := hS.on hb
      replace hB := hB.below hb
      clear hb
      go_wp2_with fail
      refine (calls_below (count_any (some ⟨g2, 0, none⟩) N2 N2 P2 W6 hB n2)).mono ?_
      rintro e W7 ⟨rfl, hb⟩
      replace hS := hS.on hb
      clear hb
      have f1 := cnt_le P1 (64 * N1)
      have f2 := cnt_le P2 (64 * N2)
      go_wp2_with fail
      refine (calls_below (count_any a m c p W7 hS.rd hm)).mono ?_
      rintro e W8 ⟨rfl, hb⟩
      replace hS := hS.on hb
      clear hb
      have f3 : ((cnt P1 (64 * N1) : Nat) : Int) + ((cnt P2 (64 * N2) : Nat) : Int) = ((cnt p (64 * m) : Nat) : Int) := by have := HCN.out; omega
      have f4 : (((cnt P1 (64 * N1) : Nat) : Int) + ((cnt P2 (64 * N2) : Nat) : Int) == ((cnt p (64 * m) : Nat) : Int)) = true := by simp [f3]
      clear f3
      go_wp2_with fail
      go_ret
      exact ⟨rfl, hS.below⟩
end Go.Proofs.YtccgpjhfgmonpaaDoor
