/- Package flags: UNION AND WHAT IS IN BOTH ARE THE SAME FROM BOTH SIDES: the law. -/
import Derived.Test.YtccgpjhfgmonpaaDoorFlMath5
namespace Go.Proofs.YtccgpjhfgmonpaaDoor
open Go.RowKit Go.Sort
set_option linter.unusedVariables false

theorem few_bl (a : Option Addr) (n c : Nat) (w : World) (hc : n ≤ c) (hm : c ≤ 9223372036854775807) :
    Calls Tryd.prog 10 #[.slice a n c] w fun e w' => ∃ m, m ≤ n ∧ m ≤ 8 ∧ e = .returned (.slice a m c) ∧ Below w.heap.size w w' :=
  (few_ex a n c w hc hm).mono fun e w' ⟨m, h1, h2, h3, h4⟩ => ⟨m, h1, h2, h3, h4 ▸ Below.refl _ _⟩

set_option maxRecDepth 100000 in
set_option maxHeartbeats 16000000 in
theorem flagsSets_law (a : Option Addr) (n c : Nat) (p : Nat → Bool) (b : Option Addr) (n2 c2 : Nat) (q : Nat → Bool) (z : Int) (w : World) (hr : RdW w a n (wd p)) (hT : Tab w) (hc : n ≤ c) (hcm : c ≤ 9223372036854775807)
    (hr2 : RdW w b n2 (wd q)) (hc2 : n2 ≤ c2) (hcm2 : c2 ≤ 9223372036854775807) (hz : 0 ≤ z ∧ z ≤ 65535) :
    Calls Tryd.prog 7 #[.slice a n c, .slice b n2 c2, .int .u16 z] w fun e w' => e = .returned (.bool true) ∧ Below w.heap.size w w' := by
  have HCM := Lib.hid hcm
  have HCM2 := Lib.hid hcm2
  have hS : St w a n p w := ⟨hr, hT, Below.refl _ _⟩
  have hk0 : 0 ≤ z % 500 := by omega
  have hk1 : z % 500 < 500 := by omega
  obtain ⟨hz0, hz1⟩ := hz
  clear hcm hcm2 hr hT
  go_enter Tryd.func7, Tryd.ntmps7
  go_wp2_with fail
  have HH := Lib.hid (few_bl a n c w hc HCM.out)
  refine HH.out.mono ?_
  rintro e W1 ⟨m, hmn, hm8, rfl, hb⟩
  replace hS := hS.on hb
  replace hr2 := hr2.below hb
  clear hb HH
  go_wp2_with fail
  have HH := Lib.hid (rlist_any a m c p W1 (hS.rd.less hmn) (by omega))
  refine HH.out.mono ?_
  rintro e W2 ⟨al, cl, rfl, _, hL, _, hb⟩
  replace hS := hS.on hb
  replace hr2 := hr2.below hb
  clear hb HH
  go_wp2_with fail
  have HH := Lib.hid (rof_any (z % 500) al _ cl _ W2 hL (by have := cnt_le p (64 * m); omega))
  refine HH.out.mono ?_
  rintro e W3 ⟨ax, cx, rfl, hX, hb⟩
  replace hS := hS.on hb
  replace hr2 := hr2.below hb
  replace hL := hL.below hb
  clear hL
  clear hb HH
  go_wp2_with fail
  have HH := Lib.hid (few_bl b n2 c2 W3 hc2 HCM2.out)
  refine HH.out.mono ?_
  rintro e W4 ⟨m2, hmn2, hm82, rfl, hb⟩
  replace hS := hS.on hb
  replace hr2 := hr2.below hb
  replace hX := hX.below hb
  clear hb HH
  go_wp2_with fail
  have HH := Lib.hid (rlist_any b m2 c2 q W4 (hr2.less hmn2) (by omega))
  refine HH.out.mono ?_
  rintro e W5 ⟨al2, cl2, rfl, _, hL, _, hb⟩
  replace hS := hS.on hb
  replace hr2 := hr2.below hb
  replace hX := hX.below hb
  clear hb HH
  go_wp2_with fail
  have HH := Lib.hid (rof_any (z % 500) al2 _ cl2 _ W5 hL (by have := cnt_le q (64 * m2); omega))
  refine HH.out.mono ?_
  rintro e W6 ⟨ay, cy, rfl, hY, hb⟩
  replace hS := hS.on hb
  replace hX := hX.below hb
  replace hL := hL.below hb
  clear hL
  have HXs := Lib.hid (ofP_in_set (k := z % 500) (Lf := nth (pl p (64 * m))) (M := cnt p (64 * m)))
  obtain ⟨X, hXX⟩ : ∃ X, X = ofP (z % 500) (nth (pl p (64 * m))) (cnt p (64 * m)) := ⟨_, rfl⟩
  simp only [← hXX] at hX HXs
  obtain ⟨Y, hYY⟩ : ∃ Y, Y = ofP (z % 500) (nth (pl q (64 * m2))) (cnt q (64 * m2)) := ⟨_, rfl⟩
  simp only [← hYY] at hY
  clear hXX hYY
  have hN8 := nw_le (z % 500)
  have hNX := hN8
  obtain ⟨N, hNN⟩ : ∃ N, N = nw (z % 500) := ⟨_, rfl⟩
  have H6 := Lib.hid (sets6 X (k := z % 500) (N := N) HXs.out hk0 (by omega) hNN)
  have H5 := Lib.hid (fun i (hi : i < N) => sets5 X (k := z % 500) HXs.out hi)
  simp only [← hNN] at hX hY hN8
  have hN : N ≤ 100000 := by omega
  have HNN := Lib.hid hNN
  clear hNX
  clear hb HH
  simp only [← hNN]
  clear hNN
  go_wp2_with fail
  have HH := Lib.hid (both_any X Y ax ay N cx N cy W6 hX.rd hY.rd hN hN)
  refine HH.out.mono ?_
  rintro e W7 ⟨g1, rfl, _, hC, hb⟩
  replace hS := hS.on hb
  replace hX := hX.below hb
  replace hY := hY.below hb
  have hB := rdW_of_cells hC (fun i _ => wd_lt _ i)
  clear hC
  clear hb HH
  go_wp2_with fail
  have HH := Lib.hid (minus_any X Y ax ay N cx N cy W7 hX.rd hY.rd hN hN)
  refine HH.out.mono ?_
  rintro e W8 ⟨g2, rfl, _, hC, hb⟩
  replace hS := hS.on hb
  replace hX := hX.below hb
  replace hY := hY.below hb
  replace hB := hB.below hb
  have hM := rdW_of_cells hC (fun i _ => wd_lt _ i)
  clear hC
  clear hb HH
  go_wp2_with fail
  have HH := Lib.hid (live_any W8 hS.tab)
  refine HH.out.mono ?_
  rintro e W9 ⟨rfl, hb⟩
  replace hS := hS.on hb
  replace hX := hX.below hb
  replace hY := hY.below hb
  replace hB := hB.below hb
  replace hM := hM.below hb
  clear hb HH
  go_wp2_with fail
  have HH := Lib.hid (union_any X Y ax ay N cx N cy W9 hX.rd hY.rd hN hN)
  refine HH.out.mono ?_
  rintro e W10 ⟨g3, rfl, _, hC, hb⟩
  replace hS := hS.on hb
  replace hX := hX.below hb
  replace hY := hY.below hb
  replace hB := hB.below hb
  replace hM := hM.below hb
  have h3 := rdW_of_cells hC (fun i _ => wd_lt _ i)
  clear hC
  simp only [Nat.max_self] at h3
  clear hb HH
  go_wp2_with fail
  have HH := Lib.hid (union_any Y X ay ax N cy N cx W10 hY.rd hX.rd hN hN)
  refine HH.out.mono ?_
  rintro e W11 ⟨g4, rfl, _, hC, hb⟩
  replace hS := hS.on hb
  replace hX := hX.below hb
  replace hY := hY.below hb
  replace hB := hB.below hb
  replace hM := hM.below hb
  replace h3 := h3.below hb
  have h4 := rdW_of_cells hC (fun i _ => wd_lt _ i)
  clear hC
  simp only [Nat.max_self] at h4
  clear hb HH
  go_wp2_with fail
  have HH := Lib.hid (same_any (some ⟨g3, 0, none⟩) (some ⟨g4, 0, none⟩) N N N _ _ W11 h3 h4 (fun i _ => by rw [or_comm']) hN)
  refine HH.out.mono ?_
  rintro e W12 ⟨rfl, hb⟩
  replace hS := hS.on hb
  replace hX := hX.below hb
  replace hY := hY.below hb
  replace hB := hB.below hb
  replace hM := hM.below hb
  replace h3 := h3.below hb
  replace h4 := h4.below hb
  clear h3 h4
  clear hb HH
  go_wp2_with fail
  have HH := Lib.hid (both_any Y X ay ax N cy N cx W12 hY.rd hX.rd hN hN)
  refine HH.out.mono ?_
  rintro e W13 ⟨g3, rfl, _, hC, hb⟩
  replace hS := hS.on hb
  replace hX := hX.below hb
  replace hY := hY.below hb
  replace hB := hB.below hb
  replace hM := hM.below hb
  have h3 := rdW_of_cells hC (fun i _ => wd_lt _ i)
  clear hC
  clear hb HH
  go_wp2_with fail
  have HH := Lib.hid (same_any (some ⟨g1, 0, none⟩) (some ⟨g3, 0, none⟩) N N N _ _ W13 hB h3 (fun i _ => by rw [and_comm']) hN)
  refine HH.out.mono ?_
  rintro e W14 ⟨rfl, hb⟩
  replace hS := hS.on hb
  replace hX := hX.below hb
  replace hY := hY.below hb
  replace hB := hB.below hb
  replace hM := hM.below hb
  replace h3 := h3.below hb
  clear h3
  clear hb HH
  go_wp2_with fail
  have HH := Lib.hid (union_any _ _ (some ⟨g1, 0, none⟩) (some ⟨g2, 0, none⟩) N N N N W14 hB hM hN hN)
  refine HH.out.mono ?_
  rintro e W15 ⟨g3, rfl, _, hC, hb⟩
  replace hS := hS.on hb
  replace hX := hX.below hb
  replace hY := hY.below hb
  replace hB := hB.below hb
  replace hM := hM.below hb
  have h3 := rdW_of_cells hC (fun i _ => wd_lt _ i)
  clear hC
  simp only [Nat.max_self] at h3
  clear hb HH
  go_wp2_with fail
  have HH := Lib.hid (same_any (some ⟨g3, 0, none⟩) ax N N cx _ _ W15 h3 hX.rd (fun i hi => sets3 X Y hi) hN)
  refine HH.out.mono ?_
  rintro e W16 ⟨rfl, hb⟩
  replace hS := hS.on hb
  replace hX := hX.below hb
  replace hY := hY.below hb
  replace hB := hB.below hb
  replace hM := hM.below hb
  replace h3 := h3.below hb
  clear h3
  clear hb HH
  go_wp2_with fail
  have HH := Lib.hid (both_any _ _ (some ⟨g1, 0, none⟩) (some ⟨g2, 0, none⟩) N N N N W16 hB hM hN hN)
  refine HH.out.mono ?_
  rintro e W17 ⟨g3, rfl, _, hC, hb⟩
  replace hS := hS.on hb
  replace hX := hX.below hb
  replace hY := hY.below hb
  replace hB := hB.below hb
  replace hM := hM.below hb
  have h3 := rdW_of_cells hC (fun i _ => wd_lt _ i)
  clear hC
  clear hb HH
  go_wp2_with fail
  have HH := Lib.hid (calls_below (count_any (some ⟨g3, 0, none⟩) N N _ W17 h3 hN))
  rw [sets4] at HH
  refine HH.out.mono ?_
  rintro e W18 ⟨rfl, hb⟩
  replace hS := hS.on hb
  replace hX := hX.below hb
  replace hY := hY.below hb
  replace hB := hB.below hb
  replace hM := hM.below hb
  replace h3 := h3.below hb
  clear h3
  clear hb HH
  go_wp2_with fail
  have HH := Lib.hid (flip_any (z % 500) ax N cx X W18 hX.rd hN)
  rw [← HNN.out] at HH
  refine HH.out.mono ?_
  rintro e W19 ⟨g3, rfl, _, hC, hb⟩
  replace hS := hS.on hb
  replace hX := hX.below hb
  replace hY := hY.below hb
  have h3 := rdW_of_cells hC (fun i _ => wd_lt _ i)
  clear hC
  clear hb HH
  go_wp2_with fail
  have HH := Lib.hid (flip_any (z % 500) (some ⟨g3, 0, none⟩) N N _ W19 h3 hN)
  rw [← HNN.out] at HH
  refine HH.out.mono ?_
  rintro e W20 ⟨g4, rfl, _, hC, hb⟩
  replace hS := hS.on hb
  replace hX := hX.below hb
  replace hY := hY.below hb
  replace h3 := h3.below hb
  have h4 := rdW_of_cells hC (fun i _ => wd_lt _ i)
  clear hC
  clear h3
  clear hb HH
  go_wp2_with fail
  have HH := Lib.hid (same_any (some ⟨g4, 0, none⟩) ax N N cx _ _ W20 h4 hX.rd H5.out hN)
  refine HH.out.mono ?_
  rintro e W21 ⟨rfl, hb⟩
  replace hS := hS.on hb
  replace hX := hX.below hb
  replace hY := hY.below hb
  replace h4 := h4.below hb
  clear h4
  clear hb HH
  go_wp2_with fail
  have HH := Lib.hid (calls_below (count_any ax N cx X W21 hX.rd hN))
  refine HH.out.mono ?_
  rintro e W22 ⟨rfl, hb⟩
  replace hS := hS.on hb
  replace hX := hX.below hb
  replace hY := hY.below hb
  clear hb HH
  go_wp2_with fail
  have HH := Lib.hid (flip_any (z % 500) ax N cx X W22 hX.rd hN)
  rw [← HNN.out] at HH
  refine HH.out.mono ?_
  rintro e W23 ⟨g3, rfl, _, hC, hb⟩
  replace hS := hS.on hb
  replace hX := hX.below hb
  replace hY := hY.below hb
  have h3 := rdW_of_cells hC (fun i _ => wd_lt _ i)
  clear hC
  clear hb HH
  go_wp2_with fail
  have HH := Lib.hid (calls_below (count_any (some ⟨g3, 0, none⟩) N N _ W23 h3 hN))
  refine HH.out.mono ?_
  rintro e W24 ⟨rfl, hb⟩
  replace hS := hS.on hb
  replace hX := hX.below hb
  replace hY := hY.below hb
  replace h3 := h3.below hb
  have e6 := H6.out
  have f1 := cnt_le X (64 * N)
  have f2 := cnt_le (lessP (cutP (belowP (z % 500)) N) (cutP X N)) (64 * N)
  clear hb HH
  have e7 : (((cnt X (64 * N) : Nat) : Int) + ((cnt (lessP (cutP (belowP (z % 500)) N) (cutP X N)) (64 * N) : Nat) : Int) == z % 500) = true := by simp [e6]
  clear e6
  go_wp2_with fail
  go_ret
  exact ⟨rfl, hS.below⟩
end Go.Proofs.YtccgpjhfgmonpaaDoor
