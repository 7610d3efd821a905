/- Package flags: WHAT IS LISTED RISES, and stands at its rank: the law. -/
import Derived.Test.YtccgpjhfgmonpaaDoorFl23
namespace Go.Proofs.YtccgpjhfgmonpaaDoor
open Go.RowKit Go.Sort
set_option linter.unusedVariables false

theorem rank_at {p : Nat → Bool} {m k y : Nat} (h : (pl p (64 * m))[k]? = some y) : rankV p m (y : Int) = k := by
  obtain ⟨h1, h2, h3⟩ := pl_get h
  unfold rankV
  rw [show min (y : Int).toNat (64 * m) = y by omega]
  exact h3
theorem next_self {p : Nat → Bool} {N k y : Nat} (h : (pl p N)[k]? = some y) : nextV p N (y : Int).toNat = y := by
  obtain ⟨h1, h2, h3⟩ := pl_get h
  exact nextV_some (by omega) h1 (fun z a b => by omega) h2
theorem has_at {p : Nat → Bool} {m k y : Nat} (h : (pl p (64 * m))[k]? = some y) : hasB p m (y : Int) = true := by
  obtain ⟨h1, h2, h3⟩ := pl_get h
  rw [hasB_t (decide_eq_true (by omega))]
  simpa using h2
theorem pl_rises {p : Nat → Bool} {N k y z : Nat} (h : (pl p N)[k]? = some y) (h2 : (pl p N)[k + 1]? = some z) : y < z := by
  obtain ⟨a1, a2, a3⟩ := pl_get h
  obtain ⟨b1, b2, b3⟩ := pl_get h2
  rcases Nat.lt_or_ge y z with h | h
  · exact h
  · have := cnt_mono p h; omega

set_option maxRecDepth 100000 in
set_option maxHeartbeats 16000000 in
theorem flagsRanks_law (a : Option Addr) (n c : Nat) (p : Nat → Bool) (w : World) (hr : RdW w a n (wd p)) (hT : Tab w) (hc : n ≤ c) (hcm : c ≤ 9223372036854775807) :
    Calls Tryd.prog 6 #[.slice a n c] w fun e w' => e = .returned (.bool true) ∧ Below w.heap.size w w' := by
  have HCM := Lib.hid hcm
  have hS : St w a n p w := ⟨hr, hT, Below.refl _ _⟩
  clear hcm hr hT
  go_enter Tryd.func6, Tryd.ntmps6
  go_wp2_with fail
  have HH := Lib.hid (few_bl a n c w hc HCM.out)
  refine HH.out.mono ?_
  rintro e W1 ⟨m, hmn, hm8, rfl, hb⟩
  replace hS := hS.on hb
  replace hS : St w a m p W1 := ⟨hS.rd.less hmn, hS.tab, hS.below⟩
  have hmc : m ≤ c := by omega
  have hm : m ≤ 100000 := by omega
  clear hb HH
  go_wp2_with fail
  have HH := Lib.hid (list_any a m c p W1 hS.rd hS.tab hm)
  refine HH.out.mono ?_
  rintro e W2 ⟨al, cl, rfl, hcl, hL, _, hb⟩
  replace hS := hS.on hb
  have HZ := Lib.hid (fun k (h : k < cnt p (64 * m)) => pl_size (p := p) (N := 64 * m) h)
  have H1 := Lib.hid (fun k y (h : (pl p (64 * m))[k]? = some y) => rank_at h)
  have H2 := Lib.hid (fun k y (h : (pl p (64 * m))[k]? = some y) => next_self h)
  have H3 := Lib.hid (fun k y (h : (pl p (64 * m))[k]? = some y) => has_at h)
  have H4 := Lib.hid (fun k y z (h : (pl p (64 * m))[k]? = some y) (h2 : (pl p (64 * m))[k + 1]? = some z) => pl_rises h h2)
  have H5 := Lib.hid (fun k y (h : (pl p (64 * m))[k]? = some y) => (pl_get h).1)
  have HCO := Lib.hid (fun W (h : St w a m p W) => calls_below (count_any a m c p W h.rd hm))
  have hml := cnt_le p (64 * m)
  obtain ⟨M, hM⟩ : ∃ M, M = cnt p (64 * m) := ⟨_, rfl⟩
  simp only [← hM] at hL HZ hml hcl HCO
  have HM := Lib.hid hM
  clear hb HH
  simp only [← hM]
  clear hM hmn hm8 hcl
  go_wp2
  go_loopw [4] (fun y wr => ∃ k : Nat, k ≤ M ∧ y = .int .i64 k ∧ St w a m p wr ∧ RdI wr al M (nth (pl p (64 * m)))) (fun y _ => M - (intOf y).toNat)
  case atStart => exact ⟨0, by omega, rfl, hS, hL⟩
  case round =>
    clear hS hL
    obtain ⟨k, hk, rfl, hS, hL⟩ := hrel
    by_cases hlt : k < M
    · obtain ⟨y, hy⟩ := HZ.out k hlt
      have hyl := H5.out k y hy
      obtain ⟨b, rfl, hbl, hcell, _⟩ := hL k hlt
      rw [nth_eq hy] at hcell
      have kb := Has.of hbl
      have C1 := Lib.hid (fun W (h : Below wr.heap.size wr W) => rank_any a m c p y W (hS.rd.below h) hm hmc (by omega))
      rw [H1.out k y hy] at C1
      have C2 := Lib.hid (fun W (h : Below wr.heap.size wr W) => next_any a m c p y W (hS.rd.below h) (hS.tab.below h) hm hmc (by omega))
      rw [H2.out k y hy] at C2
      have C3 := Lib.hid (fun W (h : Below wr.heap.size wr W) => has_any a m c p y W (hS.rd.below h) hm (by omega))
      rw [H3.out k y hy] at C3
      have hk0 : (0 : Int) ≤ (k : Int) := by omega
      have hki : (k : Int) < (M : Int) := by omega
      have e1 : ((k : Int) != (k : Int)) = false := by simp
      have e2 : ((y : Int) != (y : Int)) = false := by simp
      by_cases h0 : k = 0
      · have e7 : decide (0 < k) = false := by simp; omega
        clear hy hyl h0
        go_wp2_with fail
        refine wp_region_quiet_below (by kernel_rfl) (by kernel_rfl) ?_
        repeat (go_big_quiet_step (first
          | (go_at_call 27; exact Calls.regrown_of (C1.out _ (by repeat (first | with_reducible refine blg ?_ _ _ | with_reducible refine bla ?_ _ | with_reducible exact Below.refl _ _))))
          | (go_at_call 29; exact Calls.regrown_of (C2.out _ (by repeat (first | with_reducible refine blg ?_ _ _ | with_reducible refine bla ?_ _ | with_reducible exact Below.refl _ _))))
          | (go_at_call 19; exact Calls.regrown_of (C3.out _ (by repeat (first | with_reducible refine blg ?_ _ _ | with_reducible refine bla ?_ _ | with_reducible exact Below.refl _ _))))))
        refine wpQuiet_nil ?_
        rintro _ ⟨⟨d3, o3⟩, rfl⟩
        have hbg := below_regrown wr d3 o3
        have hS2 := hS.on hbg
        have hL2 := hL.below hbg
        go_wp2
        refine ⟨?_, by simp [intOf]; omega⟩
        exact ⟨k + 1, by omega, by go_num, hS2, hL2⟩
      · obtain ⟨j, hj⟩ : ∃ j, k = j + 1 := ⟨k - 1, by omega⟩
        obtain ⟨x, hx⟩ := HZ.out j (by omega)
        have hxy := H4.out j x y hx (by rw [← hj]; exact hy)
        obtain ⟨b', eb, hbl', hcell', _⟩ := hL j (by omega)
        cases eb
        rw [nth_eq hx] at hcell'
        have e3 : decide (y ≤ x) = false := by simp; omega
        have e4 : IntKind.i64.wrap ((k : Int) - 1) = (j : Int) := by rw [IntKind.wrap_i64]; omega
        have e44 : (k : Int) - 1 = (j : Int) := by omega
        have e5 : (0 : Int) ≤ (j : Int) := by omega
        have e6 : (j : Int) < (M : Int) := by omega
        have e7 : decide (0 < k) = true := by simp; omega
        clear hj
        clear hy hyl hx h0 hxy
        go_wp2_with fail
        refine wp_region_quiet_below (by kernel_rfl) (by kernel_rfl) ?_
        repeat (go_big_quiet_step (first
          | (go_at_call 27; exact Calls.regrown_of (C1.out _ (by repeat (first | with_reducible refine blg ?_ _ _ | with_reducible refine bla ?_ _ | with_reducible exact Below.refl _ _))))
          | (go_at_call 29; exact Calls.regrown_of (C2.out _ (by repeat (first | with_reducible refine blg ?_ _ _ | with_reducible refine bla ?_ _ | with_reducible exact Below.refl _ _))))
          | (go_at_call 19; exact Calls.regrown_of (C3.out _ (by repeat (first | with_reducible refine blg ?_ _ _ | with_reducible refine bla ?_ _ | with_reducible exact Below.refl _ _))))))
        refine wpQuiet_nil ?_
        rintro _ ⟨⟨d3, o3⟩, rfl⟩
        have hbg := below_regrown wr d3 o3
        have hS2 := hS.on hbg
        have hL2 := hL.below hbg
        go_wp2
        refine ⟨?_, by simp [intOf]; omega⟩
        exact ⟨k + 1, by omega, by go_num, hS2, hL2⟩
    · obtain rfl : k = M := by omega
      go_wp2_with fail
      refine (live_any wr hS.tab).mono ?_
      rintro e W4 ⟨rfl, hb⟩
      replace hS := hS.on hb
      clear hb
      go_wp2_with fail
      refine (HCO.out _ hS).mono ?_
      rintro e W5 ⟨rfl, hb⟩
      replace hS := hS.on hb
      clear hb
      go_wp2_with fail
      go_ret
      exact ⟨rfl, hS.below⟩
end Go.Proofs.YtccgpjhfgmonpaaDoor
