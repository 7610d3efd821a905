/- Package flags: how many there are, and how many below a place. -/
import Derived.Test.YtccgpjhfgmonpaaDoorFl6
namespace Go.Proofs.YtccgpjhfgmonpaaDoor
open Go.RowKit Go.Sort
set_option linter.unusedVariables false

set_option maxRecDepth 100000 in
set_option maxHeartbeats 1000000 in
theorem count_any (a : Option Addr) (n c : Nat) (p : Nat → Bool) (w : World) (hr : RdW w a n (wd p)) (hn : n ≤ 100000) :
    Calls Tryd.prog 26 #[.slice a n c] w fun e w' => e = .returned (.int .i64 (cnt p (64 * n))) ∧ w = w' := by
  go_enter Tryd.func26, Tryd.ntmps26
  go_wp2
  go_loop [3, 8] (fun z y => ∃ k : Nat, k ≤ n ∧ y = .int .i64 k ∧ z = .int .i64 (cnt p (64 * k))) (fun _ y => n - (intOf y).toNat)
  case atStart => exact ⟨0, by omega, by simp, rfl⟩
  case round =>
    obtain ⟨k, hk, rfl, rfl⟩ := hrel
    by_cases hlt : k < n
    · obtain ⟨b, rfl, hbl, hcell, hb64⟩ := hr k hlt
      have HO := Lib.hid (fun W => ones_any (wd p k) hb64 W)
      have HS := Lib.hid (cnt_word p k)
      have hl := cnt_le p (64 * k)
      have ho := cnt_le (fun j => (wd p k).testBit j) 64
      have hk0 : (0 : Int) ≤ (k : Int) := by omega
      have hki : (k : Int) < (n : Int) := by omega
      obtain ⟨u, hu⟩ : ∃ u, u = wd p k := ⟨_, rfl⟩
      simp only [← hu] at hcell HO HS ho
      obtain ⟨c1, hc1⟩ : ∃ c1, c1 = cnt p (64 * k) := ⟨_, rfl⟩
      rw [← hc1] at HS hl ⊢
      obtain ⟨c2, hc2⟩ : ∃ c2, c2 = cnt (fun j => u.testBit j) 64 := ⟨_, rfl⟩
      simp only [← hc2] at HO HS ho
      clear hu hc1 hc2 hb64 hr
      go_wp2_with fail
      refine (HO.out _).mono ?_
      rintro e w' ⟨rfl, rfl⟩
      go_wp2
      go_round
      case rel => exact ⟨k + 1, by omega, by go_num, by rw [HS.out]; go_num⟩
      case measure => simp [intOf]; omega
    · obtain rfl : k = n := by omega
      go_wp2
      go_ret
      exact ⟨rfl, rfl⟩

/-- How many places of the set are below one. -/
def rankV (p : Nat → Bool) (n : Nat) (x : Int) : Nat := cnt p (min x.toNat (64 * n))
theorem rank_word (p : Nat → Bool) (y : Nat) : cnt p (64 * (y / 64)) + cnt (fun j => (wd p (y / 64) &&& (2 ^ (y % 64) - 1)).testBit j) 64 = cnt p y := by
  have h1 : cnt (fun j => (wd p (y / 64) &&& (2 ^ (y % 64) - 1)).testBit j) 64 = cnt (fun j => p (64 * (y / 64) + j)) (y % 64) := by
    rw [Nat.and_two_pow_sub_one_eq_mod]
    have h2 : cnt (fun j => (wd p (y / 64) % 2 ^ (y % 64)).testBit j) 64 = cnt (fun j => (wd p (y / 64) % 2 ^ (y % 64)).testBit j) (y % 64) :=
      cnt_gap (by omega) fun x hx _ => by rw [Nat.testBit_mod_two_pow]; simp; omega
    rw [h2]
    refine cnt_congr fun x hx => ?_
    rw [Nat.testBit_mod_two_pow, wd_bit]
    simp [hx]
    omega
  rw [h1]
  conv => rhs; rw [show y = 64 * (y / 64) + y % 64 by omega, cnt_add]

set_option maxRecDepth 100000 in
set_option maxHeartbeats 1000000 in
theorem rank_any (a : Option Addr) (n c : Nat) (p : Nat → Bool) (x : Int) (w : World) (hr : RdW w a n (wd p)) (hn : n ≤ 100000) (hc : n ≤ c) (hx : x ≤ 9223372036854775807) :
    Calls Tryd.prog 27 #[.slice a n c, .int .i64 x] w fun e w' => e = .returned (.int .i64 (rankV p n x)) ∧ Below w.heap.size w w' := by
  by_cases h0 : x < 0
  · rw [show (rankV p n x : Int) = 0 by unfold rankV; rw [show x.toNat = 0 by omega]; simp [cnt]]
    go_enter Tryd.func27, Tryd.ntmps27
    go_wp2
    go_ret
    exact ⟨rfl, Below.refl _ _⟩
  cases hin : inB n x
  · have h' := of_decide_eq_false hin
    rw [show rankV p n x = cnt p (64 * n) by unfold rankV; rw [show min x.toNat (64 * n) = 64 * n by omega]]
    have HW := Lib.hid (fun W => within_f a n c x W hin hx)
    have HC := Lib.hid (count_any a n c p w hr hn)
    clear hin hr h'
    go_enter Tryd.func27, Tryd.ntmps27
    go_wp2_with fail
    refine (HW.out _).mono ?_
    rintro e w2 ⟨rfl, rfl⟩
    go_wp2_with fail
    refine HC.out.mono ?_
    rintro e w2 ⟨rfl, rfl⟩
    go_wp2
    go_ret
    exact ⟨rfl, Below.refl _ _⟩
  · obtain ⟨h1, h2⟩ := of_decide_eq_true hin
    obtain ⟨y, rfl⟩ : ∃ y : Nat, x = (y : Int) := ⟨x.toNat, by omega⟩
    have hy : y / 64 < n := by omega
    rw [show rankV p n (y : Int) = cnt p y by unfold rankV; rw [show min (y : Int).toNat (64 * n) = y by omega], ← rank_word p y]
    have HW := Lib.hid (fun W => within_t a n c y W hin hn)
    have HB := Lib.hid (fun W => bit_any y (by omega) W)
    have h3 : (y : Int) / 64 < (n : Int) := by omega
    have h5 : ((y : Int) / 64).toNat = y / 64 := by omega
    have h6 : (0 : Int) ≤ (y : Int) / 64 := by omega
    have h7 : (y : Int) / 64 ≤ (c : Int) := by omega
    have HC := Lib.hid (fun W (hW : Below w.heap.size w W) => count_any a (y / 64) c p W ((hr.less (Nat.le_of_lt hy)).below hW) (by omega))
    obtain ⟨b, rfl, hbl, hcell, hb64⟩ := hr (y / 64) hy
    have kb := Has.of hbl
    have hB0 := two_lt y
    have hB1 : 0 < 2 ^ (y % 64) := Nat.two_pow_pos _
    obtain ⟨B, hB⟩ : ∃ B, B = 2 ^ (y % 64) := ⟨_, rfl⟩
    simp only [← hB] at HB hB0 hB1 ⊢
    obtain ⟨V, hV⟩ : ∃ V, V = wd p (y / 64) := ⟨_, rfl⟩
    simp only [← hV] at hcell hb64 ⊢
    have hsub : IntKind.u64.wrap ((B : Int) - 1) = ((B - 1 : Nat) : Int) := by rw [IntKind.wrap_u64]; omega
    have hand : bits .and .u64 (V : Int) ((B - 1 : Nat) : Int) = ((V &&& (B - 1) : Nat) : Int) := bits_and_u64_nat _ _ hb64 (by omega)
    have hal : V &&& (B - 1) < 18446744073709551616 := Nat.lt_of_le_of_lt Nat.and_le_left hb64
    have HO := Lib.hid (fun W => ones_any (V &&& (B - 1)) hal W)
    have l1 := cnt_le p (64 * (y / 64))
    have l2 := cnt_le (fun j => (V &&& (B - 1)).testBit j) 64
    obtain ⟨c1, hc1⟩ : ∃ c1, c1 = cnt p (64 * (y / 64)) := ⟨_, rfl⟩
    simp only [← hc1] at HC l1 ⊢
    obtain ⟨c2, hc2⟩ : ∃ c2, c2 = cnt (fun j => (V &&& (B - 1)).testBit j) 64 := ⟨_, rfl⟩
    simp only [← hc2] at HO l2 ⊢
    have hsum : IntKind.i64.wrap ((c1 : Int) + (c2 : Int)) = ((c1 + c2 : Nat) : Int) := by rw [IntKind.wrap_i64]; omega
    clear hB hV hc1 hc2 hr hin hb64 hal hB0 hB1 l1 l2
    go_enter Tryd.func27, Tryd.ntmps27
    go_wp2_with fail
    refine (HW.out _).mono ?_
    rintro e w2 ⟨rfl, rfl⟩
    go_wp2_with fail
    refine wp_region_quiet_below (by kernel_rfl) (by kernel_rfl) ?_
    repeat (go_big_quiet_step (first
      | (go_at_call 26; exact Calls.regrown_of ((HC.out _ (by repeat (first | with_reducible refine blg ?_ _ _ | with_reducible refine bla ?_ _ | with_reducible exact Below.refl _ _))).mono fun _ _ ⟨h1, h2⟩ => ⟨h1, h2 ▸ Below.refl _ _⟩))
      | (go_at_call 49; exact Calls.regrown_of ((HB.out _).mono fun _ _ ⟨h1, h2⟩ => ⟨h1, h2 ▸ Below.refl _ _⟩))
      | (go_at_call 53; exact Calls.regrown_of ((HO.out _).mono fun _ _ ⟨h1, h2⟩ => ⟨h1, h2 ▸ Below.refl _ _⟩))))
    refine wpQuiet_nil ?_
    rintro _ ⟨⟨d4, o4⟩, rfl⟩
    go_wp2
    go_ret
    exact ⟨rfl, below_regrown w d4 o4⟩

end Go.Proofs.YtccgpjhfgmonpaaDoor
