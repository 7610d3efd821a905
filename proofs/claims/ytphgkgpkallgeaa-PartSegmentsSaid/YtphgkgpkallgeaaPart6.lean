/- Each number is in just one part: its walk. -/
import Derived.Test.YtphgkgpkallgeaaPart5
namespace Go.Proofs.Ytphgkgpkallgeaa
open Go.RowKit Go.Sort
set_option linter.unusedVariables false
attribute [local irreducible] lowV mayB sizeV mostV placeV rowV colV ofV worksB

set_option maxRecDepth 100000 in
set_option maxHeartbeats 1000000 in
theorem partOnce_of (hL : Hid (∀ w : World, Calls Try.prog 8 #[] w fun e w' => e = .returned (.bool true) ∧ Below w.heap.size w w'))
    (n k : Int) (w : World) (n1 : 0 ≤ n) (n2 : n ≤ 65535) (k1 : 0 ≤ k) (k2 : k ≤ 255) :
    Calls Try.prog 5 #[.int .u16 n, .int .u8 k] w fun e w' => e = .returned (.bool true) ∧ Below w.heap.size w w' := by
  have hm : mayB (n % 600) (k % 8 + 1) = true := may_t (by omega)
  have M1 : 0 ≤ n % 600 := by omega
  have M2 : n % 600 < 600 := by omega
  have Q1 : 1 ≤ k % 8 + 1 := by omega
  have Q2 : k % 8 + 1 ≤ 8 := by omega
  have Q0 : ¬ k % 8 + 1 = 0 := by omega
  have D0 : 0 ≤ n % 600 / (k % 8 + 1) := Int.ediv_nonneg M1 (by omega)
  have D1 : n % 600 / (k % 8 + 1) ≤ n % 600 := Int.ediv_le_self _ M1
  have HM := Lib.hid hm
  have HF := Lib.hid (low_full (n % 600) (k % 8 + 1) hm)
  have H0 := Lib.hid (low_zero (n % 600) (k % 8 + 1) hm)
  clear hm
  go_enter Try.func5, Try.ntmps5
  go_wp2_with fail
  go_loopw [7, 8] (fun p v wr => ∃ (i : Nat) (d : Nat) (os : Array Obj), i ≤ (k % 8 + 1).toNat ∧ v = .int .i64 i ∧ p = .int .i64 (lowV (n % 600) (k % 8 + 1) i) ∧ wr = grow (redrawn w d) os) (fun _ v _ => (k % 8 + 1).toNat - (intOf v).toNat)
  case atStart =>
    exact ⟨0, w.drawn, #[], by omega, rfl, by rw [show ((0 : Nat) : Int) = 0 from rfl, H0.out], gr_start w⟩
  case round =>
    obtain ⟨i, d, os, hi, rfl, rfl, rfl⟩ := hrel
    by_cases hlt : (i : Int) < k % 8 + 1
    · have st := low_step (n % 600) (k % 8 + 1) (i : Int) HM.out (by omega) hlt
      have lb := lowV_bd (n % 600) (k % 8 + 1) (i : Int)
      have lb2 := lowV_bd (n % 600) (k % 8 + 1) ((i : Int) + 1)
      obtain ⟨S, hS⟩ : ∃ S, S = sizeV (n % 600) (k % 8 + 1) (i : Int) := ⟨_, rfl⟩
      obtain ⟨T, hT⟩ : ∃ T, T = mostV (n % 600) (k % 8 + 1) := ⟨_, rfl⟩
      have eS : S = lowV (n % 600) (k % 8 + 1) ((i : Int) + 1) - lowV (n % 600) (k % 8 + 1) (i : Int) := by rw [hS]; unfold sizeV; rw [if_neg (by omega)]
      have eT : T = ((n % 600) + (k % 8 + 1) - 1) / (k % 8 + 1) := by rw [hT]; unfold mostV; rw [if_pos HM.out]
      have HS := Lib.hid hS
      have HT := Lib.hid hT
      have s0 : 0 ≤ S := by omega
      have s1 : (n % 600) / (k % 8 + 1) ≤ S := by omega
      have s2 : S ≤ (n % 600) / (k % 8 + 1) + 1 := by omega
      have s3 : S ≤ T := by omega
      have s4 : S ≤ 32768 := by omega
      have b1 : decide (S < (n % 600) / (k % 8 + 1)) = false := by simp; omega
      have b2 : decide ((n % 600) / (k % 8 + 1) + 1 < S) = false := by simp; omega
      have b3 : decide (T < S) = false := by simp; omega
      have ES := Lib.hid eS
      have CM := Lib.hid (show ∀ w : World, Calls Try.prog 13 #[.int .i64 (n % 600), .int .i64 (k % 8 + 1)] w (fun e w' => e = .returned (.int .i64 T) ∧ Below w.heap.size w w') from fun w => by rw [HT.out]; exact most_any _ _ w)
      clear hS hT eS eT st
      go_wp2_with fail
      refine (show Calls Try.prog 11 #[.int .i64 (n % 600), .int .i64 (k % 8 + 1), .int .i64 (i : Int)] (grow (redrawn w d) os) (fun e w' => e = .returned (.int .i64 S) ∧ Below (grow (redrawn w d) os).heap.size (grow (redrawn w d) os) w') by rw [HS.out]; exact size_any _ _ _ _ (by omega) (by omega) (by omega)).mono ?_
      rintro e w1 ⟨rfl, hb1⟩; obtain ⟨⟨d1, o1⟩, rfl⟩ := regrown_of_below hb1; clear hb1
      go_wp2_with fail
      refine (low_any (n % 600) (k % 8 + 1) (i : Int) _ (by omega) (by omega)).mono ?_
      rintro e w1 ⟨rfl, hb1⟩; obtain ⟨⟨d2, o2⟩, rfl⟩ := regrown_of_below hb1; clear hb1
      go_wp2_with fail
      refine (CM.out _).mono ?_
      rintro e w1 ⟨rfl, hb1⟩; obtain ⟨⟨d3, o3⟩, rfl⟩ := regrown_of_below hb1; clear hb1
      go_wp2_with fail
      go_loopw [10] (fun v wr => ∃ (x : Nat) (d : Nat) (os : Array Obj), x ≤ S.toNat ∧ v = .int .i64 x ∧ wr = grow (redrawn w d) os) (fun v _ => S.toNat - (intOf v).toNat)
      case atStart =>
        exact ⟨0, _, _, by omega, rfl, rfl⟩
      case round =>
        obtain ⟨x, d, os, hx, rfl, rfl⟩ := hrel
        by_cases hxl : (x : Int) < S
        · have CO := Lib.hid (show ∀ w : World, Calls Try.prog 15 #[.int .i64 (n % 600), .int .i64 (k % 8 + 1), .int .i64 (lowV (n % 600) (k % 8 + 1) (i : Int) + x)] w (fun e w' => e = .returned (.int .i64 (i : Int)) ∧ Below w.heap.size w w') from fun w => by
            have oi := of_part (n % 600) (k % 8 + 1) (i : Int) (lowV (n % 600) (k % 8 + 1) (i : Int) + x) HM.out (by omega) hlt (by omega) (by have := ES.out; omega)
            have := of_any (n % 600) (k % 8 + 1) (lowV (n % 600) (k % 8 + 1) (i : Int) + x) w
            rw [oi] at this; exact this)
          go_wp2_with fail
          refine (CO.out _).mono ?_
          rintro e w1 ⟨rfl, hb1⟩; obtain ⟨⟨d4, o4⟩, rfl⟩ := regrown_of_below hb1; clear hb1
          go_wp2
          refine ⟨?_, by simp [intOf]; omega⟩
          exact ⟨x + 1, d4, _, by omega, by go_num, rfl⟩
        · have ex : (x : Int) = S := by omega
          have el : lowV (n % 600) (k % 8 + 1) (i : Int) + S = lowV (n % 600) (k % 8 + 1) ((i : Int) + 1) := by have := ES.out; omega
          go_wp2_with fail
          refine ⟨?_, by simp [intOf]; omega⟩
          exact ⟨i + 1, d, os, by omega, by go_num, by rw [show (((i + 1 : Nat)) : Int) = (i : Int) + 1 by omega], rfl⟩
    · have ei : (i : Int) = k % 8 + 1 := by omega
      go_wp2_with fail
      refine (hL.out _).mono ?_
      rintro e w1 ⟨rfl, hb1⟩; obtain ⟨⟨d1, o1⟩, rfl⟩ := regrown_of_below hb1; clear hb1
      have eat : lowV (n % 600) (k % 8 + 1) (i : Int) = (n % 600) := by rw [ei]; exact HF.out
      go_wp2_with fail
      refine (low_any (n % 600) (k % 8 + 1) (k % 8 + 1) _ (by omega) (by omega)).mono ?_
      rintro e w1 ⟨rfl, hb1⟩; obtain ⟨⟨d2, o2⟩, rfl⟩ := regrown_of_below hb1; clear hb1
      have ef := HF.out
      go_wp2
      go_ret
      exact ⟨rfl, (by repeat (first | with_reducible refine blg ?_ _ _ | with_reducible refine bla ?_ _ | with_reducible exact Below.refl _ _))⟩
end Go.Proofs.Ytphgkgpkallgeaa
