/- Package flags: how many bits of a word are 1. -/
import Derived.WalkMore
import Derived.Test.YtccgpjhfgmonpaaDoorFl5
namespace Go.Proofs.YtccgpjhfgmonpaaDoor
open Go.RowKit Go.Sort
set_option linter.unusedVariables false

theorem half_pow (v k : Nat) : v / 2 ^ k / 2 = v / 2 ^ (k + 1) := by rw [Nat.div_div_eq_div_mul, Nat.pow_succ]
theorem cnt_le64 (p : Nat → Bool) {k : Nat} (h : k ≤ 64) : (cnt p k : Int) ≤ 64 := by have := cnt_le p k; omega

set_option maxRecDepth 100000 in
set_option maxHeartbeats 1000000 in
theorem ones_any (v : Nat) (hv : v < 18446744073709551616) (w : World) : Calls Tryd.prog 53 #[.int .u64 v] w fun e w' => e = .returned (.int .i64 (cnt (fun j => v.testBit j) 64)) ∧ w = w' := by
  go_enter Tryd.func53, Tryd.ntmps53
  go_wp2
  go_step3
  go_wp2
  go_step3
  go_wp2
  go_loop [0, 3] (fun z n => ∃ k : Nat, k ≤ 64 ∧ z = .int .u64 ((v / 2 ^ k : Nat) : Int) ∧ n = .int .i64 (cnt (fun j => v.testBit j) k)) (fun z _ => (intOf z).toNat)
  case atStart => exact ⟨0, by omega, by simp, rfl⟩
  case round =>
    obtain ⟨k, hk, rfl, rfl⟩ := hrel
    have hh := half_pow v k
    have hl : v / 2 ^ k < 18446744073709551616 := Nat.lt_of_le_of_lt (Nat.div_le_self _ _) hv
    have h64 : v / 2 ^ 64 = 0 := Nat.div_eq_of_lt hv
    have ho := odd_bit v k
    have hc := cnt_bits (w := v) (k := k)
    have hs := cnt_succ (fun j => v.testBit j) k
    have hb := cnt_le64 (fun j => v.testBit j) hk
    have ha := and_one_u64 (v / 2 ^ k) hl
    have hk64 : k = 64 → v / 2 ^ k = 0 := fun e => by rw [e]; exact h64
    obtain ⟨u, hu⟩ : ∃ u, u = v / 2 ^ k := ⟨_, rfl⟩
    obtain ⟨u2, hu2⟩ : ∃ u2, u2 = v / 2 ^ (k + 1) := ⟨_, rfl⟩
    obtain ⟨c, hcc⟩ : ∃ c, c = cnt (fun j => v.testBit j) k := ⟨_, rfl⟩
    obtain ⟨c2, hc2⟩ : ∃ c2, c2 = cnt (fun j => v.testBit j) (k + 1) := ⟨_, rfl⟩
    simp only [← hu, ← hu2, ← hcc, ← hc2] at hh hl ho hc hs hb ha hk64 ⊢
    have HK := Lib.hid (And.intro hk (And.intro hu2 hc2))
    clear hu hu2 hcc hc2 h64
    by_cases h0 : u = 0
    · have HC := Lib.hid (hc h0 hk)
      clear hh ho hc hs ha hk64
      subst h0
      go_wp2
      try rw [Exit.noGoto_ret]
      go_ret
      exact ⟨ret_int (by rw [HC.out]), rfl⟩
    · have hk' : k < 64 := by
        by_cases e : k = 64
        · exact absurd (hk64 e) h0
        · omega
      have h0' : ((u : Int) == 0) = false := by simp; omega
      have hu1 : (0 : Int) ≤ (u : Int) := by omega
      by_cases h1 : u % 2 = 1
      · have t1 : (bits .and .u64 (u : Int) 1 == 1) = true := by rw [ha]; simp; omega
        have HS : Hid (c2 = c + 1) := Lib.hid (by rw [hs, if_pos (ho.1 h1)])
        have HH := Lib.hid hh
        clear hh ho hc hs ha hk64
        go_wp2
        go_round
        case rel =>
          obtain ⟨_, e2, e3⟩ := HK.out
          have e4 := HS.out
          have e5 := HH.out
          exact ⟨k + 1, by omega, by rw [← e2]; congr 1; omega, by rw [← e3]; congr 1; omega⟩
        case measure => simp [intOf]; omega
      · have t1 : (bits .and .u64 (u : Int) 1 == 1) = false := by rw [ha]; simp; omega
        have HS : Hid (c2 = c) := Lib.hid (by rw [hs, if_neg (fun h => h1 (ho.2 h))]; rfl)
        have HH := Lib.hid hh
        clear hh ho hc hs ha hk64
        go_wp2
        go_round
        case rel =>
          obtain ⟨_, e2, e3⟩ := HK.out
          have e4 := HS.out
          have e5 := HH.out
          exact ⟨k + 1, by omega, by rw [← e2]; congr 1; omega, by rw [← e3]; congr 1; omega⟩
        case measure => simp [intOf]; omega
end Go.Proofs.YtccgpjhfgmonpaaDoor
