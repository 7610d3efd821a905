/- The reference's loops over wide numbers. -/
import Derived.Test.YtekkgidoblddfaaWide3
namespace Go.Proofs.Ytekkgidoblddfaa
open Go.RowKit Go.Sort

theorem sv_bd (x : Int) : -170141183460469231731687303715884105728 ≤ sv x ∧ sv x < 170141183460469231731687303715884105728 := by rw [sv_eq]; omega
theorem sv_shr_bd (x : Int) (k : Nat) : -170141183460469231731687303715884105728 ≤ sv x / 2 ^ k ∧ sv x / 2 ^ k < 170141183460469231731687303715884105728 := by
  have hp := pow_pos k
  have hh := sv_bd x
  generalize sv x = s at *
  generalize (2 : Int) ^ k = p at *
  constructor
  · have h1 := Int.ediv_le_ediv hp hh.1
    have h2 : -170141183460469231731687303715884105728 ≤ -170141183460469231731687303715884105728 / p := Int.le_ediv_of_mul_le hp (by
      have : (170141183460469231731687303715884105728 : Int) * 1 ≤ 170141183460469231731687303715884105728 * p := Int.mul_le_mul_of_nonneg_left (by omega) (by decide)
      omega)
    omega
  · have h1 := Int.ediv_le_ediv hp (show s ≤ 170141183460469231731687303715884105727 by omega)
    have h2 : (170141183460469231731687303715884105727 : Int) / p ≤ 170141183460469231731687303715884105727 := Int.ediv_le_self _ (by decide)
    omega
theorem dbl (x : Int) (k : Nat) : x * 2 ^ (k + 1) = x * 2 ^ k + x * 2 ^ k := by rw [Int.pow_succ, ← Int.mul_assoc]; omega
/-- The worlds of a loop that doubles. -/
def lw (w : World) (z : Int) (d : Nat) (os : Array Obj) : World := grow (redrawn ((w.alloc (.cells #[.int .i64 (hi z), .int .u64 (lo z)] 24)).alloc (.cells #[.int .i64 0, .int .u64 0] 24)) d) os

set_option maxRecDepth 100000 in
set_option maxHeartbeats 400000 in
theorem refLeft_any (x n : Int) (w : World) (h1 : -9223372036854775808 ≤ n) (h2 : n ≤ 9223372036854775807) :
    Calls Try.prog 25 #[W x, .int .i64 n] w fun e w' => e = .returned (W (x * 2 ^ n.toNat)) ∧ Below w.heap.size w w' := by
  go_enter Try.func25, Try.ntmps25
  go_wp2
  go_loopw [5] (fun i wr => ∃ (k d : Nat) (os : Array Obj), k ≤ 128 ∧ (k = 0 ∨ (k : Int) ≤ n) ∧ i = .int .i64 k ∧ wr = lw w (x * 2 ^ k) d os) (fun i _ => 128 - (intOf i).toNat)
  case atStart => exact ⟨0, w.drawn, #[], by omega, Or.inl rfl, rfl, by simp [lw, grow, redrawn]; rfl⟩
  case round =>
    obtain ⟨k, d, os, hk, hkn, rfl, rfl⟩ := hrel
    unfold lw
    have Hkn := Lib.hid hkn
    clear hkn
    generalize hz : x * 2 ^ k = z
    have Hz := Lib.hid hz
    clear hz
    by_cases hlt : (k : Int) < n
    · by_cases hlt2 : k < 128
      · go_wp2_with (go_at_call 19; refine (refAdd_to _ _ (x * 2 ^ (k + 1)) _ _ _ _ _ rfl rfl rfl rfl (by rw [dbl x k, Hz.out])).mono ?_; rintro e w1 ⟨rfl, hb1⟩; obtain ⟨⟨d1, o1⟩, rfl⟩ := regrown_of_below hb1; clear hb1)
        refine ⟨?_, by simp [intOf]; omega⟩
        repeat apply Exists.intro
        refine ⟨⟨k + 1, d1, os ++ o1, by omega, Or.inr (by omega), ?_, rfl⟩, rfl⟩
        go_num
      · go_wp2
        refine bodyPost_ret (v := W (x * 2 ^ n.toNat)) ?_ rfl ⟨rfl, (by repeat (first | with_reducible refine blg ?_ _ _ | with_reducible refine bla ?_ _ | with_reducible exact Below.refl _ _))⟩
        simp [W, results, Try.results25, go_sem]
        rw [← Hz.out]
        have a := left_none x k (by omega)
        have b := left_none x n.toNat (by omega)
        exact ⟨a.1.symm.trans b.1, a.2.symm.trans b.2⟩
    · go_wp2
      refine bodyPost_ret (v := W (x * 2 ^ n.toNat)) ?_ rfl ⟨rfl, (by repeat (first | with_reducible refine blg ?_ _ _ | with_reducible refine bla ?_ _ | with_reducible exact Below.refl _ _))⟩
      simp [W, results, Try.results25, go_sem]
      have := Hkn.out
      rw [← Hz.out, show k = n.toNat from by omega]
      exact ⟨rfl, rfl⟩

theorem and_one_i64 (n : Int) : bits .and .i64 n 1 = n % 2 := by
  have e : (BitVec.ofInt 64 n &&& BitVec.ofInt 64 1).toNat = (n % 18446744073709551616).toNat % 2 := by
    rw [BitVec.toNat_and, BitVec.toNat_ofInt]
    exact Nat.and_one_is_mod _
  show IntKind.i64.wrap ((BitVec.ofInt 64 n &&& BitVec.ofInt 64 1).toNat : Int) = _
  rw [e, IntKind.wrap_i64]
  omega
theorem tdiv2 (n : Int) : n.tdiv 2 = if n < 0 then -((-n) / 2) else n / 2 := by
  split
  · have : n = -(-n) := by omega
    conv => lhs; rw [this, Int.neg_tdiv, Int.tdiv_eq_ediv_of_nonneg (by omega)]
  · rw [Int.tdiv_eq_ediv_of_nonneg (by omega)]
theorem tmod2 (n : Int) : n.tmod 2 = if n < 0 then -((-n) % 2) else n % 2 := by
  split
  · have : n = -(-n) := by omega
    conv => lhs; rw [this, Int.neg_tmod, Int.tmod_eq_emod_of_nonneg (by omega)]
  · rw [Int.tmod_eq_emod_of_nonneg (by omega)]
/-- The halves of a number shifted to the right by one. -/
theorem rs_all (z : Int) : hi (sv z / 2) = hi z / 2 ∧ lo (sv z / 2) = lo z / 2 + (hi z % 2) * 9223372036854775808 := by
  have bh := hi_bd z
  have bl := lo_bd z
  have e : sv z / 2 = (hi z / 2) * 18446744073709551616 + (lo z / 2 + (hi z % 2) * 9223372036854775808) := by unfold sv; omega
  rw [e]
  generalize hi z = h at *
  generalize lo z = l at *
  unfold hi lo
  constructor <;> omega

theorem rs_a (z : Int) (h : hi z < 0) (h2 : ((hi z).tmod 2 != 0) = true) : wrap64 ((hi z).tdiv 2 - 1) = hi z / 2 := by
  have := hi_bd z
  rw [tmod2, if_pos h] at h2
  rw [tdiv2, if_pos h]
  simp at h2
  unfold wrap64; omega
theorem rs_c (z : Int) (h : hi z < 0) (h2 : ((hi z).tmod 2 != 0) = false) : (hi z).tdiv 2 = hi z / 2 := by
  rw [tmod2, if_pos h] at h2
  rw [tdiv2, if_pos h]
  simp at h2
  omega
theorem rs_d (z : Int) (h : 0 ≤ hi z) : (hi z).tdiv 2 = hi z / 2 := by rw [tdiv2, if_neg (by omega)]
theorem rs_b (z : Int) (h : (bits BinOp.and IntKind.i64 (hi z) 1 == 1) = true) : lo z / 2 + hi z % 2 * 9223372036854775808 = lo z / 2 + 9223372036854775808 := by
  rw [and_one_i64] at h; simp at h; omega
theorem rs_n (z : Int) (h : (bits BinOp.and IntKind.i64 (hi z) 1 == 1) = false) : lo z / 2 + hi z % 2 * 9223372036854775808 = lo z / 2 := by
  rw [and_one_i64] at h; simp at h; omega

/-- One step of the reference's shift to the right. -/
theorem rsh_step (x : Int) (k : Nat) : sv (sv x / 2 ^ k) / 2 = sv x / 2 ^ (k + 1) := by
  have e := sv_shr_bd x k
  rw [sv_in _ e.1 e.2, Int.ediv_ediv_of_nonneg (by have := pow_pos k; omega), Int.pow_succ]

set_option maxRecDepth 100000 in
set_option maxHeartbeats 400000 in
theorem refRight_any (x n : Int) (w : World) (h1 : -9223372036854775808 ≤ n) (h2 : n ≤ 9223372036854775807) :
    Calls Try.prog 27 #[W x, .int .i64 n] w fun e w' => e = .returned (W (sv x / 2 ^ n.toNat)) ∧ Below w.heap.size w w' := by
  go_enter Try.func27, Try.ntmps27
  go_wp2
  go_loopw [5] (fun i wr => ∃ (k d : Nat) (os : Array Obj), k ≤ 128 ∧ (k = 0 ∨ (k : Int) ≤ n) ∧ i = .int .i64 k ∧ wr = lw w (sv x / 2 ^ k) d os) (fun i _ => 128 - (intOf i).toNat)
  case atStart => exact ⟨0, w.drawn, #[], by omega, Or.inl rfl, rfl, by simp [lw, grow, redrawn, hi_sv, lo_sv]; rfl⟩
  case round =>
    obtain ⟨k, d, os, hk, hkn, rfl, rfl⟩ := hrel
    unfold lw
    have Hkn := Lib.hid hkn
    clear hkn
    generalize hz : sv x / 2 ^ k = z
    have Hz := Lib.hid hz
    clear hz
    have bh := hi_bd z
    have bl := lo_bd z
    by_cases hlt : (k : Int) < n
    · by_cases hlt2 : k < 128
      · go_wp2
        all_goals refine ⟨?_, by simp [intOf]; omega⟩
        all_goals
          have e := rs_all z
          rw [show sv z / 2 = sv x / 2 ^ (k + 1) from by rw [← Hz.out, rsh_step x k]] at e
        all_goals first
          | ((repeat apply Exists.intro); refine ⟨⟨k + 1, d, os, by omega, Or.inr (by omega), by go_num, ?_⟩, rfl⟩)
          | refine ⟨k + 1, by omega, Or.inr (by omega), by omega, d, os, ?_⟩
        · rw [e.1, e.2, rs_a z (by assumption) (by assumption), rs_b z (by assumption)]
        · rw [e.1, e.2, rs_c z (by assumption) (by assumption), rs_b z (by assumption)]
        · rw [e.1, e.2, rs_d z (by assumption), rs_b z (by assumption)]
        · rw [e.1, e.2, rs_a z (by assumption) (by assumption), rs_n z (by assumption)]
        · rw [e.1, e.2, rs_c z (by assumption) (by assumption), rs_n z (by assumption)]
        · rw [e.1, e.2, rs_d z (by assumption), rs_n z (by assumption)]
      · go_wp2
        refine bodyPost_ret (v := W (sv x / 2 ^ n.toNat)) ?_ rfl ⟨rfl, (by repeat (first | with_reducible refine blg ?_ _ _ | with_reducible refine bla ?_ _ | with_reducible exact Below.refl _ _))⟩
        simp [W, results, Try.results27, go_sem]
        rw [← Hz.out, ← right_none x k (by omega), ← right_none x n.toNat (by omega)]
        exact ⟨rfl, rfl⟩
    · go_wp2
      refine bodyPost_ret (v := W (sv x / 2 ^ n.toNat)) ?_ rfl ⟨rfl, (by repeat (first | with_reducible refine blg ?_ _ _ | with_reducible refine bla ?_ _ | with_reducible exact Below.refl _ _))⟩
      simp [W, results, Try.results27, go_sem]
      have := Hkn.out
      rw [← Hz.out, show k = n.toNat from by omega]
      exact ⟨rfl, rfl⟩
end Go.Proofs.Ytekkgidoblddfaa
