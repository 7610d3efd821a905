/- Package flags: ranks, next places, and what is right, of the reference. -/
import Derived.Test.YtccgpjhfgmonpaaDoorFl11
namespace Go.Proofs.YtccgpjhfgmonpaaDoor
open Go.RowKit Go.Sort
set_option linter.unusedVariables false

set_option maxRecDepth 100000 in
set_option maxHeartbeats 1000000 in
theorem rrank_any (a : Option Addr) (n c : Nat) (p : Nat → Bool) (x : Int) (w : World) (hr : RdW w a n (wd p)) (hn : n ≤ 100000) :
    Calls Tryd.prog 28 #[.slice a n c, .int .i64 x] w fun e w' => e = .returned (.int .i64 (rankV p n x)) ∧ Below w.heap.size w w' := by
  have HL := Lib.hid (rlist_any a n c p w hr hn)
  have HX := Lib.hid (fun k y (h : (pl p (64 * n))[k]? = some y) => pl_lt_iff h x)
  have hR : rankV p n x ≤ cnt p (64 * n) := cnt_mono p (by omega)
  have hRe : Hid (rankV p n x = cnt p (min x.toNat (64 * n))) := Lib.hid rfl
  have HZ := Lib.hid (fun k (h : k < cnt p (64 * n)) => pl_size (p := p) (N := 64 * n) h)
  have hml := cnt_le p (64 * n)
  obtain ⟨R, hRR⟩ : ∃ R, R = rankV p n x := ⟨_, rfl⟩
  rw [← hRR] at hR hRe ⊢
  obtain ⟨M, hM⟩ : ∃ M, M = cnt p (64 * n) := ⟨_, rfl⟩
  rw [← hM] at hR HL HZ hml
  clear hRR hM hr
  go_enter Tryd.func28, Tryd.ntmps28
  go_wp2_with fail
  refine HL.out.mono ?_
  rintro e w1 ⟨a', c', rfl, hc, hI, _, hb⟩
  go_wp2
  go_loop [5, 7] (fun z y => ∃ k : Nat, k ≤ M ∧ y = .int .i64 k ∧ z = .int .i64 (min k R : Nat)) (fun _ y => M - (intOf y).toNat)
  case atStart => exact ⟨0, by omega, rfl, by simp⟩
  case round =>
    obtain ⟨k, hk, rfl, rfl⟩ := hrel
    by_cases hlt : k < M
    · obtain ⟨y, hy⟩ := HZ.out k hlt
      have hiff := HX.out k y hy
      rw [← hRe.out] at hiff
      obtain ⟨b, rfl, hbl, hcell, _⟩ := hI k hlt
      rw [nth_eq hy] at hcell
      have hk0 : (0 : Int) ≤ (k : Int) := by omega
      have hki : (k : Int) < (M : Int) := by omega
      clear hy
      by_cases h1 : k < R
      · have hx : (y : Int) < x := hiff.2 h1
        rw [show min k R = k by omega]
        clear hiff
        go_wp2
        go_round
        case rel => exact ⟨k + 1, by omega, by go_num, by rw [show min (k + 1) R = k + 1 by omega]; go_num⟩
        case measure => simp [intOf]; omega
      · have hx : ¬ (y : Int) < x := fun h => h1 (hiff.1 h)
        rw [show min k R = R by omega]
        clear hiff
        go_wp2
        go_round
        case rel => exact ⟨k + 1, by omega, by go_num, by rw [show min (k + 1) R = R by omega]⟩
        case measure => simp [intOf]; omega
    · obtain rfl : k = M := by omega
      rw [show min k R = R by omega]
      go_wp2
      go_ret
      exact ⟨rfl, hb⟩

set_option maxRecDepth 100000 in
set_option maxHeartbeats 1000000 in
theorem rnext_any (a : Option Addr) (n c : Nat) (p : Nat → Bool) (x : Int) (w : World) (hr : RdW w a n (wd p)) (hn : n ≤ 100000) :
    Calls Tryd.prog 30 #[.slice a n c, .int .i64 x] w fun e w' => e = .returned (.int .i64 (nextV p (64 * n) x.toNat)) ∧ Below w.heap.size w w' := by
  have HL := Lib.hid (rlist_any a n c p w hr hn)
  have HX := Lib.hid (fun k y (h : (pl p (64 * n))[k]? = some y) => pl_lt_iff h x)
  have HA := Lib.hid (fun k y (h : (pl p (64 * n))[k]? = some y) => next_at (a := x.toNat) h)
  have HO := Lib.hid (next_off (p := p) (N := 64 * n) (a := x.toNat))
  have HZ := Lib.hid (fun k (h : k < cnt p (64 * n)) => pl_size (p := p) (N := 64 * n) h)
  have hml := cnt_le p (64 * n)
  obtain ⟨R, hRR⟩ : ∃ R, R = cnt p (min x.toNat (64 * n)) := ⟨_, rfl⟩
  simp only [← hRR] at HX HA HO
  obtain ⟨V, hV⟩ : ∃ V, V = nextV p (64 * n) x.toNat := ⟨_, rfl⟩
  simp only [← hV] at HA HO ⊢
  obtain ⟨M, hM⟩ : ∃ M, M = cnt p (64 * n) := ⟨_, rfl⟩
  simp only [← hM] at HL HZ hml HO
  clear hRR hM hr hV
  go_enter Tryd.func30, Tryd.ntmps30
  go_wp2_with fail
  refine HL.out.mono ?_
  rintro e w1 ⟨a', c', rfl, hc, hI, _, hb⟩
  go_wp2
  go_loop [6] (fun y => ∃ k : Nat, k ≤ M ∧ k ≤ R ∧ y = .int .i64 k) (fun y => M - (intOf y).toNat)
  case atStart => exact ⟨0, by omega, by omega, rfl⟩
  case round =>
    obtain ⟨k, hk, hkR, rfl⟩ := hrel
    by_cases hlt : k < M
    · obtain ⟨y, hy⟩ := HZ.out k hlt
      have hiff := HX.out k y hy
      have hat := HA.out k y hy
      obtain ⟨b, rfl, hbl, hcell, _⟩ := hI k hlt
      rw [nth_eq hy] at hcell
      have hk0 : (0 : Int) ≤ (k : Int) := by omega
      have hki : (k : Int) < (M : Int) := by omega
      clear hy
      by_cases hx : (y : Int) < x
      · have h1 := hiff.1 hx
        clear hiff hat
        go_wp2
        go_round
        case rel => exact ⟨k + 1, by omega, by omega, by go_num⟩
        case measure => simp [intOf]; omega
      · have hv := Lib.hid (hat (by omega) hkR)
        have hx' : x ≤ (y : Int) := by omega
        clear hiff hat
        go_wp2
        go_ret
        exact ⟨ret_int hv.out.symm, hb⟩
    · obtain rfl : k = M := by omega
      have hv := Lib.hid (HO.out hkR)
      go_wp2
      go_ret
      exact ⟨ret_int hv.out.symm, hb⟩

/-- Are words a set of so many places? -/
def rightB (p : Nat → Bool) (n : Nat) (x : Int) : Bool := decide (0 ≤ x ∧ x ≤ 4096 ∧ n = nw x ∧ nextV p (64 * n) x.toNat = -1)
theorem next_last {p : Nat → Bool} {N a y : Nat} (h : (pl p N)[cnt p N - 1]? = some y) : (y : Int) < a ↔ nextV p N a = -1 := by
  obtain ⟨h1, h2, h3⟩ := pl_get h
  have hpos := cnt_mono p (show y + 1 ≤ N by omega)
  rw [cnt_succ, h2] at hpos
  simp at hpos
  constructor
  · intro hy
    refine nextV_none fun z h4 h5 => ?_
    cases hz : p z
    · rfl
    · have h6 := cnt_mono p (show y + 1 ≤ z by omega)
      have h7 := cnt_mono p (show z + 1 ≤ N by omega)
      rw [cnt_succ, h2] at h6
      rw [cnt_succ, hz] at h7
      simp at h6 h7
      omega
  · intro he
    rcases Nat.lt_or_ge y a with h4 | h4
    · omega
    · rcases nx_cases p (N - a) a with ⟨_, h5⟩ | ⟨x, h5, h6, h7, h8, h9⟩
      · have := h5 y h4 (by omega)
        rw [h2] at this; cases this
      · unfold nextV at he
        omega

set_option maxRecDepth 100000 in
set_option maxHeartbeats 1000000 in
theorem rright_any (a : Option Addr) (n c : Nat) (p : Nat → Bool) (x : Int) (w : World) (hr : RdW w a n (wd p)) (hn : n ≤ 100000) :
    Calls Tryd.prog 18 #[.slice a n c, .int .i64 x] w fun e w' => e = .returned (.bool (rightB p n x)) ∧ Below w.heap.size w w' := by
  have HN := Lib.hid (fun W => rwords_any x W)
  by_cases h0 : x < 0
  · rw [show rightB p n x = false by unfold rightB; simp; omega]
    go_enter Tryd.func18, Tryd.ntmps18
    go_wp2
    go_ret
    exact ⟨rfl, Below.refl _ _⟩
  by_cases h1 : 4096 < x
  · rw [show rightB p n x = false by unfold rightB; simp; omega]
    go_enter Tryd.func18, Tryd.ntmps18
    go_wp2
    go_ret
    exact ⟨rfl, Below.refl _ _⟩
  by_cases h2 : n = nw x
  · have h3 : ((n : Int) != (nw x : Int)) = false := by simp; omega
    have HL := Lib.hid (rlist_any a n c p w hr hn)
    have hml := cnt_le p (64 * n)
    have HLa := Lib.hid (fun y (h : (pl p (64 * n))[cnt p (64 * n) - 1]? = some y) => next_last (a := x.toNat) h)
    have HZ := Lib.hid (fun k (h : k < cnt p (64 * n)) => pl_size (p := p) (N := 64 * n) h)
    have HO := Lib.hid (next_off (p := p) (N := 64 * n) (a := x.toNat))
    have e1 : rightB p n x = decide (nextV p (64 * n) x.toNat = -1) := by
      unfold rightB; rw [Bool.eq_iff_iff]; simp; omega
    rw [e1]
    have b1 : 0 ≤ x := by omega
    have b2 : x ≤ 4096 := by omega
    obtain ⟨V, hV⟩ : ∃ V, V = nextV p (64 * n) x.toNat := ⟨_, rfl⟩
    simp only [← hV] at HLa HO ⊢
    have H2 := Lib.hid h2
    obtain ⟨M, hM⟩ : ∃ M, M = cnt p (64 * n) := ⟨_, rfl⟩
    simp only [← hM] at HL HZ hml HLa HO
    clear hV hM hr e1 h2 h0 h1
    by_cases hz : M = 0
    · have hv : V = -1 := HO.out (by omega)
      subst hz
      have HV := Lib.hid hv
      clear hv
      go_enter Tryd.func18, Tryd.ntmps18
      go_wp2_with fail
      refine (HN.out _).mono ?_
      rintro e w' ⟨rfl, rfl⟩
      go_wp2_with fail
      refine HL.out.mono ?_
      rintro e w1 ⟨a', c', rfl, hc, hI, _, hb⟩
      go_wp2
      go_ret
      exact ⟨ret_bool (by rw [HV.out]; rfl), hb⟩
    · obtain ⟨y, hy⟩ := HZ.out (M - 1) (by omega)
      have hiff := HLa.out y hy
      have hv : decide ((y : Int) < x) = decide (V = -1) := by
        rw [Bool.eq_iff_iff]; simp only [decide_eq_true_iff]; rw [← hiff]; omega
      have HV := Lib.hid hv
      have hne : ((M : Int) == 0) = false := by simp; omega
      have hM1 : IntKind.i64.wrap ((M : Int) - 1) = ((M - 1 : Nat) : Int) := by rw [IntKind.wrap_i64]; omega
      have hM2 : ((M - 1 : Nat) : Int) < (M : Int) := by omega
      have hM3 : ((M - 1 : Nat) : Int).toNat = M - 1 := by omega
      have hM4 : (0 : Int) ≤ ((M - 1 : Nat) : Int) := by omega
      have hM5 : (M : Int) - 1 = ((M - 1 : Nat) : Int) := by omega
      have HM1 := Lib.hid hM1
      have HM5 := Lib.hid hM5
      clear hiff hv hM1 hM5
      go_enter Tryd.func18, Tryd.ntmps18
      go_wp2_with fail
      refine (HN.out _).mono ?_
      rintro e w' ⟨rfl, rfl⟩
      go_wp2_with fail
      refine HL.out.mono ?_
      rintro e w1 ⟨a', c', rfl, hc, hI, _, hb⟩
      obtain ⟨b, rfl, hbl, hcell, _⟩ := hI (M - 1) (by omega)
      rw [nth_eq hy] at hcell
      have hM5 := HM5.out
      have hM6 : (0 : Int) ≤ (M : Int) - 1 := by omega
      have hM7 : (M : Int) - 1 < (M : Int) := by omega
      have hM8 : ((M : Int) - 1).toNat = M - 1 := by omega
      clear hM5 hI hy
      go_wp2
      go_ret
      exact ⟨ret_bool HV.out, hb⟩
  · rw [show rightB p n x = false by unfold rightB; simp [h2]]
    have h3 : ((n : Int) != (nw x : Int)) = true := by simp; omega
    have b1 : 0 ≤ x := by omega
    have b2 : x ≤ 4096 := by omega
    clear hr h2 h0 h1
    go_enter Tryd.func18, Tryd.ntmps18
    go_wp2_with fail
    refine (HN.out _).mono ?_
    rintro e w' ⟨rfl, rfl⟩
    go_wp2
    go_ret
    exact ⟨rfl, Below.refl _ _⟩
end Go.Proofs.YtccgpjhfgmonpaaDoor
