/- Package octet: the reference's numbers. -/
import Derived.Test.YtccgpjhfgmonpaaOct10
namespace Go.Proofs.Ytccgpjhfgmonpaa
open Go.RowKit Go.Sort
set_option linter.unusedVariables false

theorem rTake_any (R : Nat) (a : Option Addr) (m c p : Nat) (e fa n : Int) (f : Nat → Int) (w : World) (hR : CellsAt w R 57 (rdr (.slice a m c) p e fa)) (hb : Rd8 w a m f) (hne : ∀ b, a = some b → b.block ≠ R) (hz : a = none → c = 0 ∧ m = 0) (hc : m ≤ c) (hm : m ≤ 100000) (hp : p ≤ m) :
    Calls Try.prog 31 #[.pointer (some ⟨R, 0, none⟩), .int .i64 n] w fun x w' => ∃ a' n' c', x = .returned (.slice a' n' c') ∧ n' = (if good e m p n = true then n.toNat else 0) ∧ n' ≤ c' ∧ Rd8 w' a' n' (fun i => f (p + i)) ∧ CellsAt w' R 57 (rdr (.slice a m c) (nP e m p n) (nE e m p n) (nF fa e m p n)) ∧ w.grownBy w' (some R) := by
  by_cases he : e = 0
  · subst he
    by_cases hn : n < 0
    · obtain ⟨s1, s2, s3, s4⟩ := st_neg fa m p n hn
      rw [s1, s2, s3, s4]
      exact (rTake_neg R _ p fa n w hR hn).mono fun x w' ⟨h1, h2, h3⟩ => ⟨none, 0, 0, h1, by simp, Nat.le_refl _, rd8_none _ _ _, h2, h3⟩
    · by_cases hs : (m : Int) - p < n
      · obtain ⟨s1, s2, s3, s4⟩ := st_short fa m p n (by omega) hs
        rw [s1, s2, s3, s4]
        exact (rTake_short R a m c p fa n w hR (by omega) hp (by omega) hs).mono fun x w' ⟨h1, h2, h3⟩ => ⟨none, 0, 0, h1, by simp, Nat.le_refl _, rd8_none _ _ _, h2, h3⟩
      · obtain ⟨s1, s2, s3, s4⟩ := st_ok fa m p n (by omega) (by omega)
        rw [s1, s2, s3, s4]
        obtain ⟨k, rfl⟩ := Int.eq_ofNat_of_zero_le (show 0 ≤ n by omega)
        exact (rTake_ok R a m c p k fa f w hR hb hne hz hc (by omega) (by omega)).mono fun x w' ⟨a', c', h1, h2, h3, h4, h5⟩ => ⟨a', k, c', h1, by simp, h2, h3, h4, h5⟩
  · obtain ⟨s1, s2, s3, s4⟩ := st_bad fa m p n he
    rw [s1, s2, s3, s4]
    exact (rTake_bad R _ p e fa n w hR he).mono fun x w' ⟨h1, h2⟩ => ⟨none, 0, 0, h1, by simp, Nat.le_refl _, rd8_none _ _ _, hR.below h2, grownBy_of_below h2 _⟩

theorem le_front (h : Nat → Int) : ∀ (n : Nat), le h (n + 1) = le (fun t => h (1 + t)) n * 256 + h 0 := by
  intro n
  induction n with
  | zero => simp [le]
  | succ n ih =>
    have e1 : le h (n + 1 + 1) = le h (n + 1) + h (n + 1) * 2 ^ (8 * (n + 1)) := rfl
    have e2 : le (fun t => h (1 + t)) (n + 1) = le (fun t => h (1 + t)) n + h (1 + n) * 2 ^ (8 * n) := rfl
    rw [e1, e2, ih, p8, Nat.add_comm 1 n, ← Int.mul_assoc]
    omega

theorem le_congr (f g : Nat → Int) (n : Nat) (h : ∀ i, i < n → f i = g i) : le f n = le g n := by
  induction n with
  | zero => rfl
  | succ n ih => unfold le; rw [ih (fun i hi => h i (by omega)), h n (by omega)]

set_option maxHeartbeats 1000000 in
theorem rnumber_any (R : Nat) (a : Option Addr) (m c p k : Nat) (e fa : Int) (f : Nat → Int) (w : World) (hR : CellsAt w R 57 (rdr (.slice a m c) p e fa)) (hb : Rd8 w a m f) (hne : ∀ b, a = some b → b.block ≠ R) (hz : a = none → c = 0 ∧ m = 0) (hc : m ≤ c) (hm : m ≤ 100000) (hp : p ≤ m) (hk : k ≤ 8) :
    Calls Try.prog 48 #[.pointer (some ⟨R, 0, none⟩), .int .i64 k] w fun x w' => x = .returned (.int .u64 (if good e m p k = true then le (fun i => f (p + i)) k else 0)) ∧ CellsAt w' R 57 (rdr (.slice a m c) (nP e m p k) (nE e m p k) (nF fa e m p k)) ∧ w.grownBy w' (some R) := by
  have H := Lib.hid (rTake_any R a m c p e fa k f w hR hb hne hz hc hm hp)
  clear hR hb hne hz
  obtain ⟨N, hN⟩ : ∃ N, N = (if good e m p k = true then (k : Int).toNat else 0) := ⟨_, rfl⟩
  have hV : (if good e m p k = true then le (fun i => f (p + i)) k else 0) = le (fun i => f (p + i)) N := by
    rw [hN]; split <;> simp [le]
  have hN8 : N ≤ 8 := by rw [hN]; split <;> omega
  rw [← hN] at H
  rw [hV]
  clear hN hV
  obtain ⟨g, hg⟩ : ∃ g : Nat → Int, g = fun i => f (p + i) := ⟨_, rfl⟩
  rw [← hg] at H ⊢
  clear hg
  go_enter Try.func48, Try.ntmps48
  go_wp2_with fail
  refine H.out.mono ?_
  rintro x w1 ⟨a', n', c', rfl, rfl, hkc, hrd, hR2, hg2⟩
  have hbd : ∀ j, j ≤ n' → 0 ≤ le (fun t => g (j + t)) (n' - j) ∧ le (fun t => g (j + t)) (n' - j) < 18446744073709551616 := by
    intro j hj
    have h1 := le_bd (fun t => g (j + t)) (n' - j) (fun i hi => by obtain ⟨_, _, _, _, h⟩ := hrd (j + i) (by omega); exact h)
    have h2 := p8_le (n' - j) 8 (by omega)
    have h3 : (2 : Int) ^ (8 * 8) = 18446744073709551616 := by decide
    omega
  go_wp2_with fail
  go_loopw [6, 7] (fun v z wr => ∃ j : Nat, z = .int .i64 ((j : Int) - 1) ∧ j ≤ n' ∧ v = .int .u64 (le (fun t => g (j + t)) (n' - j)) ∧ wr = w1) (fun _ z _ => (intOf z + 1).toNat)
  case atStart =>
    exact ⟨n', rfl, Nat.le_refl _, by simp [le], rfl⟩
  case round =>
    obtain ⟨j, rfl, hj, rfl, rfl⟩ := hrel
    cases j with
    | zero =>
      have e0 : le (fun t => g (0 + t)) (n' - 0) = le g n' := by simp
      have HE := Lib.hid e0
      clear e0
      go_wp2_with fail
      go_ret
      refine ⟨?_, hR2, hg2⟩
      show Ending.returned (.int .u64 (le (fun t => g (0 + t)) (n' - 0))) = _
      rw [HE.out]
    | succ j =>
      obtain ⟨b, rfl, hbl, cb, b0, b1⟩ := hrd j (by omega)
      have kb := Has.of hbl
      have e1 : le (fun t => g (j + t)) (n' - j) = le (fun t => g (j + 1 + t)) (n' - (j + 1)) * 256 + g j := by
        rw [show n' - j = (n' - (j + 1)) + 1 by omega, le_front]
        rw [le_congr (fun t => g (j + (1 + t))) (fun t => g (j + 1 + t)) _ (fun i _ => by rw [Nat.add_assoc])]
        rfl
      have h1 := hbd j (by omega)
      rw [e1] at h1
      have E1 := Lib.hid e1
      have ej : ((j + 1 : Nat) : Int) - 1 = (j : Int) := by omega
      rw [ej]
      have j0 : (0 : Int) ≤ (j : Int) := by omega
      have jn : (j : Int) < (n' : Int) := by omega
      have h2 := hbd (j + 1) (by omega)
      generalize le (fun t => g (j + 1 + t)) (n' - (j + 1)) = Y at h1 h2 E1 ⊢
      clear e1 hbd ej
      go_wp2_with fail
      refine ⟨?_, by simp [intOf] <;> omega⟩
      exact ⟨j, rfl, by omega, by rw [E1.out], trivial⟩

theorem rU8_any (R : Nat) (a : Option Addr) (m c p : Nat) (e fa : Int) (f : Nat → Int) (w : World) (hR : CellsAt w R 57 (rdr (.slice a m c) p e fa)) (hb : Rd8 w a m f) (hne : ∀ b, a = some b → b.block ≠ R) (hz : a = none → c = 0 ∧ m = 0) (hc : m ≤ c) (hm : m ≤ 100000) (hp : p ≤ m) :
    Calls Try.prog 28 #[.pointer (some ⟨R, 0, none⟩)] w fun x w' => x = .returned (.int .u8 (if good e m p 1 = true then le (fun i => f (p + i)) 1 else 0)) ∧ CellsAt w' R 57 (rdr (.slice a m c) (nP e m p 1) (nE e m p 1) (nF fa e m p 1)) ∧ w.grownBy w' (some R) := by
  have hf : good e m p 1 = true → ∀ i, i < 1 → 0 ≤ f (p + i) ∧ f (p + i) ≤ 255 := fun hg i hi => by
    have hg' : e = 0 ∧ (0 : Int) ≤ 1 ∧ (1 : Int) ≤ (m : Int) - p := of_decide_eq_true hg
    obtain ⟨_, _, _, _, h⟩ := hb (p + i) (by omega); exact h
  have hbd : 0 ≤ (if good e m p 1 = true then le (fun i => f (p + i)) 1 else 0) ∧ (if good e m p 1 = true then le (fun i => f (p + i)) 1 else 0) < 2 ^ (8 * 1) := by
    split
    · rename_i hg
      exact le_bd _ 1 (hf hg)
    · exact ⟨by decide, by decide⟩
  have H := Lib.hid (rnumber_any R a m c p 1 e fa f w hR hb hne hz hc hm hp (by decide))
  have hVW : (if good e m p 1 = true then le (fun i => f (p + i)) 1 else 0) = id (if good e m p 1 = true then le (fun i => f (p + i)) 1 else 0) := by split <;> rfl
  rw [hVW]
  clear hR hb hne hz hf hVW
  generalize (if good e m p 1 = true then le (fun i => f (p + i)) 1 else 0) = V at hbd H ⊢
  go_enter Try.func28, Try.ntmps28
  go_wp2_with fail
  refine H.out.mono ?_
  rintro x w' ⟨rfl, h1, h2⟩
  go_wp2_with fail
  go_ret
  exact ⟨rfl, h1, h2⟩

theorem rU32_any (R : Nat) (a : Option Addr) (m c p : Nat) (e fa : Int) (f : Nat → Int) (w : World) (hR : CellsAt w R 57 (rdr (.slice a m c) p e fa)) (hb : Rd8 w a m f) (hne : ∀ b, a = some b → b.block ≠ R) (hz : a = none → c = 0 ∧ m = 0) (hc : m ≤ c) (hm : m ≤ 100000) (hp : p ≤ m) :
    Calls Try.prog 29 #[.pointer (some ⟨R, 0, none⟩)] w fun x w' => x = .returned (.int .u32 (if good e m p 4 = true then le (fun i => f (p + i)) 4 else 0)) ∧ CellsAt w' R 57 (rdr (.slice a m c) (nP e m p 4) (nE e m p 4) (nF fa e m p 4)) ∧ w.grownBy w' (some R) := by
  have hf : good e m p 4 = true → ∀ i, i < 4 → 0 ≤ f (p + i) ∧ f (p + i) ≤ 255 := fun hg i hi => by
    have hg' : e = 0 ∧ (0 : Int) ≤ 4 ∧ (4 : Int) ≤ (m : Int) - p := of_decide_eq_true hg
    obtain ⟨_, _, _, _, h⟩ := hb (p + i) (by omega); exact h
  have hbd : 0 ≤ (if good e m p 4 = true then le (fun i => f (p + i)) 4 else 0) ∧ (if good e m p 4 = true then le (fun i => f (p + i)) 4 else 0) < 2 ^ (8 * 4) := by
    split
    · rename_i hg
      exact le_bd _ 4 (hf hg)
    · exact ⟨by decide, by decide⟩
  have H := Lib.hid (rnumber_any R a m c p 4 e fa f w hR hb hne hz hc hm hp (by decide))
  have hVW : (if good e m p 4 = true then le (fun i => f (p + i)) 4 else 0) = id (if good e m p 4 = true then le (fun i => f (p + i)) 4 else 0) := by split <;> rfl
  rw [hVW]
  clear hR hb hne hz hf hVW
  generalize (if good e m p 4 = true then le (fun i => f (p + i)) 4 else 0) = V at hbd H ⊢
  go_enter Try.func29, Try.ntmps29
  go_wp2_with fail
  refine H.out.mono ?_
  rintro x w' ⟨rfl, h1, h2⟩
  go_wp2_with fail
  go_ret
  exact ⟨rfl, h1, h2⟩

theorem rI64_any (R : Nat) (a : Option Addr) (m c p : Nat) (e fa : Int) (f : Nat → Int) (w : World) (hR : CellsAt w R 57 (rdr (.slice a m c) p e fa)) (hb : Rd8 w a m f) (hne : ∀ b, a = some b → b.block ≠ R) (hz : a = none → c = 0 ∧ m = 0) (hc : m ≤ c) (hm : m ≤ 100000) (hp : p ≤ m) :
    Calls Try.prog 30 #[.pointer (some ⟨R, 0, none⟩)] w fun x w' => x = .returned (.int .i64 (if good e m p 8 = true then lw (fun i => f (p + i)) 8 else 0)) ∧ CellsAt w' R 57 (rdr (.slice a m c) (nP e m p 8) (nE e m p 8) (nF fa e m p 8)) ∧ w.grownBy w' (some R) := by
  have hf : good e m p 8 = true → ∀ i, i < 8 → 0 ≤ f (p + i) ∧ f (p + i) ≤ 255 := fun hg i hi => by
    have hg' : e = 0 ∧ (0 : Int) ≤ 8 ∧ (8 : Int) ≤ (m : Int) - p := of_decide_eq_true hg
    obtain ⟨_, _, _, _, h⟩ := hb (p + i) (by omega); exact h
  have hbd : 0 ≤ (if good e m p 8 = true then le (fun i => f (p + i)) 8 else 0) ∧ (if good e m p 8 = true then le (fun i => f (p + i)) 8 else 0) < 2 ^ (8 * 8) := by
    split
    · rename_i hg
      exact le_bd _ 8 (hf hg)
    · exact ⟨by decide, by decide⟩
  have H := Lib.hid (rnumber_any R a m c p 8 e fa f w hR hb hne hz hc hm hp (by decide))
  have hVW : (if good e m p 8 = true then lw (fun i => f (p + i)) 8 else 0) = wrap64 (if good e m p 8 = true then le (fun i => f (p + i)) 8 else 0) := by split <;> simp [lw, wrap64]
  rw [hVW]
  clear hR hb hne hz hf hVW
  generalize (if good e m p 8 = true then le (fun i => f (p + i)) 8 else 0) = V at hbd H ⊢
  go_enter Try.func30, Try.ntmps30
  go_wp2_with fail
  refine H.out.mono ?_
  rintro x w' ⟨rfl, h1, h2⟩
  go_wp2_with fail
  go_ret
  exact ⟨rfl, h1, h2⟩
end Go.Proofs.Ytccgpjhfgmonpaa
