/- Package flags: all others, and parts, of the reference. -/
import Derived.Test.YtccgpjhfgmonpaaDoorFl17
import Derived.Test.YtccgpjhfgmonpaaDoorFl18
namespace Go.Proofs.YtccgpjhfgmonpaaDoor
open Go.RowKit Go.Sort
set_option linter.unusedVariables false

/-- So many places looked at: those that are not in the set. -/
def flP (p : Nat → Bool) (m k : Nat) (x : Nat) : Bool := decide (x < k) && !cutP p m x
theorem hasB_cut (p : Nat → Bool) (m k : Nat) : hasB p m (k : Int) = cutP p m k := by
  unfold hasB inB cutP
  rw [Bool.eq_iff_iff]; simp; omega
theorem flP_zero (p : Nat → Bool) (m : Nat) : flP p m 0 = fun _ => false := by funext x; simp [flP]
theorem flP_has {p : Nat → Bool} {m k : Nat} (h : cutP p m k = true) : flP p m (k + 1) = flP p m k := by
  funext x
  unfold flP
  by_cases e : x = k
  · subst e; simp [h]
  · have : decide (x < k + 1) = decide (x < k) := by simp; omega
    rw [this]
theorem flP_not {p : Nat → Bool} {m k : Nat} (h : cutP p m k = false) : flP p m (k + 1) = putP (flP p m k) (k : Int) := by
  funext x
  unfold flP putP
  by_cases e : x = k
  · subst e; simp [h]
  · have : decide (x < k + 1) = decide (x < k) := by simp; omega
    have h2 : decide ((x : Int) = (k : Int)) = false := by simp; omega
    rw [this, h2]; simp
theorem flP_end {p : Nat → Bool} {m k N i : Nat} {n : Int} (hN : N = nw n) (hk : (k : Int) = min (max n 0) (64 * N)) (hi : i < N) : wd (flP p m k) i = wd (lessP (cutP (belowP n) N) (cutP p m)) i := by
  refine wd_congr fun j hj => ?_
  unfold flP lessP
  congr 1
  unfold cutP belowP
  rw [Bool.eq_iff_iff]
  simp only [decide_eq_true_iff, Bool.and_eq_true]
  unfold nw at hN
  omega

set_option maxRecDepth 100000 in
set_option maxHeartbeats 2000000 in
theorem rflip_any (n : Int) (a : Option Addr) (m c : Nat) (p : Nat → Bool) (w : World) (hr : RdW w a m (wd p)) (hm : m ≤ 100000) :
    Calls Tryd.prog 40 #[.slice a m c, .int .i64 n] w fun e w' => ∃ a' c', e = .returned (.slice a' (nw n) c') ∧ OwW w.heap.size w' a' (nw n) c' (wd (lessP (cutP (belowP n) (nw n)) (cutP p m))) ∧ Below w.heap.size w w' := by
  have HE := Lib.hid (fun (k i : Nat) (h1 : (k : Int) = min (max n 0) (64 * (nw n : Int))) (h2 : i < nw n) => flP_end (p := p) (m := m) (n := n) rfl h1 h2)
  go_enter Tryd.func40, Tryd.ntmps40
  go_wp2_with fail
  refine (rnew_any n w).mono ?_
  rintro e w1 ⟨g, rfl, hg, hC0, hB0⟩
  rw [cells_none] at hC0
  have hO0 : OwW w.heap.size w1 (some ⟨g, 0, none⟩) (nw n) (nw n) (wd (flP p m 0)) := by rw [flP_zero]; exact owW_cells hC0 hg (fun i _ => wd_lt _ i)
  have hgn := nw_le n
  clear hC0
  obtain ⟨N, hNe⟩ : ∃ N, N = nw n := ⟨_, rfl⟩
  simp only [← hNe] at hO0 hgn HE ⊢
  have HNe := Lib.hid hNe
  clear hNe
  go_wp2
  go_loopw [5, 6] (fun v y wr => ∃ (k : Nat) (a' : Option Addr) (c' : Nat), (k : Int) ≤ min (max n 0) (64 * N) ∧ y = .int .i64 k ∧ v = .slice a' N c' ∧ OwW w.heap.size wr a' N c' (wd (flP p m k)) ∧ Below w.heap.size w wr) (fun _ y _ => 64 * N - (intOf y).toNat)
  case atStart => exact ⟨0, _, _, by omega, rfl, rfl, hO0, hB0⟩
  case round =>
    clear hO0 hB0
    obtain ⟨k, a', c', hk, rfl, rfl, hO, hB⟩ := hrel
    have hk0 : (0 : Int) ≤ (k : Int) := by omega
    by_cases h1 : (k : Int) < n
    · by_cases h2 : (k : Int) < 64 * (N : Int)
      · have HH := Lib.hid (rhas_any a m c p k wr (hr.grown (grownBy_of_below hB none) (fun _ _ => by simp)) hm (by omega))
        rw [hasB_cut] at HH
        have HP := Lib.hid (rput_any a' N c' (flP p m k) k wr hO.rd hO.nil (by omega) (by omega))
        cases hc : cutP p m k
        · rw [hc] at HH
          have HF := Lib.hid (flP_not hc)
          have HO := Lib.hid hO
          clear hO hc
          go_wp2_with fail
          refine HH.out.mono ?_
          rintro e w2 ⟨rfl, rfl⟩
          go_wp2_with fail
          refine HP.out.mono ?_
          rintro e w2 ⟨a2, c2, rfl, hO2, hb⟩
          go_wp2
          refine ⟨?_, by simp [intOf]; omega⟩
          exact ⟨k + 1, a2, c2, by omega, by simp, rfl, by rw [HF.out]; exact hO2.lower hB.size, hB.trans (hb.mono hB.size)⟩
        · rw [hc] at HH
          have HF := Lib.hid (flP_has hc)
          have HO := Lib.hid hO
          clear hO hc HP
          go_wp2_with fail
          refine HH.out.mono ?_
          rintro e w2 ⟨rfl, rfl⟩
          go_wp2
          refine ⟨?_, by simp [intOf]; omega⟩
          exact ⟨k + 1, a', c', by omega, by simp, rfl, by rw [HF.out]; exact HO.out, hB⟩
      · have hke : (k : Int) = min (max n 0) (64 * (N : Int)) := by omega
        have hO3 := hO.congr (fun i hi => HE.out k i hke hi)
        clear hO hke hk
        go_wp2
        go_ret
        have hh := HNe.out
        subst hh
        exact ⟨a', c', rfl, hO3, hB⟩
    · have hke : (k : Int) = min (max n 0) (64 * (N : Int)) := by omega
      have hO3 := hO.congr (fun i hi => HE.out k i hke hi)
      clear hO hke hk
      go_wp2
      go_ret
      have hh := HNe.out
      subst hh
      exact ⟨a', c', rfl, hO3, hB⟩

theorem take_snoc {l : List Nat} {k y : Nat} (h : l[k]? = some y) : l.take (k + 1) = l.take k ++ [y] := by
  obtain ⟨hk, e⟩ := List.getElem?_eq_some_iff.1 h
  rw [List.take_succ_eq_append_getElem hk, e]

set_option maxRecDepth 100000 in
set_option maxHeartbeats 4000000 in
theorem rpart_any (a : Option Addr) (n c : Nat) (p : Nat → Bool) (x t : Int) (w : World) (hr : RdW w a n (wd p)) (hn : n ≤ 100000) (hx : -9223372036854775808 ≤ x ∧ x ≤ 9223372036854775807) (ht : -9223372036854775808 ≤ t ∧ t ≤ 9223372036854775807) :
    Calls Tryd.prog 42 #[.slice a n c, .int .i64 x, .int .i64 t] w fun e w' => ∃ a' c', e = .returned (.slice a' (nw (t - x.toNat)) c') ∧ OwW w.heap.size w' a' (nw (t - x.toNat)) c' (wd (ppP x.toNat t (pl p (64 * n)))) ∧ Below w.heap.size w w' := by
  have hm := max_zero x
  obtain ⟨f, hf⟩ : ∃ f, f = x.toNat := ⟨_, rfl⟩
  rw [← hf] at hm ⊢
  have hf1 : (f : Int) ≤ 9223372036854775807 := by omega
  have hf0 : (0 : Int) ≤ (f : Int) := by omega
  clear hf
  by_cases hle : t ≤ (f : Int)
  · have hz : nw (t - f) = 0 := by unfold nw; omega
    rw [hz]
    clear hr hz
    go_enter Tryd.func42, Tryd.ntmps42
    go_wp2
    go_ret
    exact ⟨none, 0, rfl, ⟨Nat.le_refl _, fun _ => ⟨rfl, rfl⟩, fun b e => (by cases e), fun i hi => absurd hi (Nat.not_lt_zero _)⟩, Below.refl _ _⟩
  · have hlt : (f : Int) < t := by omega
    have hN64 := nw_le (t - f)
    have HN := Lib.hid (fun W => rnew_any (t - f) W)
    have HL := Lib.hid (fun W (hW : Below w.heap.size w W) => rlist_any a n c p W (hr.grown (grownBy_of_below hW none) (fun _ _ => by simp)) hn)
    have HZ := Lib.hid (fun k (h : k < cnt p (64 * n)) => pl_size (p := p) (N := 64 * n) h)
    have HG := Lib.hid (fun k y (h : (pl p (64 * n))[k]? = some y) => pl_get h)
    have HT := Lib.hid (show (pl p (64 * n)).take (cnt p (64 * n)) = pl p (64 * n) by rw [← pl_length]; exact List.take_length)
    have hml := cnt_le p (64 * n)
    obtain ⟨M, hM⟩ : ∃ M, M = cnt p (64 * n) := ⟨_, rfl⟩
    simp only [← hM] at HL HZ HT hml
    obtain ⟨PL, hPL⟩ : ∃ PL, PL = pl p (64 * n) := ⟨_, rfl⟩
    simp only [← hPL] at HL HZ HG HT ⊢
    obtain ⟨N, hN⟩ : ∃ N, N = nw (t - f) := ⟨_, rfl⟩
    simp only [← hN] at HN hN64
    have HNN := Lib.hid hN
    clear hN hle hM hPL hr
    go_enter Tryd.func42, Tryd.ntmps42
    go_wp2_with fail
    refine (HN.out _).mono ?_
    rintro e w1 ⟨g, rfl, hg, hC0, hB0⟩
    rw [cells_none] at hC0
    have hO0 : OwW w.heap.size w1 (some ⟨g, 0, none⟩) N N (wd (ppP f t (PL.take 0))) := by rw [List.take_zero, ppP_nil]; exact owW_cells hC0 hg (fun i _ => wd_lt _ i)
    clear hC0
    go_wp2_with fail
    refine (HL.out _ hB0).mono ?_
    rintro e w2 ⟨al, cl, rfl, hlc, hI, _, hb⟩
    have hO1 := hO0.below hb
    have hB1 := hB0.trans (hb.mono hB0.size)
    clear hO0 hb hB0 hm
    have HX := Lib.hid hx
    have HT2 := Lib.hid ht
    have HF1 := Lib.hid hf1
    clear hx ht hf1
    go_wp2
    go_loopw [7, 9] (fun v y wr => ∃ (k : Nat) (a' : Option Addr) (c' : Nat), k ≤ M ∧ y = .int .i64 k ∧ v = .slice a' N c' ∧ OwW w.heap.size wr a' N c' (wd (ppP f t (PL.take k))) ∧ Below w2.heap.size w2 wr) (fun _ y _ => M - (intOf y).toNat)
    case atStart => exact ⟨0, _, _, by omega, rfl, rfl, hO1, Below.refl _ _⟩
    case round =>
      clear hO1
      obtain ⟨k, a', c', hk, rfl, rfl, hO, hB⟩ := hrel
      by_cases hltk : k < M
      · obtain ⟨y, hy⟩ := HZ.out k hltk
        have hyl := (HG.out k y hy).1
        obtain ⟨b, rfl, hbl, hcell, _⟩ := (hI.below hB) k hltk
        rw [nth_eq hy] at hcell
        have HTS := Lib.hid (take_snoc hy)
        have hk0 : (0 : Int) ≤ (k : Int) := by omega
        have hki : (k : Int) < (M : Int) := by omega
        have hy1 : (y : Int) < 6400064 := by omega
        have hy0 : (0 : Int) ≤ (y : Int) := by omega
        clear hy hyl
        by_cases h1 : f ≤ y
        · by_cases h2 : (y : Int) < t
          · by_cases h3 : (y : Int) - (f : Int) < 4096
            · have HP := Lib.hid (rput_any a' N c' (ppP f t (PL.take k)) ((y : Int) - (f : Int)) wr hO.rd hO.nil (by omega) (by omega))
              have HE := Lib.hid (show ppP f t (PL.take (k + 1)) = putP (ppP f t (PL.take k)) ((y : Int) - (f : Int)) by rw [HTS.out, ppP_put h1 h2, show ((y - f : Nat) : Int) = (y : Int) - (f : Int) by omega])
              have HO := Lib.hid hO
              have b1 : decide (f ≤ y) = true := by simp; omega
              have b2 : decide ((y : Int) < t) = true := by simp; omega
              clear hO
              go_wp2_with fail
              refine HP.out.mono ?_
              rintro e w3 ⟨a2, c2, rfl, hO2, hb⟩
              go_wp2
              refine ⟨?_, by simp [intOf]; omega⟩
              exact ⟨k + 1, a2, c2, by omega, by simp, rfl, by rw [HE.out]; exact hO2.lower (Nat.le_trans hB1.size hB.size), hB.trans (hb.mono hB.size)⟩
            · have HO := Lib.hid (hO.congr (fun i hi => pp_out (f := f) (t := t) (l := PL.take k) (y := y) (N := N) h1 h2 (by omega) hi))
              have b1 : decide (f ≤ y) = true := by simp; omega
              have b2 : decide ((y : Int) < t) = true := by simp; omega
              have b3 : decide ((y : Int) - (f : Int) < 4096) = false := by simp; omega
              clear hO
              go_wp2
              refine ⟨?_, by simp [intOf]; omega⟩
              exact ⟨k + 1, a', c', by omega, by simp, rfl, by rw [HTS.out]; exact HO.out, hB⟩
          · have HE := Lib.hid (show ppP f t (PL.take (k + 1)) = ppP f t (PL.take k) by rw [HTS.out]; exact ppP_skip (by omega))
            have HO := Lib.hid hO
            have b1 : decide (f ≤ y) = true := by simp; omega
            have b2 : decide ((y : Int) < t) = false := by simp; omega
            clear hO
            go_wp2
            refine ⟨?_, by simp [intOf]; omega⟩
            exact ⟨k + 1, a', c', by omega, by simp, rfl, by rw [HE.out]; exact HO.out, hB⟩
        · have HE := Lib.hid (show ppP f t (PL.take (k + 1)) = ppP f t (PL.take k) by rw [HTS.out]; exact ppP_skip (by omega))
          have HO := Lib.hid hO
          have b1 : decide (f ≤ y) = false := by simp; omega
          clear hO
          go_wp2
          refine ⟨?_, by simp [intOf]; omega⟩
          exact ⟨k + 1, a', c', by omega, by simp, rfl, by rw [HE.out]; exact HO.out, hB⟩
      · obtain rfl : k = M := by omega
        rw [HT.out] at hO
        go_wp2
        go_ret
        have hh := HNN.out
        subst hh
        exact ⟨a', c', rfl, hO, hB1.trans (hB.mono hB1.size)⟩
end Go.Proofs.YtccgpjhfgmonpaaDoor
