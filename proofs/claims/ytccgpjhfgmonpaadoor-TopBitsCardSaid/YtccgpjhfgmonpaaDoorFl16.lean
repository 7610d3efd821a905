/- Package flags: sets of some places, of both; what is right; few words. -/
import Derived.Test.YtccgpjhfgmonpaaDoorFl13
import Derived.Test.YtccgpjhfgmonpaaDoorFl14
namespace Go.Proofs.YtccgpjhfgmonpaaDoor
open Go.RowKit Go.Sort
set_option linter.unusedVariables false

def inO (n x : Int) : Prop := 0 ≤ x ∧ x < n ∧ x < 4096
instance (n x : Int) : Decidable (inO n x) := by unfold inO; infer_instance
/-- The places of a list that may be, so many of it. -/
def ofP (n : Int) (L : Nat → Int) : Nat → Nat → Bool
  | 0 => fun _ => false
  | k + 1 => if inO n (L k) then putP (ofP n L k) (L k) else ofP n L k
theorem ofP_in {n : Int} {L : Nat → Int} {k : Nat} (h : inO n (L k)) : ofP n L (k + 1) = putP (ofP n L k) (L k) := by
  show (if inO n (L k) then putP (ofP n L k) (L k) else ofP n L k) = _
  rw [if_pos h]
theorem ofP_out {n : Int} {L : Nat → Int} {k : Nat} (h : ¬ inO n (L k)) : ofP n L (k + 1) = ofP n L k := by
  show (if inO n (L k) then putP (ofP n L k) (L k) else ofP n L k) = _
  rw [if_neg h]
theorem ofP_iff {n : Int} {L : Nat → Int} {x : Nat} : ∀ {k : Nat}, ofP n L k x = true ↔ ∃ j, j < k ∧ L j = (x : Int) ∧ inO n (L j)
  | 0 => by simp [ofP]
  | k + 1 => by
    by_cases h : inO n (L k)
    · rw [ofP_in h]
      unfold putP
      rw [Bool.or_eq_true, ofP_iff, decide_eq_true_iff]
      constructor
      · rintro (⟨j, h1, h2⟩ | h3)
        · exact ⟨j, by omega, h2⟩
        · exact ⟨k, by omega, h3.symm, h⟩
      · rintro ⟨j, h1, h2, h3⟩
        by_cases e : j = k
        · subst e; exact .inr h2.symm
        · exact .inl ⟨j, by omega, h2, h3⟩
    · rw [ofP_out h, ofP_iff]
      constructor
      · rintro ⟨j, h1, h2⟩; exact ⟨j, by omega, h2⟩
      · rintro ⟨j, h1, h2, h3⟩
        by_cases e : j = k
        · subst e; exact absurd h3 h
        · exact ⟨j, by omega, h2, h3⟩
theorem cells_none (N : Nat) : cellsW (fun _ => 0) N = cellsW (wd (fun _ => false)) N := cellsW_congr fun i _ => (wd_none i).symm

set_option maxRecDepth 100000 in
set_option maxHeartbeats 2000000 in
theorem of_any (n : Int) (a : Option Addr) (m c : Nat) (L : Nat → Int) (w : World) (hr : RdI w a m L) (hm : m ≤ 100000) :
    Calls Tryd.prog 15 #[.int .i64 n, .slice a m c] w fun e w' => ∃ g, e = .returned (.slice (some ⟨g, 0, none⟩) (nw n) (nw n)) ∧ w.heap.size ≤ g ∧ CellsAt w' g 48 (cellsW (wd (ofP n L m)) (nw n)).toArray ∧ Below w.heap.size w w' := by
  go_enter Tryd.func15, Tryd.ntmps15
  go_wp2_with fail
  refine (new_any n w).mono ?_
  rintro e w1 ⟨g, rfl, hg, hC0, hB0⟩
  rw [cells_none] at hC0
  have hgn := nw_le n
  have hN := Lib.hid (show nw n = (min n.toNat 4096 + 63) / 64 from rfl)
  obtain ⟨N, hNe⟩ : ∃ N, N = nw n := ⟨_, rfl⟩
  simp only [← hNe] at hC0 hgn hN ⊢
  have HNe := Lib.hid hNe
  clear hNe
  go_wp2
  go_loopw [12] (fun y wr => ∃ k : Nat, k ≤ m ∧ y = .int .i64 k ∧ CellsAt wr g 48 (cellsW (wd (ofP n L k)) N).toArray ∧ Below w.heap.size w wr) (fun y _ => m - (intOf y).toNat)
  case atStart => exact ⟨0, by omega, rfl, hC0, hB0⟩
  case round =>
    clear hC0 hB0
    obtain ⟨k, hk, rfl, hC, hB⟩ := hrel
    by_cases hlt : k < m
    · have hk0 : (0 : Int) ≤ (k : Int) := by omega
      have hkm : (k : Int) < (m : Int) := by omega
      obtain ⟨b, rfl, hbl, hcell, hb1, hb2⟩ := (hr.grown (grownBy_of_below hB none) (fun _ _ => by simp)) k hlt
      have HIN := Lib.hid (fun h : inO n (L k) => ofP_in h)
      have HOUT := Lib.hid (fun h : ¬ inO n (L k) => ofP_out h)
      obtain ⟨x, hx⟩ : ∃ x, x = L k := ⟨_, rfl⟩
      rw [← hx] at hcell hb1 hb2 HIN HOUT
      clear hx
      by_cases hin : inO n x
      · obtain ⟨h1, h2, h3⟩ := hin
        have HE := Lib.hid (HIN.out ⟨h1, h2, h3⟩)
        obtain ⟨y, rfl⟩ : ∃ y : Nat, x = (y : Int) := ⟨x.toNat, by omega⟩
        have hy : y / 64 < N := by rw [hN.out]; omega
        have HB := Lib.hid (fun W => bit_any y (by omega) W)
        have HV := Lib.hid (or_put (ofP n L k) y)
        have HEE := Lib.hid (fun i => wd_put_at (ofP n L k) y i)
        have h4 : (y : Int) / 64 < (N : Int) := by omega
        have h5 : ((y : Int) / 64).toNat = y / 64 := by omega
        have h6 : (0 : Int) ≤ (y : Int) / 64 := by omega
        have hc2 : wr.cell? ⟨g, y / 64, none⟩ = some (.int .u64 (wd (ofP n L k) (y / 64) : Nat)) := by rw [hC.cell]; simpa using cellsW_at (wd (ofP n L k)) N _ hy
        have hfr := hC.frozen (y / 64)
        have kg : Has wr g := hC.lt
        obtain ⟨V, hV⟩ : ∃ V, V = wd (ofP n L k) (y / 64) := ⟨_, rfl⟩
        rw [← hV] at hc2 HV
        obtain ⟨B, hBB⟩ : ∃ B, B = 2 ^ (y % 64) := ⟨_, rfl⟩
        rw [← hBB] at HB HV
        have HVV := Lib.hid hV
        clear hV hBB HIN HOUT
        go_wp2_with fail
        refine wp_region_grown_tail 9 (by kernel_rfl) (by kernel_rfl) ?_
        simp only [List.take_succ_cons, List.take_zero, List.drop_succ_cons, List.drop_zero]
        repeat (go_big_quiet_step (first
          | (go_at_call 49; exact Calls.regrown_of ((HB.out _).mono fun _ _ ⟨h1, h2⟩ => ⟨h1, h2 ▸ Below.refl _ _⟩))))
        refine wpQuiet_nil ?_
        rintro _ ⟨⟨d3, o3⟩, rfl⟩
        have hC2 := hC.below (below_regrown wr d3 o3)
        have hb2 := hB.trans ((below_regrown wr d3 o3).mono hB.size)
        generalize grow (redrawn wr d3) o3 = U at hC2 hb2 ⊢
        clear hC hc2 hfr kg hcell hB
        have hcell : U.cell? ⟨g, y / 64, none⟩ = some (.int .u64 (V : Nat)) := by rw [hC2.cell, HVV.out]; simpa using cellsW_at (wd (ofP n L k)) N _ hy
        have hfr := hC2.frozen (y / 64)
        go_wp2
        refine ⟨?_, by simp [intOf]; omega⟩
        refine ⟨k + 1, by omega, by simp, ?_, hb2.setCell hg _⟩
        have := hC2.set (y / 64) (.int .u64 (bits .or .u64 V B))
        rw [HV.out, cellsW_set, cellsW_congr (fun i _ => HEE.out i)] at this
        rw [HV.out, HE.out]
        exact this
      · have HE := Lib.hid (HOUT.out hin)
        unfold inO at hin
        clear HIN HOUT
        by_cases h1 : 0 ≤ x
        · by_cases h2 : x < n
          · have h3 : ¬ x < 4096 := fun h => hin ⟨h1, h2, h⟩
            clear hin
            go_wp2
            refine ⟨?_, by simp [intOf]; omega⟩
            exact ⟨k + 1, by omega, by simp, by rw [HE.out]; exact hC, hB⟩
          · clear hin
            go_wp2
            refine ⟨?_, by simp [intOf]; omega⟩
            exact ⟨k + 1, by omega, by simp, by rw [HE.out]; exact hC, hB⟩
        · have h1' : x < 0 := by omega
          clear hin
          go_wp2
          refine ⟨?_, by simp [intOf]; omega⟩
          exact ⟨k + 1, by omega, by simp, by rw [HE.out]; exact hC, hB⟩
    · obtain rfl : k = m := by omega
      go_wp2
      go_ret
      have hh := HNe.out
      subst hh
      exact ⟨g, rfl, hg, hC, hB⟩

set_option maxRecDepth 100000 in
set_option maxHeartbeats 2000000 in
theorem rof_any (n : Int) (a : Option Addr) (m c : Nat) (L : Nat → Int) (w : World) (hr : RdI w a m L) (hm : m ≤ 100000) :
    Calls Tryd.prog 16 #[.int .i64 n, .slice a m c] w fun e w' => ∃ a' c', e = .returned (.slice a' (nw n) c') ∧ OwW w.heap.size w' a' (nw n) c' (wd (ofP n L m)) ∧ Below w.heap.size w w' := by
  go_enter Tryd.func16, Tryd.ntmps16
  go_wp2_with fail
  refine (rnew_any n w).mono ?_
  rintro e w1 ⟨g, rfl, hg, hC0, hB0⟩
  rw [cells_none] at hC0
  have hO0 : OwW w.heap.size w1 (some ⟨g, 0, none⟩) (nw n) (nw n) (wd (fun _ => false)) := owW_cells hC0 hg (fun i _ => wd_lt _ i)
  have hgn := nw_le n
  clear hC0
  obtain ⟨N, hNe⟩ : ∃ N, N = nw n := ⟨_, rfl⟩
  simp only [← hNe] at hO0 hgn ⊢
  have HNe := Lib.hid hNe
  clear hNe
  go_wp2
  go_loopw [5, 6] (fun v y wr => ∃ (k : Nat) (a' : Option Addr) (c' : Nat), k ≤ m ∧ y = .int .i64 k ∧ v = .slice a' N c' ∧ OwW w.heap.size wr a' N c' (wd (ofP n L k)) ∧ Below w.heap.size w wr) (fun _ y _ => m - (intOf y).toNat)
  case atStart => exact ⟨0, _, _, by omega, rfl, rfl, hO0, hB0⟩
  case round =>
    clear hO0 hB0
    obtain ⟨k, a', c', hk, rfl, rfl, hO, hB⟩ := hrel
    by_cases hlt : k < m
    · have hk0 : (0 : Int) ≤ (k : Int) := by omega
      have hkm : (k : Int) < (m : Int) := by omega
      obtain ⟨b, rfl, hbl, hcell, hb1, hb2⟩ := (hr.grown (grownBy_of_below hB none) (fun _ _ => by simp)) k hlt
      have HIN := Lib.hid (fun h : inO n (L k) => ofP_in h)
      have HOUT := Lib.hid (fun h : ¬ inO n (L k) => ofP_out h)
      have HP := Lib.hid (rput_any a' N c' (ofP n L k) (L k) wr hO.rd hO.nil (by omega) (by omega))
      obtain ⟨x, hx⟩ : ∃ x, x = L k := ⟨_, rfl⟩
      rw [← hx] at hcell hb1 hb2 HIN HOUT HP
      clear hx
      by_cases hin : inO n x
      · obtain ⟨h1, h2, h3⟩ := hin
        have HE := Lib.hid (HIN.out ⟨h1, h2, h3⟩)
        have HO := Lib.hid hO
        clear HIN HOUT hO
        go_wp2_with fail
        refine HP.out.mono ?_
        rintro e w2 ⟨a2, c2, rfl, hO2, hb⟩
        go_wp2
        refine ⟨?_, by simp [intOf]; omega⟩
        exact ⟨k + 1, a2, c2, by omega, by simp, rfl, by rw [HE.out]; exact hO2.lower hB.size, hB.trans (hb.mono hB.size)⟩
      · have HE := Lib.hid (HOUT.out hin)
        have HO := Lib.hid hO
        unfold inO at hin
        clear HIN HOUT HP hO
        by_cases h1 : 0 ≤ x
        · by_cases h2 : x < n
          · have h3 : ¬ x < 4096 := fun h => hin ⟨h1, h2, h⟩
            clear hin
            go_wp2
            refine ⟨?_, by simp [intOf]; omega⟩
            exact ⟨k + 1, a', c', by omega, by simp, rfl, by rw [HE.out]; exact HO.out, hB⟩
          · clear hin
            go_wp2
            refine ⟨?_, by simp [intOf]; omega⟩
            exact ⟨k + 1, a', c', by omega, by simp, rfl, by rw [HE.out]; exact HO.out, hB⟩
        · have h1' : x < 0 := by omega
          clear hin
          go_wp2
          refine ⟨?_, by simp [intOf]; omega⟩
          exact ⟨k + 1, a', c', by omega, by simp, rfl, by rw [HE.out]; exact HO.out, hB⟩
    · obtain rfl : k = m := by omega
      go_wp2
      go_ret
      have hh := HNe.out
      subst hh
      exact ⟨a', c', rfl, hO, hB⟩

theorem next_neg (p : Nat → Bool) (N a : Nat) : decide (nextV p N a < 0) = decide (nextV p N a = -1) := by
  unfold nextV
  rcases nx_cases p (N - a) a with ⟨h5, _⟩ | ⟨x, _, _, _, _, h9⟩
  · rw [h5]; rfl
  · rw [h9, Bool.eq_iff_iff]; simp <;> omega

set_option maxRecDepth 100000 in
set_option maxHeartbeats 1000000 in
theorem right_any (a : Option Addr) (n c : Nat) (p : Nat → Bool) (x : Int) (w : World) (hr : RdW w a n (wd p)) (hT : Tab w) (hn : n ≤ 100000) (hc : n ≤ c) :
    Calls Tryd.prog 17 #[.slice a n c, .int .i64 x] w fun e w' => e = .returned (.bool (rightB p n x)) ∧ Below w.heap.size w w' := by
  have HN := Lib.hid (fun W => words_any x W)
  by_cases h0 : x < 0
  · rw [show rightB p n x = false by unfold rightB; simp; omega]
    go_enter Tryd.func17, Tryd.ntmps17
    go_wp2
    go_ret
    exact ⟨rfl, Below.refl _ _⟩
  by_cases h1 : 4096 < x
  · rw [show rightB p n x = false by unfold rightB; simp; omega]
    go_enter Tryd.func17, Tryd.ntmps17
    go_wp2
    go_ret
    exact ⟨rfl, Below.refl _ _⟩
  by_cases h2 : n = nw x
  · have h3 : ((n : Int) == (nw x : Int)) = true := by simp; omega
    have HX := Lib.hid (next_any a n c p x w hr hT hn hc (by omega))
    have e1 : rightB p n x = decide (nextV p (64 * n) x.toNat < 0) := by
      rw [next_neg]
      unfold rightB; rw [Bool.eq_iff_iff]; simp; omega
    rw [e1]
    have b1 : 0 ≤ x := by omega
    have b2 : x ≤ 4096 := by omega
    generalize nextV p (64 * n) x.toNat = V at HX ⊢
    clear hr e1 h2 h0 h1
    go_enter Tryd.func17, Tryd.ntmps17
    go_wp2_with fail
    refine (HN.out _).mono ?_
    rintro e w' ⟨rfl, rfl⟩
    go_wp2_with fail
    refine HX.out.mono ?_
    rintro e w1 ⟨rfl, hb⟩
    go_wp2
    go_ret
    exact ⟨rfl, hb⟩
  · rw [show rightB p n x = false by unfold rightB; simp [h2]]
    have h3 : ((n : Int) == (nw x : Int)) = false := by simp; omega
    have b1 : 0 ≤ x := by omega
    have b2 : x ≤ 4096 := by omega
    clear hr h2 h0 h1
    go_enter Tryd.func17, Tryd.ntmps17
    go_wp2_with fail
    refine (HN.out _).mono ?_
    rintro e w' ⟨rfl, rfl⟩
    go_wp2
    go_ret
    exact ⟨rfl, Below.refl _ _⟩

theorem few_any (a : Option Addr) (n c : Nat) (w : World) (hc : n ≤ c) (hm : c ≤ 9223372036854775807) :
    Calls Tryd.prog 10 #[.slice a n c] w fun e w' => e = .returned (.slice a (min n 8) c) ∧ w = w' := by
  by_cases h : 8 < n
  · rw [show min n 8 = 8 by omega]
    have h1 : (8 : Int) < (n : Int) := by omega
    have h2 : (8 : Int) ≤ (c : Int) := by omega
    have h3 : 8 ≤ c := by omega
    go_enter Tryd.func10, Tryd.ntmps10
    go_wp2
    go_ret
    exact ⟨rfl, rfl⟩
  · rw [show min n 8 = n by omega]
    have h1 : ¬ (8 : Int) < (n : Int) := by omega
    go_enter Tryd.func10, Tryd.ntmps10
    go_wp2
    go_ret
    exact ⟨rfl, rfl⟩
end Go.Proofs.YtccgpjhfgmonpaaDoor
