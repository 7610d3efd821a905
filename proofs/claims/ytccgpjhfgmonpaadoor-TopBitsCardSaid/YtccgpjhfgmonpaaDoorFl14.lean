/- Package flags: what two sets come to. -/
import Derived.Test.YtccgpjhfgmonpaaDoorFl4
namespace Go.Proofs.YtccgpjhfgmonpaaDoor
open Go.RowKit Go.Sort
set_option linter.unusedVariables false

/-- A set's places, none behind its words. -/
def cutP (p : Nat → Bool) (n : Nat) (x : Nat) : Bool := decide (x < 64 * n) && p x
theorem cut_in (p : Nat → Bool) {n i : Nat} (h : i < n) : wd (cutP p n) i = wd p i := wd_congr fun j hj => by unfold cutP; simp; omega
theorem cut_out (p : Nat → Bool) {n i : Nat} (h : ¬ i < n) : wd (cutP p n) i = 0 := by
  rw [← wd_none i]
  exact wd_congr fun j hj => by unfold cutP; simp; omega
def orP (p q : Nat → Bool) (x : Nat) : Bool := p x || q x
def andP (p q : Nat → Bool) (x : Nat) : Bool := p x && q x
def lessP (p q : Nat → Bool) (x : Nat) : Bool := p x && !q x
theorem bits_or_wd (p q : Nat → Bool) (i : Nat) : bits .or .u64 ((wd p i : Nat) : Int) ((wd q i : Nat) : Int) = ((wd (orP p q) i : Nat) : Int) := by
  rw [bits_or_u64_nat _ _ (wd_lt p i) (wd_lt q i), wd_or]; rfl
theorem bits_and_wd (p q : Nat → Bool) (i : Nat) : bits .and .u64 ((wd p i : Nat) : Int) ((wd q i : Nat) : Int) = ((wd (andP p q) i : Nat) : Int) := by
  rw [bits_and_u64_nat _ _ (wd_lt p i) (wd_lt q i), wd_and]; rfl
theorem bits_less_wd (p q : Nat → Bool) (i : Nat) : bits .andNot .u64 ((wd p i : Nat) : Int) ((wd q i : Nat) : Int) = ((wd (lessP p q) i : Nat) : Int) := by
  rw [bits_andNot_u64_nat _ _ (wd_lt p i) (wd_lt q i), wd_not, wd_and]; rfl

theorem step_cells (R : Nat → Nat) (k N : Nat) : cellsW (fun i => if i = k then R k else if i < k then R i else 0) N = cellsW (fun i => if i < k + 1 then R i else 0) N :=
  cellsW_congr fun i _ => by
    by_cases h : i = k
    · subst h; simp
    · by_cases h2 : i < k
      · rw [if_neg h, if_pos h2, if_pos (by omega)]
      · rw [if_neg h, if_neg h2, if_neg (by omega)]
theorem set_step {W : World} {g N k : Nat} {R : Nat → Nat} (hC : CellsAt W g 48 (cellsW (fun i => if i < k then R i else 0) N).toArray) :
    CellsAt (W.setCell ⟨g, k, none⟩ (.int .u64 (R k : Nat))) g 48 (cellsW (fun i => if i < k + 1 then R i else 0) N).toArray := by
  have := hC.set k (.int .u64 (R k : Nat))
  rw [cellsW_set, step_cells] at this
  exact this
theorem cells_start (R : Nat → Nat) (N : Nat) : cellsW (fun _ => 0) N = cellsW (fun i => if i < 0 then R i else 0) N := cellsW_congr fun i _ => by simp
theorem cells_end (R : Nat → Nat) (N : Nat) : cellsW (fun i => if i < N then R i else 0) N = cellsW R N := cellsW_congr fun i hi => by rw [if_pos hi]
theorem cell_step {W : World} {g N k : Nat} {R : Nat → Nat} (hC : CellsAt W g 48 (cellsW (fun i => if i < k then R i else 0) N).toArray) (hk : k < N) : W.cell? ⟨g, k, none⟩ = some (.int .u64 0) := by
  rw [hC.cell]
  have := cellsW_at (fun i => if i < k then R i else 0) N k hk
  simpa using this

theorem rword_any (a : Option Addr) (n c : Nat) (p : Nat → Bool) (i : Nat) (w : World) (hr : RdW w a n (wd p)) (hn : n ≤ 100000) :
    Calls Tryd.prog 58 #[.slice a n c, .int .i64 i] w fun e w' => e = .returned (.int .u64 (wd (cutP p n) i : Nat)) ∧ w = w' := by
  by_cases h : i < n
  · rw [cut_in p h]
    obtain ⟨b, rfl, hbl, hcell, _⟩ := hr i h
    have h0 : (0 : Int) ≤ (i : Int) := by omega
    have h1 : (i : Int) < (n : Int) := by omega
    go_enter Tryd.func58, Tryd.ntmps58
    go_wp2
    go_ret
    exact ⟨rfl, rfl⟩
  · rw [cut_out p h]
    have h1 : ¬ (i : Int) < (n : Int) := by omega
    go_enter Tryd.func58, Tryd.ntmps58
    go_wp2
    go_ret
    exact ⟨rfl, rfl⟩

theorem orF_any (p q : Nat → Bool) (i : Nat) (w : World) : Calls Tryd.prog 57 #[.int .u64 (wd p i : Nat), .int .u64 (wd q i : Nat)] w fun e w' => e = .returned (.int .u64 (wd (orP p q) i : Nat)) ∧ w = w' := by
  have H := bits_or_wd p q i
  generalize wd p i = X at H ⊢
  generalize wd q i = Y at H ⊢
  have HH := Lib.hid H
  clear H
  go_enter Tryd.func57, Tryd.ntmps57
  go_wp2
  go_ret
  exact ⟨ret_int HH.out, rfl⟩

theorem andF_any (p q : Nat → Bool) (i : Nat) (w : World) : Calls Tryd.prog 59 #[.int .u64 (wd p i : Nat), .int .u64 (wd q i : Nat)] w fun e w' => e = .returned (.int .u64 (wd (andP p q) i : Nat)) ∧ w = w' := by
  have H := bits_and_wd p q i
  generalize wd p i = X at H ⊢
  generalize wd q i = Y at H ⊢
  have HH := Lib.hid H
  clear H
  go_enter Tryd.func59, Tryd.ntmps59
  go_wp2
  go_ret
  exact ⟨ret_int HH.out, rfl⟩

theorem lessF_any (p q : Nat → Bool) (i : Nat) (w : World) : Calls Tryd.prog 60 #[.int .u64 (wd p i : Nat), .int .u64 (wd q i : Nat)] w fun e w' => e = .returned (.int .u64 (wd (lessP p q) i : Nat)) ∧ w = w' := by
  have H := bits_less_wd p q i
  generalize wd p i = X at H ⊢
  generalize wd q i = Y at H ⊢
  have HH := Lib.hid H
  clear H
  go_enter Tryd.func60, Tryd.ntmps60
  go_wp2
  go_ret
  exact ⟨ret_int HH.out, rfl⟩

set_option maxRecDepth 100000 in
set_option maxHeartbeats 2000000 in
theorem together_any (F : FuncId) (o : (Nat → Bool) → (Nat → Bool) → Nat → Bool) (p q : Nat → Bool) (a b : Option Addr) (n c m d N : Nat) (w : World) (hen : ∀ args w, (callFunc F args).run Tryd.prog w = .ok (.enter F args) w)
    (hof : ∀ i W, Calls Tryd.prog F #[.int .u64 (wd (cutP p n) i : Nat), .int .u64 (wd (cutP q m) i : Nat)] W fun e w' => e = .returned (.int .u64 (wd (o (cutP p n) (cutP q m)) i : Nat)) ∧ W = w')
    (hr : RdW w a n (wd p)) (hs : RdW w b m (wd q)) (hn : n ≤ 100000) (hm : m ≤ 100000) (hN : N ≤ 100000) :
    Calls Tryd.prog 56 #[.slice a n c, .slice b m d, .int .i64 N, .func (.func F) #[] #[]] w fun e w' => ∃ g, e = .returned (.slice (some ⟨g, 0, none⟩) N N) ∧ w.heap.size ≤ g ∧ CellsAt w' g 48 (cellsW (wd (o (cutP p n) (cutP q m))) N).toArray ∧ Below w.heap.size w w' := by
  have hmk := make_words w N hN
  have HO := Lib.hid hof
  clear hof
  have hC0 : CellsAt (w.alloc (.cells (cellsW (fun _ => 0) N).toArray 48)) w.heap.size 48 (cellsW (fun _ => 0) N).toArray := World.alloc_heap_new w _
  have hB0 := bl1 w (.cells (cellsW (fun _ => 0) N).toArray 48)
  rw [cells_start (wd (o (cutP p n) (cutP q m))) N] at hC0 hB0 hmk
  obtain ⟨cur, hcur⟩ : ∃ cur, cur = (cellsW (fun i => if i < 0 then wd (o (cutP p n) (cutP q m)) i else 0) N).toArray := ⟨_, rfl⟩
  rw [← hcur] at hmk hB0
  have HC := Lib.hid hcur
  clear hcur
  go_enter Tryd.func56, Tryd.ntmps56
  go_wp2_with fail
  rw [← HC.out] at hC0
  obtain ⟨g, hg⟩ : ∃ g, g = w.heap.size := ⟨_, rfl⟩
  simp only [← hg] at hC0 ⊢
  generalize w.alloc (.cells cur 48) = V at hC0 hB0 ⊢
  clear hmk
  have HG := Lib.hid hg
  clear hg
  go_loopw [17] (fun y wr => ∃ k : Nat, k ≤ N ∧ y = .int .i64 k ∧ CellsAt wr g 48 (cellsW (fun i => if i < k then wd (o (cutP p n) (cutP q m)) i else 0) N).toArray ∧ Below w.heap.size w wr) (fun y _ => N - (intOf y).toNat)
  case atStart => exact ⟨0, by omega, rfl, by rw [← HC.out]; exact hC0, hB0⟩
  case round =>
    clear hC0 hB0
    obtain ⟨k, hk, rfl, hC, hB⟩ := hrel
    by_cases hlt : k < N
    · have hk0 : (0 : Int) ≤ (k : Int) := by omega
      have hkN : (k : Int) < (N : Int) := by omega
      have hcell := cell_step hC hlt
      have hfr := hC.frozen k
      have HS := Lib.hid (set_step hC)
      have HF := Lib.hid (HO.out k wr)
      have hgl : w.heap.size ≤ g := Nat.le_of_eq HG.out.symm
      by_cases h1 : k < n
      · by_cases h2 : k < m
        · have tok : True := trivial
          obtain ⟨b1, e1, l1, c1, _⟩ := (hr.below hB) k h1
          subst e1
          have k1 : (k : Int) < (n : Int) := by omega
          rw [← cut_in p h1] at c1
          obtain ⟨b2, e2, l2, c2, _⟩ := (hs.below hB) k h2
          subst e2
          have k2 : (k : Int) < (m : Int) := by omega
          rw [← cut_in q h2] at c2
          generalize wd (cutP p n) k = X at c1 HF
          generalize wd (cutP q m) k = Y at c2 HF
          generalize wd (o (cutP p n) (cutP q m)) k = Z at HF HS
          have hen' := hen
          go_wp2_with fail
          refine HF.out.mono ?_
          rintro e w' ⟨rfl, rfl⟩
          go_wp2
          refine ⟨?_, by simp [intOf]; omega⟩
          exact ⟨k + 1, by omega, by simp, HS.out, hB.setCell hgl _⟩
        · have tok : True := trivial
          obtain ⟨b1, e1, l1, c1, _⟩ := (hr.below hB) k h1
          subst e1
          have k1 : (k : Int) < (n : Int) := by omega
          rw [← cut_in p h1] at c1
          have k2 : ¬ (k : Int) < (m : Int) := by omega
          have z2 := cut_out q h2
          rw [z2] at HF
          generalize wd (cutP p n) k = X at c1 HF
          generalize wd (o (cutP p n) (cutP q m)) k = Z at HF HS
          clear z2
          have hen' := hen
          go_wp2_with fail
          refine HF.out.mono ?_
          rintro e w' ⟨rfl, rfl⟩
          go_wp2
          refine ⟨?_, by simp [intOf]; omega⟩
          exact ⟨k + 1, by omega, by simp, HS.out, hB.setCell hgl _⟩
      · by_cases h2 : k < m
        · have tok : True := trivial
          have k1 : ¬ (k : Int) < (n : Int) := by omega
          have z1 := cut_out p h1
          obtain ⟨b2, e2, l2, c2, _⟩ := (hs.below hB) k h2
          subst e2
          have k2 : (k : Int) < (m : Int) := by omega
          rw [← cut_in q h2] at c2
          rw [z1] at HF
          generalize wd (cutP q m) k = Y at c2 HF
          generalize wd (o (cutP p n) (cutP q m)) k = Z at HF HS
          clear z1
          have hen' := hen
          go_wp2_with fail
          refine HF.out.mono ?_
          rintro e w' ⟨rfl, rfl⟩
          go_wp2
          refine ⟨?_, by simp [intOf]; omega⟩
          exact ⟨k + 1, by omega, by simp, HS.out, hB.setCell hgl _⟩
        · have tok : True := trivial
          have k1 : ¬ (k : Int) < (n : Int) := by omega
          have z1 := cut_out p h1
          have k2 : ¬ (k : Int) < (m : Int) := by omega
          have z2 := cut_out q h2
          rw [z1] at HF
          rw [z2] at HF
          generalize wd (o (cutP p n) (cutP q m)) k = Z at HF HS
          clear z1 z2
          have hen' := hen
          go_wp2_with fail
          refine HF.out.mono ?_
          rintro e w' ⟨rfl, rfl⟩
          go_wp2
          refine ⟨?_, by simp [intOf]; omega⟩
          exact ⟨k + 1, by omega, by simp, HS.out, hB.setCell hgl _⟩
    · obtain rfl : k = N := by omega
      rw [cells_end] at hC
      go_wp2
      go_ret
      exact ⟨g, rfl, Nat.le_of_eq HG.out.symm, hC, hB⟩
end Go.Proofs.YtccgpjhfgmonpaaDoor
