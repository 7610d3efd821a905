/- Package flags: parts of sets. -/
import Derived.Test.YtccgpjhfgmonpaaDoorFl16
import Derived.Test.YtccgpjhfgmonpaaDoorFl15
import Derived.Test.YtccgpjhfgmonpaaDoorTailIn
namespace Go.Proofs.YtccgpjhfgmonpaaDoor
open Go.RowKit Go.Shelf Go.Sort
set_option linter.unusedVariables false
attribute [local go_sem] Oper.semAt_some

/-- A block of cells abides the turn of a block that is none. -/
theorem cellsAt_abide {X Y : World} {row : Option Nat} {B : Nat} {t : TypeId} {cs : Array Value} (hs : CellsAt X B t cs) (hg : X.grownBy Y row) (hrow : ∀ r, row = some r → ∃ o, X.heap[r]? = some o ∧ o.isCells = false) : CellsAt Y B t cs :=
  hs.grown hg (fun e' => by obtain ⟨o, ho, hc⟩ := hrow B e'.symm; rw [show X.heap[B]? = _ from hs] at ho; cases ho; cases hc)

theorem cell_other_setCell {W : World} {B i : Nat} {x : Value} (b j : Nat) (h : b ≠ B) : (W.setCell ⟨B, i, none⟩ x).cell? ⟨b, j, none⟩ = W.cell? ⟨b, j, none⟩ := by
  have := Below.heap_setCell W ⟨B, i, none⟩ x b h
  unfold World.cell?
  rw [this]
theorem has_of_cell' {w : World} {b i : Nat} {v : Value} (h : w.cell? ⟨b, i, none⟩ = some v) : Has w b := block_lt_of_cell h

/-- The places of some list that are from one on, below another one, each less the first one. -/
def ppP (f : Nat) (t : Int) (l : List Nat) (x : Nat) : Bool := l.any fun y => decide (f ≤ y) && decide ((y : Int) < t) && decide (y = x + f)
theorem ppP_nil (f : Nat) (t : Int) : ppP f t [] = fun _ => false := by funext x; simp [ppP]
theorem ppP_iff {f : Nat} {t : Int} {l : List Nat} {x : Nat} : ppP f t l x = true ↔ x + f ∈ l ∧ ((x + f : Nat) : Int) < t := by
  unfold ppP
  rw [List.any_eq_true]
  constructor
  · rintro ⟨y, h1, h2⟩
    simp at h2
    obtain ⟨⟨h3, h4⟩, h5⟩ := h2
    subst h5
    exact ⟨h1, by simpa using h4⟩
  · rintro ⟨h1, h2⟩
    exact ⟨_, h1, by simp; omega⟩
theorem ppP_skip {f : Nat} {t : Int} {l : List Nat} {y : Nat} (h : ¬ (f ≤ y ∧ (y : Int) < t)) : ppP f t (l ++ [y]) = ppP f t l := by
  funext x
  rw [Bool.eq_iff_iff, ppP_iff, ppP_iff]
  simp only [List.mem_append, List.mem_singleton]
  constructor
  · rintro ⟨h1 | h1, h2⟩
    · exact ⟨h1, h2⟩
    · exact absurd ⟨by omega, by rw [← h1]; exact h2⟩ h
  · rintro ⟨h1, h2⟩; exact ⟨.inl h1, h2⟩
theorem ppP_put {f : Nat} {t : Int} {l : List Nat} {y : Nat} (h1 : f ≤ y) (h2 : (y : Int) < t) : ppP f t (l ++ [y]) = putP (ppP f t l) ((y - f : Nat) : Int) := by
  funext x
  rw [Bool.eq_iff_iff, ppP_iff]
  unfold putP
  rw [Bool.or_eq_true, ppP_iff, decide_eq_true_iff]
  simp only [List.mem_append, List.mem_singleton]
  constructor
  · rintro ⟨h3 | h3, h4⟩
    · exact .inl ⟨h3, h4⟩
    · exact .inr (by omega)
  · rintro (⟨h3, h4⟩ | h3)
    · exact ⟨.inl h3, h4⟩
    · exact ⟨.inr (by omega), by omega⟩
/-- What stands at or behind the end tells nothing. -/
theorem ppP_stop {f : Nat} {t : Int} {p : Nat → Bool} {N : Nat} {ini : List Nat} {y : Nat} (h : ini ++ [y] <+: pl p N) (hy : t ≤ (y : Int)) : ppP f t ini = ppP f t (pl p N) := by
  obtain ⟨tl, ht⟩ := h
  have hi : (pl p N)[ini.length]? = some y := by rw [← ht]; simp
  funext x
  rw [Bool.eq_iff_iff, ppP_iff, ppP_iff]
  constructor
  · rintro ⟨h1, h2⟩
    exact ⟨by rw [← ht]; simp [h1], h2⟩
  · rintro ⟨h1, h2⟩
    refine ⟨?_, h2⟩
    obtain ⟨h3, h4⟩ := mem_pl.1 h1
    have h5 := pl_at h4 h3
    have h6 : cnt p (x + f) < ini.length := by
      obtain ⟨g1, g2, g3⟩ := pl_get hi
      have := cnt_mono p (show x + f + 1 ≤ y by omega)
      rw [cnt_succ, h4] at this
      simp at this
      omega
    rw [← ht, List.append_assoc, List.getElem?_append_left h6] at h5
    exact List.mem_of_getElem? h5
/-- Where the numbers less the first one are no places of the words. -/
theorem pp_out {f : Nat} {t : Int} {l : List Nat} {y N i : Nat} (h1 : f ≤ y) (h2 : (y : Int) < t) (h : ¬ ((y - f : Nat) : Int) < 64 * (N : Int)) (hi : i < N) : wd (ppP f t l) i = wd (ppP f t (l ++ [y])) i := by
  rw [ppP_put h1 h2]
  exact wd_put_out _ (fun h3 => h h3.2) hi

/-- Between two rounds: what the words and the boxes hold. -/
structure PartI (f : Nat) (t : Int) (g N BF BT BO : Nat) (pre : List Plc) (W : World) : Prop where
  words : CellsAt W g 48 (cellsW (wd (ppP f t (pre.map (·.1)))) N).toArray
  cf : W.cell? ⟨BF, 0, none⟩ = some (.int .i64 f)
  ct : W.cell? ⟨BT, 0, none⟩ = some (.int .i64 t)
  co : W.cell? ⟨BO, 0, none⟩ = some (.slice (some ⟨g, 0, none⟩) N N)
theorem partI_own (f : Nat) (t : Int) (g N BF BT BO : Nat) : Own (PartI f t g N BF BT BO) := fun pre A B row hs hg hr =>
  ⟨cellsAt_abide hs.words hg hr, cell_kept hs.cf hg hr, cell_kept hs.ct hg hr, cell_kept hs.co hg hr⟩
/-- Behind the end: likewise. -/
structure PartX (f : Nat) (t : Int) (g N BO : Nat) (c : Code) (pre : List Plc) (W : World) : Prop where
  code : c = .exit 0
  split : ∃ ini y, pre = ini ++ [y] ∧ t ≤ ((y : Plc).1 : Int) ∧ CellsAt W g 48 (cellsW (wd (ppP f t (ini.map (·.1)))) N).toArray
  co : W.cell? ⟨BO, 0, none⟩ = some (.slice (some ⟨g, 0, none⟩) N N)
theorem partX_own (f : Nat) (t : Int) (g N BO : Nat) (c : Code) : Own (PartX f t g N BO c) := fun pre A B row hs hg hr => by
  obtain ⟨h1, ⟨ini, y, h2, h3, h4⟩, h5⟩ := hs
  exact ⟨h1, ⟨ini, y, h2, h3, cellsAt_abide h4 hg hr⟩, cell_kept h5 hg hr⟩

set_option maxRecDepth 100000 in
set_option maxHeartbeats 4000000 in
theorem part_any (a : Option Addr) (n c : Nat) (p : Nat → Bool) (x t : Int) (w : World) (hr : RdW w a n (wd p)) (hT : Tab w) (hn : n ≤ 100000) (hx : -9223372036854775808 ≤ x ∧ x ≤ 9223372036854775807) (ht : -9223372036854775808 ≤ t ∧ t ≤ 9223372036854775807) :
    Calls Tryd.prog 41 #[.slice a n c, .int .i64 x, .int .i64 t] w fun e w' => ∃ g, e = .returned (.slice (some ⟨g, 0, none⟩) (nw (t - x.toNat)) (nw (t - x.toNat))) ∧ w.heap.size ≤ g ∧ CellsAt w' g 48 (cellsW (wd (ppP x.toNat t (pl p (64 * n)))) (nw (t - x.toNat))).toArray ∧ Below w.heap.size w w' := by
  have hm := max_zero x
  obtain ⟨f, hf⟩ : ∃ f, f = x.toNat := ⟨_, rfl⟩
  rw [← hf] at hm ⊢
  have hf1 : (f : Int) ≤ 9223372036854775807 := by omega
  have hf0 : (0 : Int) ≤ (f : Int) := by omega
  clear hf
  by_cases hle : t ≤ (f : Int)
  · have hz : nw (t - f) = 0 := by unfold nw; omega
    have H0 := Lib.hid (fun W => new_any 0 W)
    rw [show nw 0 = 0 by decide] at H0
    rw [hz]
    clear hr hz
    go_enter Tryd.func41, Tryd.ntmps41
    go_wp2_with fail
    refine (H0.out _).mono ?_
    rintro e w2 ⟨g, rfl, hg, hC, hb⟩
    go_wp2
    go_ret
    exact ⟨g, rfl, by simp at hg; omega, hC, (bl2 _ _ _).trans (hb.mono (by simp; omega))⟩
  · have hlt : (f : Int) < t := by omega
    have hN64 := nw_le (t - f)
    have HN := Lib.hid (fun W => new_any (t - f) W)
    obtain ⟨N, hN⟩ : ∃ N, N = nw (t - f) := ⟨_, rfl⟩
    simp only [← hN] at HN hN64
    have HNN := Lib.hid hN
    clear hN hle
    refine (callsIn_wide (n := 6)).1 ?_
    refine callsIn_of_wp_marks Tryd.func41 rfl trivial ?_ rfl
    simp only [Tryd.ntmps41, List.size_toArray, List.length_cons, List.length_nil, Nat.reduceAdd, Nat.reduceSub, Array.replicate_succ, Array.replicate_zero, List.push_toArray, List.append_toArray, List.nil_append, List.cons_append]
    refine wpIn_wide.2 ?_
    go_wp2_with fail
    have hA0 : ((w.alloc (.cells #[.int .i64 f] 3)).alloc (.cells #[.int .i64 t] 3)).heap.size = w.heap.size + 1 + 1 := by simp
    have bF : Boxed ((w.alloc (.cells #[.int .i64 f] 3)).alloc (.cells #[.int .i64 t] 3)) w.heap.size 3 (.int .i64 f) := (Boxed.new w _ _).alloc _
    have bT : Boxed ((w.alloc (.cells #[.int .i64 f] 3)).alloc (.cells #[.int .i64 t] 3)) (w.heap.size + 1) 3 (.int .i64 t) := by
      have := Boxed.new (w.alloc (.cells #[.int .i64 f] 3)) 3 (.int .i64 t)
      rwa [World.size_alloc] at this
    have hBA : Below w.heap.size w ((w.alloc (.cells #[.int .i64 f] 3)).alloc (.cells #[.int .i64 t] 3)) := bl2 _ _ _
    refine (HN.out _).mono ?_
    rintro e w1 ⟨g, rfl, hg, hC0, hb⟩
    generalize (w.alloc (.cells #[.int .i64 f] 3)).alloc (.cells #[.int .i64 t] 3) = A at hA0 bF bT hBA hg hb ⊢
    have cF1 : w1.cell? ⟨w.heap.size, 0, none⟩ = some (.int .i64 f) := (hb.cell (p := ⟨w.heap.size, 0, none⟩) (by simp; omega)).trans bF.cell
    have cT1 : w1.cell? ⟨w.heap.size + 1, 0, none⟩ = some (.int .i64 t) := (hb.cell (p := ⟨w.heap.size + 1, 0, none⟩) (by simp; omega)).trans bT.cell
    have hB1 : Below w.heap.size w w1 := hBA.trans (hb.mono (by omega))
    have hgl : w.heap.size + 2 ≤ g := by omega
    have hgu := hC0.lt
    rw [cells_none] at hC0
    clear hb bF bT hBA hg hA0
    go_wp2_with fail
    refine (places_any _ _ _ _).mono ?_
    rintro e w3 ⟨rfl, rfl⟩
    go_wp2_with fail
    have bO : Boxed ((w1.alloc (.cells #[.slice (some ⟨g, 0, none⟩) N N] 22)).alloc (.cells #[.slice a n c] 22)) w1.heap.size 22 (.slice (some ⟨g, 0, none⟩) N N) := (Boxed.new w1 _ _).alloc _
    have bN : Boxed ((w1.alloc (.cells #[.slice (some ⟨g, 0, none⟩) N N] 22)).alloc (.cells #[.slice a n c] 22)) (w1.heap.size + 1) 22 (.slice a n c) := by
      have := Boxed.new (w1.alloc (.cells #[.slice (some ⟨g, 0, none⟩) N N] 22)) 22 (.slice a n c)
      rwa [World.size_alloc] at this
    have hb2 := bl2 w1 (.cells #[.slice (some ⟨g, 0, none⟩) N N] 22) (.cells #[.slice a n c] 22)
    have hsz : ((w1.alloc (.cells #[.slice (some ⟨g, 0, none⟩) N N] 22)).alloc (.cells #[.slice a n c] 22)).heap.size = w1.heap.size + 1 + 1 := by simp
    have hC1 := hC0.below hb2
    have h01 := block_lt_of_cell cT1
    have cF2 := (hb2.cell (p := ⟨w.heap.size, 0, none⟩) (by simp at h01 ⊢; omega)).trans cF1
    have cT2 := (hb2.cell (p := ⟨w.heap.size + 1, 0, none⟩) h01).trans cT1
    have hB2 := hB1.trans (hb2.mono hB1.size)
    generalize (w1.alloc (.cells #[.slice (some ⟨g, 0, none⟩) N N] 22)).alloc (.cells #[.slice a n c] 22) = V at bO bN hsz hC1 cF2 cT2 hB2 ⊢
    obtain ⟨O, hO⟩ : ∃ O, O = w1.heap.size := ⟨_, rfl⟩
    simp only [← hO] at bO bN hsz h01 hgu ⊢
    have hO2 : w.heap.size + 1 < O := by simpa using h01
    clear hb2 hC0 cF1 cT1 hB1 h01 hO
    have cO2 := bO.cell
    have fO2 := bO.frozen
    have hI0 : PartI f t g N w.heap.size (w.heap.size + 1) O [] V := ⟨by simpa [ppP_nil] using hC1, cF2, cT2, cO2⟩
    have hgO : g ≠ O := by omega
    have hx1 : (0 : Int) < t - f := by omega
    have hfr1 := Lib.hid hf1
    clear hC1 cF2 cT2 cO2 fO2 bO hm hx ht hf1
    refine (wpIn_wide (n := 6)).1 ?_
    refine wpIn_rangeFunc_ownF rfl (by omega) (gf := 65) (lb := #[.pointer (some ⟨O + 1, 0, none⟩)]) rfl trivial (enters_of Tryd.func65 (by kernel_rfl) rfl)
      (places_stops w a n c p hr hT hn _ (O + 1) V (by omega) hB2 bN.cell) belowK_t (belowK_b (by omega)) (Below.refl _ _) (fun _ => rfl)
      (fun pre W => PartI f t g N w.heap.size (w.heap.size + 1) O pre W ∧ Below w.heap.size w W)
      (fun c pre W => PartX f t g N O c pre W ∧ Below w.heap.size w W)
      (OwnFrom.and (Own.from (partI_own f t g N _ _ O) _) (ownFrom_below (Nat.le_refl _) (by omega)))
      (fun c => OwnFrom.and (Own.from (partX_own f t g N O c) _) (ownFrom_below (Nat.le_refl _) (by omega)))
      ⟨hI0, hB2⟩ ?a1
      ?assign ?body ?done ?stop
    case assign =>
      intro l x W K hK
      gi_wp2
      exact hK
    case body =>
      rintro l pre y W ⟨⟨hC, cF, cT, cO⟩, hB⟩ _
      have hy := y.2
      have hy0 : (0 : Int) ≤ (y.1 : Nat) := by omega
      have hy1 : ((y.1 : Nat) : Int) < 6400064 := by omega
      have hlast : (pre ++ [y]).map (·.1) = pre.map (·.1) ++ [y.1] := by simp
      have HL := Lib.hid hlast
      clear hI0 bN hB2 hlast
      obtain ⟨z, hz⟩ : ∃ z, z = y.1 := ⟨_, rfl⟩
      simp only [← hz] at hy hy0 hy1 HL ⊢
      have HZ := Lib.hid hz
      clear hz
      by_cases h1 : t ≤ (z : Int)
      · gi_wp2
        exact ⟨KeepsOthers.refl _, ⟨rfl, ⟨pre, y, rfl, by rw [← HZ.out]; exact h1, hC⟩, cO⟩, hB⟩
      · by_cases h2 : (f : Int) ≤ (z : Int)
        · have h1' : (z : Int) < t := by omega
          have hzf : (z : Int) - (f : Int) = ((z - f : Nat) : Int) := by omega
          have hfz : f ≤ z := by omega
          have hbf : decide (f ≤ z) = true := by simp; omega
          have hbt : decide (t ≤ (z : Int)) = false := by simp; omega
          clear h1
          cases hin : inB N ((z - f : Nat) : Int)
          · have HW := Lib.hid (fun W => within_f (some ⟨g, 0, none⟩) N N ((z - f : Nat) : Int) W hin (by omega))
            have h3 := of_decide_eq_false hin
            have HS := Lib.hid (fun i (hi : i < N) => pp_out (f := f) (t := t) (l := pre.map (·.1)) (y := z) (N := N) (i := i) hfz h1' (fun h => h3 ⟨by omega, h⟩) hi)
            clear hin h3
            gi_wp2
            refine ⟨trivial, ?_⟩
            refine (CallsIn.inRound l (callsIn_wide.2 (HW.out _))).mono ?_
            rintro e w' ⟨rfl, rfl⟩
            gi_wp2
            exact ⟨KeepsOthers.refl _, Below.refl _ _, ⟨⟨by rw [HL.out, ← cellsW_congr HS.out]; exact hC, cF, cT, cO⟩, hB⟩⟩
          · have HW := Lib.hid (fun W => within_t (some ⟨g, 0, none⟩) N N ((z - f : Nat) : Int) W hin (by omega))
            obtain ⟨h3, h4⟩ := of_decide_eq_true hin
            have HE := Lib.hid (ppP_put (f := f) (t := t) (l := pre.map (·.1)) (y := z) hfz h1')
            obtain ⟨v, hv⟩ : ∃ v, v = z - f := ⟨_, rfl⟩
            rw [← hv] at HW h3 h4 hzf HE
            have HB := Lib.hid (fun W => bit_any v (by omega) W)
            have HV := Lib.hid (or_put (ppP f t (pre.map (·.1))) v)
            have HEE := Lib.hid (fun i => wd_put_at (ppP f t (pre.map (·.1))) v i)
            have hv6 : v / 64 < N := by omega
            have h5 : (v : Int) / 64 < (N : Int) := by omega
            have h6 : ((v : Int) / 64).toNat = v / 64 := by omega
            have h7 : (0 : Int) ≤ (v : Int) / 64 := by omega
            have hc2 : W.cell? ⟨g, v / 64, none⟩ = some (.int .u64 (wd (ppP f t (pre.map (·.1))) (v / 64) : Nat)) := by rw [hC.cell]; simpa using cellsW_at (wd (ppP f t (pre.map (·.1)))) N _ hv6
            have hfr := hC.frozen (v / 64)
            obtain ⟨X, hX⟩ : ∃ X, X = wd (ppP f t (pre.map (·.1))) (v / 64) := ⟨_, rfl⟩
            rw [← hX] at hc2 HV
            obtain ⟨Y, hY⟩ : ∃ Y, Y = 2 ^ (v % 64) := ⟨_, rfl⟩
            rw [← hY] at HB HV
            have HC := Lib.hid hC
            have HXX := Lib.hid hX
            clear hin hv hX hY hC
            gi_wp2
            refine ⟨trivial, ?_⟩
            refine (CallsIn.inRound l (callsIn_wide.2 (HW.out _))).mono ?_
            rintro e w' ⟨rfl, rfl⟩
            gi_wp2
            have hw1 : IntKind.i64.wrap ((z : Int) - (f : Int)) = (v : Int) := by rw [hzf, IntKind.wrap_i64]; omega
            have hmx : Tryd.prog.follows .mixedOrders = true := by kernel_rfl
            have kF := has_of_cell' cF
            have kO := has_of_cell' cO
            have kG : Has W g := HC.out.lt
            refine wpIn_round_grown_tail 13 (by kernel_rfl) (fun i o ho c => by rcases i with _ | _ | _ | _ | _ | _ | _ | _ | _ | _ | _ | _ | _ | _ | i <;> simp at ho <;> subst ho <;> simp) (by kernel_rfl) ?_
            simp only [List.take_succ_cons, List.take_zero, List.drop_succ_cons, List.drop_zero]
            repeat (go_big_quiet_step (first
              | (go_at_call 49; exact Calls.regrown_of ((HB.out _).mono fun _ _ ⟨h1, h2⟩ => ⟨h1, h2 ▸ Below.refl _ _⟩))))
            refine wpQuiet_nil ?_
            rintro _ ⟨⟨d3, o3⟩, rfl⟩
            have hbg := below_regrown W d3 o3
            have hC2 := HC.out.below hbg
            have hB2 := hB.trans (hbg.mono hB.size)
            have cF2 := (hbg.cell (p := ⟨w.heap.size, 0, none⟩) kF).trans cF
            have cT2 := (hbg.cell (p := ⟨w.heap.size + 1, 0, none⟩) (block_lt_of_cell cT)).trans cT
            have cO2 := (hbg.cell (p := ⟨O, 0, none⟩) kO).trans cO
            generalize grow (redrawn W d3) o3 = U at hC2 hB2 cF2 cT2 cO2 hbg ⊢
            have hc3 : U.cell? ⟨g, v / 64, none⟩ = some (.int .u64 (X : Nat)) := (hbg.cell (p := ⟨g, v / 64, none⟩) kG).trans hc2
            have hfr3 := hC2.frozen (v / 64)
            clear hc2 hfr cF cT cO kF kO kG
            go_wp2
            have hcc := cell_other_setCell (W := U) (B := g) (i := v / 64) (x := .int .u64 (bits .or .u64 X Y))
            refine ⟨(KeepsOthers.of_grownBy (grownBy_of_below hbg none) (fun _ _ e _ => by cases e)).trans (KeepsOthers.setCell _ _ _), (hbg.mono hB.size).setCell (by simp; omega) _, ⟨?_, (hcc _ _ (by omega)).trans cF2, (hcc _ _ (by omega)).trans cT2, (hcc _ _ (Ne.symm hgO)).trans cO2⟩, hB2.setCell (by simp; omega) _⟩
            have := hC2.set (v / 64) (.int .u64 (bits .or .u64 X Y))
            rw [HV.out, cellsW_set, cellsW_congr (fun i _ => HEE.out i)] at this
            rw [HV.out, HL.out, HE.out]
            exact this
        · have h2' : (z : Int) < (f : Int) := by omega
          have h1' : (z : Int) < t := by omega
          have hbf : decide (f ≤ z) = false := by simp; omega
          have hbt : decide (t ≤ (z : Int)) = false := by simp; omega
          have HS := Lib.hid (ppP_skip (f := f) (t := t) (l := pre.map (·.1)) (y := z) (by omega))
          clear h1 h2
          gi_wp2
          refine ⟨trivial, ?_⟩
          gi_wp2
          exact ⟨KeepsOthers.refl _, Below.refl _ _, ⟨⟨by rw [HL.out, HS.out]; exact hC, cF, cT, cO⟩, hB⟩⟩
    case done =>
      rintro D ys W hD hS ⟨⟨hC, cF, cT, cO⟩, hB⟩ hK
      rw [hS] at hC
      clear hS hI0 bN hB2
      go_wp2
      refine ⟨by simp, .inl ⟨_, _, rfl, run_takeDeferred hK, ?_⟩⟩
      have hNN := HNN.out
      subst hNN
      exact ⟨_, results_tmp rfl _ _ _, g, rfl, by omega, cellsAt_abide hC (grownBy_putObj' _ D (.deferred none)) (fun r e => by cases e; exact ⟨_, hK, rfl⟩), hB.trans (belowK_b (w := w) (Nat.le_refl _) W D _ _ (by omega) hK rfl rfl)⟩
    case stop =>
      rintro D c' pre W hD hSp ⟨⟨rfl, ⟨ini, y, rfl, hty, hC⟩, cO⟩, hB⟩ hK
      have hst : ppP f t (ini.map (·.1)) = ppP f t (pl p (64 * n)) := ppP_stop (y := y.1) (by simpa using hSp) hty
      rw [hst] at hC
      clear hst hSp hI0 hty
      gi_wp2
      go_wp2
      refine ⟨by simp, .inl ⟨_, _, rfl, run_takeDeferred hK, ?_⟩⟩
      have hNN := HNN.out
      subst hNN
      exact ⟨_, results_tmp rfl _ _ _, g, rfl, by omega, cellsAt_abide hC (grownBy_putObj' _ D (.deferred none)) (fun r e => by cases e; exact ⟨_, hK, rfl⟩), hB.trans (belowK_b (w := w) (Nat.le_refl _) W D _ _ (by omega) hK rfl rfl)⟩
end Go.Proofs.YtccgpjhfgmonpaaDoor
