/- Package flags: the next place. -/
import Derived.Test.YtccgpjhfgmonpaaDoorFl12
namespace Go.Proofs.YtccgpjhfgmonpaaDoor
open Go.RowKit Go.Shelf Go.Sort
set_option linter.unusedVariables false
attribute [local go_sem] Oper.semAt_some

theorem max_zero (x : Int) : (if x < 0 then (0 : Int) else x) = (x.toNat : Int) := by split <;> omega
theorem rdW_behind {w : World} {b : Addr} {n c k : Nat} {p : Nat → Bool} (hr : RdW w (some b) n (wd p)) (hk : k ≤ n) (hc : n ≤ c) :
    RdW w (if c = k then some b else some (b.add k)) (n - k) (wd fun z => p (64 * k + z)) := by
  intro i hi
  obtain ⟨b', hb, h1, h2, h3⟩ := (hr.cut (p := k) (k := n - k) (by omega)) i hi
  rw [if_neg (by omega)]
  have e : wd p (k + i) = wd (fun z => p (64 * k + z)) i := wd_eq (wd_lt _ _) fun j hj => by rw [wd_bit]; simp only [hj, decide_true, Bool.true_and]; congr 1; omega
  dsimp only at h2 h3
  rw [e] at h2 h3
  exact ⟨b', hb, h1, h2, h3⟩

set_option maxRecDepth 100000 in
set_option maxHeartbeats 2000000 in
theorem next_any (a : Option Addr) (n c : Nat) (p : Nat → Bool) (x : Int) (w : World) (hr : RdW w a n (wd p)) (hT : Tab w) (hn : n ≤ 100000) (hc : n ≤ c) (hx : x ≤ 9223372036854775807) :
    Calls Tryd.prog 29 #[.slice a n c, .int .i64 x] w fun e w' => e = .returned (.int .i64 (nextV p (64 * n) x.toNat)) ∧ Below w.heap.size w w' := by
  obtain ⟨y, hy⟩ : ∃ y, y = x.toNat := ⟨_, rfl⟩
  have hm := max_zero x
  have hyx : (y : Int) ≤ 9223372036854775807 := by omega
  rw [← hy] at hm ⊢
  clear hy
  cases hin : inB n (y : Int)
  · have h' := of_decide_eq_false hin
    have hv := Lib.hid (show nextV p (64 * n) y = -1 from nextV_none fun z h1 h2 => by omega)
    have HW := Lib.hid (fun W => within_f a n c y W hin (by omega))
    clear hin h' hr
    go_enter Tryd.func29, Tryd.ntmps29
    go_wp2_with fail
    refine (HW.out _).mono ?_
    rintro e w2 ⟨rfl, rfl⟩
    go_wp2
    exact bodyPost_ret (v := .int .i64 (-1)) (by simp [results, Tryd.results29, go_sem]) rfl ⟨ret_int hv.out.symm, bl1 _ _⟩
  · obtain ⟨h1, h2⟩ := of_decide_eq_true hin
    have hy : y / 64 < n := by omega
    have HW := Lib.hid (fun W => within_t a n c y W hin hn)
    have h3 : (y : Int) / 64 < (n : Int) := by omega
    have h5 : ((y : Int) / 64).toNat = y / 64 := by omega
    have h6 : (0 : Int) ≤ (y : Int) / 64 := by omega
    have e2 : ((y : Int) % 64).toNat = y % 64 := by omega
    obtain ⟨b, rfl, hbl, hcell, hb64⟩ := hr (y / 64) hy
    have kb := Has.of hbl
    by_cases h0 : wd p (y / 64) / 2 ^ (y % 64) = 0
    · have hnone := next_word_none h0
      have HS := Lib.hid (fun x (hx : (pl (fun z => p (64 * (y / 64 + 1) + z)) (64 * (n - (y / 64 + 1))))[0]? = some x) => next_behind hnone hy hx)
      have HN := Lib.hid (fun (hx : pl (fun z => p (64 * (y / 64 + 1) + z)) (64 * (n - (y / 64 + 1))) = []) => next_behind_none (n := n) hnone hx)
      have hrb := Lib.hid (rdW_behind (k := y / 64 + 1) hr (by omega) hc)
      obtain ⟨V, hV⟩ : ∃ V, V = wd p (y / 64) := ⟨_, rfl⟩
      rw [← hV] at hcell h0
      have h0' : ((V : Int) / 2 ^ (y % 64) != 0) = false := by
        have e : ((V : Int) / 2 ^ (y % 64)) = ((V / 2 ^ (y % 64) : Nat) : Int) := by simp
        rw [e, h0]; rfl
      obtain ⟨k, hk⟩ : ∃ k, k = y / 64 + 1 := ⟨_, rfl⟩
      have hk' : (y : Int) / 64 + 1 = (k : Int) := by omega
      have hkn : k ≤ n := by omega
      simp only [← hk] at HS HN hrb
      have HK := Lib.hid hk
      have h7 : (y : Int) / 64 ≤ 100000 := by omega
      have h8 : (0 : Int) ≤ (k : Int) := by omega
      have h9 : (k : Int) ≤ (n : Int) := by omega
      have h10 : (n : Int) ≤ (c : Int) := by omega
      clear hnone hV h0 hb64 hin hk h1 h2 h3
      have h3 : (y : Int) / 64 < (n : Int) := by omega
      refine (callsIn_wide (n := 6)).1 ?_
      refine callsIn_of_wp_marks Tryd.func29 rfl trivial ?_ rfl
      simp only [Tryd.ntmps29, List.size_toArray, List.length_cons, List.length_nil, Nat.reduceAdd, Nat.reduceSub, Array.replicate_succ, Array.replicate_zero, List.push_toArray, List.append_toArray, List.nil_append, List.cons_append]
      refine wpIn_wide.2 ?_
      go_wp2_with fail
      refine (HW.out _).mono ?_
      rintro e w2 ⟨rfl, rfl⟩
      go_wp2_with fail
      · have hrA : RdW w (some (b)) (n - k) (wd fun z => p (64 * k + z)) := by have := hrb.out; rwa [if_pos (by assumption)] at this
        clear hrb
        refine (places_any _ _ _ _).mono ?_
        rintro e w3 ⟨rfl, rfl⟩
        go_wp2_with fail
        have bR : Boxed (((w.alloc (.cells #[.int .i64 0] 3)).alloc (.cells #[.int .i64 k] 3)).alloc (.cells #[.slice (some (b)) (n - k) 0] 22)) w.heap.size 3 (.int .i64 0) := ((Boxed.new w _ _).alloc _).alloc _
        have bK : Boxed (((w.alloc (.cells #[.int .i64 0] 3)).alloc (.cells #[.int .i64 k] 3)).alloc (.cells #[.slice (some (b)) (n - k) 0] 22)) (w.heap.size + 1) 3 (.int .i64 k) := by
          have := Boxed.new (w.alloc (.cells #[.int .i64 0] 3)) 3 (.int .i64 k)
          rw [World.size_alloc] at this
          exact this.alloc _
        have bN : Boxed (((w.alloc (.cells #[.int .i64 0] 3)).alloc (.cells #[.int .i64 k] 3)).alloc (.cells #[.slice (some (b)) (n - k) 0] 22)) (w.heap.size + 1 + 1) 22 (.slice (some (b)) (n - k) 0) := by
          have := Boxed.new ((w.alloc (.cells #[.int .i64 0] 3)).alloc (.cells #[.int .i64 k] 3)) 22 (.slice (some (b)) (n - k) 0)
          rwa [World.size_alloc, World.size_alloc] at this
        have hB0 : Below w.heap.size w (((w.alloc (.cells #[.int .i64 0] 3)).alloc (.cells #[.int .i64 k] 3)).alloc (.cells #[.slice (some (b)) (n - k) 0] 22)) := bl3 _ _ _ _
        have hsz : (((w.alloc (.cells #[.int .i64 0] 3)).alloc (.cells #[.int .i64 k] 3)).alloc (.cells #[.slice (some (b)) (n - k) 0] 22)).heap.size = w.heap.size + 1 + 1 + 1 := by simp
        generalize ((w.alloc (.cells #[.int .i64 0] 3)).alloc (.cells #[.int .i64 k] 3)).alloc (.cells #[.slice (some (b)) (n - k) 0] 22) = U at bR bK bN hB0 hsz ⊢
        have cR := bR.cell
        have fR := bR.frozen
        have cK := bK.cell
        have hkl : k ≤ 100000 := by omega
        refine (wpIn_wide (n := 6)).1 ?_
        refine wpIn_rangeFunc_ownF rfl (by omega) (gf := 65) (lb := #[.pointer (some ⟨w.heap.size + 1 + 1, 0, none⟩)]) rfl trivial (enters_of Tryd.func65 (by kernel_rfl) rfl)
          (places_stops w _ _ _ _ hrA hT (by omega) _ (w.heap.size + 1 + 1) U (by omega) hB0 bN.cell) belowK_t (belowK_b (by omega)) (Below.refl _ _) (fun _ => rfl)
          (fun pre W => (pre = [] ∧ W.cell? ⟨w.heap.size, 0, none⟩ = some (.int .i64 0) ∧ W.frozen? ⟨w.heap.size, 0, none⟩ = false ∧ W.cell? ⟨w.heap.size + 1, 0, none⟩ = some (.int .i64 k)) ∧ Below w.heap.size w W)
          (fun c pre W => (c = .ret ∧ ∃ x : Plc, pre = [x] ∧ W.cell? ⟨w.heap.size, 0, none⟩ = some (.int .i64 ((k : Int) * 64 + (x.1 : Nat)))) ∧ Below w.heap.size w W)
          (OwnFrom.and (Own.from (fun s A B row hs hg hr => ⟨hs.1, cell_kept hs.2.1 hg hr, (frozen_kept hs.2.1 hg hr).trans hs.2.2.1, cell_kept hs.2.2.2 hg hr⟩) _) (ownFrom_below (Nat.le_refl _) (by omega)))
          (fun c => OwnFrom.and (Own.from (fun s A B row hs hg hr => by obtain ⟨hc, x, e1, e4⟩ := hs; exact ⟨hc, x, e1, cell_kept e4 hg hr⟩) _) (ownFrom_below (Nat.le_refl _) (by omega)))
          ⟨⟨rfl, cR, fR, cK⟩, hB0⟩ ?a1
          ?assign ?body ?done ?stop
        case assign =>
          intro l x W K hK
          gi_wp2
          exact hK
        case body =>
          rintro l pre x W ⟨⟨rfl, hcR, hfR, hcK⟩, hB⟩ hlt
          exfalso
          simp at hlt
          omega
        case done =>
          rintro D ys W hD hS ⟨⟨rfl, hcR, hfR, hcK⟩, hB⟩ hK
          have hv := Lib.hid (HN.out (by simpa using hS.symm))
          clear hS
          go_wp2
          have hK' := (KeepsOthers.setCell W ⟨w.heap.size, 0, none⟩ (.int .i64 (-1))).same D _ hK rfl
          refine ⟨by simp, .inl ⟨_, _, rfl, run_takeDeferred hK', ?_⟩⟩
          have hc5 := cell_kept (World.cell?_setCell_same' W ⟨w.heap.size, 0, none⟩ (.int .i64 (-1)) (by rw [hcR]; rfl)) (grownBy_putObj' _ D (.deferred none)) (fun r e => by cases e; exact ⟨_, hK', rfl⟩)
          refine ⟨.int .i64 (-1), ?_, ret_int hv.out.symm, (hB.setCell (p := ⟨w.heap.size, 0, none⟩) (Nat.le_refl _) _).trans (belowK_b (w := w) (Nat.le_refl _) _ D _ _ (by omega) hK' rfl rfl)⟩
          simp [results, Tryd.results29, go_sem, hc5]
        case stop =>
          rintro D c' pre W hD hSp ⟨⟨rfl, x, rfl, hcR⟩, hB⟩ hK
          have hx0 : (pl (fun z => p (64 * k + z)) (64 * (n - k)))[0]? = some x.1 := by
            obtain ⟨t, ht⟩ := hSp
            rw [← ht]; rfl
          have hv := Lib.hid (HS.out x.1 hx0)
          clear hSp hx0
          gi_wp2
          refine ⟨by simp, .inl ⟨_, _, rfl, run_takeDeferred hK, ?_⟩⟩
          have hc5 := cell_kept hcR (grownBy_putObj' _ D (.deferred none)) (fun r e => by cases e; exact ⟨_, hK, rfl⟩)
          refine ⟨.int .i64 ((k : Int) * 64 + (x.1 : Nat)), ?_, ret_int (by rw [hv.out]; omega), hB.trans (belowK_b (w := w) (Nat.le_refl _) W D _ _ (by omega) hK rfl rfl)⟩
          simp [results, Tryd.results29, go_sem, hc5]
      · have hrA : RdW w (some (b.add k)) (n - k) (wd fun z => p (64 * k + z)) := by have := hrb.out; rwa [if_neg (by assumption)] at this
        clear hrb
        refine (places_any _ _ _ _).mono ?_
        rintro e w3 ⟨rfl, rfl⟩
        go_wp2_with fail
        have bR : Boxed (((w.alloc (.cells #[.int .i64 0] 3)).alloc (.cells #[.int .i64 k] 3)).alloc (.cells #[.slice (some (b.add k)) (n - k) (c - k)] 22)) w.heap.size 3 (.int .i64 0) := ((Boxed.new w _ _).alloc _).alloc _
        have bK : Boxed (((w.alloc (.cells #[.int .i64 0] 3)).alloc (.cells #[.int .i64 k] 3)).alloc (.cells #[.slice (some (b.add k)) (n - k) (c - k)] 22)) (w.heap.size + 1) 3 (.int .i64 k) := by
          have := Boxed.new (w.alloc (.cells #[.int .i64 0] 3)) 3 (.int .i64 k)
          rw [World.size_alloc] at this
          exact this.alloc _
        have bN : Boxed (((w.alloc (.cells #[.int .i64 0] 3)).alloc (.cells #[.int .i64 k] 3)).alloc (.cells #[.slice (some (b.add k)) (n - k) (c - k)] 22)) (w.heap.size + 1 + 1) 22 (.slice (some (b.add k)) (n - k) (c - k)) := by
          have := Boxed.new ((w.alloc (.cells #[.int .i64 0] 3)).alloc (.cells #[.int .i64 k] 3)) 22 (.slice (some (b.add k)) (n - k) (c - k))
          rwa [World.size_alloc, World.size_alloc] at this
        have hB0 : Below w.heap.size w (((w.alloc (.cells #[.int .i64 0] 3)).alloc (.cells #[.int .i64 k] 3)).alloc (.cells #[.slice (some (b.add k)) (n - k) (c - k)] 22)) := bl3 _ _ _ _
        have hsz : (((w.alloc (.cells #[.int .i64 0] 3)).alloc (.cells #[.int .i64 k] 3)).alloc (.cells #[.slice (some (b.add k)) (n - k) (c - k)] 22)).heap.size = w.heap.size + 1 + 1 + 1 := by simp
        generalize ((w.alloc (.cells #[.int .i64 0] 3)).alloc (.cells #[.int .i64 k] 3)).alloc (.cells #[.slice (some (b.add k)) (n - k) (c - k)] 22) = U at bR bK bN hB0 hsz ⊢
        have cR := bR.cell
        have fR := bR.frozen
        have cK := bK.cell
        have hkl : k ≤ 100000 := by omega
        refine (wpIn_wide (n := 6)).1 ?_
        refine wpIn_rangeFunc_ownF rfl (by omega) (gf := 65) (lb := #[.pointer (some ⟨w.heap.size + 1 + 1, 0, none⟩)]) rfl trivial (enters_of Tryd.func65 (by kernel_rfl) rfl)
          (places_stops w _ _ _ _ hrA hT (by omega) _ (w.heap.size + 1 + 1) U (by omega) hB0 bN.cell) belowK_t (belowK_b (by omega)) (Below.refl _ _) (fun _ => rfl)
          (fun pre W => (pre = [] ∧ W.cell? ⟨w.heap.size, 0, none⟩ = some (.int .i64 0) ∧ W.frozen? ⟨w.heap.size, 0, none⟩ = false ∧ W.cell? ⟨w.heap.size + 1, 0, none⟩ = some (.int .i64 k)) ∧ Below w.heap.size w W)
          (fun c pre W => (c = .ret ∧ ∃ x : Plc, pre = [x] ∧ W.cell? ⟨w.heap.size, 0, none⟩ = some (.int .i64 ((k : Int) * 64 + (x.1 : Nat)))) ∧ Below w.heap.size w W)
          (OwnFrom.and (Own.from (fun s A B row hs hg hr => ⟨hs.1, cell_kept hs.2.1 hg hr, (frozen_kept hs.2.1 hg hr).trans hs.2.2.1, cell_kept hs.2.2.2 hg hr⟩) _) (ownFrom_below (Nat.le_refl _) (by omega)))
          (fun c => OwnFrom.and (Own.from (fun s A B row hs hg hr => by obtain ⟨hc, x, e1, e4⟩ := hs; exact ⟨hc, x, e1, cell_kept e4 hg hr⟩) _) (ownFrom_below (Nat.le_refl _) (by omega)))
          ⟨⟨rfl, cR, fR, cK⟩, hB0⟩ ?a2
          ?assign ?body ?done ?stop
        case assign =>
          intro l x W K hK
          gi_wp2
          exact hK
        case body =>
          rintro l pre x W ⟨⟨rfl, hcR, hfR, hcK⟩, hB⟩ _
          have hx := x.2
          have hx0 : (0 : Int) ≤ (x.1 : Nat) := by omega
          have hx1 : ((x.1 : Nat) : Int) < 6400064 := by omega
          have hk1 : (k : Int) ≤ 100000 := by omega
          gi_wp2
          exact ⟨KeepsOthers.setCell _ _ _, ⟨rfl, x, rfl, World.cell?_setCell_same' _ _ _ (by rw [hcR]; rfl)⟩, hB.setCell (p := ⟨w.heap.size, 0, none⟩) (Nat.le_refl _) _⟩
        case done =>
          rintro D ys W hD hS ⟨⟨rfl, hcR, hfR, hcK⟩, hB⟩ hK
          have hv := Lib.hid (HN.out (by simpa using hS.symm))
          clear hS
          go_wp2
          have hK' := (KeepsOthers.setCell W ⟨w.heap.size, 0, none⟩ (.int .i64 (-1))).same D _ hK rfl
          refine ⟨by simp, .inl ⟨_, _, rfl, run_takeDeferred hK', ?_⟩⟩
          have hc5 := cell_kept (World.cell?_setCell_same' W ⟨w.heap.size, 0, none⟩ (.int .i64 (-1)) (by rw [hcR]; rfl)) (grownBy_putObj' _ D (.deferred none)) (fun r e => by cases e; exact ⟨_, hK', rfl⟩)
          refine ⟨.int .i64 (-1), ?_, ret_int hv.out.symm, (hB.setCell (p := ⟨w.heap.size, 0, none⟩) (Nat.le_refl _) _).trans (belowK_b (w := w) (Nat.le_refl _) _ D _ _ (by omega) hK' rfl rfl)⟩
          simp [results, Tryd.results29, go_sem, hc5]
        case stop =>
          rintro D c' pre W hD hSp ⟨⟨rfl, x, rfl, hcR⟩, hB⟩ hK
          have hx0 : (pl (fun z => p (64 * k + z)) (64 * (n - k)))[0]? = some x.1 := by
            obtain ⟨t, ht⟩ := hSp
            rw [← ht]; rfl
          have hv := Lib.hid (HS.out x.1 hx0)
          clear hSp hx0
          gi_wp2
          refine ⟨by simp, .inl ⟨_, _, rfl, run_takeDeferred hK, ?_⟩⟩
          have hc5 := cell_kept hcR (grownBy_putObj' _ D (.deferred none)) (fun r e => by cases e; exact ⟨_, hK, rfl⟩)
          refine ⟨.int .i64 ((k : Int) * 64 + (x.1 : Nat)), ?_, ret_int (by rw [hv.out]; omega), hB.trans (belowK_b (w := w) (Nat.le_refl _) W D _ _ (by omega) hK rfl rfl)⟩
          simp [results, Tryd.results29, go_sem, hc5]
    · have hnw := next_word (N := 64 * n) (p := p) (y := y) (by omega) h0
      obtain ⟨V, hV⟩ : ∃ V, V = wd p (y / 64) := ⟨_, rfl⟩
      rw [← hV] at hcell h0 hnw hb64
      have ed : ((V : Int) / 2 ^ (y % 64)) = ((V / 2 ^ (y % 64) : Nat) : Int) := by simp
      have hl : V / 2 ^ (y % 64) < 18446744073709551616 := Nat.lt_of_le_of_lt (Nat.div_le_self _ _) hb64
      have TZ := Lib.hid (fun W (h : Below w.heap.size w W) => tz64_any (V / 2 ^ (y % 64)) hl h0 W (hT.below h))
      have h0' : ((V : Int) / 2 ^ (y % 64) != 0) = true := by rw [ed]; simp; omega
      obtain ⟨z, hz⟩ : ∃ z, z = Lib.ctz 64 (V / 2 ^ (y % 64)) := ⟨_, rfl⟩
      simp only [← hz] at TZ hnw
      have hzl := hnw.1
      have hv := Lib.hid hnw.2
      rw [← ed] at TZ
      clear hnw hz ed h0 hV hr hin hl hb64
      go_enter Tryd.func29, Tryd.ntmps29
      go_wp2_with fail
      refine (HW.out _).mono ?_
      rintro e w2 ⟨rfl, rfl⟩
      go_wp2_with fail
      refine (TZ.out _ (bl1 _ _)).mono ?_
      rintro e w2 ⟨rfl, rfl⟩
      go_wp2
      exact bodyPost_ret (v := .int .i64 ((y : Int) + (z : Int))) (by simp [results, Tryd.results29, go_sem]) rfl ⟨ret_int (by rw [hv.out]; omega), bl1 _ _⟩
end Go.Proofs.YtccgpjhfgmonpaaDoor
