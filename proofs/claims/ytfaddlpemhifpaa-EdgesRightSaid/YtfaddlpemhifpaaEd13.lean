/- Package edges: how many edges go from each vertex, and how many come, by contracts. -/
import Derived.Laws.MakeOwn
import Derived.Test.YtfaddlpemhifpaaEd12
namespace Go.Proofs.Ytfaddlpemhifpaa
open Go.RowKit Go.Sort
set_option linter.unusedVariables false
set_option linter.unusedSimpArgs false
def fromE (e : Ed) : Int := e.1
def intoE (e : Ed) : Int := e.2.1
def nums (xs : List Int) : List Value := xs.map (Value.int .i64)
theorem nums_len (xs : List Int) : (nums xs).length = xs.length := by simp [nums]
def hit (f : Ed → Int) (l : List Ed) (v : Nat) : Nat := (l.filter fun e => f e == (v : Int)).length
/-- How many edges have each vertex as an end. -/
def cnts (f : Ed → Int) (n : Int) (l : List Ed) : List Int := (List.range n.toNat).map fun v => (hit f l v : Int)
theorem cnts_len (f : Ed → Int) (n : Int) (l : List Ed) : (cnts f n l).length = n.toNat := by simp [cnts]
theorem hit_le (f : Ed → Int) (l : List Ed) (v : Nat) : hit f l v ≤ l.length := List.length_filter_le _ _
theorem cnts_nil (f : Ed → Int) (n : Int) : nums (cnts f n []) = List.replicate n.toNat (.int .i64 0) := by
  refine List.ext_getElem (by simp [nums, cnts]) fun i h1 h2 => ?_
  simp [nums, cnts, hit]
theorem hit_snoc (f : Ed → Int) (l : List Ed) (e : Ed) (v : Nat) : hit f (l ++ [e]) v = hit f l v + (if f e = (v : Int) then 1 else 0) := by
  unfold hit
  rw [List.filter_append, List.length_append]
  by_cases h : f e = (v : Int) <;> simp [h]
theorem cnts_out (f : Ed → Int) (n : Int) (l : List Ed) (e : Ed) (h : ¬ (0 ≤ f e ∧ f e < n)) : cnts f n (l ++ [e]) = cnts f n l := by
  refine List.ext_getElem (by simp [cnts]) fun i h1 h2 => ?_
  have hi : i < n.toNat := by simpa [cnts] using h2
  simp only [cnts, List.getElem_map, List.getElem_range, hit_snoc]
  rw [if_neg (by omega)]
  simp
theorem cnts_in (f : Ed → Int) (n : Int) (l : List Ed) (e : Ed) (h : 0 ≤ f e ∧ f e < n) (x : Int) (hx : (cnts f n l)[(f e).toNat]? = some x) : nums (cnts f n (l ++ [e])) = (nums (cnts f n l)).set (f e).toNat (.int .i64 (x + 1)) := by
  refine List.ext_getElem? fun i => ?_
  rw [List.getElem?_set]
  have hl : (f e).toNat < n.toNat := by omega
  by_cases hi : (f e).toNat = i
  · subst hi
    rw [if_pos rfl, if_pos (by rw [nums_len, cnts_len]; exact hl)]
    have h1 : (cnts f n l)[(f e).toNat]? = some (hit f l (f e).toNat : Int) := by simp [cnts, hl]
    rw [h1] at hx
    have hx2 : (hit f l (f e).toNat : Int) = x := Option.some.inj hx
    have h3 : (cnts f n (l ++ [e]))[(f e).toNat]? = some (hit f (l ++ [e]) (f e).toNat : Int) := by simp [cnts, hl]
    have h4 : f e = ((f e).toNat : Int) := by omega
    rw [hit_snoc, if_pos h4] at h3
    simp only [nums, List.getElem?_map, h3, Option.map_some]
    rw [← hx2]; simp
  · rw [if_neg hi]
    by_cases h2 : i < n.toNat
    · have h3 : (cnts f n (l ++ [e]))[i]? = some (hit f (l ++ [e]) i : Int) := by simp [cnts, h2]
      have h4 : (cnts f n l)[i]? = some (hit f l i : Int) := by simp [cnts, h2]
      rw [hit_snoc, if_neg (by omega)] at h3
      simp only [nums, List.getElem?_map, h3, h4]
      rfl
    · rw [List.getElem?_eq_none (by rw [nums_len, cnts_len]; omega), List.getElem?_eq_none (by rw [nums_len, cnts_len]; omega)]
theorem cnts_at (f : Ed → Int) (n : Int) (l : List Ed) (v : Int) (h : 0 ≤ v ∧ v < n) : (cnts f n l)[v.toNat]? = some (hit f l v.toNat : Int) := by
  simp [cnts, show v.toNat < n.toNat by omega]
theorem infoI : (Try.prog.info? 3).map (fun i => (i.zero, i.size, i.bytes)) = some (some (.int .i64 0), 1, 8) := by kernel_rfl
/-- A slice of numbers that may be read. -/
def RdN (w : World) (a : Option Addr) (xs : List Int) : Prop := ∀ i, i < xs.length → ∃ b, a = some b ∧ b.block < w.heap.size ∧ w.cell? (b.add i) = some (.int .i64 (xs.getD i 0))
theorem RdN.below {w w' : World} {a : Option Addr} {xs : List Int} (h : RdN w a xs) (hb : Below w.heap.size w w') : RdN w' a xs := by
  intro i hi
  obtain ⟨b, e, hl, h0⟩ := h i hi
  exact ⟨b, e, Nat.lt_of_lt_of_le hl hb.size, (hb.cell (by rw [blk_add]; exact hl)).trans h0⟩
theorem row_rdN {w : World} {base n : Nat} {v : Value} {xs : List Int} (h : w.ownsRow base 3 1 v n (nums xs)) : n = xs.length ∧ ∃ a c, v = .slice a n c ∧ RdN w a xs := by
  have hn : n = xs.length := by have := h.1; rw [nums_len] at this; omega
  refine ⟨hn, ?_⟩
  rcases h.2 with ⟨rfl, h0⟩ | ⟨g, cap, cur, rfl, hb, hg, hcap, _⟩
  · exact ⟨none, 0, by rw [h0], fun i hi => by omega⟩
  · refine ⟨some ⟨g, 0, none⟩, cap, rfl, fun i hi => ⟨_, rfl, (Array.getElem?_eq_some_iff.1 hg).1, ?_⟩⟩
    rw [addr0, h.cellAt i (by omega)]
    simp [nums, List.getD_eq_getElem?_getD, hi]


theorem outs1_any (e : Ed) (w : World) : Calls Try.prog 60 #[EV e] w fun x w' => x = .returned (.int .i64 (fromE e)) ∧ Below w.heap.size w w' := by
  go_enter Try.func60, Try.ntmps60
  go_wp2
  go_ret
  exact ⟨rfl, (by repeat (first | with_reducible refine blg ?_ _ _ | with_reducible refine bla ?_ _ | with_reducible exact Below.refl _ _))⟩


theorem ins1_any (e : Ed) (w : World) : Calls Try.prog 62 #[EV e] w fun x w' => x = .returned (.int .i64 (intoE e)) ∧ Below w.heap.size w w' := by
  go_enter Try.func62, Try.ntmps62
  go_wp2
  go_ret
  exact ⟨rfl, (by repeat (first | with_reducible refine blg ?_ _ _ | with_reducible refine bla ?_ _ | with_reducible exact Below.refl _ _))⟩


set_option maxRecDepth 100000 in
set_option maxHeartbeats 2000000 in
theorem ends1_bad (n : Int) (a : Option Addr) (l : List Ed) (c : Nat) (w : World) (hn : ¬ (0 ≤ n ∧ n ≤ 4096)) :
    Calls Try.prog 59 #[GV n a l.length c, .func (.func 60) #[] #[]] w fun e w' => e = .returned (.slice none 0 0) ∧ Below w.heap.size w w' := by
  by_cases h0 : n < 0
  · go_enter Try.func59, Try.ntmps59
    go_wp2
    go_ret
    exact ⟨rfl, (by repeat (first | with_reducible refine blg ?_ _ _ | with_reducible refine bla ?_ _ | with_reducible exact Below.refl _ _))⟩
  · have h1 : 4096 < n := by omega
    go_enter Try.func59, Try.ntmps59
    go_wp2
    go_ret
    exact ⟨rfl, (by repeat (first | with_reducible refine blg ?_ _ _ | with_reducible refine bla ?_ _ | with_reducible exact Below.refl _ _))⟩

set_option maxRecDepth 100000 in
set_option maxHeartbeats 2000000 in
theorem ends1_ok (n : Int) (a : Option Addr) (l : List Ed) (c : Nat) (w : World) (hn : 0 ≤ n ∧ n ≤ 4096) (hr : RdE w a l) (hl : l.length ≤ 500) :
    Calls Try.prog 59 #[GV n a l.length c, .func (.func 60) #[] #[]] w fun e w' => ∃ v, e = .returned v ∧ w'.ownsRow w.heap.size 3 1 v (cnts fromE n l).length (nums (cnts fromE n l)) ∧ Below w.heap.size w w' := by
  obtain ⟨k, hk⟩ : ∃ k, k = l.length := ⟨_, rfl⟩
  rw [← hk] at hl ⊢
  have HK := Lib.hid hk
  clear hk
  obtain ⟨N, hN⟩ : ∃ N : Nat, n = (N : Int) := ⟨n.toNat, by omega⟩
  subst hN
  obtain ⟨hn0, hn1⟩ := hn
  obtain ⟨i0, hi0, hz0, hz1, hz2⟩ := info_partsE infoI
  generalize hR : cnts fromE (N : Int) l = R
  have HR := Lib.hid hR
  clear hR
  obtain ⟨V, hV⟩ : ∃ V, V = w.alloc (.cells #[.int .i64 (N : Int), .slice a k c] 24) := ⟨_, rfl⟩
  have hbV : Below w.heap.size w V := by rw [hV]; exact bl1 _ _
  have hCB : CellsAt V w.heap.size 24 #[.int .i64 (N : Int), .slice a k c] := by rw [hV]; exact World.alloc_heap_new _ _
  obtain ⟨V2, hmk, hown, hgn⟩ := run_makeSlice_full (P := Try.prog) (w := V) V.heap.size 38 3 i0 (.int .i64 0) 1 Try.underlying38 hi0 hz0 hz1 .i64 .i64 N (by omega) (by rw [hz2]; omega) (by unfold maxLen; omega) (Nat.le_refl _)
  have hCB2 := hCB.grown hgn (by simp)
  have hb2 : Below w.heap.size w V2 := hbV.trans ((below_of_grownNone hgn).mono hbV.size)
  have b0 : V2.cell? ⟨w.heap.size, 0, none⟩ = some (.int .i64 (N : Int)) := hCB2.cell 0
  have b1 : V2.cell? ⟨w.heap.size, 1, none⟩ = some (.slice a k c) := hCB2.cell 1
  have hsz : V.heap.size = w.heap.size + 1 := by rw [hV]; simp
  rw [hsz] at hown
  rw [hV] at hmk
  go_enter Try.func59, Try.ntmps59
  go_wp2_with fail
  clear hmk
  generalize w.heap.size + 1 = g at hown hsz ⊢
  rw [Nat.mul_one, show (Value.int .i64 0).cells = #[.int .i64 0] from rfl, toList_madeCells_one, show N = ((N : Int)).toNat by simp, ← cnts_nil fromE (N : Int)] at hown
  simp only [Int.toNat_natCast] at hown
  go_loopw [23] (fun y wr => ∃ j : Nat, y = .int .i64 (j : Int) ∧ j ≤ k ∧ CellsAt wr w.heap.size 24 #[.int .i64 (N : Int), .slice a k c] ∧ wr.ownsRow g 3 1 (.slice (some ⟨g, 0, none⟩) N N) N (nums (cnts fromE (N : Int) (l.take j))) ∧ Below w.heap.size w wr) (fun y _ => k - (intOf y).toNat)
  case atStart => exact ⟨0, rfl, by omega, hCB2, hown, hb2⟩
  case round =>
    have hwg : w.heap.size < g := by have := hCB.lt; omega
    clear hCB2 hown hb2 hCB hgn b0 b1
    obtain ⟨j, rfl, hj, hCB, hown, hB⟩ := hrel
    have hgl := (hown.lt g rfl).2
    have b0 : wr.cell? ⟨w.heap.size, 0, none⟩ = some (.int .i64 (N : Int)) := hCB.cell 0
    have kB := Has.of hCB.lt
    have kg := Has.of hgl
    by_cases hlt : (j : Int) < (k : Int)
    · obtain ⟨b, rfl, hbl, c0, c1, c2⟩ := (hr.below hB) j (by rw [← HK.out]; omega)
      have j0 : (0 : Int) ≤ (j : Int) := by omega
      have kb := Has.of hbl
      have HT := Lib.hid (take_el (l := l) (j := j) (by rw [← HK.out]; omega))
      obtain ⟨ej, hej⟩ : ∃ ej, ej = el l j := ⟨_, rfl⟩
      rw [← hej] at c0 c1 c2 HT
      clear hej
      have HQ1 := Lib.hid (fun W => outs1_any ej W)
      have HQ2 := Lib.hid (fun W => vertex_any (N : Int) ((fromE) ej) W)
      by_cases hv : 0 ≤ (fromE) ej ∧ (fromE) ej < (N : Int)
      · rw [decide_eq_true hv] at HQ2
        obtain ⟨q, hq⟩ : ∃ q : Nat, (fromE) ej = (q : Int) := ⟨((fromE) ej).toNat, by omega⟩
        have hqN : (q : Int) < (N : Int) := by omega
        obtain ⟨x, hx⟩ : ∃ x, (cnts fromE (N : Int) (l.take j))[q]? = some x ∧ 0 ≤ x ∧ x ≤ 1000 := by
          refine ⟨_, by have := cnts_at fromE (N : Int) (l.take j) ((fromE) ej) hv; rw [hq] at this; simpa using this, by omega, ?_⟩
          have := hit_le fromE (l.take j) q
          simp at this ⊢
          omega
        obtain ⟨hx0, hx1, hx2⟩ := hx
        have HIN := Lib.hid (cnts_in fromE (N : Int) (l.take j) ej hv x (by rw [hq]; simpa using hx0))
        rw [hq] at HQ1 HQ2
        have xc : wr.cell? ⟨g, q, none⟩ = some (.int .i64 x) := by
          rw [hown.cellAt q (by omega)]
          simp [nums, hx0]
        have xf := hown.frozenAt q
        clear hx0
        have q0 : (0 : Int) ≤ (q : Int) := by omega
        have HV := Lib.hid hv
        have HQQ := Lib.hid hq
        clear hv hq
        go_wp2_with fail
        refine (HQ1.out _).mono ?_
        rintro z w2 ⟨rfl, hb2⟩
        obtain ⟨⟨d1, o1⟩, rfl⟩ := regrown_of_below hb2
        go_wp2_with fail
        refine (HQ2.out _).mono ?_
        rintro z w2 ⟨rfl, hb3⟩
        obtain ⟨⟨d2, o2⟩, rfl⟩ := regrown_of_below hb3
        clear hb2 hb3
        go_wp2_with fail
        have hx3 := HIN.out
        rw [HQQ.out, Int.toNat_natCast, ← HT.out] at hx3
        obtain ⟨s1, gr1⟩ := hown.stored q (.int .i64 (x + 1))
        rw [← hx3] at s1
        have hC1 := cells_other hCB (show w.heap.size ≠ g by omega) (.int .i64 (x + 1)) q
        have hB1 := bls hB (p := ⟨g, q, none⟩) (by simpa using Nat.le_of_lt hwg) (.int .i64 (x + 1))
        have hY : Below (wr.setCell ⟨g, q, none⟩ (.int .i64 (x + 1))).heap.size (wr.setCell ⟨g, q, none⟩ (.int .i64 (x + 1))) (grow (redrawn ((wr.setCell ⟨g, q, none⟩ (.int .i64 (x + 1))).alloc (.cells #[.int .i64 ej.1, .int .i64 ej.2.1, .int .i64 ej.2.2] 41)) d2) (o1 ++ o2)) := blg (bl1 _ _) _ _
        exact ⟨⟨j + 1, by simp, by omega, hC1.below hY, row_below s1 hY, hB1.trans (hY.mono hB1.size)⟩, by simp [intOf]; omega⟩
      · rw [decide_eq_false hv] at HQ2
        have HOUT := Lib.hid (cnts_out fromE (N : Int) (l.take j) ej hv)
        clear hv
        go_wp2_with fail
        refine (HQ1.out _).mono ?_
        rintro z w2 ⟨rfl, hb2⟩
        obtain ⟨⟨d1, o1⟩, rfl⟩ := regrown_of_below hb2
        go_wp2_with fail
        refine (HQ2.out _).mono ?_
        rintro z w2 ⟨rfl, hb3⟩
        obtain ⟨⟨d2, o2⟩, rfl⟩ := regrown_of_below hb3
        clear hb2 hb3
        go_wp2_with fail
        have hx3 := HOUT.out
        rw [← HT.out] at hx3
        have hY : Below wr.heap.size wr (grow (redrawn (wr.alloc (.cells #[.int .i64 ej.1, .int .i64 ej.2.1, .int .i64 ej.2.2] 41)) d2) (o1 ++ o2)) := blg (bl1 _ _) _ _
        exact ⟨⟨j + 1, by simp, by omega, hCB.below hY, row_below (by rw [hx3]; exact hown) hY, hB.trans (hY.mono hB.size)⟩, by simp [intOf]; omega⟩
    · obtain rfl : j = k := by omega
      rw [List.take_of_length_le (by rw [← HK.out]; exact Nat.le_refl _), HR.out] at hown
      go_wp2_with fail
      go_ret
      refine ⟨_, rfl, ?_, hB⟩
      rw [show R.length = N by rw [← HR.out, cnts_len]; simp]
      exact row_mono hown (by omega)


set_option maxRecDepth 100000 in
set_option maxHeartbeats 2000000 in
theorem ends2_bad (n : Int) (a : Option Addr) (l : List Ed) (c : Nat) (w : World) (hn : ¬ (0 ≤ n ∧ n ≤ 4096)) :
    Calls Try.prog 59 #[GV n a l.length c, .func (.func 62) #[] #[]] w fun e w' => e = .returned (.slice none 0 0) ∧ Below w.heap.size w w' := by
  by_cases h0 : n < 0
  · go_enter Try.func59, Try.ntmps59
    go_wp2
    go_ret
    exact ⟨rfl, (by repeat (first | with_reducible refine blg ?_ _ _ | with_reducible refine bla ?_ _ | with_reducible exact Below.refl _ _))⟩
  · have h1 : 4096 < n := by omega
    go_enter Try.func59, Try.ntmps59
    go_wp2
    go_ret
    exact ⟨rfl, (by repeat (first | with_reducible refine blg ?_ _ _ | with_reducible refine bla ?_ _ | with_reducible exact Below.refl _ _))⟩

set_option maxRecDepth 100000 in
set_option maxHeartbeats 2000000 in
theorem ends2_ok (n : Int) (a : Option Addr) (l : List Ed) (c : Nat) (w : World) (hn : 0 ≤ n ∧ n ≤ 4096) (hr : RdE w a l) (hl : l.length ≤ 500) :
    Calls Try.prog 59 #[GV n a l.length c, .func (.func 62) #[] #[]] w fun e w' => ∃ v, e = .returned v ∧ w'.ownsRow w.heap.size 3 1 v (cnts intoE n l).length (nums (cnts intoE n l)) ∧ Below w.heap.size w w' := by
  obtain ⟨k, hk⟩ : ∃ k, k = l.length := ⟨_, rfl⟩
  rw [← hk] at hl ⊢
  have HK := Lib.hid hk
  clear hk
  obtain ⟨N, hN⟩ : ∃ N : Nat, n = (N : Int) := ⟨n.toNat, by omega⟩
  subst hN
  obtain ⟨hn0, hn1⟩ := hn
  obtain ⟨i0, hi0, hz0, hz1, hz2⟩ := info_partsE infoI
  generalize hR : cnts intoE (N : Int) l = R
  have HR := Lib.hid hR
  clear hR
  obtain ⟨V, hV⟩ : ∃ V, V = w.alloc (.cells #[.int .i64 (N : Int), .slice a k c] 24) := ⟨_, rfl⟩
  have hbV : Below w.heap.size w V := by rw [hV]; exact bl1 _ _
  have hCB : CellsAt V w.heap.size 24 #[.int .i64 (N : Int), .slice a k c] := by rw [hV]; exact World.alloc_heap_new _ _
  obtain ⟨V2, hmk, hown, hgn⟩ := run_makeSlice_full (P := Try.prog) (w := V) V.heap.size 38 3 i0 (.int .i64 0) 1 Try.underlying38 hi0 hz0 hz1 .i64 .i64 N (by omega) (by rw [hz2]; omega) (by unfold maxLen; omega) (Nat.le_refl _)
  have hCB2 := hCB.grown hgn (by simp)
  have hb2 : Below w.heap.size w V2 := hbV.trans ((below_of_grownNone hgn).mono hbV.size)
  have b0 : V2.cell? ⟨w.heap.size, 0, none⟩ = some (.int .i64 (N : Int)) := hCB2.cell 0
  have b1 : V2.cell? ⟨w.heap.size, 1, none⟩ = some (.slice a k c) := hCB2.cell 1
  have hsz : V.heap.size = w.heap.size + 1 := by rw [hV]; simp
  rw [hsz] at hown
  rw [hV] at hmk
  go_enter Try.func59, Try.ntmps59
  go_wp2_with fail
  clear hmk
  generalize w.heap.size + 1 = g at hown hsz ⊢
  rw [Nat.mul_one, show (Value.int .i64 0).cells = #[.int .i64 0] from rfl, toList_madeCells_one, show N = ((N : Int)).toNat by simp, ← cnts_nil intoE (N : Int)] at hown
  simp only [Int.toNat_natCast] at hown
  go_loopw [23] (fun y wr => ∃ j : Nat, y = .int .i64 (j : Int) ∧ j ≤ k ∧ CellsAt wr w.heap.size 24 #[.int .i64 (N : Int), .slice a k c] ∧ wr.ownsRow g 3 1 (.slice (some ⟨g, 0, none⟩) N N) N (nums (cnts intoE (N : Int) (l.take j))) ∧ Below w.heap.size w wr) (fun y _ => k - (intOf y).toNat)
  case atStart => exact ⟨0, rfl, by omega, hCB2, hown, hb2⟩
  case round =>
    have hwg : w.heap.size < g := by have := hCB.lt; omega
    clear hCB2 hown hb2 hCB hgn b0 b1
    obtain ⟨j, rfl, hj, hCB, hown, hB⟩ := hrel
    have hgl := (hown.lt g rfl).2
    have b0 : wr.cell? ⟨w.heap.size, 0, none⟩ = some (.int .i64 (N : Int)) := hCB.cell 0
    have kB := Has.of hCB.lt
    have kg := Has.of hgl
    by_cases hlt : (j : Int) < (k : Int)
    · obtain ⟨b, rfl, hbl, c0, c1, c2⟩ := (hr.below hB) j (by rw [← HK.out]; omega)
      have j0 : (0 : Int) ≤ (j : Int) := by omega
      have kb := Has.of hbl
      have HT := Lib.hid (take_el (l := l) (j := j) (by rw [← HK.out]; omega))
      obtain ⟨ej, hej⟩ : ∃ ej, ej = el l j := ⟨_, rfl⟩
      rw [← hej] at c0 c1 c2 HT
      clear hej
      have HQ1 := Lib.hid (fun W => ins1_any ej W)
      have HQ2 := Lib.hid (fun W => vertex_any (N : Int) ((intoE) ej) W)
      by_cases hv : 0 ≤ (intoE) ej ∧ (intoE) ej < (N : Int)
      · rw [decide_eq_true hv] at HQ2
        obtain ⟨q, hq⟩ : ∃ q : Nat, (intoE) ej = (q : Int) := ⟨((intoE) ej).toNat, by omega⟩
        have hqN : (q : Int) < (N : Int) := by omega
        obtain ⟨x, hx⟩ : ∃ x, (cnts intoE (N : Int) (l.take j))[q]? = some x ∧ 0 ≤ x ∧ x ≤ 1000 := by
          refine ⟨_, by have := cnts_at intoE (N : Int) (l.take j) ((intoE) ej) hv; rw [hq] at this; simpa using this, by omega, ?_⟩
          have := hit_le intoE (l.take j) q
          simp at this ⊢
          omega
        obtain ⟨hx0, hx1, hx2⟩ := hx
        have HIN := Lib.hid (cnts_in intoE (N : Int) (l.take j) ej hv x (by rw [hq]; simpa using hx0))
        rw [hq] at HQ1 HQ2
        have xc : wr.cell? ⟨g, q, none⟩ = some (.int .i64 x) := by
          rw [hown.cellAt q (by omega)]
          simp [nums, hx0]
        have xf := hown.frozenAt q
        clear hx0
        have q0 : (0 : Int) ≤ (q : Int) := by omega
        have HV := Lib.hid hv
        have HQQ := Lib.hid hq
        clear hv hq
        go_wp2_with fail
        refine (HQ1.out _).mono ?_
        rintro z w2 ⟨rfl, hb2⟩
        obtain ⟨⟨d1, o1⟩, rfl⟩ := regrown_of_below hb2
        go_wp2_with fail
        refine (HQ2.out _).mono ?_
        rintro z w2 ⟨rfl, hb3⟩
        obtain ⟨⟨d2, o2⟩, rfl⟩ := regrown_of_below hb3
        clear hb2 hb3
        go_wp2_with fail
        have hx3 := HIN.out
        rw [HQQ.out, Int.toNat_natCast, ← HT.out] at hx3
        obtain ⟨s1, gr1⟩ := hown.stored q (.int .i64 (x + 1))
        rw [← hx3] at s1
        have hC1 := cells_other hCB (show w.heap.size ≠ g by omega) (.int .i64 (x + 1)) q
        have hB1 := bls hB (p := ⟨g, q, none⟩) (by simpa using Nat.le_of_lt hwg) (.int .i64 (x + 1))
        have hY : Below (wr.setCell ⟨g, q, none⟩ (.int .i64 (x + 1))).heap.size (wr.setCell ⟨g, q, none⟩ (.int .i64 (x + 1))) (grow (redrawn ((wr.setCell ⟨g, q, none⟩ (.int .i64 (x + 1))).alloc (.cells #[.int .i64 ej.1, .int .i64 ej.2.1, .int .i64 ej.2.2] 41)) d2) (o1 ++ o2)) := blg (bl1 _ _) _ _
        exact ⟨⟨j + 1, by simp, by omega, hC1.below hY, row_below s1 hY, hB1.trans (hY.mono hB1.size)⟩, by simp [intOf]; omega⟩
      · rw [decide_eq_false hv] at HQ2
        have HOUT := Lib.hid (cnts_out intoE (N : Int) (l.take j) ej hv)
        clear hv
        go_wp2_with fail
        refine (HQ1.out _).mono ?_
        rintro z w2 ⟨rfl, hb2⟩
        obtain ⟨⟨d1, o1⟩, rfl⟩ := regrown_of_below hb2
        go_wp2_with fail
        refine (HQ2.out _).mono ?_
        rintro z w2 ⟨rfl, hb3⟩
        obtain ⟨⟨d2, o2⟩, rfl⟩ := regrown_of_below hb3
        clear hb2 hb3
        go_wp2_with fail
        have hx3 := HOUT.out
        rw [← HT.out] at hx3
        have hY : Below wr.heap.size wr (grow (redrawn (wr.alloc (.cells #[.int .i64 ej.1, .int .i64 ej.2.1, .int .i64 ej.2.2] 41)) d2) (o1 ++ o2)) := blg (bl1 _ _) _ _
        exact ⟨⟨j + 1, by simp, by omega, hCB.below hY, row_below (by rw [hx3]; exact hown) hY, hB.trans (hY.mono hB.size)⟩, by simp [intOf]; omega⟩
    · obtain rfl : j = k := by omega
      rw [List.take_of_length_le (by rw [← HK.out]; exact Nat.le_refl _), HR.out] at hown
      go_wp2_with fail
      go_ret
      refine ⟨_, rfl, ?_, hB⟩
      rw [show R.length = N by rw [← HR.out, cnts_len]; simp]
      exact row_mono hown (by omega)


set_option maxRecDepth 100000 in
set_option maxHeartbeats 2000000 in
theorem refends1_bad (n : Int) (a : Option Addr) (l : List Ed) (c : Nat) (w : World) (hn : ¬ (0 ≤ n ∧ n ≤ 4096)) :
    Calls Try.prog 61 #[GV n a l.length c, .bool true] w fun e w' => e = .returned (.slice none 0 0) ∧ Below w.heap.size w w' := by
  by_cases h0 : n < 0
  · go_enter Try.func61, Try.ntmps61
    go_wp2
    go_ret
    exact ⟨rfl, (by repeat (first | with_reducible refine blg ?_ _ _ | with_reducible refine bla ?_ _ | with_reducible exact Below.refl _ _))⟩
  · have h1 : 4096 < n := by omega
    go_enter Try.func61, Try.ntmps61
    go_wp2
    go_ret
    exact ⟨rfl, (by repeat (first | with_reducible refine blg ?_ _ _ | with_reducible refine bla ?_ _ | with_reducible exact Below.refl _ _))⟩

set_option maxRecDepth 100000 in
set_option maxHeartbeats 2000000 in
theorem refends1_ok (n : Int) (a : Option Addr) (l : List Ed) (c : Nat) (w : World) (hn : 0 ≤ n ∧ n ≤ 4096) (hr : RdE w a l) (hl : l.length ≤ 500) :
    Calls Try.prog 61 #[GV n a l.length c, .bool true] w fun e w' => ∃ v, e = .returned v ∧ w'.ownsRow w.heap.size 3 1 v (cnts fromE n l).length (nums (cnts fromE n l)) ∧ Below w.heap.size w w' := by
  obtain ⟨k, hk⟩ : ∃ k, k = l.length := ⟨_, rfl⟩
  rw [← hk] at hl ⊢
  have HK := Lib.hid hk
  clear hk
  obtain ⟨N, hN⟩ : ∃ N : Nat, n = (N : Int) := ⟨n.toNat, by omega⟩
  subst hN
  obtain ⟨hn0, hn1⟩ := hn
  obtain ⟨i0, hi0, hz0, hz1, hz2⟩ := info_partsE infoI
  generalize hR : cnts fromE (N : Int) l = R
  have HR := Lib.hid hR
  clear hR
  obtain ⟨V, hV⟩ : ∃ V, V = w.alloc (.cells #[.int .i64 (N : Int), .slice a k c] 24) := ⟨_, rfl⟩
  have hbV : Below w.heap.size w V := by rw [hV]; exact bl1 _ _
  have hCB : CellsAt V w.heap.size 24 #[.int .i64 (N : Int), .slice a k c] := by rw [hV]; exact World.alloc_heap_new _ _
  obtain ⟨V2, hmk, hown, hgn⟩ := run_makeSlice_full (P := Try.prog) (w := V) V.heap.size 38 3 i0 (.int .i64 0) 1 Try.underlying38 hi0 hz0 hz1 .i64 .i64 N (by omega) (by rw [hz2]; omega) (by unfold maxLen; omega) (Nat.le_refl _)
  have hCB2 := hCB.grown hgn (by simp)
  have hb2 : Below w.heap.size w V2 := hbV.trans ((below_of_grownNone hgn).mono hbV.size)
  have b0 : V2.cell? ⟨w.heap.size, 0, none⟩ = some (.int .i64 (N : Int)) := hCB2.cell 0
  have b1 : V2.cell? ⟨w.heap.size, 1, none⟩ = some (.slice a k c) := hCB2.cell 1
  have hsz : V.heap.size = w.heap.size + 1 := by rw [hV]; simp
  rw [hsz] at hown
  rw [hV] at hmk
  go_enter Try.func61, Try.ntmps61
  go_wp2_with fail
  clear hmk
  generalize w.heap.size + 1 = g at hown hsz ⊢
  rw [Nat.mul_one, show (Value.int .i64 0).cells = #[.int .i64 0] from rfl, toList_madeCells_one, show N = ((N : Int)).toNat by simp, ← cnts_nil fromE (N : Int)] at hown
  simp only [Int.toNat_natCast] at hown
  go_loopw [6] (fun y wr => ∃ j : Nat, y = .int .i64 (j : Int) ∧ j ≤ k ∧ CellsAt wr w.heap.size 24 #[.int .i64 (N : Int), .slice a k c] ∧ wr.ownsRow g 3 1 (.slice (some ⟨g, 0, none⟩) N N) N (nums (cnts fromE (N : Int) (l.take j))) ∧ Below w.heap.size w wr) (fun y _ => k - (intOf y).toNat)
  case atStart => exact ⟨0, rfl, by omega, hCB2, hown, hb2⟩
  case round =>
    have hwg : w.heap.size < g := by have := hCB.lt; omega
    clear hCB2 hown hb2 hCB hgn b0 b1
    obtain ⟨j, rfl, hj, hCB, hown, hB⟩ := hrel
    have hgl := (hown.lt g rfl).2
    have b0 : wr.cell? ⟨w.heap.size, 0, none⟩ = some (.int .i64 (N : Int)) := hCB.cell 0
    have b1 : wr.cell? ⟨w.heap.size, 1, none⟩ = some (.slice a k c) := hCB.cell 1
    have kB := Has.of hCB.lt
    have kg := Has.of hgl
    by_cases hlt : (j : Int) < (k : Int)
    · obtain ⟨b, rfl, hbl, c0, c1, c2⟩ := (hr.below hB) j (by rw [← HK.out]; omega)
      have j0 : (0 : Int) ≤ (j : Int) := by omega
      have kb := Has.of hbl
      have HT := Lib.hid (take_el (l := l) (j := j) (by rw [← HK.out]; omega))
      obtain ⟨ej, hej⟩ : ∃ ej, ej = el l j := ⟨_, rfl⟩
      rw [← hej] at c0 c1 c2 HT
      clear hej
      obtain ⟨vj, hvj⟩ : ∃ vj, vj = fromE ej := ⟨_, rfl⟩
      have HVJ := Lib.hid hvj
      have hvj' : ej.1 = vj := hvj.symm
      rw [hvj'] at c0
      clear hvj hvj'
      by_cases hv : 0 ≤ vj ∧ vj < (N : Int)
      · obtain ⟨q, hq⟩ : ∃ q : Nat, vj = (q : Int) := ⟨vj.toNat, by omega⟩
        have hqN : (q : Int) < (N : Int) := by omega
        obtain ⟨x, hx⟩ : ∃ x, (cnts fromE (N : Int) (l.take j))[q]? = some x ∧ 0 ≤ x ∧ x ≤ 1000 := by
          refine ⟨_, by have := cnts_at fromE (N : Int) (l.take j) vj hv; rw [hq] at this; simpa using this, by omega, ?_⟩
          have := hit_le fromE (l.take j) q
          simp at this ⊢
          omega
        obtain ⟨hx0, hx1, hx2⟩ := hx
        have HIN := Lib.hid (cnts_in fromE (N : Int) (l.take j) ej (by rw [← HVJ.out]; exact hv) x (by rw [← HVJ.out, hq]; simpa using hx0))
        have xc : wr.cell? ⟨g, q, none⟩ = some (.int .i64 x) := by
          rw [hown.cellAt q (by omega)]
          simp [nums, hx0]
        have xf := hown.frozenAt q
        clear hx0
        have q0 : (0 : Int) ≤ (q : Int) := by omega
        subst hq
        clear hv
        go_wp2_with fail
        have hx3 := HIN.out
        rw [← HVJ.out, Int.toNat_natCast, ← HT.out] at hx3
        obtain ⟨s1, gr1⟩ := hown.stored q (.int .i64 (x + 1))
        rw [← hx3] at s1
        have hC1 := cells_other hCB (show w.heap.size ≠ g by omega) (.int .i64 (x + 1)) q
        have hB1 := bls hB (p := ⟨g, q, none⟩) (by simpa using Nat.le_of_lt hwg) (.int .i64 (x + 1))
        exact ⟨⟨j + 1, by simp, by omega, hC1, s1, hB1⟩, by simp [intOf]; omega⟩
      · have HOUT := Lib.hid (cnts_out fromE (N : Int) (l.take j) ej (by rw [← HVJ.out]; exact hv))
        have hx3 := HOUT.out
        rw [← HT.out] at hx3
        by_cases hv0 : 0 ≤ vj
        · have hv1 : ¬ vj < (N : Int) := fun h => hv ⟨hv0, h⟩
          clear hv
          have hx4 := Lib.hid hx3
          clear hx3
          go_wp2_with fail
          exact ⟨⟨j + 1, by simp, by omega, hCB, by rw [hx4.out]; exact hown, hB⟩, by simp [intOf]; omega⟩
        · clear hv
          have hx4 := Lib.hid hx3
          clear hx3
          go_wp2_with fail
          exact ⟨⟨j + 1, by simp, by omega, hCB, by rw [hx4.out]; exact hown, hB⟩, by simp [intOf]; omega⟩
    · obtain rfl : j = k := by omega
      rw [List.take_of_length_le (by rw [← HK.out]; exact Nat.le_refl _), HR.out] at hown
      go_wp2_with fail
      go_ret
      refine ⟨_, rfl, ?_, hB⟩
      rw [show R.length = N by rw [← HR.out, cnts_len]; simp]
      exact row_mono hown (by omega)


set_option maxRecDepth 100000 in
set_option maxHeartbeats 2000000 in
theorem refends2_bad (n : Int) (a : Option Addr) (l : List Ed) (c : Nat) (w : World) (hn : ¬ (0 ≤ n ∧ n ≤ 4096)) :
    Calls Try.prog 61 #[GV n a l.length c, .bool false] w fun e w' => e = .returned (.slice none 0 0) ∧ Below w.heap.size w w' := by
  by_cases h0 : n < 0
  · go_enter Try.func61, Try.ntmps61
    go_wp2
    go_ret
    exact ⟨rfl, (by repeat (first | with_reducible refine blg ?_ _ _ | with_reducible refine bla ?_ _ | with_reducible exact Below.refl _ _))⟩
  · have h1 : 4096 < n := by omega
    go_enter Try.func61, Try.ntmps61
    go_wp2
    go_ret
    exact ⟨rfl, (by repeat (first | with_reducible refine blg ?_ _ _ | with_reducible refine bla ?_ _ | with_reducible exact Below.refl _ _))⟩

set_option maxRecDepth 100000 in
set_option maxHeartbeats 2000000 in
theorem refends2_ok (n : Int) (a : Option Addr) (l : List Ed) (c : Nat) (w : World) (hn : 0 ≤ n ∧ n ≤ 4096) (hr : RdE w a l) (hl : l.length ≤ 500) :
    Calls Try.prog 61 #[GV n a l.length c, .bool false] w fun e w' => ∃ v, e = .returned v ∧ w'.ownsRow w.heap.size 3 1 v (cnts intoE n l).length (nums (cnts intoE n l)) ∧ Below w.heap.size w w' := by
  obtain ⟨k, hk⟩ : ∃ k, k = l.length := ⟨_, rfl⟩
  rw [← hk] at hl ⊢
  have HK := Lib.hid hk
  clear hk
  obtain ⟨N, hN⟩ : ∃ N : Nat, n = (N : Int) := ⟨n.toNat, by omega⟩
  subst hN
  obtain ⟨hn0, hn1⟩ := hn
  obtain ⟨i0, hi0, hz0, hz1, hz2⟩ := info_partsE infoI
  generalize hR : cnts intoE (N : Int) l = R
  have HR := Lib.hid hR
  clear hR
  obtain ⟨V, hV⟩ : ∃ V, V = w.alloc (.cells #[.int .i64 (N : Int), .slice a k c] 24) := ⟨_, rfl⟩
  have hbV : Below w.heap.size w V := by rw [hV]; exact bl1 _ _
  have hCB : CellsAt V w.heap.size 24 #[.int .i64 (N : Int), .slice a k c] := by rw [hV]; exact World.alloc_heap_new _ _
  obtain ⟨V2, hmk, hown, hgn⟩ := run_makeSlice_full (P := Try.prog) (w := V) V.heap.size 38 3 i0 (.int .i64 0) 1 Try.underlying38 hi0 hz0 hz1 .i64 .i64 N (by omega) (by rw [hz2]; omega) (by unfold maxLen; omega) (Nat.le_refl _)
  have hCB2 := hCB.grown hgn (by simp)
  have hb2 : Below w.heap.size w V2 := hbV.trans ((below_of_grownNone hgn).mono hbV.size)
  have b0 : V2.cell? ⟨w.heap.size, 0, none⟩ = some (.int .i64 (N : Int)) := hCB2.cell 0
  have b1 : V2.cell? ⟨w.heap.size, 1, none⟩ = some (.slice a k c) := hCB2.cell 1
  have hsz : V.heap.size = w.heap.size + 1 := by rw [hV]; simp
  rw [hsz] at hown
  rw [hV] at hmk
  go_enter Try.func61, Try.ntmps61
  go_wp2_with fail
  clear hmk
  generalize w.heap.size + 1 = g at hown hsz ⊢
  rw [Nat.mul_one, show (Value.int .i64 0).cells = #[.int .i64 0] from rfl, toList_madeCells_one, show N = ((N : Int)).toNat by simp, ← cnts_nil intoE (N : Int)] at hown
  simp only [Int.toNat_natCast] at hown
  go_loopw [6] (fun y wr => ∃ j : Nat, y = .int .i64 (j : Int) ∧ j ≤ k ∧ CellsAt wr w.heap.size 24 #[.int .i64 (N : Int), .slice a k c] ∧ wr.ownsRow g 3 1 (.slice (some ⟨g, 0, none⟩) N N) N (nums (cnts intoE (N : Int) (l.take j))) ∧ Below w.heap.size w wr) (fun y _ => k - (intOf y).toNat)
  case atStart => exact ⟨0, rfl, by omega, hCB2, hown, hb2⟩
  case round =>
    have hwg : w.heap.size < g := by have := hCB.lt; omega
    clear hCB2 hown hb2 hCB hgn b0 b1
    obtain ⟨j, rfl, hj, hCB, hown, hB⟩ := hrel
    have hgl := (hown.lt g rfl).2
    have b0 : wr.cell? ⟨w.heap.size, 0, none⟩ = some (.int .i64 (N : Int)) := hCB.cell 0
    have b1 : wr.cell? ⟨w.heap.size, 1, none⟩ = some (.slice a k c) := hCB.cell 1
    have kB := Has.of hCB.lt
    have kg := Has.of hgl
    by_cases hlt : (j : Int) < (k : Int)
    · obtain ⟨b, rfl, hbl, c0, c1, c2⟩ := (hr.below hB) j (by rw [← HK.out]; omega)
      have j0 : (0 : Int) ≤ (j : Int) := by omega
      have kb := Has.of hbl
      have HT := Lib.hid (take_el (l := l) (j := j) (by rw [← HK.out]; omega))
      obtain ⟨ej, hej⟩ : ∃ ej, ej = el l j := ⟨_, rfl⟩
      rw [← hej] at c0 c1 c2 HT
      clear hej
      obtain ⟨vj, hvj⟩ : ∃ vj, vj = intoE ej := ⟨_, rfl⟩
      have HVJ := Lib.hid hvj
      have hvj' : ej.2.1 = vj := hvj.symm
      rw [hvj'] at c1
      clear hvj hvj'
      by_cases hv : 0 ≤ vj ∧ vj < (N : Int)
      · obtain ⟨q, hq⟩ : ∃ q : Nat, vj = (q : Int) := ⟨vj.toNat, by omega⟩
        have hqN : (q : Int) < (N : Int) := by omega
        obtain ⟨x, hx⟩ : ∃ x, (cnts intoE (N : Int) (l.take j))[q]? = some x ∧ 0 ≤ x ∧ x ≤ 1000 := by
          refine ⟨_, by have := cnts_at intoE (N : Int) (l.take j) vj hv; rw [hq] at this; simpa using this, by omega, ?_⟩
          have := hit_le intoE (l.take j) q
          simp at this ⊢
          omega
        obtain ⟨hx0, hx1, hx2⟩ := hx
        have HIN := Lib.hid (cnts_in intoE (N : Int) (l.take j) ej (by rw [← HVJ.out]; exact hv) x (by rw [← HVJ.out, hq]; simpa using hx0))
        have xc : wr.cell? ⟨g, q, none⟩ = some (.int .i64 x) := by
          rw [hown.cellAt q (by omega)]
          simp [nums, hx0]
        have xf := hown.frozenAt q
        clear hx0
        have q0 : (0 : Int) ≤ (q : Int) := by omega
        subst hq
        clear hv
        go_wp2_with fail
        have hx3 := HIN.out
        rw [← HVJ.out, Int.toNat_natCast, ← HT.out] at hx3
        obtain ⟨s1, gr1⟩ := hown.stored q (.int .i64 (x + 1))
        rw [← hx3] at s1
        have hC1 := cells_other hCB (show w.heap.size ≠ g by omega) (.int .i64 (x + 1)) q
        have hB1 := bls hB (p := ⟨g, q, none⟩) (by simpa using Nat.le_of_lt hwg) (.int .i64 (x + 1))
        exact ⟨⟨j + 1, by simp, by omega, hC1, s1, hB1⟩, by simp [intOf]; omega⟩
      · have HOUT := Lib.hid (cnts_out intoE (N : Int) (l.take j) ej (by rw [← HVJ.out]; exact hv))
        have hx3 := HOUT.out
        rw [← HT.out] at hx3
        by_cases hv0 : 0 ≤ vj
        · have hv1 : ¬ vj < (N : Int) := fun h => hv ⟨hv0, h⟩
          clear hv
          have hx4 := Lib.hid hx3
          clear hx3
          go_wp2_with fail
          exact ⟨⟨j + 1, by simp, by omega, hCB, by rw [hx4.out]; exact hown, hB⟩, by simp [intOf]; omega⟩
        · clear hv
          have hx4 := Lib.hid hx3
          clear hx3
          go_wp2_with fail
          exact ⟨⟨j + 1, by simp, by omega, hCB, by rw [hx4.out]; exact hown, hB⟩, by simp [intOf]; omega⟩
    · obtain rfl : j = k := by omega
      rw [List.take_of_length_le (by rw [← HK.out]; exact Nat.le_refl _), HR.out] at hown
      go_wp2_with fail
      go_ret
      refine ⟨_, rfl, ?_, hB⟩
      rw [show R.length = N by rw [← HR.out, cnts_len]; simp]
      exact row_mono hown (by omega)
end Go.Proofs.Ytfaddlpemhifpaa
