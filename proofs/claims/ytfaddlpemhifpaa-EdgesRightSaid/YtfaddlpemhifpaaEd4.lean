/- Package edges: what is wrong with a graph. -/
import Derived.Test.YtfaddlpemhifpaaEd3
namespace Go.Proofs.Ytfaddlpemhifpaa
open Go.RowKit Go.Sort
set_option linter.unusedVariables false
set_option linter.unusedSimpArgs false
/-- A graph of n vertices and edges at a, held in block g. -/
def GrAt (w : World) (g : Nat) (n : Int) (a : Option Addr) (k c : Nat) : Prop := w.cell? ⟨g, 0, none⟩ = some (.int .i64 n) ∧ w.cell? ⟨g, 1, none⟩ = some (.slice a k c) ∧ g < w.heap.size
theorem GrAt.below {w w' : World} {g : Nat} {n : Int} {a : Option Addr} {k c : Nat} (h : GrAt w g n a k c) (hb : Below w.heap.size w w') : GrAt w' g n a k c :=
  ⟨(hb.cell (p := ⟨g, 0, none⟩) h.2.2).trans h.1, (hb.cell (p := ⟨g, 1, none⟩) h.2.2).trans h.2.1, Nat.lt_of_lt_of_le h.2.2 hb.size⟩
def badE (n : Int) (e : Ed) : Bool := !decide (0 ≤ e.1 ∧ e.1 < n) || !decide (0 ≤ e.2.1 ∧ e.2.1 < n)
def badW (e : Ed) : Bool := decide (e.2.2 < 0 ∨ 2147483647 < e.2.2)
def rightE (n : Int) (l : List Ed) : Int := if n < 0 then 3 else if 4096 < n ∨ 65536 < l.length then 5 else if l.any (badE n) then 3 else if l.any badW then 7 else 0
theorem el_mem {l : List Ed} {i : Nat} (h : i < l.length) : el l i ∈ l := by
  simp [el, List.getD_eq_getElem?_getD, h]
theorem any_t {l : List Ed} {p : Ed → Bool} {i : Nat} (h : i < l.length) (hp : p (el l i) = true) : l.any p = true := List.any_eq_true.2 ⟨_, el_mem h, hp⟩
theorem any_f {l : List Ed} {p : Ed → Bool} (h : ∀ i, i < l.length → p (el l i) = false) : l.any p = false := by
  rw [Bool.eq_false_iff]
  intro ha
  obtain ⟨e, he, hp⟩ := List.any_eq_true.1 ha
  obtain ⟨i, hi, rfl⟩ := List.mem_iff_getElem.1 he
  have := h i hi
  simp [el, List.getD_eq_getElem?_getD, hi] at this
  rw [this] at hp
  cases hp

theorem bad_any (n : Int) (e : Ed) (g : Nat) (a : Option Addr) (k c : Nat) (w : World) (hg : GrAt w g n a k c) : Calls Try.prog 37 #[EV e, .pointer (some ⟨g, 0, none⟩)] w fun e' w' => e' = .returned (.bool (badE n e)) ∧ Below w.heap.size w w' := by
  obtain ⟨c0, c1, hl⟩ := hg
  have kg := Has.of hl
  have H1 := Lib.hid (fun W => vertex_any n e.1 W)
  have H2 := Lib.hid (fun W => vertex_any n e.2.1 W)
  unfold badE
  generalize decide (0 ≤ e.1 ∧ e.1 < n) = p at H1 ⊢
  generalize decide (0 ≤ e.2.1 ∧ e.2.1 < n) = q at H2 ⊢
  cases p
  · go_enter Try.func37, Try.ntmps37
    go_wp2_with (go_at_call 38; refine (H1.out _).mono ?_; rintro e w1 ⟨rfl, hb1⟩; obtain ⟨⟨d1, o1⟩, rfl⟩ := regrown_of_below hb1; clear hb1)
    go_ret
    exact ⟨rfl, (by repeat (first | with_reducible refine blg ?_ _ _ | with_reducible refine bla ?_ _ | with_reducible exact Below.refl _ _))⟩
  · go_enter Try.func37, Try.ntmps37
    go_wp2_with fail
    refine (H1.out _).mono ?_; rintro e w1 ⟨rfl, hb1⟩; obtain ⟨⟨d1, o1⟩, rfl⟩ := regrown_of_below hb1; clear hb1
    go_wp2_with fail
    refine (H2.out _).mono ?_; rintro e w1 ⟨rfl, hb1⟩; obtain ⟨⟨d1, o1⟩, rfl⟩ := regrown_of_below hb1; clear hb1
    go_wp2_with fail
    go_ret
    exact ⟨rfl, (by repeat (first | with_reducible refine blg ?_ _ _ | with_reducible refine bla ?_ _ | with_reducible exact Below.refl _ _))⟩

theorem badW_any (e : Ed) (w : World) : Calls Try.prog 39 #[EV e] w fun e' w' => e' = .returned (.bool (badW e)) ∧ Below w.heap.size w w' := by
  unfold badW
  by_cases h : e.2.2 < 0
  · go_enter Try.func39, Try.ntmps39
    go_wp2
    go_ret
    exact ⟨by simp [h], (by repeat (first | with_reducible refine blg ?_ _ _ | with_reducible refine bla ?_ _ | with_reducible exact Below.refl _ _))⟩
  · go_enter Try.func39, Try.ntmps39
    go_wp2
    go_ret
    exact ⟨by simp; omega, (by repeat (first | with_reducible refine blg ?_ _ _ | with_reducible refine bla ?_ _ | with_reducible exact Below.refl _ _))⟩


set_option maxRecDepth 100000 in
set_option maxHeartbeats 1000000 in
theorem bad_i (a : Option Addr) (l : List Ed) (c : Nat) (n0 : Int) (g : Nat) (a2 : Option Addr) (k2 cc2 : Nat) (w : World) (hr : RdE w a l) (hl : l.length < 9223372036854775807) (hg : GrAt w g n0 a2 k2 cc2) : Calls Try.prog 64 #[.slice a l.length c, .func (.func 37) #[] #[.pointer (some ⟨g, 0, none⟩)]] w fun e w' => ∃ k, e = .returned (.int .i64 k) ∧ decide (0 ≤ k) = l.any (badE n0) ∧ Below w.heap.size w w' := by
  obtain ⟨n, hn⟩ : ∃ n, n = l.length := ⟨_, rfl⟩
  rw [← hn] at hl ⊢
  have HN := Lib.hid hn
  clear hn
  go_enter Try.func64, Try.ntmps64
  go_wp2
  go_loopw [8] (fun y wr => ∃ j : Nat, y = .int .i64 (j : Int) ∧ j ≤ n ∧ (∀ i, i < j → (badE n0) (el l i) = false) ∧ Below w.heap.size w wr) (fun y _ => n - (intOf y).toNat)
  case atStart => exact ⟨0, rfl, by omega, by omega, Below.refl _ _⟩
  case round =>
    obtain ⟨j, rfl, hj, hall, hB⟩ := hrel
    by_cases hlt : (j : Int) < (n : Int)
    · obtain ⟨b, rfl, hbl, c0, c1, c2⟩ := hr.below hB j (by rw [← HN.out]; omega)
      have j0 : (0 : Int) ≤ (j : Int) := by omega
      have kb := Has.of hbl
      have HC := Lib.hid (fun W (h : Below wr.heap.size wr W) => bad_any n0 (el l j) g a2 k2 cc2 W ((hg.below hB).below h))
      cases hb : (badE n0) (el l j)
      all_goals simp only [hb] at HC
      all_goals go_wp2_with fail
      all_goals refine (HC.out _ (Below.refl _ _)).mono ?_
      all_goals rintro x w1 ⟨rfl, hb1⟩
      all_goals go_wp2_with fail
      · refine ⟨?_, by simp [intOf]; omega⟩
        refine ⟨j + 1, by simp, by omega, fun i hi => ?_, hB.trans (hb1.mono hB.size)⟩
        by_cases e : i = j
        · subst e; exact hb
        · exact hall i (by omega)
      · go_ret
        refine ⟨j, rfl, ?_, hB.trans (hb1.mono hB.size)⟩
        rw [any_t (by rw [← HN.out]; omega) hb]
        simp
    · go_wp2_with fail
      go_ret
      refine ⟨-1, rfl, ?_, hB⟩
      rw [any_f (fun i hi => hall i (by rw [← HN.out] at hi; omega))]
      rfl

set_option maxRecDepth 100000 in
theorem bad_c (a : Option Addr) (l : List Ed) (c : Nat) (n0 : Int) (g : Nat) (a2 : Option Addr) (k2 cc2 : Nat) (w : World) (hr : RdE w a l) (hl : l.length < 9223372036854775807) (hg : GrAt w g n0 a2 k2 cc2) : Calls Try.prog 36 #[.slice a l.length c, .func (.func 37) #[] #[.pointer (some ⟨g, 0, none⟩)]] w fun e w' => e = .returned (.bool (l.any (badE n0))) ∧ Below w.heap.size w w' := by
  go_enter Try.func36, Try.ntmps36
  go_wp2_with fail
  refine (bad_i a l c n0 g a2 k2 cc2 w hr hl hg).mono ?_
  rintro x w1 ⟨k, rfl, hk, hb1⟩
  go_wp2_with fail
  go_ret
  exact ⟨by rw [← hk]; rfl, hb1⟩


set_option maxRecDepth 100000 in
set_option maxHeartbeats 1000000 in
theorem badW_i (a : Option Addr) (l : List Ed) (c : Nat) (w : World) (hr : RdE w a l) (hl : l.length < 9223372036854775807) : Calls Try.prog 64 #[.slice a l.length c, .func (.func 39) #[] #[]] w fun e w' => ∃ k, e = .returned (.int .i64 k) ∧ decide (0 ≤ k) = l.any badW ∧ Below w.heap.size w w' := by
  obtain ⟨n, hn⟩ : ∃ n, n = l.length := ⟨_, rfl⟩
  rw [← hn] at hl ⊢
  have HN := Lib.hid hn
  clear hn
  go_enter Try.func64, Try.ntmps64
  go_wp2
  go_loopw [8] (fun y wr => ∃ j : Nat, y = .int .i64 (j : Int) ∧ j ≤ n ∧ (∀ i, i < j → badW (el l i) = false) ∧ Below w.heap.size w wr) (fun y _ => n - (intOf y).toNat)
  case atStart => exact ⟨0, rfl, by omega, by omega, Below.refl _ _⟩
  case round =>
    obtain ⟨j, rfl, hj, hall, hB⟩ := hrel
    by_cases hlt : (j : Int) < (n : Int)
    · obtain ⟨b, rfl, hbl, c0, c1, c2⟩ := hr.below hB j (by rw [← HN.out]; omega)
      have j0 : (0 : Int) ≤ (j : Int) := by omega
      have kb := Has.of hbl
      have HC := Lib.hid (fun W (h : Below wr.heap.size wr W) => badW_any (el l j) W)
      cases hb : badW (el l j)
      all_goals simp only [hb] at HC
      all_goals go_wp2_with fail
      all_goals refine (HC.out _ (Below.refl _ _)).mono ?_
      all_goals rintro x w1 ⟨rfl, hb1⟩
      all_goals go_wp2_with fail
      · refine ⟨?_, by simp [intOf]; omega⟩
        refine ⟨j + 1, by simp, by omega, fun i hi => ?_, hB.trans (hb1.mono hB.size)⟩
        by_cases e : i = j
        · subst e; exact hb
        · exact hall i (by omega)
      · go_ret
        refine ⟨j, rfl, ?_, hB.trans (hb1.mono hB.size)⟩
        rw [any_t (by rw [← HN.out]; omega) hb]
        simp
    · go_wp2_with fail
      go_ret
      refine ⟨-1, rfl, ?_, hB⟩
      rw [any_f (fun i hi => hall i (by rw [← HN.out] at hi; omega))]
      rfl

set_option maxRecDepth 100000 in
theorem badW_c (a : Option Addr) (l : List Ed) (c : Nat) (w : World) (hr : RdE w a l) (hl : l.length < 9223372036854775807) : Calls Try.prog 36 #[.slice a l.length c, .func (.func 39) #[] #[]] w fun e w' => e = .returned (.bool (l.any badW)) ∧ Below w.heap.size w w' := by
  go_enter Try.func36, Try.ntmps36
  go_wp2_with fail
  refine (badW_i a l c w hr hl).mono ?_
  rintro x w1 ⟨k, rfl, hk, hb1⟩
  go_wp2_with fail
  go_ret
  exact ⟨by rw [← hk]; rfl, hb1⟩


set_option maxRecDepth 100000 in
set_option maxHeartbeats 1000000 in
theorem right_any (n : Int) (a : Option Addr) (l : List Ed) (c : Nat) (w : World) (hr : RdE w a l) (hl : l.length < 9223372036854775807) : Calls Try.prog 8 #[.agg #[.int .i64 n, .slice a l.length c]] w fun e w' => e = .returned (.int .i64 (rightE n l)) ∧ Below w.heap.size w w' := by
  obtain ⟨v, hv⟩ : ∃ v, v = rightE n l := ⟨_, rfl⟩
  rw [← hv]
  have HV := Lib.hid hv
  clear hv
  by_cases h0 : n < 0
  · go_enter Try.func8, Try.ntmps8
    go_wp2
    go_ret
    exact ⟨by rw [HV.out, rightE, if_pos h0]; rfl, (by repeat (first | with_reducible refine blg ?_ _ _ | with_reducible refine bla ?_ _ | with_reducible exact Below.refl _ _))⟩
  · by_cases h1 : 4096 < n
    · go_enter Try.func8, Try.ntmps8
      go_wp2
      go_ret
      exact ⟨by rw [HV.out, rightE, if_neg (by omega), if_pos (.inl h1)]; rfl, (by repeat (first | with_reducible refine blg ?_ _ _ | with_reducible refine bla ?_ _ | with_reducible exact Below.refl _ _))⟩
    · by_cases h2 : 65536 < (l.length : Int)
      · go_enter Try.func8, Try.ntmps8
        go_wp2
        go_ret
        exact ⟨by rw [HV.out, rightE, if_neg (by omega), if_pos (.inr (by omega))]; rfl, (by repeat (first | with_reducible refine blg ?_ _ _ | with_reducible refine bla ?_ _ | with_reducible exact Below.refl _ _))⟩
      · obtain ⟨G, hG⟩ : ∃ G, G = w.alloc (.cells #[.int .i64 n, .slice a l.length c] 24) := ⟨_, rfl⟩
        have hGA : GrAt G w.heap.size n a l.length c := by
          have h := World.alloc_heap_new w (.cells #[.int .i64 n, .slice a l.length c] 24)
          rw [← hG] at h
          exact ⟨CellsAt.cell h 0, CellsAt.cell h 1, CellsAt.lt h⟩
        have hbG : Below w.heap.size w G := by rw [hG]; exact bl1 _ _
        have HR := hr.below hbG
        go_enter Try.func8, Try.ntmps8
        go_wp2_with fail
        rw [← hG]
        clear hG
        have hwG : w.heap.size ≤ G.heap.size := hbG.size
        obtain ⟨g, hg⟩ : ∃ g, g = w.heap.size := ⟨_, rfl⟩
        rw [← hg] at hGA ⊢
        have HG := Lib.hid hg
        clear hg
        cases hb : l.any (badE n)
        all_goals refine (bad_c a l c n g a l.length c G HR hl hGA).mono ?_
        all_goals rintro x w1 ⟨rfl, hb1⟩
        all_goals rw [hb]
        all_goals obtain ⟨c0, c1, hgl⟩ := hGA.below hb1
        all_goals have kg := Has.of hgl
        · have hR1 := HR.below hb1
          have hbw := hbG.trans (hb1.mono hwG)
          clear HR hGA hb1 hbG hr
          go_wp2_with fail
          have HB2 := badW_c a l c w1 hR1 hl
          cases hb2 : l.any badW
          all_goals rw [hb2] at HB2
          all_goals refine HB2.mono ?_
          all_goals rintro x w2 ⟨rfl, hb2'⟩
          all_goals go_wp2_with fail
          all_goals go_ret
          · exact ⟨by rw [HV.out, rightE, if_neg (by omega), if_neg (by omega), if_neg (by rw [hb]; decide), if_neg (by rw [hb2]; decide)]; rfl, hbw.trans (hb2'.mono hbw.size)⟩
          · exact ⟨by rw [HV.out, rightE, if_neg (by omega), if_neg (by omega), if_neg (by rw [hb]; decide), if_pos hb2]; rfl, hbw.trans (hb2'.mono hbw.size)⟩
        · go_wp2_with fail
          go_ret
          exact ⟨by rw [HV.out, rightE, if_neg (by omega), if_neg (by omega), if_pos hb]; rfl, hbG.trans (hb1.mono hwG)⟩
end Go.Proofs.Ytfaddlpemhifpaa
