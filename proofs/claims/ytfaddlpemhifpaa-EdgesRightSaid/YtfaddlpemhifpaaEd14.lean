/- Package edges: Outs, Ins, Same, and the reference's Right, by contracts. -/
import Derived.Test.YtfaddlpemhifpaaEd13
namespace Go.Proofs.Ytfaddlpemhifpaa
open Go.RowKit Go.Sort
set_option linter.unusedVariables false
set_option linter.unusedSimpArgs false
def cntsR (f : Ed → Int) (n : Int) (l : List Ed) : List Int := if 0 ≤ n ∧ n ≤ 4096 then cnts f n l else []
theorem row_nil (w : World) (base : Nat) (e : TypeId) (s : Nat) : w.ownsRow base e s (.slice none 0 0) 0 (nums []) := ⟨by simp [nums], .inl ⟨rfl, rfl⟩⟩
theorem row_regrown' {X X' : World} (hs : X.heap.size = X'.heap.size) {d : Nat} {o : Array Obj} {base e s n : Nat} {v : Value} {xs : List Value} (h : (grow (redrawn X d) o).ownsRow base e s v n xs) (hb : X.heap.size ≤ base) : (grow (redrawn X' d) o).ownsRow base e s v n xs := by
  refine ⟨h.1, ?_⟩
  rcases h.2 with h2 | ⟨g, cap, cur, h1, h2, h3, h4⟩
  · exact .inl h2
  · refine .inr ⟨g, cap, cur, h1, h2, ?_, h4⟩
    have e : (grow (redrawn X d) o).heap[g]? = (grow (redrawn X' d) o).heap[g]? := by
      simp only [grow, redrawn]
      rw [Array.getElem?_append_right (by omega), Array.getElem?_append_right (by omega), hs]
    rw [← e]
    exact h3


theorem outs_e (n : Int) (a : Option Addr) (l : List Ed) (c : Nat) (w : World) (hr : RdE w a l) (hl : l.length ≤ 500) :
    Calls Try.prog 59 #[GV n a l.length c, .func (.func 60) #[] #[]] w fun e w' => ∃ v, e = .returned v ∧ w'.ownsRow w.heap.size 3 1 v (cntsR fromE n l).length (nums (cntsR fromE n l)) ∧ Below w.heap.size w w' := by
  unfold cntsR
  by_cases hn : 0 ≤ n ∧ n ≤ 4096
  · rw [if_pos hn]; exact ends1_ok n a l c w hn hr hl
  · rw [if_neg hn]
    refine (ends1_bad n a l c w hn).mono ?_
    rintro e w' ⟨rfl, hb⟩
    exact ⟨_, rfl, row_nil _ _ _ _, hb⟩

set_option maxRecDepth 100000 in
set_option maxHeartbeats 1000000 in
theorem outs_any (n : Int) (a : Option Addr) (l : List Ed) (c : Nat) (w : World) (hr : RdE w a l) (hl : l.length ≤ 500) :
    Calls Try.prog 31 #[GV n a l.length c] w fun e w' => ∃ v, e = .returned v ∧ w'.ownsRow w.heap.size 3 1 v (cntsR fromE n l).length (nums (cntsR fromE n l)) ∧ Below w.heap.size w w' := by
  have HC := Lib.hid (fun W (hb : Below w.heap.size w W) => outs_e n a l c W (hr.below hb) hl)
  generalize cntsR fromE n l = R at HC ⊢
  go_enter Try.func31, Try.ntmps31
  go_wp2_with fail
  refine (HC.out _ (bl1 w _)).mono ?_
  rintro x w1 ⟨v, rfl, hrow, hb1⟩
  have hbb := Below.trans (bl1 w _) (hb1.mono (by simp))
  clear hb1
  obtain ⟨a6, c6, rfl, ha6⟩ := row_slice hrow
  go_wp2_with fail
  go_ret
  exact ⟨_, rfl, row_mono hrow (by simp), hbb⟩


theorem ins_e (n : Int) (a : Option Addr) (l : List Ed) (c : Nat) (w : World) (hr : RdE w a l) (hl : l.length ≤ 500) :
    Calls Try.prog 59 #[GV n a l.length c, .func (.func 62) #[] #[]] w fun e w' => ∃ v, e = .returned v ∧ w'.ownsRow w.heap.size 3 1 v (cntsR intoE n l).length (nums (cntsR intoE n l)) ∧ Below w.heap.size w w' := by
  unfold cntsR
  by_cases hn : 0 ≤ n ∧ n ≤ 4096
  · rw [if_pos hn]; exact ends2_ok n a l c w hn hr hl
  · rw [if_neg hn]
    refine (ends2_bad n a l c w hn).mono ?_
    rintro e w' ⟨rfl, hb⟩
    exact ⟨_, rfl, row_nil _ _ _ _, hb⟩

set_option maxRecDepth 100000 in
set_option maxHeartbeats 1000000 in
theorem ins_any (n : Int) (a : Option Addr) (l : List Ed) (c : Nat) (w : World) (hr : RdE w a l) (hl : l.length ≤ 500) :
    Calls Try.prog 33 #[GV n a l.length c] w fun e w' => ∃ v, e = .returned v ∧ w'.ownsRow w.heap.size 3 1 v (cntsR intoE n l).length (nums (cntsR intoE n l)) ∧ Below w.heap.size w w' := by
  have HC := Lib.hid (fun W (hb : Below w.heap.size w W) => ins_e n a l c W (hr.below hb) hl)
  generalize cntsR intoE n l = R at HC ⊢
  go_enter Try.func33, Try.ntmps33
  go_wp2_with fail
  refine (HC.out _ (bl1 w _)).mono ?_
  rintro x w1 ⟨v, rfl, hrow, hb1⟩
  have hbb := Below.trans (bl1 w _) (hb1.mono (by simp))
  clear hb1
  obtain ⟨a6, c6, rfl, ha6⟩ := row_slice hrow
  go_wp2_with fail
  go_ret
  exact ⟨_, rfl, row_mono hrow (by simp), hbb⟩


theorem refOuts_e (n : Int) (a : Option Addr) (l : List Ed) (c : Nat) (w : World) (hr : RdE w a l) (hl : l.length ≤ 500) :
    Calls Try.prog 61 #[GV n a l.length c, .bool true] w fun e w' => ∃ v, e = .returned v ∧ w'.ownsRow w.heap.size 3 1 v (cntsR fromE n l).length (nums (cntsR fromE n l)) ∧ Below w.heap.size w w' := by
  unfold cntsR
  by_cases hn : 0 ≤ n ∧ n ≤ 4096
  · rw [if_pos hn]; exact refends1_ok n a l c w hn hr hl
  · rw [if_neg hn]
    refine (refends1_bad n a l c w hn).mono ?_
    rintro e w' ⟨rfl, hb⟩
    exact ⟨_, rfl, row_nil _ _ _ _, hb⟩

set_option maxRecDepth 100000 in
set_option maxHeartbeats 1000000 in
theorem refOuts_any (n : Int) (a : Option Addr) (l : List Ed) (c : Nat) (w : World) (hr : RdE w a l) (hl : l.length ≤ 500) :
    Calls Try.prog 32 #[GV n a l.length c] w fun e w' => ∃ v, e = .returned v ∧ w'.ownsRow w.heap.size 3 1 v (cntsR fromE n l).length (nums (cntsR fromE n l)) ∧ Below w.heap.size w w' := by
  have HC := Lib.hid (fun W (hb : Below w.heap.size w W) => refOuts_e n a l c W (hr.below hb) hl)
  generalize cntsR fromE n l = R at HC ⊢
  go_enter Try.func32, Try.ntmps32
  go_wp2_with fail
  refine (HC.out _ (bl1 w _)).mono ?_
  rintro x w1 ⟨v, rfl, hrow, hb1⟩
  have hbb := Below.trans (bl1 w _) (hb1.mono (by simp))
  clear hb1
  obtain ⟨a6, c6, rfl, ha6⟩ := row_slice hrow
  go_wp2_with fail
  go_ret
  exact ⟨_, rfl, row_mono hrow (by simp), hbb⟩


theorem refIns_e (n : Int) (a : Option Addr) (l : List Ed) (c : Nat) (w : World) (hr : RdE w a l) (hl : l.length ≤ 500) :
    Calls Try.prog 61 #[GV n a l.length c, .bool false] w fun e w' => ∃ v, e = .returned v ∧ w'.ownsRow w.heap.size 3 1 v (cntsR intoE n l).length (nums (cntsR intoE n l)) ∧ Below w.heap.size w w' := by
  unfold cntsR
  by_cases hn : 0 ≤ n ∧ n ≤ 4096
  · rw [if_pos hn]; exact refends2_ok n a l c w hn hr hl
  · rw [if_neg hn]
    refine (refends2_bad n a l c w hn).mono ?_
    rintro e w' ⟨rfl, hb⟩
    exact ⟨_, rfl, row_nil _ _ _ _, hb⟩

set_option maxRecDepth 100000 in
set_option maxHeartbeats 1000000 in
theorem refIns_any (n : Int) (a : Option Addr) (l : List Ed) (c : Nat) (w : World) (hr : RdE w a l) (hl : l.length ≤ 500) :
    Calls Try.prog 34 #[GV n a l.length c] w fun e w' => ∃ v, e = .returned v ∧ w'.ownsRow w.heap.size 3 1 v (cntsR intoE n l).length (nums (cntsR intoE n l)) ∧ Below w.heap.size w w' := by
  have HC := Lib.hid (fun W (hb : Below w.heap.size w W) => refIns_e n a l c W (hr.below hb) hl)
  generalize cntsR intoE n l = R at HC ⊢
  go_enter Try.func34, Try.ntmps34
  go_wp2_with fail
  refine (HC.out _ (bl1 w _)).mono ?_
  rintro x w1 ⟨v, rfl, hrow, hb1⟩
  have hbb := Below.trans (bl1 w _) (hb1.mono (by simp))
  clear hb1
  obtain ⟨a6, c6, rfl, ha6⟩ := row_slice hrow
  go_wp2_with fail
  go_ret
  exact ⟨_, rfl, row_mono hrow (by simp), hbb⟩


theorem ext_nums {l m : List Int} (h : l.length = m.length) (he : ∀ i, i < l.length → l.getD i 0 = m.getD i 0) : l = m := by
  refine List.ext_getElem h fun i h1 h2 => ?_
  have := he i h1
  simpa [List.getD_eq_getElem?_getD, h1, h2] using this

set_option maxRecDepth 100000 in
set_option maxHeartbeats 1000000 in
theorem sameInts_any (a b : Option Addr) (l m : List Int) (c d : Nat) (w : World) (hr : RdN w a l) (hr2 : RdN w b m) (hl : l.length < 9223372036854775807) (hm : m.length < 9223372036854775807) :
    Calls Try.prog 30 #[.slice a l.length c, .slice b m.length d] w fun e w' => e = .returned (.bool (decide (l = m))) ∧ Below w.heap.size w w' := by
  by_cases hlen : l.length = m.length
  · obtain ⟨n, hn⟩ : ∃ n, n = l.length := ⟨_, rfl⟩
    have hn2 : n = m.length := hn.trans hlen
    rw [← hn] at hl ⊢
    rw [← hn2] at hm ⊢
    have HN := Lib.hid hn
    have HM := Lib.hid hn2
    clear hn hn2 hlen
    go_enter Try.func30, Try.ntmps30
    go_wp2
    go_loopw [5] (fun y wr => ∃ j : Nat, y = .int .i64 (j : Int) ∧ j ≤ n ∧ (∀ i, i < j → l.getD i 0 = m.getD i 0) ∧ Below w.heap.size w wr) (fun y _ => n - (intOf y).toNat)
    case atStart => exact ⟨0, rfl, by omega, by omega, Below.refl _ _⟩
    case round =>
      obtain ⟨j, rfl, hj, hall, hB⟩ := hrel
      by_cases hlt : (j : Int) < (n : Int)
      · obtain ⟨p, rfl, hbl, c0⟩ := hr.below hB j (by rw [← HN.out]; omega)
        obtain ⟨q, rfl, hbl', d0⟩ := hr2.below hB j (by rw [← HM.out]; omega)
        have j0 : (0 : Int) ≤ (j : Int) := by omega
        have kb := Has.of hbl
        have kb' := Has.of hbl'
        have e1 : (p.add (j * 1)) = p.add j := by rw [Nat.mul_one]
        have e2 : (q.add (j * 1)) = q.add j := by rw [Nat.mul_one]
        obtain ⟨u, hu⟩ : ∃ u, u = l.getD j 0 := ⟨_, rfl⟩
        obtain ⟨v, hv⟩ : ∃ v, v = m.getD j 0 := ⟨_, rfl⟩
        rw [← hu] at c0
        rw [← hv] at d0
        have HU := Lib.hid hu
        have HV := Lib.hid hv
        clear hu hv
        by_cases huv : u = v
        · go_wp2_with fail
          refine wp_region_quiet_below (by kernel_rfl) (by kernel_rfl) ?_
          repeat (go_big_quiet_step (fail))
          refine wpQuiet_nil ?_
          rintro _ ⟨⟨d2, o2⟩, rfl⟩
          go_wp2_with fail
          refine ⟨?_, by simp [intOf]; omega⟩
          refine ⟨j + 1, by simp, by omega, fun i hi => ?_, hB.trans ((below_regrown wr _ _).mono hB.size)⟩
          by_cases e : i = j
          · subst e
            rw [← HU.out, ← HV.out, huv]
          · exact hall i (by omega)
        · go_wp2_with fail
          refine wp_region_quiet_below (by kernel_rfl) (by kernel_rfl) ?_
          repeat (go_big_quiet_step (fail))
          refine wpQuiet_nil ?_
          rintro _ ⟨⟨d2, o2⟩, rfl⟩
          go_wp2_with fail
          go_ret
          refine ⟨?_, hB.trans ((below_regrown wr _ _).mono hB.size)⟩
          rw [decide_eq_false (fun e => by subst e; exact huv (HU.out.trans HV.out.symm))]
          rfl
      · go_wp2_with fail
        go_ret
        refine ⟨?_, hB⟩
        rw [decide_eq_true (ext_nums (HN.out.symm.trans HM.out) (fun i hi => hall i (by rw [← HN.out] at hi; omega)))]
        rfl
  · go_enter Try.func30, Try.ntmps30
    have hne : ¬ ((l.length : Int) = (m.length : Int)) := by omega
    go_wp2
    go_ret
    refine ⟨?_, (by repeat (first | with_reducible refine blg ?_ _ _ | with_reducible refine bla ?_ _ | with_reducible exact Below.refl _ _))⟩
    rw [decide_eq_false (fun e => hlen (by rw [e]))]
    rfl


set_option maxRecDepth 100000 in
set_option maxHeartbeats 1000000 in
theorem same_any (n n2 : Int) (a b : Option Addr) (l m : List Ed) (c d : Nat) (w : World) (hr : RdE w a l) (hr2 : RdE w b m) (hl : l.length < 9223372036854775807) (hm : m.length < 9223372036854775807) :
    Calls Try.prog 35 #[GV n a l.length c, GV n2 b m.length d] w fun e w' => e = .returned (.bool (decide (n = n2 ∧ l = m))) ∧ Below w.heap.size w w' := by
  by_cases hn : n = n2
  · have HC := Lib.hid (fun W (hb : Below w.heap.size w W) => equalE_any a b l m c d W (hr.below hb) (hr2.below hb) hl hm)
    obtain ⟨B, hB⟩ : ∃ B, B = decide (l = m) := ⟨_, rfl⟩
    have hB2 : decide (n = n2 ∧ l = m) = B := by rw [hB]; simp [hn]
    rw [hB2]
    rw [← hB] at HC
    clear hB hB2
    subst hn
    go_enter Try.func35, Try.ntmps35
    go_wp2_with fail
    refine (HC.out _ (bl2 w _ _)).mono ?_
    rintro x w1 ⟨rfl, hb1⟩
    have hbb := Below.trans (bl2 w _ _) (hb1.mono (by simp; omega))
    clear hb1
    go_wp2_with fail
    go_ret
    exact ⟨rfl, hbb⟩
  · rw [decide_eq_false (fun h => hn h.1)]
    go_enter Try.func35, Try.ntmps35
    go_wp2_with fail
    go_ret
    exact ⟨rfl, (by repeat (first | with_reducible refine blg ?_ _ _ | with_reducible refine bla ?_ _ | with_reducible exact Below.refl _ _))⟩


set_option maxRecDepth 100000 in
set_option maxHeartbeats 1000000 in
theorem refSame_any (n n2 : Int) (a b : Option Addr) (l m : List Ed) (c d : Nat) (w : World) (hr : RdE w a l) (hr2 : RdE w b m) (hl : l.length < 9223372036854775807) (hm : m.length < 9223372036854775807) :
    Calls Try.prog 17 #[GV n a l.length c, GV n2 b m.length d] w fun e w' => e = .returned (.bool (decide (n = n2 ∧ l = m))) ∧ Below w.heap.size w w' := by
  by_cases hn : n = n2
  · have HC := Lib.hid (fun W (hb : Below w.heap.size w W) => sameEdges_any a b l m c d W (hr.below hb) (hr2.below hb) hl hm)
    obtain ⟨B, hB⟩ : ∃ B, B = decide (l = m) := ⟨_, rfl⟩
    have hB2 : decide (n = n2 ∧ l = m) = B := by rw [hB]; simp [hn]
    rw [hB2]
    rw [← hB] at HC
    clear hB hB2
    subst hn
    go_enter Try.func17, Try.ntmps17
    go_wp2_with fail
    refine (HC.out _ (bl2 w _ _)).mono ?_
    rintro x w1 ⟨rfl, hb1⟩
    have hbb := Below.trans (bl2 w _ _) (hb1.mono (by simp; omega))
    clear hb1
    go_wp2_with fail
    go_ret
    exact ⟨rfl, hbb⟩
  · rw [decide_eq_false (fun h => hn h.1)]
    go_enter Try.func17, Try.ntmps17
    go_wp2_with fail
    go_ret
    exact ⟨rfl, (by repeat (first | with_reducible refine blg ?_ _ _ | with_reducible refine bla ?_ _ | with_reducible exact Below.refl _ _))⟩


theorem badE_f {n : Int} {e : Ed} (h : 0 ≤ e.1 ∧ e.1 < n ∧ 0 ≤ e.2.1 ∧ e.2.1 < n) : badE n e = false := by
  unfold badE; simp [h.1, h.2.1, h.2.2.1, h.2.2.2]
theorem badE_t {n : Int} {e : Ed} (h : ¬ (0 ≤ e.1 ∧ e.1 < n ∧ 0 ≤ e.2.1 ∧ e.2.1 < n)) : badE n e = true := by
  unfold badE
  by_cases h1 : 0 ≤ e.1 ∧ e.1 < n
  · by_cases h2 : 0 ≤ e.2.1 ∧ e.2.1 < n
    · exact absurd ⟨h1.1, h1.2, h2.1, h2.2⟩ h
    · simp [h1]; omega
  · rw [decide_eq_false h1]; rfl
theorem badW_f {e : Ed} (h : 0 ≤ e.2.2 ∧ e.2.2 ≤ 2147483647) : badW e = false := by unfold badW; simp; omega
theorem badW_t {e : Ed} (h : ¬ (0 ≤ e.2.2 ∧ e.2.2 ≤ 2147483647)) : badW e = true := by unfold badW; simp; omega

set_option maxRecDepth 100000 in
set_option maxHeartbeats 2000000 in
theorem refRight_any (n : Int) (a : Option Addr) (l : List Ed) (c : Nat) (w : World) (hr : RdE w a l) (hl : l.length < 9223372036854775807) : Calls Try.prog 10 #[GV n a l.length c] w fun e w' => e = .returned (.int .i64 (rightE n l)) ∧ Below w.heap.size w w' := by
  obtain ⟨v, hv⟩ : ∃ v, v = rightE n l := ⟨_, rfl⟩
  rw [← hv]
  have HV := Lib.hid hv
  clear hv
  obtain ⟨k, hk⟩ : ∃ k, k = l.length := ⟨_, rfl⟩
  rw [← hk] at hl ⊢
  have HK := Lib.hid hk
  clear hk
  by_cases h0 : n < 0
  · go_enter Try.func10, Try.ntmps10
    go_wp2
    go_ret
    exact ⟨by rw [HV.out, rightE, if_pos h0]; rfl, (by repeat (first | with_reducible refine blg ?_ _ _ | with_reducible refine bla ?_ _ | with_reducible exact Below.refl _ _))⟩
  · by_cases h1 : 4096 < n
    · go_enter Try.func10, Try.ntmps10
      go_wp2
      go_ret
      exact ⟨by rw [HV.out, rightE, if_neg (by omega), if_pos (.inl h1)]; rfl, (by repeat (first | with_reducible refine blg ?_ _ _ | with_reducible refine bla ?_ _ | with_reducible exact Below.refl _ _))⟩
    · by_cases h2 : 65536 < (k : Int)
      · go_enter Try.func10, Try.ntmps10
        go_wp2
        go_ret
        exact ⟨by rw [HV.out, rightE, if_neg (by omega), if_pos (.inr (by rw [← HK.out]; omega))]; rfl, (by repeat (first | with_reducible refine blg ?_ _ _ | with_reducible refine bla ?_ _ | with_reducible exact Below.refl _ _))⟩
      · have HV2 := Lib.hid (show v = if l.any (badE n) then 3 else if l.any badW then 7 else 0 from by rw [HV.out, rightE, if_neg (by omega), if_neg (by rw [← HK.out]; omega)])
        have hkb : k ≤ 65536 := by omega
        clear HV
        have hn0 : 0 ≤ n := by omega
        have hn1 : n ≤ 4096 := by omega
        obtain ⟨V, hV⟩ : ∃ V, V = w.alloc (.cells #[.int .i64 n, .slice a k c] 24) := ⟨_, rfl⟩
        have hbV : Below w.heap.size w V := by rw [hV]; exact bl1 _ _
        have hCB : CellsAt V w.heap.size 24 #[.int .i64 n, .slice a k c] := by rw [hV]; exact World.alloc_heap_new _ _
        go_enter Try.func10, Try.ntmps10
        go_wp2_with fail
        rw [← hV]
        clear hV
        go_loopw [3] (fun y wr => ∃ j : Nat, y = .int .i64 (j : Int) ∧ j ≤ k ∧ (∀ i, i < j → badE n (el l i) = false) ∧ CellsAt wr w.heap.size 24 #[.int .i64 n, .slice a k c] ∧ Below w.heap.size w wr) (fun y _ => k - (intOf y).toNat)
        case atStart => exact ⟨0, rfl, by omega, by omega, hCB, hbV⟩
        case round =>
          clear hCB hbV
          obtain ⟨j, rfl, hj, hall, hCB, hB⟩ := hrel
          have b0 : wr.cell? ⟨w.heap.size, 0, none⟩ = some (.int .i64 n) := hCB.cell 0
          have b1 : wr.cell? ⟨w.heap.size, 1, none⟩ = some (.slice a k c) := hCB.cell 1
          have kB := Has.of hCB.lt
          by_cases hlt : (j : Int) < (k : Int)
          · obtain ⟨b, rfl, hbl, c0, c1, c2⟩ := (hr.below hB) j (by rw [← HK.out]; omega)
            have j0 : (0 : Int) ≤ (j : Int) := by omega
            have kb := Has.of hbl
            have HA := Lib.hid (fun h => any_t (l := l) (p := badE n) (i := j) (by rw [← HK.out]; omega) h)
            have HALL := Lib.hid hall
            clear hall
            obtain ⟨ej, hej⟩ : ∃ ej, ej = el l j := ⟨_, rfl⟩
            rw [← hej] at c0 c1 c2 HA
            have HEJ := Lib.hid hej
            clear hej
            obtain ⟨e0, e1, e2⟩ := ej
            have hY : Below wr.heap.size wr (wr.alloc (.cells #[.int .i64 e0, .int .i64 e1, .int .i64 e2] 41)) := bl1 _ _
            by_cases q0 : e0 < 0
            · have HR := Lib.hid (HA.out (badE_t (by simp; omega)))
              go_wp2_with fail
              go_ret
              exact ⟨by rw [HV2.out, if_pos HR.out]; rfl, hB.trans (hY.mono hB.size)⟩
            · by_cases q1 : n ≤ e0
              · have HR := Lib.hid (HA.out (badE_t (by simp; omega)))
                go_wp2_with fail
                go_ret
                exact ⟨by rw [HV2.out, if_pos HR.out]; rfl, hB.trans (hY.mono hB.size)⟩
              · by_cases q2 : e1 < 0
                · have HR := Lib.hid (HA.out (badE_t (by simp; omega)))
                  go_wp2_with fail
                  go_ret
                  exact ⟨by rw [HV2.out, if_pos HR.out]; rfl, hB.trans (hY.mono hB.size)⟩
                · by_cases q3 : n ≤ e1
                  · have HR := Lib.hid (HA.out (badE_t (by simp; omega)))
                    go_wp2_with fail
                    go_ret
                    exact ⟨by rw [HV2.out, if_pos HR.out]; rfl, hB.trans (hY.mono hB.size)⟩
                  · have HR := Lib.hid (badE_f (n := n) (e := (e0, e1, e2)) (by simp; omega))
                    go_wp2_with fail
                    refine ⟨⟨j + 1, by simp, by omega, fun i hi => ?_, hCB.below hY, hB.trans (hY.mono hB.size)⟩, by simp [intOf]; omega⟩
                    by_cases e : i = j
                    · subst e; rw [← HEJ.out]; exact HR.out
                    · exact HALL.out i (by omega)
          · have HALL := Lib.hid (any_f (l := l) (p := badE n) (fun i hi => hall i (by rw [← HK.out] at hi; omega)))
            have HV3 := Lib.hid (show v = if l.any badW then 7 else 0 from by rw [HV2.out, HALL.out]; rfl)
            clear hall HV2 HALL
            go_wp2_with fail

            go_loopw [5] (fun y w3 => ∃ j : Nat, y = .int .i64 (j : Int) ∧ j ≤ k ∧ (∀ i, i < j → badW (el l i) = false) ∧ CellsAt w3 w.heap.size 24 #[.int .i64 n, .slice a k c] ∧ Below w.heap.size w w3) (fun y _ => k - (intOf y).toNat)
            case atStart => exact ⟨0, rfl, by omega, by omega, hCB, hB⟩
            case round =>
              clear b0 b1 kB hCB hB
              obtain ⟨j, rfl, hj, hall, hCB, hB⟩ := hrel
              have b0 := hCB.cell 0
              have b1 := hCB.cell 1
              have kB := Has.of hCB.lt
              by_cases hlt : (j : Int) < (k : Int)
              · obtain ⟨b, rfl, hbl, c0, c1, c2⟩ := (hr.below hB) j (by rw [← HK.out]; omega)
                have j0 : (0 : Int) ≤ (j : Int) := by omega
                have kb := Has.of hbl
                have HA := Lib.hid (fun h => any_t (l := l) (p := badW) (i := j) (by rw [← HK.out]; omega) h)
                have HALL := Lib.hid hall
                clear hall
                obtain ⟨ej, hej⟩ : ∃ ej, ej = el l j := ⟨_, rfl⟩
                rw [← hej] at c0 c1 c2 HA
                have HEJ := Lib.hid hej
                clear hej
                obtain ⟨e0, e1, e2⟩ := ej
                by_cases q0 : e2 < 0
                · have HR := Lib.hid (HA.out (badW_t (by simp; omega)))
                  go_wp2_with fail
                  go_ret
                  exact ⟨by rw [HV3.out, if_pos HR.out]; rfl, hB⟩
                · by_cases q1 : 2147483647 < e2
                  · have HR := Lib.hid (HA.out (badW_t (by simp; omega)))
                    go_wp2_with fail
                    go_ret
                    exact ⟨by rw [HV3.out, if_pos HR.out]; rfl, hB⟩
                  · have HR := Lib.hid (badW_f (e := (e0, e1, e2)) (by simp; omega))
                    go_wp2_with fail
                    refine ⟨⟨j + 1, by simp, by omega, fun i hi => ?_, hCB, hB⟩, by simp [intOf]; omega⟩
                    by_cases e : i = j
                    · subst e; rw [← HEJ.out]; exact HR.out
                    · exact HALL.out i (by omega)
              · have HALL := Lib.hid (any_f (l := l) (p := badW) (fun i hi => hall i (by rw [← HK.out] at hi; omega)))
                clear hall
                go_wp2_with fail
                go_ret
                exact ⟨by rw [HV3.out, HALL.out]; rfl, hB⟩
end Go.Proofs.Ytfaddlpemhifpaa
