/- Package edges: graphs made of others, by contracts. -/
import Derived.Test.YtfaddlpemhifpaaAlloc2
import Derived.Test.YtfaddlpemhifpaaEd9
namespace Go.Proofs.Ytfaddlpemhifpaa
open Go.RowKit Go.Sort
set_option linter.unusedVariables false
set_option linter.unusedSimpArgs false
/-- The canonical list of edges: in order, of the same ends the least. -/
def canR (l : List Ed) : List Ed := (combR 1 l).1
abbrev GV (n : Int) (a : Option Addr) (k c : Nat) : Value := .agg #[.int .i64 n, .slice a k c]

set_option maxRecDepth 100000 in
theorem canon_any (n : Int) (a : Option Addr) (l : List Ed) (c : Nat) (w : World) (hr : RdE w a l) (hz : a = none → c = 0 ∧ l.length = 0) (hI : ∀ e ∈ l, InE e) (hl : l.length ≤ 1000) :
    Calls Try.prog 18 #[GV n a l.length c] w fun e w' => ∃ a' c', e = .returned (GV n a' (canR l).length c') ∧ Out w.heap.size w' a' c' (canR l) ∧ Below w.heap.size w w' := by
  have HC := fun W (hb : Below w.heap.size w W) => combine_any 1 a l c W (hr.below hb) hz hI hl
  go_enter Try.func18, Try.ntmps18
  go_wp2_with fail
  refine (HC _ (bl2 w _ _)).mono ?_
  rintro x w1 ⟨a', c', rfl, hrd, hb1⟩
  obtain ⟨⟨d1, o1⟩, rfl⟩ := regrown_of_below hb1
  go_wp2_with fail
  refine bodyPost_ret (v := GV n a' (canR l).length c') ?_ rfl ⟨a', c', rfl, ?_, ?_⟩
  · simp [results, Try.results18, go_sem]
    rfl
  · exact (Out.regrown (by simp) hrd).mono (by simp; omega)
  · exact (by repeat (first | with_reducible refine blg ?_ _ _ | with_reducible refine bla ?_ _ | with_reducible exact Below.refl _ _))


theorem row_regrown {X X' : World} (hs : X'.heap.size = X.heap.size) {d : Nat} {o : Array Obj} {e s n : Nat} {v : Value} {xs : List Value} (h : (grow (redrawn X d) o).ownsRow X.heap.size e s v n xs) : (grow (redrawn X' d) o).ownsRow X'.heap.size e s v n xs := by
  refine ⟨h.1, ?_⟩
  rcases h.2 with h2 | ⟨g, cap, cur, h1, hb, hg, h3⟩
  · exact .inl h2
  · refine .inr ⟨g, cap, cur, h1, by omega, ?_, h3⟩
    rw [← hg]
    simp only [grow, redrawn]
    rw [Array.getElem?_append_right (by omega), Array.getElem?_append_right (by omega), hs]

set_option maxRecDepth 100000 in
theorem refCanon_any (n : Int) (a : Option Addr) (l : List Ed) (c : Nat) (w : World) (hr : RdE w a l) (hI : ∀ e ∈ l, InE e) (hl : l.length ≤ 1000) :
    Calls Try.prog 19 #[GV n a l.length c] w fun e w' => ∃ v, e = .returned (.agg #[.int .i64 n, v]) ∧ w'.ownsRow w.heap.size 41 3 v (canR l).length (cellsE (canR l)) ∧ Below w.heap.size w w' := by
  have HC := fun W (hb : Below w.heap.size w W) => refCombine_ok 1 a l c W (by decide) (hr.below hb) hI hl
  go_enter Try.func19, Try.ntmps19
  go_wp2_with fail
  refine (HC _ (bl2 w _ _)).mono ?_
  rintro x w1 ⟨v, rfl, hrd, hb1⟩
  obtain ⟨⟨d1, o1⟩, rfl⟩ := regrown_of_below hb1
  obtain ⟨a', c', rfl, _⟩ := row_slice hrd
  go_wp2_with fail
  refine bodyPost_ret (v := .agg #[.int .i64 n, .slice a' (canR l).length c']) ?_ rfl ⟨_, rfl, ?_, ?_⟩
  · simp [results, Try.results19, go_sem]
    rfl
  · exact row_mono (row_regrown (by simp) hrd) (by simp; omega)
  · exact (by repeat (first | with_reducible refine blg ?_ _ _ | with_reducible refine bla ?_ _ | with_reducible exact Below.refl _ _))

def turnE (e : Ed) : Ed := (e.2.1, e.1, e.2.2)
def plainE (e : Ed) : Ed := (e.1, e.2.1, 1)

theorem all_any (e : Ed) (w : World) : Calls Try.prog 53 #[EV e] w fun x w' => x = .returned (.bool ((fun _ => true) e)) ∧ Below w.heap.size w w' := by
  go_enter Try.func53, Try.ntmps53
  go_wp2
  go_ret
  exact ⟨rfl, (by repeat (first | with_reducible refine blg ?_ _ _ | with_reducible refine bla ?_ _ | with_reducible exact Below.refl _ _))⟩


theorem simple_any (e : Ed) (w : World) : Calls Try.prog 55 #[EV e] w fun x w' => x = .returned (.bool (e.1 != e.2.1)) ∧ Below w.heap.size w w' := by
  go_enter Try.func55, Try.ntmps55
  go_wp2
  go_ret
  exact ⟨by simp [bne], (by repeat (first | with_reducible refine blg ?_ _ _ | with_reducible refine bla ?_ _ | with_reducible exact Below.refl _ _))⟩


theorem lower_any (e : Ed) (w : World) : Calls Try.prog 58 #[EV e] w fun x w' => x = .returned (.bool (decide (e.2.1 < e.1))) ∧ Below w.heap.size w w' := by
  go_enter Try.func58, Try.ntmps58
  go_wp2
  go_ret
  exact ⟨by simp, (by repeat (first | with_reducible refine blg ?_ _ _ | with_reducible refine bla ?_ _ | with_reducible exact Below.refl _ _))⟩


theorem turned_any (e : Ed) (w : World) : Calls Try.prog 54 #[EV e] w fun x w' => x = .returned (EV (turnE e)) ∧ Below w.heap.size w w' := by
  go_enter Try.func54, Try.ntmps54
  go_wp2
  refine bodyPost_ret (v := EV (turnE e)) ?_ rfl ⟨rfl, (by repeat (first | with_reducible refine blg ?_ _ _ | with_reducible refine bla ?_ _ | with_reducible exact Below.refl _ _))⟩
  simp [results, Try.results54, go_sem, turnE, plainE]


theorem asItIs_any (e : Ed) (w : World) : Calls Try.prog 56 #[EV e] w fun x w' => x = .returned (EV (e)) ∧ Below w.heap.size w w' := by
  go_enter Try.func56, Try.ntmps56
  go_wp2
  refine bodyPost_ret (v := EV (e)) ?_ rfl ⟨rfl, (by repeat (first | with_reducible refine blg ?_ _ _ | with_reducible refine bla ?_ _ | with_reducible exact Below.refl _ _))⟩
  simp [results, Try.results56, go_sem, turnE, plainE]


theorem plain_any (e : Ed) (w : World) : Calls Try.prog 57 #[EV e] w fun x w' => x = .returned (EV (plainE e)) ∧ Below w.heap.size w w' := by
  go_enter Try.func57, Try.ntmps57
  go_wp2
  refine bodyPost_ret (v := EV (plainE e)) ?_ rfl ⟨rfl, (by repeat (first | with_reducible refine blg ?_ _ _ | with_reducible refine bla ?_ _ | with_reducible exact Below.refl _ _))⟩
  simp [results, Try.results57, go_sem, turnE, plainE]


/-- The list of edges that are kept, each changed, so far. -/
def chg (kp : Ed → Bool) (ch : Ed → Ed) (l : List Ed) : List Ed := (l.filter kp).map ch
theorem chg_snoc (kp : Ed → Bool) (ch : Ed → Ed) (l : List Ed) (e : Ed) : chg kp ch (l ++ [e]) = chg kp ch l ++ (if kp e = true then [ch e] else []) := by
  unfold chg; rw [List.filter_append, List.map_append]
  cases h : kp e <;> simp [h]
theorem laid_rdE (W : World) (d0 d1 : Nat) (o0 o1 : Array Obj) (e : Ed) : RdE (grow (redrawn ((grow (redrawn W d0) o0).alloc (.cells #[.int .i64 e.1, .int .i64 e.2.1, .int .i64 e.2.2] 41)) d1) o1) (some ⟨W.heap.size + o0.size, 0, none⟩) [e] ∧ Below W.heap.size W (grow (redrawn ((grow (redrawn W d0) o0).alloc (.cells #[.int .i64 e.1, .int .i64 e.2.1, .int .i64 e.2.2] 41)) d1) o1) := by
  refine ⟨?_, blg (bla (blg (Below.refl _ _) _ _) _) _ _⟩
  have h := (rdE_one (grow (redrawn W d0) o0) e.1 e.2.1 e.2.2).below (below_regrown _ d1 o1)
  rw [show (grow (redrawn W d0) o0).heap.size = W.heap.size + o0.size by simp [grow, redrawn]] at h
  exact h
theorem chg_len (kp : Ed → Bool) (ch : Ed → Ed) (l : List Ed) : (chg kp ch l).length ≤ l.length := by
  unfold chg; rw [List.length_map]; exact List.length_filter_le _ _


set_option maxRecDepth 100000 in
set_option maxHeartbeats 2000000 in
theorem chgTurn (n : Int) (a : Option Addr) (l : List Ed) (c : Nat) (w : World) (hr : RdE w a l) (hI : ∀ e ∈ chg (fun _ => true) turnE l, InE e) (hl : l.length ≤ 500) :
    Calls Try.prog 52 #[GV n a l.length c, .func (.func 53) #[] #[], .func (.func 54) #[] #[]] w fun e w' => ∃ a' c', e = .returned (GV n a' (canR (chg (fun _ => true) turnE l)).length c') ∧ Out w.heap.size w' a' c' (canR (chg (fun _ => true) turnE l)) ∧ Below w.heap.size w w' := by
  obtain ⟨k, hk⟩ : ∃ k, k = l.length := ⟨_, rfl⟩
  rw [← hk] at hl ⊢
  have HK := Lib.hid hk
  clear hk
  generalize hR : canR (chg (fun _ => true) turnE l) = R
  have HR := Lib.hid hR
  clear hR
  go_enter Try.func52, Try.ntmps52
  go_wp2_with fail
  obtain ⟨V, hV⟩ : ∃ V, V = ((w.alloc (.cells #[.int .i64 n, .slice a k c] 24)).alloc (.cells #[.int .i64 0, .slice none 0 0] 24)).alloc (.cells #[.int .i64 n, .slice none 0 0] 24) := ⟨_, rfl⟩
  have hbV : Below w.heap.size w V := by rw [hV]; exact bl3 _ _ _ _
  have hCR : CellsAt V (w.heap.size + 1) 24 #[.int .i64 0, .slice none 0 0] := by
    have h1 : CellsAt ((w.alloc (.cells #[.int .i64 n, .slice a k c] 24)).alloc (.cells #[.int .i64 0, .slice none 0 0] 24)) (w.alloc (.cells #[.int .i64 n, .slice a k c] 24)).heap.size 24 #[.int .i64 0, .slice none 0 0] := World.alloc_heap_new _ _
    rw [World.size_alloc] at h1
    rw [hV]; exact h1.below (bl1 _ _)
  have hCG : CellsAt V (w.heap.size + 1 + 1) 24 #[.int .i64 n, .slice none 0 0] := by
    have h1 : CellsAt (((w.alloc (.cells #[.int .i64 n, .slice a k c] 24)).alloc (.cells #[.int .i64 0, .slice none 0 0] 24)).alloc (.cells #[.int .i64 n, .slice none 0 0] 24)) ((w.alloc (.cells #[.int .i64 n, .slice a k c] 24)).alloc (.cells #[.int .i64 0, .slice none 0 0] 24)).heap.size 24 #[.int .i64 n, .slice none 0 0] := World.alloc_heap_new _ _
    rw [World.size_alloc, World.size_alloc] at h1
    rw [hV]; exact h1
  rw [← hV]
  clear hV
  have hG0 : w.heap.size ≤ w.heap.size + 1 + 1 := by omega
  have hR0 : w.heap.size ≤ w.heap.size + 1 := by omega
  have hGR : w.heap.size + 1 ≠ w.heap.size + 1 + 1 := by omega
  generalize w.heap.size + 1 + 1 = G at hCG hG0 hGR ⊢
  generalize w.heap.size + 1 = RB at hCR hR0 hGR ⊢
  have hGV := hCG.lt
  have hRV := hCR.lt
  go_loopw [16] (fun y wr => ∃ (j : Nat) (v : Value), y = .int .i64 (j : Int) ∧ j ≤ k ∧ CellsAt wr G 24 #[.int .i64 n, v] ∧ CellsAt wr RB 24 #[.int .i64 0, .slice none 0 0] ∧ wr.ownsRow V.heap.size 41 3 v (chg (fun _ => true) turnE (l.take j)).length (cellsE (chg (fun _ => true) turnE (l.take j))) ∧ Below w.heap.size w wr ∧ V.heap.size ≤ wr.heap.size) (fun y _ => k - (intOf y).toNat)
  case atStart => exact ⟨0, .slice none 0 0, rfl, by omega, hCG, hCR, World.ownsRow_nil _ _ _ _, hbV, Nat.le_refl _⟩
  case round =>
    clear hCG hCR hbV
    obtain ⟨j, v, rfl, hj, hCG, hCR, hown, hB, hVs⟩ := hrel
    obtain ⟨m, hm⟩ : ∃ m, m = (chg (fun _ => true) turnE (l.take j)).length := ⟨_, rfl⟩
    have hmj : m ≤ j := by rw [hm]; exact Nat.le_trans (chg_len _ _ _) (by simp; omega)
    rw [← hm] at hown
    have HM := Lib.hid hm
    clear hm
    obtain ⟨a6, c6, rfl, ha6⟩ := row_slice hown
    have kG := Has.of hCG.lt
    have kR := Has.of hCR.lt
    by_cases hlt : (j : Int) < (k : Int)
    · obtain ⟨b, rfl, hbl, c0, c1, c2⟩ := (hr.below hB) j (by rw [← HK.out]; omega)
      have j0 : (0 : Int) ≤ (j : Int) := by omega
      have kb := Has.of hbl
      have g0 : wr.cell? ⟨G, 0, none⟩ = some (.int .i64 n) := hCG.cell 0
      have g1 : wr.cell? ⟨G, 1, none⟩ = some (.slice a6 m c6) := hCG.cell 1
      have HT := take_el (l := l) (j := j) (by rw [← HK.out]; omega)
      have HS := chg_snoc (fun _ => true) turnE (l.take j) (el l j)
      rw [← HT] at HS
      obtain ⟨ej, hej⟩ : ∃ ej, ej = el l j := ⟨_, rfl⟩
      rw [← hej] at c0 c1 c2 HS
      have HS' := Lib.hid HS
      clear hej HT HS
      have HQ1 := fun W => all_any ej W
      have HQ2 := Lib.hid (fun W => turned_any ej W)
      cases hkp : ((fun _ => true)) ej
      · first
          | (exfalso; simp at hkp; done)
          | (have HS3 := Lib.hid (HS'.out.trans (by rw [if_neg (fun h => by have h2 := hkp.symm.trans h; cases h2), List.append_nil]))
             simp only [hkp] at HQ1
             go_wp2_with fail
             refine (HQ1 _).mono ?_
             rintro x w1 ⟨rfl, hb1⟩
             have hbW : Below wr.heap.size wr w1 := (bl1 wr _).trans (hb1.mono (by simp))
             go_wp2_with fail
             refine ⟨⟨j + 1, _, by simp, by omega, hCG.below hbW, hCR.below hbW, ?_, hB.trans (hbW.mono hB.size), Nat.le_trans hVs hbW.size⟩, by simp [intOf]; omega⟩
             rw [HS3.out, ← HM.out]
             exact row_below hown hbW)
      · have HS2 := Lib.hid (HS'.out.trans (by rw [if_pos hkp]))
        simp only [hkp] at HQ1
        go_wp2_with fail
        refine (HQ1 _).mono ?_
        rintro x w1 ⟨rfl, hb1⟩
        obtain ⟨⟨d1, o1⟩, rfl⟩ := regrown_of_below hb1
        go_wp2_with fail
        have hbW : Below wr.heap.size wr (grow (redrawn (wr.alloc (.cells #[.int .i64 ej.1, .int .i64 ej.2.1, .int .i64 ej.2.2] 41)) d1) o1) := (blg (bla (Below.refl _ _) _) _ _)
        have hE1 : CellsAt (grow (redrawn (wr.alloc (.cells #[.int .i64 ej.1, .int .i64 ej.2.1, .int .i64 ej.2.2] 41)) d1) o1) wr.heap.size 41 #[.int .i64 ej.1, .int .i64 ej.2.1, .int .i64 ej.2.2] := (show CellsAt (wr.alloc _) _ _ _ from World.alloc_heap_new wr _).below (below_regrown _ _ _)
        generalize grow (redrawn (wr.alloc (.cells #[.int .i64 ej.1, .int .i64 ej.2.1, .int .i64 ej.2.2] 41)) d1) o1 = U at hbW hE1 ⊢
        have hownU := row_below hown hbW
        have hGU := hCG.below hbW
        have hRU := hCR.below hbW
        have hBU := hB.trans (hbW.mono hB.size)
        have hVU := Nat.le_trans hVs hbW.size
        have hmb : m ≤ 1000 := by omega
        have HQ3 := Lib.hid HS'.out
        have hEGne : wr.heap.size ≠ G := by have := hCG.lt; omega
        have hEown : some wr.heap.size ≠ (Value.slice a6 m c6).ownBlock := fun e => by have := (hown.lt _ e.symm).2; omega
        generalize wr.heap.size = E at hE1 hEGne hEown ⊢
        clear hown hCG hCR hB c0 c1 c2 g0 g1 kb kG kR hVs
        have g1 : U.cell? ⟨G, 1, none⟩ = some (.slice a6 m c6) := hGU.cell 1
        have e0' : U.cell? ⟨E, 0, none⟩ = some (.int .i64 ej.1) := hE1.cell 0
        have e1' : U.cell? ⟨E, 1, none⟩ = some (.int .i64 ej.2.1) := hE1.cell 1
        have e2' : U.cell? ⟨E, 2, none⟩ = some (.int .i64 ej.2.2) := hE1.cell 2
        have kG := Has.of hGU.lt
        have kE := Has.of hE1.lt
        refine wp_region_lay (W := U) 5 (by kernel_rfl) (gr_one _) rfl rfl (by kernel_rfl) ?_
        simp only [List.take_succ_cons, List.take_zero, List.drop_succ_cons, List.drop_zero]
        repeat (refine wpFirm_step (fun K hK => ?_); go_simp; first
          | (refine hK _ ?_; clear hK K)
          | (apply Exists.intro; refine ⟨fun _ => ?_, hK _ ?_⟩; (first
            | (go_at_call 54; exact Calls.firm (HQ2.out _))); clear hK K))
        refine wpFirm_nil ?_
        refine ⟨fun k => .slice (some ⟨k, 0, none⟩) 1 1, .cells #[.int .i64 (turnE ej).1, .int .i64 (turnE ej).2.1, .int .i64 (turnE ej).2.2] 41, fun w => by go_simp, ?_⟩
        intro d3 o3 d4 o4
        obtain ⟨hX, hbX⟩ := laid_rdE U d3 d4 o3 o4 (turnE ej)
        generalize grow (redrawn ((grow (redrawn U d3) o3).alloc (.cells #[.int .i64 (turnE ej).1, .int .i64 (turnE ej).2.1, .int .i64 (turnE ej).2.2] 41)) d4) o4 = U2 at hX hbX ⊢
        generalize U.heap.size + o3.size = X at hX ⊢
        have hown2 := row_below hownU hbX
        have hG2 := hGU.below hbX
        have hR2 := hRU.below hbX
        have hB2 := hBU.trans (hbX.mono hBU.size)
        have hV2 := Nat.le_trans hVU hbX.size
        clear hownU hGU hRU hBU hVU hE1 g1 e0' e1' e2' kG kE HQ1 HQ2 hbX hbW
        go_wp2_with (refine wpList_append_rdE rfl _ _ rfl V.heap.size _ m (chg (fun _ => true) turnE (l.take j)) rfl hown2 _ 1 1 [turnE ej] rfl rfl hX (by simp) (by omega) (by omega) ?_; intro v' w3 hown3 hg3 hat3; obtain ⟨g', c', rfl, hgb, hgl⟩ := row_one hown3 (by omega); have hG3 := hG2.grown hg3 (fun e => by have := (hown2.lt G e.symm).1; omega); have hR3 := hR2.grown hg3 (fun e => by have := (hown2.lt RB e.symm).1; omega); have t1 := hG3.cell 1; have tf := hG3.frozen 1; have kG3 := Has.of hG3.lt)
        have hB3 : Below w.heap.size w w3 := hB2.trans (below_app hg3 (fun q hq => Nat.le_trans (by omega) (hown2.lt q hq).1) hB2.size)
        have hs3 := hg3.size
        refine ⟨⟨j + 1, .slice (some ⟨g', 0, none⟩) (m + 1) c', by simp, by omega, by simpa using hG3.set 1 (.slice (some ⟨g', 0, none⟩) (m + 1) c'), cells_other hR3 hGR _ _, ?_, bls hB3 hG0 _, by simp; omega⟩, by simp [intOf]; omega⟩
        have hlen : (chg (fun _ => true) turnE (l.take (j + 1))).length = m + 1 := by rw [HS2.out, List.length_append, ← HM.out]; rfl
        rw [hlen, HS2.out]
        exact hown3.kept (grownBy_setCell'' w3 G 1 _) (.inr (by simp [Value.ownBlock]; omega))
    · obtain rfl : j = k := by omega
      rw [List.take_of_length_le (by rw [← HK.out]; exact Nat.le_refl _)] at hown HM
      obtain ⟨hmm, a', c', e, _, hrd, hz⟩ := row_rdE hown
      cases e
      clear hmm
      have hCAN := Lib.hid (canon_any n a6 (chg (fun _ => true) turnE l) c6 wr hrd (fun h => ⟨(hz h).1, by rw [← HM.out]; exact (hz h).2⟩) hI (by rw [← HM.out]; omega))
      rw [← HM.out, HR.out] at hCAN
      have g0 : wr.cell? ⟨G, 0, none⟩ = some (.int .i64 n) := hCG.cell 0
      have g1 : wr.cell? ⟨G, 1, none⟩ = some (.slice a6 m c6) := hCG.cell 1
      have r0 : wr.cell? ⟨RB, 0, none⟩ = some (.int .i64 0) := hCR.cell 0
      have r1 : wr.cell? ⟨RB, 1, none⟩ = some (.slice none 0 0) := hCR.cell 1
      have f0 := hCR.frozen 0
      have f1 := hCR.frozen 1
      clear hrd hz hown
      go_wp2_with fail
      refine hCAN.out.mono ?_
      rintro x w1 ⟨a', c', rfl, hout, hb1⟩
      obtain ⟨⟨d1, o1⟩, rfl⟩ := regrown_of_below hb1
      go_wp2_with fail
      refine bodyPost_ret (v := GV n a' R.length c') ?_ rfl ⟨a', c', rfl, ?_, ?_⟩
      · have hCF : CellsAt ((wr.setCell ⟨RB, 0, none⟩ (.int .i64 n)).setCell ⟨RB, 1, none⟩ (.slice a' R.length c')) RB 24 #[.int .i64 n, .slice a' R.length c'] := by simpa using (hCR.set 0 (.int .i64 n)).set 1 (.slice a' R.length c')
        have hCF2 := hCF.below (below_regrown _ d1 o1)
        have k0 : (grow (redrawn ((wr.setCell ⟨RB, 0, none⟩ (.int .i64 n)).setCell ⟨RB, 1, none⟩ (.slice a' R.length c')) d1) o1).cell? ⟨RB, 0, none⟩ = some (.int .i64 n) := hCF2.cell 0
        have k1 : (grow (redrawn ((wr.setCell ⟨RB, 0, none⟩ (.int .i64 n)).setCell ⟨RB, 1, none⟩ (.slice a' R.length c')) d1) o1).cell? ⟨RB, 1, none⟩ = some (.slice a' R.length c') := hCF2.cell 1
        simp [results, Try.results52, go_sem, k0, k1]
      · have hsz : ((wr.setCell ⟨RB, 0, none⟩ (.int .i64 n)).setCell ⟨RB, 1, none⟩ (.slice a' R.length c')).heap.size = wr.heap.size := by simp
        have h9 := Out.regrown (X := wr) (X' := (wr.setCell ⟨RB, 0, none⟩ (.int .i64 n)).setCell ⟨RB, 1, none⟩ (.slice a' R.length c')) hsz hout
        exact h9.mono (by rw [hsz]; exact hB.size)
      · exact blg (bls (bls hB hR0 _) hR0 _) _ _


set_option maxRecDepth 100000 in
set_option maxHeartbeats 2000000 in
theorem chgSimple (n : Int) (a : Option Addr) (l : List Ed) (c : Nat) (w : World) (hr : RdE w a l) (hI : ∀ e ∈ chg (fun e : Ed => e.1 != e.2.1) (fun e : Ed => e) l, InE e) (hl : l.length ≤ 500) :
    Calls Try.prog 52 #[GV n a l.length c, .func (.func 55) #[] #[], .func (.func 56) #[] #[]] w fun e w' => ∃ a' c', e = .returned (GV n a' (canR (chg (fun e : Ed => e.1 != e.2.1) (fun e : Ed => e) l)).length c') ∧ Out w.heap.size w' a' c' (canR (chg (fun e : Ed => e.1 != e.2.1) (fun e : Ed => e) l)) ∧ Below w.heap.size w w' := by
  obtain ⟨k, hk⟩ : ∃ k, k = l.length := ⟨_, rfl⟩
  rw [← hk] at hl ⊢
  have HK := Lib.hid hk
  clear hk
  generalize hR : canR (chg (fun e : Ed => e.1 != e.2.1) (fun e : Ed => e) l) = R
  have HR := Lib.hid hR
  clear hR
  go_enter Try.func52, Try.ntmps52
  go_wp2_with fail
  obtain ⟨V, hV⟩ : ∃ V, V = ((w.alloc (.cells #[.int .i64 n, .slice a k c] 24)).alloc (.cells #[.int .i64 0, .slice none 0 0] 24)).alloc (.cells #[.int .i64 n, .slice none 0 0] 24) := ⟨_, rfl⟩
  have hbV : Below w.heap.size w V := by rw [hV]; exact bl3 _ _ _ _
  have hCR : CellsAt V (w.heap.size + 1) 24 #[.int .i64 0, .slice none 0 0] := by
    have h1 : CellsAt ((w.alloc (.cells #[.int .i64 n, .slice a k c] 24)).alloc (.cells #[.int .i64 0, .slice none 0 0] 24)) (w.alloc (.cells #[.int .i64 n, .slice a k c] 24)).heap.size 24 #[.int .i64 0, .slice none 0 0] := World.alloc_heap_new _ _
    rw [World.size_alloc] at h1
    rw [hV]; exact h1.below (bl1 _ _)
  have hCG : CellsAt V (w.heap.size + 1 + 1) 24 #[.int .i64 n, .slice none 0 0] := by
    have h1 : CellsAt (((w.alloc (.cells #[.int .i64 n, .slice a k c] 24)).alloc (.cells #[.int .i64 0, .slice none 0 0] 24)).alloc (.cells #[.int .i64 n, .slice none 0 0] 24)) ((w.alloc (.cells #[.int .i64 n, .slice a k c] 24)).alloc (.cells #[.int .i64 0, .slice none 0 0] 24)).heap.size 24 #[.int .i64 n, .slice none 0 0] := World.alloc_heap_new _ _
    rw [World.size_alloc, World.size_alloc] at h1
    rw [hV]; exact h1
  rw [← hV]
  clear hV
  have hG0 : w.heap.size ≤ w.heap.size + 1 + 1 := by omega
  have hR0 : w.heap.size ≤ w.heap.size + 1 := by omega
  have hGR : w.heap.size + 1 ≠ w.heap.size + 1 + 1 := by omega
  generalize w.heap.size + 1 + 1 = G at hCG hG0 hGR ⊢
  generalize w.heap.size + 1 = RB at hCR hR0 hGR ⊢
  have hGV := hCG.lt
  have hRV := hCR.lt
  go_loopw [16] (fun y wr => ∃ (j : Nat) (v : Value), y = .int .i64 (j : Int) ∧ j ≤ k ∧ CellsAt wr G 24 #[.int .i64 n, v] ∧ CellsAt wr RB 24 #[.int .i64 0, .slice none 0 0] ∧ wr.ownsRow V.heap.size 41 3 v (chg (fun e : Ed => e.1 != e.2.1) (fun e : Ed => e) (l.take j)).length (cellsE (chg (fun e : Ed => e.1 != e.2.1) (fun e : Ed => e) (l.take j))) ∧ Below w.heap.size w wr ∧ V.heap.size ≤ wr.heap.size) (fun y _ => k - (intOf y).toNat)
  case atStart => exact ⟨0, .slice none 0 0, rfl, by omega, hCG, hCR, World.ownsRow_nil _ _ _ _, hbV, Nat.le_refl _⟩
  case round =>
    clear hCG hCR hbV
    obtain ⟨j, v, rfl, hj, hCG, hCR, hown, hB, hVs⟩ := hrel
    obtain ⟨m, hm⟩ : ∃ m, m = (chg (fun e : Ed => e.1 != e.2.1) (fun e : Ed => e) (l.take j)).length := ⟨_, rfl⟩
    have hmj : m ≤ j := by rw [hm]; exact Nat.le_trans (chg_len _ _ _) (by simp; omega)
    rw [← hm] at hown
    have HM := Lib.hid hm
    clear hm
    obtain ⟨a6, c6, rfl, ha6⟩ := row_slice hown
    have kG := Has.of hCG.lt
    have kR := Has.of hCR.lt
    by_cases hlt : (j : Int) < (k : Int)
    · obtain ⟨b, rfl, hbl, c0, c1, c2⟩ := (hr.below hB) j (by rw [← HK.out]; omega)
      have j0 : (0 : Int) ≤ (j : Int) := by omega
      have kb := Has.of hbl
      have g0 : wr.cell? ⟨G, 0, none⟩ = some (.int .i64 n) := hCG.cell 0
      have g1 : wr.cell? ⟨G, 1, none⟩ = some (.slice a6 m c6) := hCG.cell 1
      have HT := take_el (l := l) (j := j) (by rw [← HK.out]; omega)
      have HS := chg_snoc (fun e : Ed => e.1 != e.2.1) (fun e : Ed => e) (l.take j) (el l j)
      rw [← HT] at HS
      obtain ⟨ej, hej⟩ : ∃ ej, ej = el l j := ⟨_, rfl⟩
      rw [← hej] at c0 c1 c2 HS
      have HS' := Lib.hid HS
      clear hej HT HS
      have HQ1 := fun W => simple_any ej W
      have HQ2 := Lib.hid (fun W => asItIs_any ej W)
      cases hkp : ((fun e : Ed => e.1 != e.2.1)) ej
      · first
          | (exfalso; simp at hkp; done)
          | (have HS3 := Lib.hid (HS'.out.trans (by rw [if_neg (fun h => by have h2 := hkp.symm.trans h; cases h2), List.append_nil]))
             simp only [hkp] at HQ1
             go_wp2_with fail
             refine (HQ1 _).mono ?_
             rintro x w1 ⟨rfl, hb1⟩
             have hbW : Below wr.heap.size wr w1 := (bl1 wr _).trans (hb1.mono (by simp))
             go_wp2_with fail
             refine ⟨⟨j + 1, _, by simp, by omega, hCG.below hbW, hCR.below hbW, ?_, hB.trans (hbW.mono hB.size), Nat.le_trans hVs hbW.size⟩, by simp [intOf]; omega⟩
             rw [HS3.out, ← HM.out]
             exact row_below hown hbW)
      · have HS2 := Lib.hid (HS'.out.trans (by rw [if_pos hkp]))
        simp only [hkp] at HQ1
        go_wp2_with fail
        refine (HQ1 _).mono ?_
        rintro x w1 ⟨rfl, hb1⟩
        obtain ⟨⟨d1, o1⟩, rfl⟩ := regrown_of_below hb1
        go_wp2_with fail
        have hbW : Below wr.heap.size wr (grow (redrawn (wr.alloc (.cells #[.int .i64 ej.1, .int .i64 ej.2.1, .int .i64 ej.2.2] 41)) d1) o1) := (blg (bla (Below.refl _ _) _) _ _)
        have hE1 : CellsAt (grow (redrawn (wr.alloc (.cells #[.int .i64 ej.1, .int .i64 ej.2.1, .int .i64 ej.2.2] 41)) d1) o1) wr.heap.size 41 #[.int .i64 ej.1, .int .i64 ej.2.1, .int .i64 ej.2.2] := (show CellsAt (wr.alloc _) _ _ _ from World.alloc_heap_new wr _).below (below_regrown _ _ _)
        generalize grow (redrawn (wr.alloc (.cells #[.int .i64 ej.1, .int .i64 ej.2.1, .int .i64 ej.2.2] 41)) d1) o1 = U at hbW hE1 ⊢
        have hownU := row_below hown hbW
        have hGU := hCG.below hbW
        have hRU := hCR.below hbW
        have hBU := hB.trans (hbW.mono hB.size)
        have hVU := Nat.le_trans hVs hbW.size
        have hmb : m ≤ 1000 := by omega
        have HQ3 := Lib.hid HS'.out
        have hEGne : wr.heap.size ≠ G := by have := hCG.lt; omega
        have hEown : some wr.heap.size ≠ (Value.slice a6 m c6).ownBlock := fun e => by have := (hown.lt _ e.symm).2; omega
        generalize wr.heap.size = E at hE1 hEGne hEown ⊢
        clear hown hCG hCR hB c0 c1 c2 g0 g1 kb kG kR hVs
        have g1 : U.cell? ⟨G, 1, none⟩ = some (.slice a6 m c6) := hGU.cell 1
        have e0' : U.cell? ⟨E, 0, none⟩ = some (.int .i64 ej.1) := hE1.cell 0
        have e1' : U.cell? ⟨E, 1, none⟩ = some (.int .i64 ej.2.1) := hE1.cell 1
        have e2' : U.cell? ⟨E, 2, none⟩ = some (.int .i64 ej.2.2) := hE1.cell 2
        have kG := Has.of hGU.lt
        have kE := Has.of hE1.lt
        refine wp_region_lay (W := U) 5 (by kernel_rfl) (gr_one _) rfl rfl (by kernel_rfl) ?_
        simp only [List.take_succ_cons, List.take_zero, List.drop_succ_cons, List.drop_zero]
        repeat (refine wpFirm_step (fun K hK => ?_); go_simp; first
          | (refine hK _ ?_; clear hK K)
          | (apply Exists.intro; refine ⟨fun _ => ?_, hK _ ?_⟩; (first
            | (go_at_call 56; exact Calls.firm (HQ2.out _))); clear hK K))
        refine wpFirm_nil ?_
        refine ⟨fun k => .slice (some ⟨k, 0, none⟩) 1 1, .cells #[.int .i64 ((fun e : Ed => e) ej).1, .int .i64 ((fun e : Ed => e) ej).2.1, .int .i64 ((fun e : Ed => e) ej).2.2] 41, fun w => by go_simp, ?_⟩
        intro d3 o3 d4 o4
        obtain ⟨hX, hbX⟩ := laid_rdE U d3 d4 o3 o4 ((fun e : Ed => e) ej)
        generalize grow (redrawn ((grow (redrawn U d3) o3).alloc (.cells #[.int .i64 ((fun e : Ed => e) ej).1, .int .i64 ((fun e : Ed => e) ej).2.1, .int .i64 ((fun e : Ed => e) ej).2.2] 41)) d4) o4 = U2 at hX hbX ⊢
        generalize U.heap.size + o3.size = X at hX ⊢
        have hown2 := row_below hownU hbX
        have hG2 := hGU.below hbX
        have hR2 := hRU.below hbX
        have hB2 := hBU.trans (hbX.mono hBU.size)
        have hV2 := Nat.le_trans hVU hbX.size
        clear hownU hGU hRU hBU hVU hE1 g1 e0' e1' e2' kG kE HQ1 HQ2 hbX hbW
        go_wp2_with (refine wpList_append_rdE rfl _ _ rfl V.heap.size _ m (chg (fun e : Ed => e.1 != e.2.1) (fun e : Ed => e) (l.take j)) rfl hown2 _ 1 1 [(fun e : Ed => e) ej] rfl rfl hX (by simp) (by omega) (by omega) ?_; intro v' w3 hown3 hg3 hat3; obtain ⟨g', c', rfl, hgb, hgl⟩ := row_one hown3 (by omega); have hG3 := hG2.grown hg3 (fun e => by have := (hown2.lt G e.symm).1; omega); have hR3 := hR2.grown hg3 (fun e => by have := (hown2.lt RB e.symm).1; omega); have t1 := hG3.cell 1; have tf := hG3.frozen 1; have kG3 := Has.of hG3.lt)
        have hB3 : Below w.heap.size w w3 := hB2.trans (below_app hg3 (fun q hq => Nat.le_trans (by omega) (hown2.lt q hq).1) hB2.size)
        have hs3 := hg3.size
        refine ⟨⟨j + 1, .slice (some ⟨g', 0, none⟩) (m + 1) c', by simp, by omega, by simpa using hG3.set 1 (.slice (some ⟨g', 0, none⟩) (m + 1) c'), cells_other hR3 hGR _ _, ?_, bls hB3 hG0 _, by simp; omega⟩, by simp [intOf]; omega⟩
        have hlen : (chg (fun e : Ed => e.1 != e.2.1) (fun e : Ed => e) (l.take (j + 1))).length = m + 1 := by rw [HS2.out, List.length_append, ← HM.out]; rfl
        rw [hlen, HS2.out]
        exact hown3.kept (grownBy_setCell'' w3 G 1 _) (.inr (by simp [Value.ownBlock]; omega))
    · obtain rfl : j = k := by omega
      rw [List.take_of_length_le (by rw [← HK.out]; exact Nat.le_refl _)] at hown HM
      obtain ⟨hmm, a', c', e, _, hrd, hz⟩ := row_rdE hown
      cases e
      clear hmm
      have hCAN := Lib.hid (canon_any n a6 (chg (fun e : Ed => e.1 != e.2.1) (fun e : Ed => e) l) c6 wr hrd (fun h => ⟨(hz h).1, by rw [← HM.out]; exact (hz h).2⟩) hI (by rw [← HM.out]; omega))
      rw [← HM.out, HR.out] at hCAN
      have g0 : wr.cell? ⟨G, 0, none⟩ = some (.int .i64 n) := hCG.cell 0
      have g1 : wr.cell? ⟨G, 1, none⟩ = some (.slice a6 m c6) := hCG.cell 1
      have r0 : wr.cell? ⟨RB, 0, none⟩ = some (.int .i64 0) := hCR.cell 0
      have r1 : wr.cell? ⟨RB, 1, none⟩ = some (.slice none 0 0) := hCR.cell 1
      have f0 := hCR.frozen 0
      have f1 := hCR.frozen 1
      clear hrd hz hown
      go_wp2_with fail
      refine hCAN.out.mono ?_
      rintro x w1 ⟨a', c', rfl, hout, hb1⟩
      obtain ⟨⟨d1, o1⟩, rfl⟩ := regrown_of_below hb1
      go_wp2_with fail
      refine bodyPost_ret (v := GV n a' R.length c') ?_ rfl ⟨a', c', rfl, ?_, ?_⟩
      · have hCF : CellsAt ((wr.setCell ⟨RB, 0, none⟩ (.int .i64 n)).setCell ⟨RB, 1, none⟩ (.slice a' R.length c')) RB 24 #[.int .i64 n, .slice a' R.length c'] := by simpa using (hCR.set 0 (.int .i64 n)).set 1 (.slice a' R.length c')
        have hCF2 := hCF.below (below_regrown _ d1 o1)
        have k0 : (grow (redrawn ((wr.setCell ⟨RB, 0, none⟩ (.int .i64 n)).setCell ⟨RB, 1, none⟩ (.slice a' R.length c')) d1) o1).cell? ⟨RB, 0, none⟩ = some (.int .i64 n) := hCF2.cell 0
        have k1 : (grow (redrawn ((wr.setCell ⟨RB, 0, none⟩ (.int .i64 n)).setCell ⟨RB, 1, none⟩ (.slice a' R.length c')) d1) o1).cell? ⟨RB, 1, none⟩ = some (.slice a' R.length c') := hCF2.cell 1
        simp [results, Try.results52, go_sem, k0, k1]
      · have hsz : ((wr.setCell ⟨RB, 0, none⟩ (.int .i64 n)).setCell ⟨RB, 1, none⟩ (.slice a' R.length c')).heap.size = wr.heap.size := by simp
        have h9 := Out.regrown (X := wr) (X' := (wr.setCell ⟨RB, 0, none⟩ (.int .i64 n)).setCell ⟨RB, 1, none⟩ (.slice a' R.length c')) hsz hout
        exact h9.mono (by rw [hsz]; exact hB.size)
      · exact blg (bls (bls hB hR0 _) hR0 _) _ _


set_option maxRecDepth 100000 in
set_option maxHeartbeats 2000000 in
theorem chgPlain (n : Int) (a : Option Addr) (l : List Ed) (c : Nat) (w : World) (hr : RdE w a l) (hI : ∀ e ∈ chg (fun _ => true) plainE l, InE e) (hl : l.length ≤ 500) :
    Calls Try.prog 52 #[GV n a l.length c, .func (.func 53) #[] #[], .func (.func 57) #[] #[]] w fun e w' => ∃ a' c', e = .returned (GV n a' (canR (chg (fun _ => true) plainE l)).length c') ∧ Out w.heap.size w' a' c' (canR (chg (fun _ => true) plainE l)) ∧ Below w.heap.size w w' := by
  obtain ⟨k, hk⟩ : ∃ k, k = l.length := ⟨_, rfl⟩
  rw [← hk] at hl ⊢
  have HK := Lib.hid hk
  clear hk
  generalize hR : canR (chg (fun _ => true) plainE l) = R
  have HR := Lib.hid hR
  clear hR
  go_enter Try.func52, Try.ntmps52
  go_wp2_with fail
  obtain ⟨V, hV⟩ : ∃ V, V = ((w.alloc (.cells #[.int .i64 n, .slice a k c] 24)).alloc (.cells #[.int .i64 0, .slice none 0 0] 24)).alloc (.cells #[.int .i64 n, .slice none 0 0] 24) := ⟨_, rfl⟩
  have hbV : Below w.heap.size w V := by rw [hV]; exact bl3 _ _ _ _
  have hCR : CellsAt V (w.heap.size + 1) 24 #[.int .i64 0, .slice none 0 0] := by
    have h1 : CellsAt ((w.alloc (.cells #[.int .i64 n, .slice a k c] 24)).alloc (.cells #[.int .i64 0, .slice none 0 0] 24)) (w.alloc (.cells #[.int .i64 n, .slice a k c] 24)).heap.size 24 #[.int .i64 0, .slice none 0 0] := World.alloc_heap_new _ _
    rw [World.size_alloc] at h1
    rw [hV]; exact h1.below (bl1 _ _)
  have hCG : CellsAt V (w.heap.size + 1 + 1) 24 #[.int .i64 n, .slice none 0 0] := by
    have h1 : CellsAt (((w.alloc (.cells #[.int .i64 n, .slice a k c] 24)).alloc (.cells #[.int .i64 0, .slice none 0 0] 24)).alloc (.cells #[.int .i64 n, .slice none 0 0] 24)) ((w.alloc (.cells #[.int .i64 n, .slice a k c] 24)).alloc (.cells #[.int .i64 0, .slice none 0 0] 24)).heap.size 24 #[.int .i64 n, .slice none 0 0] := World.alloc_heap_new _ _
    rw [World.size_alloc, World.size_alloc] at h1
    rw [hV]; exact h1
  rw [← hV]
  clear hV
  have hG0 : w.heap.size ≤ w.heap.size + 1 + 1 := by omega
  have hR0 : w.heap.size ≤ w.heap.size + 1 := by omega
  have hGR : w.heap.size + 1 ≠ w.heap.size + 1 + 1 := by omega
  generalize w.heap.size + 1 + 1 = G at hCG hG0 hGR ⊢
  generalize w.heap.size + 1 = RB at hCR hR0 hGR ⊢
  have hGV := hCG.lt
  have hRV := hCR.lt
  go_loopw [16] (fun y wr => ∃ (j : Nat) (v : Value), y = .int .i64 (j : Int) ∧ j ≤ k ∧ CellsAt wr G 24 #[.int .i64 n, v] ∧ CellsAt wr RB 24 #[.int .i64 0, .slice none 0 0] ∧ wr.ownsRow V.heap.size 41 3 v (chg (fun _ => true) plainE (l.take j)).length (cellsE (chg (fun _ => true) plainE (l.take j))) ∧ Below w.heap.size w wr ∧ V.heap.size ≤ wr.heap.size) (fun y _ => k - (intOf y).toNat)
  case atStart => exact ⟨0, .slice none 0 0, rfl, by omega, hCG, hCR, World.ownsRow_nil _ _ _ _, hbV, Nat.le_refl _⟩
  case round =>
    clear hCG hCR hbV
    obtain ⟨j, v, rfl, hj, hCG, hCR, hown, hB, hVs⟩ := hrel
    obtain ⟨m, hm⟩ : ∃ m, m = (chg (fun _ => true) plainE (l.take j)).length := ⟨_, rfl⟩
    have hmj : m ≤ j := by rw [hm]; exact Nat.le_trans (chg_len _ _ _) (by simp; omega)
    rw [← hm] at hown
    have HM := Lib.hid hm
    clear hm
    obtain ⟨a6, c6, rfl, ha6⟩ := row_slice hown
    have kG := Has.of hCG.lt
    have kR := Has.of hCR.lt
    by_cases hlt : (j : Int) < (k : Int)
    · obtain ⟨b, rfl, hbl, c0, c1, c2⟩ := (hr.below hB) j (by rw [← HK.out]; omega)
      have j0 : (0 : Int) ≤ (j : Int) := by omega
      have kb := Has.of hbl
      have g0 : wr.cell? ⟨G, 0, none⟩ = some (.int .i64 n) := hCG.cell 0
      have g1 : wr.cell? ⟨G, 1, none⟩ = some (.slice a6 m c6) := hCG.cell 1
      have HT := take_el (l := l) (j := j) (by rw [← HK.out]; omega)
      have HS := chg_snoc (fun _ => true) plainE (l.take j) (el l j)
      rw [← HT] at HS
      obtain ⟨ej, hej⟩ : ∃ ej, ej = el l j := ⟨_, rfl⟩
      rw [← hej] at c0 c1 c2 HS
      have HS' := Lib.hid HS
      clear hej HT HS
      have HQ1 := fun W => all_any ej W
      have HQ2 := Lib.hid (fun W => plain_any ej W)
      cases hkp : ((fun _ => true)) ej
      · first
          | (exfalso; simp at hkp; done)
          | (have HS3 := Lib.hid (HS'.out.trans (by rw [if_neg (fun h => by have h2 := hkp.symm.trans h; cases h2), List.append_nil]))
             simp only [hkp] at HQ1
             go_wp2_with fail
             refine (HQ1 _).mono ?_
             rintro x w1 ⟨rfl, hb1⟩
             have hbW : Below wr.heap.size wr w1 := (bl1 wr _).trans (hb1.mono (by simp))
             go_wp2_with fail
             refine ⟨⟨j + 1, _, by simp, by omega, hCG.below hbW, hCR.below hbW, ?_, hB.trans (hbW.mono hB.size), Nat.le_trans hVs hbW.size⟩, by simp [intOf]; omega⟩
             rw [HS3.out, ← HM.out]
             exact row_below hown hbW)
      · have HS2 := Lib.hid (HS'.out.trans (by rw [if_pos hkp]))
        simp only [hkp] at HQ1
        go_wp2_with fail
        refine (HQ1 _).mono ?_
        rintro x w1 ⟨rfl, hb1⟩
        obtain ⟨⟨d1, o1⟩, rfl⟩ := regrown_of_below hb1
        go_wp2_with fail
        have hbW : Below wr.heap.size wr (grow (redrawn (wr.alloc (.cells #[.int .i64 ej.1, .int .i64 ej.2.1, .int .i64 ej.2.2] 41)) d1) o1) := (blg (bla (Below.refl _ _) _) _ _)
        have hE1 : CellsAt (grow (redrawn (wr.alloc (.cells #[.int .i64 ej.1, .int .i64 ej.2.1, .int .i64 ej.2.2] 41)) d1) o1) wr.heap.size 41 #[.int .i64 ej.1, .int .i64 ej.2.1, .int .i64 ej.2.2] := (show CellsAt (wr.alloc _) _ _ _ from World.alloc_heap_new wr _).below (below_regrown _ _ _)
        generalize grow (redrawn (wr.alloc (.cells #[.int .i64 ej.1, .int .i64 ej.2.1, .int .i64 ej.2.2] 41)) d1) o1 = U at hbW hE1 ⊢
        have hownU := row_below hown hbW
        have hGU := hCG.below hbW
        have hRU := hCR.below hbW
        have hBU := hB.trans (hbW.mono hB.size)
        have hVU := Nat.le_trans hVs hbW.size
        have hmb : m ≤ 1000 := by omega
        have HQ3 := Lib.hid HS'.out
        have hEGne : wr.heap.size ≠ G := by have := hCG.lt; omega
        have hEown : some wr.heap.size ≠ (Value.slice a6 m c6).ownBlock := fun e => by have := (hown.lt _ e.symm).2; omega
        generalize wr.heap.size = E at hE1 hEGne hEown ⊢
        clear hown hCG hCR hB c0 c1 c2 g0 g1 kb kG kR hVs
        have g1 : U.cell? ⟨G, 1, none⟩ = some (.slice a6 m c6) := hGU.cell 1
        have e0' : U.cell? ⟨E, 0, none⟩ = some (.int .i64 ej.1) := hE1.cell 0
        have e1' : U.cell? ⟨E, 1, none⟩ = some (.int .i64 ej.2.1) := hE1.cell 1
        have e2' : U.cell? ⟨E, 2, none⟩ = some (.int .i64 ej.2.2) := hE1.cell 2
        have kG := Has.of hGU.lt
        have kE := Has.of hE1.lt
        refine wp_region_lay (W := U) 5 (by kernel_rfl) (gr_one _) rfl rfl (by kernel_rfl) ?_
        simp only [List.take_succ_cons, List.take_zero, List.drop_succ_cons, List.drop_zero]
        repeat (refine wpFirm_step (fun K hK => ?_); go_simp; first
          | (refine hK _ ?_; clear hK K)
          | (apply Exists.intro; refine ⟨fun _ => ?_, hK _ ?_⟩; (first
            | (go_at_call 57; exact Calls.firm (HQ2.out _))); clear hK K))
        refine wpFirm_nil ?_
        refine ⟨fun k => .slice (some ⟨k, 0, none⟩) 1 1, .cells #[.int .i64 (plainE ej).1, .int .i64 (plainE ej).2.1, .int .i64 (plainE ej).2.2] 41, fun w => by go_simp, ?_⟩
        intro d3 o3 d4 o4
        obtain ⟨hX, hbX⟩ := laid_rdE U d3 d4 o3 o4 (plainE ej)
        generalize grow (redrawn ((grow (redrawn U d3) o3).alloc (.cells #[.int .i64 (plainE ej).1, .int .i64 (plainE ej).2.1, .int .i64 (plainE ej).2.2] 41)) d4) o4 = U2 at hX hbX ⊢
        generalize U.heap.size + o3.size = X at hX ⊢
        have hown2 := row_below hownU hbX
        have hG2 := hGU.below hbX
        have hR2 := hRU.below hbX
        have hB2 := hBU.trans (hbX.mono hBU.size)
        have hV2 := Nat.le_trans hVU hbX.size
        clear hownU hGU hRU hBU hVU hE1 g1 e0' e1' e2' kG kE HQ1 HQ2 hbX hbW
        go_wp2_with (refine wpList_append_rdE rfl _ _ rfl V.heap.size _ m (chg (fun _ => true) plainE (l.take j)) rfl hown2 _ 1 1 [plainE ej] rfl rfl hX (by simp) (by omega) (by omega) ?_; intro v' w3 hown3 hg3 hat3; obtain ⟨g', c', rfl, hgb, hgl⟩ := row_one hown3 (by omega); have hG3 := hG2.grown hg3 (fun e => by have := (hown2.lt G e.symm).1; omega); have hR3 := hR2.grown hg3 (fun e => by have := (hown2.lt RB e.symm).1; omega); have t1 := hG3.cell 1; have tf := hG3.frozen 1; have kG3 := Has.of hG3.lt)
        have hB3 : Below w.heap.size w w3 := hB2.trans (below_app hg3 (fun q hq => Nat.le_trans (by omega) (hown2.lt q hq).1) hB2.size)
        have hs3 := hg3.size
        refine ⟨⟨j + 1, .slice (some ⟨g', 0, none⟩) (m + 1) c', by simp, by omega, by simpa using hG3.set 1 (.slice (some ⟨g', 0, none⟩) (m + 1) c'), cells_other hR3 hGR _ _, ?_, bls hB3 hG0 _, by simp; omega⟩, by simp [intOf]; omega⟩
        have hlen : (chg (fun _ => true) plainE (l.take (j + 1))).length = m + 1 := by rw [HS2.out, List.length_append, ← HM.out]; rfl
        rw [hlen, HS2.out]
        exact hown3.kept (grownBy_setCell'' w3 G 1 _) (.inr (by simp [Value.ownBlock]; omega))
    · obtain rfl : j = k := by omega
      rw [List.take_of_length_le (by rw [← HK.out]; exact Nat.le_refl _)] at hown HM
      obtain ⟨hmm, a', c', e, _, hrd, hz⟩ := row_rdE hown
      cases e
      clear hmm
      have hCAN := Lib.hid (canon_any n a6 (chg (fun _ => true) plainE l) c6 wr hrd (fun h => ⟨(hz h).1, by rw [← HM.out]; exact (hz h).2⟩) hI (by rw [← HM.out]; omega))
      rw [← HM.out, HR.out] at hCAN
      have g0 : wr.cell? ⟨G, 0, none⟩ = some (.int .i64 n) := hCG.cell 0
      have g1 : wr.cell? ⟨G, 1, none⟩ = some (.slice a6 m c6) := hCG.cell 1
      have r0 : wr.cell? ⟨RB, 0, none⟩ = some (.int .i64 0) := hCR.cell 0
      have r1 : wr.cell? ⟨RB, 1, none⟩ = some (.slice none 0 0) := hCR.cell 1
      have f0 := hCR.frozen 0
      have f1 := hCR.frozen 1
      clear hrd hz hown
      go_wp2_with fail
      refine hCAN.out.mono ?_
      rintro x w1 ⟨a', c', rfl, hout, hb1⟩
      obtain ⟨⟨d1, o1⟩, rfl⟩ := regrown_of_below hb1
      go_wp2_with fail
      refine bodyPost_ret (v := GV n a' R.length c') ?_ rfl ⟨a', c', rfl, ?_, ?_⟩
      · have hCF : CellsAt ((wr.setCell ⟨RB, 0, none⟩ (.int .i64 n)).setCell ⟨RB, 1, none⟩ (.slice a' R.length c')) RB 24 #[.int .i64 n, .slice a' R.length c'] := by simpa using (hCR.set 0 (.int .i64 n)).set 1 (.slice a' R.length c')
        have hCF2 := hCF.below (below_regrown _ d1 o1)
        have k0 : (grow (redrawn ((wr.setCell ⟨RB, 0, none⟩ (.int .i64 n)).setCell ⟨RB, 1, none⟩ (.slice a' R.length c')) d1) o1).cell? ⟨RB, 0, none⟩ = some (.int .i64 n) := hCF2.cell 0
        have k1 : (grow (redrawn ((wr.setCell ⟨RB, 0, none⟩ (.int .i64 n)).setCell ⟨RB, 1, none⟩ (.slice a' R.length c')) d1) o1).cell? ⟨RB, 1, none⟩ = some (.slice a' R.length c') := hCF2.cell 1
        simp [results, Try.results52, go_sem, k0, k1]
      · have hsz : ((wr.setCell ⟨RB, 0, none⟩ (.int .i64 n)).setCell ⟨RB, 1, none⟩ (.slice a' R.length c')).heap.size = wr.heap.size := by simp
        have h9 := Out.regrown (X := wr) (X' := (wr.setCell ⟨RB, 0, none⟩ (.int .i64 n)).setCell ⟨RB, 1, none⟩ (.slice a' R.length c')) hsz hout
        exact h9.mono (by rw [hsz]; exact hB.size)
      · exact blg (bls (bls hB hR0 _) hR0 _) _ _


set_option maxRecDepth 100000 in
set_option maxHeartbeats 2000000 in
theorem chgLower (n : Int) (a : Option Addr) (l : List Ed) (c : Nat) (w : World) (hr : RdE w a l) (hI : ∀ e ∈ chg (fun e : Ed => decide (e.2.1 < e.1)) (fun e : Ed => e) l, InE e) (hl : l.length ≤ 500) :
    Calls Try.prog 52 #[GV n a l.length c, .func (.func 58) #[] #[], .func (.func 56) #[] #[]] w fun e w' => ∃ a' c', e = .returned (GV n a' (canR (chg (fun e : Ed => decide (e.2.1 < e.1)) (fun e : Ed => e) l)).length c') ∧ Out w.heap.size w' a' c' (canR (chg (fun e : Ed => decide (e.2.1 < e.1)) (fun e : Ed => e) l)) ∧ Below w.heap.size w w' := by
  obtain ⟨k, hk⟩ : ∃ k, k = l.length := ⟨_, rfl⟩
  rw [← hk] at hl ⊢
  have HK := Lib.hid hk
  clear hk
  generalize hR : canR (chg (fun e : Ed => decide (e.2.1 < e.1)) (fun e : Ed => e) l) = R
  have HR := Lib.hid hR
  clear hR
  go_enter Try.func52, Try.ntmps52
  go_wp2_with fail
  obtain ⟨V, hV⟩ : ∃ V, V = ((w.alloc (.cells #[.int .i64 n, .slice a k c] 24)).alloc (.cells #[.int .i64 0, .slice none 0 0] 24)).alloc (.cells #[.int .i64 n, .slice none 0 0] 24) := ⟨_, rfl⟩
  have hbV : Below w.heap.size w V := by rw [hV]; exact bl3 _ _ _ _
  have hCR : CellsAt V (w.heap.size + 1) 24 #[.int .i64 0, .slice none 0 0] := by
    have h1 : CellsAt ((w.alloc (.cells #[.int .i64 n, .slice a k c] 24)).alloc (.cells #[.int .i64 0, .slice none 0 0] 24)) (w.alloc (.cells #[.int .i64 n, .slice a k c] 24)).heap.size 24 #[.int .i64 0, .slice none 0 0] := World.alloc_heap_new _ _
    rw [World.size_alloc] at h1
    rw [hV]; exact h1.below (bl1 _ _)
  have hCG : CellsAt V (w.heap.size + 1 + 1) 24 #[.int .i64 n, .slice none 0 0] := by
    have h1 : CellsAt (((w.alloc (.cells #[.int .i64 n, .slice a k c] 24)).alloc (.cells #[.int .i64 0, .slice none 0 0] 24)).alloc (.cells #[.int .i64 n, .slice none 0 0] 24)) ((w.alloc (.cells #[.int .i64 n, .slice a k c] 24)).alloc (.cells #[.int .i64 0, .slice none 0 0] 24)).heap.size 24 #[.int .i64 n, .slice none 0 0] := World.alloc_heap_new _ _
    rw [World.size_alloc, World.size_alloc] at h1
    rw [hV]; exact h1
  rw [← hV]
  clear hV
  have hG0 : w.heap.size ≤ w.heap.size + 1 + 1 := by omega
  have hR0 : w.heap.size ≤ w.heap.size + 1 := by omega
  have hGR : w.heap.size + 1 ≠ w.heap.size + 1 + 1 := by omega
  generalize w.heap.size + 1 + 1 = G at hCG hG0 hGR ⊢
  generalize w.heap.size + 1 = RB at hCR hR0 hGR ⊢
  have hGV := hCG.lt
  have hRV := hCR.lt
  go_loopw [16] (fun y wr => ∃ (j : Nat) (v : Value), y = .int .i64 (j : Int) ∧ j ≤ k ∧ CellsAt wr G 24 #[.int .i64 n, v] ∧ CellsAt wr RB 24 #[.int .i64 0, .slice none 0 0] ∧ wr.ownsRow V.heap.size 41 3 v (chg (fun e : Ed => decide (e.2.1 < e.1)) (fun e : Ed => e) (l.take j)).length (cellsE (chg (fun e : Ed => decide (e.2.1 < e.1)) (fun e : Ed => e) (l.take j))) ∧ Below w.heap.size w wr ∧ V.heap.size ≤ wr.heap.size) (fun y _ => k - (intOf y).toNat)
  case atStart => exact ⟨0, .slice none 0 0, rfl, by omega, hCG, hCR, World.ownsRow_nil _ _ _ _, hbV, Nat.le_refl _⟩
  case round =>
    clear hCG hCR hbV
    obtain ⟨j, v, rfl, hj, hCG, hCR, hown, hB, hVs⟩ := hrel
    obtain ⟨m, hm⟩ : ∃ m, m = (chg (fun e : Ed => decide (e.2.1 < e.1)) (fun e : Ed => e) (l.take j)).length := ⟨_, rfl⟩
    have hmj : m ≤ j := by rw [hm]; exact Nat.le_trans (chg_len _ _ _) (by simp; omega)
    rw [← hm] at hown
    have HM := Lib.hid hm
    clear hm
    obtain ⟨a6, c6, rfl, ha6⟩ := row_slice hown
    have kG := Has.of hCG.lt
    have kR := Has.of hCR.lt
    by_cases hlt : (j : Int) < (k : Int)
    · obtain ⟨b, rfl, hbl, c0, c1, c2⟩ := (hr.below hB) j (by rw [← HK.out]; omega)
      have j0 : (0 : Int) ≤ (j : Int) := by omega
      have kb := Has.of hbl
      have g0 : wr.cell? ⟨G, 0, none⟩ = some (.int .i64 n) := hCG.cell 0
      have g1 : wr.cell? ⟨G, 1, none⟩ = some (.slice a6 m c6) := hCG.cell 1
      have HT := take_el (l := l) (j := j) (by rw [← HK.out]; omega)
      have HS := chg_snoc (fun e : Ed => decide (e.2.1 < e.1)) (fun e : Ed => e) (l.take j) (el l j)
      rw [← HT] at HS
      obtain ⟨ej, hej⟩ : ∃ ej, ej = el l j := ⟨_, rfl⟩
      rw [← hej] at c0 c1 c2 HS
      have HS' := Lib.hid HS
      clear hej HT HS
      have HQ1 := fun W => lower_any ej W
      have HQ2 := Lib.hid (fun W => asItIs_any ej W)
      cases hkp : ((fun e : Ed => decide (e.2.1 < e.1))) ej
      · first
          | (exfalso; simp at hkp; done)
          | (have HS3 := Lib.hid (HS'.out.trans (by rw [if_neg (fun h => by have h2 := hkp.symm.trans h; cases h2), List.append_nil]))
             simp only [hkp] at HQ1
             go_wp2_with fail
             refine (HQ1 _).mono ?_
             rintro x w1 ⟨rfl, hb1⟩
             have hbW : Below wr.heap.size wr w1 := (bl1 wr _).trans (hb1.mono (by simp))
             go_wp2_with fail
             refine ⟨⟨j + 1, _, by simp, by omega, hCG.below hbW, hCR.below hbW, ?_, hB.trans (hbW.mono hB.size), Nat.le_trans hVs hbW.size⟩, by simp [intOf]; omega⟩
             rw [HS3.out, ← HM.out]
             exact row_below hown hbW)
      · have HS2 := Lib.hid (HS'.out.trans (by rw [if_pos hkp]))
        simp only [hkp] at HQ1
        go_wp2_with fail
        refine (HQ1 _).mono ?_
        rintro x w1 ⟨rfl, hb1⟩
        obtain ⟨⟨d1, o1⟩, rfl⟩ := regrown_of_below hb1
        go_wp2_with fail
        have hbW : Below wr.heap.size wr (grow (redrawn (wr.alloc (.cells #[.int .i64 ej.1, .int .i64 ej.2.1, .int .i64 ej.2.2] 41)) d1) o1) := (blg (bla (Below.refl _ _) _) _ _)
        have hE1 : CellsAt (grow (redrawn (wr.alloc (.cells #[.int .i64 ej.1, .int .i64 ej.2.1, .int .i64 ej.2.2] 41)) d1) o1) wr.heap.size 41 #[.int .i64 ej.1, .int .i64 ej.2.1, .int .i64 ej.2.2] := (show CellsAt (wr.alloc _) _ _ _ from World.alloc_heap_new wr _).below (below_regrown _ _ _)
        generalize grow (redrawn (wr.alloc (.cells #[.int .i64 ej.1, .int .i64 ej.2.1, .int .i64 ej.2.2] 41)) d1) o1 = U at hbW hE1 ⊢
        have hownU := row_below hown hbW
        have hGU := hCG.below hbW
        have hRU := hCR.below hbW
        have hBU := hB.trans (hbW.mono hB.size)
        have hVU := Nat.le_trans hVs hbW.size
        have hmb : m ≤ 1000 := by omega
        have HQ3 := Lib.hid HS'.out
        have hEGne : wr.heap.size ≠ G := by have := hCG.lt; omega
        have hEown : some wr.heap.size ≠ (Value.slice a6 m c6).ownBlock := fun e => by have := (hown.lt _ e.symm).2; omega
        generalize wr.heap.size = E at hE1 hEGne hEown ⊢
        clear hown hCG hCR hB c0 c1 c2 g0 g1 kb kG kR hVs
        have g1 : U.cell? ⟨G, 1, none⟩ = some (.slice a6 m c6) := hGU.cell 1
        have e0' : U.cell? ⟨E, 0, none⟩ = some (.int .i64 ej.1) := hE1.cell 0
        have e1' : U.cell? ⟨E, 1, none⟩ = some (.int .i64 ej.2.1) := hE1.cell 1
        have e2' : U.cell? ⟨E, 2, none⟩ = some (.int .i64 ej.2.2) := hE1.cell 2
        have kG := Has.of hGU.lt
        have kE := Has.of hE1.lt
        refine wp_region_lay (W := U) 5 (by kernel_rfl) (gr_one _) rfl rfl (by kernel_rfl) ?_
        simp only [List.take_succ_cons, List.take_zero, List.drop_succ_cons, List.drop_zero]
        repeat (refine wpFirm_step (fun K hK => ?_); go_simp; first
          | (refine hK _ ?_; clear hK K)
          | (apply Exists.intro; refine ⟨fun _ => ?_, hK _ ?_⟩; (first
            | (go_at_call 56; exact Calls.firm (HQ2.out _))); clear hK K))
        refine wpFirm_nil ?_
        refine ⟨fun k => .slice (some ⟨k, 0, none⟩) 1 1, .cells #[.int .i64 ((fun e : Ed => e) ej).1, .int .i64 ((fun e : Ed => e) ej).2.1, .int .i64 ((fun e : Ed => e) ej).2.2] 41, fun w => by go_simp, ?_⟩
        intro d3 o3 d4 o4
        obtain ⟨hX, hbX⟩ := laid_rdE U d3 d4 o3 o4 ((fun e : Ed => e) ej)
        generalize grow (redrawn ((grow (redrawn U d3) o3).alloc (.cells #[.int .i64 ((fun e : Ed => e) ej).1, .int .i64 ((fun e : Ed => e) ej).2.1, .int .i64 ((fun e : Ed => e) ej).2.2] 41)) d4) o4 = U2 at hX hbX ⊢
        generalize U.heap.size + o3.size = X at hX ⊢
        have hown2 := row_below hownU hbX
        have hG2 := hGU.below hbX
        have hR2 := hRU.below hbX
        have hB2 := hBU.trans (hbX.mono hBU.size)
        have hV2 := Nat.le_trans hVU hbX.size
        clear hownU hGU hRU hBU hVU hE1 g1 e0' e1' e2' kG kE HQ1 HQ2 hbX hbW
        go_wp2_with (refine wpList_append_rdE rfl _ _ rfl V.heap.size _ m (chg (fun e : Ed => decide (e.2.1 < e.1)) (fun e : Ed => e) (l.take j)) rfl hown2 _ 1 1 [(fun e : Ed => e) ej] rfl rfl hX (by simp) (by omega) (by omega) ?_; intro v' w3 hown3 hg3 hat3; obtain ⟨g', c', rfl, hgb, hgl⟩ := row_one hown3 (by omega); have hG3 := hG2.grown hg3 (fun e => by have := (hown2.lt G e.symm).1; omega); have hR3 := hR2.grown hg3 (fun e => by have := (hown2.lt RB e.symm).1; omega); have t1 := hG3.cell 1; have tf := hG3.frozen 1; have kG3 := Has.of hG3.lt)
        have hB3 : Below w.heap.size w w3 := hB2.trans (below_app hg3 (fun q hq => Nat.le_trans (by omega) (hown2.lt q hq).1) hB2.size)
        have hs3 := hg3.size
        refine ⟨⟨j + 1, .slice (some ⟨g', 0, none⟩) (m + 1) c', by simp, by omega, by simpa using hG3.set 1 (.slice (some ⟨g', 0, none⟩) (m + 1) c'), cells_other hR3 hGR _ _, ?_, bls hB3 hG0 _, by simp; omega⟩, by simp [intOf]; omega⟩
        have hlen : (chg (fun e : Ed => decide (e.2.1 < e.1)) (fun e : Ed => e) (l.take (j + 1))).length = m + 1 := by rw [HS2.out, List.length_append, ← HM.out]; rfl
        rw [hlen, HS2.out]
        exact hown3.kept (grownBy_setCell'' w3 G 1 _) (.inr (by simp [Value.ownBlock]; omega))
    · obtain rfl : j = k := by omega
      rw [List.take_of_length_le (by rw [← HK.out]; exact Nat.le_refl _)] at hown HM
      obtain ⟨hmm, a', c', e, _, hrd, hz⟩ := row_rdE hown
      cases e
      clear hmm
      have hCAN := Lib.hid (canon_any n a6 (chg (fun e : Ed => decide (e.2.1 < e.1)) (fun e : Ed => e) l) c6 wr hrd (fun h => ⟨(hz h).1, by rw [← HM.out]; exact (hz h).2⟩) hI (by rw [← HM.out]; omega))
      rw [← HM.out, HR.out] at hCAN
      have g0 : wr.cell? ⟨G, 0, none⟩ = some (.int .i64 n) := hCG.cell 0
      have g1 : wr.cell? ⟨G, 1, none⟩ = some (.slice a6 m c6) := hCG.cell 1
      have r0 : wr.cell? ⟨RB, 0, none⟩ = some (.int .i64 0) := hCR.cell 0
      have r1 : wr.cell? ⟨RB, 1, none⟩ = some (.slice none 0 0) := hCR.cell 1
      have f0 := hCR.frozen 0
      have f1 := hCR.frozen 1
      clear hrd hz hown
      go_wp2_with fail
      refine hCAN.out.mono ?_
      rintro x w1 ⟨a', c', rfl, hout, hb1⟩
      obtain ⟨⟨d1, o1⟩, rfl⟩ := regrown_of_below hb1
      go_wp2_with fail
      refine bodyPost_ret (v := GV n a' R.length c') ?_ rfl ⟨a', c', rfl, ?_, ?_⟩
      · have hCF : CellsAt ((wr.setCell ⟨RB, 0, none⟩ (.int .i64 n)).setCell ⟨RB, 1, none⟩ (.slice a' R.length c')) RB 24 #[.int .i64 n, .slice a' R.length c'] := by simpa using (hCR.set 0 (.int .i64 n)).set 1 (.slice a' R.length c')
        have hCF2 := hCF.below (below_regrown _ d1 o1)
        have k0 : (grow (redrawn ((wr.setCell ⟨RB, 0, none⟩ (.int .i64 n)).setCell ⟨RB, 1, none⟩ (.slice a' R.length c')) d1) o1).cell? ⟨RB, 0, none⟩ = some (.int .i64 n) := hCF2.cell 0
        have k1 : (grow (redrawn ((wr.setCell ⟨RB, 0, none⟩ (.int .i64 n)).setCell ⟨RB, 1, none⟩ (.slice a' R.length c')) d1) o1).cell? ⟨RB, 1, none⟩ = some (.slice a' R.length c') := hCF2.cell 1
        simp [results, Try.results52, go_sem, k0, k1]
      · have hsz : ((wr.setCell ⟨RB, 0, none⟩ (.int .i64 n)).setCell ⟨RB, 1, none⟩ (.slice a' R.length c')).heap.size = wr.heap.size := by simp
        have h9 := Out.regrown (X := wr) (X' := (wr.setCell ⟨RB, 0, none⟩ (.int .i64 n)).setCell ⟨RB, 1, none⟩ (.slice a' R.length c')) hsz hout
        exact h9.mono (by rw [hsz]; exact hB.size)
      · exact blg (bls (bls hB hR0 _) hR0 _) _ _


set_option maxRecDepth 100000 in
set_option maxHeartbeats 1000000 in
theorem turn_any (n : Int) (a : Option Addr) (l : List Ed) (c : Nat) (w : World) (hr : RdE w a l) (hI : ∀ e ∈ chg (fun _ => true) turnE l, InE e) (hl : l.length ≤ 500) :
    Calls Try.prog 20 #[GV n a l.length c] w fun e w' => ∃ a' c', e = .returned (GV n a' (canR (chg (fun _ => true) turnE l)).length c') ∧ Out w.heap.size w' a' c' (canR (chg (fun _ => true) turnE l)) ∧ Below w.heap.size w w' := by
  have HC := Lib.hid (fun W (hb : Below w.heap.size w W) => chgTurn n a l c W (hr.below hb) hI hl)
  generalize canR (chg (fun _ => true) turnE l) = R at HC ⊢
  go_enter Try.func20, Try.ntmps20
  go_wp2_with fail
  refine (HC.out _ (bl2 w _ _)).mono ?_
  rintro x w1 ⟨a', c', rfl, hrd, hb1⟩
  obtain ⟨⟨d1, o1⟩, rfl⟩ := regrown_of_below hb1
  go_wp2_with fail
  refine bodyPost_ret (v := GV n a' R.length c') ?_ rfl ⟨a', c', rfl, ?_, ?_⟩
  · simp [results, Try.results20, go_sem]
  · exact (Out.regrown (by simp) hrd).mono (by simp; omega)
  · exact (by repeat (first | with_reducible refine blg ?_ _ _ | with_reducible refine bla ?_ _ | with_reducible exact Below.refl _ _))


set_option maxRecDepth 100000 in
set_option maxHeartbeats 1000000 in
theorem simpleG_any (n : Int) (a : Option Addr) (l : List Ed) (c : Nat) (w : World) (hr : RdE w a l) (hI : ∀ e ∈ chg (fun e : Ed => e.1 != e.2.1) (fun e : Ed => e) l, InE e) (hl : l.length ≤ 500) :
    Calls Try.prog 24 #[GV n a l.length c] w fun e w' => ∃ a' c', e = .returned (GV n a' (canR (chg (fun e : Ed => e.1 != e.2.1) (fun e : Ed => e) l)).length c') ∧ Out w.heap.size w' a' c' (canR (chg (fun e : Ed => e.1 != e.2.1) (fun e : Ed => e) l)) ∧ Below w.heap.size w w' := by
  have HC := Lib.hid (fun W (hb : Below w.heap.size w W) => chgSimple n a l c W (hr.below hb) hI hl)
  generalize canR (chg (fun e : Ed => e.1 != e.2.1) (fun e : Ed => e) l) = R at HC ⊢
  go_enter Try.func24, Try.ntmps24
  go_wp2_with fail
  refine (HC.out _ (bl2 w _ _)).mono ?_
  rintro x w1 ⟨a', c', rfl, hrd, hb1⟩
  obtain ⟨⟨d1, o1⟩, rfl⟩ := regrown_of_below hb1
  go_wp2_with fail
  refine bodyPost_ret (v := GV n a' R.length c') ?_ rfl ⟨a', c', rfl, ?_, ?_⟩
  · simp [results, Try.results24, go_sem]
  · exact (Out.regrown (by simp) hrd).mono (by simp; omega)
  · exact (by repeat (first | with_reducible refine blg ?_ _ _ | with_reducible refine bla ?_ _ | with_reducible exact Below.refl _ _))


set_option maxRecDepth 100000 in
set_option maxHeartbeats 1000000 in
theorem plainG_any (n : Int) (a : Option Addr) (l : List Ed) (c : Nat) (w : World) (hr : RdE w a l) (hI : ∀ e ∈ chg (fun _ => true) plainE l, InE e) (hl : l.length ≤ 500) :
    Calls Try.prog 26 #[GV n a l.length c] w fun e w' => ∃ a' c', e = .returned (GV n a' (canR (chg (fun _ => true) plainE l)).length c') ∧ Out w.heap.size w' a' c' (canR (chg (fun _ => true) plainE l)) ∧ Below w.heap.size w w' := by
  have HC := Lib.hid (fun W (hb : Below w.heap.size w W) => chgPlain n a l c W (hr.below hb) hI hl)
  generalize canR (chg (fun _ => true) plainE l) = R at HC ⊢
  go_enter Try.func26, Try.ntmps26
  go_wp2_with fail
  refine (HC.out _ (bl2 w _ _)).mono ?_
  rintro x w1 ⟨a', c', rfl, hrd, hb1⟩
  obtain ⟨⟨d1, o1⟩, rfl⟩ := regrown_of_below hb1
  go_wp2_with fail
  refine bodyPost_ret (v := GV n a' R.length c') ?_ rfl ⟨a', c', rfl, ?_, ?_⟩
  · simp [results, Try.results26, go_sem]
  · exact (Out.regrown (by simp) hrd).mono (by simp; omega)
  · exact (by repeat (first | with_reducible refine blg ?_ _ _ | with_reducible refine bla ?_ _ | with_reducible exact Below.refl _ _))


set_option maxRecDepth 100000 in
set_option maxHeartbeats 1000000 in
theorem lowerG_any (n : Int) (a : Option Addr) (l : List Ed) (c : Nat) (w : World) (hr : RdE w a l) (hI : ∀ e ∈ chg (fun e : Ed => decide (e.2.1 < e.1)) (fun e : Ed => e) l, InE e) (hl : l.length ≤ 500) :
    Calls Try.prog 28 #[GV n a l.length c] w fun e w' => ∃ a' c', e = .returned (GV n a' (canR (chg (fun e : Ed => decide (e.2.1 < e.1)) (fun e : Ed => e) l)).length c') ∧ Out w.heap.size w' a' c' (canR (chg (fun e : Ed => decide (e.2.1 < e.1)) (fun e : Ed => e) l)) ∧ Below w.heap.size w w' := by
  have HC := Lib.hid (fun W (hb : Below w.heap.size w W) => chgLower n a l c W (hr.below hb) hI hl)
  generalize canR (chg (fun e : Ed => decide (e.2.1 < e.1)) (fun e : Ed => e) l) = R at HC ⊢
  go_enter Try.func28, Try.ntmps28
  go_wp2_with fail
  refine (HC.out _ (bl2 w _ _)).mono ?_
  rintro x w1 ⟨a', c', rfl, hrd, hb1⟩
  obtain ⟨⟨d1, o1⟩, rfl⟩ := regrown_of_below hb1
  go_wp2_with fail
  refine bodyPost_ret (v := GV n a' R.length c') ?_ rfl ⟨a', c', rfl, ?_, ?_⟩
  · simp [results, Try.results28, go_sem]
  · exact (Out.regrown (by simp) hrd).mono (by simp; omega)
  · exact (by repeat (first | with_reducible refine blg ?_ _ _ | with_reducible refine bla ?_ _ | with_reducible exact Below.refl _ _))
end Go.Proofs.Ytfaddlpemhifpaa
