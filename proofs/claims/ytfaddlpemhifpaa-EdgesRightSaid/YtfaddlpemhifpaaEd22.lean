/- Package edges: the statement EdgesRight. -/
import Derived.Deep.RegionHeld3
import Derived.Test.YtfaddlpemhifpaaEd18
namespace Go.Proofs.Ytfaddlpemhifpaa
open Go.RowKit Go.Sort
set_option linter.unusedVariables false
set_option linter.unusedSimpArgs false

def cmbL (r : Int) (l : List Ed) : List Ed := (combR r l).1
def cmbE (r : Int) (l : List Ed) : Int := (combR r l).2
theorem canS_len2 (r : Int) (l : List Ed) : (cmbL r l).length ≤ l.length := by
  unfold cmbL combR
  have := canS_length r l
  split
  · split
    · simpa using this
    · simp
  · simp
theorem k_comb (r : Int) (a : Option Addr) (l : List Ed) (c : Nat) (W : World) (ho : Ou W a c l) (hI : ∀ e ∈ l, InE e) (hl : l.length ≤ 400) : Calls Try.prog 12 #[.int .i64 r, .slice a l.length c] W fun e w' => ∃ a' c', e = .returned (.tuple #[.slice a' (cmbL r l).length c', .int .i64 (cmbE r l)]) ∧ RdE w' a' (cmbL r l) ∧ Below W.heap.size W w' := by
  refine (combine_any r a l c W ho.1 ho.2 hI (by omega)).mono ?_
  rintro e w' ⟨a', c', rfl, hO, hb⟩
  exact ⟨a', c', rfl, hO.1, hb⟩
theorem k_rcomb (r : Int) (a : Option Addr) (l : List Ed) (c : Nat) (W : World) (ho : Ou W a c l) (hI : ∀ e ∈ l, InE e) (hl : l.length ≤ 400) : Calls Try.prog 13 #[.int .i64 r, .slice a l.length c] W fun e w' => ∃ a' c', e = .returned (.tuple #[.slice a' (cmbL r l).length c', .int .i64 (cmbE r l)]) ∧ RdE w' a' (cmbL r l) ∧ Below W.heap.size W w' := by
  cases h : isR r
  · have hc : combR r l = ([], 8) := combR_bad h l
    refine (refCombine_bad r a l c W h).mono ?_
    rintro e w' ⟨rfl, hb⟩
    refine ⟨none, 0, ?_, ?_, hb⟩
    · simp [cmbL, cmbE, hc]
    · intro i hi; simp [cmbL, hc] at hi
  · refine (refCombine_ok r a l c W h ho.1 hI (by omega)).mono ?_
    rintro e w' ⟨v, rfl, hown, hb⟩
    obtain ⟨_, a', c', rfl, _, hrd, hz'⟩ := row_rdE hown
    exact ⟨a', c', rfl, hrd, hb⟩
theorem k_same (a b : Option Addr) (l : List Ed) (c d : Nat) (W : World) (h1 : RdE W a l) (h2 : RdE W b l) (hl : l.length ≤ 1000) : Calls Try.prog 16 #[.slice a l.length c, .slice b l.length d] W fun e w' => e = .returned (.bool true) ∧ Below W.heap.size W w' := by
  have H := sameEdges_any a b l l c d W h1 h2 (by omega) (by omega)
  rw [decide_eq_true rfl] at H
  exact H

set_option maxRecDepth 100000 in
set_option maxHeartbeats 1000000 in
theorem right_long (n : Int) (a : Option Addr) (l : List Ed) (c : Nat) (w : World) (hr : RdE w a l) (hl : 65536 < (l.length : Int)) : Calls Try.prog 8 #[GV n a l.length c] w fun e w' => e = .returned (.int .i64 (rightE n l)) ∧ Below w.heap.size w w' := by
  obtain ⟨v, hv⟩ : ∃ v, v = rightE n l := ⟨_, rfl⟩
  rw [← hv]
  have HV := Lib.hid hv
  clear hv
  by_cases h0 : n < 0
  · go_enter Try.func8, Try.ntmps8
    go_wp2
    go_ret
    exact ⟨by rw [HV.out, rightE, if_pos h0]; rfl, (by repeat (first | with_reducible refine blg ?_ _ _ | with_reducible refine bla ?_ _ | with_reducible exact Below.refl _ _))⟩
  · by_cases h1 : 4096 < n
    · go_enter Try.func8, Try.ntmps8
      go_wp2
      go_ret
      exact ⟨by rw [HV.out, rightE, if_neg (by omega), if_pos (.inl h1)]; rfl, (by repeat (first | with_reducible refine blg ?_ _ _ | with_reducible refine bla ?_ _ | with_reducible exact Below.refl _ _))⟩
    · go_enter Try.func8, Try.ntmps8
      go_wp2
      go_ret
      exact ⟨by rw [HV.out, rightE, if_neg (by omega), if_pos (.inr (by omega))]; rfl, (by repeat (first | with_reducible refine blg ?_ _ _ | with_reducible refine bla ?_ _ | with_reducible exact Below.refl _ _))⟩

set_option maxRecDepth 100000 in
set_option maxHeartbeats 1000000 in
theorem refRight_long (n : Int) (a : Option Addr) (l : List Ed) (c : Nat) (w : World) (hr : RdE w a l) (hl : 65536 < (l.length : Int)) : Calls Try.prog 10 #[GV n a l.length c] w fun e w' => e = .returned (.int .i64 (rightE n l)) ∧ Below w.heap.size w w' := by
  obtain ⟨v, hv⟩ : ∃ v, v = rightE n l := ⟨_, rfl⟩
  rw [← hv]
  have HV := Lib.hid hv
  clear hv
  by_cases h0 : n < 0
  · go_enter Try.func10, Try.ntmps10
    go_wp2
    go_ret
    exact ⟨by rw [HV.out, rightE, if_pos h0]; rfl, (by repeat (first | with_reducible refine blg ?_ _ _ | with_reducible refine bla ?_ _ | with_reducible exact Below.refl _ _))⟩
  · by_cases h1 : 4096 < n
    · go_enter Try.func10, Try.ntmps10
      go_wp2
      go_ret
      exact ⟨by rw [HV.out, rightE, if_neg (by omega), if_pos (.inl h1)]; rfl, (by repeat (first | with_reducible refine blg ?_ _ _ | with_reducible refine bla ?_ _ | with_reducible exact Below.refl _ _))⟩
    · go_enter Try.func10, Try.ntmps10
      go_wp2
      go_ret
      exact ⟨by rw [HV.out, rightE, if_neg (by omega), if_pos (.inr (by omega))]; rfl, (by repeat (first | with_reducible refine blg ?_ _ _ | with_reducible refine bla ?_ _ | with_reducible exact Below.refl _ _))⟩

attribute [local irreducible] mC mT mB mS mP mL cntsR few cmbL cmbE rightE risB

set_option maxRecDepth 100000 in
set_option maxHeartbeats 4000000 in
theorem edgesRight_law (HL : ∀ W : World, Calls Try.prog 9 #[] W fun e w' => e = .returned (.bool true) ∧ Below W.heap.size W w') (n r : Int) (a : Option Addr) (l : List Ed) (c : Nat) (w : World) (hn : In64 n) (hC : Came w a l c) :
    Calls Try.prog 3 #[GV n a l.length c, .int .i64 r] w fun e w' => e = .returned (.bool true) ∧ Below w.heap.size w w' := by
  by_cases h1 : 65536 < (l.length : Int)
  · have HF := Lib.hid (fun W => few_any n a l c W hC.2.2.1 hC.2.2.2.1 hC.2.2.2.2)
    have HC := Lib.hid hC
    clear hC
    go_enter Try.func3, Try.ntmps3
    have HR := Lib.hid (fun W (hb : Below w.heap.size w W) => right_long n a l c W (HC.out.1.below hb) h1)
    have HR2 := Lib.hid (fun W (hb : Below w.heap.size w W) => refRight_long n a l c W (HC.out.1.below hb) h1)
    generalize rightE n l = rv at HR HR2
    go_wp2_with fail
    refine (HR.out _ (bl1 w _)).mono ?_
    rintro x w1 ⟨rfl, hb1⟩
    obtain ⟨⟨d1, o1⟩, rfl⟩ := regrown_of_below hb1
    clear hb1
    go_wp2_with fail
    refine (HR2.out _ (blg (bl1 w _) _ _)).mono ?_
    rintro x w1 ⟨rfl, hb1⟩
    obtain ⟨⟨d2, o2⟩, rfl⟩ := regrown_of_below hb1
    clear hb1
    go_wp2_with fail
    refine (HF.out _).mono ?_
    rintro x w1 ⟨rfl, hb1⟩
    have hX0 : CellsAt (w.alloc (.cells #[.int .i64 n, .slice a l.length c] 24)) w.heap.size 24 #[.int .i64 n, .slice a l.length c] := World.alloc_heap_new _ _
    have hbg := blg (bl1 w (.cells #[.int .i64 n, .slice a l.length c] 24)) d2 (o1 ++ o2)
    have hX1 := (hX0.below (below_regrown _ d2 (o1 ++ o2))).below hb1
    have hbw := hbg.trans (hb1.mono hbg.size)
    have q0 : w1.cell? ⟨w.heap.size, 0, none⟩ = some (.int .i64 n) := hX1.cell 0
    have q1 : w1.cell? ⟨w.heap.size, 1, none⟩ = some (.slice a l.length c) := hX1.cell 1
    have f0 := hX1.frozen 0
    have f1 := hX1.frozen 1
    have kX := Has.of hX1.lt
    clear hX0 hb1
    obtain ⟨V, hV⟩ : ∃ V, V = (w1.setCell ⟨w.heap.size, 0, none⟩ (.int .i64 n)).setCell ⟨w.heap.size, 1, none⟩ (.slice a (few l).length c) := ⟨_, rfl⟩
    have hXV : CellsAt V w.heap.size 24 #[.int .i64 n, .slice a (few l).length c] := by
      rw [hV]; simpa using (hX1.set 0 (.int .i64 n)).set 1 (.slice a (few l).length c)
    have hbV : Below w.heap.size w V := by rw [hV]; exact bls (bls hbw (Nat.le_refl _) _) (Nat.le_refl _) _
    have hG := gd_new w n a l c V HC.out hXV hbV
    have hVh := Lib.hid hV
    clear hV hX1 hXV hbV hbw
    generalize few l = m at hG hVh HF ⊢
    generalize w.heap.size = X at hG q0 q1 f0 f1 kX hVh ⊢
    go_wp2_with fail
    rw [← hVh.out]
    clear hVh q0 q1 f0 f1 kX HF HC HR HR2 hbg
    refine (k_comb r a m c _ hG.ou hG.ins (by have := hG.len; omega)).mono ?_
    rintro x V2 ⟨a1, c1, rfl, hA, hb⟩
    have hG := hG.below hb
    clear hb
    have e0 := hG.two.1
    have e1 := hG.two.2
    go_wp2_with fail
    clear e0 e1
    refine (k_rcomb r a m c _ hG.ou hG.ins (by have := hG.len; omega)).mono ?_
    rintro x V3 ⟨a2, c2, rfl, hA2, hb⟩
    have hG := hG.below hb
    have hA := hA.below hb
    clear hb
    obtain ⟨e0, e1⟩ := hG.two
    go_wp2_with fail
    have HRi := Lib.hid (fun W (h : RdE W a m) (hl : m.length ≤ 60) => rises_any a m c W h (by omega))
    have HRj := Lib.hid (fun W (h : RdE W a m) (hl : m.length ≤ 60) => refRises_any a m c W h (by omega))
    generalize risB m = rb at HRi HRj
    go_region_held3 (fun w' => w'.cell? ⟨X, 0, none⟩ = some (.int .i64 n) ∧ w'.cell? ⟨X, 1, none⟩ = some (.slice a m.length c))
      (first | exact ⟨e0, e1⟩ | (simp only [World.cell?_drew]; exact ⟨e0, e1⟩) | exact hG4.two | exact hG3.two | exact hG2.two | exact hG1.two)
      (first
        | (go_at_call 16; refine (k_same a1 a2 (cmbL r m) c1 c2 _ hA hA2 (by have := hG3.len; have := canS_len2 r m; omega)).mono ?_; rintro x L ⟨rfl, hb⟩; have hG4 := hG3.below hb; clear hb)
        | (go_at_call 15; refine (HRj.out _ hG2.ou.1 hG2.len).mono ?_; rintro x L ⟨rfl, hb⟩; have hG3 := hG2.below hb; replace hA := hA.below hb; replace hA2 := hA2.below hb; clear hb)
        | (go_at_call 14; refine (HRi.out _ hG1.ou.1 hG1.len).mono ?_; rintro x L ⟨rfl, hb⟩; have hG2 := hG1.below hb; replace hA := hA.below hb; replace hA2 := hA2.below hb; clear hb)
        | (go_at_call 9; refine (HL _).mono ?_; rintro x L ⟨rfl, hb⟩; have hb := Below.trans (Below.refl _ V3).drew hb; have hG1 := hG.below hb; replace hA := hA.below hb; replace hA2 := hA2.below hb; clear hb))
    go_wp2_with fail
    go_ret
    exact ⟨rfl, hG4.bel⟩
  · by_cases h2 : 200 < (l.length : Int)
    · have HF := Lib.hid (fun W => few_any n a l c W hC.2.2.1 hC.2.2.2.1 hC.2.2.2.2)
      have HC := Lib.hid hC
      clear hC
      go_enter Try.func3, Try.ntmps3
      have HR := Lib.hid (fun W (hb : Below w.heap.size w W) => right_any n a l c W (HC.out.1.below hb) (by omega))
      have HR2 := Lib.hid (fun W (hb : Below w.heap.size w W) => refRight_any n a l c W (HC.out.1.below hb) (by omega))
      generalize rightE n l = rv at HR HR2
      go_wp2_with fail
      refine (HR.out _ (bl1 w _)).mono ?_
      rintro x w1 ⟨rfl, hb1⟩
      obtain ⟨⟨d1, o1⟩, rfl⟩ := regrown_of_below hb1
      clear hb1
      go_wp2_with fail
      refine (HL _).mono ?_
      rintro x w2 ⟨rfl, hb⟩
      have hg := blg (bl1 w (.cells #[.int .i64 n, .slice a l.length c] 24)) d1 o1
      have hb2 := Below.trans hg (hb.mono hg.size)
      go_wp2_with fail
      go_ret
      exact ⟨rfl, hb2⟩
    · have HF := Lib.hid (fun W => few_any n a l c W hC.2.2.1 hC.2.2.2.1 hC.2.2.2.2)
      have HC := Lib.hid hC
      clear hC
      go_enter Try.func3, Try.ntmps3
      have HR := Lib.hid (fun W (hb : Below w.heap.size w W) => right_any n a l c W (HC.out.1.below hb) (by omega))
      have HR2 := Lib.hid (fun W (hb : Below w.heap.size w W) => refRight_any n a l c W (HC.out.1.below hb) (by omega))
      generalize rightE n l = rv at HR HR2
      go_wp2_with fail
      refine (HR.out _ (bl1 w _)).mono ?_
      rintro x w1 ⟨rfl, hb1⟩
      obtain ⟨⟨d1, o1⟩, rfl⟩ := regrown_of_below hb1
      clear hb1
      go_wp2_with fail
      refine (HR2.out _ (blg (bl1 w _) _ _)).mono ?_
      rintro x w1 ⟨rfl, hb1⟩
      obtain ⟨⟨d2, o2⟩, rfl⟩ := regrown_of_below hb1
      clear hb1
      go_wp2_with fail
      refine (HF.out _).mono ?_
      rintro x w1 ⟨rfl, hb1⟩
      have hX0 : CellsAt (w.alloc (.cells #[.int .i64 n, .slice a l.length c] 24)) w.heap.size 24 #[.int .i64 n, .slice a l.length c] := World.alloc_heap_new _ _
      have hbg := blg (bl1 w (.cells #[.int .i64 n, .slice a l.length c] 24)) d2 (o1 ++ o2)
      have hX1 := (hX0.below (below_regrown _ d2 (o1 ++ o2))).below hb1
      have hbw := hbg.trans (hb1.mono hbg.size)
      have q0 : w1.cell? ⟨w.heap.size, 0, none⟩ = some (.int .i64 n) := hX1.cell 0
      have q1 : w1.cell? ⟨w.heap.size, 1, none⟩ = some (.slice a l.length c) := hX1.cell 1
      have f0 := hX1.frozen 0
      have f1 := hX1.frozen 1
      have kX := Has.of hX1.lt
      clear hX0 hb1
      obtain ⟨V, hV⟩ : ∃ V, V = (w1.setCell ⟨w.heap.size, 0, none⟩ (.int .i64 n)).setCell ⟨w.heap.size, 1, none⟩ (.slice a (few l).length c) := ⟨_, rfl⟩
      have hXV : CellsAt V w.heap.size 24 #[.int .i64 n, .slice a (few l).length c] := by
        rw [hV]; simpa using (hX1.set 0 (.int .i64 n)).set 1 (.slice a (few l).length c)
      have hbV : Below w.heap.size w V := by rw [hV]; exact bls (bls hbw (Nat.le_refl _) _) (Nat.le_refl _) _
      have hG := gd_new w n a l c V HC.out hXV hbV
      have hVh := Lib.hid hV
      clear hV hX1 hXV hbV hbw
      generalize few l = m at hG hVh HF ⊢
      generalize w.heap.size = X at hG q0 q1 f0 f1 kX hVh ⊢
      go_wp2_with fail
      rw [← hVh.out]
      clear hVh q0 q1 f0 f1 kX HF HC HR HR2 hbg
      refine (k_comb r a m c _ hG.ou hG.ins (by have := hG.len; omega)).mono ?_
      rintro x V2 ⟨a1, c1, rfl, hA, hb⟩
      have hG := hG.below hb
      clear hb
      have e0 := hG.two.1
      have e1 := hG.two.2
      go_wp2_with fail
      clear e0 e1
      refine (k_rcomb r a m c _ hG.ou hG.ins (by have := hG.len; omega)).mono ?_
      rintro x V3 ⟨a2, c2, rfl, hA2, hb⟩
      have hG := hG.below hb
      have hA := hA.below hb
      clear hb
      obtain ⟨e0, e1⟩ := hG.two
      go_wp2_with fail
      have HRi := Lib.hid (fun W (h : RdE W a m) (hl : m.length ≤ 60) => rises_any a m c W h (by omega))
      have HRj := Lib.hid (fun W (h : RdE W a m) (hl : m.length ≤ 60) => refRises_any a m c W h (by omega))
      generalize risB m = rb at HRi HRj
      go_region_held3 (fun w' => w'.cell? ⟨X, 0, none⟩ = some (.int .i64 n) ∧ w'.cell? ⟨X, 1, none⟩ = some (.slice a m.length c))
        (first | exact ⟨e0, e1⟩ | (simp only [World.cell?_drew]; exact ⟨e0, e1⟩) | exact hG4.two | exact hG3.two | exact hG2.two | exact hG1.two)
        (first
          | (go_at_call 16; refine (k_same a1 a2 (cmbL r m) c1 c2 _ hA hA2 (by have := hG3.len; have := canS_len2 r m; omega)).mono ?_; rintro x L ⟨rfl, hb⟩; have hG4 := hG3.below hb; clear hb)
          | (go_at_call 15; refine (HRj.out _ hG2.ou.1 hG2.len).mono ?_; rintro x L ⟨rfl, hb⟩; have hG3 := hG2.below hb; replace hA := hA.below hb; replace hA2 := hA2.below hb; clear hb)
          | (go_at_call 14; refine (HRi.out _ hG1.ou.1 hG1.len).mono ?_; rintro x L ⟨rfl, hb⟩; have hG2 := hG1.below hb; replace hA := hA.below hb; replace hA2 := hA2.below hb; clear hb)
          | (go_at_call 9; refine (HL _).mono ?_; rintro x L ⟨rfl, hb⟩; have hb := Below.trans (Below.refl _ V3).drew hb; have hG1 := hG.below hb; replace hA := hA.below hb; replace hA2 := hA2.below hb; clear hb))
      go_wp2_with fail
      go_ret
      exact ⟨rfl, hG4.bel⟩
end Go.Proofs.Ytfaddlpemhifpaa
