/- Package flags: union, what is in both, what is in one and not in the other, of both. -/
import Derived.Test.YtccgpjhfgmonpaaDoorFl14
import Derived.Test.YtccgpjhfgmonpaaDoorFl9
namespace Go.Proofs.YtccgpjhfgmonpaaDoor
open Go.RowKit Go.Shelf Go.Sort
set_option linter.unusedVariables false

theorem union_any (p q : Nat → Bool) (a b : Option Addr) (n c m d : Nat) (w : World) (hr : RdW w a n (wd p)) (hs : RdW w b m (wd q)) (hn : n ≤ 100000) (hm : m ≤ 100000) :
    Calls Tryd.prog 33 #[.slice a n c, .slice b m d] w fun e w' => ∃ g, e = .returned (.slice (some ⟨g, 0, none⟩) (max n m) (max n m)) ∧ w.heap.size ≤ g ∧ CellsAt w' g 48 (cellsW (wd (orP (cutP p n) (cutP q m))) (max n m)).toArray ∧ Below w.heap.size w w' := by
  by_cases hnm : n < m
  · rw [show max n m = m by omega]
    have hlt : (n : Int) < (m : Int) := by omega
    have H := Lib.hid (together_any 57 orP p q a b n c m d m w (enters_of Tryd.func57 (by kernel_rfl) rfl) (fun i W => orF_any (cutP p n) (cutP q m) i W) hr hs hn hm (by omega))
    clear hr hs
    go_enter Tryd.func33, Tryd.ntmps33
    go_wp2_with fail
    refine H.out.mono ?_
    rintro e w' ⟨g, rfl, h⟩
    go_wp2
    go_ret
    exact ⟨g, rfl, h⟩
  · rw [show max n m = n by omega]
    have hlt : ¬ (n : Int) < (m : Int) := by omega
    have H := Lib.hid (together_any 57 orP p q a b n c m d n w (enters_of Tryd.func57 (by kernel_rfl) rfl) (fun i W => orF_any (cutP p n) (cutP q m) i W) hr hs hn hm (by omega))
    clear hr hs
    go_enter Tryd.func33, Tryd.ntmps33
    go_wp2_with fail
    refine H.out.mono ?_
    rintro e w' ⟨g, rfl, h⟩
    go_wp2
    go_ret
    exact ⟨g, rfl, h⟩

theorem both_any (p q : Nat → Bool) (a b : Option Addr) (n c m d : Nat) (w : World) (hr : RdW w a n (wd p)) (hs : RdW w b m (wd q)) (hn : n ≤ 100000) (hm : m ≤ 100000) :
    Calls Tryd.prog 35 #[.slice a n c, .slice b m d] w fun e w' => ∃ g, e = .returned (.slice (some ⟨g, 0, none⟩) (n) (n)) ∧ w.heap.size ≤ g ∧ CellsAt w' g 48 (cellsW (wd (andP (cutP p n) (cutP q m))) (n)).toArray ∧ Below w.heap.size w w' := by
  have H := Lib.hid (together_any 59 andP p q a b n c m d (n) w (enters_of Tryd.func59 (by kernel_rfl) rfl) (fun i W => andF_any (cutP p n) (cutP q m) i W) hr hs hn hm (by omega))
  clear hr hs
  go_enter Tryd.func35, Tryd.ntmps35
  go_wp2_with fail
  refine H.out.mono ?_
  rintro e w' ⟨g, rfl, h⟩
  go_wp2
  go_ret
  exact ⟨g, rfl, h⟩

theorem minus_any (p q : Nat → Bool) (a b : Option Addr) (n c m d : Nat) (w : World) (hr : RdW w a n (wd p)) (hs : RdW w b m (wd q)) (hn : n ≤ 100000) (hm : m ≤ 100000) :
    Calls Tryd.prog 37 #[.slice a n c, .slice b m d] w fun e w' => ∃ g, e = .returned (.slice (some ⟨g, 0, none⟩) (n) (n)) ∧ w.heap.size ≤ g ∧ CellsAt w' g 48 (cellsW (wd (lessP (cutP p n) (cutP q m))) (n)).toArray ∧ Below w.heap.size w w' := by
  have H := Lib.hid (together_any 60 lessP p q a b n c m d (n) w (enters_of Tryd.func60 (by kernel_rfl) rfl) (fun i W => lessF_any (cutP p n) (cutP q m) i W) hr hs hn hm (by omega))
  clear hr hs
  go_enter Tryd.func37, Tryd.ntmps37
  go_wp2_with fail
  refine H.out.mono ?_
  rintro e w' ⟨g, rfl, h⟩
  go_wp2
  go_ret
  exact ⟨g, rfl, h⟩

set_option maxRecDepth 100000 in
set_option maxHeartbeats 2000000 in
theorem runion1_loop (N : Nat) (hN : N ≤ 100000) (p q : Nat → Bool) (a b : Option Addr) (n c d : Nat) (w : World) (hr : RdW w a n (wd p)) (hs : RdW w b N (wd q)) (hn : n ≤ 100000)  (hk : n < N) :
    Calls Tryd.prog 34 #[.slice a n c, .slice b N d] w fun e w' => ∃ g, e = .returned (.slice (some ⟨g, 0, none⟩) N N) ∧ w.heap.size ≤ g ∧ CellsAt w' g 48 (cellsW (wd (orP (cutP p n) (cutP q N))) N).toArray ∧ Below w.heap.size w w' := by
  have hmk := make_words w N hN
  have hC0 : CellsAt (w.alloc (.cells (cellsW (fun _ => 0) N).toArray 48)) w.heap.size 48 (cellsW (fun _ => 0) N).toArray := World.alloc_heap_new w _
  have hB0 := bl1 w (.cells (cellsW (fun _ => 0) N).toArray 48)
  rw [cells_start (wd (orP (cutP p n) (cutP q N))) N] at hC0 hB0 hmk
  obtain ⟨cur, hcur⟩ : ∃ cur, cur = (cellsW (fun i => if i < 0 then wd (orP (cutP p n) (cutP q N)) i else 0) N).toArray := ⟨_, rfl⟩
  rw [← hcur] at hmk hB0
  have HC := Lib.hid hcur
  clear hcur
  have hlt0 : (n : Int) < (N : Int) := by omega
  clear hk
  go_enter Tryd.func34, Tryd.ntmps34
  go_wp2_with fail
  rw [← HC.out] at hC0
  obtain ⟨g, hg⟩ : ∃ g, g = w.heap.size := ⟨_, rfl⟩
  simp only [← hg] at hC0 ⊢
  generalize w.alloc (.cells cur 48) = V at hC0 hB0 ⊢
  clear hmk
  have HG := Lib.hid hg
  clear hg
  go_loopw [6] (fun y wr => ∃ k : Nat, k ≤ N ∧ y = .int .i64 k ∧ CellsAt wr g 48 (cellsW (fun i => if i < k then wd (orP (cutP p n) (cutP q N)) i else 0) N).toArray ∧ Below w.heap.size w wr) (fun y _ => N - (intOf y).toNat)
  case atStart => exact ⟨0, by omega, rfl, by rw [← HC.out]; exact hC0, hB0⟩
  case round =>
    clear hC0 hB0
    obtain ⟨k, hk, rfl, hC, hB⟩ := hrel
    by_cases hlt : k < N
    · have hk0 : (0 : Int) ≤ (k : Int) := by omega
      have hkN : (k : Int) < (N : Int) := by omega
      have hgl : w.heap.size ≤ g := Nat.le_of_eq HG.out.symm
      have hcell := cell_step hC hlt
      have hfr := hC.frozen k
      have HS := Lib.hid (set_step hC)
      have H1 := Lib.hid (rword_any a n c p k wr (hr.below hB) hn)
      have H2 := Lib.hid (rword_any b N d q k wr (hs.below hB) hN)
      have HV := bits_or_wd (cutP p n) (cutP q N) k
      generalize wd (cutP p n) k = X at H1 HV
      generalize wd (cutP q N) k = Y at H2 HV
      generalize wd (orP (cutP p n) (cutP q N)) k = Z at HV HS
      go_wp2_with fail
      refine H1.out.mono ?_
      rintro e w' ⟨rfl, rfl⟩
      go_wp2_with fail
      refine H2.out.mono ?_
      rintro e w' ⟨rfl, rfl⟩
      go_wp2
      refine ⟨?_, by simp [intOf]; omega⟩
      exact ⟨k + 1, by omega, by simp, HS.out, hB.setCell hgl _⟩
    · obtain rfl : k = N := by omega
      rw [cells_end] at hC
      go_wp2
      go_ret
      exact ⟨g, rfl, Nat.le_of_eq HG.out.symm, hC, hB⟩

set_option maxRecDepth 100000 in
set_option maxHeartbeats 2000000 in
theorem runion2_loop (N : Nat) (hN : N ≤ 100000) (p q : Nat → Bool) (a b : Option Addr) (c m d : Nat) (w : World) (hr : RdW w a N (wd p)) (hs : RdW w b m (wd q))  (hm : m ≤ 100000) (hk : m ≤ N) :
    Calls Tryd.prog 34 #[.slice a N c, .slice b m d] w fun e w' => ∃ g, e = .returned (.slice (some ⟨g, 0, none⟩) N N) ∧ w.heap.size ≤ g ∧ CellsAt w' g 48 (cellsW (wd (orP (cutP p N) (cutP q m))) N).toArray ∧ Below w.heap.size w w' := by
  have hmk := make_words w N hN
  have hC0 : CellsAt (w.alloc (.cells (cellsW (fun _ => 0) N).toArray 48)) w.heap.size 48 (cellsW (fun _ => 0) N).toArray := World.alloc_heap_new w _
  have hB0 := bl1 w (.cells (cellsW (fun _ => 0) N).toArray 48)
  rw [cells_start (wd (orP (cutP p N) (cutP q m))) N] at hC0 hB0 hmk
  obtain ⟨cur, hcur⟩ : ∃ cur, cur = (cellsW (fun i => if i < 0 then wd (orP (cutP p N) (cutP q m)) i else 0) N).toArray := ⟨_, rfl⟩
  rw [← hcur] at hmk hB0
  have HC := Lib.hid hcur
  clear hcur
  have hlt0 : ¬ (N : Int) < (m : Int) := by omega
  clear hk
  go_enter Tryd.func34, Tryd.ntmps34
  go_wp2_with fail
  rw [← HC.out] at hC0
  obtain ⟨g, hg⟩ : ∃ g, g = w.heap.size := ⟨_, rfl⟩
  simp only [← hg] at hC0 ⊢
  generalize w.alloc (.cells cur 48) = V at hC0 hB0 ⊢
  clear hmk
  have HG := Lib.hid hg
  clear hg
  go_loopw [6] (fun y wr => ∃ k : Nat, k ≤ N ∧ y = .int .i64 k ∧ CellsAt wr g 48 (cellsW (fun i => if i < k then wd (orP (cutP p N) (cutP q m)) i else 0) N).toArray ∧ Below w.heap.size w wr) (fun y _ => N - (intOf y).toNat)
  case atStart => exact ⟨0, by omega, rfl, by rw [← HC.out]; exact hC0, hB0⟩
  case round =>
    clear hC0 hB0
    obtain ⟨k, hk, rfl, hC, hB⟩ := hrel
    by_cases hlt : k < N
    · have hk0 : (0 : Int) ≤ (k : Int) := by omega
      have hkN : (k : Int) < (N : Int) := by omega
      have hgl : w.heap.size ≤ g := Nat.le_of_eq HG.out.symm
      have hcell := cell_step hC hlt
      have hfr := hC.frozen k
      have HS := Lib.hid (set_step hC)
      have H1 := Lib.hid (rword_any a N c p k wr (hr.below hB) hN)
      have H2 := Lib.hid (rword_any b m d q k wr (hs.below hB) hm)
      have HV := bits_or_wd (cutP p N) (cutP q m) k
      generalize wd (cutP p N) k = X at H1 HV
      generalize wd (cutP q m) k = Y at H2 HV
      generalize wd (orP (cutP p N) (cutP q m)) k = Z at HV HS
      go_wp2_with fail
      refine H1.out.mono ?_
      rintro e w' ⟨rfl, rfl⟩
      go_wp2_with fail
      refine H2.out.mono ?_
      rintro e w' ⟨rfl, rfl⟩
      go_wp2
      refine ⟨?_, by simp [intOf]; omega⟩
      exact ⟨k + 1, by omega, by simp, HS.out, hB.setCell hgl _⟩
    · obtain rfl : k = N := by omega
      rw [cells_end] at hC
      go_wp2
      go_ret
      exact ⟨g, rfl, Nat.le_of_eq HG.out.symm, hC, hB⟩

theorem runion_any (p q : Nat → Bool) (a b : Option Addr) (n c m d : Nat) (w : World) (hr : RdW w a n (wd p)) (hs : RdW w b m (wd q)) (hn : n ≤ 100000) (hm : m ≤ 100000) :
    Calls Tryd.prog 34 #[.slice a n c, .slice b m d] w fun e w' => ∃ g, e = .returned (.slice (some ⟨g, 0, none⟩) (max n m) (max n m)) ∧ w.heap.size ≤ g ∧ CellsAt w' g 48 (cellsW (wd (orP (cutP p n) (cutP q m))) (max n m)).toArray ∧ Below w.heap.size w w' := by
  by_cases hnm : n < m
  · rw [show max n m = m by omega]
    exact runion1_loop m hm p q a b n c d w hr hs hn hnm
  · rw [show max n m = n by omega]
    exact runion2_loop n hn p q a b c m d w hr hs hm (by omega)

set_option maxRecDepth 100000 in
set_option maxHeartbeats 2000000 in
theorem rboth_loop (N : Nat) (hN : N ≤ 100000) (p q : Nat → Bool) (a b : Option Addr) (c m d : Nat) (w : World) (hr : RdW w a N (wd p)) (hs : RdW w b m (wd q))  (hm : m ≤ 100000)  :
    Calls Tryd.prog 36 #[.slice a N c, .slice b m d] w fun e w' => ∃ g, e = .returned (.slice (some ⟨g, 0, none⟩) N N) ∧ w.heap.size ≤ g ∧ CellsAt w' g 48 (cellsW (wd (andP (cutP p N) (cutP q m))) N).toArray ∧ Below w.heap.size w w' := by
  have hmk := make_words w N hN
  have hC0 : CellsAt (w.alloc (.cells (cellsW (fun _ => 0) N).toArray 48)) w.heap.size 48 (cellsW (fun _ => 0) N).toArray := World.alloc_heap_new w _
  have hB0 := bl1 w (.cells (cellsW (fun _ => 0) N).toArray 48)
  rw [cells_start (wd (andP (cutP p N) (cutP q m))) N] at hC0 hB0 hmk
  obtain ⟨cur, hcur⟩ : ∃ cur, cur = (cellsW (fun i => if i < 0 then wd (andP (cutP p N) (cutP q m)) i else 0) N).toArray := ⟨_, rfl⟩
  rw [← hcur] at hmk hB0
  have HC := Lib.hid hcur
  clear hcur
  go_enter Tryd.func36, Tryd.ntmps36
  go_wp2_with fail
  rw [← HC.out] at hC0
  obtain ⟨g, hg⟩ : ∃ g, g = w.heap.size := ⟨_, rfl⟩
  simp only [← hg] at hC0 ⊢
  generalize w.alloc (.cells cur 48) = V at hC0 hB0 ⊢
  clear hmk
  have HG := Lib.hid hg
  clear hg
  go_loopw [6] (fun y wr => ∃ k : Nat, k ≤ N ∧ y = .int .i64 k ∧ CellsAt wr g 48 (cellsW (fun i => if i < k then wd (andP (cutP p N) (cutP q m)) i else 0) N).toArray ∧ Below w.heap.size w wr) (fun y _ => N - (intOf y).toNat)
  case atStart => exact ⟨0, by omega, rfl, by rw [← HC.out]; exact hC0, hB0⟩
  case round =>
    clear hC0 hB0
    obtain ⟨k, hk, rfl, hC, hB⟩ := hrel
    by_cases hlt : k < N
    · have hk0 : (0 : Int) ≤ (k : Int) := by omega
      have hkN : (k : Int) < (N : Int) := by omega
      have hgl : w.heap.size ≤ g := Nat.le_of_eq HG.out.symm
      have H2 := Lib.hid (fun W (h : Below wr.heap.size wr W) => rword_any b m d q k W ((hs.below hB).below h) hm)
      have HV := bits_and_wd (cutP p N) (cutP q m) k
      obtain ⟨b1, e1, l1, c1, _⟩ := (hr.below hB) k hlt
      subst e1
      rw [← cut_in p hlt] at c1
      have kb := Has.of l1
      have hgw : g < wr.heap.size := hC.lt
      obtain ⟨X, hX⟩ : ∃ X, X = wd (cutP p N) k := ⟨_, rfl⟩
      rw [← hX] at c1 HV
      obtain ⟨Y, hY⟩ : ∃ Y, Y = wd (cutP q m) k := ⟨_, rfl⟩
      simp only [← hY] at H2 HV
      have HV' := Lib.hid HV
      clear hX hY HV
      go_wp2_with fail
      refine wp_region_grown_tail 11 (by kernel_rfl) (by kernel_rfl) ?_
      simp only [List.take_succ_cons, List.take_zero, List.drop_succ_cons, List.drop_zero]
      repeat (go_big_quiet_step (first
        | (go_at_call 58; exact Calls.regrown_of ((H2.out _ (by repeat (first | with_reducible refine blg ?_ _ _ | with_reducible refine bla ?_ _ | with_reducible exact Below.refl _ _))).mono fun _ _ ⟨h1, h2⟩ => ⟨h1, h2 ▸ Below.refl _ _⟩))))
      refine wpQuiet_nil ?_
      rintro _ ⟨⟨d3, o3⟩, rfl⟩
      have hC2 := hC.below (below_regrown wr d3 o3)
      have hb2 := hB.trans ((below_regrown wr d3 o3).mono hB.size)
      generalize grow (redrawn wr d3) o3 = U at hC2 hb2 ⊢
      have hcell := cell_step hC2 hlt
      have hfr := hC2.frozen k
      have HS := Lib.hid (set_step hC2)
      clear hC hB c1
      have HV := HV'.out
      generalize wd (andP (cutP p N) (cutP q m)) k = Z at HV HS
      go_wp2
      refine ⟨?_, by simp [intOf]; omega⟩
      exact ⟨k + 1, by omega, by simp, HS.out, hb2.setCell hgl _⟩
    · obtain rfl : k = N := by omega
      rw [cells_end] at hC
      go_wp2
      go_ret
      exact ⟨g, rfl, Nat.le_of_eq HG.out.symm, hC, hB⟩

set_option maxRecDepth 100000 in
set_option maxHeartbeats 2000000 in
theorem rminus_loop (N : Nat) (hN : N ≤ 100000) (p q : Nat → Bool) (a b : Option Addr) (c m d : Nat) (w : World) (hr : RdW w a N (wd p)) (hs : RdW w b m (wd q))  (hm : m ≤ 100000)  :
    Calls Tryd.prog 38 #[.slice a N c, .slice b m d] w fun e w' => ∃ g, e = .returned (.slice (some ⟨g, 0, none⟩) N N) ∧ w.heap.size ≤ g ∧ CellsAt w' g 48 (cellsW (wd (lessP (cutP p N) (cutP q m))) N).toArray ∧ Below w.heap.size w w' := by
  have hmk := make_words w N hN
  have hC0 : CellsAt (w.alloc (.cells (cellsW (fun _ => 0) N).toArray 48)) w.heap.size 48 (cellsW (fun _ => 0) N).toArray := World.alloc_heap_new w _
  have hB0 := bl1 w (.cells (cellsW (fun _ => 0) N).toArray 48)
  rw [cells_start (wd (lessP (cutP p N) (cutP q m))) N] at hC0 hB0 hmk
  obtain ⟨cur, hcur⟩ : ∃ cur, cur = (cellsW (fun i => if i < 0 then wd (lessP (cutP p N) (cutP q m)) i else 0) N).toArray := ⟨_, rfl⟩
  rw [← hcur] at hmk hB0
  have HC := Lib.hid hcur
  clear hcur
  go_enter Tryd.func38, Tryd.ntmps38
  go_wp2_with fail
  rw [← HC.out] at hC0
  obtain ⟨g, hg⟩ : ∃ g, g = w.heap.size := ⟨_, rfl⟩
  simp only [← hg] at hC0 ⊢
  generalize w.alloc (.cells cur 48) = V at hC0 hB0 ⊢
  clear hmk
  have HG := Lib.hid hg
  clear hg
  go_loopw [6] (fun y wr => ∃ k : Nat, k ≤ N ∧ y = .int .i64 k ∧ CellsAt wr g 48 (cellsW (fun i => if i < k then wd (lessP (cutP p N) (cutP q m)) i else 0) N).toArray ∧ Below w.heap.size w wr) (fun y _ => N - (intOf y).toNat)
  case atStart => exact ⟨0, by omega, rfl, by rw [← HC.out]; exact hC0, hB0⟩
  case round =>
    clear hC0 hB0
    obtain ⟨k, hk, rfl, hC, hB⟩ := hrel
    by_cases hlt : k < N
    · have hk0 : (0 : Int) ≤ (k : Int) := by omega
      have hkN : (k : Int) < (N : Int) := by omega
      have hgl : w.heap.size ≤ g := Nat.le_of_eq HG.out.symm
      have H2 := Lib.hid (fun W (h : Below wr.heap.size wr W) => rword_any b m d q k W ((hs.below hB).below h) hm)
      have HV := bits_less_wd (cutP p N) (cutP q m) k
      obtain ⟨b1, e1, l1, c1, _⟩ := (hr.below hB) k hlt
      subst e1
      rw [← cut_in p hlt] at c1
      have kb := Has.of l1
      have hgw : g < wr.heap.size := hC.lt
      obtain ⟨X, hX⟩ : ∃ X, X = wd (cutP p N) k := ⟨_, rfl⟩
      rw [← hX] at c1 HV
      obtain ⟨Y, hY⟩ : ∃ Y, Y = wd (cutP q m) k := ⟨_, rfl⟩
      simp only [← hY] at H2 HV
      have HV' := Lib.hid HV
      clear hX hY HV
      go_wp2_with fail
      refine wp_region_grown_tail 11 (by kernel_rfl) (by kernel_rfl) ?_
      simp only [List.take_succ_cons, List.take_zero, List.drop_succ_cons, List.drop_zero]
      repeat (go_big_quiet_step (first
        | (go_at_call 58; exact Calls.regrown_of ((H2.out _ (by repeat (first | with_reducible refine blg ?_ _ _ | with_reducible refine bla ?_ _ | with_reducible exact Below.refl _ _))).mono fun _ _ ⟨h1, h2⟩ => ⟨h1, h2 ▸ Below.refl _ _⟩))))
      refine wpQuiet_nil ?_
      rintro _ ⟨⟨d3, o3⟩, rfl⟩
      have hC2 := hC.below (below_regrown wr d3 o3)
      have hb2 := hB.trans ((below_regrown wr d3 o3).mono hB.size)
      generalize grow (redrawn wr d3) o3 = U at hC2 hb2 ⊢
      have hcell := cell_step hC2 hlt
      have hfr := hC2.frozen k
      have HS := Lib.hid (set_step hC2)
      clear hC hB c1
      have HV := HV'.out
      generalize wd (lessP (cutP p N) (cutP q m)) k = Z at HV HS
      go_wp2
      refine ⟨?_, by simp [intOf]; omega⟩
      exact ⟨k + 1, by omega, by simp, HS.out, hb2.setCell hgl _⟩
    · obtain rfl : k = N := by omega
      rw [cells_end] at hC
      go_wp2
      go_ret
      exact ⟨g, rfl, Nat.le_of_eq HG.out.symm, hC, hB⟩
end Go.Proofs.YtccgpjhfgmonpaaDoor
