/- Package part: the reference's segments: the walk. -/
import Derived.Test.YtphgkgpkallgeaaPart14
namespace Go.Proofs.Ytphgkgpkallgeaa
open Go.RowKit Go.Shelf Go.Sort
set_option linter.unusedVariables false

attribute [local irreducible] lowV mayB sizeV mostV placeV rowV colV ofV worksB
set_option maxRecDepth 100000 in
set_option maxHeartbeats 2000000 in
theorem refSegments_of (n r c : Int) (hr : mayB n r = true) (hc : mayB n c = true) (w : World) :
    Calls Try.prog 25 #[.int .i64 n, .int .i64 r, .int .i64 c] w fun e w' => ∃ v, e = .returned v ∧ w'.ownsRow w.heap.size 32 4 v (segsV n r c).length (rowS (segsV n r c)) ∧ Below w.heap.size w w' := by
  have m1 := may_un hr
  have m2 := may_un hc
  obtain ⟨i0, hi, hz0, hz1, hz2⟩ := info_parts infoSeg
  have HR := Lib.hid hr
  have HC := Lib.hid hc
  clear hr hc
  go_enter Try.func25, Try.ntmps25
  go_wp2_with fail
  refine (refMay_to n r true _ HR.out.symm).mono ?_
  rintro e w1 ⟨rfl, hb1⟩
  go_wp2_with fail
  refine (refMay_to n c true _ HC.out.symm).mono ?_
  rintro e w2 ⟨rfl, hb2⟩
  have hb3 : Below w.heap.size w w2 := hb1.trans (hb2.mono hb1.size)
  clear hb1 hb2
  go_wp2_with fail
  go_loopw [7, 8] (fun v z wr => ∃ (out : List Seg) (a : Nat), z = .int .i64 a ∧ (a : Int) ≤ n ∧ Hid (RefAt n r c a out) ∧ Below w.heap.size w wr ∧ wr.ownsRow w.heap.size 32 4 v out.length (rowS out)) (fun _ z _ => n.toNat - (intOf z).toNat)
  case atStart =>
    exact ⟨[], 0, rfl, by omega, Lib.hid (.inl ⟨rfl, rfl⟩), hb3, World.ownsRow_nil _ _ _ _⟩
  case round =>
    obtain ⟨out, a, rfl, han, hA, hB, hrow⟩ := hrel
    by_cases hlt : (a : Int) < n
    · have hlen := ref_len HR.out HC.out hA.out (by omega)
      obtain ⟨R, hR0⟩ : ∃ R, R = ofV n r a := ⟨_, rfl⟩
      obtain ⟨C, hC0⟩ : ∃ C, C = ofV n c a := ⟨_, rfl⟩
      have OR := Lib.hid (show ∀ w : World, Calls Try.prog 16 #[.int .i64 n, .int .i64 r, .int .i64 (a : Int)] w (fun e w' => e = .returned (.int .i64 R) ∧ Below w.heap.size w w') from fun w => by rw [hR0]; exact refOf_any n r a w)
      have OC := Lib.hid (show ∀ w : World, Calls Try.prog 16 #[.int .i64 n, .int .i64 c, .int .i64 (a : Int)] w (fun e w' => e = .returned (.int .i64 C) ∧ Below w.heap.size w w') from fun w => by rw [hC0]; exact refOf_any n c a w)
      have HR0 := Lib.hid hR0
      have HC0 := Lib.hid hC0
      clear hR0 hC0
      obtain ⟨bs, cap, rfl, cel⟩ := rowK (W' := w1) (b := 0) hrow
      rcases List.eq_nil_or_concat out with rfl | ⟨pre, s, rfl⟩
      · simp only [List.length_nil] at hrow cel ⊢
        go_wp2_with fail
        refine (OR.out _).mono ?_
        rintro e V1 ⟨rfl, hb1⟩
        go_wp2_with fail
        refine (OC.out _).mono ?_
        rintro e V ⟨rfl, hb2⟩
        have hb4 : Below wr.heap.size wr V := hb1.trans (hb2.mono hb1.size)
        have hV : Below w.heap.size w V := hB.trans (hb4.mono hB.size)
        have rV : V.ownsRow w.heap.size 32 4 (.slice bs 0 cap) (0) (rowS ([])) := hrow.kept (grownBy_of_below hb4) (by cases bs <;> simp [Value.ownBlock])
        clear OR OC hrow hB hb1 hb2 hb4
        go_wp2_with (refine wpList_append_own _ rfl _ _ 27 rfl w.heap.size 32 i0 (.agg #[.int .i64 0, .int .i64 0, .int .i64 0, .int .i64 0]) 4 32 Try.underlying27 hi hz0 hz1 hz2 rfl (by decide) _ _ _ rfl (rV.alloc _) ⟨V.heap.size, 0, none⟩ 1 1 [.int .i64 a, .int .i64 (a + 1), .int .i64 R, .int .i64 C] rfl rfl (cell_four_new _ _ _ _ _ _) (by simp [Value.oneCell']) (by unfold maxLen; omega) (by omega) (by have := hV.size; simp; omega) ?_; intro v' V2 hown' hgrow _; obtain ⟨g', cap', rfl⟩ := ownsRow_succ hown')
        refine ⟨?_, by simp [intOf]; omega⟩
        exact ⟨[⟨a, a + 1, R, C⟩], a + 1, by simp, by omega, Lib.hid (by have := ref_first HR.out HC.out hA.out hlt; rw [← HR0.out, ← HC0.out] at this; simpa using this), hV.trans (((Below.refl _ V).alloc hV.size _).grown hgrow (by have := hV.size; simp; omega) (fun j e => (rV.lt j e).1)), by simpa [rowS] using hown'⟩
      · rw [List.concat_eq_append] at hrow cel hA hlen ⊢
        obtain ⟨g, rfl⟩ : ∃ g, bs = some ⟨g, 0, none⟩ := by
          obtain ⟨g, hg, _⟩ := cel _ _ (rowS_at pre s []).1
          exact ⟨g, hg⟩
        simp only [List.length_append, List.length_cons, List.length_nil, Nat.zero_add] at hrow cel hA hlen ⊢
        go_wp2_with fail
        refine (OR.out _).mono ?_
        rintro e V1 ⟨rfl, hb1⟩
        go_wp2_with fail
        refine (OC.out _).mono ?_
        rintro e V ⟨rfl, hb2⟩
        have hb4 : Below wr.heap.size wr V := hb1.trans (hb2.mono hb1.size)
        have hV : Below w.heap.size w V := hB.trans (hb4.mono hB.size)
        have rV : V.ownsRow w.heap.size 32 4 (.slice (some ⟨g, 0, none⟩) (pre.length + 1) cap) ((pre.length + 1)) (rowS (pre ++ [s])) := hrow.kept (grownBy_of_below hb4) (by cases (none : Option Addr) <;> simp [Value.ownBlock])
        clear OR OC hrow hB hb1 hb2 hb4
        have x0 := rV.cellAt (pre.length * 4 + 2) (by omega)
        have x1 := rV.cellAt (pre.length * 4 + 3) (by omega)
        have x2 := rV.cellAt (pre.length * 4 + 1) (by omega)
        have f2 := rV.frozenAt (pre.length * 4 + 1)
        rw [(rowS_at pre s []).2.1] at x2
        rw [(rowS_at pre s []).2.2.1] at x0
        rw [(rowS_at pre s []).2.2.2] at x1
        by_cases hs : s.r = R ∧ s.c = C
        · obtain ⟨rfl, rfl⟩ := hs
          go_wp2_with fail
          have hst := rV.stored (pre.length * 4 + 1) (.int .i64 (a + 1))
          rw [rowS_set] at hst
          obtain ⟨r1, r2⟩ := hst
          have hg := (rV.lt g rfl)
          refine ⟨?_, by simp [intOf]; omega⟩
          exact ⟨pre ++ [⟨s.f, a + 1, s.r, s.c⟩], a + 1, by simp, by omega, Lib.hid (by have := ref_same HR.out HC.out hA.out hlt HR0.out HC0.out; simpa using this), hV.setCell (p := ⟨g, pre.length * 4 + 1, none⟩) hg.1 _, by simpa using r1⟩
        · have hs' : ¬ (s.r = ofV n r a ∧ s.c = ofV n c a) := by rw [← HR0.out, ← HC0.out]; exact hs
          have HN := Lib.hid (ref_next HR.out HC.out hA.out hlt hs')
          clear hs'
          by_cases hs1 : s.r = R
          · have hs2 : ¬ s.c = C := fun h => hs ⟨hs1, h⟩
            have b2 : (s.c == C) = false := by simp [hs2]
            clear hs
            rw [hs1] at x0
            clear hs1
            go_wp2_with (refine wpList_append_own _ rfl _ _ 27 rfl w.heap.size 32 i0 (.agg #[.int .i64 0, .int .i64 0, .int .i64 0, .int .i64 0]) 4 32 Try.underlying27 hi hz0 hz1 hz2 rfl (by decide) _ _ _ rfl (rV.alloc _) ⟨V.heap.size, 0, none⟩ 1 1 [.int .i64 a, .int .i64 (a + 1), .int .i64 R, .int .i64 C] rfl rfl (cell_four_new _ _ _ _ _ _) (by simp [Value.oneCell']) (by unfold maxLen; omega) (by omega) (by have := hV.size; simp; omega) ?_; intro v' V2 hown' hgrow _; obtain ⟨g', cap', rfl⟩ := ownsRow_succ hown')
            refine ⟨?_, by simp [intOf]; omega⟩
            exact ⟨(pre ++ [s]) ++ [⟨a, a + 1, R, C⟩], a + 1, by simp, by omega, Lib.hid (by have := HN.out; rw [← HR0.out, ← HC0.out] at this; simpa using this), hV.trans ((Below.refl _ V).alloc hV.size _ |>.grown hgrow (by have := hV.size; simp; omega) (fun j e => (rV.lt j e).1)), by rw [rowS_snoc]; simpa using hown'⟩
          · have b1 : (s.r == R) = false := by simp [hs1]
            clear hs
            go_wp2_with (refine wpList_append_own _ rfl _ _ 27 rfl w.heap.size 32 i0 (.agg #[.int .i64 0, .int .i64 0, .int .i64 0, .int .i64 0]) 4 32 Try.underlying27 hi hz0 hz1 hz2 rfl (by decide) _ _ _ rfl (rV.alloc _) ⟨V.heap.size, 0, none⟩ 1 1 [.int .i64 a, .int .i64 (a + 1), .int .i64 R, .int .i64 C] rfl rfl (cell_four_new _ _ _ _ _ _) (by simp [Value.oneCell']) (by unfold maxLen; omega) (by omega) (by have := hV.size; simp; omega) ?_; intro v' V2 hown' hgrow _; obtain ⟨g', cap', rfl⟩ := ownsRow_succ hown')
            refine ⟨?_, by simp [intOf]; omega⟩
            exact ⟨(pre ++ [s]) ++ [⟨a, a + 1, R, C⟩], a + 1, by simp, by omega, Lib.hid (by have := HN.out; rw [← HR0.out, ← HC0.out] at this; simpa using this), hV.trans ((Below.refl _ V).alloc hV.size _ |>.grown hgrow (by have := hV.size; simp; omega) (fun j e => (rV.lt j e).1)), by rw [rowS_snoc]; simpa using hown'⟩
    · have ea : (a : Int) = n := by omega
      have eo := ref_end HR.out HC.out (by have := hA.out; rw [ea] at this; exact this)
      subst eo
      clear hA
      obtain ⟨bs, cap, rfl, cel⟩ := rowK (W' := w1) (b := 0) hrow
      clear cel
      go_wp2
      go_ret
      exact ⟨_, rfl, hrow, hB⟩
end Go.Proofs.Ytphgkgpkallgeaa
