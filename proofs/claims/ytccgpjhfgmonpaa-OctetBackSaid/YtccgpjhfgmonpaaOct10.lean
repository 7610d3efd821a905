/- Package octet: the reference's next bytes. -/
import Derived.Laws.AppendOwnNone
import Derived.Test.YtccgpjhfgmonpaaOct9
namespace Go.Proofs.Ytccgpjhfgmonpaa
open Go.RowKit Go.Sort
set_option linter.unusedVariables false

theorem rTake_bad (R : Nat) (v : Value) (p : Nat) (e fa n : Int) (w : World) (hR : CellsAt w R 57 (rdr v p e fa)) (he : ¬ e = 0) :
    Calls Try.prog 31 #[.pointer (some ⟨R, 0, none⟩), .int .i64 n] w fun x w' => x = .returned (.slice none 0 0) ∧ Below w.heap.size w w' := by
  go_enter Try.func31, Try.ntmps31
  go_wp2_with fail
  refine (rdead_yes R _ p e fa _ hR he).mono ?_
  rintro x w1 ⟨rfl, hb1⟩
  go_wp2
  go_ret
  exact ⟨rfl, hb1⟩

theorem rTake_neg (R : Nat) (v : Value) (p : Nat) (fa n : Int) (w : World) (hR : CellsAt w R 57 (rdr v p 0 fa)) (hn : n < 0) :
    Calls Try.prog 31 #[.pointer (some ⟨R, 0, none⟩), .int .i64 n] w fun x w' => x = .returned (.slice none 0 0) ∧ CellsAt w' R 57 (rdr v p 3 p) ∧ w.grownBy w' (some R) := by
  go_enter Try.func31, Try.ntmps31
  go_wp2_with fail
  refine (rdead_no R _ p fa _ hR).mono ?_
  rintro x w1 ⟨rfl, hb1⟩
  have hR1 := hR.below hb1
  have c1 : w1.cell? ⟨R, 1, none⟩ = some (.int .i64 p) := hR1.cell 1
  go_wp2_with fail
  refine (rFail_so R _ p fa 3 p _ hR1 (by decide)).mono ?_
  rintro x w2 ⟨rfl, hR2, hg2⟩
  go_wp2
  go_ret
  exact ⟨rfl, hR2, grownBy_trans (grownBy_of_below hb1 _) hg2⟩

theorem rTake_short (R : Nat) (a : Option Addr) (m c p : Nat) (fa n : Int) (w : World) (hR : CellsAt w R 57 (rdr (.slice a m c) p 0 fa)) (hn : 0 ≤ n) (hp : p ≤ m) (hm : m ≤ 100000) (hs : (m : Int) - p < n) :
    Calls Try.prog 31 #[.pointer (some ⟨R, 0, none⟩), .int .i64 n] w fun x w' => x = .returned (.slice none 0 0) ∧ CellsAt w' R 57 (rdr (.slice a m c) p 2 m) ∧ w.grownBy w' (some R) := by
  go_enter Try.func31, Try.ntmps31
  go_wp2_with fail
  refine (rdead_no R _ p fa _ hR).mono ?_
  rintro x w1 ⟨rfl, hb1⟩
  have hR1 := hR.below hb1
  have c0 : w1.cell? ⟨R, 0, none⟩ = some (.slice a m c) := hR1.cell 0
  have c1 : w1.cell? ⟨R, 1, none⟩ = some (.int .i64 p) := hR1.cell 1
  have kR : Has w1 R := hR1.lt
  go_wp2_with fail
  refine wp_region_quiet_below (by kernel_rfl) (by kernel_rfl) ?_
  repeat (go_big_quiet_step (fail))
  refine wpQuiet_nil ?_
  rintro _ ⟨⟨d2, o2⟩, rfl⟩
  have hb4 : Below w1.heap.size w1 (grow (redrawn w1 d2) o2) := below_regrown w1 d2 o2
  have hR2 := hR1.below hb4
  go_wp2_with fail
  refine (rFail_so R _ p fa 2 m _ hR2 (by decide)).mono ?_
  rintro x w2 ⟨rfl, hR3, hg2⟩
  go_wp2
  go_ret
  exact ⟨rfl, hR3, grownBy_trans (grownBy_of_below hb1 _) (grownBy_trans (grownBy_of_below hb4 _) hg2)⟩

set_option maxHeartbeats 1000000 in
theorem rTake_ok (R : Nat) (a : Option Addr) (m c p k : Nat) (fa : Int) (f : Nat → Int) (w : World) (hR : CellsAt w R 57 (rdr (.slice a m c) p 0 fa)) (hb : Rd8 w a m f) (hne : ∀ b, a = some b → b.block ≠ R) (hz : a = none → c = 0 ∧ m = 0) (hc : m ≤ c) (hm : m ≤ 100000) (hp : p + k ≤ m) :
    Calls Try.prog 31 #[.pointer (some ⟨R, 0, none⟩), .int .i64 k] w fun x w' => ∃ a' c', x = .returned (.slice a' k c') ∧ k ≤ c' ∧ Rd8 w' a' k (fun i => f (p + i)) ∧ CellsAt w' R 57 (rdr (.slice a m c) (p + k : Nat) 0 fa) ∧ w.grownBy w' (some R) := by
  obtain ⟨i0, hi0, hz0, hz1, hz2⟩ := info_parts infoByte
  go_enter Try.func31, Try.ntmps31
  go_wp2_with fail
  refine (rdead_no R _ p fa _ hR).mono ?_
  rintro x w1 ⟨rfl, hb1⟩
  have hR1 := hR.below hb1
  have c0 : w1.cell? ⟨R, 0, none⟩ = some (.slice a m c) := hR1.cell 0
  have c1 : w1.cell? ⟨R, 1, none⟩ = some (.int .i64 p) := hR1.cell 1
  have kR : Has w1 R := hR1.lt
  go_wp2_with fail
  refine wp_region_quiet_below (by kernel_rfl) (by kernel_rfl) ?_
  repeat (go_big_quiet_step (fail))
  refine wpQuiet_nil ?_
  rintro _ ⟨⟨d2, o2⟩, rfl⟩
  have hb4 : Below w1.heap.size w1 (grow (redrawn w1 d2) o2) := below_regrown w1 d2 o2
  have hR2 := hR1.below hb4
  have hb2 := (hb.grown (grownBy_of_below hb1 none) (fun _ _ => by simp)).grown (grownBy_of_below hb4 none) (fun _ _ => by simp)
  have hg2 : w.grownBy (grow (redrawn w1 d2) o2) none := grownBy_trans (grownBy_of_below hb1 none) (grownBy_of_below hb4 none)
  generalize grow (redrawn w1 d2) o2 = U at hR2 hb2 hg2 ⊢
  clear hb4 hR1 hb1 c0 c1 kR
  have c0 : U.cell? ⟨R, 0, none⟩ = some (.slice a m c) := hR2.cell 0
  have c1 : U.cell? ⟨R, 1, none⟩ = some (.int .i64 p) := hR2.cell 1
  have kR : Has U R := hR2.lt
  have q2 : (0 : Int) ≤ p := by omega
  have q3 : (p : Int) ≤ p + k := by omega
  have q4 : (p : Int) + k ≤ c := by omega
  go_wp2_with fail
  refine wp_region_grown_tail 16 (by kernel_rfl) (by kernel_rfl) ?_
  simp only [List.take_succ_cons, List.take_zero, List.drop_succ_cons, List.drop_zero]
  repeat (go_big_quiet_step (fail))
  refine wpQuiet_nil ?_
  rintro _ ⟨⟨d3, o3⟩, rfl⟩
  have hb4 : Below U.heap.size U (grow (redrawn U d3) o3) := below_regrown U d3 o3
  have hR3 := hR2.below hb4
  have hb3 := hb2.grown (grownBy_of_below hb4 none) (fun _ _ => by simp)
  have hg3 := grownBy_trans hg2 (grownBy_of_below hb4 none)
  generalize grow (redrawn U d3) o3 = V at hR3 hb3 hg3 ⊢
  clear hb4 hR2 hb2 hg2 c0 c1 kR hb hR
  have epk : p + k - p = k := by omega
  have hf : ∀ i, i < k → 0 ≤ f (p + i) ∧ f (p + i) ≤ 255 := fun i hi => by obtain ⟨_, _, _, _, h⟩ := hb3 (p + i) (by omega); exact h
  have hN := World.ownsRow_nil V V.heap.size 5 1
  have c1 : V.cell? ⟨R, 1, none⟩ = some (.int .i64 p) := hR3.cell 1
  rw [epk]
  cases a with
  | none =>
    obtain ⟨z1, z2⟩ := hz rfl
    have kz : k = 0 := by omega
    have hx : Value.slice (if c = p then none else Option.map (fun x => x.add p) (none : Option Addr)) k (c - p) = .slice none 0 0 := by
      rw [kz, show c - p = 0 by omega]; split <;> rfl
    rw [hx]
    have HK := Lib.hid kz
    clear kz hx z1 z2 hz
    have f1 := hR3.frozen 1
    refine wpList_append_own_none rfl _ _ 22 rfl V.heap.size 5 i0 1 Try.underlying22 hi0 (.slice none 0 0) 0 [] rfl hN rfl ?_
    go_wp2
    go_ret
    have hR4 := hR3.set 1 (.int .i64 (p + k))
    exact ⟨none, 0, by rw [HK.out]; rfl, by rw [HK.out]; exact Nat.le_refl _, by rw [HK.out]; exact rd8_none _ _ _, by simpa using hR4, grownBy_trans (grownBy_none hg3) (grownBy_setCell'' V R 1 _)⟩
  | some b =>
    have e1 : (if c = p then some b else Option.map (fun x => x.add p) (some b)) = some (if c = p then b else b.add p) := by split <;> rfl
    rw [e1]
    obtain ⟨ad, had⟩ : ∃ ad, ad = (if c = p then b else b.add p) := ⟨_, rfl⟩
    have hnews : ∀ j u, (cellsB (fun i => f (p + i)) k)[j]? = some u → V.cell? (ad.add j) = some u := by
      intro j u hj
      have hj' : j < k := by have := (List.getElem?_eq_some_iff.1 hj).1; rwa [cellsB_len] at this
      rw [cellsB_at _ _ _ hj'] at hj
      cases hj
      obtain ⟨b', hb', _, h2, _⟩ := (hb3.cut hp) j hj'
      simp only [Option.map_some, Option.some.injEq] at hb'
      rw [had, if_neg (by omega), hb']
      exact h2
    rw [← had]
    clear had e1
    refine wpList_append_own _ rfl _ _ 22 rfl V.heap.size 5 i0 (.int .u8 0) 1 1 Try.underlying22 hi0 hz0 hz1 hz2 rfl (by decide) (.slice none 0 0) 0 [] rfl hN ad k (c - p) (cellsB (fun i => f (p + i)) k) rfl (by rw [cellsB_len]; omega) hnews (cellsB_one _ _) (by unfold maxLen; omega) (by omega) (Nat.le_refl _) ?_
    intro v' V2 hown hgrow _
    rw [Nat.zero_add, List.nil_append] at hown
    obtain ⟨a', c', rfl, hkc, hrd, hbk, _⟩ := row_rd8 hown (fun i hi => cellsB_at _ _ _ hi) hf
    have hR4 := hR3.grown hgrow (by simp [Value.ownBlock])
    have hg4 : w.grownBy V2 none := grownBy_trans hg3 hgrow
    have c1 : V2.cell? ⟨R, 1, none⟩ = some (.int .i64 p) := hR4.cell 1
    have f1 := hR4.frozen 1
    have hRV := hR3.lt
    clear hown hgrow hnews hN hb3 hR3 hg3
    go_wp2
    go_ret
    have hR5 := hR4.set 1 (.int .i64 (p + k))
    refine ⟨a', c', rfl, hkc, hrd.grown (grownBy_setCell'' V2 R 1 _) (fun b hb => by have := hbk b hb; simp; omega), by simpa using hR5, grownBy_trans (grownBy_none hg4) (grownBy_setCell'' V2 R 1 _)⟩
end Go.Proofs.Ytccgpjhfgmonpaa
