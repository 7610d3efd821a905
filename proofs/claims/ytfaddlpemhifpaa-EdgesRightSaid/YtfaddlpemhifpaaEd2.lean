/- Package edges: lists of edges: whether they rise, whether two are alike. -/
import Derived.Test.YtfaddlpemhifpaaEd1
namespace Go.Proofs.Ytfaddlpemhifpaa
open Go.RowKit Go.Sort
set_option linter.unusedVariables false
set_option linter.unusedSimpArgs false

def el (l : List Ed) (i : Nat) : Ed := l.getD i (0, 0, 0)
/-- A slice that may be read: the edges of a list, one behind the other. -/
def RdE (w : World) (a : Option Addr) (l : List Ed) : Prop := ∀ i, i < l.length → ∃ b, a = some b ∧ b.block < w.heap.size ∧ w.cell? (b.add (i * 3)) = some (.int .i64 (el l i).1) ∧ w.cell? ⟨b.block, (b.add (i * 3)).off + 1, none⟩ = some (.int .i64 (el l i).2.1) ∧ w.cell? ⟨b.block, (b.add (i * 3)).off + 2, none⟩ = some (.int .i64 (el l i).2.2)
theorem RdE.below {w w' : World} {a : Option Addr} {l : List Ed} (h : RdE w a l) (hb : Below w.heap.size w w') : RdE w' a l := by
  intro i hi
  obtain ⟨b, e, hl, h0, h1, h2⟩ := h i hi
  exact ⟨b, e, Nat.lt_of_lt_of_le hl hb.size, (hb.cell (by rw [blk_add]; exact hl)).trans h0, (hb.cell (p := ⟨b.block, _, none⟩) hl).trans h1, (hb.cell (p := ⟨b.block, _, none⟩) hl).trans h2⟩
def risB (l : List Ed) : Bool := (List.range (l.length - 1)).all fun i => bl (el l i) (el l (i + 1))
theorem risB_t {l : List Ed} (h : ∀ j, j + 1 < l.length → bl (el l j) (el l (j + 1)) = true) : risB l = true := by
  unfold risB
  rw [List.all_eq_true]
  intro j hj
  exact h j (by simp at hj; omega)
theorem risB_f {l : List Ed} {j : Nat} (hj : j + 1 < l.length) (h : bl (el l j) (el l (j + 1)) = false) : risB l = false := by
  rw [Bool.eq_false_iff]
  intro hr
  unfold risB at hr
  rw [List.all_eq_true] at hr
  have := hr j (by simp; omega)
  rw [h] at this
  cases this

set_option maxRecDepth 100000 in
set_option maxHeartbeats 1000000 in
theorem rises_any (a : Option Addr) (l : List Ed) (c : Nat) (w : World) (hr : RdE w a l) (hl : l.length < 9223372036854775807) : Calls Try.prog 14 #[.slice a l.length c] w fun e w' => e = .returned (.bool (risB l)) ∧ Below w.heap.size w w' := by
  obtain ⟨n, hn⟩ : ∃ n, n = l.length := ⟨_, rfl⟩
  rw [← hn] at hl ⊢
  have HN := Lib.hid hn
  clear hn
  go_enter Try.func14, Try.ntmps14
  go_wp2
  go_loopw [3] (fun y wr => ∃ j : Nat, y = .int .i64 ((j : Int) + 1) ∧ j ≤ n ∧ (∀ i, i < j → i + 1 < l.length → bl (el l i) (el l (i + 1)) = true) ∧ Below w.heap.size w wr) (fun y _ => n + 1 - (intOf y).toNat)
  case atStart => exact ⟨0, rfl, by omega, by omega, Below.refl _ _⟩
  case round =>
    obtain ⟨j, rfl, hj, hall, hB⟩ := hrel
    by_cases hlt : (j : Int) + 1 < (n : Int)
    · obtain ⟨b, rfl, hbl, c0, c1, c2⟩ := hr.below hB j (by rw [← HN.out]; omega)
      obtain ⟨b', e', _, d0, d1, d2⟩ := hr.below hB (j + 1) (by rw [← HN.out]; omega)
      cases e'
      have j0 : (0 : Int) ≤ (j : Int) := by omega
      have j1 : (j : Int) < (n : Int) := by omega
      have j2 : (0 : Int) ≤ (j : Int) + 1 := by omega
      have kb := Has.of hbl
      go_wp2_with fail
      refine wp_region_quiet_below (by kernel_rfl) (by kernel_rfl) ?_
      repeat (go_big_quiet_step (first | (go_at_call 46; exact Calls.regrown_of (byEnds_any (el l j) (el l (j + 1)) _))))
      refine wpQuiet_nil ?_
      rintro _ ⟨⟨d2, o2⟩, rfl⟩
      go_wp2_with fail
      · go_ret
        refine ⟨?_, hB.trans ((below_regrown wr _ _).mono hB.size)⟩
        rw [risB_f (j := j) (by rw [← HN.out]; omega) (by rw [Bool.eq_false_iff]; intro h; rw [← cmpE_lt] at h; omega)]
        rfl
      · refine ⟨?_, by simp [intOf]; omega⟩
        refine ⟨j + 1, by simp, by omega, fun i hi hi2 => ?_, hB.trans ((below_regrown wr _ _).mono hB.size)⟩
        by_cases e : i = j
        · subst e
          rw [← cmpE_lt]; omega
        · exact hall i (by omega) hi2
    · go_wp2_with fail
      go_ret
      refine ⟨?_, hB⟩
      rw [risB_t (fun i hi => hall i (by rw [← HN.out] at hi; omega) hi)]
      rfl

set_option maxRecDepth 100000 in
set_option maxHeartbeats 1000000 in
theorem refRises_any (a : Option Addr) (l : List Ed) (c : Nat) (w : World) (hr : RdE w a l) (hl : l.length < 9223372036854775807) : Calls Try.prog 15 #[.slice a l.length c] w fun e w' => e = .returned (.bool (risB l)) ∧ Below w.heap.size w w' := by
  obtain ⟨n, hn⟩ : ∃ n, n = l.length := ⟨_, rfl⟩
  rw [← hn] at hl ⊢
  have HN := Lib.hid hn
  clear hn
  go_enter Try.func15, Try.ntmps15
  go_wp2
  go_loopw [3] (fun y wr => ∃ j : Nat, y = .int .i64 ((j : Int) + 1) ∧ j ≤ n ∧ (∀ i, i < j → i + 1 < l.length → bl (el l i) (el l (i + 1)) = true) ∧ Below w.heap.size w wr) (fun y _ => n + 1 - (intOf y).toNat)
  case atStart => exact ⟨0, rfl, by omega, by omega, Below.refl _ _⟩
  case round =>
    obtain ⟨j, rfl, hj, hall, hB⟩ := hrel
    by_cases hlt : (j : Int) + 1 < (n : Int)
    · obtain ⟨b, rfl, hbl, c0, c1, c2⟩ := hr.below hB j (by rw [← HN.out]; omega)
      obtain ⟨b', e', _, d0, d1, d2⟩ := hr.below hB (j + 1) (by rw [← HN.out]; omega)
      cases e'
      have j0 : (0 : Int) ≤ (j : Int) := by omega
      have j1 : (j : Int) < (n : Int) := by omega
      have j2 : (0 : Int) ≤ (j : Int) + 1 := by omega
      have kb := Has.of hbl
      have HC := fun W => below_any (el l j) (el l (j + 1)) W
      cases hb : bl (el l j) (el l (j + 1))
      all_goals simp only [hb] at HC
      all_goals go_wp2_with fail
      all_goals refine wp_region_quiet_below (by kernel_rfl) (by kernel_rfl) ?_
      all_goals repeat (go_big_quiet_step (first | (go_at_call 48; exact Calls.regrown_of (HC _))))
      all_goals refine wpQuiet_nil ?_
      all_goals rintro _ ⟨⟨d2, o2⟩, rfl⟩
      all_goals go_wp2_with fail
      · go_ret
        refine ⟨?_, hB.trans ((below_regrown wr _ _).mono hB.size)⟩
        rw [risB_f (j := j) (by rw [← HN.out]; omega) hb]
        rfl
      · refine ⟨?_, by simp [intOf]; omega⟩
        refine ⟨j + 1, by simp, by omega, fun i hi hi2 => ?_, hB.trans ((below_regrown wr _ _).mono hB.size)⟩
        by_cases e : i = j
        · subst e
          exact hb
        · exact hall i (by omega) hi2
    · go_wp2_with fail
      go_ret
      refine ⟨?_, hB⟩
      rw [risB_t (fun i hi => hall i (by rw [← HN.out] at hi; omega) hi)]
      rfl
end Go.Proofs.Ytfaddlpemhifpaa
