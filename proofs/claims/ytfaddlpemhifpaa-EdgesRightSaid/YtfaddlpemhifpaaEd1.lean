/- Package edges: single edges, by contracts. -/
import Derived.Test.YtfaddlpemhifpaaEdRing
import Derived.Test.YtfaddlpemhifpaaOct
namespace Go.Proofs.Ytfaddlpemhifpaa
open Go.RowKit Go.Sort
set_option linter.unusedVariables false
set_option linter.unusedSimpArgs false

/-- An edge: from, to, and what it weighs. -/
abbrev Ed := Int × Int × Int
def In64 (n : Int) : Prop := -9223372036854775808 ≤ n ∧ n ≤ 9223372036854775807
@[go_sem] abbrev EV (e : Ed) : Value := .agg #[.int .i64 e.1, .int .i64 e.2.1, .int .i64 e.2.2]
def cmpI (x y : Int) : Int := if x < y then -1 else if y < x then 1 else 0
/-- The first of two numbers that is not 0. -/
def orI (x y : Int) : Int := if x = 0 then y else x
def cmpE (a b : Ed) : Int := orI (cmpI a.1 b.1) (cmpI a.2.1 b.2.1)
def bl (a b : Ed) : Bool := decide (a.1 < b.1 ∨ a.1 = b.1 ∧ a.2.1 < b.2.1)
theorem cmpE_lt (a b : Ed) : cmpE a b < 0 ↔ bl a b = true := by
  unfold cmpE orI cmpI bl
  simp only [decide_eq_true_eq]
  split <;> split <;> (try split) <;> omega
theorem isNaN_any (x : Int) (w : World) : Calls Try.prog 87 #[.int .i64 x] w fun e w' => e = .returned (.bool false) ∧ Below w.heap.size w w' := by
  go_enter Try.func87, Try.ntmps87
  go_wp2
  go_ret
  exact ⟨by simp, (by repeat (first | with_reducible refine blg ?_ _ _ | with_reducible refine bla ?_ _ | with_reducible exact Below.refl _ _))⟩

set_option maxRecDepth 100000 in
theorem compareI_any (x y : Int) (w : World) : Calls Try.prog 72 #[.int .i64 x, .int .i64 y] w fun e w' => e = .returned (.int .i64 (cmpI x y)) ∧ Below w.heap.size w w' := by
  go_enter Try.func72, Try.ntmps72
  go_wp2_with (go_at_call 87; refine (isNaN_any _ _).mono ?_; rintro e w1 ⟨rfl, hb1⟩; obtain ⟨⟨d1, o1⟩, rfl⟩ := regrown_of_below hb1; clear hb1)
  all_goals go_ret
  · refine ⟨by unfold cmpI; rw [if_pos (by assumption)]; rfl, (by repeat (first | with_reducible refine blg ?_ _ _ | with_reducible refine bla ?_ _ | with_reducible exact Below.refl _ _))⟩
  · refine ⟨by unfold cmpI; rw [if_neg (by omega), if_pos (by assumption)]; rfl, (by repeat (first | with_reducible refine blg ?_ _ _ | with_reducible refine bla ?_ _ | with_reducible exact Below.refl _ _))⟩
  · refine ⟨by unfold cmpI; rw [if_neg (by omega), if_neg (by omega)]; rfl, (by repeat (first | with_reducible refine blg ?_ _ _ | with_reducible refine bla ?_ _ | with_reducible exact Below.refl _ _))⟩

theorem vertex_any (n x : Int) (w : World) : Calls Try.prog 38 #[.int .i64 n, .int .i64 x] w fun e w' => e = .returned (.bool (decide (0 ≤ x ∧ x < n))) ∧ Below w.heap.size w w' := by
  by_cases h1 : 0 ≤ x
  · by_cases h2 : x < n
    · go_enter Try.func38, Try.ntmps38
      go_wp2
      go_ret
      refine ⟨?_, (by repeat (first | with_reducible refine blg ?_ _ _ | with_reducible refine bla ?_ _ | with_reducible exact Below.refl _ _))⟩
      simp [h1, h2]
    · go_enter Try.func38, Try.ntmps38
      go_wp2
      go_ret
      refine ⟨?_, (by repeat (first | with_reducible refine blg ?_ _ _ | with_reducible refine bla ?_ _ | with_reducible exact Below.refl _ _))⟩
      simp [h1, h2]
  · go_enter Try.func38, Try.ntmps38
    go_wp2
    go_ret
    refine ⟨?_, (by repeat (first | with_reducible refine blg ?_ _ _ | with_reducible refine bla ?_ _ | with_reducible exact Below.refl _ _))⟩
    simp; omega

set_option maxRecDepth 100000 in
theorem cmpOr_any (x y : Int) (w : World) (g : Nat) (h : w.heap[g]? = some (.cells #[.int .i64 x, .int .i64 y] 3 (0, 0))) :
    Calls Try.prog 71 #[.slice (some ⟨g, 0, none⟩) 2 2] w fun e w' => e = .returned (.int .i64 (orI x y)) ∧ Below w.heap.size w w' := by
  have c0 : w.cell? ⟨g, 0, none⟩ = some (.int .i64 x) := by simp [World.cell?, h]
  have c1 : w.cell? ⟨g, 1, none⟩ = some (.int .i64 y) := by simp [World.cell?, h]
  have kg : Has w g := (Array.getElem?_eq_some_iff.1 h).1
  go_enter Try.func71, Try.ntmps71
  by_cases hx : x = 0
  · subst hx
    by_cases hy : y = 0
    · subst hy
      go_wp2
      refine wp_loop_rounds 3 ?_
      rw [rounds_succ]; go_wp2
      rw [rounds_succ]; go_wp2
      rw [rounds_succ]; go_wp2
      go_ret
      exact ⟨by simp [orI], (by repeat (first | with_reducible refine blg ?_ _ _ | with_reducible refine bla ?_ _ | with_reducible exact Below.refl _ _))⟩
    · go_wp2
      refine wp_loop_rounds 2 ?_
      rw [rounds_succ]; go_wp2
      rw [rounds_succ]; go_wp2
      go_ret
      exact ⟨by simp [orI], (by repeat (first | with_reducible refine blg ?_ _ _ | with_reducible refine bla ?_ _ | with_reducible exact Below.refl _ _))⟩
  · go_wp2
    refine wp_loop_rounds 1 ?_
    rw [rounds_succ]; go_wp2
    go_ret
    exact ⟨by simp [orI, hx], (by repeat (first | with_reducible refine blg ?_ _ _ | with_reducible refine bla ?_ _ | with_reducible exact Below.refl _ _))⟩

theorem cmpOr_new (x y : Int) (V : World) (g : Nat) (hg : g = V.heap.size) :
    Calls Try.prog 71 #[.slice (some ⟨g, 0, none⟩) 2 2] (V.alloc (.cells #[.int .i64 x, .int .i64 y] 3 (0, 0))) fun e w' => e = .returned (.int .i64 (orI x y)) ∧ Below (V.alloc (.cells #[.int .i64 x, .int .i64 y] 3 (0, 0))).heap.size (V.alloc (.cells #[.int .i64 x, .int .i64 y] 3 (0, 0))) w' := by
  subst hg
  exact cmpOr_any x y _ _ (World.alloc_heap_new V _)

attribute [local irreducible] cmpI orI in
set_option maxRecDepth 100000 in
theorem byEnds_any (a b : Ed) (w : World) : Calls Try.prog 46 #[EV a, EV b] w fun e w' => e = .returned (.int .i64 (cmpE a b)) ∧ Below w.heap.size w w' := by
  go_enter Try.func46, Try.ntmps46
  go_wp2_with fail
  refine wp_region_grown_tail 10 (by kernel_rfl) (by kernel_rfl) ?_
  simp only [List.take_succ_cons, List.take_zero, List.drop_succ_cons, List.drop_zero]
  repeat (go_big_quiet_step (first | (go_at_call 72; exact Calls.regrown_of (compareI_any _ _ _))))
  refine wpQuiet_nil ?_
  rintro _ ⟨⟨d2, o2⟩, rfl⟩
  go_wp2_with fail
  refine (cmpOr_new (cmpI a.1 b.1) (cmpI a.2.1 b.2.1) _ _ (by simp [go_sem])).mono ?_
  rintro e w1 ⟨rfl, hb1⟩; obtain ⟨⟨d1, o1⟩, rfl⟩ := regrown_of_below hb1; clear hb1
  go_wp2
  go_ret
  exact ⟨rfl, (by repeat (first | with_reducible refine blg ?_ _ _ | with_reducible refine bla ?_ _ | with_reducible exact Below.refl _ _))⟩

theorem below_any (a b : Ed) (w : World) : Calls Try.prog 48 #[EV a, EV b] w fun e w' => e = .returned (.bool (bl a b)) ∧ Below w.heap.size w w' := by
  by_cases h1 : a.1 < b.1
  · go_enter Try.func48, Try.ntmps48
    go_wp2
    go_ret
    refine ⟨?_, (by repeat (first | with_reducible refine blg ?_ _ _ | with_reducible refine bla ?_ _ | with_reducible exact Below.refl _ _))⟩
    simp [bl, h1]
  · by_cases h2 : a.1 = b.1
    · go_enter Try.func48, Try.ntmps48
      go_wp2
      go_ret
      refine ⟨?_, (by repeat (first | with_reducible refine blg ?_ _ _ | with_reducible refine bla ?_ _ | with_reducible exact Below.refl _ _))⟩
      simp [bl, h1, h2]
    · go_enter Try.func48, Try.ntmps48
      go_wp2
      go_ret
      refine ⟨?_, (by repeat (first | with_reducible refine blg ?_ _ _ | with_reducible refine bla ?_ _ | with_reducible exact Below.refl _ _))⟩
      simp [bl, h1, h2]
end Go.Proofs.Ytfaddlpemhifpaa
