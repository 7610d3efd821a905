/- Package edges: how slices.SortFunc asks byEnds: whatever it draws, it draws on; old memory stays. -/
import Derived.Test.YtfaddlpemhifpaaEd1
namespace Go.Proofs.Ytfaddlpemhifpaa
open Go.RowKit Go.Sort
set_option linter.unusedVariables false
set_option linter.unusedSimpArgs false
theorem isNaN_same (x : Int) (w : World) : Calls Try.prog 87 #[.int .i64 x] w fun e w' => e = .returned (.bool false) ∧ w' = w := by
  go_enter Try.func87, Try.ntmps87
  go_wp2
  go_ret
  exact ⟨by simp, rfl⟩

set_option maxRecDepth 100000 in
theorem compareI_same (x y : Int) (w : World) : Calls Try.prog 72 #[.int .i64 x, .int .i64 y] w fun e w' => e = .returned (.int .i64 (cmpI x y)) ∧ w' = w := by
  go_enter Try.func72, Try.ntmps72
  go_wp2_with (go_at_call 87; refine (isNaN_same _ _).mono ?_; rintro e w1 ⟨rfl, rfl⟩)
  all_goals go_ret
  · refine ⟨by unfold cmpI; rw [if_pos (by assumption)]; rfl, rfl⟩
  · refine ⟨by unfold cmpI; rw [if_neg (by omega), if_pos (by assumption)]; rfl, rfl⟩
  · refine ⟨by unfold cmpI; rw [if_neg (by omega), if_neg (by omega)]; rfl, rfl⟩

set_option maxRecDepth 100000 in
theorem cmpOr_same (x y : Int) (w : World) (g : Nat) (h : w.heap[g]? = some (.cells #[.int .i64 x, .int .i64 y] 3 (0, 0))) :
    Calls Try.prog 71 #[.slice (some ⟨g, 0, none⟩) 2 2] w fun e w' => e = .returned (.int .i64 (orI x y)) ∧ w' = w := by
  have c0 : w.cell? ⟨g, 0, none⟩ = some (.int .i64 x) := by simp [World.cell?, h]
  have c1 : w.cell? ⟨g, 1, none⟩ = some (.int .i64 y) := by simp [World.cell?, h]
  have kg : Has w g := (Array.getElem?_eq_some_iff.1 h).1
  go_enter Try.func71, Try.ntmps71
  by_cases hx : x = 0
  · subst hx
    by_cases hy : y = 0
    · subst hy
      go_wp2
      refine wp_loop_rounds 3 ?_
      rw [rounds_succ]; go_wp2
      rw [rounds_succ]; go_wp2
      rw [rounds_succ]; go_wp2
      go_ret
      exact ⟨by simp [orI], rfl⟩
    · go_wp2
      refine wp_loop_rounds 2 ?_
      rw [rounds_succ]; go_wp2
      rw [rounds_succ]; go_wp2
      go_ret
      exact ⟨by simp [orI], rfl⟩
  · go_wp2
    refine wp_loop_rounds 1 ?_
    rw [rounds_succ]; go_wp2
    go_ret
    exact ⟨by simp [orI, hx], rfl⟩


theorem cmpOr_new2 (x y : Int) (V : World) (g : Nat) (hg : g = V.heap.size) :
    Calls Try.prog 71 #[.slice (some ⟨g, 0, none⟩) 2 2] (V.alloc (.cells #[.int .i64 x, .int .i64 y] 3 (0, 0))) fun e w' => e = .returned (.int .i64 (orI x y)) ∧ w' = (V.alloc (.cells #[.int .i64 x, .int .i64 y] 3 (0, 0))) := by
  subst hg
  exact cmpOr_same x y _ _ (World.alloc_heap_new V _)

theorem grow3 (w : World) (n : Nat) (a b c : Obj) : ∃ q os', (((w.alloc a).alloc b).drewN n).alloc c = grow (w.drewN q) os' := ⟨n, #[a] ++ (#[b] ++ #[c]), by
  rw [alloc_eq_grow _ c, alloc_eq_grow _ b, alloc_eq_grow _ a]
  show grow (grow (grow (w.drewN n) #[a]) #[b]) #[c] = _
  rw [Go.Sort.grow_grow, Go.Sort.grow_grow]⟩

attribute [local irreducible] cmpI orI in
set_option maxRecDepth 100000 in
theorem byEnds_drewn (a b : Ed) (w : World) : Calls Try.prog 46 #[EV a, EV b] w fun e w' => e = .returned (.int .i64 (cmpE a b)) ∧ ∃ q os', w' = grow (w.drewN q) os' := by
  go_enter Try.func46, Try.ntmps46
  go_wp2_with fail
  refine wp_region_quiet_tail (C := fun w' => ∃ n, w' = World.drewN _ n) 10 (by kernel_rfl) (by kernel_rfl) ⟨1, rfl⟩ ?_
  simp only [List.take_succ_cons, List.take_zero, List.drop_succ_cons, List.drop_zero]
  repeat (go_big_quiet_step (first | (go_at_call 72; exact (compareI_same _ _ _).mono fun _ _ ⟨he, hw⟩ => ⟨he, _, hw⟩)))
  refine wpQuiet_nil ?_
  rintro _ ⟨n, rfl⟩
  go_wp2_with fail
  refine (cmpOr_new2 (cmpI a.1 b.1) (cmpI a.2.1 b.2.1) _ _ (by simp [go_sem])).mono ?_
  rintro e w1 ⟨rfl, rfl⟩
  go_wp2
  go_ret
  exact ⟨rfl, grow3 _ _ _ _ _⟩
end Go.Proofs.Ytfaddlpemhifpaa
