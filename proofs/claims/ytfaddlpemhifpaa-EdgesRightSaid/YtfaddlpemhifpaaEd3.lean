/- Package edges: whether two lists of edges are alike. -/
import Derived.Test.YtfaddlpemhifpaaEd2
namespace Go.Proofs.Ytfaddlpemhifpaa
open Go.RowKit Go.Sort
set_option linter.unusedVariables false
set_option linter.unusedSimpArgs false

theorem ext_el {l m : List Ed} (h : l.length = m.length) (he : ∀ i, i < l.length → el l i = el m i) : l = m := by
  refine List.ext_getElem h fun i h1 h2 => ?_
  have := he i h1
  simpa [el, List.getD_eq_getElem?_getD, h1, h2] using this

set_option maxRecDepth 100000 in
set_option maxHeartbeats 1000000 in
theorem sameEdges_any (a a2 : Option Addr) (l m : List Ed) (c c2 : Nat) (w : World) (hr : RdE w a l) (hr2 : RdE w a2 m) (hl : l.length < 9223372036854775807) (hm : m.length < 9223372036854775807) : Calls Try.prog 16 #[.slice a l.length c, .slice a2 m.length c2] w fun e w' => e = .returned (.bool (decide (l = m))) ∧ Below w.heap.size w w' := by
  by_cases hlen : l.length = m.length
  · obtain ⟨n, hn⟩ : ∃ n, n = l.length := ⟨_, rfl⟩
    rw [← hlen]
    rw [← hn] at hl ⊢
    have HN := Lib.hid hn
    have HM := Lib.hid (hn.trans hlen)
    clear hn hlen hm
    go_enter Try.func16, Try.ntmps16
    go_wp2
    go_loopw [5] (fun y wr => ∃ j : Nat, y = .int .i64 (j : Int) ∧ j ≤ n ∧ (∀ i, i < j → el l i = el m i) ∧ Below w.heap.size w wr) (fun y _ => n - (intOf y).toNat)
    case atStart => exact ⟨0, rfl, by omega, by omega, Below.refl _ _⟩
    case round =>
      obtain ⟨j, rfl, hj, hall, hB⟩ := hrel
      by_cases hlt : (j : Int) < (n : Int)
      · obtain ⟨b, rfl, hbl, c0, c1, c2⟩ := hr.below hB j (by rw [← HN.out]; omega)
        obtain ⟨b', rfl, hbl', d0, d1, d2⟩ := hr2.below hB j (by rw [← HM.out]; omega)
        have j0 : (0 : Int) ≤ (j : Int) := by omega
        have kb := Has.of hbl
        have kb' := Has.of hbl'
        go_wp2_with fail
        refine wp_region_quiet_below (by kernel_rfl) (by kernel_rfl) ?_
        repeat (go_big_quiet_step (fail))
        refine wpQuiet_nil ?_
        rintro _ ⟨⟨d2, o2⟩, rfl⟩
        go_wp2_with fail
        · rename_i hx
          go_ret
          refine ⟨?_, hB.trans ((below_regrown wr _ _).mono hB.size)⟩
          rw [decide_eq_false (fun e => by subst e; simp at hx)]
          rfl
        · rename_i hx
          refine ⟨?_, by simp [intOf]; omega⟩
          refine ⟨j + 1, by simp, by omega, fun i hi => ?_, hB.trans ((below_regrown wr _ _).mono hB.size)⟩
          by_cases e : i = j
          · subst e
            simp at hx
            exact Prod.ext hx.1 (Prod.ext hx.2.1 hx.2.2)
          · exact hall i (by omega)
      · go_wp2_with fail
        go_ret
        refine ⟨?_, hB⟩
        rw [decide_eq_true (ext_el (HN.out.symm.trans HM.out) (fun i hi => hall i (by rw [← HN.out] at hi; omega)))]
        rfl
  · go_enter Try.func16, Try.ntmps16
    have hne : ¬ ((l.length : Int) = (m.length : Int)) := by omega
    go_wp2
    go_ret
    refine ⟨?_, (by repeat (first | with_reducible refine blg ?_ _ _ | with_reducible refine bla ?_ _ | with_reducible exact Below.refl _ _))⟩
    rw [decide_eq_false (fun e => hlen (by rw [e]))]
    rfl

set_option maxRecDepth 100000 in
set_option maxHeartbeats 1000000 in
theorem equalE_any (a a2 : Option Addr) (l m : List Ed) (c c2 : Nat) (w : World) (hr : RdE w a l) (hr2 : RdE w a2 m) (hl : l.length < 9223372036854775807) (hm : m.length < 9223372036854775807) : Calls Try.prog 63 #[.slice a l.length c, .slice a2 m.length c2] w fun e w' => e = .returned (.bool (decide (l = m))) ∧ Below w.heap.size w w' := by
  by_cases hlen : l.length = m.length
  · obtain ⟨n, hn⟩ : ∃ n, n = l.length := ⟨_, rfl⟩
    rw [← hlen]
    rw [← hn] at hl ⊢
    have HN := Lib.hid hn
    have HM := Lib.hid (hn.trans hlen)
    clear hn hlen hm
    go_enter Try.func63, Try.ntmps63
    go_wp2
    go_loopw [13] (fun y wr => ∃ j : Nat, y = .int .i64 (j : Int) ∧ j ≤ n ∧ (∀ i, i < j → el l i = el m i) ∧ Below w.heap.size w wr) (fun y _ => n - (intOf y).toNat)
    case atStart => exact ⟨0, rfl, by omega, by omega, Below.refl _ _⟩
    case round =>
      obtain ⟨j, rfl, hj, hall, hB⟩ := hrel
      by_cases hlt : (j : Int) < (n : Int)
      · obtain ⟨b, rfl, hbl, c0, c1, c2⟩ := hr.below hB j (by rw [← HN.out]; omega)
        obtain ⟨b', rfl, hbl', d0, d1, d2⟩ := hr2.below hB j (by rw [← HM.out]; omega)
        have j0 : (0 : Int) ≤ (j : Int) := by omega
        have kb := Has.of hbl
        have kb' := Has.of hbl'
        go_wp2_with fail
        refine wp_region_quiet_below (by kernel_rfl) (by kernel_rfl) ?_
        repeat (go_big_quiet_step (fail))
        refine wpQuiet_nil ?_
        rintro _ ⟨⟨d2, o2⟩, rfl⟩
        go_wp2_with fail
        · rename_i hx
          go_ret
          refine ⟨?_, hB.trans ((below_regrown wr _ _).mono hB.size)⟩
          rw [decide_eq_false (fun e => by subst e; simp at hx)]
          rfl
        · rename_i hx
          refine ⟨?_, by simp [intOf]; omega⟩
          refine ⟨j + 1, by simp, by omega, fun i hi => ?_, hB.trans ((below_regrown wr _ _).mono hB.size)⟩
          by_cases e : i = j
          · subst e
            simp at hx
            exact Prod.ext hx.1 (Prod.ext hx.2.1 hx.2.2)
          · exact hall i (by omega)
      · go_wp2_with fail
        go_ret
        refine ⟨?_, hB⟩
        rw [decide_eq_true (ext_el (HN.out.symm.trans HM.out) (fun i hi => hall i (by rw [← HN.out] at hi; omega)))]
        rfl
  · go_enter Try.func63, Try.ntmps63
    have hne : ¬ ((l.length : Int) = (m.length : Int)) := by omega
    go_wp2
    go_ret
    refine ⟨?_, (by repeat (first | with_reducible refine blg ?_ _ _ | with_reducible refine bla ?_ _ | with_reducible exact Below.refl _ _))⟩
    rw [decide_eq_false (fun e => hlen (by rw [e]))]
    rfl
end Go.Proofs.Ytfaddlpemhifpaa
