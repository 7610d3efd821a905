/- The laws of package ring, as rows and as tied cards. -/
import Derived.Test.YtekkgidoblddfaaDoorRRCards
import Derived.Test.YtekkgidoblddfaaDoorRRTie
import Derived.Test.YtekkgidoblddfaaDoorRRRingSm2
import Derived.Test.YtekkgidoblddfaaDoorRRRingOpen
import Derived.SevenTiedAt
namespace Go.Proofs.YtekkgidoblddfaaDoorRR
open Go.ChangeShapes Go.WideShapes Go.ChangeAt Go.WideMaps Go.WideElems Go.RowKit Go.Joins
set_option linter.unusedVariables false

theorem three {l : List Value} (h : l.length = 3) : ∃ a b c, l = [a, b, c] := by
  match l, h with
  | [a, b, c], _ => exact ⟨a, b, c, rfl⟩

theorem bd_i64 {n : Int} (h : (Lit.int .i64 n).wf = true) : -9223372036854775808 ≤ n ∧ n ≤ 9223372036854775807 := by simpa [Lit.wf, IntKind.min, IntKind.max, IntKind.signed, IntKind.bits] using h

theorem open_arr3 {H : Type} {enc : TypeId × Value → H} {w : World} {b0 : Nat} {v : Value} {d : DataW H} {p : List MemPlace}
    (hv : Value.okWide Tryd.prog w .any b0 23 v) (h : DataW.Trod enc Tryd.prog w 0 (fun _ => true) true 23 v d p) :
    ∃ l m n : Int, v = .agg #[.int .i64 l, .int .i64 m, .int .i64 n] ∧ (-9223372036854775808 ≤ l ∧ l ≤ 9223372036854775807) ∧ (-9223372036854775808 ≤ m ∧ m ≤ 9223372036854775807) ∧ (-9223372036854775808 ≤ n ∧ n ≤ 9223372036854775807) := by
  simp only [Value.okWide, Tryd.underlying23] at hv
  obtain ⟨cs, rfl, hsz, _⟩ := hv
  obtain ⟨c0, c1, c2, hc⟩ := three (l := cs.toList) (by simpa using hsz.trans (show Tryd.prog.cellsOf 23 = 3 by kernel_rfl))
  have ecs : cs = #[c0, c1, c2] := by rw [← Array.toArray_toList (xs := cs), hc]
  subst ecs
  obtain ⟨fuel, hf⟩ := h
  obtain ⟨xs, m, _, _, _, hlen, hel⟩ := DataW.trod_array Tryd.underlying23 hf
  have c64 : Tryd.prog.cellsOf 2 = 1 := by kernel_rfl
  match xs, hlen, hel with
  | [y0, y1, y2], _, hel =>
    obtain ⟨a, e0, _, wa⟩ := DataW.trod_int Tryd.underlying2 (show DataW.trod enc Tryd.prog w 0 (fun _ => true) true m 2 [c0] = some y0 by simpa [Value.cells, c64] using hel 0 (by decide))
    obtain ⟨b, e1, _, wb⟩ := DataW.trod_int Tryd.underlying2 (show DataW.trod enc Tryd.prog w 0 (fun _ => true) true m 2 [c1] = some y1 by simpa [Value.cells, c64] using hel 1 (by decide))
    obtain ⟨c, e2, _, wc⟩ := DataW.trod_int Tryd.underlying2 (show DataW.trod enc Tryd.prog w 0 (fun _ => true) true m 2 [c2] = some y2 by simpa [Value.cells, c64] using hel 2 (by decide))
    simp at e0 e1 e2
    subst e0 e1 e2
    exact ⟨a, b, c, rfl, bd_i64 wa, bd_i64 wb, bd_i64 wc⟩

set_option maxRecDepth 100000 in
theorem ringSums_lifted (os : Os) (started : os.Started) (H : Type) (enc : TypeId × Value → H) :
    ReturnsInHanded {} Tryd.checked os 3 .any (fun w args => (Rows.ringSumsSpec.pre enc Tryd.prog Tryd.f3 [] false w args ∧ laidMetH Tryd.prog laidL w) ∧ sizedMet enc Tryd.prog Tryd.f3 (OpenSpec.ofChange Rows.ringSumsSpec) false w args)
      (Rows.ringSumsSpec.post enc Tryd.prog Tryd.f3 false true false false) := by
  refine returnsInHanded_of_change_and (C := Tryd.checked) (X := fun w _ => laidMetH Tryd.prog laidL w) (fun _ _ _ hh h => h.of_heap hh) Tryd.own started (by kernel_rfl) Tryd.func3
    (ChangeSpec.witness_shaped (enc := enc) (C := Tryd.checked) (os := os) (X := fun w _ => laidMetH Tryd.prog laidL w) false (World.doorLaid Tryd.prog 400 os) #[.int .i64 0, .agg #[.int .i64 0, .int .i64 0, .int .i64 0]] 8 rfl (World.shaped_of_RefB (by kernel_rfl) (by kernel_rfl)) (by kernel_rfl) (by kernel_rfl) (by kernel_rfl) (door_met os _)) ?_
  intro W0 base args ds gs before hval0 hW _ hsz hL _
  have hval : ∀ (j : Nat) t v, Tryd.f3.params[j]? = some t → args[j]? = some v → Value.okWide Tryd.prog W0 .any base t v := hval0
  have hW' := hW
  obtain ⟨p, q, hA0, hV, rfl, _, _⟩ := hW
  have hA : DataW.TrodAll enc Tryd.prog W0 0 (fun _ => true) true Tryd.f3.params.toList args.toList ds p := hA0
  rw [Tryd.params3] at hA hval
  obtain ⟨v0, v1, d0, d1, p0, p1, rfl, rfl, rfl, h0, h1⟩ := trodAll_two hA
  have hN := names_of_laid hL
  obtain ⟨r, rfl, rfl, rfl, _⟩ := open_int Tryd.underlying22 (hval 0 22 v0 rfl rfl) h0
  obtain ⟨n0, n1, n2, rfl, b0, b1, b2⟩ := open_arr3 (hval 1 23 v1 rfl rfl) h1
  refine (ringSums_any r n0 n1 n2 W0 hN b0 b1 b2).mono fun e W1 ⟨he, hb⟩ => ?_
  subst he
  exact ⟨_, rfl, law_post Tryd.laidOut (by rw [Tryd.params3]; intro t ht; simp only [List.mem_cons, List.not_mem_nil, or_false] at ht; rcases ht with rfl | rfl <;> exact ⟨by kernel_rfl, of_decide_eq_true (by kernel_rfl)⟩) rfl (by kernel_rfl) Tryd.underlying4
    (fun ds hl => by rw [Tryd.params3] at hl; match ds, hl with | [_d0, _d1], _ => rfl) hW' hb⟩

theorem ringSums_row : Rows.RingSumsSaid :=
  OpenClaim.holds_of_wide 3 Tryd.f3 rfl rfl rfl rfl rfl rfl rfl ⟨rfl, rfl, rfl, rfl, rfl⟩ rfl rfl rfl rfl rfl (by kernel_rfl) Tryd.func3 (by kernel_rfl)
    (of_decide_eq_true (by kernel_rfl)) (by unfold Func.isWrapper; first | (rw [if_pos (by decide +kernel)]; kernel_rfl) | (rw [if_neg (by decide +kernel)]; exact ⟨rfl, rfl⟩))
    (fun os started H enc _ => ringSums_lifted os started H enc)

theorem ringSums_card : Rows.RingSumsCardSaid :=
  Claim7.holds_tied_plain_at .later [] [.data] true Rows.ringSumsCard.stood.harness false
    ringSums_row (fun _ h => by cases h) (by kernel_rfl) (fun _ h => by cases h) ringSums_row_tie rfl ⟨rfl, rfl⟩ (by kernel_rfl) rfl
    (fun f fn hf hfn => by
      obtain rfl : f = 3 := Option.some.inj ((show Tryd.prog.funcNamed "fretwork/fretworklaw02.RingSums" = some 3 by kernel_rfl).symm.trans hf) |>.symm
      obtain rfl : fn = Tryd.f3 := (Option.some.inj (Tryd.func3.symm.trans hfn)).symm
      exact ⟨by kernel_rfl, fun j t ht => by
        rw [Tryd.params3] at ht
        have h3 : t = 22 ∨ t = 23 := by
          rcases j with _ | _ | j
          · exact Or.inl (by simpa using ht.symm)
          · exact Or.inr (by simpa using ht.symm)
          · simp at ht
        rcases h3 with rfl | rfl
        · exact (show Tryd.prog.wantsStandIn 22 = false by kernel_rfl)
        · exact (show Tryd.prog.wantsStandIn 23 = false by kernel_rfl)⟩)
    (by kernel_rfl)
end Go.Proofs.YtekkgidoblddfaaDoorRR
