/- The laws of package flags, as rows and as tied cards. -/
import Derived.Test.YtccgpjhfgmonpaaDoorCards
import Derived.Test.YtccgpjhfgmonpaaDoorTie
import Derived.Test.YtccgpjhfgmonpaaDoorFlOpen
import Derived.Test.YtccgpjhfgmonpaaDoorFl27
import Derived.SevenTiedAt
namespace Go.Proofs.YtccgpjhfgmonpaaDoor
open Go.ChangeShapes Go.WideShapes Go.ChangeAt Go.WideMaps Go.WideElems Go.RowKit Go.Joins
set_option linter.unusedVariables false

theorem twoJ {α : Type} : ∀ {l : List α}, l.length = 2 → ∃ a b, l = [a, b]
  | [a, b], _ => ⟨a, b, rfl⟩
theorem open_two {H : Type} {enc : TypeId × Value → H} {w : World} {b0 : Nat} {v : Value} {d : DataW H} {p : List MemPlace}
    (hv : Value.okWide Tryd.prog w .any b0 37 v) (h : DataW.Trod enc Tryd.prog w 0 (fun _ => true) true 37 v d p) :
    ∃ l m : Int, v = .agg #[.int .i64 l, .int .i64 m] ∧ (-9223372036854775808 ≤ l ∧ l ≤ 9223372036854775807) ∧ (-9223372036854775808 ≤ m ∧ m ≤ 9223372036854775807) := by
  simp only [Value.okWide, Tryd.underlying37] at hv
  obtain ⟨cs, rfl, hsz, _⟩ := hv
  obtain ⟨c0, c1, hc⟩ := twoJ (l := cs.toList) (by simpa using hsz.trans (show Tryd.prog.cellsOf 37 = 2 by kernel_rfl))
  have ecs : cs = #[c0, c1] := by rw [← Array.toArray_toList (xs := cs), hc]
  subst ecs
  obtain ⟨fuel, hf⟩ := h
  obtain ⟨xs, m, _, _, _, hlen, hel⟩ := DataW.trod_array Tryd.underlying37 hf
  have c64 : Tryd.prog.cellsOf 3 = 1 := by kernel_rfl
  match xs, hlen, hel with
  | [y0, y1], _, hel =>
    obtain ⟨a, e0, _, wa⟩ := DataW.trod_int Tryd.underlying3 (show DataW.trod enc Tryd.prog w 0 (fun _ => true) true m 3 [c0] = some y0 by simpa [Value.cells, c64] using hel 0 (by decide))
    obtain ⟨b, e1, _, wb⟩ := DataW.trod_int Tryd.underlying3 (show DataW.trod enc Tryd.prog w 0 (fun _ => true) true m 3 [c1] = some y1 by simpa [Value.cells, c64] using hel 1 (by decide))
    simp at e0 e1
    subst e0 e1
    exact ⟨a, b, rfl, bd_i64 wa, bd_i64 wb⟩

set_option maxRecDepth 100000 in
theorem flagsJoin_lifted (os : Os) (started : os.Started) (H : Type) (enc : TypeId × Value → H) :
    ReturnsInHanded {} Tryd.checked os 5 .any (fun w args => (Rows.flagsJoinSpec.pre enc Tryd.prog Tryd.f5 [] false w args ∧ laidMetH Tryd.prog laidL w) ∧ sizedMet enc Tryd.prog Tryd.f5 (OpenSpec.ofChange Rows.flagsJoinSpec) false w args)
      (Rows.flagsJoinSpec.post enc Tryd.prog Tryd.f5 false true false false) := by
  refine returnsInHanded_of_change_and (C := Tryd.checked) (X := fun w _ => laidMetH Tryd.prog laidL w) (fun _ _ _ hh h => h.of_heap hh) Tryd.own started (by kernel_rfl) Tryd.func5
    (ChangeSpec.witness_shaped (enc := enc) (C := Tryd.checked) (os := os) (X := fun w _ => laidMetH Tryd.prog laidL w) false (World.doorLaid Tryd.prog 400 os) #[.slice none 0 0, .slice none 0 0, .agg #[.int .i64 0, .int .i64 0]] 8 rfl (World.shaped_of_RefB (by kernel_rfl) (by kernel_rfl)) (by kernel_rfl) (by kernel_rfl) (by kernel_rfl) (door_met os _)) ?_
  intro W0 base args ds gs before hval0 hW _ hsz hL _
  have hval : ∀ (j : Nat) t v, Tryd.f5.params[j]? = some t → args[j]? = some v → Value.okWide Tryd.prog W0 .any base t v := hval0
  have hW' := hW
  obtain ⟨p, q, hA0, hV, rfl, _, _⟩ := hW
  have hA : DataW.TrodAll enc Tryd.prog W0 0 (fun _ => true) true Tryd.f5.params.toList args.toList ds p := hA0
  rw [Tryd.params5] at hA hval
  obtain ⟨v0, v1, v2, d0, d1, d2, p0, p1, p2, rfl, rfl, rfl, h0, h1, h2⟩ := trodAll_three hA
  have hT := tab_of_laid hL
  obtain ⟨a0, n0, c0, q0, rfl, r0, l0, m0, z0⟩ := open_words (hval 0 22 v0 rfl rfl) h0
  obtain ⟨a1, n1, c1, q1, rfl, r1, l1, m1, z1⟩ := open_words (hval 1 22 v1 rfl rfl) h1
  obtain ⟨x2, y2, rfl, b2, e2⟩ := open_two (hval 2 37 v2 rfl rfl) h2
  refine (flagsJoin_law a0 n0 c0 q0 a1 n1 c1 q1 x2 y2 W0 r0 hT l0 m0 r1 l1 m1 b2 e2).mono fun e W1 ⟨he, hb⟩ => ?_
  subst he
  exact ⟨_, rfl, law_post Tryd.laidOut (by rw [Tryd.params5]; intro t ht; simp only [List.mem_cons, List.not_mem_nil, or_false] at ht; rcases ht with rfl | rfl | rfl <;> exact ⟨by kernel_rfl, of_decide_eq_true (by kernel_rfl)⟩) rfl (by kernel_rfl) Tryd.underlying4
    (fun ds hl => by rw [Tryd.params5] at hl; match ds, hl with | [_d0, _d1, _d2], _ => rfl) hW' hb⟩

theorem flagsJoin_row : Rows.FlagsJoinSaid :=
  OpenClaim.holds_of_wide 5 Tryd.f5 rfl rfl rfl rfl rfl rfl rfl ⟨rfl, rfl, rfl, rfl, rfl⟩ rfl rfl rfl rfl rfl (by kernel_rfl) Tryd.func5 (by kernel_rfl)
    (of_decide_eq_true (by kernel_rfl)) (by unfold Func.isWrapper; first | (rw [if_pos (by decide +kernel)]; kernel_rfl) | (rw [if_neg (by decide +kernel)]; exact ⟨rfl, rfl⟩))
    (fun os started H enc _ => flagsJoin_lifted os started H enc)

theorem flagsJoin_card : Rows.FlagsJoinCardSaid :=
  Claim7.holds_tied_plain_at .later [] [.data] true Rows.flagsJoinCard.stood.harness true
    flagsJoin_row (fun _ h => by cases h) (by kernel_rfl) (fun _ h => by cases h) flagsJoin_row_tie rfl ⟨rfl, rfl⟩ (by kernel_rfl) rfl
    (fun f fn hf hfn => by
      obtain rfl : f = 5 := Option.some.inj ((show Tryd.prog.funcNamed "fretwork/fretworklaw03.FlagsJoin" = some 5 by kernel_rfl).symm.trans hf) |>.symm
      obtain rfl : fn = Tryd.f5 := (Option.some.inj (Tryd.func5.symm.trans hfn)).symm
      exact ⟨by kernel_rfl, fun j t ht => by
        rw [Tryd.params5] at ht
        have h3 : t = 22 ∨ t = 22 ∨ t = 37 := by
          rcases j with _ | _ | _ | j
          · exact Or.inl (by simpa using ht.symm)
          · exact Or.inr <| Or.inl (by simpa using ht.symm)
          · exact Or.inr <| Or.inr (by simpa using ht.symm)
          · simp at ht
        rcases h3 with rfl | rfl | rfl
        · exact (show Tryd.prog.wantsStandIn 22 = false by kernel_rfl)
        · exact (show Tryd.prog.wantsStandIn 22 = false by kernel_rfl)
        · exact (show Tryd.prog.wantsStandIn 37 = false by kernel_rfl)⟩)
    (by kernel_rfl)
end Go.Proofs.YtccgpjhfgmonpaaDoor
