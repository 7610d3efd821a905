/- The laws of package ring, as rows and as tied cards. -/
import Derived.Test.YtkkdlikkjmfknabDoorCards
import Derived.Test.YtkkdlikkjmfknabDoorTie
import Derived.Test.YtkkdlikkjmfknabDoorRingDo
import Derived.Test.YtkkdlikkjmfknabDoorRingOpen
import Derived.SevenTiedAt
import Derived.ChangeSame
namespace Go.Proofs.YtkkdlikkjmfknabDoor
open Go.ChangeShapes Go.WideShapes Go.ChangeAt Go.WideMaps Go.WideElems Go.RowKit Go.Joins
set_option linter.unusedVariables false

theorem bd_i64 {n : Int} (h : (Lit.int .i64 n).wf = true) : -9223372036854775808 ≤ n ∧ n ≤ 9223372036854775807 := by simpa [Lit.wf, IntKind.min, IntKind.max, IntKind.signed, IntKind.bits] using h
theorem two {l : List Value} (h : l.length = 2) : ∃ a b, l = [a, b] := by
  match l, h with
  | [a, b], _ => exact ⟨a, b, rfl⟩
theorem four {l : List Value} (h : l.length = 4) : ∃ a b c d, l = [a, b, c, d] := by
  match l, h with
  | [a, b, c, d], _ => exact ⟨a, b, c, d, rfl⟩

theorem open_arr2 {H : Type} {enc : TypeId × Value → H} {w : World} {b0 : Nat} {v : Value} {d : DataW H} {p : List MemPlace}
    (hv : Value.okWide Tryd.prog w .any b0 27 v) (h : DataW.Trod enc Tryd.prog w 0 (fun _ => true) true 27 v d p) :
    ∃ m n : Int, v = .agg #[.int .i64 m, .int .i64 n] ∧ (-9223372036854775808 ≤ m ∧ m ≤ 9223372036854775807) ∧ (-9223372036854775808 ≤ n ∧ n ≤ 9223372036854775807) := by
  simp only [Value.okWide, Tryd.underlying27] at hv
  obtain ⟨cs, rfl, hsz, _⟩ := hv
  obtain ⟨c0, c1, hc⟩ := two (l := cs.toList) (by simpa using hsz.trans (show Tryd.prog.cellsOf 27 = 2 by kernel_rfl))
  have ecs : cs = #[c0, c1] := by rw [← Array.toArray_toList (xs := cs), hc]
  subst ecs
  obtain ⟨fuel, hf⟩ := h
  obtain ⟨xs, m, _, _, _, hlen, hel⟩ := DataW.trod_array Tryd.underlying27 hf
  have c64 : Tryd.prog.cellsOf 2 = 1 := by kernel_rfl
  match xs, hlen, hel with
  | [y0, y1], _, hel =>
    obtain ⟨a, e0, _, wa⟩ := DataW.trod_int Tryd.underlying2 (show DataW.trod enc Tryd.prog w 0 (fun _ => true) true m 2 [c0] = some y0 by simpa [Value.cells, c64] using hel 0 (by decide))
    obtain ⟨b, e1, _, wb⟩ := DataW.trod_int Tryd.underlying2 (show DataW.trod enc Tryd.prog w 0 (fun _ => true) true m 2 [c1] = some y1 by simpa [Value.cells, c64] using hel 1 (by decide))
    simp at e0 e1
    subst e0 e1
    exact ⟨a, b, rfl, bd_i64 wa, bd_i64 wb⟩

theorem wide_of_trod {H : Type} {enc : TypeId × Value → H} {w : World} {base : Nat} {sp : Nat → Bool} {held : Bool} {fuel : Nat} {c0 c1 : Value} {y : DataW H × List MemPlace}
    (h : DataW.trod enc Tryd.prog w base sp held fuel 25 [c0, c1] = some y) : ∃ x : Int, c0 = .int .i64 (hi x) ∧ c1 = .int .u64 (lo x) := by
  have c64 : Tryd.prog.cellsOf 2 = 1 := by kernel_rfl
  have cu : Tryd.prog.cellsOf 23 = 1 := by kernel_rfl
  obtain ⟨y0, y1, n, _, _, h0, h1⟩ := trod_struct2 Tryd.underlying25 h
  obtain ⟨a, e0, _, wa⟩ := DataW.trod_int Tryd.underlying2 (show DataW.trod enc Tryd.prog w base sp held n 2 [c0] = some y0 by simpa [c64] using h0)
  obtain ⟨b, e1, _, wb⟩ := DataW.trod_int Tryd.underlying23 (show DataW.trod enc Tryd.prog w base sp held n 23 [c1] = some y1 by simpa [cu] using h1)
  simp at e0 e1
  subst e0 e1
  have ha : -9223372036854775808 ≤ a ∧ a ≤ 9223372036854775807 := by simpa [Lit.wf, IntKind.min, IntKind.max, IntKind.signed, IntKind.bits] using wa
  have hb : 0 ≤ b ∧ b ≤ 18446744073709551615 := by simpa [Lit.wf, IntKind.min, IntKind.max, IntKind.signed, IntKind.bits] using wb
  obtain ⟨x, rfl, rfl, _, _⟩ := halves a b ha.1 ha.2 hb.1 hb.2
  exact ⟨x, rfl, rfl⟩

theorem open_wides2 {H : Type} {enc : TypeId × Value → H} {w : World} {b0 : Nat} {v : Value} {d : DataW H} {p : List MemPlace}
    (hv : Value.okWide Tryd.prog w .any b0 26 v) (h : DataW.Trod enc Tryd.prog w 0 (fun _ => true) true 26 v d p) :
    ∃ x y : Int, v = .agg #[.int .i64 (hi x), .int .u64 (lo x), .int .i64 (hi y), .int .u64 (lo y)] := by
  simp only [Value.okWide, Tryd.underlying26] at hv
  obtain ⟨cs, rfl, hsz, _⟩ := hv
  obtain ⟨c0, c1, c2, c3, hc⟩ := four (l := cs.toList) (by simpa using hsz.trans (show Tryd.prog.cellsOf 26 = 4 by kernel_rfl))
  have ecs : cs = #[c0, c1, c2, c3] := by rw [← Array.toArray_toList (xs := cs), hc]
  subst ecs
  obtain ⟨fuel, hf⟩ := h
  obtain ⟨xs, m, _, _, _, hlen, hel⟩ := DataW.trod_array Tryd.underlying26 hf
  have cw : Tryd.prog.cellsOf 25 = 2 := by kernel_rfl
  match xs, hlen, hel with
  | [y0, y1], _, hel =>
    obtain ⟨x, rfl, rfl⟩ := wide_of_trod (show DataW.trod enc Tryd.prog w 0 (fun _ => true) true m 25 [c0, c1] = some y0 by simpa [Value.cells, cw] using hel 0 (by decide))
    obtain ⟨y, rfl, rfl⟩ := wide_of_trod (show DataW.trod enc Tryd.prog w 0 (fun _ => true) true m 25 [c2, c3] = some y1 by simpa [Value.cells, cw] using hel 1 (by decide))
    exact ⟨x, y, rfl⟩

set_option maxRecDepth 100000 in
theorem ringDoes_lifted (os : Os) (started : os.Started) (H : Type) (enc : TypeId × Value → H) :
    ReturnsInHanded {} Tryd.checked os 3 .any (fun w args => (Rows.ringDoesSpec.pre enc Tryd.prog Tryd.f3 [] false w args ∧ laidMetH Tryd.prog laidL w) ∧ sizedMet enc Tryd.prog Tryd.f3 (OpenSpec.ofChange Rows.ringDoesSpec) false w args)
      (Rows.ringDoesSpec.post enc Tryd.prog Tryd.f3 false true false false) := by
  refine returnsInHanded_of_change_and (C := Tryd.checked) (X := fun w _ => laidMetH Tryd.prog laidL w) (fun _ _ _ hh h => h.of_heap hh) Tryd.own started (by kernel_rfl) Tryd.func3
    (ChangeSpec.witness_shaped (enc := enc) (C := Tryd.checked) (os := os) (X := fun w _ => laidMetH Tryd.prog laidL w) false (World.doorLaid Tryd.prog 400 os) #[.int .i64 0, .agg #[.int .i64 0, .int .u64 0, .int .i64 0, .int .u64 0], .agg #[.int .i64 0, .int .i64 0]] 8 rfl (World.shaped_of_RefB (by kernel_rfl) (by kernel_rfl)) (by kernel_rfl) (by kernel_rfl) (by kernel_rfl) (door_met os _)) ?_
  intro W0 base args ds gs before hval0 hW _ hsz hL _
  have hval : ∀ (j : Nat) t v, Tryd.f3.params[j]? = some t → args[j]? = some v → Value.okWide Tryd.prog W0 .any base t v := hval0
  have hW' := hW
  obtain ⟨p, q, hA0, hV, rfl, _, _⟩ := hW
  have hA : DataW.TrodAll enc Tryd.prog W0 0 (fun _ => true) true Tryd.f3.params.toList args.toList ds p := hA0
  rw [Tryd.params3] at hA hval
  obtain ⟨v0, v1, v2, d0, d1, d2, p0, p1, p2, rfl, rfl, rfl, h0, h1, h2⟩ := trodAll_three hA
  have hN := names_of_laid hL
  obtain ⟨r, rfl, rfl, rfl, _⟩ := open_int Tryd.underlying22 (hval 0 22 v0 rfl rfl) h0
  obtain ⟨x, y, rfl⟩ := open_wides2 (hval 1 26 v1 rfl rfl) h1
  obtain ⟨n0, n1, rfl, b0, b1⟩ := open_arr2 (hval 2 27 v2 rfl rfl) h2
  refine (ringDoes_any r x y n0 n1 W0 hN b0.1 b0.2 b1.1 b1.2).mono fun e W1 ⟨he, hb⟩ => ?_
  subst he
  exact ⟨_, rfl, law_post Tryd.laidOut (by rw [Tryd.params3]; intro t ht; simp only [List.mem_cons, List.not_mem_nil, or_false] at ht; rcases ht with rfl | rfl | rfl <;> exact ⟨by kernel_rfl, of_decide_eq_true (by kernel_rfl)⟩) rfl (by kernel_rfl) Tryd.underlying4
    (fun ds hl => by rw [Tryd.params3] at hl; match ds, hl with | [_d0, _d1, _d2], _ => rfl) hW' hb⟩

theorem ringDoes_row : Rows.RingDoesSaid :=
  OpenClaim.holds_of_wide 3 Tryd.f3 rfl rfl rfl rfl rfl rfl rfl ⟨rfl, rfl, rfl, rfl, rfl⟩ rfl rfl rfl rfl rfl (by kernel_rfl) Tryd.func3 (by kernel_rfl)
    (of_decide_eq_true (by kernel_rfl)) (by unfold Func.isWrapper; first | (rw [if_pos (by decide +kernel)]; kernel_rfl) | (rw [if_neg (by decide +kernel)]; exact ⟨rfl, rfl⟩))
    (fun os started H enc _ => ringDoes_lifted os started H enc)

theorem ringDoes_card : Rows.RingDoesCardSaid :=
  Claim7.holds_tied_plain_at .later [] [.data] true Rows.ringDoesCard.stood.harness false
    ringDoes_row (fun _ h => by cases h) (by kernel_rfl) (fun _ h => by cases h) ringDoes_row_tie rfl ⟨rfl, rfl⟩ (by kernel_rfl) rfl
    (fun f fn hf hfn => by
      obtain rfl : f = 3 := Option.some.inj ((show Tryd.prog.funcNamed "fretwork/fretworklaw02.RingDoes" = some 3 by kernel_rfl).symm.trans hf) |>.symm
      obtain rfl : fn = Tryd.f3 := (Option.some.inj (Tryd.func3.symm.trans hfn)).symm
      exact ⟨by kernel_rfl, fun j t ht => by
        rw [Tryd.params3] at ht
        have h3 : t = 22 ∨ t = 26 ∨ t = 27 := by
          rcases j with _ | _ | _ | j
          · exact Or.inl (by simpa using ht.symm)
          · exact Or.inr (Or.inl (by simpa using ht.symm))
          · exact Or.inr (Or.inr (by simpa using ht.symm))
          · simp at ht
        rcases h3 with rfl | rfl | rfl
        · exact (show Tryd.prog.wantsStandIn 22 = false by kernel_rfl)
        · exact (show Tryd.prog.wantsStandIn 26 = false by kernel_rfl)
        · exact (show Tryd.prog.wantsStandIn 27 = false by kernel_rfl)⟩)
    (by kernel_rfl)
end Go.Proofs.YtkkdlikkjmfknabDoor
