/- A law out of the evaluator. -/
import Derived.Test.YtnikcjnkcjondaaDoorZT15
import Derived.OpenShut
import Derived.WideShapes
import Derived.ChangeShapes
import Derived.SevenTiedAt
import Derived.Test.YtnikcjnkcjondaaDoorZT0
import Derived.Test.YtnikcjnkcjondaaDoorChecked
import Derived.Test.YtnikcjnkcjondaaDoorRows
import Derived.Test.YtnikcjnkcjondaaDoorCards
import Derived.Test.YtnikcjnkcjondaaDoorTie
import Derived.Test.YtnikcjnkcjondaaDoorZT5
import Derived.Test.YtnikcjnkcjondaaDoorZT3
set_option linter.unusedVariables false
set_option linter.unusedSimpArgs false
namespace Go.Proofs.YtnikcjnkcjondaaDoor
open Go Go.ChangeShapes Go.WideShapes Go.ChangeAt Go.RowKit Go.Joins Ev
set_option maxRecDepth 100000
theorem pullSpreads_tds (tds : List TD) (h : TypDs Tryd.prog [28] tds) : ∃ m n kind, (callers E1 m n).1 3 tds = some (kind, [.one (.v (.bool true))]) := by
 obtain ⟨x0, q0, rfl, g0, h0⟩ := typd_agg (d := .struct (flds Tryd.prog 27)) (by kernel_rfl) rfl h
 obtain ⟨a0, rfl, w0⟩ := op28 g0
 obtain rfl := typd_nil h0
 exact law_of (law13_PullSpreads_r 0 (law13_PullSpreads_true a0 w0))
theorem pullSpreads_lifted (os : Os) (started : os.Started) (H : Type) (enc : TypeId × Value → H) :
  ReturnsInHanded {} Tryd.checked os 3 .any (fun w args => (Rows.pullSpreadsSpec.pre enc Tryd.prog Tryd.f3 [] false w args ∧ laidMetH Tryd.prog laidL w) ∧ sizedMet enc Tryd.prog Tryd.f3 (OpenSpec.ofChange Rows.pullSpreadsSpec) false w args)
   (Rows.pullSpreadsSpec.post enc Tryd.prog Tryd.f3 false true false false) := by
 refine returnsInHanded_of_change_and (C := Tryd.checked) (X := fun w _ => laidMetH Tryd.prog laidL w) (fun _ _ _ hh h => h.of_heap hh) ownD started (by kernel_rfl) Tryd.func3
  (ChangeSpec.witness_shaped (enc := enc) (C := Tryd.checked) (os := os) (X := fun w _ => laidMetH Tryd.prog laidL w) false (World.doorLaid Tryd.prog 400 os) #[.agg #[.int .i64 0, .int .u8 0, .int .u8 0, .slice none 0 0, .slice none 0 0, .slice none 0 0, .slice none 0 0, .bool false]] 8 rfl (World.shaped_of_RefB (by kernel_rfl) (by kernel_rfl)) (by kernel_rfl) (by kernel_rfl) (by kernel_rfl) (door_met os _)) ?_
 intro W0 base args ds gs before hval0 hW _ hsz hL _
 have hT : LD W0.heap.size W0 := ⟨(tab_of_laid hL).1, tab_of_laid hL⟩
 have hval : ∀ (j : Nat) t v, Tryd.f3.params[j]? = some t → args[j]? = some v → Value.okWide Tryd.prog W0 .any base t v := hval0
 have hW' := hW
 obtain ⟨p, q, hA0, hV, rfl, _, _⟩ := hW
 have hA : DataW.TrodAll enc Tryd.prog W0 0 (fun _ => true) true Tryd.f3.params.toList args.toList ds p := hA0
 rw [Tryd.params3] at hA hval
 refine (law_call (E := E1) E1_ok hT (d := 8) (k := 3) (base := base) (ts := [28]) (vs := args.toList) (fun t ht => ?_) hA (fun j t v h1 h2 => hval j t v (by simpa using h1) (by simpa using h2)) pullSpreads_tds).mono fun e W1 ⟨he, hb⟩ => ?_
 ·simp only [List.mem_cons, List.not_mem_nil, or_false] at ht
  rcases ht with rfl <;> kernel_rfl
 subst he
 exact ⟨_, rfl, law_post laidOutD (by rw [Tryd.params3]; intro t ht; simp only [List.mem_cons, List.not_mem_nil, or_false] at ht; rcases ht with rfl <;> exact ⟨by kernel_rfl, of_decide_eq_true (by kernel_rfl)⟩) rfl (by kernel_rfl) Tryd.underlying4
  (fun ds hl => by rw [Tryd.params3] at hl; match ds, hl with | [_d0], _ => rfl) hW' hb⟩
theorem pullSpreads_holds : Rows.PullSpreadsSaid :=
 OpenClaim.holds_of_wide 3 Tryd.f3 rfl rfl rfl rfl rfl rfl rfl ⟨rfl, rfl, rfl, rfl, rfl⟩ rfl rfl rfl rfl rfl (by kernel_rfl) Tryd.func3 (by kernel_rfl)
  (of_decide_eq_true (by kernel_rfl)) (by unfold Func.isWrapper; first | (rw [if_pos (by decide +kernel)]; kernel_rfl) | (rw [if_neg (by decide +kernel)]; exact ⟨rfl, rfl⟩))
  (fun os started H enc _ => pullSpreads_lifted os started H enc)
theorem pullSpreads_card : Rows.PullSpreadsCardSaid :=
 Claim7.holds_tied_plain_at .later [] [.data] true Rows.pullSpreadsCard.stood.harness Rows.pullSpreadsCard.stood.looks
  pullSpreads_holds (fun _ h => by cases h) (by kernel_rfl) (fun _ h => by cases h) pullSpreads_row_tie rfl ⟨rfl, rfl⟩ (by kernel_rfl) rfl
  (fun f fn hf hfn => by
   obtain rfl : f = 3 := Option.some.inj ((show Tryd.prog.funcNamed "fretwork/fretworklaw13.PullSpreads" = some 3 by kernel_rfl).symm.trans hf) |>.symm
   obtain rfl : fn = Tryd.f3 := (Option.some.inj (Tryd.func3.symm.trans hfn)).symm
   exact ⟨by kernel_rfl, fun j t ht => by
    rw [Tryd.params3] at ht
    rcases j with _ | j
    ·obtain rfl : t = 28 := by simpa using ht.symm
     exact (show Tryd.prog.wantsStandIn 28 = false by kernel_rfl)
    ·simp at ht⟩)
  (by kernel_rfl)
end Go.Proofs.YtnikcjnkcjondaaDoor
