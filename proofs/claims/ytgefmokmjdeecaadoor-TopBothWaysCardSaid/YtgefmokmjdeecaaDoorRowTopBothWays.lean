/- A law out of the evaluator. -/
import Derived.Test.YtgefmokmjdeecaaDoorZT19
import Derived.OpenShut
import Derived.WideShapes
import Derived.ChangeShapes
import Derived.SevenTiedAt
import Derived.Test.YtgefmokmjdeecaaDoorZT0
import Derived.Test.YtgefmokmjdeecaaDoorChecked
import Derived.Test.YtgefmokmjdeecaaDoorRows
import Derived.Test.YtgefmokmjdeecaaDoorCards
import Derived.Test.YtgefmokmjdeecaaDoorTie
import Derived.Test.YtgefmokmjdeecaaDoorZT5
import Derived.Test.YtgefmokmjdeecaaDoorZT15
import Derived.Test.YtgefmokmjdeecaaDoorZT3
set_option linter.unusedVariables false
set_option linter.unusedSimpArgs false
namespace Go.Proofs.YtgefmokmjdeecaaDoor
open Go Go.ChangeShapes Go.WideShapes Go.ChangeAt Go.RowKit Go.Joins Ev
set_option maxRecDepth 100000
theorem xZ (tds : List TD) (h : uV Tryd.prog [28] tds) : ∃ m n kind, (gl E1 m n).1 3 tds = some (kind, [.one (.v (.bool true))]) := by
 obtain ⟨x0, q0, rfl, g0, h0⟩ := PJ (d := .struct (bE Tryd.prog 27)) (by kernel_rfl) rfl h
 obtain ⟨a0, rfl, w0⟩ := aa1 g0
 obtain rfl := PK h0
 exact Vr (uy 0 (qZ a0 w0))
theorem tY (os : Os) (started : os.Started) (H : Type) (enc : TypeId × Value → H) :
  ReturnsInHanded {} Tryd.checked os 3 .any (fun w args => (Rows.topBothWaysSpec.pre enc Tryd.prog Tryd.f3 [] false w args ∧ laidMetH Tryd.prog Ig w) ∧ sizedMet enc Tryd.prog Tryd.f3 (OpenSpec.ofChange Rows.topBothWaysSpec) false w args)
   (Rows.topBothWaysSpec.post enc Tryd.prog Tryd.f3 false true false false) := by
 refine returnsInHanded_of_change_and (C := Tryd.checked) (X := fun w _ => laidMetH Tryd.prog Ig w) (fun _ _ _ hh h => h.of_heap hh) aa9 started (by kernel_rfl) Tryd.func3
  (ChangeSpec.witness_shaped (enc := enc) (C := Tryd.checked) (os := os) (X := fun w _ => laidMetH Tryd.prog Ig w) false (World.doorLaid Tryd.prog 400 os) #[.agg #[.int .i64 0, .int .u8 0, .int .u8 0, .slice none 0 0, .slice none 0 0, .slice none 0 0, .slice none 0 0, .bool false]] 8 rfl (World.shaped_of_RefB (by kernel_rfl) (by kernel_rfl)) (by kernel_rfl) (by kernel_rfl) (by kernel_rfl) (PT os _)) ?_
 intro W0 base args ds gs before hval0 hW _ hsz hL _
 have hT : LD W0.heap.size W0 := ⟨(xA hL).1, xA hL⟩
 have hval : ∀ (j : Nat) t v, Tryd.f3.params[j]? = some t → args[j]? = some v → Value.okWide Tryd.prog W0 .any base t v := hval0
 have hW' := hW
 obtain ⟨p, q, hA0, hV, rfl, _, _⟩ := hW
 have hA : DataW.TrodAll enc Tryd.prog W0 0 (fun _ => true) true Tryd.f3.params.toList args.toList ds p := hA0
 rw [Tryd.params3] at hA hval
 refine (OW (E := E1) dR hT (d := 8) (k := 3) (base := base) (ts := [28]) (vs := args.toList) (fun t ht => ?_) hA (fun j t v h1 h2 => hval j t v (by simpa using h1) (by simpa using h2)) xZ).mono fun e W1 ⟨he, hb⟩ => ?_
 ·simp only [List.mem_cons, List.not_mem_nil, or_false] at ht
  rcases ht with rfl <;> kernel_rfl
 subst he
 exact ⟨_, rfl, Nu PR (by rw [Tryd.params3]; intro t ht; simp only [List.mem_cons, List.not_mem_nil, or_false] at ht; rcases ht with rfl <;> exact ⟨by kernel_rfl, of_decide_eq_true (by kernel_rfl)⟩) rfl (by kernel_rfl) Tryd.underlying4
  (fun ds hl => by rw [Tryd.params3] at hl; match ds, hl with | [_d0], _ => rfl) hW' hb⟩
theorem vE : Rows.TopBothWaysSaid :=
 OpenClaim.holds_of_wide 3 Tryd.f3 rfl rfl rfl rfl rfl rfl rfl ⟨rfl, rfl, rfl, rfl, rfl⟩ rfl rfl rfl rfl rfl (by kernel_rfl) Tryd.func3 (by kernel_rfl)
  (of_decide_eq_true (by kernel_rfl)) (by unfold Func.isWrapper; first | (rw [if_pos (by decide +kernel)]; kernel_rfl) | (rw [if_neg (by decide +kernel)]; exact ⟨rfl, rfl⟩))
  (fun os started H enc _ => tY os started H enc)
theorem topBothWays_card : Rows.TopBothWaysCardSaid :=
 Claim7.holds_tied_plain_at .later [] [.data] true Rows.topBothWaysCard.stood.harness Rows.topBothWaysCard.stood.looks
  vE (fun _ h => by cases h) (by kernel_rfl) (fun _ h => by cases h) topBothWays_row_tie rfl ⟨rfl, rfl⟩ (by kernel_rfl) rfl
  (fun f fn hf hfn => by
   obtain rfl : f = 3 := Option.some.inj ((show Tryd.prog.funcNamed "fretwork/fretworktop.TopBothWays" = some 3 by kernel_rfl).symm.trans hf) |>.symm
   obtain rfl : fn = Tryd.f3 := (Option.some.inj (Tryd.func3.symm.trans hfn)).symm
   exact ⟨by kernel_rfl, fun j t ht => by
    rw [Tryd.params3] at ht
    rcases j with _ | j
    ·obtain rfl : t = 28 := by simpa using ht.symm
     exact (show Tryd.prog.wantsStandIn 28 = false by kernel_rfl)
    ·simp at ht⟩)
  (by kernel_rfl)
end Go.Proofs.YtgefmokmjdeecaaDoor
