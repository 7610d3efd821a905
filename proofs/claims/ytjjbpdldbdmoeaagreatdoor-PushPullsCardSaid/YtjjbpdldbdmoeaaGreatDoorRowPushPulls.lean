/- A law out of the evaluator. -/
import Derived.Test.YtjjbpdldbdmoeaaGreatDoorZP20
import Derived.OpenShut
import Derived.WideShapes
import Derived.ChangeShapes
import Derived.SevenTiedAt
import Derived.Test.YtjjbpdldbdmoeaaGreatDoorZP0
import Derived.Test.YtjjbpdldbdmoeaaGreatDoorChecked
import Derived.Test.YtjjbpdldbdmoeaaGreatDoorRows
import Derived.Test.YtjjbpdldbdmoeaaGreatDoorCards
import Derived.Test.YtjjbpdldbdmoeaaGreatDoorTie
import Derived.Test.YtjjbpdldbdmoeaaGreatDoorZP5
import Derived.Test.YtjjbpdldbdmoeaaGreatDoorZP19
import Derived.Test.YtjjbpdldbdmoeaaGreatDoorZP3
set_option linter.unusedVariables false
set_option linter.unusedSimpArgs false
namespace Go.Proofs.YtjjbpdldbdmoeaaGreatDoor
open Go Go.ChangeShapes Go.WideShapes Go.ChangeAt Go.RowKit Go.Joins Ev
set_option maxRecDepth 100000
theorem Ee (tds : List TD) (h : wi Tryz.prog [28] tds) : ∃ m n kind, (dC E1 m n).1 3 tds = some (kind, [.one (.v (.bool true))]) := by
 obtain ⟨x0, q0, rfl, g0, h0⟩ := Wc (d := .struct (bq Tryz.prog 27)) (by kernel_rfl) rfl h
 obtain ⟨a0, rfl, w0⟩ := agC g0
 obtain rfl := We h0
 exact acg (vS 0 (rH a0 w0))
theorem xQ (os : Os) (started : os.Started) (H : Type) (enc : TypeId × Value → H) :
  ReturnsInHanded {} Tryz.checked os 3 .any (fun w args => (Rows.pushPullsSpec.pre enc Tryz.prog Tryz.f3 [] false w args ∧ laidMetH Tryz.prog Lp w) ∧ sizedMet enc Tryz.prog Tryz.f3 (OpenSpec.ofChange Rows.pushPullsSpec) false w args)
   (Rows.pushPullsSpec.post enc Tryz.prog Tryz.f3 false true false false) := by
 refine returnsInHanded_of_change_and (C := Tryz.checked) (X := fun w _ => laidMetH Tryz.prog Lp w) (fun _ _ _ hh h => h.of_heap hh) agK started (by kernel_rfl) Tryz.func3
  (ChangeSpec.witness_shaped (enc := enc) (C := Tryz.checked) (os := os) (X := fun w _ => laidMetH Tryz.prog Lp w) false (World.doorLaid Tryz.prog 400 os) #[.agg #[.int .i64 0, .int .u8 0, .int .u8 0, .slice none 0 0, .slice none 0 0, .slice none 0 0, .slice none 0 0, .bool false]] 8 rfl (World.shaped_of_RefB (by kernel_rfl) (by kernel_rfl)) (by kernel_rfl) (by kernel_rfl) (by kernel_rfl) (Wl os _)) ?_
 intro W0 base args ds gs before hval0 hW _ hsz hL _
 have hT : LD W0.heap.size W0 := ⟨(yQ hL).1, yQ hL⟩
 have hval : ∀ (j : Nat) t v, Tryz.f3.params[j]? = some t → args[j]? = some v → Value.okWide Tryz.prog W0 .any base t v := hval0
 have hW' := hW
 obtain ⟨p, q, hA0, hV, rfl, _, _⟩ := hW
 have hA : DataW.TrodAll enc Tryz.prog W0 0 (fun _ => true) true Tryz.f3.params.toList args.toList ds p := hA0
 rw [Tryz.params3] at hA hval
 refine (Vs (E := E1) bw hT (d := 8) (k := 3) (base := base) (ts := [28]) (vs := args.toList) (fun t ht => ?_) hA (fun j t v h1 h2 => hval j t v (by simpa using h1) (by simpa using h2)) Ee).mono fun e W1 ⟨he, hb⟩ => ?_
 ·simp only [List.mem_cons, List.not_mem_nil, or_false] at ht
  rcases ht with rfl <;> kernel_rfl
 subst he
 exact ⟨_, rfl, RO Wk (by rw [Tryz.params3]; intro t ht; simp only [List.mem_cons, List.not_mem_nil, or_false] at ht; rcases ht with rfl <;> exact ⟨by kernel_rfl, of_decide_eq_true (by kernel_rfl)⟩) rfl (by kernel_rfl) Tryz.underlying4
  (fun ds hl => by rw [Tryz.params3] at hl; match ds, hl with | [_d0], _ => rfl) hW' hb⟩
theorem zC : Rows.PushPullsSaid :=
 OpenClaim.holds_of_wide 3 Tryz.f3 rfl rfl rfl rfl rfl rfl rfl ⟨rfl, rfl, rfl, rfl, rfl⟩ rfl rfl rfl rfl rfl (by kernel_rfl) Tryz.func3 (by kernel_rfl)
  (of_decide_eq_true (by kernel_rfl)) (by unfold Func.isWrapper; first | (rw [if_pos (by decide +kernel)]; kernel_rfl) | (rw [if_neg (by decide +kernel)]; exact ⟨rfl, rfl⟩))
  (fun os started H enc _ => xQ os started H enc)
theorem pushPulls_card : Rows.PushPullsCardSaid :=
 Claim7.holds_tied_plain_at .later [] [.data] true Rows.pushPullsCard.stood.harness Rows.pushPullsCard.stood.looks
  zC (fun _ h => by cases h) (by kernel_rfl) (fun _ h => by cases h) pushPulls_row_tie rfl ⟨rfl, rfl⟩ (by kernel_rfl) rfl
  (fun f fn hf hfn => by
   obtain rfl : f = 3 := Option.some.inj ((show Tryz.prog.funcNamed "fretwork/fretworklaw14.PushPulls" = some 3 by kernel_rfl).symm.trans hf) |>.symm
   obtain rfl : fn = Tryz.f3 := (Option.some.inj (Tryz.func3.symm.trans hfn)).symm
   exact ⟨by kernel_rfl, fun j t ht => by
    rw [Tryz.params3] at ht
    rcases j with _ | j
    ·obtain rfl : t = 28 := by simpa using ht.symm
     exact (show Tryz.prog.wantsStandIn 28 = false by kernel_rfl)
    ·simp at ht⟩)
  (by kernel_rfl)
end Go.Proofs.YtjjbpdldbdmoeaaGreatDoor
