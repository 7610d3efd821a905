/- A law out of the evaluator. -/
import Derived.Test.YtjjbpdldbdmoeaaZM13
import Derived.OpenShut
import Derived.WideShapes
import Derived.ChangeShapes
import Derived.Test.YtjjbpdldbdmoeaaZM0
import Derived.Test.YtjjbpdldbdmoeaaChecked
import Derived.Test.YtjjbpdldbdmoeaaRows
import Derived.Test.YtjjbpdldbdmoeaaZM12
import Derived.Test.YtjjbpdldbdmoeaaZM3
set_option linter.unusedVariables false
set_option linter.unusedSimpArgs false
namespace Go.Proofs.Ytjjbpdldbdmoeaa
open Go Go.ChangeShapes Go.WideShapes Go.ChangeAt Go.RowKit Go.Joins Ev
set_option maxRecDepth 100000
theorem Try.own : ownKnob Try.prog.godebug = none := by kernel_rfl
theorem Try.laidOut : laidOutB Try.prog = true := by kernel_rfl
theorem rG (tds : List TD) (h : mf Try.prog [22, 38] tds) : ∃ m n kind, (bk E1 m n).1 4 tds = some (kind, [.one (.v (.bool true))]) := by
 obtain ⟨x0, q0, rfl, g0, h0⟩ := xy (d := .int .i64) (by kernel_rfl) rfl h
 obtain ⟨a0, e0, w0⟩ := OP g0
 obtain rfl := (List.cons.inj e0).1
 obtain ⟨x1, q1, rfl, g1, h1⟩ := xy (d := .slice 32) (by kernel_rfl) rfl h0
 obtain ⟨a1, e1, w1⟩ := OU g1
 obtain rfl := (List.cons.inj e1).1
 obtain rfl := Fk h1
 exact Ll (kD 0 (iE a0 w0 a1 w1))
theorem mM (os : Os) (started : os.Started) (H : Type) (enc : TypeId × Value → H) :
  ReturnsInHanded {} Try.checked os 4 .any (Rows.pushMergesSpec.pre6 enc Try.prog Try.f4 Rows.pushMergesRow.domain false) (Rows.pushMergesSpec.post enc Try.prog Try.f4 false true false false) := by
 refine returnsInHanded_of_change (C := Try.checked) Try.own started (by kernel_rfl) Try.func4
  (ChangeSpec.witness6 (enc := enc) (C := Try.checked) false ⟨#[], #[.int .i64 0, .slice none 0 0], []⟩ 8 (by kernel_rfl) (by kernel_rfl) (by kernel_rfl) (by kernel_rfl)) ?_
 intro W0 base args ds gs before hval0 hW _ _
 have hval : ∀ (j : Nat) t v, Try.f4.params[j]? = some t → args[j]? = some v → Value.okWide Try.prog W0 .any base t v := hval0
 have hW' := hW
 obtain ⟨p, q, hA0, hV, rfl, _, _⟩ := hW
 have hA : DataW.TrodAll enc Try.prog W0 0 (fun _ => true) true Try.f4.params.toList args.toList ds p := hA0
 rw [Try.params4] at hA hval
 refine (Ep (E := E1) iS trivial (d := 8) (k := 4) (base := base) (ts := [22, 38]) (vs := args.toList) (fun t ht => ?_) hA (fun j t v h1 h2 => hval j t v (by simpa using h1) (by simpa using h2)) rG).mono fun e W1 ⟨he, hb⟩ => ?_
 ·simp only [List.mem_cons, List.not_mem_nil, or_false] at ht
  rcases ht with rfl | rfl <;> kernel_rfl
 subst he
 exact ⟨_, rfl, Cg Try.laidOut (by rw [Try.params4]; intro t ht; simp only [List.mem_cons, List.not_mem_nil, or_false] at ht; rcases ht with rfl | rfl <;> exact ⟨by kernel_rfl, of_decide_eq_true (by kernel_rfl)⟩) rfl (by kernel_rfl) Try.underlying4
  (fun ds hl => by rw [Try.params4] at hl; match ds, hl with | [_d0, _d1], _ => rfl) hW' hb⟩
theorem pushMerges_holds : Rows.PushMergesSaid :=
 OpenClaim.holds_of_wide 4 Try.f4 rfl rfl rfl rfl rfl rfl rfl ⟨rfl, rfl, rfl, rfl, rfl⟩ rfl rfl rfl rfl rfl (by kernel_rfl) Try.func4 (by kernel_rfl)
  (of_decide_eq_true (by kernel_rfl)) (by unfold Func.isWrapper; first | (rw [if_pos (by decide +kernel)]; kernel_rfl) | (rw [if_neg (by decide +kernel)]; exact ⟨rfl, rfl⟩))
  (fun os started H enc _ => mM os started H enc)
end Go.Proofs.Ytjjbpdldbdmoeaa
