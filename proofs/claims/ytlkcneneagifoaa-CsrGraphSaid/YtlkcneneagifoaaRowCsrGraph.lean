/- A law out of the evaluator. -/
import Derived.Test.YtlkcneneagifoaaZE0
import Derived.OpenShut
import Derived.WideShapes
import Derived.ChangeShapes
import Derived.Test.YtlkcneneagifoaaChecked
import Derived.Test.YtlkcneneagifoaaRows
set_option linter.unusedVariables false
set_option linter.unusedSimpArgs false
namespace Go.Proofs.Ytlkcneneagifoaa
open Go Go.ChangeShapes Go.WideShapes Go.ChangeAt Go.RowKit Go.Joins Ev
set_option maxRecDepth 100000
theorem Try.own : ownKnob Try.prog.godebug = none := by kernel_rfl
theorem Try.laidOut : laidOutB Try.prog = true := by kernel_rfl
namespace Ev
namespace K
theorem op3 : Op Try.prog 3 (.I .i64) := op_int (by kernel_rfl)
theorem op2 : Op Try.prog 2 (.I .i64) := op_int (by kernel_rfl)
theorem op55 : Op Try.prog 55 (.C (.I .i64) (.C (.I .i64) (.I .i64))) := op_struct (fs := flds Try.prog 54) (by kernel_rfl) (by kernel_rfl) (ops_cons op3 (ops_cons op3 (ops_one op2)))
theorem op48 : Op Try.prog 48 (.S (.C (.I .i64) (.C (.I .i64) (.I .i64)))) := op_slice (by kernel_rfl) (by kernel_rfl) op55
theorem op50 : Op Try.prog 50 (.C (.I .i64) (.S (.C (.I .i64) (.C (.I .i64) (.I .i64))))) := op_struct (fs := flds Try.prog 49) (by kernel_rfl) (by kernel_rfl) (ops_cons op3 (ops_one op48))
end K
end Ev
theorem csrGraph_tds (tds : List TD) (h : TypDs Try.prog [50] tds) : ∃ m n kind, (callers K.E1 m n).1 5 tds = some (kind, [.one (.v (.bool true))]) := by
 obtain ⟨x0, q0, rfl, w0, h0⟩ := K.open_agg (d := .struct (flds Try.prog 49)) (by kernel_rfl) rfl K.op50 h
 obtain rfl := typd_nil h0
 exact K.true_of (en := K.law07_CsrGraph_E) K.law07_CsrGraph_ok (a := (x0)) rfl rfl (law07_CsrGraph_true x0 w0)
theorem csrGraph_lifted (os : Os) (started : os.Started) (H : Type) (enc : TypeId × Value → H) :
  ReturnsInHanded {} Try.checked os 5 .any (Rows.csrGraphSpec.pre6 enc Try.prog Try.f5 Rows.csrGraphRow.domain false) (Rows.csrGraphSpec.post enc Try.prog Try.f5 false true false false) := by
 refine returnsInHanded_of_change (C := Try.checked) Try.own started (by kernel_rfl) Try.func5
  (ChangeSpec.witness6 (enc := enc) (C := Try.checked) false ⟨#[], #[.agg #[.int .i64 0, .slice none 0 0]], []⟩ 8 (by kernel_rfl) (by kernel_rfl) (by kernel_rfl) (by kernel_rfl)) ?_
 intro W0 base args ds gs before hval0 hW _ _
 have hval : ∀ (j : Nat) t v, Try.f5.params[j]? = some t → args[j]? = some v → Value.okWide Try.prog W0 .any base t v := hval0
 have hW' := hW
 obtain ⟨p, q, hA0, hV, rfl, _, _⟩ := hW
 have hA : DataW.TrodAll enc Try.prog W0 0 (fun _ => true) true Try.f5.params.toList args.toList ds p := hA0
 rw [Try.params5] at hA hval
 refine (law_call (E := K.E1) K.E1_ok trivial (d := 8) (k := 5) (base := base) (ts := [50]) (vs := args.toList) (fun t ht => ?_) hA (fun j t v h1 h2 => hval j t v (by simpa using h1) (by simpa using h2)) csrGraph_tds).mono fun e W1 ⟨he, hb⟩ => ?_
 ·simp only [List.mem_cons, List.not_mem_nil, or_false] at ht
  rcases ht with rfl <;> kernel_rfl
 subst he
 exact ⟨_, rfl, law_post Try.laidOut (by rw [Try.params5]; intro t ht; simp only [List.mem_cons, List.not_mem_nil, or_false] at ht; rcases ht with rfl <;> exact ⟨by kernel_rfl, of_decide_eq_true (by kernel_rfl)⟩) rfl (by kernel_rfl) Try.underlying4
  (fun ds hl => by rw [Try.params5] at hl; match ds, hl with | [_d0], _ => rfl) hW' hb⟩
theorem csrGraph_holds : Rows.CsrGraphSaid :=
 OpenClaim.holds_of_wide 5 Try.f5 rfl rfl rfl rfl rfl rfl rfl ⟨rfl, rfl, rfl, rfl, rfl⟩ rfl rfl rfl rfl rfl (by kernel_rfl) Try.func5 (by kernel_rfl)
  (of_decide_eq_true (by kernel_rfl)) (by unfold Func.isWrapper; first | (rw [if_pos (by decide +kernel)]; kernel_rfl) | (rw [if_neg (by decide +kernel)]; exact ⟨rfl, rfl⟩))
  (fun os started H enc _ => csrGraph_lifted os started H enc)
end Go.Proofs.Ytlkcneneagifoaa
