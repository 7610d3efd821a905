/- A law out of the evaluator. -/
import Derived.Test.YtlkcneneagifoaaZE0
import Derived.OpenShut
import Derived.WideShapes
import Derived.ChangeShapes
import Derived.Test.YtlkcneneagifoaaChecked
import Derived.Test.YtlkcneneagifoaaRows
set_option linter.unusedVariables false
set_option linter.unusedSimpArgs false
namespace Go.Proofs.Ytlkcneneagifoaa
open Go Go.ChangeShapes Go.WideShapes Go.ChangeAt Go.RowKit Go.Joins Ev
set_option maxRecDepth 100000
theorem Try.own : ownKnob Try.prog.godebug = none := by kernel_rfl
theorem Try.laidOut : laidOutB Try.prog = true := by kernel_rfl
namespace Ev
namespace K
theorem op5 : Op Try.prog 5 (.I .u8) := op_int (by kernel_rfl)
theorem op57 : Op Try.prog 57 (.C (.I .u8) (.I .u8)) := op_array (n := 2) (t' := 5) (by kernel_rfl) (ops_cons op5 (ops_one op5))
theorem op3 : Op Try.prog 3 (.I .i64) := op_int (by kernel_rfl)
theorem op2 : Op Try.prog 2 (.I .i64) := op_int (by kernel_rfl)
theorem op60 : Op Try.prog 60 (.C (.I .i64) (.C (.I .i64) (.I .i64))) := op_struct (fs := flds Try.prog 59) (by kernel_rfl) (by kernel_rfl) (ops_cons op3 (ops_cons op3 (ops_one op2)))
theorem op24 : Op Try.prog 24 (.S (.C (.I .i64) (.C (.I .i64) (.I .i64)))) := op_slice (by kernel_rfl) (by kernel_rfl) op60
theorem op65 : Op Try.prog 65 (.C (.I .u8) (.C (.I .u8) (.C (.I .u8) (.I .u8)))) := op_array (n := 4) (t' := 5) (by kernel_rfl) (ops_cons op5 (ops_cons op5 (ops_cons op5 (ops_one op5))))
end K
end Ev
theorem csrCuts_tds (tds : List TD) (h : TypDs Try.prog [57, 24, 65] tds) : ∃ m n kind, (callers K.E1 m n).1 8 tds = some (kind, [.one (.v (.bool true))]) := by
 obtain ⟨x0, q0, rfl, w0, h0⟩ := K.open_agg (d := .array 2 5) (by kernel_rfl) rfl K.op57 h
 obtain ⟨x1, q1, rfl, w1, h1⟩ := K.open_one (d := .slice 60) (by kernel_rfl) rfl K.op24 h0
 obtain ⟨x2, q2, rfl, w2, h2⟩ := K.open_agg (d := .array 4 5) (by kernel_rfl) rfl K.op65 h1
 obtain rfl := typd_nil h2
 exact K.true_of (en := K.law07_CsrCuts_E) K.law07_CsrCuts_ok (a := (x0, x1, x2)) rfl rfl (law07_CsrCuts_true x0 x1 x2 w0 w1 w2)
theorem csrCuts_lifted (os : Os) (started : os.Started) (H : Type) (enc : TypeId × Value → H) :
  ReturnsInHanded {} Try.checked os 8 .any (Rows.csrCutsSpec.pre6 enc Try.prog Try.f8 Rows.csrCutsRow.domain false) (Rows.csrCutsSpec.post enc Try.prog Try.f8 false true false false) := by
 refine returnsInHanded_of_change (C := Try.checked) Try.own started (by kernel_rfl) Try.func8
  (ChangeSpec.witness6 (enc := enc) (C := Try.checked) false ⟨#[], #[.agg #[.int .u8 0, .int .u8 0], .slice none 0 0, .agg #[.int .u8 0, .int .u8 0, .int .u8 0, .int .u8 0]], []⟩ 8 (by kernel_rfl) (by kernel_rfl) (by kernel_rfl) (by kernel_rfl)) ?_
 intro W0 base args ds gs before hval0 hW _ _
 have hval : ∀ (j : Nat) t v, Try.f8.params[j]? = some t → args[j]? = some v → Value.okWide Try.prog W0 .any base t v := hval0
 have hW' := hW
 obtain ⟨p, q, hA0, hV, rfl, _, _⟩ := hW
 have hA : DataW.TrodAll enc Try.prog W0 0 (fun _ => true) true Try.f8.params.toList args.toList ds p := hA0
 rw [Try.params8] at hA hval
 refine (law_call (E := K.E1) K.E1_ok trivial (d := 8) (k := 8) (base := base) (ts := [57, 24, 65]) (vs := args.toList) (fun t ht => ?_) hA (fun j t v h1 h2 => hval j t v (by simpa using h1) (by simpa using h2)) csrCuts_tds).mono fun e W1 ⟨he, hb⟩ => ?_
 ·simp only [List.mem_cons, List.not_mem_nil, or_false] at ht
  rcases ht with rfl | rfl | rfl <;> kernel_rfl
 subst he
 exact ⟨_, rfl, law_post Try.laidOut (by rw [Try.params8]; intro t ht; simp only [List.mem_cons, List.not_mem_nil, or_false] at ht; rcases ht with rfl | rfl | rfl <;> exact ⟨by kernel_rfl, of_decide_eq_true (by kernel_rfl)⟩) rfl (by kernel_rfl) Try.underlying4
  (fun ds hl => by rw [Try.params8] at hl; match ds, hl with | [_d0, _d1, _d2], _ => rfl) hW' hb⟩
theorem csrCuts_holds : Rows.CsrCutsSaid :=
 OpenClaim.holds_of_wide 8 Try.f8 rfl rfl rfl rfl rfl rfl rfl ⟨rfl, rfl, rfl, rfl, rfl⟩ rfl rfl rfl rfl rfl (by kernel_rfl) Try.func8 (by kernel_rfl)
  (of_decide_eq_true (by kernel_rfl)) (by unfold Func.isWrapper; first | (rw [if_pos (by decide +kernel)]; kernel_rfl) | (rw [if_neg (by decide +kernel)]; exact ⟨rfl, rfl⟩))
  (fun os started H enc _ => csrCuts_lifted os started H enc)
end Go.Proofs.Ytlkcneneagifoaa
