/- A law out of the evaluator. -/
import Derived.Test.YtlkcneneagifoaaZA0
import Derived.OpenShut
import Derived.WideShapes
import Derived.ChangeShapes
import Derived.Test.YtlkcneneagifoaaChecked
import Derived.Test.YtlkcneneagifoaaRows
set_option linter.unusedVariables false
set_option linter.unusedSimpArgs false
namespace Go.Proofs.Ytlkcneneagifoaa
open Go Go.ChangeShapes Go.WideShapes Go.ChangeAt Go.RowKit Go.Joins Ev
set_option maxRecDepth 100000
theorem Try.own : ownKnob Try.prog.godebug = none := by kernel_rfl
theorem Try.laidOut : laidOutB Try.prog = true := by kernel_rfl
namespace Ev
namespace K
theorem op3 : Op Try.prog 3 (.I .i64) := op_int (by kernel_rfl)
theorem op26 : Op Try.prog 26 (.S (.I .i64)) := op_slice (by kernel_rfl) (by kernel_rfl) op3
theorem op2 : Op Try.prog 2 (.I .i64) := op_int (by kernel_rfl)
theorem op27 : Op Try.prog 27 (.S (.I .i64)) := op_slice (by kernel_rfl) (by kernel_rfl) op2
theorem op29 : Op Try.prog 29 (.C (.I .i64) (.C (.I .i64) (.C (.S (.I .i64)) (.C (.S (.I .i64)) (.S (.I .i64)))))) := op_struct (fs := flds Try.prog 28) (by kernel_rfl) (by kernel_rfl) (ops_cons op3 (ops_cons op3 (ops_cons op26 (ops_cons op26 (ops_one op27)))))
theorem op23 : Op Try.prog 23 (.C (.I .i64) (.I .i64)) := op_array (n := 2) (t' := 3) (by kernel_rfl) (ops_cons op3 (ops_one op3))
end K
end Ev
theorem csrAsks_tds (tds : List TD) (h : TypDs Try.prog [29, 23, 23] tds) : ∃ m n kind, (callers K.E2 m n).1 4 tds = some (kind, [.one (.v (.bool true))]) := by
 obtain ⟨x0, q0, rfl, w0, h0⟩ := K.open_agg (d := .struct (flds Try.prog 28)) (by kernel_rfl) rfl K.op29 h
 obtain ⟨x1, q1, rfl, w1, h1⟩ := K.open_agg (d := .array 2 3) (by kernel_rfl) rfl K.op23 h0
 obtain ⟨x2, q2, rfl, w2, h2⟩ := K.open_agg (d := .array 2 3) (by kernel_rfl) rfl K.op23 h1
 obtain rfl := typd_nil h2
 exact K.true_of (en := K.law07_CsrAsks2_E) K.law07_CsrAsks2_ok (a := (x0, x1, x2)) rfl rfl (law07_CsrAsks2_true x0 x1 x2 w0 w1 w2)
theorem csrAsks_lifted (os : Os) (started : os.Started) (H : Type) (enc : TypeId × Value → H) :
  ReturnsInHanded {} Try.checked os 4 .any (Rows.csrAsksSpec.pre6 enc Try.prog Try.f4 Rows.csrAsksRow.domain false) (Rows.csrAsksSpec.post enc Try.prog Try.f4 false true false false) := by
 refine returnsInHanded_of_change (C := Try.checked) Try.own started (by kernel_rfl) Try.func4
  (ChangeSpec.witness6 (enc := enc) (C := Try.checked) false ⟨#[], #[.agg #[.int .i64 0, .int .i64 0, .slice none 0 0, .slice none 0 0, .slice none 0 0], .agg #[.int .i64 0, .int .i64 0], .agg #[.int .i64 0, .int .i64 0]], []⟩ 8 (by kernel_rfl) (by kernel_rfl) (by kernel_rfl) (by kernel_rfl)) ?_
 intro W0 base args ds gs before hval0 hW _ _
 have hval : ∀ (j : Nat) t v, Try.f4.params[j]? = some t → args[j]? = some v → Value.okWide Try.prog W0 .any base t v := hval0
 have hW' := hW
 obtain ⟨p, q, hA0, hV, rfl, _, _⟩ := hW
 have hA : DataW.TrodAll enc Try.prog W0 0 (fun _ => true) true Try.f4.params.toList args.toList ds p := hA0
 rw [Try.params4] at hA hval
 refine (law_call (E := K.E2) K.E2_ok trivial (d := 8) (k := 4) (base := base) (ts := [29, 23, 23]) (vs := args.toList) (fun t ht => ?_) hA (fun j t v h1 h2 => hval j t v (by simpa using h1) (by simpa using h2)) csrAsks_tds).mono fun e W1 ⟨he, hb⟩ => ?_
 ·simp only [List.mem_cons, List.not_mem_nil, or_false] at ht
  rcases ht with rfl | rfl | rfl <;> kernel_rfl
 subst he
 exact ⟨_, rfl, law_post Try.laidOut (by rw [Try.params4]; intro t ht; simp only [List.mem_cons, List.not_mem_nil, or_false] at ht; rcases ht with rfl | rfl | rfl <;> exact ⟨by kernel_rfl, of_decide_eq_true (by kernel_rfl)⟩) rfl (by kernel_rfl) Try.underlying4
  (fun ds hl => by rw [Try.params4] at hl; match ds, hl with | [_d0, _d1, _d2], _ => rfl) hW' hb⟩
theorem csrAsks_holds : Rows.CsrAsksSaid :=
 OpenClaim.holds_of_wide 4 Try.f4 rfl rfl rfl rfl rfl rfl rfl ⟨rfl, rfl, rfl, rfl, rfl⟩ rfl rfl rfl rfl rfl (by kernel_rfl) Try.func4 (by kernel_rfl)
  (of_decide_eq_true (by kernel_rfl)) (by unfold Func.isWrapper; first | (rw [if_pos (by decide +kernel)]; kernel_rfl) | (rw [if_neg (by decide +kernel)]; exact ⟨rfl, rfl⟩))
  (fun os started H enc _ => csrAsks_lifted os started H enc)
end Go.Proofs.Ytlkcneneagifoaa
