/- A law out of the evaluator. -/
import Derived.Test.YtlkcneneagifoaaZB13
import Derived.OpenShut
import Derived.WideShapes
import Derived.ChangeShapes
import Derived.Test.YtlkcneneagifoaaZB0
import Derived.Test.YtlkcneneagifoaaChecked
import Derived.Test.YtlkcneneagifoaaRows
import Derived.Test.YtlkcneneagifoaaZB12
namespace Go.Proofs.Ytlkcneneagifoaa
open Go Go.ChangeShapes Go.WideShapes Go.ChangeAt Go.RowKit Go.Joins Ev
set_option maxRecDepth 100000
theorem Try.own : ownKnob Try.prog.godebug = none := by kernel_rfl
theorem Try.laidOut : laidOutB Try.prog = true := by kernel_rfl
namespace Ev
namespace K
theorem op5 : Op Try.prog 5 (.I .u8) := op_int (by kernel_rfl)
theorem op57 : Op Try.prog 57 (.C (.I .u8) (.I .u8)) := op_array (n := 2) (t' := 5) (by kernel_rfl) (ops_cons op5 (ops_one op5))
theorem op3 : Op Try.prog 3 (.I .i64) := op_int (by kernel_rfl)
theorem op2 : Op Try.prog 2 (.I .i64) := op_int (by kernel_rfl)
theorem op60 : Op Try.prog 60 (.C (.I .i64) (.C (.I .i64) (.I .i64))) := op_struct (fs := flds Try.prog 59) (by kernel_rfl) (by kernel_rfl) (ops_cons op3 (ops_cons op3 (ops_one op2)))
theorem op24 : Op Try.prog 24 (.S (.C (.I .i64) (.C (.I .i64) (.I .i64)))) := op_slice (by kernel_rfl) (by kernel_rfl) op60
end K
end Ev
theorem csrTurns_tds (tds : List TD) (h : TypDs Try.prog [57, 24, 57] tds) : ∃ m n kind, (callers K.E1 m n).1 7 tds = some (kind, [.one (.v (.bool true))]) := by
 obtain ⟨x0, q0, rfl, w0, h0⟩ := K.open_agg (d := .array 2 5) (by kernel_rfl) rfl K.op57 h
 obtain ⟨x1, q1, rfl, w1, h1⟩ := K.open_one (d := .slice 60) (by kernel_rfl) rfl K.op24 h0
 obtain ⟨x2, q2, rfl, w2, h2⟩ := K.open_agg (d := .array 2 5) (by kernel_rfl) rfl K.op57 h1
 obtain rfl := typd_nil h2
 exact K.true_of (en := K.law07_CsrTurns_E) K.law07_CsrTurns_ok (a := (x0, x1, x2)) rfl rfl (law07_CsrTurns_true x0 x1 x2 w0 w1 w2)
theorem csrTurns_lifted (os : Os) (started : os.Started) (H : Type) (enc : TypeId × Value → H) :
  ReturnsInHanded {} Try.checked os 7 .any (Rows.csrTurnsSpec.pre6 enc Try.prog Try.f7 Rows.csrTurnsRow.domain false) (Rows.csrTurnsSpec.post enc Try.prog Try.f7 false true false false) := by
 refine returnsInHanded_of_change (C := Try.checked) Try.own started (by kernel_rfl) Try.func7
  (ChangeSpec.witness6 (enc := enc) (C := Try.checked) false ⟨#[], #[.agg #[.int .u8 0, .int .u8 0], .slice none 0 0, .agg #[.int .u8 0, .int .u8 0]], []⟩ 8 (by kernel_rfl) (by kernel_rfl) (by kernel_rfl) (by kernel_rfl)) ?_
 intro W0 base args ds gs before hval0 hW _ _
 have hval : ∀ (j : Nat) t v, Try.f7.params[j]? = some t → args[j]? = some v → Value.okWide Try.prog W0 .any base t v := hval0
 have hW' := hW
 obtain ⟨p, q, hA0, hV, rfl, _, _⟩ := hW
 have hA : DataW.TrodAll enc Try.prog W0 0 (fun _ => true) true Try.f7.params.toList args.toList ds p := hA0
 rw [Try.params7] at hA hval
 refine (law_call (E := K.E1) K.E1_ok trivial (d := 8) (k := 7) (base := base) (ts := [57, 24, 57]) (vs := args.toList) (fun t ht => ?_) hA (fun j t v h1 h2 => hval j t v (by simpa using h1) (by simpa using h2)) csrTurns_tds).mono fun e W1 ⟨he, hb⟩ => ?_
 ·simp only [List.mem_cons, List.not_mem_nil, or_false] at ht
  rcases ht with rfl | rfl | rfl <;> kernel_rfl
 subst he
 exact ⟨_, rfl, law_post Try.laidOut (by rw [Try.params7]; intro t ht; simp only [List.mem_cons, List.not_mem_nil, or_false] at ht; rcases ht with rfl | rfl | rfl <;> exact ⟨by kernel_rfl, of_decide_eq_true (by kernel_rfl)⟩) rfl (by kernel_rfl) Try.underlying4
  (fun ds hl => by rw [Try.params7] at hl; match ds, hl with | [_d0, _d1, _d2], _ => rfl) hW' hb⟩
theorem csrTurns_holds : Rows.CsrTurnsSaid :=
 OpenClaim.holds_of_wide 7 Try.f7 rfl rfl rfl rfl rfl rfl rfl ⟨rfl, rfl, rfl, rfl, rfl⟩ rfl rfl rfl rfl rfl (by kernel_rfl) Try.func7 (by kernel_rfl)
  (of_decide_eq_true (by kernel_rfl)) (by unfold Func.isWrapper; first | (rw [if_pos (by decide +kernel)]; kernel_rfl) | (rw [if_neg (by decide +kernel)]; exact ⟨rfl, rfl⟩))
  (fun os started H enc _ => csrTurns_lifted os started H enc)
end Go.Proofs.Ytlkcneneagifoaa
