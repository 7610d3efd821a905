/- A law out of the evaluator. -/
import Derived.Test.YtlkcneneagifoaaZC16
import Derived.OpenShut
import Derived.WideShapes
import Derived.ChangeShapes
import Derived.Test.YtlkcneneagifoaaZC0
import Derived.Test.YtlkcneneagifoaaChecked
import Derived.Test.YtlkcneneagifoaaRows
import Derived.Test.YtlkcneneagifoaaZC12
import Derived.Test.YtlkcneneagifoaaZC15
import Derived.Test.YtlkcneneagifoaaZC14
set_option linter.unusedVariables false
set_option linter.unusedSimpArgs false
section
namespace Go.Proofs.Ytlkcneneagifoaa
namespace Ev
open Go Sm
set_option linter.unusedVariables false
set_option linter.unusedSimpArgs false
theorem law08_DcscBack_true (a : Int × Int) (x : Sl E3) (h0 : K.W (.C (.I .u8) (.I .u8)) a) (h1 : K.W (.S (.C (.I .i64) (.C (.I .i64) (.I .i64)))) x) : law08_DcscBack a x = some true := by
 obtain ⟨hs, hn, hw⟩ := w64_of h1
 obtain ⟨m, l, e1, hm⟩ := some_mat h0 hs hw
 obtain ⟨q, q1, q2⟩ := Of_is hm
 obtain ⟨b, b1, b2⟩ := dcsc_Back_is q2
 rw [turn_turn hm.r] at b2
 obtain ⟨q', q3, q4⟩ := Of_is b2
 rw [law08_DcscBack_eq, e1, Option.map_some, Option.bind_some, q1, Option.map_some, Option.bind_some, live8, Option.bind_some, if_pos rfl, dcsc_Right_is q2, Option.map_some, Option.bind_some, if_pos rfl, b1, Option.map_some, Option.bind_some, ref_same8 b2 hm, Option.map_some, Option.bind_some, if_pos rfl, Option.bind_some, q3, Option.map_some, Option.bind_some, dcsc_Same_is q4 q2, Option.map_some, Option.bind_some, decT]
end Ev
end Go.Proofs.Ytlkcneneagifoaa
end
namespace Go.Proofs.Ytlkcneneagifoaa
open Go Go.ChangeShapes Go.WideShapes Go.ChangeAt Go.RowKit Go.Joins Ev
set_option maxRecDepth 100000
theorem Try.own : ownKnob Try.prog.godebug = none := by kernel_rfl
theorem Try.laidOut : laidOutB Try.prog = true := by kernel_rfl
namespace Ev
namespace K
theorem op5 : Op Try.prog 5 (.I .u8) := op_int (by kernel_rfl)
theorem op57 : Op Try.prog 57 (.C (.I .u8) (.I .u8)) := op_array (n := 2) (t' := 5) (by kernel_rfl) (ops_cons op5 (ops_one op5))
theorem op3 : Op Try.prog 3 (.I .i64) := op_int (by kernel_rfl)
theorem op2 : Op Try.prog 2 (.I .i64) := op_int (by kernel_rfl)
theorem op60 : Op Try.prog 60 (.C (.I .i64) (.C (.I .i64) (.I .i64))) := op_struct (fs := flds Try.prog 59) (by kernel_rfl) (by kernel_rfl) (ops_cons op3 (ops_cons op3 (ops_one op2)))
theorem op24 : Op Try.prog 24 (.S (.C (.I .i64) (.C (.I .i64) (.I .i64)))) := op_slice (by kernel_rfl) (by kernel_rfl) op60
end K
end Ev
theorem dcscBack_tds (tds : List TD) (h : TypDs Try.prog [57, 24] tds) : ∃ m n kind, (callers K.E2 m n).1 10 tds = some (kind, [.one (.v (.bool true))]) := by
 obtain ⟨x0, q0, rfl, w0, h0⟩ := K.open_agg (d := .array 2 5) (by kernel_rfl) rfl K.op57 h
 obtain ⟨x1, q1, rfl, w1, h1⟩ := K.open_one (d := .slice 60) (by kernel_rfl) rfl K.op24 h0
 obtain rfl := typd_nil h1
 exact K.true_of (en := K.law08_DcscBack_E) K.law08_DcscBack_ok (a := (x0, x1)) rfl rfl (law08_DcscBack_true x0 x1 w0 w1)
theorem dcscBack_lifted (os : Os) (started : os.Started) (H : Type) (enc : TypeId × Value → H) :
  ReturnsInHanded {} Try.checked os 10 .any (Rows.dcscBackSpec.pre6 enc Try.prog Try.f10 Rows.dcscBackRow.domain false) (Rows.dcscBackSpec.post enc Try.prog Try.f10 false true false false) := by
 refine returnsInHanded_of_change (C := Try.checked) Try.own started (by kernel_rfl) Try.func10
  (ChangeSpec.witness6 (enc := enc) (C := Try.checked) false ⟨#[], #[.agg #[.int .u8 0, .int .u8 0], .slice none 0 0], []⟩ 8 (by kernel_rfl) (by kernel_rfl) (by kernel_rfl) (by kernel_rfl)) ?_
 intro W0 base args ds gs before hval0 hW _ _
 have hval : ∀ (j : Nat) t v, Try.f10.params[j]? = some t → args[j]? = some v → Value.okWide Try.prog W0 .any base t v := hval0
 have hW' := hW
 obtain ⟨p, q, hA0, hV, rfl, _, _⟩ := hW
 have hA : DataW.TrodAll enc Try.prog W0 0 (fun _ => true) true Try.f10.params.toList args.toList ds p := hA0
 rw [Try.params10] at hA hval
 refine (law_call (E := K.E2) K.E2_ok trivial (d := 8) (k := 10) (base := base) (ts := [57, 24]) (vs := args.toList) (fun t ht => ?_) hA (fun j t v h1 h2 => hval j t v (by simpa using h1) (by simpa using h2)) dcscBack_tds).mono fun e W1 ⟨he, hb⟩ => ?_
 ·simp only [List.mem_cons, List.not_mem_nil, or_false] at ht
  rcases ht with rfl | rfl <;> kernel_rfl
 subst he
 exact ⟨_, rfl, law_post Try.laidOut (by rw [Try.params10]; intro t ht; simp only [List.mem_cons, List.not_mem_nil, or_false] at ht; rcases ht with rfl | rfl <;> exact ⟨by kernel_rfl, of_decide_eq_true (by kernel_rfl)⟩) rfl (by kernel_rfl) Try.underlying4
  (fun ds hl => by rw [Try.params10] at hl; match ds, hl with | [_d0, _d1], _ => rfl) hW' hb⟩
theorem dcscBack_holds : Rows.DcscBackSaid :=
 OpenClaim.holds_of_wide 10 Try.f10 rfl rfl rfl rfl rfl rfl rfl ⟨rfl, rfl, rfl, rfl, rfl⟩ rfl rfl rfl rfl rfl (by kernel_rfl) Try.func10 (by kernel_rfl)
  (of_decide_eq_true (by kernel_rfl)) (by unfold Func.isWrapper; first | (rw [if_pos (by decide +kernel)]; kernel_rfl) | (rw [if_neg (by decide +kernel)]; exact ⟨rfl, rfl⟩))
  (fun os started H enc _ => dcscBack_lifted os started H enc)
end Go.Proofs.Ytlkcneneagifoaa
