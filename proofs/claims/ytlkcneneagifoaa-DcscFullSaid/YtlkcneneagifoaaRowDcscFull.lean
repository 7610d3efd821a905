/- A law out of the evaluator. -/
import Derived.Test.YtlkcneneagifoaaZC16
import Derived.OpenShut
import Derived.WideShapes
import Derived.ChangeShapes
import Derived.Test.YtlkcneneagifoaaZC0
import Derived.Test.YtlkcneneagifoaaChecked
import Derived.Test.YtlkcneneagifoaaRows
import Derived.Test.YtlkcneneagifoaaZC12
import Derived.Test.YtlkcneneagifoaaZC15
import Derived.Test.YtlkcneneagifoaaZC14
set_option linter.unusedVariables false
set_option linter.unusedSimpArgs false
section
namespace Go.Proofs.Ytlkcneneagifoaa
namespace Ev
open Go Sm
set_option linter.unusedVariables false
set_option linter.unusedSimpArgs false
theorem full_loop {q : Cx} {n k : Int} {T : List E3} (h : IsC q n k T) : loopO (law08_DcscFull_b1 q) 0 = some (.inl ()) := by
 have hL := h.atLen
 refine loop_stop q.2.2.1.l.length (fun i => (i : Int)) rfl (fun i hi => ?_) ?_
 ·have a1 := atS_some' h.o3 (List.getElem?_eq_getElem hi)
  have hne := h.mem_iff.1 (List.getElem_mem hi)
  have hpos := List.length_pos_iff.2 hne
  simp only [law08_DcscFull_b1, a1, Option.bind_some]
  rw [if_pos (by omega), dcsc_Column_is h, Option.map_some, Option.bind_some, if_neg (by simp only [List.length_map]; omega), w_succ hi (by omega)]
 ·simp only [law08_DcscFull_b1]
  rw [if_neg (by omega)]
theorem law08_DcscFull_true (a : Int × Int) (x : Sl E3) (h0 : K.W (.C (.I .u8) (.I .u8)) a) (h1 : K.W (.S (.C (.I .i64) (.C (.I .i64) (.I .i64)))) x) : law08_DcscFull a x = some true := by
 obtain ⟨hs, hn, hw⟩ := w64_of h1
 obtain ⟨m, l, e1, hm⟩ := some_mat h0 hs hw
 obtain ⟨q, q1, q2⟩ := Of_is hm
 have hc := cols_le q2.h0 (size40 a.2).toNat
 rw [q2.top, ← q2.e3] at hc
 have hk := work_all q2.h0 (size40 a.2).toNat
 rw [q2.top, ← q2.e3] at hk
 have hL := q2.atLen
 rw [law08_DcscFull_eq, e1, Option.map_some, Option.bind_some, q1, Option.map_some, Option.bind_some, full_loop q2, Option.bind_some, Sum.elim_inl, live8, Option.bind_some, if_pos rfl, dcsc_Many_is q2, Option.map_some, Option.bind_some, dcsc_Count_is q2, Option.map_some, Option.bind_some, if_pos (by omega), dcsc_Work_is q2 q2.o3 (by omega), Option.map_some, Option.bind_some, Option.bind_some, hk]
 exact congrArg some (decide_eq_true rfl)
end Ev
end Go.Proofs.Ytlkcneneagifoaa
end
namespace Go.Proofs.Ytlkcneneagifoaa
open Go Go.ChangeShapes Go.WideShapes Go.ChangeAt Go.RowKit Go.Joins Ev
set_option maxRecDepth 100000
theorem Try.own : ownKnob Try.prog.godebug = none := by kernel_rfl
theorem Try.laidOut : laidOutB Try.prog = true := by kernel_rfl
namespace Ev
namespace K
theorem op5 : Op Try.prog 5 (.I .u8) := op_int (by kernel_rfl)
theorem op57 : Op Try.prog 57 (.C (.I .u8) (.I .u8)) := op_array (n := 2) (t' := 5) (by kernel_rfl) (ops_cons op5 (ops_one op5))
theorem op3 : Op Try.prog 3 (.I .i64) := op_int (by kernel_rfl)
theorem op2 : Op Try.prog 2 (.I .i64) := op_int (by kernel_rfl)
theorem op60 : Op Try.prog 60 (.C (.I .i64) (.C (.I .i64) (.I .i64))) := op_struct (fs := flds Try.prog 59) (by kernel_rfl) (by kernel_rfl) (ops_cons op3 (ops_cons op3 (ops_one op2)))
theorem op24 : Op Try.prog 24 (.S (.C (.I .i64) (.C (.I .i64) (.I .i64)))) := op_slice (by kernel_rfl) (by kernel_rfl) op60
end K
end Ev
theorem dcscFull_tds (tds : List TD) (h : TypDs Try.prog [57, 24] tds) : ∃ m n kind, (callers K.E2 m n).1 12 tds = some (kind, [.one (.v (.bool true))]) := by
 obtain ⟨x0, q0, rfl, w0, h0⟩ := K.open_agg (d := .array 2 5) (by kernel_rfl) rfl K.op57 h
 obtain ⟨x1, q1, rfl, w1, h1⟩ := K.open_one (d := .slice 60) (by kernel_rfl) rfl K.op24 h0
 obtain rfl := typd_nil h1
 exact K.true_of (en := K.law08_DcscFull_E) K.law08_DcscFull_ok (a := (x0, x1)) rfl rfl (law08_DcscFull_true x0 x1 w0 w1)
theorem dcscFull_lifted (os : Os) (started : os.Started) (H : Type) (enc : TypeId × Value → H) :
  ReturnsInHanded {} Try.checked os 12 .any (Rows.dcscFullSpec.pre6 enc Try.prog Try.f12 Rows.dcscFullRow.domain false) (Rows.dcscFullSpec.post enc Try.prog Try.f12 false true false false) := by
 refine returnsInHanded_of_change (C := Try.checked) Try.own started (by kernel_rfl) Try.func12
  (ChangeSpec.witness6 (enc := enc) (C := Try.checked) false ⟨#[], #[.agg #[.int .u8 0, .int .u8 0], .slice none 0 0], []⟩ 8 (by kernel_rfl) (by kernel_rfl) (by kernel_rfl) (by kernel_rfl)) ?_
 intro W0 base args ds gs before hval0 hW _ _
 have hval : ∀ (j : Nat) t v, Try.f12.params[j]? = some t → args[j]? = some v → Value.okWide Try.prog W0 .any base t v := hval0
 have hW' := hW
 obtain ⟨p, q, hA0, hV, rfl, _, _⟩ := hW
 have hA : DataW.TrodAll enc Try.prog W0 0 (fun _ => true) true Try.f12.params.toList args.toList ds p := hA0
 rw [Try.params12] at hA hval
 refine (law_call (E := K.E2) K.E2_ok trivial (d := 8) (k := 12) (base := base) (ts := [57, 24]) (vs := args.toList) (fun t ht => ?_) hA (fun j t v h1 h2 => hval j t v (by simpa using h1) (by simpa using h2)) dcscFull_tds).mono fun e W1 ⟨he, hb⟩ => ?_
 ·simp only [List.mem_cons, List.not_mem_nil, or_false] at ht
  rcases ht with rfl | rfl <;> kernel_rfl
 subst he
 exact ⟨_, rfl, law_post Try.laidOut (by rw [Try.params12]; intro t ht; simp only [List.mem_cons, List.not_mem_nil, or_false] at ht; rcases ht with rfl | rfl <;> exact ⟨by kernel_rfl, of_decide_eq_true (by kernel_rfl)⟩) rfl (by kernel_rfl) Try.underlying4
  (fun ds hl => by rw [Try.params12] at hl; match ds, hl with | [_d0, _d1], _ => rfl) hW' hb⟩
theorem dcscFull_holds : Rows.DcscFullSaid :=
 OpenClaim.holds_of_wide 12 Try.f12 rfl rfl rfl rfl rfl rfl rfl ⟨rfl, rfl, rfl, rfl, rfl⟩ rfl rfl rfl rfl rfl (by kernel_rfl) Try.func12 (by kernel_rfl)
  (of_decide_eq_true (by kernel_rfl)) (by unfold Func.isWrapper; first | (rw [if_pos (by decide +kernel)]; kernel_rfl) | (rw [if_neg (by decide +kernel)]; exact ⟨rfl, rfl⟩))
  (fun os started H enc _ => dcscFull_lifted os started H enc)
end Go.Proofs.Ytlkcneneagifoaa
