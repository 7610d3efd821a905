/- A law out of the evaluator. -/
import Derived.Test.YtlkcneneagifoaaZC16
import Derived.OpenShut
import Derived.WideShapes
import Derived.ChangeShapes
import Derived.Test.YtlkcneneagifoaaZC0
import Derived.Test.YtlkcneneagifoaaChecked
import Derived.Test.YtlkcneneagifoaaRows
import Derived.Test.YtlkcneneagifoaaZC12
import Derived.Test.YtlkcneneagifoaaZC15
import Derived.Test.YtlkcneneagifoaaZC14
set_option linter.unusedVariables false
set_option linter.unusedSimpArgs false
section
namespace Go.Proofs.Ytlkcneneagifoaa
namespace Ev
open Go Sm
set_option linter.unusedVariables false
set_option linter.unusedSimpArgs false
theorem each_column {c q : Cx} {n k : Int} {T : List E3} (h1 : dcsc_sure c = some q) (h2 : ref08_Sure c = some q) (hq : IsC q n k T) {z : Sl Int} (hz : okS 1 z) (hl : z.l.length ≤ 20) : loopO (law08_DcscOf_b1 c z) 0 = some (.inl ()) := by
 have hlen := hq.len
 refine loop_stop z.l.length (fun i => (i : Int)) rfl (fun i hi => ?_) ?_
 ·have a1 := atS_some' hz (List.getElem?_eq_getElem hi)
  have hr := rowI_len T z.l[i]
  simp only [law08_DcscOf_b1, a1, Option.bind_some]
  rw [if_pos (by omega), Column_sure h1 hq, Option.map_some, Option.bind_some, rColumn_sure h2 hq, Option.map_some, Option.bind_some, items_same (by rw [List.length_map]; omega), Option.map_some, Option.bind_some, if_neg (fun h => h rfl), w_succ hi (by omega)]
 ·simp only [law08_DcscOf_b1]
  rw [if_neg (by omega)]
theorem law08_DcscOf_true (x : Mx) (y : Cx) (z : Sl Int) (h0 : K.W (.C (.I .i64) (.C (.I .i64) (.C (.S (.I .i64)) (.C (.S (.I .i64)) (.S (.I .i64)))))) x) (h1 : K.W (.C (.I .i64) (.C (.I .i64) (.C (.S (.I .i64)) (.C (.S (.I .i64)) (.C (.S (.I .i64)) (.S (.I .i64))))))) y) (h2 : K.W (.S (.I .i64)) z) : law08_DcscOf x y z = some true := by
 have ok := okM_of8 h0
 obtain ⟨a, b, n, k, l, ha, hb, ia, ib⟩ := sure_both ok
 have hz : okS 1 z := .inr h2.1
 have lv : (FL42.bind fun (out : Bool) => some (decide (out = true))) = some true := by rw [live8, Option.bind_some, decT]
 rw [law08_DcscOf_eq]
 by_cases c1 : (x.2.2.1.l.length : Int) > 50
 ·rw [if_pos c1, lv]
 by_cases c2 : (x.2.2.2.1.l.length : Int) > 60
 ·rw [if_neg c1, if_pos c2, lv]
 by_cases c3 : (x.2.2.2.2.l.length : Int) > 60
 ·rw [if_neg c1, if_neg c2, if_pos c3, lv]
 by_cases c4 : (y.2.2.1.l.length : Int) > 50
 ·rw [if_neg c1, if_neg c2, if_neg c3, if_pos c4, lv]
 by_cases c5 : (y.2.2.2.1.l.length : Int) > 50
 ·rw [if_neg c1, if_neg c2, if_neg c3, if_neg c4, if_pos c5, lv]
 by_cases c6 : (y.2.2.2.2.1.l.length : Int) > 60
 ·rw [if_neg c1, if_neg c2, if_neg c3, if_neg c4, if_neg c5, if_pos c6, lv]
 by_cases c7 : (y.2.2.2.2.2.l.length : Int) > 60
 ·rw [if_neg c1, if_neg c2, if_neg c3, if_neg c4, if_neg c5, if_neg c6, if_pos c7, lv]
 by_cases c8 : (z.l.length : Int) > 20
 ·rw [if_neg c1, if_neg c2, if_neg c3, if_neg c4, if_neg c5, if_neg c6, if_neg c7, if_pos c8, lv]
 rw [if_neg c1, if_neg c2, if_neg c3, if_neg c4, if_neg c5, if_neg c6, if_neg c7, if_neg c8]
 have okc := okC_of h1 (by omega) (by omega) (by omega) (by omega)
 obtain ⟨q, n', k', T, s1, s2, iq⟩ := sureC_is okc
 have fl := each_column s1 s2 iq hz (by omega)
 have fl2 : loopO (law08_DcscOf_b2 y z) 0 = some (.inl ()) := fl
 obtain ⟨u, u1, u2⟩ := Of_is ia
 obtain ⟨w, w1, w2⟩ := ref08_Of_is ib
 have f1 := (Of_sure ha ia).trans u1
 have f2 := (rOf_sure hb ib).trans w1
 obtain ⟨v, v1, v2⟩ := dcsc_Back_is iq
 obtain ⟨v', v3, v4⟩ := ref08_Back_is iq
 have f3 := (Back_sure s1 iq).trans v1
 have f4 := (rBack_sure s2 iq).trans v3
 have f5 := dcsc_Right_w okc
 have f6 := ref08_Right_w okc
 have f7 : ((q.2.2.2.2.1.l.length : Nat) : Int) = (T.length : Int) := by rw [iq.e5, List.length_map]
 by_cases c9 : x.2.1 > 300
 ·rw [if_pos c9, ref07_Right_w ok, Option.map_some, Option.bind_some]
  by_cases hr : rightM x = true
  ·rw [if_pos hr, lv]
  ·rw [if_neg hr]
   rw [fl, Option.bind_some, Sum.elim_inl, live8, Option.bind_some, if_pos rfl, f1, Option.map_some, Option.bind_some, f2, Option.map_some, Option.bind_some, ref08_Same_is u2 w2, Option.map_some, Option.bind_some, if_pos rfl, f5, Option.map_some, Option.bind_some, f6, Option.map_some, Option.bind_some, if_pos rfl, f3, Option.map_some, Option.bind_some, f4, Option.map_some, Option.bind_some, ref_same8 v2 v4, Option.map_some, Option.bind_some, if_pos rfl, Many_sure s1 iq, Option.map_some, Option.bind_some, s2, Option.map_some, Option.bind_some, if_pos rfl, Count_sure8 s1 iq, Option.map_some, Option.bind_some, Option.bind_some, if_pos f7.symm, Work_sure s1 iq hz (by omega), Option.map_some, Option.bind_some, rWork_sure s2 iq hz (by omega), Option.bind_some]
   exact congrArg some (decide_eq_true rfl)
 ·rw [if_neg c9]
  rw [fl2, Option.bind_some, Sum.elim_inl, live8, Option.bind_some, if_pos rfl, f1, Option.map_some, Option.bind_some, f2, Option.map_some, Option.bind_some, ref08_Same_is u2 w2, Option.map_some, Option.bind_some, if_pos rfl, f5, Option.map_some, Option.bind_some, f6, Option.map_some, Option.bind_some, if_pos rfl, f3, Option.map_some, Option.bind_some, f4, Option.map_some, Option.bind_some, ref_same8 v2 v4, Option.map_some, Option.bind_some, if_pos rfl, Many_sure s1 iq, Option.map_some, Option.bind_some, s2, Option.map_some, Option.bind_some, if_pos rfl, Count_sure8 s1 iq, Option.map_some, Option.bind_some, Option.bind_some, if_pos f7.symm, Work_sure s1 iq hz (by omega), Option.map_some, Option.bind_some, rWork_sure s2 iq hz (by omega), Option.bind_some]
  exact congrArg some (decide_eq_true rfl)
end Ev
end Go.Proofs.Ytlkcneneagifoaa
end
namespace Go.Proofs.Ytlkcneneagifoaa
open Go Go.ChangeShapes Go.WideShapes Go.ChangeAt Go.RowKit Go.Joins Ev
set_option maxRecDepth 100000
theorem Try.own : ownKnob Try.prog.godebug = none := by kernel_rfl
theorem Try.laidOut : laidOutB Try.prog = true := by kernel_rfl
namespace Ev
namespace K
theorem op3 : Op Try.prog 3 (.I .i64) := op_int (by kernel_rfl)
theorem op26 : Op Try.prog 26 (.S (.I .i64)) := op_slice (by kernel_rfl) (by kernel_rfl) op3
theorem op2 : Op Try.prog 2 (.I .i64) := op_int (by kernel_rfl)
theorem op27 : Op Try.prog 27 (.S (.I .i64)) := op_slice (by kernel_rfl) (by kernel_rfl) op2
theorem op29 : Op Try.prog 29 (.C (.I .i64) (.C (.I .i64) (.C (.S (.I .i64)) (.C (.S (.I .i64)) (.S (.I .i64)))))) := op_struct (fs := flds Try.prog 28) (by kernel_rfl) (by kernel_rfl) (ops_cons op3 (ops_cons op3 (ops_cons op26 (ops_cons op26 (ops_one op27)))))
theorem op68 : Op Try.prog 68 (.C (.I .i64) (.C (.I .i64) (.C (.S (.I .i64)) (.C (.S (.I .i64)) (.C (.S (.I .i64)) (.S (.I .i64))))))) := op_struct (fs := flds Try.prog 67) (by kernel_rfl) (by kernel_rfl) (ops_cons op3 (ops_cons op3 (ops_cons op26 (ops_cons op26 (ops_cons op26 (ops_one op27))))))
end K
end Ev
theorem dcscOf_tds (tds : List TD) (h : TypDs Try.prog [29, 68, 26] tds) : ∃ m n kind, (callers K.E2 m n).1 9 tds = some (kind, [.one (.v (.bool true))]) := by
 obtain ⟨x0, q0, rfl, w0, h0⟩ := K.open_agg (d := .struct (flds Try.prog 28)) (by kernel_rfl) rfl K.op29 h
 obtain ⟨x1, q1, rfl, w1, h1⟩ := K.open_agg (d := .struct (flds Try.prog 67)) (by kernel_rfl) rfl K.op68 h0
 obtain ⟨x2, q2, rfl, w2, h2⟩ := K.open_one (d := .slice 3) (by kernel_rfl) rfl K.op26 h1
 obtain rfl := typd_nil h2
 exact K.true_of (en := K.law08_DcscOf_E) K.law08_DcscOf_ok (a := (x0, x1, x2)) rfl rfl (law08_DcscOf_true x0 x1 x2 w0 w1 w2)
theorem dcscOf_lifted (os : Os) (started : os.Started) (H : Type) (enc : TypeId × Value → H) :
  ReturnsInHanded {} Try.checked os 9 .any (Rows.dcscOfSpec.pre6 enc Try.prog Try.f9 Rows.dcscOfRow.domain false) (Rows.dcscOfSpec.post enc Try.prog Try.f9 false true false false) := by
 refine returnsInHanded_of_change (C := Try.checked) Try.own started (by kernel_rfl) Try.func9
  (ChangeSpec.witness6 (enc := enc) (C := Try.checked) false ⟨#[], #[.agg #[.int .i64 0, .int .i64 0, .slice none 0 0, .slice none 0 0, .slice none 0 0], .agg #[.int .i64 0, .int .i64 0, .slice none 0 0, .slice none 0 0, .slice none 0 0, .slice none 0 0], .slice none 0 0], []⟩ 8 (by kernel_rfl) (by kernel_rfl) (by kernel_rfl) (by kernel_rfl)) ?_
 intro W0 base args ds gs before hval0 hW _ _
 have hval : ∀ (j : Nat) t v, Try.f9.params[j]? = some t → args[j]? = some v → Value.okWide Try.prog W0 .any base t v := hval0
 have hW' := hW
 obtain ⟨p, q, hA0, hV, rfl, _, _⟩ := hW
 have hA : DataW.TrodAll enc Try.prog W0 0 (fun _ => true) true Try.f9.params.toList args.toList ds p := hA0
 rw [Try.params9] at hA hval
 refine (law_call (E := K.E2) K.E2_ok trivial (d := 8) (k := 9) (base := base) (ts := [29, 68, 26]) (vs := args.toList) (fun t ht => ?_) hA (fun j t v h1 h2 => hval j t v (by simpa using h1) (by simpa using h2)) dcscOf_tds).mono fun e W1 ⟨he, hb⟩ => ?_
 ·simp only [List.mem_cons, List.not_mem_nil, or_false] at ht
  rcases ht with rfl | rfl | rfl <;> kernel_rfl
 subst he
 exact ⟨_, rfl, law_post Try.laidOut (by rw [Try.params9]; intro t ht; simp only [List.mem_cons, List.not_mem_nil, or_false] at ht; rcases ht with rfl | rfl | rfl <;> exact ⟨by kernel_rfl, of_decide_eq_true (by kernel_rfl)⟩) rfl (by kernel_rfl) Try.underlying4
  (fun ds hl => by rw [Try.params9] at hl; match ds, hl with | [_d0, _d1, _d2], _ => rfl) hW' hb⟩
theorem dcscOf_holds : Rows.DcscOfSaid :=
 OpenClaim.holds_of_wide 9 Try.f9 rfl rfl rfl rfl rfl rfl rfl ⟨rfl, rfl, rfl, rfl, rfl⟩ rfl rfl rfl rfl rfl (by kernel_rfl) Try.func9 (by kernel_rfl)
  (of_decide_eq_true (by kernel_rfl)) (by unfold Func.isWrapper; first | (rw [if_pos (by decide +kernel)]; kernel_rfl) | (rw [if_neg (by decide +kernel)]; exact ⟨rfl, rfl⟩))
  (fun os started H enc _ => dcscOf_lifted os started H enc)
end Go.Proofs.Ytlkcneneagifoaa
