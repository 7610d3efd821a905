/- A law out of the evaluator. -/
import Derived.Test.YtkmbihigeeclbaaZFB14
import Derived.OpenShut
import Derived.WideShapes
import Derived.ChangeShapes
import Derived.Test.YtkmbihigeeclbaaZFB0
import Derived.Test.YtkmbihigeeclbaaChecked
import Derived.Test.YtkmbihigeeclbaaRows
import Derived.Test.YtkmbihigeeclbaaZFB13
set_option linter.unusedVariables false
set_option linter.unusedSimpArgs false
section
namespace Go.Proofs.Ytkmbihigeeclbaa
namespace Ev
open Go Sm
set_option linter.unusedVariables false
set_option linter.unusedSimpArgs false
theorem Jt (y : Fr) (h7 : y.2.2.2.2.2.1.2.length ≤ 9223372036854775806) (h8 : y.2.2.2.2.2.2.1.length ≤ 9223372036854775806) (h9 : y.2.2.2.2.2.2.2.1.length ≤ 9223372036854775806) : OkX (Sm.Fd.frS y) := ⟨.inr rfl, .inr rfl, .inr rfl, h7, h8, h9⟩
theorem jK (x : FrX) (y : Sl Int) (h0 : K.W Sm.Fd.Ft x) (h1 : K.W (.S (.I .u8)) y) : dh x y = some true := by
 obtain ⟨x', e, hx⟩ := JQ h0
 have hE := hx.t
 rw [lC, e, Io]
 simp only [zbS]
 by_cases c0 : (y.l.length : Int) > 4000
 ·rw [if_pos c0]; simp
 rw [if_neg c0, gm hE]
 simp only [zbS]
 have hfirst : (if (qN x').2 = 0 then (aS (qN x').1).bind fun out_2 => if out_2.2.1 ≠ 0 then some (Sum.inl false) else (cV x' out_2.1).bind fun (out : Bool) => if ¬out = true then some (Sum.inl false) else some (Sum.inr (Sum.inl ())) else some (Sum.inr (Sum.inl ()))) = (some (Sum.inr (Sum.inl ())) : Option (Bool ⊕ PUnit ⊕ Empty)) := by
  by_cases c1 : cJ x' = 0
  ·have e1 : qN x' = (⟨true, 1, Sm.Fe.encF x'⟩, 0) := by unfold qN; rw [if_pos c1]
   rw [e1, if_pos rfl]
   have hd := Bk c1 hx (z := []) (by simp) (by simp)
   rw [List.append_nil] at hd
   rw [if_pos List.length_nil] at hd
   rw [hd]
   simp only [zbS]
   rw [if_neg (by simp), mR hE.o (Jt (frD x') hE.o.l7 hE.o.l8 hE.o.l9) ⟨rfl, rfl, rfl, rfl, rfl, rfl, rfl, rfl, rfl, rfl, rfl⟩]
   rfl
  ·have e1 : qN x' = (⟨false, 0, []⟩, cJ x') := by unfold qN; rw [if_neg c1]
   rw [e1, if_neg c1]
 rw [hfirst]
 simp only [zbS, Sum.elim_inr, Sum.elim_inl]
 rcases FQ h1 (by omega) with ⟨er, d1, d2, d3, d4⟩ | ⟨z, d1, d2, d3, d4⟩
 ·rw [d1]
  simp only [zbS]
  rw [if_pos d2, if_pos trivial, show cd Sm.Fd.zero (0, 0, 0, 0, 0, (0, ⟨false, 0, []⟩), ⟨false, 0, []⟩, ⟨false, 0, []⟩, 0, false) = some true from mQ CV CV (EqX.refl _)]
  simp only [zbS]
  rw [if_pos trivial, if_pos d3, decide_eq_true d4]
 ·rw [d1]
  simp only [zbS]
  rw [if_neg (by simp), gm d2]
  have e1 : qN z = (⟨true, 1, Sm.Fe.encF z⟩, 0) := by unfold qN; rw [if_pos d3]
  rw [e1]
  simp only [zbS]
  rw [if_pos trivial, if_pos trivial, wO (.inr rfl) (.inr h1.1) (by show (Sm.Fe.encF z).length ≤ _; rw [d4]; omega), decide_eq_true d4]
  rfl
end Ev
end Go.Proofs.Ytkmbihigeeclbaa
end
namespace Go.Proofs.Ytkmbihigeeclbaa
open Go Go.ChangeShapes Go.WideShapes Go.ChangeAt Go.RowKit Go.Joins Ev
set_option maxRecDepth 100000
theorem Try.own : ownKnob Try.prog.godebug = none := by kernel_rfl
theorem Try.laidOut : laidOutB Try.prog = true := by kernel_rfl
namespace Ev
namespace K
theorem Ot : Op Try.prog 22 (.I .i64) := qG (by kernel_rfl)
theorem op3 : Op Try.prog 3 (.I .i64) := qG (by kernel_rfl)
theorem op2 : Op Try.prog 2 (.I .i64) := qG (by kernel_rfl)
theorem Ou : Op Try.prog 56 (.C (.I .i64) (.I .i64)) := fS (fs := br Try.prog 55) (by kernel_rfl) (by kernel_rfl) (ct op3 (jO op2))
theorem Ov : Op Try.prog 23 (.S (.C (.I .i64) (.I .i64))) := mO (by kernel_rfl) (by kernel_rfl) Ou
theorem Ow : Op Try.prog 25 (.C (.I .i64) (.S (.C (.I .i64) (.I .i64)))) := fS (fs := br Try.prog 24) (by kernel_rfl) (by kernel_rfl) (ct op3 (jO Ov))
theorem Ox : Op Try.prog 57 (.I .u64) := qG (by kernel_rfl)
theorem Oy : Op Try.prog 59 (.C (.I .i64) (.I .u64)) := fS (fs := br Try.prog 58) (by kernel_rfl) (by kernel_rfl) (ct op2 (jO Ox))
theorem Oz : Op Try.prog 61 (.C (.I .i64) (.C (.I .i64) (.I .u64))) := fS (fs := br Try.prog 60) (by kernel_rfl) (by kernel_rfl) (ct op3 (jO Oy))
theorem OA : Op Try.prog 26 (.S (.C (.I .i64) (.C (.I .i64) (.I .u64)))) := mO (by kernel_rfl) (by kernel_rfl) Oz
theorem OC : Op Try.prog 63 (.C (.I .i64) (.C (.I .i64) (.I .i64))) := fS (fs := br Try.prog 62) (by kernel_rfl) (by kernel_rfl) (ct op3 (ct op3 (jO op2)))
theorem OD : Op Try.prog 27 (.S (.C (.I .i64) (.C (.I .i64) (.I .i64)))) := mO (by kernel_rfl) (by kernel_rfl) OC
theorem op4 : Op Try.prog 4 .B := Fu (by kernel_rfl)
theorem OE : Op Try.prog 29 (.C (.I .i64) (.C (.I .i64) (.C (.I .i64) (.C (.I .i64) (.C (.I .i64) (.C (.C (.I .i64) (.S (.C (.I .i64) (.I .i64)))) (.C (.S (.C (.I .i64) (.C (.I .i64) (.I .u64)))) (.C (.S (.C (.I .i64) (.C (.I .i64) (.I .i64)))) (.C (.I .i64) .B))))))))) := fS (fs := br Try.prog 28) (by kernel_rfl) (by kernel_rfl) (ct Ot (ct op3 (ct op3 (ct op3 (ct op3 (ct Ow (ct OA (ct OD (ct op2 (jO op4))))))))))
theorem op5 : Op Try.prog 5 (.I .u8) := qG (by kernel_rfl)
theorem OF : Op Try.prog 31 (.S (.I .u8)) := mO (by kernel_rfl) (by kernel_rfl) op5
end K
end Ev
theorem sS (tds : List TD) (h : go Try.prog [29, 31] tds) : ∃ m n kind, (cN K.E1 m n).1 5 tds = some (kind, [.one (.v (.bool true))]) := by
 obtain ⟨x0, q0, rfl, w0, h0⟩ := K.CM (d := .struct (br Try.prog 28)) (by kernel_rfl) rfl K.OE h
 obtain ⟨x1, q1, rfl, w1, h1⟩ := K.CL (d := .slice 5) (by kernel_rfl) rfl K.OF h0
 obtain rfl := Ef h1
 exact K.Fv (en := K.gI) K.lz (a := (x0, x1)) rfl rfl (jK x0 x1 w0 w1)
theorem oC (os : Os) (started : os.Started) (H : Type) (enc : TypeId × Value → H) :
  ReturnsInHanded {} Try.checked os 5 .any (Rows.frameBackSpec.pre6 enc Try.prog Try.f5 Rows.frameBackRow.domain false) (Rows.frameBackSpec.post enc Try.prog Try.f5 false true false false) := by
 refine returnsInHanded_of_change (C := Try.checked) Try.own started (by kernel_rfl) Try.func5
  (ChangeSpec.witness6 (enc := enc) (C := Try.checked) false ⟨#[], #[.agg #[.int .i64 0, .int .i64 0, .int .i64 0, .int .i64 0, .int .i64 0, .int .i64 0, .slice none 0 0, .slice none 0 0, .slice none 0 0, .int .i64 0, .bool false], .slice none 0 0], []⟩ 8 (by kernel_rfl) (by kernel_rfl) (by kernel_rfl) (by kernel_rfl)) ?_
 intro W0 base args ds gs before hval0 hW _ _
 have hval : ∀ (j : Nat) t v, Try.f5.params[j]? = some t → args[j]? = some v → Value.okWide Try.prog W0 .any base t v := hval0
 have hW' := hW
 obtain ⟨p, q, hA0, hV, rfl, _, _⟩ := hW
 have hA : DataW.TrodAll enc Try.prog W0 0 (fun _ => true) true Try.f5.params.toList args.toList ds p := hA0
 rw [Try.params5] at hA hval
 refine (Ds (E := K.E1) K.dN trivial (d := 8) (k := 5) (base := base) (ts := [29, 31]) (vs := args.toList) (fun t ht => ?_) hA (fun j t v h1 h2 => hval j t v (by simpa using h1) (by simpa using h2)) sS).mono fun e W1 ⟨he, hb⟩ => ?_
 ·simp only [List.mem_cons, List.not_mem_nil, or_false] at ht
  rcases ht with rfl | rfl <;> kernel_rfl
 subst he
 exact ⟨_, rfl, Cg Try.laidOut (by rw [Try.params5]; intro t ht; simp only [List.mem_cons, List.not_mem_nil, or_false] at ht; rcases ht with rfl | rfl <;> exact ⟨by kernel_rfl, of_decide_eq_true (by kernel_rfl)⟩) rfl (by kernel_rfl) Try.underlying4
  (fun ds hl => by rw [Try.params5] at hl; match ds, hl with | [_d0, _d1], _ => rfl) hW' hb⟩
theorem frameBack_holds : Rows.FrameBackSaid :=
 OpenClaim.holds_of_wide 5 Try.f5 rfl rfl rfl rfl rfl rfl rfl ⟨rfl, rfl, rfl, rfl, rfl⟩ rfl rfl rfl rfl rfl (by kernel_rfl) Try.func5 (by kernel_rfl)
  (of_decide_eq_true (by kernel_rfl)) (by unfold Func.isWrapper; first | (rw [if_pos (by decide +kernel)]; kernel_rfl) | (rw [if_neg (by decide +kernel)]; exact ⟨rfl, rfl⟩))
  (fun os started H enc _ => oC os started H enc)
end Go.Proofs.Ytkmbihigeeclbaa
