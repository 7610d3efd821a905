/- TopLeast: whatever comes in, it is true. -/
import Derived.OpenShut
import Derived.WideShapes
import Derived.ChangeShapes
import Derived.Test.YtlcfdmjkbaegpaaLaw
import Derived.Test.YtlcfdmjkbaegpaaChecked
import Derived.Test.YtlcfdmjkbaegpaaRows
import Derived.Test.YtlcfdmjkbaegpaaMwTopLeast
import Derived.Test.YtlcfdmjkbaegpaaLyO
import Derived.Test.YtlcfdmjkbaegpaaEv16

namespace Go.Proofs.Ytlcfdmjkbaegpaa
open Go Go.ChangeShapes Go.WideShapes Go.ChangeAt Go.RowKit Go.Joins Ev
set_option maxRecDepth 100000
theorem Try.own : ownKnob Try.prog.godebug = none := by kernel_rfl
theorem Try.laidOut : laidOutB Try.prog = true := by kernel_rfl
theorem topLeast_tds (tds : List TD) (h : TypDs Try.prog [5, 46, 2] tds) : ∃ m n kind, (callers E1 m n).1 9 tds = some (kind, [.one (.v (.bool true))]) := by
  obtain ⟨x0, q0, rfl, g0, h0⟩ := typd_one (d := .int .u8) (by kernel_rfl) rfl h
  obtain ⟨a0, e0, w0⟩ := op5 g0
  obtain rfl := (List.cons.inj e0).1
  obtain ⟨x1, q1, rfl, g1, h1⟩ := typd_agg (d := .array 2 23) (by kernel_rfl) rfl h0
  obtain ⟨a1, rfl, w1⟩ := op46 g1
  obtain ⟨x2, q2, rfl, g2, h2⟩ := typd_one (d := .int .i64) (by kernel_rfl) rfl h1
  obtain ⟨a2, e2, w2⟩ := op2 g2
  obtain rfl := (List.cons.inj e2).1
  obtain rfl := typd_nil h2
  exact law_of (top_TopLeast_r 0 (top_TopLeast_true a0 w0 a1 w1 a2 w2))
theorem topLeast_lifted (os : Os) (started : os.Started) (H : Type) (enc : TypeId × Value → H) :
    ReturnsInHanded {} Try.checked os 9 .any (Rows.topLeastSpec.pre6 enc Try.prog Try.f9 Rows.topLeastRow.domain false) (Rows.topLeastSpec.post enc Try.prog Try.f9 false true false false) := by
  refine returnsInHanded_of_change (C := Try.checked) Try.own started (by kernel_rfl) Try.func9
    (ChangeSpec.witness6 (enc := enc) (C := Try.checked) false ⟨#[], #[.int .u8 0, .agg #[.slice none 0 0, .slice none 0 0], .int .i64 0], []⟩ 8 (by kernel_rfl) (by kernel_rfl) (by kernel_rfl) (by kernel_rfl)) ?_
  intro W0 base args ds gs before hval0 hW _ _
  have hval : ∀ (j : Nat) t v, Try.f9.params[j]? = some t → args[j]? = some v → Value.okWide Try.prog W0 .any base t v := hval0
  have hW' := hW
  obtain ⟨p, q, hA0, hV, rfl, _, _⟩ := hW
  have hA : DataW.TrodAll enc Try.prog W0 0 (fun _ => true) true Try.f9.params.toList args.toList ds p := hA0
  rw [Try.params9] at hA hval
  refine (law_call (E := E1) E1_ok trivial (d := 8) (k := 9) (base := base) (ts := [5, 46, 2]) (vs := args.toList) (fun t ht => ?_) hA (fun j t v h1 h2 => hval j t v (by simpa using h1) (by simpa using h2)) topLeast_tds).mono fun e W1 ⟨he, hb⟩ => ?_
  · simp only [List.mem_cons, List.not_mem_nil, or_false] at ht
    rcases ht with rfl | rfl | rfl <;> kernel_rfl
  subst he
  exact ⟨_, rfl, law_post Try.laidOut (by rw [Try.params9]; intro t ht; simp only [List.mem_cons, List.not_mem_nil, or_false] at ht; rcases ht with rfl | rfl | rfl <;> exact ⟨by kernel_rfl, of_decide_eq_true (by kernel_rfl)⟩) rfl (by kernel_rfl) Try.underlying4
    (fun ds hl => by rw [Try.params9] at hl; match ds, hl with | [_d0, _d1, _d2], _ => rfl) hW' hb⟩
theorem topLeast_holds : Rows.TopLeastSaid :=
  OpenClaim.holds_of_wide 9 Try.f9 rfl rfl rfl rfl rfl rfl rfl ⟨rfl, rfl, rfl, rfl, rfl⟩ rfl rfl rfl rfl rfl (by kernel_rfl) Try.func9 (by kernel_rfl)
    (of_decide_eq_true (by kernel_rfl)) (by unfold Func.isWrapper; first | (rw [if_pos (by decide +kernel)]; kernel_rfl) | (rw [if_neg (by decide +kernel)]; exact ⟨rfl, rfl⟩))
    (fun os started H enc _ => topLeast_lifted os started H enc)
end Go.Proofs.Ytlcfdmjkbaegpaa
