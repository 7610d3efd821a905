/- A law out of the evaluator. -/
import Derived.Test.YtkmbihigeeclbaaZFW14
import Derived.OpenShut
import Derived.WideShapes
import Derived.ChangeShapes
import Derived.Test.YtkmbihigeeclbaaZFW0
import Derived.Test.YtkmbihigeeclbaaChecked
import Derived.Test.YtkmbihigeeclbaaRows
import Derived.Test.YtkmbihigeeclbaaZFW13
set_option linter.unusedVariables false
set_option linter.unusedSimpArgs false
section
namespace Go.Proofs.Ytkmbihigeeclbaa
namespace Ev
open Go Sm
set_option linter.unusedVariables false
set_option linter.unusedSimpArgs false
theorem jp (x : FrX) (h0 : K.W Sm.Fd.Ft x) : cJ x = some true := by
 obtain ⟨y, e, hy⟩ := JS h0
 have hE := hy.t
 rw [jN, e]
 simp only [zbS]
 rw [jO hE, rI hE, Iz, fH hE.o, lv hE.o, nA hE.o hE.o (EqX.refl y), lu]
 simp only [zbS]
 have hb : ci (rH y).1 (rH y).1 = some true := by
  have ho : okS 1 (rH y).1 := by unfold rH; split <;> first | exact .inr rfl | exact .inl rfl
  have hl : (rH y).1.l.length ≤ 9223372036854775806 := by
   unfold rH
   split
   ·have := Dz hE
    show (Sm.Fe.encF y).length ≤ _
    omega
   ·exact Nat.zero_le _
  rw [xG ho ho hl, decide_eq_true rfl]
 rw [hb]
 simp
end Ev
end Go.Proofs.Ytkmbihigeeclbaa
end
namespace Go.Proofs.Ytkmbihigeeclbaa
open Go Go.ChangeShapes Go.WideShapes Go.ChangeAt Go.RowKit Go.Joins Ev
set_option maxRecDepth 100000
theorem Try.own : ownKnob Try.prog.godebug = none := by kernel_rfl
theorem Try.laidOut : laidOutB Try.prog = true := by kernel_rfl
namespace Ev
namespace K
theorem OE : Op Try.prog 22 (.I .i64) := wg (by kernel_rfl)
theorem op3 : Op Try.prog 3 (.I .i64) := wg (by kernel_rfl)
theorem op2 : Op Try.prog 2 (.I .i64) := wg (by kernel_rfl)
theorem OF : Op Try.prog 56 (.C (.I .i64) (.I .i64)) := go (fs := bB Try.prog 55) (by kernel_rfl) (by kernel_rfl) (cv op3 (kv op2))
theorem OG : Op Try.prog 23 (.S (.C (.I .i64) (.I .i64))) := rx (by kernel_rfl) (by kernel_rfl) OF
theorem OH : Op Try.prog 25 (.C (.I .i64) (.S (.C (.I .i64) (.I .i64)))) := go (fs := bB Try.prog 24) (by kernel_rfl) (by kernel_rfl) (cv op3 (kv OG))
theorem OI : Op Try.prog 57 (.I .u64) := wg (by kernel_rfl)
theorem OJ : Op Try.prog 59 (.C (.I .i64) (.I .u64)) := go (fs := bB Try.prog 58) (by kernel_rfl) (by kernel_rfl) (cv op2 (kv OI))
theorem OK : Op Try.prog 61 (.C (.I .i64) (.C (.I .i64) (.I .u64))) := go (fs := bB Try.prog 60) (by kernel_rfl) (by kernel_rfl) (cv op3 (kv OJ))
theorem OL : Op Try.prog 26 (.S (.C (.I .i64) (.C (.I .i64) (.I .u64)))) := rx (by kernel_rfl) (by kernel_rfl) OK
theorem OM : Op Try.prog 63 (.C (.I .i64) (.C (.I .i64) (.I .i64))) := go (fs := bB Try.prog 62) (by kernel_rfl) (by kernel_rfl) (cv op3 (cv op3 (kv op2)))
theorem ON : Op Try.prog 27 (.S (.C (.I .i64) (.C (.I .i64) (.I .i64)))) := rx (by kernel_rfl) (by kernel_rfl) OM
theorem op4 : Op Try.prog 4 .B := FQ (by kernel_rfl)
theorem OO : Op Try.prog 29 (.C (.I .i64) (.C (.I .i64) (.C (.I .i64) (.C (.I .i64) (.C (.I .i64) (.C (.C (.I .i64) (.S (.C (.I .i64) (.I .i64)))) (.C (.S (.C (.I .i64) (.C (.I .i64) (.I .u64)))) (.C (.S (.C (.I .i64) (.C (.I .i64) (.I .i64)))) (.C (.I .i64) .B))))))))) := go (fs := bB Try.prog 28) (by kernel_rfl) (by kernel_rfl) (cv OE (cv op3 (cv op3 (cv op3 (cv op3 (cv OH (cv OL (cv ON (cv op2 (kv op4))))))))))
end K
end Ev
theorem qp (tds : List TD) (h : jR Try.prog [29] tds) : ∃ m n kind, (cP K.E1 m n).1 3 tds = some (kind, [.one (.v (.bool true))]) := by
 obtain ⟨x0, q0, rfl, w0, h0⟩ := K.Dq (d := .struct (bB Try.prog 28)) (by kernel_rfl) rfl K.OO h
 obtain rfl := EC h0
 exact K.FS (en := K.gb) K.jL (a := (x0)) rfl rfl (jp x0 w0)
theorem mO (os : Os) (started : os.Started) (H : Type) (enc : TypeId × Value → H) :
  ReturnsInHanded {} Try.checked os 3 .any (Rows.frameWritesSpec.pre6 enc Try.prog Try.f3 Rows.frameWritesRow.domain false) (Rows.frameWritesSpec.post enc Try.prog Try.f3 false true false false) := by
 refine returnsInHanded_of_change (C := Try.checked) Try.own started (by kernel_rfl) Try.func3
  (ChangeSpec.witness6 (enc := enc) (C := Try.checked) false ⟨#[], #[.agg #[.int .i64 0, .int .i64 0, .int .i64 0, .int .i64 0, .int .i64 0, .int .i64 0, .slice none 0 0, .slice none 0 0, .slice none 0 0, .int .i64 0, .bool false]], []⟩ 8 (by kernel_rfl) (by kernel_rfl) (by kernel_rfl) (by kernel_rfl)) ?_
 intro W0 base args ds gs before hval0 hW _ _
 have hval : ∀ (j : Nat) t v, Try.f3.params[j]? = some t → args[j]? = some v → Value.okWide Try.prog W0 .any base t v := hval0
 have hW' := hW
 obtain ⟨p, q, hA0, hV, rfl, _, _⟩ := hW
 have hA : DataW.TrodAll enc Try.prog W0 0 (fun _ => true) true Try.f3.params.toList args.toList ds p := hA0
 rw [Try.params3] at hA hval
 refine (DL (E := K.E1) K.cF trivial (d := 8) (k := 3) (base := base) (ts := [29]) (vs := args.toList) (fun t ht => ?_) hA (fun j t v h1 h2 => hval j t v (by simpa using h1) (by simpa using h2)) qp).mono fun e W1 ⟨he, hb⟩ => ?_
 ·simp only [List.mem_cons, List.not_mem_nil, or_false] at ht
  rcases ht with rfl <;> kernel_rfl
 subst he
 exact ⟨_, rfl, CK Try.laidOut (by rw [Try.params3]; intro t ht; simp only [List.mem_cons, List.not_mem_nil, or_false] at ht; rcases ht with rfl <;> exact ⟨by kernel_rfl, of_decide_eq_true (by kernel_rfl)⟩) rfl (by kernel_rfl) Try.underlying4
  (fun ds hl => by rw [Try.params3] at hl; match ds, hl with | [_d0], _ => rfl) hW' hb⟩
theorem frameWrites_holds : Rows.FrameWritesSaid :=
 OpenClaim.holds_of_wide 3 Try.f3 rfl rfl rfl rfl rfl rfl rfl ⟨rfl, rfl, rfl, rfl, rfl⟩ rfl rfl rfl rfl rfl (by kernel_rfl) Try.func3 (by kernel_rfl)
  (of_decide_eq_true (by kernel_rfl)) (by unfold Func.isWrapper; first | (rw [if_pos (by decide +kernel)]; kernel_rfl) | (rw [if_neg (by decide +kernel)]; exact ⟨rfl, rfl⟩))
  (fun os started H enc _ => mO os started H enc)
end Go.Proofs.Ytkmbihigeeclbaa
