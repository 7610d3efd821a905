/- A law out of the evaluator. -/
import Derived.Test.YtoamaaicfjkmhaaGreatZT15
import Derived.OpenShut
import Derived.WideShapes
import Derived.ChangeShapes
import Derived.Test.YtoamaaicfjkmhaaGreatZT0
import Derived.Test.YtoamaaicfjkmhaaGreatChecked
import Derived.Test.YtoamaaicfjkmhaaGreatRows
import Derived.Test.YtoamaaicfjkmhaaGreatZT14
set_option linter.unusedVariables false
set_option linter.unusedSimpArgs false
section
namespace Go.Proofs.YtoamaaicfjkmhaaGreat
namespace Ev
open Go Sm
set_option linter.unusedVariables false
set_option linter.unusedSimpArgs false
theorem ju (x : Gr) (h0 : K.W (.C (.I .i64) (.S (.C (.I .i64) (.C (.I .i64) (.I .i64))))) x) : cq x = some true := by
 obtain ⟨hs, hn, hw⟩ := Jm h0.2
 have hL : FL8 = some true := rfl
 rw [ko, hL]
 by_cases c1 : (x.2.l.length : Int) > 200
 ·rw [if_pos c1]; rfl
 rw [if_neg c1, pu hs, BY hs]
 simp only [zbS]
 have hlen : (nX x).1.l.length ≤ 9223372036854775806 := by
  unfold nX
  split
  ·split
   ·have h1 := jm x.1 x.2.l
    have hsz := lr (wtO x.2.l)
    have hle : szE (wtO x.2.l) * x.2.l.length ≤ 12 * x.2.l.length := Nat.mul_le_mul_right _ hsz.2
    show (gv x.1 x.2.l).length ≤ _
    omega
   ·simp
  ·simp
 rw [if_pos trivial, rE (Fw x) (Fw x) hlen]
 simp
end Ev
end Go.Proofs.YtoamaaicfjkmhaaGreat
end
namespace Go.Proofs.YtoamaaicfjkmhaaGreat
open Go Go.ChangeShapes Go.WideShapes Go.ChangeAt Go.RowKit Go.Joins Ev
set_option maxRecDepth 100000
theorem Tryz.own : ownKnob Tryz.prog.godebug = none := by kernel_rfl
theorem Tryz.laidOut : laidOutB Tryz.prog = true := by kernel_rfl
namespace Ev
namespace K
theorem op3 : Op Tryz.prog 3 (.I .i64) := uG (by kernel_rfl)
theorem op2 : Op Tryz.prog 2 (.I .i64) := uG (by kernel_rfl)
theorem QM : Op Tryz.prog 52 (.C (.I .i64) (.C (.I .i64) (.I .i64))) := lT (fs := bS Tryz.prog 51) (by kernel_rfl) (by kernel_rfl) (ji op3 (ji op3 (sV op2)))
theorem QN : Op Tryz.prog 22 (.S (.C (.I .i64) (.C (.I .i64) (.I .i64)))) := uH (by kernel_rfl) (by kernel_rfl) QM
theorem QO : Op Tryz.prog 24 (.C (.I .i64) (.S (.C (.I .i64) (.C (.I .i64) (.I .i64))))) := lT (fs := bS Tryz.prog 23) (by kernel_rfl) (by kernel_rfl) (ji op3 (sV QN))
end K
end Ev
theorem rl (tds : List TD) (h : gK Tryz.prog [24] tds) : ∃ m n kind, (cg K.E1 m n).1 3 tds = some (kind, [.one (.v (.bool true))]) := by
 obtain ⟨x0, q0, rfl, w0, h0⟩ := K.BF (d := .struct (bS Tryz.prog 23)) (by kernel_rfl) rfl K.QO h
 obtain rfl := Cz h0
 exact K.Fr (en := K.gu) K.kn (a := (x0)) rfl rfl (ju x0 w0)
theorem mG (os : Os) (started : os.Started) (H : Type) (enc : TypeId × Value → H) :
  ReturnsInHanded {} Tryz.checked os 3 .any (Rows.loaderWritesSpec.pre6 enc Tryz.prog Tryz.f3 Rows.loaderWritesRow.domain false) (Rows.loaderWritesSpec.post enc Tryz.prog Tryz.f3 false true false false) := by
 refine returnsInHanded_of_change (C := Tryz.checked) Tryz.own started (by kernel_rfl) Tryz.func3
  (ChangeSpec.witness6 (enc := enc) (C := Tryz.checked) false ⟨#[], #[.agg #[.int .i64 0, .slice none 0 0]], []⟩ 8 (by kernel_rfl) (by kernel_rfl) (by kernel_rfl) (by kernel_rfl)) ?_
 intro W0 base args ds gs before hval0 hW _ _
 have hval : ∀ (j : Nat) t v, Tryz.f3.params[j]? = some t → args[j]? = some v → Value.okWide Tryz.prog W0 .any base t v := hval0
 have hW' := hW
 obtain ⟨p, q, hA0, hV, rfl, _, _⟩ := hW
 have hA : DataW.TrodAll enc Tryz.prog W0 0 (fun _ => true) true Tryz.f3.params.toList args.toList ds p := hA0
 rw [Tryz.params3] at hA hval
 refine (Cl (E := K.E1) K.bJ trivial (d := 8) (k := 3) (base := base) (ts := [24]) (vs := args.toList) (fun t ht => ?_) hA (fun j t v h1 h2 => hval j t v (by simpa using h1) (by simpa using h2)) rl).mono fun e W1 ⟨he, hb⟩ => ?_
 ·simp only [List.mem_cons, List.not_mem_nil, or_false] at ht
  rcases ht with rfl <;> kernel_rfl
 subst he
 exact ⟨_, rfl, AE Tryz.laidOut (by rw [Tryz.params3]; intro t ht; simp only [List.mem_cons, List.not_mem_nil, or_false] at ht; rcases ht with rfl <;> exact ⟨by kernel_rfl, of_decide_eq_true (by kernel_rfl)⟩) rfl (by kernel_rfl) Tryz.underlying4
  (fun ds hl => by rw [Tryz.params3] at hl; match ds, hl with | [_d0], _ => rfl) hW' hb⟩
theorem loaderWrites_holds : Rows.LoaderWritesSaid :=
 OpenClaim.holds_of_wide 3 Tryz.f3 rfl rfl rfl rfl rfl rfl rfl ⟨rfl, rfl, rfl, rfl, rfl⟩ rfl rfl rfl rfl rfl (by kernel_rfl) Tryz.func3 (by kernel_rfl)
  (of_decide_eq_true (by kernel_rfl)) (by unfold Func.isWrapper; first | (rw [if_pos (by decide +kernel)]; kernel_rfl) | (rw [if_neg (by decide +kernel)]; exact ⟨rfl, rfl⟩))
  (fun os started H enc _ => mG os started H enc)
end Go.Proofs.YtoamaaicfjkmhaaGreat
