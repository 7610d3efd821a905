/- A law out of the evaluator. -/
import Derived.Test.YtoamaaicfjkmhaaGreatZR16
import Derived.OpenShut
import Derived.WideShapes
import Derived.ChangeShapes
import Derived.Test.YtoamaaicfjkmhaaGreatZR0
import Derived.Test.YtoamaaicfjkmhaaGreatChecked
import Derived.Test.YtoamaaicfjkmhaaGreatRows
import Derived.Test.YtoamaaicfjkmhaaGreatZR15
set_option linter.unusedVariables false
set_option linter.unusedSimpArgs false
section
namespace Go.Proofs.YtoamaaicfjkmhaaGreat
namespace Ev
open Go Sm
set_option linter.unusedVariables false
set_option linter.unusedSimpArgs false
theorem jg (x : Int × Int) (y : Sl E3) (z : Sl Int) (h0 : K.W (.C (.I .i64) (.I .i64)) x) (h1 : K.W (.S (.C (.I .i64) (.C (.I .i64) (.I .i64)))) y) (h2 : K.W (.S (.I .u8)) z) : cO x y z = some true := by
 obtain ⟨hs, hn, hw⟩ := Pc h1
 obtain ⟨g1, g2, g3⟩ := IN h2
 have hL : FL8 = some true := rfl
 rw [kv, hL]
 by_cases c1 : (y.l.length : Int) > 100
 ·rw [if_pos c1]; rfl
 rw [if_neg c1]
 by_cases c2 : (z.l.length : Int) > 3000
 ·rw [if_pos c2]; rfl
 rw [if_neg c2, uI _ _ hs]
 have hz := g3 (by omega)
 obtain ⟨r, hr1, hr2, hr3⟩ := pD x.1 x.2 hs
 rw [hr1, Lm]
 simp only [zbS]
 obtain ⟨a, c, t, g, hd, ht⟩ : ∃ a c t g, be z = some (a, c, t, g) ∧ ∃ l : List E3, l.length ≤ 3000 ∧ (t = Sm.Dc.liS l ∨ (t = ⟨false, 0, []⟩ ∧ l = [])) := by
  cases hd : cn (Sm.Be.gf z) z.l.length with
  | error er => exact ⟨_, _, _, _, Lk hz hd, [], by simp, .inr ⟨rfl, rfl⟩⟩
  | ok d =>
   obtain ⟨r, c, l⟩ := d
   obtain ⟨e1, e2, e3⟩ := zB (Pe g2) hd
   rw [IP] at e1
   have := Bi r c l
   rw [← e1] at this
   exact ⟨_, _, _, _, Pf hz hd, l, by omega, .inl rfl⟩
 obtain ⟨l, hl, ht⟩ := ht
 have ok : okS 3 t ∧ t.l.length ≤ 3000 := by
  rcases ht with rfl | ⟨rfl, rfl⟩
  ·exact ⟨Pg _, hl⟩
  ·exact ⟨.inl rfl, by simp⟩
 rw [hd]
 simp only [zbS]
 rw [wY ok.1 ok.1 (by omega)]
 simp only [zbS, if_true]
 by_cases hw0 : fB x.1 x.2 y.l = 0
 ·rw [if_pos hw0] at hr2 ⊢
  have hlen := Bi x.1 x.2 y.l
  rw [rH (.inr rfl) hr3 (by show (wX x.1 x.2 y.l).length ≤ _; omega), hr2]
  simp [hw0]
 ·rw [if_neg hw0] at hr2 ⊢
  rw [rH (.inl rfl) hr3 (by simp), hr2]
  simp
end Ev
end Go.Proofs.YtoamaaicfjkmhaaGreat
end
namespace Go.Proofs.YtoamaaicfjkmhaaGreat
open Go Go.ChangeShapes Go.WideShapes Go.ChangeAt Go.RowKit Go.Joins Ev
set_option maxRecDepth 100000
theorem Tryz.own : ownKnob Tryz.prog.godebug = none := by kernel_rfl
theorem Tryz.laidOut : laidOutB Tryz.prog = true := by kernel_rfl
namespace Ev
namespace K
theorem op3 : Op Tryz.prog 3 (.I .i64) := Db (by kernel_rfl)
theorem VP : Op Tryz.prog 40 (.C (.I .i64) (.I .i64)) := IF (n := 2) (t' := 3) (by kernel_rfl) (uC op3 (EH op3))
theorem op2 : Op Tryz.prog 2 (.I .i64) := Db (by kernel_rfl)
theorem VQ : Op Tryz.prog 54 (.C (.I .i64) (.C (.I .i64) (.I .i64))) := Gw (fs := cI Tryz.prog 53) (by kernel_rfl) (by kernel_rfl) (uC op3 (uC op3 (EH op2)))
theorem VR : Op Tryz.prog 41 (.S (.C (.I .i64) (.C (.I .i64) (.I .i64)))) := AY (by kernel_rfl) (by kernel_rfl) VQ
theorem op5 : Op Tryz.prog 5 (.I .u8) := Db (by kernel_rfl)
theorem VS : Op Tryz.prog 26 (.S (.I .u8)) := AY (by kernel_rfl) (by kernel_rfl) op5
end K
end Ev
theorem rz (tds : List TD) (h : ia Tryz.prog [40, 41, 26] tds) : ∃ m n kind, (cS K.E1 m n).1 5 tds = some (kind, [.one (.v (.bool true))]) := by
 obtain ⟨x0, q0, rfl, w0, h0⟩ := K.IG (d := .array 2 3) (by kernel_rfl) rfl K.VP h
 obtain ⟨x1, q1, rfl, w1, h1⟩ := K.AZ (d := .slice 54) (by kernel_rfl) rfl K.VR h0
 obtain ⟨x2, q2, rfl, w2, h2⟩ := K.AZ (d := .slice 5) (by kernel_rfl) rfl K.VS h1
 obtain rfl := JK h2
 exact K.Lf (en := K.go) K.kt (a := (x0, x1, x2)) rfl rfl (jg x0 x1 x2 w0 w1 w2)
theorem mP (os : Os) (started : os.Started) (H : Type) (enc : TypeId × Value → H) :
  ReturnsInHanded {} Tryz.checked os 5 .any (Rows.loaderMatrixSpec.pre6 enc Tryz.prog Tryz.f5 Rows.loaderMatrixRow.domain false) (Rows.loaderMatrixSpec.post enc Tryz.prog Tryz.f5 false true false false) := by
 refine returnsInHanded_of_change (C := Tryz.checked) Tryz.own started (by kernel_rfl) Tryz.func5
  (ChangeSpec.witness6 (enc := enc) (C := Tryz.checked) false ⟨#[], #[.agg #[.int .i64 0, .int .i64 0], .slice none 0 0, .slice none 0 0], []⟩ 8 (by kernel_rfl) (by kernel_rfl) (by kernel_rfl) (by kernel_rfl)) ?_
 intro W0 base args ds gs before hval0 hW _ _
 have hval : ∀ (j : Nat) t v, Tryz.f5.params[j]? = some t → args[j]? = some v → Value.okWide Tryz.prog W0 .any base t v := hval0
 have hW' := hW
 obtain ⟨p, q, hA0, hV, rfl, _, _⟩ := hW
 have hA : DataW.TrodAll enc Tryz.prog W0 0 (fun _ => true) true Tryz.f5.params.toList args.toList ds p := hA0
 rw [Tryz.params5] at hA hval
 refine (Ja (E := K.E1) K.gh trivial (d := 8) (k := 5) (base := base) (ts := [40, 41, 26]) (vs := args.toList) (fun t ht => ?_) hA (fun j t v h1 h2 => hval j t v (by simpa using h1) (by simpa using h2)) rz).mono fun e W1 ⟨he, hb⟩ => ?_
 ·simp only [List.mem_cons, List.not_mem_nil, or_false] at ht
  rcases ht with rfl | rfl | rfl <;> kernel_rfl
 subst he
 exact ⟨_, rfl, Hq Tryz.laidOut (by rw [Tryz.params5]; intro t ht; simp only [List.mem_cons, List.not_mem_nil, or_false] at ht; rcases ht with rfl | rfl | rfl <;> exact ⟨by kernel_rfl, of_decide_eq_true (by kernel_rfl)⟩) rfl (by kernel_rfl) Tryz.underlying4
  (fun ds hl => by rw [Tryz.params5] at hl; match ds, hl with | [_d0, _d1, _d2], _ => rfl) hW' hb⟩
theorem loaderMatrix_holds : Rows.LoaderMatrixSaid :=
 OpenClaim.holds_of_wide 5 Tryz.f5 rfl rfl rfl rfl rfl rfl rfl ⟨rfl, rfl, rfl, rfl, rfl⟩ rfl rfl rfl rfl rfl (by kernel_rfl) Tryz.func5 (by kernel_rfl)
  (of_decide_eq_true (by kernel_rfl)) (by unfold Func.isWrapper; first | (rw [if_pos (by decide +kernel)]; kernel_rfl) | (rw [if_neg (by decide +kernel)]; exact ⟨rfl, rfl⟩))
  (fun os started H enc _ => mP os started H enc)
end Go.Proofs.YtoamaaicfjkmhaaGreat
