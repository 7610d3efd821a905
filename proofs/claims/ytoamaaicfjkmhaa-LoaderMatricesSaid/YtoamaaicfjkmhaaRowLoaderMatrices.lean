/- A law out of the evaluator. -/
import Derived.Test.YtoamaaicfjkmhaaZT14
import Derived.OpenShut
import Derived.WideShapes
import Derived.ChangeShapes
import Derived.Test.YtoamaaicfjkmhaaZT0
import Derived.Test.YtoamaaicfjkmhaaChecked
import Derived.Test.YtoamaaicfjkmhaaRows
import Derived.Test.YtoamaaicfjkmhaaZT13
set_option linter.unusedVariables false
set_option linter.unusedSimpArgs false
section
namespace Go.Proofs.Ytoamaaicfjkmhaa
namespace Ev
open Go Sm
set_option linter.unusedVariables false
set_option linter.unusedSimpArgs false
theorem Aa {x y : Sl Int} (hx : okS 1 x) (hy : okS 1 y) (hl : x.l.length ≤ 9223372036854775806) : bU x y = some (decide (x.l = y.l)) := by
 rw [mB]
 exact vi hl hx hy (P := fun u v => u = v) (fun u v => Iff.rfl) fun a => by unfold gy; rfl
theorem gK (x : Int × Int) (y : Sl E3) (z : Sl Int) (h0 : K.W (.C (.I .i64) (.I .i64)) x) (h1 : K.W (.S (.C (.I .i64) (.C (.I .i64) (.I .i64)))) y) (h2 : K.W (.S (.I .u8)) z) : bL x y z = some true := by
 obtain ⟨hs, hn, hw⟩ := FY h1
 obtain ⟨g1, g2, g3⟩ := Gm h2
 have hL : FL6 = some true := rfl
 rw [iy, hL]
 by_cases c1 : (y.l.length : Int) > 100
 ·rw [if_pos c1]; rfl
 rw [if_neg c1]
 by_cases c2 : (z.l.length : Int) > 3000
 ·rw [if_pos c2]; rfl
 rw [if_neg c2, gA _ _ hs]
 simp only [zbS]
 have hz := g3 (by omega)
 have P2 : ((aJ z).bind fun (out : Int × Int × Sl (Int × Int × Int) × Int × Int) =>
         if out.snd.snd.snd.fst ≠ 0 then
           if true = true then
            if out.snd.snd.snd.snd ≥ 0 then
             if out.snd.snd.snd.snd ≤ (↑z.l.length : Int) then
              some (decide ((↑out.snd.snd.fst.l.length : Int) = 0))
             else some false
            else some false
           else some false
         else
          (aO out.fst out.snd.fst out.snd.snd.fst).bind fun (out : Sl Int × Int) =>
            if true = true then
             if out.snd = 0 then
              (bU out.fst z).bind fun (out : Bool) => some (decide (out = true))
             else some false
            else some false) = some true := by
  cases hd : bK (Sm.Be.gf z) z.l.length with
  | error er =>
   obtain ⟨e1, e2, e3⟩ := xd (Gn g2) hd
   rw [IT hz hd]
   simp only [zbS]
   rw [if_pos e1, if_pos trivial, if_pos e2, if_pos e3]
   rfl
  | ok d =>
   obtain ⟨r, c, l⟩ := d
   obtain ⟨e1, e2, e3⟩ := xe (Gn g2) hd
   rw [Gp] at e1
   rw [Gu hz hd]
   simp only [zbS]
   rw [if_neg (by simp), gA _ _ (AI l), if_pos (show wrongM r c (Sm.Dc.liS l).l = 0 from e2)]
   simp only [zbS]
   rw [if_pos trivial, if_pos trivial, Aa (.inr rfl) g1 (by show (gJ r c l).length ≤ _; rw [← e1]; omega)]
   show some (decide (decide (gJ r c l = z.l) = true)) = some true
   rw [decide_eq_true e1.symm]
   rfl
 simp only [if_true] at P2 ⊢
 by_cases hw0 : wrongM x.1 x.2 y.l = 0
 ·rw [if_pos hw0]
  simp only [if_true]
  rw [Co hw0 (fun t ht => (hw t ht).2.2) (by omega)]
  simp only [zbS]
  rw [if_neg (by simp), if_neg (by simp), if_neg (by simp), lI (AI _) hs (by show y.l.length ≤ _; omega)]
  simp only [zbS]
  rw [show decide ((Sm.Dc.liS y.l).l = y.l) = true from decide_eq_true rfl, if_neg (by simp)]
  simp only [zbS, Sum.elim_inl, Sum.elim_inr]
  exact P2
 ·rw [if_neg hw0]
  simp only
  rw [if_neg hw0]
  simp only [zbS, Sum.elim_inl, Sum.elim_inr]
  exact P2
end Ev
end Go.Proofs.Ytoamaaicfjkmhaa
end
namespace Go.Proofs.Ytoamaaicfjkmhaa
open Go Go.ChangeShapes Go.WideShapes Go.ChangeAt Go.RowKit Go.Joins Ev
set_option maxRecDepth 100000
theorem Try.own : ownKnob Try.prog.godebug = none := by kernel_rfl
theorem Try.laidOut : laidOutB Try.prog = true := by kernel_rfl
namespace Ev
namespace K
theorem op3 : Op Try.prog 3 (.I .i64) := se (by kernel_rfl)
theorem Sp : Op Try.prog 22 (.C (.I .i64) (.I .i64)) := FS (n := 2) (t' := 3) (by kernel_rfl) (iw op3 (qT op3))
theorem op2 : Op Try.prog 2 (.I .i64) := se (by kernel_rfl)
theorem Sq : Op Try.prog 50 (.C (.I .i64) (.C (.I .i64) (.I .i64))) := pk (fs := bZ Try.prog 49) (by kernel_rfl) (by kernel_rfl) (iw op3 (iw op3 (qT op2)))
theorem Sr : Op Try.prog 23 (.S (.C (.I .i64) (.C (.I .i64) (.I .i64)))) := sf (by kernel_rfl) (by kernel_rfl) Sq
theorem op5 : Op Try.prog 5 (.I .u8) := se (by kernel_rfl)
theorem Ss : Op Try.prog 24 (.S (.I .u8)) := sf (by kernel_rfl) (by kernel_rfl) op5
end K
end Ev
theorem nd (tds : List TD) (h : ga Try.prog [22, 23, 24] tds) : ∃ m n kind, (bX K.E1 m n).1 3 tds = some (kind, [.one (.v (.bool true))]) := by
 obtain ⟨x0, q0, rfl, w0, h0⟩ := K.yK (d := .array 2 3) (by kernel_rfl) rfl K.Sp h
 obtain ⟨x1, q1, rfl, w1, h1⟩ := K.yJ (d := .slice 50) (by kernel_rfl) rfl K.Sr h0
 obtain ⟨x2, q2, rfl, w2, h2⟩ := K.yJ (d := .slice 5) (by kernel_rfl) rfl K.Ss h1
 obtain rfl := zx h2
 exact K.Cl (en := K.eZ) K.iv (a := (x0, x1, x2)) rfl rfl (gK x0 x1 x2 w0 w1 w2)
theorem js (os : Os) (started : os.Started) (H : Type) (enc : TypeId × Value → H) :
  ReturnsInHanded {} Try.checked os 3 .any (Rows.loaderMatricesSpec.pre6 enc Try.prog Try.f3 Rows.loaderMatricesRow.domain false) (Rows.loaderMatricesSpec.post enc Try.prog Try.f3 false true false false) := by
 refine returnsInHanded_of_change (C := Try.checked) Try.own started (by kernel_rfl) Try.func3
  (ChangeSpec.witness6 (enc := enc) (C := Try.checked) false ⟨#[], #[.agg #[.int .i64 0, .int .i64 0], .slice none 0 0, .slice none 0 0], []⟩ 8 (by kernel_rfl) (by kernel_rfl) (by kernel_rfl) (by kernel_rfl)) ?_
 intro W0 base args ds gs before hval0 hW _ _
 have hval : ∀ (j : Nat) t v, Try.f3.params[j]? = some t → args[j]? = some v → Value.okWide Try.prog W0 .any base t v := hval0
 have hW' := hW
 obtain ⟨p, q, hA0, hV, rfl, _, _⟩ := hW
 have hA : DataW.TrodAll enc Try.prog W0 0 (fun _ => true) true Try.f3.params.toList args.toList ds p := hA0
 rw [Try.params3] at hA hval
 refine (zj (E := K.E1) K.fM trivial (d := 8) (k := 3) (base := base) (ts := [22, 23, 24]) (vs := args.toList) (fun t ht => ?_) hA (fun j t v h1 h2 => hval j t v (by simpa using h1) (by simpa using h2)) nd).mono fun e W1 ⟨he, hb⟩ => ?_
 ·simp only [List.mem_cons, List.not_mem_nil, or_false] at ht
  rcases ht with rfl | rfl | rfl <;> kernel_rfl
 subst he
 exact ⟨_, rfl, xP Try.laidOut (by rw [Try.params3]; intro t ht; simp only [List.mem_cons, List.not_mem_nil, or_false] at ht; rcases ht with rfl | rfl | rfl <;> exact ⟨by kernel_rfl, of_decide_eq_true (by kernel_rfl)⟩) rfl (by kernel_rfl) Try.underlying4
  (fun ds hl => by rw [Try.params3] at hl; match ds, hl with | [_d0, _d1, _d2], _ => rfl) hW' hb⟩
theorem loaderMatrices_holds : Rows.LoaderMatricesSaid :=
 OpenClaim.holds_of_wide 3 Try.f3 rfl rfl rfl rfl rfl rfl rfl ⟨rfl, rfl, rfl, rfl, rfl⟩ rfl rfl rfl rfl rfl (by kernel_rfl) Try.func3 (by kernel_rfl)
  (of_decide_eq_true (by kernel_rfl)) (by unfold Func.isWrapper; first | (rw [if_pos (by decide +kernel)]; kernel_rfl) | (rw [if_neg (by decide +kernel)]; exact ⟨rfl, rfl⟩))
  (fun os started H enc _ => js os started H enc)
end Go.Proofs.Ytoamaaicfjkmhaa
