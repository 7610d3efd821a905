/- A law out of the evaluator. -/
import Derived.Test.YthkgcllekhnecaaZS14
import Derived.OpenShut
import Derived.WideShapes
import Derived.ChangeShapes
import Derived.Test.YthkgcllekhnecaaZS0
import Derived.Test.YthkgcllekhnecaaChecked
import Derived.Test.YthkgcllekhnecaaRows
import Derived.Test.YthkgcllekhnecaaZS12
import Derived.Test.YthkgcllekhnecaaZS13
set_option linter.unusedVariables false
set_option linter.unusedSimpArgs false
section
namespace Go.Proofs.Ythkgcllekhnecaa
namespace Ev
open Go
set_option linter.unusedVariables false
set_option linter.unusedSimpArgs false
theorem pd (r n : Int) (l : Sl P2) (h0 : K.W (.I .i64) r) (h1 : K.W (.I .i64) n) (h2 : K.W (.S (.C (.I .i64) (.I .i64))) l) : eZ r n l = some true := by
 have hl0 : okS 2 l ∧ (l.nn = true ∨ l.l = []) ∧ ∀ y ∈ l.l, eX y.1 ∧ eX y.2 := ⟨.inr h2.1, by
  cases h : l.nn with
  | true => exact .inl rfl
  | false => exact .inr (h2.2.1 h), fun y hy => ⟨js (h2.2.2.2 y hy).1, js (h2.2.2.2 y hy).2⟩⟩
 have hcut : ∃ s : Sl P2, (if (l.l.length : Int) > 60 then (uh 2 l 0 60).bind fun (s' : Sl (Int × Int)) => some (Sum.inl s') else some (Sum.inl l)) = some (Sum.inl s : Sl P2 ⊕ Empty) ∧ s.l.length ≤ 60 ∧ okS 2 s ∧ (s.nn = true ∨ s.l = []) ∧ ∀ y ∈ s.l, eX y.1 ∧ eX y.2 := by
  obtain ⟨a, b, c⟩ := hl0
  by_cases h : l.l.length > 60
  ·refine ⟨⟨l.nn, l.sz, l.l.take 60⟩, ?_, by show (l.l.take 60).length ≤ 60; rw [List.length_take]; omega, .inr h2.1, ?_, fun y hy => c y (List.mem_of_mem_take hy)⟩
   ·rw [if_pos (by omega)]
    unfold uh
    rw [if_pos ⟨by omega, by omega, by omega, .inl h2.1⟩]
    simp
   ·rcases b with h' | h'
    ·exact .inl h'
    ·rw [h'] at h; simp at h
  ·rw [if_neg (by omega)]
   exact ⟨l, rfl, by omega, a, b, c⟩
 obtain ⟨s, e1, e2, e3, e4, e5⟩ := hcut
 obtain ⟨t, p1, p2, p3, p4⟩ := wl (r := r) (n := n) e3 e4 (by omega) e5
 have hr := (zA r n s.l true 2).1
 have hlen : t.l.length ≤ 9223372036854775806 := by
  have := gp hr
  rw [p2]
  have h : (ofL r n s.l).1.2.length ≤ 4096 := this
  omega
 have hsm : aZ ((ofL r n s.l).1.1, t) ((ofL r n s.l).1.1, mo 2 (ofL r n s.l).1.2) = some true := gx hlen p3 (jt _) rfl (by show t.l = (mo 2 _).l; rw [ld]; exact p2)
 have hval : ∃ x : Int, (if (s.l.length : Int) > 0 then (atS 2 s 0).bind fun (y : Int × Int) => some (Sum.inl y.snd) else some (Sum.inl 0)) = some (Sum.inl x : Int ⊕ Empty) := by
  by_cases h : 0 < s.l.length
  ·rw [if_pos (by omega), show (0 : Int) = ((0 : Nat) : Int) from rfl, bS e3 h]
   exact ⟨_, rfl⟩
  ·rw [if_neg (by omega)]; exact ⟨0, rfl⟩
 obtain ⟨x, hx⟩ := hval
 obtain ⟨v, w, f1, f2, f3⟩ := IS n x
 rw [rG, e1, zbS, Sum.elim_inl, p1, zbS, wo e3 (by omega), zbS, hx, zbS, Sum.elim_inl, show FL10 = some true from rfl, zbS, if_pos rfl, hsm, zbS, if_pos rfl, if_pos rfl, f1, zbS, f2, zbS, f3]
 rfl
end Ev
end Go.Proofs.Ythkgcllekhnecaa
end
namespace Go.Proofs.Ythkgcllekhnecaa
open Go Go.ChangeShapes Go.WideShapes Go.ChangeAt Go.RowKit Go.Joins Ev
set_option maxRecDepth 100000
theorem Try.own : ownKnob Try.prog.godebug = none := by kernel_rfl
theorem Try.laidOut : laidOutB Try.prog = true := by kernel_rfl
namespace Ev
namespace K
theorem Wz : Op Try.prog 22 (.I .i64) := iV (by kernel_rfl)
theorem op3 : Op Try.prog 3 (.I .i64) := iV (by kernel_rfl)
theorem op2 : Op Try.prog 2 (.I .i64) := iV (by kernel_rfl)
theorem EY : Op Try.prog 30 (.C (.I .i64) (.I .i64)) := kn (fs := eS Try.prog 29) (by kernel_rfl) (by kernel_rfl) (iW op3 (kT op2))
theorem GM : Op Try.prog 23 (.S (.C (.I .i64) (.I .i64))) := pV (by kernel_rfl) (by kernel_rfl) EY
end K
end Ev
theorem EZ (tds : List TD) (h : gm Try.prog [22, 3, 23] tds) : ∃ m n kind, (bY K.E1 m n).1 3 tds = some (kind, [.one (.v (.bool true))]) := by
 obtain ⟨x0, q0, rfl, w0, h0⟩ := K.gU (d := .int .i64) (by kernel_rfl) rfl K.Wz h
 obtain ⟨x1, q1, rfl, w1, h1⟩ := K.gU (d := .int .i64) (by kernel_rfl) rfl K.op3 h0
 obtain ⟨x2, q2, rfl, w2, h2⟩ := K.gU (d := .slice 30) (by kernel_rfl) rfl K.GM h1
 obtain rfl := qw h2
 exact K.uq (en := K.lD) K.rA (a := (x0, x1, x2)) rfl rfl (pd x0 x1 x2 w0 w1 w2)
theorem xS (os : Os) (started : os.Started) (H : Type) (enc : TypeId × Value → H) :
  ReturnsInHanded {} Try.checked os 3 .any (Rows.spvecOfSpec.pre6 enc Try.prog Try.f3 Rows.spvecOfRow.domain false) (Rows.spvecOfSpec.post enc Try.prog Try.f3 false true false false) := by
 refine returnsInHanded_of_change (C := Try.checked) Try.own started (by kernel_rfl) Try.func3
  (ChangeSpec.witness6 (enc := enc) (C := Try.checked) false ⟨#[], #[.int .i64 0, .int .i64 0, .slice none 0 0], []⟩ 8 (by kernel_rfl) (by kernel_rfl) (by kernel_rfl) (by kernel_rfl)) ?_
 intro W0 base args ds gs before hval0 hW _ _
 have hval : ∀ (j : Nat) t v, Try.f3.params[j]? = some t → args[j]? = some v → Value.okWide Try.prog W0 .any base t v := hval0
 have hW' := hW
 obtain ⟨p, q, hA0, hV, rfl, _, _⟩ := hW
 have hA : DataW.TrodAll enc Try.prog W0 0 (fun _ => true) true Try.f3.params.toList args.toList ds p := hA0
 rw [Try.params3] at hA hval
 refine (qj (E := K.E1) K.aO trivial (d := 8) (k := 3) (base := base) (ts := [22, 3, 23]) (vs := args.toList) (fun t ht => ?_) hA (fun j t v h1 h2 => hval j t v (by simpa using h1) (by simpa using h2)) EZ).mono fun e W1 ⟨he, hb⟩ => ?_
 ·simp only [List.mem_cons, List.not_mem_nil, or_false] at ht
  rcases ht with rfl | rfl | rfl <;> kernel_rfl
 subst he
 exact ⟨_, rfl, pf Try.laidOut (by rw [Try.params3]; intro t ht; simp only [List.mem_cons, List.not_mem_nil, or_false] at ht; rcases ht with rfl | rfl | rfl <;> exact ⟨by kernel_rfl, of_decide_eq_true (by kernel_rfl)⟩) rfl (by kernel_rfl) Try.underlying4
  (fun ds hl => by rw [Try.params3] at hl; match ds, hl with | [_d0, _d1, _d2], _ => rfl) hW' hb⟩
theorem spvecOf_holds : Rows.SpvecOfSaid :=
 OpenClaim.holds_of_wide 3 Try.f3 rfl rfl rfl rfl rfl rfl rfl ⟨rfl, rfl, rfl, rfl, rfl⟩ rfl rfl rfl rfl rfl (by kernel_rfl) Try.func3 (by kernel_rfl)
  (of_decide_eq_true (by kernel_rfl)) (by unfold Func.isWrapper; first | (rw [if_pos (by decide +kernel)]; kernel_rfl) | (rw [if_neg (by decide +kernel)]; exact ⟨rfl, rfl⟩))
  (fun os started H enc _ => xS os started H enc)
end Go.Proofs.Ythkgcllekhnecaa
