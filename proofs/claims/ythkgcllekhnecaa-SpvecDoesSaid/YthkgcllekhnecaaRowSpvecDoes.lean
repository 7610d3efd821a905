/- A law out of the evaluator. -/
import Derived.Test.YthkgcllekhnecaaZS14
import Derived.OpenShut
import Derived.WideShapes
import Derived.ChangeShapes
import Derived.Test.YthkgcllekhnecaaZS0
import Derived.Test.YthkgcllekhnecaaChecked
import Derived.Test.YthkgcllekhnecaaRows
import Derived.Test.YthkgcllekhnecaaZS13
set_option linter.unusedVariables false
set_option linter.unusedSimpArgs false
section
namespace Go.Proofs.Ythkgcllekhnecaa
namespace Ev
open Go
set_option linter.unusedVariables false
set_option linter.unusedSimpArgs false
theorem aS {α : Type} (x : α) : (some x).map (fun x => x) = some x := rfl
theorem mD (v : Vec) (at_ : Int × Int) (val : Int) (h0 : K.W (.C (.I .i64) (.S (.C (.I .i64) (.I .i64)))) v) (h1 : K.W (.C (.I .i64) (.I .i64)) at_) (h2 : K.W (.I .i64) val) : dM v at_ val = some true := by
 obtain ⟨w, e1, _, e2, e3, e4⟩ := DL (Wv.ok h0) (Wv.nn h0)
 have hlen : w.2.l.length ≤ 60 := by rw [e2, List.length_take]; omega
 have hl : w.2.l.length ≤ 9223372036854775806 := by omega
 have hsl := cC w
 have b9 : ∀ n : Nat, n ≤ 5000 → n ≤ 9223372036854775806 := fun n h => by omega
 obtain ⟨nn, p1, p2⟩ := sG e3 e4 (by omega) at_.1 val
 obtain ⟨s, q1, q2, q3, q4⟩ := gb e3 hl at_.1 at_.2
 have hpart : s.l.length ≤ 5000 := by
  rw [q2]
  unfold gl
  split
  ·simp
  ·show (upL _ _).length ≤ 5000
   rw [ur]
   have := BE (aj w).2.l (max at_.1 0) (min at_.2 (aj w).1)
   omega
 have hput : (nd (aj w).2.l (aj w).1 at_.1 val).length ≤ 5000 := by
  unfold nd
  split
  ·omega
  ·have := Hh (aj w).2.l at_.1 val; omega
 have hdrop : (lE (aj w).2.l at_.1).length ≤ 5000 := by
  have : (lE (aj w).2.l at_.1).length ≤ (aj w).2.l.length := List.length_filter_le _ _
  omega
 have r1 : aZ ((aj w).1, ⟨nn, 2, nd (aj w).2.l (aj w).1 at_.1 val⟩) ((aj w).1, mo 2 (nd (aj w).2.l (aj w).1 at_.1 val)) = some true := gx (b9 _ hput) (.inr rfl) (jt _) rfl (ld _ _).symm
 have r2 : aZ ((aj w).1, ⟨(aj w).2.nn, 2, lE (aj w).2.l at_.1⟩) ((aj w).1, mo 2 (lE (aj w).2.l at_.1)) = some true := gx (b9 _ hdrop) (.inr rfl) (jt _) rfl (ld _ _).symm
 have r3 : cD (mo 1 ((aj w).2.l.map (·.1))) (mo 1 ((aj w).2.l.map (·.1))) = some true := by
  rw [rH (by rw [ld, List.length_map]; omega) (jt _) (jt _), decide_eq_true rfl]
 have r4 : aZ ((aj w).1, mo 2 (Km (aj w).2.l)) ((aj w).1, mo 2 (Km (aj w).2.l)) = some true := gx (by show (mo 2 _).l.length ≤ _; rw [ld]; unfold Km; rw [List.length_map]; omega) (jt _) (jt _) rfl rfl
 have r5 : aZ ((gl (aj w) at_.1 at_.2).1, s) ((gl (aj w) at_.1 at_.2).1, mo 2 (gl (aj w) at_.1 at_.2).2) = some true := gx (b9 _ hpart) q3 (jt _) rfl (by show s.l = (mo 2 _).l; rw [ld]; exact q2)
 rw [oA, e1, aS, zbS, sE e3 hl, aS, zbS, sF e3 hl, aS, zbS, show FL10 = some true from rfl, zbS, if_pos rfl, jK e3 hl, aS, zbS, nI e3 hl, aS, zbS, if_pos rfl, if_pos rfl, if_pos rfl]
 rw [p1, aS, zbS, DI e3 hl, aS, zbS, r1, aS, zbS, if_pos rfl]
 rw [BO e3 (by omega), aS, zbS, BP e3 hl, aS, zbS, r2, aS, zbS, if_pos rfl]
 rw [vZ e3 hl, Option.map_some, zbS, wa e3 hl, Option.map_some, zbS, r3, aS, zbS, if_pos rfl]
 rw [yN e3 hl, aS, zbS, yO e3 hl, aS, zbS, r4, aS, zbS, if_pos rfl]
 rw [q1, aS, zbS, BT e3 hl, aS, zbS, r5, aS, zbS]
 rfl
end Ev
end Go.Proofs.Ythkgcllekhnecaa
end
namespace Go.Proofs.Ythkgcllekhnecaa
open Go Go.ChangeShapes Go.WideShapes Go.ChangeAt Go.RowKit Go.Joins Ev
set_option maxRecDepth 100000
theorem Try.own : ownKnob Try.prog.godebug = none := by kernel_rfl
theorem Try.laidOut : laidOutB Try.prog = true := by kernel_rfl
namespace Ev
namespace K
theorem op3 : Op Try.prog 3 (.I .i64) := iV (by kernel_rfl)
theorem op2 : Op Try.prog 2 (.I .i64) := iV (by kernel_rfl)
theorem EY : Op Try.prog 30 (.C (.I .i64) (.I .i64)) := kn (fs := eS Try.prog 29) (by kernel_rfl) (by kernel_rfl) (iW op3 (kT op2))
theorem GM : Op Try.prog 23 (.S (.C (.I .i64) (.I .i64))) := pV (by kernel_rfl) (by kernel_rfl) EY
theorem Wx : Op Try.prog 25 (.C (.I .i64) (.S (.C (.I .i64) (.I .i64)))) := kn (fs := eS Try.prog 24) (by kernel_rfl) (by kernel_rfl) (iW op3 (kT GM))
theorem Wy : Op Try.prog 35 (.C (.I .i64) (.I .i64)) := DD (n := 2) (t' := 3) (by kernel_rfl) (iW op3 (kT op3))
end K
end Ev
theorem zk (tds : List TD) (h : gm Try.prog [25, 35, 2] tds) : ∃ m n kind, (bY K.E2 m n).1 4 tds = some (kind, [.one (.v (.bool true))]) := by
 obtain ⟨x0, q0, rfl, w0, h0⟩ := K.pW (d := .struct (eS Try.prog 24)) (by kernel_rfl) rfl K.Wx h
 obtain ⟨x1, q1, rfl, w1, h1⟩ := K.pW (d := .array 2 3) (by kernel_rfl) rfl K.Wy h0
 obtain ⟨x2, q2, rfl, w2, h2⟩ := K.gU (d := .int .i64) (by kernel_rfl) rfl K.op2 h1
 obtain rfl := qw h2
 exact K.uq (en := K.jD) K.oz (a := (x0, x1, x2)) rfl rfl (mD x0 x1 x2 w0 w1 w2)
theorem sg (os : Os) (started : os.Started) (H : Type) (enc : TypeId × Value → H) :
  ReturnsInHanded {} Try.checked os 4 .any (Rows.spvecDoesSpec.pre6 enc Try.prog Try.f4 Rows.spvecDoesRow.domain false) (Rows.spvecDoesSpec.post enc Try.prog Try.f4 false true false false) := by
 refine returnsInHanded_of_change (C := Try.checked) Try.own started (by kernel_rfl) Try.func4
  (ChangeSpec.witness6 (enc := enc) (C := Try.checked) false ⟨#[], #[.agg #[.int .i64 0, .slice none 0 0], .agg #[.int .i64 0, .int .i64 0], .int .i64 0], []⟩ 8 (by kernel_rfl) (by kernel_rfl) (by kernel_rfl) (by kernel_rfl)) ?_
 intro W0 base args ds gs before hval0 hW _ _
 have hval : ∀ (j : Nat) t v, Try.f4.params[j]? = some t → args[j]? = some v → Value.okWide Try.prog W0 .any base t v := hval0
 have hW' := hW
 obtain ⟨p, q, hA0, hV, rfl, _, _⟩ := hW
 have hA : DataW.TrodAll enc Try.prog W0 0 (fun _ => true) true Try.f4.params.toList args.toList ds p := hA0
 rw [Try.params4] at hA hval
 refine (qj (E := K.E2) K.Od trivial (d := 8) (k := 4) (base := base) (ts := [25, 35, 2]) (vs := args.toList) (fun t ht => ?_) hA (fun j t v h1 h2 => hval j t v (by simpa using h1) (by simpa using h2)) zk).mono fun e W1 ⟨he, hb⟩ => ?_
 ·simp only [List.mem_cons, List.not_mem_nil, or_false] at ht
  rcases ht with rfl | rfl | rfl <;> kernel_rfl
 subst he
 exact ⟨_, rfl, pf Try.laidOut (by rw [Try.params4]; intro t ht; simp only [List.mem_cons, List.not_mem_nil, or_false] at ht; rcases ht with rfl | rfl | rfl <;> exact ⟨by kernel_rfl, of_decide_eq_true (by kernel_rfl)⟩) rfl (by kernel_rfl) Try.underlying4
  (fun ds hl => by rw [Try.params4] at hl; match ds, hl with | [_d0, _d1, _d2], _ => rfl) hW' hb⟩
theorem spvecDoes_holds : Rows.SpvecDoesSaid :=
 OpenClaim.holds_of_wide 4 Try.f4 rfl rfl rfl rfl rfl rfl rfl ⟨rfl, rfl, rfl, rfl, rfl⟩ rfl rfl rfl rfl rfl (by kernel_rfl) Try.func4 (by kernel_rfl)
  (of_decide_eq_true (by kernel_rfl)) (by unfold Func.isWrapper; first | (rw [if_pos (by decide +kernel)]; kernel_rfl) | (rw [if_neg (by decide +kernel)]; exact ⟨rfl, rfl⟩))
  (fun os started H enc _ => sg os started H enc)
end Go.Proofs.Ythkgcllekhnecaa
