/- A law out of the evaluator. -/
import Derived.Test.YtoamaaicfjkmhaaZT14
import Derived.OpenShut
import Derived.WideShapes
import Derived.ChangeShapes
import Derived.Test.YtoamaaicfjkmhaaZT0
import Derived.Test.YtoamaaicfjkmhaaChecked
import Derived.Test.YtoamaaicfjkmhaaRows
import Derived.Test.YtoamaaicfjkmhaaZT13
set_option linter.unusedVariables false
set_option linter.unusedSimpArgs false
section
namespace Go.Proofs.Ytoamaaicfjkmhaa
namespace Ev
open Go Sm
set_option linter.unusedVariables false
set_option linter.unusedSimpArgs false
theorem EP {n : Int} {s : Sl E3} (hs : okS 3 s) (hl : s.l.length ≤ 60) : bn (cD (n, s)) ([], 0) = some (.inl s.l) := by
 rw [show bn (cD (n, s)) ([], 0) = some (.inl (s.l.take s.l.length)) from ?_, List.take_length]
 refine kz s.l.length (fun i => (s.l.take i, (i : Int))) (by simp) (fun i hi => ?_) ?_
 ·simp only [cD]
  rw [if_pos (by omega), ig hs hi]
  simp only [zbS]
  have hLl : (s.l.take i).length ≤ 60 := by simp; omega
  have e3 : s.l.take (i + 1) = s.l.take i ++ [s.l[i]] := List.take_succ_eq_append_getElem hi
  rw [mJ hi (by omega)]
  generalize s.l.take i = L at hLl e3 ⊢
  rw [e3]
  cases L with
  | nil =>
   (try rw [if_pos (show List.length ([] : List E3) = 0 from rfl)])
   rw [jS (by simp; unfold co; omega)]
   rfl
  | cons a r =>
   (try rw [if_neg (show ¬ (a :: r).length = 0 by simp)])
   rw [jS (by simp at hLl ⊢; unfold co; omega)]
   rfl
 ·simp only [cD]
  rw [if_neg (by omega)]
theorem Gd.wrongM {n : Int} {l : List E3} (h : Gd n l) (hr : sn l) : Ev.wrongM n n l = 0 := by
 have h0 := h.n0
 have h1 := h.len
 refine wrongM_iff.2 ⟨⟨h0.1, by omega⟩, ⟨h0.1, by omega⟩, by omega, List.all_eq_true.2 fun t ht => ?_, risL_iff.2 hr⟩
 have := h.p t ht
 unfold inM
 exact decide_eq_true ⟨this.1.1, this.1.2, this.2.1.1, this.2.1.2⟩
theorem nf (x : Gr) (h0 : K.W (.C (.I .i64) (.S (.C (.I .i64) (.C (.I .i64) (.I .i64))))) x) : dZ x = some true := by
 obtain ⟨hs, hn, hw⟩ := FY h0.2
 obtain ⟨n, l, e1, hg⟩ := IL hs
 obtain ⟨s, s1, s2, s3, s4⟩ := Cm hg (s := mo 3 l) (FT _) (Nx _) (Hk _ _)
 have hC := hg.can
 have hr := (so (r := 1) (l := l)).1
 obtain ⟨o, o1, o2, o3, o4⟩ := Cm (n := 2) (l := [(0, 1, 2), (0, 1, 1)]) ⟨by decide, by decide, by decide⟩ (s := ⟨true, 3, [(0, 1, 2), (0, 1, 1)]⟩) (.inr rfl) (fun h => by cases h) rfl
 rw [pn, e1]
 simp only [zbS]
 rw [s1]
 simp only [zbS]
 rw [← s4] at hC hr
 rw [EP s2 hC.len]
 simp only [zbS, Sum.elim_inl]
 have hw0 : wrongM n n (mo 3 s.l).l = 0 := by rw [Hk]; exact hC.wrongM hr
 rw [gA n n (FT _), if_pos hw0]
 simp only [zbS, Hk]
 have hlen := hC.len
 rw [Co (hC.wrongM hr) (fun t ht => (hC.w t ht).2.2) (by omega), o1]
 simp only [zbS]
 have e5 : (o.l.length : Int) = 1 := by rw [o4]; rfl
 rw [if_pos e5, if_pos trivial, if_pos ⟨trivial, trivial⟩, if_pos trivial, if_pos trivial, lI (FT _) (AI _) (by rw [Hk]; omega)]
 simp only [zbS]
 rw [Hk, show decide (s.l = (Sm.Dc.liS s.l).l) = true from decide_eq_true rfl]
 rfl
end Ev
end Go.Proofs.Ytoamaaicfjkmhaa
end
namespace Go.Proofs.Ytoamaaicfjkmhaa
open Go Go.ChangeShapes Go.WideShapes Go.ChangeAt Go.RowKit Go.Joins Ev
set_option maxRecDepth 100000
theorem Try.own : ownKnob Try.prog.godebug = none := by kernel_rfl
theorem Try.laidOut : laidOutB Try.prog = true := by kernel_rfl
namespace Ev
namespace K
theorem op3 : Op Try.prog 3 (.I .i64) := se (by kernel_rfl)
theorem op2 : Op Try.prog 2 (.I .i64) := se (by kernel_rfl)
theorem Su : Op Try.prog 48 (.C (.I .i64) (.C (.I .i64) (.I .i64))) := pk (fs := bZ Try.prog 47) (by kernel_rfl) (by kernel_rfl) (iw op3 (iw op3 (qT op2)))
theorem Sv : Op Try.prog 36 (.S (.C (.I .i64) (.C (.I .i64) (.I .i64)))) := sf (by kernel_rfl) (by kernel_rfl) Su
theorem Sw : Op Try.prog 38 (.C (.I .i64) (.S (.C (.I .i64) (.C (.I .i64) (.I .i64))))) := pk (fs := bZ Try.prog 37) (by kernel_rfl) (by kernel_rfl) (iw op3 (qT Sv))
end K
end Ev
theorem uL (tds : List TD) (h : ga Try.prog [38] tds) : ∃ m n kind, (bX K.E1 m n).1 5 tds = some (kind, [.one (.v (.bool true))]) := by
 obtain ⟨x0, q0, rfl, w0, h0⟩ := K.yK (d := .struct (bZ Try.prog 37)) (by kernel_rfl) rfl K.Sw h
 obtain rfl := zx h0
 exact K.Cl (en := K.ji) K.pj (a := (x0)) rfl rfl (nf x0 w0)
theorem pL (os : Os) (started : os.Started) (H : Type) (enc : TypeId × Value → H) :
  ReturnsInHanded {} Try.checked os 5 .any (Rows.topMatrixSpec.pre6 enc Try.prog Try.f5 Rows.topMatrixRow.domain false) (Rows.topMatrixSpec.post enc Try.prog Try.f5 false true false false) := by
 refine returnsInHanded_of_change (C := Try.checked) Try.own started (by kernel_rfl) Try.func5
  (ChangeSpec.witness6 (enc := enc) (C := Try.checked) false ⟨#[], #[.agg #[.int .i64 0, .slice none 0 0]], []⟩ 8 (by kernel_rfl) (by kernel_rfl) (by kernel_rfl) (by kernel_rfl)) ?_
 intro W0 base args ds gs before hval0 hW _ _
 have hval : ∀ (j : Nat) t v, Try.f5.params[j]? = some t → args[j]? = some v → Value.okWide Try.prog W0 .any base t v := hval0
 have hW' := hW
 obtain ⟨p, q, hA0, hV, rfl, _, _⟩ := hW
 have hA : DataW.TrodAll enc Try.prog W0 0 (fun _ => true) true Try.f5.params.toList args.toList ds p := hA0
 rw [Try.params5] at hA hval
 refine (zj (E := K.E1) K.fM trivial (d := 8) (k := 5) (base := base) (ts := [38]) (vs := args.toList) (fun t ht => ?_) hA (fun j t v h1 h2 => hval j t v (by simpa using h1) (by simpa using h2)) uL).mono fun e W1 ⟨he, hb⟩ => ?_
 ·simp only [List.mem_cons, List.not_mem_nil, or_false] at ht
  rcases ht with rfl <;> kernel_rfl
 subst he
 exact ⟨_, rfl, xP Try.laidOut (by rw [Try.params5]; intro t ht; simp only [List.mem_cons, List.not_mem_nil, or_false] at ht; rcases ht with rfl <;> exact ⟨by kernel_rfl, of_decide_eq_true (by kernel_rfl)⟩) rfl (by kernel_rfl) Try.underlying4
  (fun ds hl => by rw [Try.params5] at hl; match ds, hl with | [_d0], _ => rfl) hW' hb⟩
theorem topMatrix_holds : Rows.TopMatrixSaid :=
 OpenClaim.holds_of_wide 5 Try.f5 rfl rfl rfl rfl rfl rfl rfl ⟨rfl, rfl, rfl, rfl, rfl⟩ rfl rfl rfl rfl rfl (by kernel_rfl) Try.func5 (by kernel_rfl)
  (of_decide_eq_true (by kernel_rfl)) (by unfold Func.isWrapper; first | (rw [if_pos (by decide +kernel)]; kernel_rfl) | (rw [if_neg (by decide +kernel)]; exact ⟨rfl, rfl⟩))
  (fun os started H enc _ => pL os started H enc)
end Go.Proofs.Ytoamaaicfjkmhaa
