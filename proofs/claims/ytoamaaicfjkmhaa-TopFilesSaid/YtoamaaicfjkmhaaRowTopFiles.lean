/- A law out of the evaluator. -/
import Derived.Test.YtoamaaicfjkmhaaZT15
import Derived.OpenShut
import Derived.WideShapes
import Derived.ChangeShapes
import Derived.Test.YtoamaaicfjkmhaaZT0
import Derived.Test.YtoamaaicfjkmhaaChecked
import Derived.Test.YtoamaaicfjkmhaaRows
import Derived.Test.YtoamaaicfjkmhaaZT14
set_option linter.unusedVariables false
set_option linter.unusedSimpArgs false
section
namespace Go.Proofs.Ytoamaaicfjkmhaa
namespace Ev
open Go Sm
set_option linter.unusedVariables false
set_option linter.unusedSimpArgs false
theorem Om {n : Int} {s : Sl E3} (hs : okS 3 s) (hl : s.l.length ≤ 1000) (hw : w64 s.l) : ∃ s' : Sl E3, fK (n, s) = some (n, s') ∧ okS 3 s' ∧ (s'.nn = false → s'.l = []) ∧ s'.l = iO (bJ (RG 1) s.l).1 := by
 rw [vH]
 simp only
 have q : bu (fU (n, s)) (0, n, []) = some (.inl (n, s.l.map bL)) := by
  rw [show s.l.map bL = (s.l.take s.l.length).map bL by rw [List.take_length]]
  refine lk s.l.length (fun i => ((i : Int), n, (s.l.take i).map bL)) ?_ (fun i hi => ?_) ?_
  ·simp
  ·have a1 := iA hs hi
   simp only [fU, a1, zbS, yl, ry]
   rw [if_pos (by omega), if_pos trivial]
   have hLl : ((s.l.take i).map bL).length ≤ 1000 := by simp; omega
   generalize hL : (s.l.take i).map bL = L at hLl ⊢
   cases L with
   | nil =>
    (try rw [if_pos (show List.length ([] : List E3) = 0 from rfl)])
    rw [jf (by simp; unfold ck; omega), jg hi (by omega), List.take_succ_eq_append_getElem hi, List.map_append, hL]
    rfl
   | cons a r =>
    (try rw [if_neg (show ¬ (a :: r).length = 0 by simp)])
    rw [jf (by simp at hLl ⊢; unfold ck; omega), jg hi (by omega), List.take_succ_eq_append_getElem hi, List.map_append, hL]
    rfl
  ·simp only [fU]
   rw [if_neg (by omega)]
 rw [q]
 simp only [zbS, Sum.elim_inl]
 obtain ⟨s', e1, e2, e3, e4⟩ := Kb n (s := mo 3 (s.l.map bL)) (Lt _) (Lu _) (by rw [Cr, List.length_map]; omega) (by rw [Cr]; exact fun x hx => by have := hw _ (mem_flip.1 hx); exact ⟨this.2.1, this.1, this.2.2⟩)
 rw [e1]
 exact ⟨s', rfl, e2, e3, by rw [e4, Cr, zT]⟩
theorem On (l : List E3) : (l.map bL).map bL = l := by
 rw [List.map_map]
 have : bL ∘ bL = id := rfl
 rw [this, List.map_id]
theorem Jy {n : Int} {L : List E3} (hn : n ≤ 4096) (hl : L.length ≤ 65536) (hin : InE n L) (hw : w64 L) : okS 3 (Sm.Dc.canonS L) ∧ (Sm.Dc.canonS L).l = (bJ (RG 1) L).1 := by
 obtain ⟨s', e1, e2, e3, e4⟩ := jB (r := 1) (x := Sm.Dc.liS L) (by decide) (tC L) (fun h => by cases L with | nil => rfl | cons a r => cases h) hl hw
 obtain ⟨e, h⟩ := Sm.Dc.canon_fn hn hl hin
 have h2 : cA 1 (Sm.Dc.liS L) = some (Sm.Dc.canonS L, e) := h
 rw [h2] at e1
 cases e1
 exact ⟨e2, e4⟩
theorem Oo {n : Int} {l : List E3} (h : Gd n l) : gO (n, mo 3 l) = some (n, Sm.Dc.canonS (l ++ l.map bL)) := by
 have h0 := h.n0
 have h1 := h.len
 show Sm.Bo.fn (n, mo 3 l) = _
 unfold Sm.Bo.fn
 rw [if_pos]
 ·simp only [Cr]
  rfl
 ·simp only [Sm.Bo.okG, Bool.and_eq_true, Bool.or_eq_true, decide_eq_true_eq, List.all_eq_true, Cr]
  refine ⟨h0.1, by omega, by omega, (Hm (Lt _) (Lu _) (by rw [Cr]; omega) (by rw [Cr]; exact h.w)).2, ?_, fun x hx => ?_⟩
  ·cases l with
   | nil => exact .inl rfl
   | cons a r => exact .inr rfl
  ·have := h.p x hx
   exact ⟨this.1, this.2.1, this.2.2⟩
theorem Lm : bq ⟨false, 0, []⟩ = some ((0, ⟨false, 0, []⟩), (2, 0)) := HJ (by rfl) (by rfl)
theorem ph (x : Gr) (h0 : K.W (.C (.I .i64) (.S (.C (.I .i64) (.C (.I .i64) (.I .i64))))) x) : fu x = some true := by
 obtain ⟨hs, hn, hw⟩ := Nr h0.2
 obtain ⟨n, l, e1, hg⟩ := Ka hs
 have hn0 := hg.n0
 have hln := hg.len
 obtain ⟨L, hL⟩ : ∃ L, L = l ++ l.map bL := ⟨_, rfl⟩
 have hLf : ∀ e, e ∈ L.map bL ↔ e ∈ L := fun e => by
  rw [hL, List.map_append, On, List.mem_append, List.mem_append]
  exact Or.comm
 have hLp : ∀ x ∈ L, (0 ≤ x.1 ∧ x.1 < n) ∧ (0 ≤ x.2.1 ∧ x.2.1 < n) ∧ 0 ≤ x.2.2 ∧ x.2.2 ≤ 2147483647 := fun x hx => by
  rw [hL] at hx
  rcases List.mem_append.1 hx with h | h
  ·exact hg.p x h
  ·exact hg.flip.p x h
 have hLl : L.length ≤ 120 := by rw [hL]; simp; omega
 have hLw : w64 L := fun x hx => by
  have := hLp x hx
  unfold ga
  omega
 have hLFw : w64 (L.map bL) := fun x hx => hLw x ((hLf x).1 hx)
 have hdom : bJ (RG 1) (L.map bL) = bJ (RG 1) L := Kc hLFw hLw (fun e he => ⟨e, (hLf e).1 he, rfl, Int.le_refl _⟩) (fun e he => ⟨e, (hLf e).2 he, rfl, Int.le_refl _⟩)
 have hturn : iO (bJ (RG 1) L).1 = (bJ (RG 1) L).1 := by rw [← zT, hdom]
 obtain ⟨c1, c2⟩ := Jy (n := n) (by omega) (by omega) hLp hLw
 have hr := (ko (r := 1) (l := L)).1
 have hcl := (ko (r := 1) (l := L)).2.1
 have hcp : ∀ x ∈ (bJ (RG 1) L).1, (0 ≤ x.1 ∧ x.1 < n) ∧ (0 ≤ x.2.1 ∧ x.2.1 < n) ∧ 0 ≤ x.2.2 ∧ x.2.2 ≤ 2147483647 := fun x hx => hLp x (Hp hLw hx)
 have hB := Oo hg
 rw [← hL] at hB
 generalize Sm.Dc.canonS L = C at c1 c2 hB
 rw [← c2] at hr hcl hcp hturn
 have hcw : w64 C.l := fun x hx => by
  have := hcp x hx
  unfold ga
  omega
 have hself : (bJ (RG 1) C.l).1 = C.l := by rw [tu hr (fun e he => (hcw e he).2.2)]
 have hri : fg C.l = true := risL_iff.2 hr
 have hw0 : eF (n, C) = 0 := wrongG_iff.2 ⟨⟨hn0.1, show n ≤ 4096 by omega⟩, show C.l.length ≤ 65536 by omega, List.all_eq_true.2 fun t ht => by
  have := hcp t ht
  unfold inM
  exact decide_eq_true ⟨this.1.1, this.1.2, this.2.1.1, this.2.1.2⟩, List.all_eq_true.2 fun t ht => by
  have := hcp t ht
  unfold wOk
  exact decide_eq_true this.2.2⟩
 have hE : Fm (n, C) = (⟨true, 1, ib n C.l⟩, 0) := by
  unfold Fm
  rw [if_pos hw0, if_pos hri]
 obtain ⟨s', t1, t2, t3, t4⟩ := Om (n := n) (s := Sm.Dc.liS C.l) (tC _) (by show C.l.length ≤ 1000; omega) hcw
 have t4 : s'.l = iO (bJ (RG 1) C.l).1 := t4
 rw [hself, hturn] at t4
 rw [rz, e1]
 simp only [zbS]
 rw [hB]
 simp only [zbS]
 rw [zY (g := (n, C)) c1, hE]
 simp only [zbS]
 rw [Aa hw0 hri (by omega), Lm]
 simp only [zbS]
 rw [if_pos trivial, if_pos ⟨trivial, trivial⟩, Hr (by show C.l.length ≤ 65536; omega) (tC _) c1 rfl]
 simp only [zbS]
 rw [if_pos trivial, t1]
 simp only [zbS]
 rw [Hr (by rw [t4]; omega) t2 (tC _) t4]
 simp only [zbS]
 rw [if_pos trivial, Fp hw0 hri (by omega)]
 simp only [zbS]
 rw [if_pos trivial, iw (.inr rfl) (by show C.l.length ≤ _; omega)]
 simp only [zbS]
 rw [if_pos (show fg (Sm.Dc.liS C.l).l = true from hri), if_pos trivial]
 rfl
end Ev
end Go.Proofs.Ytoamaaicfjkmhaa
end
namespace Go.Proofs.Ytoamaaicfjkmhaa
open Go Go.ChangeShapes Go.WideShapes Go.ChangeAt Go.RowKit Go.Joins Ev
set_option maxRecDepth 100000
theorem Try.own : ownKnob Try.prog.godebug = none := by kernel_rfl
theorem Try.laidOut : laidOutB Try.prog = true := by kernel_rfl
namespace Ev
namespace K
theorem op3 : Op Try.prog 3 (.I .i64) := He (by kernel_rfl)
theorem op2 : Op Try.prog 2 (.I .i64) := He (by kernel_rfl)
theorem Uo : Op Try.prog 48 (.C (.I .i64) (.C (.I .i64) (.I .i64))) := wo (fs := bZ Try.prog 47) (by kernel_rfl) (by kernel_rfl) (ta op3 (ta op3 (Ds op2)))
theorem Uq : Op Try.prog 36 (.S (.C (.I .i64) (.C (.I .i64) (.I .i64)))) := Hg (by kernel_rfl) (by kernel_rfl) Uo
theorem Ur : Op Try.prog 38 (.C (.I .i64) (.S (.C (.I .i64) (.C (.I .i64) (.I .i64))))) := wo (fs := bZ Try.prog 37) (by kernel_rfl) (by kernel_rfl) (ta op3 (Ds Uq))
end K
end Ev
theorem zb (tds : List TD) (h : kt Try.prog [38] tds) : ∃ m n kind, (cj K.E1 m n).1 4 tds = some (kind, [.one (.v (.bool true))]) := by
 obtain ⟨x0, q0, rfl, w0, h0⟩ := K.Hh (d := .struct (bZ Try.prog 37)) (by kernel_rfl) rfl K.Ur h
 obtain rfl := IL h0
 exact K.JW (en := K.ke) K.rq (a := (x0)) rfl rfl (ph x0 w0)
theorem rC (os : Os) (started : os.Started) (H : Type) (enc : TypeId × Value → H) :
  ReturnsInHanded {} Try.checked os 4 .any (Rows.topFilesSpec.pre6 enc Try.prog Try.f4 Rows.topFilesRow.domain false) (Rows.topFilesSpec.post enc Try.prog Try.f4 false true false false) := by
 refine returnsInHanded_of_change (C := Try.checked) Try.own started (by kernel_rfl) Try.func4
  (ChangeSpec.witness6 (enc := enc) (C := Try.checked) false ⟨#[], #[.agg #[.int .i64 0, .slice none 0 0]], []⟩ 8 (by kernel_rfl) (by kernel_rfl) (by kernel_rfl) (by kernel_rfl)) ?_
 intro W0 base args ds gs before hval0 hW _ _
 have hval : ∀ (j : Nat) t v, Try.f4.params[j]? = some t → args[j]? = some v → Value.okWide Try.prog W0 .any base t v := hval0
 have hW' := hW
 obtain ⟨p, q, hA0, hV, rfl, _, _⟩ := hW
 have hA : DataW.TrodAll enc Try.prog W0 0 (fun _ => true) true Try.f4.params.toList args.toList ds p := hA0
 rw [Try.params4] at hA hval
 refine (Ib (E := K.E1) K.cV trivial (d := 8) (k := 4) (base := base) (ts := [38]) (vs := args.toList) (fun t ht => ?_) hA (fun j t v h1 h2 => hval j t v (by simpa using h1) (by simpa using h2)) zb).mono fun e W1 ⟨he, hb⟩ => ?_
 ·simp only [List.mem_cons, List.not_mem_nil, or_false] at ht
  rcases ht with rfl <;> kernel_rfl
 subst he
 exact ⟨_, rfl, Gg Try.laidOut (by rw [Try.params4]; intro t ht; simp only [List.mem_cons, List.not_mem_nil, or_false] at ht; rcases ht with rfl <;> exact ⟨by kernel_rfl, of_decide_eq_true (by kernel_rfl)⟩) rfl (by kernel_rfl) Try.underlying4
  (fun ds hl => by rw [Try.params4] at hl; match ds, hl with | [_d0], _ => rfl) hW' hb⟩
theorem topFiles_holds : Rows.TopFilesSaid :=
 OpenClaim.holds_of_wide 4 Try.f4 rfl rfl rfl rfl rfl rfl rfl ⟨rfl, rfl, rfl, rfl, rfl⟩ rfl rfl rfl rfl rfl (by kernel_rfl) Try.func4 (by kernel_rfl)
  (of_decide_eq_true (by kernel_rfl)) (by unfold Func.isWrapper; first | (rw [if_pos (by decide +kernel)]; kernel_rfl) | (rw [if_neg (by decide +kernel)]; exact ⟨rfl, rfl⟩))
  (fun os started H enc _ => rC os started H enc)
end Go.Proofs.Ytoamaaicfjkmhaa
