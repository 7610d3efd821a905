/- A law out of the evaluator. -/
import Derived.Test.YthkgcllekhnecaaZS14
import Derived.OpenShut
import Derived.WideShapes
import Derived.ChangeShapes
import Derived.Test.YthkgcllekhnecaaZS0
import Derived.Test.YthkgcllekhnecaaChecked
import Derived.Test.YthkgcllekhnecaaRows
import Derived.Test.YthkgcllekhnecaaZS12
import Derived.Test.YthkgcllekhnecaaZS13
set_option linter.unusedVariables false
set_option linter.unusedSimpArgs false
section
namespace Go.Proofs.Ythkgcllekhnecaa
namespace Ev
open Go
set_option linter.unusedVariables false
set_option linter.unusedSimpArgs false
theorem mE (n : Int) (l : Sl P2) (z : Int × Int) (h0 : K.W (.I .u8) n) (h1 : K.W (.S (.C (.I .i64) (.I .i64))) l) (h2 : K.W (.C (.I .i64) (.I .i64)) z) : dL n l z = some true := by
 have hn : 0 ≤ n ∧ n ≤ 255 := by have h0 : inK .u8 n := h0; simpa [inK, Lit.wf, IntKind.min, IntKind.max, IntKind.signed, IntKind.bits] using h0
 obtain ⟨v, e1, hr, hok, hnn, hsm, hv64⟩ := qc hn (.inr h1.1) (Nat.le_trans h1.2.2.1 (by decide)) (fun y hy => (js (h1.2.2.2 y hy).2))
 have hz2 : eX z.2 := js h2.2
 have hnum := fH hr
 have hasc := cj hr
 have hlen := gp hr
 have hat : ∃ p : Int, (if v.1 > 0 then if z.1 ≥ 0 then (ng z.1 v.1).bind fun (z : Int) => some (Sum.inl z) else some (Sum.inl 0) else some (Sum.inl 0)) = some (Sum.inl p : Int ⊕ Empty) ∧ (0 < v.1 → 0 ≤ p ∧ p < v.1) ∧ (v.1 = 0 → p = 0) := by
  by_cases c1 : v.1 > 0
  ·rw [if_pos c1]
   by_cases c2 : z.1 ≥ 0
   ·rw [if_pos c2]
    refine ⟨z.1.tmod v.1, ?_, fun _ => ?_, fun h => by omega⟩
    ·unfold ng; rw [if_pos (by omega)]; rfl
    ·rw [Int.tmod_eq_emod_of_nonneg c2]
     exact ⟨Int.emod_nonneg _ (by omega), Int.emod_lt_of_pos _ c1⟩
   ·rw [if_neg c2]; exact ⟨0, rfl, fun _ => by omega, fun h => rfl⟩
  ·rw [if_neg c1]; exact ⟨0, rfl, fun h => by omega, fun h => rfl⟩
 obtain ⟨p, p1, p2, p3⟩ := hat
 obtain ⟨nn, q1, q2⟩ := sG hok hnn (by omega) p z.2
 rw [ju hr] at q1 q2
 -- what was put in can be
 have hwr : asc (-1) v.1 (nd v.2.l v.1 p z.2) = true := by
  unfold nd
  split
  ·exact hasc
  ·refine Bh (Rise.put (cA hasc) p z.2) fun y hy => ?_
   rcases put_mem.1 hy with rfl | ⟨hy, _⟩
   ·show -1 < p ∧ p < v.1; omega
   ·exact gH hasc y hy
 obtain ⟨w, hw⟩ : ∃ w : Vec, w = (v.1, ⟨nn, 2, nd v.2.l v.1 p z.2⟩) := ⟨_, rfl⟩
 have w1 : w.1 = v.1 := by rw [hw]
 have w2 : w.2.l = nd v.2.l v.1 p z.2 := by rw [hw]
 have wok : okS 2 w.2 := by rw [hw]; exact .inr rfl
 have wr : cB w = true := by
  unfold cB
  rw [w1, w2, hwr, sizeF_iff.2 hnum]; rfl
 have wlen := gp wr
 rw [← hw] at q1
 have hget : ∀ i : Int, 0 ≤ i → i < v.1 → Fz w.2.l i = if i = p then (z.2, true) else Fz v.2.l i := fun i i0 i1 => by
  rw [w2]
  unfold nd
  rw [if_neg (by omega)]
  unfold Fz
  rw [MQ (cA hasc)]
  by_cases c : i = p
  ·rw [if_pos c, if_pos c]
  ·rw [if_neg c, if_neg c]
 have hloop : aM (dw z v p w) 0 = some (.inl ()) := by
  obtain ⟨k, hk⟩ := Int.eq_ofNat_of_zero_le hnum.1
  refine go k (fun j => (j : Int)) rfl (fun j hj => ?_) ?_
  ·have hg := hget (j : Int) (by omega) (by omega)
   simp only [dw, sE wok (by omega), sF hok (by omega), ju wr, ju hr, hg, zbS, show IntKind.i64.wrap ((j : Int) + 1) = ((j + 1 : Nat) : Int) by rw [wrap64 (by omega) (by omega)]; omega]
   rw [if_pos (by omega)]
   by_cases c : (j : Int) = p
   ·rw [if_pos c, if_pos c, if_neg (by simp), if_neg (by simp), if_neg (fun h => h c)]
   ·rw [if_neg c, if_neg c, if_pos c, if_neg (by simp), if_neg (by simp)]
  ·simp only [dw]
   rw [if_neg (by omega)]
 have hof := IU (r := 2) (n := v.1) (l := v.2.l) rfl (sizeF_iff.2 hnum) hasc hv64
 obtain ⟨t, t1, t2, t3, t4⟩ := wl (r := 2) (n := v.1) hok hnn (by omega) (fun y hy => ⟨by have := gH hasc y hy; unfold eX; omega, hv64 y hy⟩)
 rw [hof] at t1 t2
 have hsame : cq (v.1, t) v = some true := oB (by show t.l.length ≤ _; rw [t2]; show v.2.l.length ≤ _; omega) t3 hok rfl t2
 rw [ow, e1, zbS, p1, zbS, Sum.elim_inl, q1, zbS, hloop, zbS, Sum.elim_inl, t1, zbS, show FL10 = some true from rfl, zbS, if_pos rfl, jK wok (by omega), zbS, if_pos wr, if_pos rfl, hsame]
 rfl
end Ev
end Go.Proofs.Ythkgcllekhnecaa
end
namespace Go.Proofs.Ythkgcllekhnecaa
open Go Go.ChangeShapes Go.WideShapes Go.ChangeAt Go.RowKit Go.Joins Ev
set_option maxRecDepth 100000
theorem Try.own : ownKnob Try.prog.godebug = none := by kernel_rfl
theorem Try.laidOut : laidOutB Try.prog = true := by kernel_rfl
namespace Ev
namespace K
theorem op5 : Op Try.prog 5 (.I .u8) := iV (by kernel_rfl)
theorem op3 : Op Try.prog 3 (.I .i64) := iV (by kernel_rfl)
theorem op2 : Op Try.prog 2 (.I .i64) := iV (by kernel_rfl)
theorem EY : Op Try.prog 30 (.C (.I .i64) (.I .i64)) := kn (fs := eS Try.prog 29) (by kernel_rfl) (by kernel_rfl) (iW op3 (kT op2))
theorem GM : Op Try.prog 23 (.S (.C (.I .i64) (.I .i64))) := pV (by kernel_rfl) (by kernel_rfl) EY
end K
end Ev
theorem zl (tds : List TD) (h : gm Try.prog [5, 23, 30] tds) : ∃ m n kind, (bY K.E1 m n).1 6 tds = some (kind, [.one (.v (.bool true))]) := by
 obtain ⟨x0, q0, rfl, w0, h0⟩ := K.gU (d := .int .u8) (by kernel_rfl) rfl K.op5 h
 obtain ⟨x1, q1, rfl, w1, h1⟩ := K.gU (d := .slice 30) (by kernel_rfl) rfl K.GM h0
 obtain ⟨x2, q2, rfl, w2, h2⟩ := K.pW (d := .struct (eS Try.prog 29)) (by kernel_rfl) rfl K.EY h1
 obtain rfl := qw h2
 exact K.uq (en := K.jB) K.oo (a := (x0, x1, x2)) rfl rfl (mE x0 x1 x2 w0 w1 w2)
theorem sj (os : Os) (started : os.Started) (H : Type) (enc : TypeId × Value → H) :
  ReturnsInHanded {} Try.checked os 6 .any (Rows.spvecPutsSpec.pre6 enc Try.prog Try.f6 Rows.spvecPutsRow.domain false) (Rows.spvecPutsSpec.post enc Try.prog Try.f6 false true false false) := by
 refine returnsInHanded_of_change (C := Try.checked) Try.own started (by kernel_rfl) Try.func6
  (ChangeSpec.witness6 (enc := enc) (C := Try.checked) false ⟨#[], #[.int .u8 0, .slice none 0 0, .agg #[.int .i64 0, .int .i64 0]], []⟩ 8 (by kernel_rfl) (by kernel_rfl) (by kernel_rfl) (by kernel_rfl)) ?_
 intro W0 base args ds gs before hval0 hW _ _
 have hval : ∀ (j : Nat) t v, Try.f6.params[j]? = some t → args[j]? = some v → Value.okWide Try.prog W0 .any base t v := hval0
 have hW' := hW
 obtain ⟨p, q, hA0, hV, rfl, _, _⟩ := hW
 have hA : DataW.TrodAll enc Try.prog W0 0 (fun _ => true) true Try.f6.params.toList args.toList ds p := hA0
 rw [Try.params6] at hA hval
 refine (qj (E := K.E1) K.aO trivial (d := 8) (k := 6) (base := base) (ts := [5, 23, 30]) (vs := args.toList) (fun t ht => ?_) hA (fun j t v h1 h2 => hval j t v (by simpa using h1) (by simpa using h2)) zl).mono fun e W1 ⟨he, hb⟩ => ?_
 ·simp only [List.mem_cons, List.not_mem_nil, or_false] at ht
  rcases ht with rfl | rfl | rfl <;> kernel_rfl
 subst he
 exact ⟨_, rfl, pf Try.laidOut (by rw [Try.params6]; intro t ht; simp only [List.mem_cons, List.not_mem_nil, or_false] at ht; rcases ht with rfl | rfl | rfl <;> exact ⟨by kernel_rfl, of_decide_eq_true (by kernel_rfl)⟩) rfl (by kernel_rfl) Try.underlying4
  (fun ds hl => by rw [Try.params6] at hl; match ds, hl with | [_d0, _d1, _d2], _ => rfl) hW' hb⟩
theorem spvecPuts_holds : Rows.SpvecPutsSaid :=
 OpenClaim.holds_of_wide 6 Try.f6 rfl rfl rfl rfl rfl rfl rfl ⟨rfl, rfl, rfl, rfl, rfl⟩ rfl rfl rfl rfl rfl (by kernel_rfl) Try.func6 (by kernel_rfl)
  (of_decide_eq_true (by kernel_rfl)) (by unfold Func.isWrapper; first | (rw [if_pos (by decide +kernel)]; kernel_rfl) | (rw [if_neg (by decide +kernel)]; exact ⟨rfl, rfl⟩))
  (fun os started H enc _ => sj os started H enc)
end Go.Proofs.Ythkgcllekhnecaa
