/- A law out of the evaluator. -/
import Derived.Test.YthkgcllekhnecaaZS14
import Derived.OpenShut
import Derived.WideShapes
import Derived.ChangeShapes
import Derived.Test.YthkgcllekhnecaaZS0
import Derived.Test.YthkgcllekhnecaaChecked
import Derived.Test.YthkgcllekhnecaaRows
import Derived.Test.YthkgcllekhnecaaZS12
import Derived.Test.YthkgcllekhnecaaZS13
set_option linter.unusedVariables false
set_option linter.unusedSimpArgs false
section
namespace Go.Proofs.Ythkgcllekhnecaa
namespace Ev
open Go
set_option linter.unusedVariables false
set_option linter.unusedSimpArgs false
theorem Im {v : Vec} (h : cB v = true) {a b : Int} (h0 : 0 ≤ a) (h1 : a ≤ b) (h2 : b ≤ v.1) : gl v a b = (b - a, upL (-a) (dV v.2.l a b)) := by
 unfold gl
 rw [show min b v.1 = b by omega, show max a 0 = a by omega]
 by_cases c : b ≤ a
 ·obtain rfl : a = b := by omega
  rw [if_pos c]
  have : dV v.2.l a a = [] := by
   unfold dV
   rw [List.filter_eq_nil_iff]
   intro y _
   simp only [Bool.and_eq_true, decide_eq_true_eq]
   omega
  rw [this]
  exact Prod.ext (show (0 : Int) = a - a by omega) rfl
 ·rw [if_neg c]
theorem xT {v : Vec} (h : cB v = true) {a b : Int} (h0 : 0 ≤ a) (h1 : a ≤ b) (h2 : b ≤ v.1) : asc (-1) (b - a) (upL (-a) (dV v.2.l a b)) = true := by
 have hasc := cj h
 refine Bh (Rise.up (Rise.filter (cA hasc) _) _) fun y hy => ?_
 have h3 := (cut_mem.1 (MJ hy)).2
 simp only at h3
 omega
theorem Vp {n m : Int} (hn : 0 ≤ n ∧ n ≤ 255) (hm : 0 ≤ m ∧ m ≤ 4096) : ∃ k : Int, ng (IntKind.i64.wrap n) (IntKind.i64.wrap (m + 1)) = some k ∧ 0 ≤ k ∧ k ≤ m := by
 refine ⟨n.tmod (m + 1), ?_, ?_⟩
 ·unfold ng
  rw [wrap64 (by omega) (by omega), wrap64 (by omega) (by omega), if_pos (by omega)]
 ·rw [Int.tmod_eq_emod_of_nonneg hn.1]
  have h1 := Int.emod_nonneg n (show m + 1 ≠ 0 by omega)
  have h2 := Int.emod_lt_of_pos n (show 0 < m + 1 by omega)
  omega
theorem Mm {n : Int} (h : inK .u8 n) : 0 ≤ n ∧ n ≤ 255 := by simpa [inK, Lit.wf, IntKind.min, IntKind.max, IntKind.signed, IntKind.bits] using h
theorem lJ (n : Int) (l : Sl P2) (z : Int × Int) (h0 : K.W (.I .u8) n) (h1 : K.W (.S (.C (.I .i64) (.I .i64))) l) (h2 : K.W (.C (.I .u8) (.I .u8)) z) : cZ n l z = some true := by
 obtain ⟨v, e1, hr, hok, hnn, hsm, hv64⟩ := qc (Mm h0) (.inr h1.1) (Nat.le_trans h1.2.2.1 (by decide)) (fun y hy => (js (h1.2.2.2 y hy).2))
 have hnum := fH hr
 have hasc := cj hr
 have hlen := gp hr
 have hm := gH hasc
 obtain ⟨k, k1, k2, k3⟩ := Vp (Mm h2.1) hnum
 obtain ⟨m, m1, m2, m3⟩ := Vp (Mm h2.2) hnum
 obtain ⟨s1, a1, a2, a3, a4⟩ := gb hok (by omega) 0 k
 obtain ⟨s2, b1, b2, b3, b4⟩ := gb hok (by omega) k v.1
 rw [ju hr] at a1 a2 b1 b2
 rw [Im hr (by omega) k2 k3] at a1 a2
 rw [Im hr k2 k3 (by omega)] at b1 b2
 simp only at a1 a2 b1 b2
 have ra : cB (k - 0, s1) = true := by
  refine (jE (x := (k - 0, s1)) (y := (k - 0, (⟨true, 2, upL (-0) (dV v.2.l 0 k)⟩ : Sl P2))) rfl a2).trans ?_
  show (dK (k - 0) && asc (-1) (k - 0) _) = true
  rw [xT hr (by omega) k2 k3, sizeF_iff.2 (by omega)]; rfl
 have rb : cB (v.1 - k, s2) = true := by
  refine (jE (x := (v.1 - k, s2)) (y := (v.1 - k, (⟨true, 2, upL (-k) (dV v.2.l k v.1)⟩ : Sl P2))) rfl b2).trans ?_
  show (dK (v.1 - k) && asc (-1) (v.1 - k) _) = true
  rw [xT hr k2 k3 (by omega), sizeF_iff.2 (by omega)]; rfl
 have la := gp ra
 have lb := gp rb
 simp only at la lb
 have hg : qb [(k - 0, s1), (v.1 - k, s2)] (0, []) = ((v.1, v.2.l), 0) := by
  unfold qb
  rw [ju ra, if_neg (by simp only; omega)]
  unfold qb
  rw [ju rb, if_neg (by simp only; omega)]
  unfold qb
  refine Prod.ext (Prod.ext ?_ ?_) rfl
  ·show 0 + (k - 0) + (v.1 - k) = v.1; omega
  ·show [] ++ upL 0 s1.l ++ upL (0 + (k - 0)) s2.l = v.2.l
   rw [a2, b2, Fx, Fx, show (-0 + 0 : Int) = 0 by omega, show (-k + (0 + (k - 0)) : Int) = 0 by omega, DE, DE, List.nil_append, MM (cA hasc) k2 k3]
   exact ML fun y hy => by have := hm y hy; omega
 have hglue : spvec_Glue (⟨true, 2, [(k - 0, s1), (v.1 - k, s2)]⟩ : Sl Vec) = some ((v.1, mo 2 v.2.l), 0) := by
  rw [Cb (.inr rfl) (by simp) (fun w hw => ?_)]
  ·show some (Pv (qb [(k - 0, s1), (v.1 - k, s2)] (0, []))) = _
   rw [hg]; rfl
  ·rcases List.mem_cons.1 hw with rfl | hw
   ·exact ⟨a3, by show s1.l.length ≤ _; omega⟩
   ·obtain rfl := List.mem_singleton.1 hw
    exact ⟨b3, by show s2.l.length ≤ _; omega⟩
 have hsame : cq (v.1, mo 2 v.2.l) v = some true := oB (by show (mo 2 v.2.l).l.length ≤ _; rw [ld]; omega) (jt _) hok rfl (ld _ _)
 obtain ⟨s3, c1, c2, c3, c4⟩ := gb (v := (v.1 - k, s2)) b3 (by show s2.l.length ≤ _; omega) 0 m
 obtain ⟨s4, d1, d2, d3, d4⟩ := gb hok (by omega) k (k + m)
 rw [ju hr] at d1 d2
 rw [ju rb] at c1 c2
 have hpp : gl (v.1 - k, s2) 0 m = gl v k (k + m) := by
  unfold gl
  simp only
  rw [show max (0 : Int) 0 = 0 by omega, show max k 0 = k by omega]
  by_cases c : min m (v.1 - k) ≤ 0
  ·rw [if_pos c, if_pos (by omega)]
  ·rw [if_neg c, if_neg (by omega)]
   refine Prod.ext (by simp only; omega) ?_
   show upL (-0) (dV s2.l 0 (min m (v.1 - k))) = upL (-k) (dV v.2.l k (min (k + m) v.1))
   rw [b2, Pm, MK, Fx, show (-k + -0 : Int) = -k by omega]
   rw [show max k (0 - -k) = k by omega, show min v.1 (min m (v.1 - k) - -k) = min (k + m) v.1 by omega]
 have hlast : cq ((gl (v.1 - k, s2) 0 m).1, s3) ((gl v k (k + m)).1, s4) = some true := by
  have hs3 : s3.l.length ≤ 9223372036854775806 := by
   rw [c2]
   unfold gl
   split
   ·exact Nat.zero_le _
   ·show (upL (-(max 0 0)) (dV s2.l (max 0 0) (min m (v.1 - k)))).length ≤ _
    rw [ur]
    have := BE s2.l (max 0 0) (min m (v.1 - k))
    omega
  exact oB hs3 c3 d3 (by rw [hpp]) (by show s3.l = s4.l; rw [c2, d2, hpp])
 rw [nc, e1, zbS, k1, zbS, a1, zbS, b1, zbS, hglue, zbS, m1, zbS, show FL10 = some true from rfl, zbS, if_pos rfl, if_pos rfl, hsame, zbS, if_pos rfl, c1, zbS, show IntKind.i64.wrap (k + m) = k + m by rw [wrap64 (by omega) (by omega)], d1, zbS, hlast]
 rfl
end Ev
end Go.Proofs.Ythkgcllekhnecaa
end
namespace Go.Proofs.Ythkgcllekhnecaa
open Go Go.ChangeShapes Go.WideShapes Go.ChangeAt Go.RowKit Go.Joins Ev
set_option maxRecDepth 100000
theorem Try.own : ownKnob Try.prog.godebug = none := by kernel_rfl
theorem Try.laidOut : laidOutB Try.prog = true := by kernel_rfl
namespace Ev
namespace K
theorem op5 : Op Try.prog 5 (.I .u8) := iV (by kernel_rfl)
theorem op3 : Op Try.prog 3 (.I .i64) := iV (by kernel_rfl)
theorem op2 : Op Try.prog 2 (.I .i64) := iV (by kernel_rfl)
theorem EY : Op Try.prog 30 (.C (.I .i64) (.I .i64)) := kn (fs := eS Try.prog 29) (by kernel_rfl) (by kernel_rfl) (iW op3 (kT op2))
theorem GM : Op Try.prog 23 (.S (.C (.I .i64) (.I .i64))) := pV (by kernel_rfl) (by kernel_rfl) EY
theorem WA : Op Try.prog 53 (.C (.I .u8) (.I .u8)) := DD (n := 2) (t' := 5) (by kernel_rfl) (iW op5 (kT op5))
end K
end Ev
theorem xU (tds : List TD) (h : gm Try.prog [5, 23, 53] tds) : ∃ m n kind, (bY K.E1 m n).1 7 tds = some (kind, [.one (.v (.bool true))]) := by
 obtain ⟨x0, q0, rfl, w0, h0⟩ := K.gU (d := .int .u8) (by kernel_rfl) rfl K.op5 h
 obtain ⟨x1, q1, rfl, w1, h1⟩ := K.gU (d := .slice 30) (by kernel_rfl) rfl K.GM h0
 obtain ⟨x2, q2, rfl, w2, h2⟩ := K.pW (d := .array 2 5) (by kernel_rfl) rfl K.WA h1
 obtain rfl := qw h2
 exact K.uq (en := K.iU) K.nb (a := (x0, x1, x2)) rfl rfl (lJ x0 x1 x2 w0 w1 w2)
theorem qR (os : Os) (started : os.Started) (H : Type) (enc : TypeId × Value → H) :
  ReturnsInHanded {} Try.checked os 7 .any (Rows.spvecPartsSpec.pre6 enc Try.prog Try.f7 Rows.spvecPartsRow.domain false) (Rows.spvecPartsSpec.post enc Try.prog Try.f7 false true false false) := by
 refine returnsInHanded_of_change (C := Try.checked) Try.own started (by kernel_rfl) Try.func7
  (ChangeSpec.witness6 (enc := enc) (C := Try.checked) false ⟨#[], #[.int .u8 0, .slice none 0 0, .agg #[.int .u8 0, .int .u8 0]], []⟩ 8 (by kernel_rfl) (by kernel_rfl) (by kernel_rfl) (by kernel_rfl)) ?_
 intro W0 base args ds gs before hval0 hW _ _
 have hval : ∀ (j : Nat) t v, Try.f7.params[j]? = some t → args[j]? = some v → Value.okWide Try.prog W0 .any base t v := hval0
 have hW' := hW
 obtain ⟨p, q, hA0, hV, rfl, _, _⟩ := hW
 have hA : DataW.TrodAll enc Try.prog W0 0 (fun _ => true) true Try.f7.params.toList args.toList ds p := hA0
 rw [Try.params7] at hA hval
 refine (qj (E := K.E1) K.aO trivial (d := 8) (k := 7) (base := base) (ts := [5, 23, 53]) (vs := args.toList) (fun t ht => ?_) hA (fun j t v h1 h2 => hval j t v (by simpa using h1) (by simpa using h2)) xU).mono fun e W1 ⟨he, hb⟩ => ?_
 ·simp only [List.mem_cons, List.not_mem_nil, or_false] at ht
  rcases ht with rfl | rfl | rfl <;> kernel_rfl
 subst he
 exact ⟨_, rfl, pf Try.laidOut (by rw [Try.params7]; intro t ht; simp only [List.mem_cons, List.not_mem_nil, or_false] at ht; rcases ht with rfl | rfl | rfl <;> exact ⟨by kernel_rfl, of_decide_eq_true (by kernel_rfl)⟩) rfl (by kernel_rfl) Try.underlying4
  (fun ds hl => by rw [Try.params7] at hl; match ds, hl with | [_d0, _d1, _d2], _ => rfl) hW' hb⟩
theorem spvecParts_holds : Rows.SpvecPartsSaid :=
 OpenClaim.holds_of_wide 7 Try.f7 rfl rfl rfl rfl rfl rfl rfl ⟨rfl, rfl, rfl, rfl, rfl⟩ rfl rfl rfl rfl rfl (by kernel_rfl) Try.func7 (by kernel_rfl)
  (of_decide_eq_true (by kernel_rfl)) (by unfold Func.isWrapper; first | (rw [if_pos (by decide +kernel)]; kernel_rfl) | (rw [if_neg (by decide +kernel)]; exact ⟨rfl, rfl⟩))
  (fun os started H enc _ => qR os started H enc)
end Go.Proofs.Ythkgcllekhnecaa
