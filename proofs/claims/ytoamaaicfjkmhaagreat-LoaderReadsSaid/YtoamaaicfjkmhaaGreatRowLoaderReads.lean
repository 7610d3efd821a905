/- A law out of the evaluator. -/
import Derived.Test.YtoamaaicfjkmhaaGreatZR16
import Derived.OpenShut
import Derived.WideShapes
import Derived.ChangeShapes
import Derived.Test.YtoamaaicfjkmhaaGreatZR0
import Derived.Test.YtoamaaicfjkmhaaGreatChecked
import Derived.Test.YtoamaaicfjkmhaaGreatRows
import Derived.Test.YtoamaaicfjkmhaaGreatZR15
set_option linter.unusedVariables false
set_option linter.unusedSimpArgs false
section
namespace Go.Proofs.YtoamaaicfjkmhaaGreat
namespace Ev
open Go Sm
set_option linter.unusedVariables false
set_option linter.unusedSimpArgs false
theorem Ji {f : Nat → Int} {m p : Nat} {n wt : Int} (hb : Byt f m) {e : E3} {q : Nat} (h : cF f m p n wt = .ok (e, q)) : (0 ≤ e.1 ∧ e.1 < n) ∧ (0 ≤ e.2.1 ∧ e.2.1 < n) ∧ 0 ≤ e.2.2 ∧ e.2.2 ≤ 2147483647 := by
 unfold cF at h
 split at h
 ·cases h
 ·rename_i h1
  split at h
  ·cases h
  ·rename_i h2
   obtain ⟨_, _, _, a1, b1⟩ := mc hb h1
   obtain ⟨_, _, _, a2, b2⟩ := mc hb h2
   split at h
   ·split at h
    ·cases h
    ·rename_i h3
     obtain ⟨_, _, _, a3, b3⟩ := mc hb h3
     cases h
     exact ⟨⟨a1, Int.lt_of_le_sub_one b1⟩, ⟨a2, Int.lt_of_le_sub_one b2⟩, a3, b3⟩
   ·cases h
    exact ⟨⟨a1, Int.lt_of_le_sub_one b1⟩, ⟨a2, Int.lt_of_le_sub_one b2⟩, show (0 : Int) ≤ 1 by decide, show (1 : Int) ≤ 2147483647 by decide⟩
theorem xv {f : Nat → Int} {m : Nat} {n wt : Int} (hb : Byt f m) : ∀ (k p : Nat) {l : List E3} {q : Nat}, aM f m n wt k p = .ok (l, q) → InE n l ∧ l.length = k
 | 0, p, l, q, h => by simp only [aM] at h; cases h; exact ⟨fun e he => by simp at he, rfl⟩
 | k + 1, p, l, q, h => by
  simp only [aM] at h
  split at h
  ·cases h
  ·rename_i h1
   split at h
   ·cases h
   ·rename_i h2
    cases h
    obtain ⟨c1, c2⟩ := xv hb k _ h2
    refine ⟨fun e he => ?_, by simp [c2]⟩
    rcases List.mem_cons.1 he with rfl | he
    ·exact Ji hb h1
    ·exact c1 e he
theorem Jj {f : Nat → Int} {m p : Nat} {n wt : Int} {er : Int × Int} (h : cF f m p n wt = .error er) : er.1 ≠ 0 ∧ 0 ≤ er.2 ∧ er.2 ≤ m := by
 unfold cF at h
 split at h
 ·rename_i h1; cases h; exact me (by decide) h1
 ·split at h
  ·rename_i h2; cases h; exact me (by decide) h2
  ·split at h
   ·split at h
    ·rename_i h3; cases h; exact me (by decide) h3
    ·cases h
   ·cases h
theorem xw {f : Nat → Int} {m : Nat} {n wt : Int} : ∀ (k p : Nat) {er : Int × Int}, aM f m n wt k p = .error er → er.1 ≠ 0 ∧ 0 ≤ er.2 ∧ er.2 ≤ m
 | 0, p, er, h => by simp only [aM] at h; cases h
 | k + 1, p, er, h => by
  simp only [aM] at h
  split at h
  ·rename_i h1; cases h; exact Jj h1
  ·split at h
   ·rename_i h2; cases h; exact xw k _ h2
   ·cases h
theorem Ab {f : Nat → Int} {m : Nat} {n wt : Int} : ∀ (k p : Nat) {l : List E3} {q : Nat}, p ≤ m → aM f m n wt k p = .ok (l, q) → q ≤ m
 | 0, p, l, q, hp, h => by simp only [aM] at h; cases h; exact hp
 | k + 1, p, l, q, hp, h => by
  simp only [aM] at h
  split at h
  ·cases h
  ·rename_i h1
   split at h
   ·cases h
   ·rename_i h2
    cases h
    exact Ab k _ (CA h1) h2
theorem Hq {m : Nat} : (2 : Int) ≠ 0 ∧ 0 ≤ (m : Int) ∧ (m : Int) ≤ m := ⟨by decide, by omega, Int.le_refl _⟩
theorem Ga {f : Nat → Int} {m : Nat} {er : Int × Int} (h : dA f m = .error er) : er.1 ≠ 0 ∧ 0 ≤ er.2 ∧ er.2 ≤ m := by
 unfold dA at h
 split at h
 ·rename_i h4
  split at h
  ·split at h
   ·split at h
    ·cases h
     exact ⟨show (8 : Int) ≠ 0 by decide, show (0 : Int) ≤ 4 by decide, by show (4 : Int) ≤ (m : Int); omega⟩
    ·split at h
     ·rename_i h1; cases h; exact me (by decide) h1
     ·split at h
      ·rename_i h1; cases h; exact me (by decide) h1
      ·split at h
       ·rename_i h1; cases h; exact xw _ _ h1
       ·cases h
   ·cases h; exact Hq
  ·cases h
   exact ⟨show (1 : Int) ≠ 0 by decide, show (0 : Int) ≤ 0 by decide, by show (0 : Int) ≤ (m : Int); omega⟩
 ·cases h; exact Hq
theorem Ac {f : Nat → Int} {m : Nat} {n : Int} {l : List E3} {q : Nat} (hb : Byt f m) (h : dA f m = .ok ((n, l), q)) : (0 ≤ n ∧ n ≤ 4096) ∧ l.length ≤ 65536 ∧ InE n l ∧ q ≤ m := by
 unfold dA at h
 split at h
 ·split at h
  ·split at h
   ·split at h
    ·cases h
    ·split at h
     ·cases h
     ·rename_i h1
      split at h
      ·cases h
      ·rename_i h2
       split at h
       ·cases h
       ·rename_i h3
        cases h
        obtain ⟨_, _, _, a1, b1⟩ := mc hb h1
        obtain ⟨_, _, c3, a2, b2⟩ := mc hb h2
        obtain ⟨d1, d2⟩ := xv hb _ _ h3
        have d3 := Ab _ _ c3 h3
        exact ⟨⟨a1, b1⟩, by omega, d1, d3⟩
   ·cases h
  ·cases h
 ·cases h
theorem Ec {f : Nat → Int} {m : Nat} {er : Int × Int} (hb : Byt f m) (h : bA f m = .error er) : er.1 ≠ 0 ∧ 0 ≤ er.2 ∧ er.2 ≤ m := by
 unfold bA at h
 split at h
 ·rename_i h1; cases h; exact Ga h1
 ·rename_i y q h1
  split at h
  ·cases h
  ·cases h
   obtain ⟨n, l⟩ := y
   have := (Ac hb h1).2.2.2
   exact ⟨show (4 : Int) ≠ 0 by decide, by show (0 : Int) ≤ (q : Int); omega, by show (q : Int) ≤ (m : Int); omega⟩
theorem Gb {f : Nat → Int} {m : Nat} {n : Int} {l : List E3} (hb : Byt f m) (h : bA f m = .ok (n, l)) : (0 ≤ n ∧ n ≤ 4096) ∧ l.length ≤ 65536 ∧ InE n l := by
 unfold bA at h
 split at h
 ·cases h
 ·rename_i y q h1
  split at h
  ·cases h
   have := Ac hb h1
   exact ⟨this.1, this.2.1, this.2.2.1⟩
  ·cases h
theorem InE.w {n : Int} {l : List E3} (hn : n ≤ 4096) (h : InE n l) : w64 l := fun e he => by
 have := h e he
 unfold lC
 omega
theorem Om {l : List E3} (hw : w64 l) : (Sm.Dc.canonS l).l = (cI (RG 1) l).1 := by
 unfold Sm.Dc.canonS
 split
 ·rename_i hr
  rw [EM (risL_iff.1 hr) fun e he => (hw e he).2.2]
  rfl
 ·dsimp only
  split
  ·rfl
  ·rename_i h0
   have := Sm.Eg.sum_e h0
   show [] = (cI (Sm.Eg.RG 1) l).1
   rw [this]
theorem Su {n : Int} {s t : Sl E3} (h : s.l = t.l) : rT (n, s) = rT (n, t) := by
 unfold rT
 rw [KM h]
 simp only [h]
theorem kv (x : Sl Int) (h0 : K.W (.S (.I .u8)) x) : cP x = some true := by
 obtain ⟨g1, g2, g3⟩ := Ku h0
 have hL : FL8 = some true := rfl
 rw [lZ, hL]
 by_cases c1 : (x.l.length : Int) > 4000
 ·rw [if_pos c1]; rfl
 rw [if_neg c1]
 have hx := g3 (by omega)
 have hb := Rk g2
 cases hd : bA (Sm.Be.gf x) x.l.length with
 | error er =>
  obtain ⟨e1, e2, e3⟩ := Ec hb hd
  have d1 := KL hx hd
  have d2 : dB x = some ((0, ⟨false, 0, []⟩), er) := by
   show Sm.Rd.fn x = _
   unfold Sm.Rd.fn
   rw [if_pos hx, hd]
  rw [kJ, lY, d1, d2]
  simp only [zbS]
  rw [if_neg (by simp), KO (by simp) (.inl rfl) (.inl rfl) rfl]
  simp only [zbS]
  rw [if_neg (by simp), if_neg (by simp), if_pos e1, if_pos e1]
  simp only [zbS]
  rw [if_neg (by simp), if_pos e1, if_pos e2, if_pos e3, if_pos trivial]
  rfl
 | ok d =>
  obtain ⟨n, l⟩ := d
  obtain ⟨⟨n0, n1⟩, hl, hin⟩ := Gb hb hd
  have h8 := EQ hd
  have hw := InE.w n1 hin
  have hcl := Om hw
  have d1 := Nn hx hd
  have d2 : dB x = some ((n, mo 3 (cI (RG 1) l).1), (0, 0)) := by
   show Sm.Rd.fn x = _
   unfold Sm.Rd.fn
   rw [if_pos hx, hd]
   show ((dr (n, Sm.Dc.liS l)).bind fun g => if g.1 = n then some (g, ((0 : Int), (0 : Int))) else none) = _
   rw [yi (g := (n, Sm.Dc.liS l)) (Rn l) hl]
   simp only [zbS]
   rw [if_pos trivial]
   rfl
  have hlen : (Sm.Dc.canonS l).l.length ≤ 5000 := (KP (l := l)).elim (fun h => by omega) (fun h => by rw [h]; simp)
  have hee : (Sm.Dc.canonS l).l = (mo 3 (cI (RG 1) l).1).l := by rw [Yd, hcl]
  have hen : rT (n, mo 3 (cI (RG 1) l).1) = rT (n, Sm.Dc.canonS l) := Su hee.symm
  -- what Canon tells, both
  have hC : ∃ b, eJ x = some b ∧ fy x = some b := by
   rw [kJ, lY, d1, d2]
   simp only [zbS]
   rw [if_neg (by simp), if_neg (by simp), KH (g := (n, Sm.Dc.canonS l)) (mP l), CW (g := (n, mo 3 (cI (RG 1) l).1)) (Ov _), hen]
   simp only [zbS]
   by_cases e2 : (rT (n, Sm.Dc.canonS l)).2 = 0
   ·obtain ⟨w1, w2, w3⟩ := Ro e2
    have hke := Kz n (Sm.Dc.canonS l).l
    have hsz := EP (wtO (Sm.Dc.canonS l).l)
    have hle : szE (wtO (Sm.Dc.canonS l).l) * (Sm.Dc.canonS l).l.length ≤ 12 * (Sm.Dc.canonS l).l.length := Nat.mul_le_mul_right _ hsz.2
    rw [if_pos e2, if_pos e2, w3]
    simp only
    rw [It (Rm (KJ _ _) (by omega)) hx, CV g1 (.inr rfl) (by omega)]
    simp only [zbS]
    refine ⟨decide (tZ n (Sm.Dc.canonS l).l = x.l), by simp, ?_⟩
    have : decide (x.l = tZ n (Sm.Dc.canonS l).l) = decide (tZ n (Sm.Dc.canonS l).l = x.l) := by
     by_cases h : x.l = tZ n (Sm.Dc.canonS l).l
     ·rw [decide_eq_true h, decide_eq_true h.symm]
     ·rw [decide_eq_false h, decide_eq_false fun h2 => h h2.symm]
    rw [this]
    simp
   ·rw [if_neg e2, if_neg e2]
    exact ⟨false, rfl, rfl⟩
  obtain ⟨b, b1, b2⟩ := hC
  have hr : fq (n, Sm.Dc.canonS l) = 0 := by
   refine wrongG_iff.2 ⟨⟨n0, n1⟩, by show (Sm.Dc.canonS l).l.length ≤ 65536; omega, List.all_eq_true.2 fun e he => ?_, List.all_eq_true.2 fun e he => ?_⟩
   ·have he : e ∈ (Sm.Dc.canonS l).l := he
    rw [hcl] at he
    have := hin e (CQ hw he)
    exact decide_eq_true ⟨this.1.1, this.1.2, this.2.1.1, this.2.1.2⟩
   ·have he : e ∈ (Sm.Dc.canonS l).l := he
    rw [hcl] at he
    have := hin e (CQ hw he)
    exact decide_eq_true this.2.2
  have hri : gD (Sm.Dc.canonS l).l = true := by rw [hcl]; exact risL_iff.2 (CP (r := 1) (l := l)).1
  rw [d1, d2, b1, b2]
  simp only [zbS]
  rw [if_neg (by simp), KO (by omega) (mP l) (Ov _) hee]
  simp only [zbS]
  rw [if_neg (by simp), if_neg (by simp), if_neg (by simp), if_neg (by simp), nO (g := (n, Sm.Dc.canonS l)) (mP l), hr]
  simp only [zbS]
  rw [if_pos trivial, Gz (mP l) (by omega), hri]
  rfl
end Ev
end Go.Proofs.YtoamaaicfjkmhaaGreat
end
namespace Go.Proofs.YtoamaaicfjkmhaaGreat
open Go Go.ChangeShapes Go.WideShapes Go.ChangeAt Go.RowKit Go.Joins Ev
set_option maxRecDepth 100000
theorem Tryz.own : ownKnob Tryz.prog.godebug = none := by kernel_rfl
theorem Tryz.laidOut : laidOutB Tryz.prog = true := by kernel_rfl
namespace Ev
namespace K
theorem op5 : Op Tryz.prog 5 (.I .u8) := Re (by kernel_rfl)
theorem Yj : Op Tryz.prog 26 (.S (.I .u8)) := Kh (by kernel_rfl) (by kernel_rfl) op5
end K
end Ev
theorem ue (tds : List TD) (h : mh Tryz.prog [26] tds) : ∃ m n kind, (cD K.E1 m n).1 4 tds = some (kind, [.one (.v (.bool true))]) := by
 obtain ⟨x0, q0, rfl, w0, h0⟩ := K.Ki (d := .slice 5) (by kernel_rfl) rfl K.Yj h
 obtain rfl := LT h0
 exact K.Nj (en := K.gY) K.lX (a := (x0)) rfl rfl (kv x0 w0)
theorem pz (os : Os) (started : os.Started) (H : Type) (enc : TypeId × Value → H) :
  ReturnsInHanded {} Tryz.checked os 4 .any (Rows.loaderReadsSpec.pre6 enc Tryz.prog Tryz.f4 Rows.loaderReadsRow.domain false) (Rows.loaderReadsSpec.post enc Tryz.prog Tryz.f4 false true false false) := by
 refine returnsInHanded_of_change (C := Tryz.checked) Tryz.own started (by kernel_rfl) Tryz.func4
  (ChangeSpec.witness6 (enc := enc) (C := Tryz.checked) false ⟨#[], #[.slice none 0 0], []⟩ 8 (by kernel_rfl) (by kernel_rfl) (by kernel_rfl) (by kernel_rfl)) ?_
 intro W0 base args ds gs before hval0 hW _ _
 have hval : ∀ (j : Nat) t v, Tryz.f4.params[j]? = some t → args[j]? = some v → Value.okWide Tryz.prog W0 .any base t v := hval0
 have hW' := hW
 obtain ⟨p, q, hA0, hV, rfl, _, _⟩ := hW
 have hA : DataW.TrodAll enc Tryz.prog W0 0 (fun _ => true) true Tryz.f4.params.toList args.toList ds p := hA0
 rw [Tryz.params4] at hA hval
 refine (Lf (E := K.E1) K.dj trivial (d := 8) (k := 4) (base := base) (ts := [26]) (vs := args.toList) (fun t ht => ?_) hA (fun j t v h1 h2 => hval j t v (by simpa using h1) (by simpa using h2)) ue).mono fun e W1 ⟨he, hb⟩ => ?_
 ·simp only [List.mem_cons, List.not_mem_nil, or_false] at ht
  rcases ht with rfl <;> kernel_rfl
 subst he
 exact ⟨_, rfl, Jk Tryz.laidOut (by rw [Tryz.params4]; intro t ht; simp only [List.mem_cons, List.not_mem_nil, or_false] at ht; rcases ht with rfl <;> exact ⟨by kernel_rfl, of_decide_eq_true (by kernel_rfl)⟩) rfl (by kernel_rfl) Tryz.underlying4
  (fun ds hl => by rw [Tryz.params4] at hl; match ds, hl with | [_d0], _ => rfl) hW' hb⟩
theorem loaderReads_holds : Rows.LoaderReadsSaid :=
 OpenClaim.holds_of_wide 4 Tryz.f4 rfl rfl rfl rfl rfl rfl rfl ⟨rfl, rfl, rfl, rfl, rfl⟩ rfl rfl rfl rfl rfl (by kernel_rfl) Tryz.func4 (by kernel_rfl)
  (of_decide_eq_true (by kernel_rfl)) (by unfold Func.isWrapper; first | (rw [if_pos (by decide +kernel)]; kernel_rfl) | (rw [if_neg (by decide +kernel)]; exact ⟨rfl, rfl⟩))
  (fun os started H enc _ => pz os started H enc)
end Go.Proofs.YtoamaaicfjkmhaaGreat
