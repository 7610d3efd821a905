/- A law out of the evaluator. -/
import Derived.Test.YtoamaaicfjkmhaaGreatZT15
import Derived.OpenShut
import Derived.WideShapes
import Derived.ChangeShapes
import Derived.Test.YtoamaaicfjkmhaaGreatZT0
import Derived.Test.YtoamaaicfjkmhaaGreatChecked
import Derived.Test.YtoamaaicfjkmhaaGreatRows
import Derived.Test.YtoamaaicfjkmhaaGreatZT14
set_option linter.unusedVariables false
set_option linter.unusedSimpArgs false
section
namespace Go.Proofs.YtoamaaicfjkmhaaGreat
namespace Ev
open Go Sm
set_option linter.unusedVariables false
set_option linter.unusedSimpArgs false
theorem QL {n : Int} {x y : Sl E3} (hl : x.l.length ≤ 65536) (hx : okS 3 x) (hy : okS 3 y) (h : x.l = y.l) : fS (n, x) (n, y) = some true := by
 rw [xg]
 simp only
 rw [if_pos trivial]
 have e : cB x y = some (decide (x.l = y.l)) := by
  rw [nU]
  exact xR (by omega) hx hy (P := fun u v => u.fst = v.fst ∧ u.snd.fst = v.snd.fst ∧ u.snd.snd = v.snd.snd) (fun u v => by rw [Prod.ext_iff, Prod.ext_iff]) fun a => by unfold il; rfl
 rw [e, decide_eq_true h]
 simp
theorem Lx {g : Gr} (h : (nX g).2 = 0) : dB g = 0 ∧ gm g.2.l = true ∧ nX g = (⟨true, 1, gv g.1 g.2.l⟩, 0) := by
 unfold nX at h ⊢
 split
 ·rename_i c1
  rw [if_pos c1] at h
  split
  ·rename_i c2; exact ⟨c1, c2, rfl⟩
  ·rename_i c2; rw [if_neg c2] at h; exact absurd h (by decide)
 ·rename_i c1; rw [if_neg c1] at h; exact absurd h c1
theorem Ly {l : List E3} : (Sm.Dc.canonS l).l.length ≤ l.length ∨ (Sm.Dc.canonS l).l = [] := by
 unfold Sm.Dc.canonS
 split
 ·exact .inl (Nat.le_refl _)
 ·dsimp only
  split
  ·exact .inl (BO (r := 1) (l := l)).2.1
  ·exact .inr rfl
theorem Ii (l : List E3) : okS 3 (Sm.Dc.canonS l) := by
 unfold Sm.Dc.canonS
 split
 ·exact .inr rfl
 ·dsimp only
  split
  ·exact .inr rfl
  ·exact .inl rfl
theorem kp (x : Gr) (y : Sl Int) (h0 : K.W (.C (.I .i64) (.S (.C (.I .i64) (.C (.I .i64) (.I .i64))))) x) (h1 : K.W (.S (.I .u8)) y) : cK x y = some true := by
 obtain ⟨hs, hn, hw⟩ := Jm h0.2
 obtain ⟨g1, g2, g3⟩ := Ju h1
 have hL : FL8 = some true := rfl
 rw [mD, hL]
 by_cases c1 : (x.2.l.length : Int) > 100
 ·rw [if_pos c1]; rfl
 rw [if_neg c1]
 by_cases c2 : (y.l.length : Int) > 4000
 ·rw [if_pos c2]; rfl
 rw [if_neg c2, xk hs (by omega)]
 simp only [zbS]
 have hy := g3 (by omega)
 have hC : (Jp x).length ≤ x.2.l.length := (BO (r := 1) (l := x.2.l)).2.1
 rw [pu (g := (x.1, mo 3 (Jp x))) (Nj _)]
 simp only [zbS]
 have P2 : ((ci y).bind fun (out : Bool) =>
          if ¬out = true then some (decide (true = true))
          else
           (bh y).bind fun (out : (Int × Sl (Int × Int × Int)) × Int × Int) =>
            (bp out.fst).bind fun (out : Sl Int × Int) =>
              if true = true then
               if out.snd = 0 then
                (bq y out.fst).bind fun (out : Bool) => some (decide (out = true))
               else some false
              else some false) = some true := by
  have main : ∀ d : (Int × Sl E3) × Int × Int, bh y = some d → okS 3 d.1.2 → d.1.2.l.length ≤ 5000 → ((ci y).bind fun (out : Bool) =>
          if ¬out = true then some (decide (true = true))
          else
           (bh y).bind fun (out : (Int × Sl (Int × Int × Int)) × Int × Int) =>
            (bp out.fst).bind fun (out : Sl Int × Int) =>
              if true = true then
               if out.snd = 0 then
                (bq y out.fst).bind fun (out : Bool) => some (decide (out = true))
               else some false
              else some false) = some true := by
   intro d hd hd3 hd5
   rw [jY, hd]
   simp only [zbS]
   by_cases e1 : d.2.1 = 0
   ·rw [if_neg (by simp [e1]), pu hd3]
    simp only [zbS]
    by_cases e2 : (nX d.1).2 = 0
    ·rw [if_pos e2]
     obtain ⟨w1, w2, w3⟩ := Lx e2
     rw [w3]
     simp only [if_true]
     have hke := jm d.1.1 d.1.2.l
     have hsz := lr (wtO d.1.2.l)
     have hle : szE (wtO d.1.2.l) * d.1.2.l.length ≤ 12 * d.1.2.l.length := Nat.mul_le_mul_right _ hsz.2
     rw [xU (DO (uT _ _) (by omega)) hy]
     simp only [zbS]
     by_cases e3 : gv d.1.1 d.1.2.l = y.l
     ·rw [if_neg (by simp [e3]), rE g1 (.inr rfl) (by omega)]
      simp only [zbS]
      rw [show decide (y.l = gv d.1.1 d.1.2.l) = true from decide_eq_true e3.symm]
      rfl
     ·rw [if_pos (by simp [e3])]
      simp
    ·rw [if_neg e2]
     simp
   ·rw [if_pos e1]
    simp
  cases hd : cY (Sm.Be.gf y) y.l.length with
  | error er => exact main _ (JA hy hd) (.inl rfl) (Nat.zero_le _)
  | ok d =>
   obtain ⟨n, l⟩ := d
   have hb := DS hd
   exact main _ (Fv hy hd) (Ii l) ((Ly (l := l)).elim (fun h => by show (Sm.Dc.canonS l).l.length ≤ 5000; omega) (fun h => by show (Sm.Dc.canonS l).l.length ≤ 5000; rw [h]; simp))
 simp only [if_true] at P2 ⊢
 by_cases hw0 : (nX (x.1, mo 3 (Jp x))).2 = 0
 ·obtain ⟨w1, w2, w3⟩ := Lx hw0
  rw [w3]
  simp only [if_true]
  have hlen : (mo 3 (Jp x)).l.length ≤ 5000 := by rw [RN]; omega
  rw [BX w1 w2 hlen]
  simp only [zbS]
  rw [if_neg (by simp), QL (by rw [RN]; omega) (Nj _) (Jw _) rfl]
  simp only [zbS]
  rw [if_neg (by simp), Hi w1 w2 hlen]
  simp only [zbS]
  rw [if_neg (by simp)]
  simp only [zbS, Sum.elim_inl, Sum.elim_inr]
  exact P2
 ·rw [if_neg hw0]
  simp only [zbS, Sum.elim_inl, Sum.elim_inr]
  exact P2
end Ev
end Go.Proofs.YtoamaaicfjkmhaaGreat
end
namespace Go.Proofs.YtoamaaicfjkmhaaGreat
open Go Go.ChangeShapes Go.WideShapes Go.ChangeAt Go.RowKit Go.Joins Ev
set_option maxRecDepth 100000
theorem Tryz.own : ownKnob Tryz.prog.godebug = none := by kernel_rfl
theorem Tryz.laidOut : laidOutB Tryz.prog = true := by kernel_rfl
namespace Ev
namespace K
theorem op3 : Op Tryz.prog 3 (.I .i64) := uG (by kernel_rfl)
theorem op2 : Op Tryz.prog 2 (.I .i64) := uG (by kernel_rfl)
theorem QM : Op Tryz.prog 52 (.C (.I .i64) (.C (.I .i64) (.I .i64))) := lT (fs := bS Tryz.prog 51) (by kernel_rfl) (by kernel_rfl) (ji op3 (ji op3 (sV op2)))
theorem QN : Op Tryz.prog 22 (.S (.C (.I .i64) (.C (.I .i64) (.I .i64)))) := uH (by kernel_rfl) (by kernel_rfl) QM
theorem QO : Op Tryz.prog 24 (.C (.I .i64) (.S (.C (.I .i64) (.C (.I .i64) (.I .i64))))) := lT (fs := bS Tryz.prog 23) (by kernel_rfl) (by kernel_rfl) (ji op3 (sV QN))
theorem op5 : Op Tryz.prog 5 (.I .u8) := uG (by kernel_rfl)
theorem WO : Op Tryz.prog 26 (.S (.I .u8)) := uH (by kernel_rfl) (by kernel_rfl) op5
end K
end Ev
theorem wx (tds : List TD) (h : gK Tryz.prog [24, 26] tds) : ∃ m n kind, (cg K.E1 m n).1 6 tds = some (kind, [.one (.v (.bool true))]) := by
 obtain ⟨x0, q0, rfl, w0, h0⟩ := K.BF (d := .struct (bS Tryz.prog 23)) (by kernel_rfl) rfl K.QO h
 obtain ⟨x1, q1, rfl, w1, h1⟩ := K.Jf (d := .slice 5) (by kernel_rfl) rfl K.WO h0
 obtain rfl := Cz h1
 exact K.Fr (en := K.ij) K.mB (a := (x0, x1)) rfl rfl (kp x0 x1 w0 w1)
theorem qh (os : Os) (started : os.Started) (H : Type) (enc : TypeId × Value → H) :
  ReturnsInHanded {} Tryz.checked os 6 .any (Rows.loaderBackSpec.pre6 enc Tryz.prog Tryz.f6 Rows.loaderBackRow.domain false) (Rows.loaderBackSpec.post enc Tryz.prog Tryz.f6 false true false false) := by
 refine returnsInHanded_of_change (C := Tryz.checked) Tryz.own started (by kernel_rfl) Tryz.func6
  (ChangeSpec.witness6 (enc := enc) (C := Tryz.checked) false ⟨#[], #[.agg #[.int .i64 0, .slice none 0 0], .slice none 0 0], []⟩ 8 (by kernel_rfl) (by kernel_rfl) (by kernel_rfl) (by kernel_rfl)) ?_
 intro W0 base args ds gs before hval0 hW _ _
 have hval : ∀ (j : Nat) t v, Tryz.f6.params[j]? = some t → args[j]? = some v → Value.okWide Tryz.prog W0 .any base t v := hval0
 have hW' := hW
 obtain ⟨p, q, hA0, hV, rfl, _, _⟩ := hW
 have hA : DataW.TrodAll enc Tryz.prog W0 0 (fun _ => true) true Tryz.f6.params.toList args.toList ds p := hA0
 rw [Tryz.params6] at hA hval
 refine (Cl (E := K.E1) K.bJ trivial (d := 8) (k := 6) (base := base) (ts := [24, 26]) (vs := args.toList) (fun t ht => ?_) hA (fun j t v h1 h2 => hval j t v (by simpa using h1) (by simpa using h2)) wx).mono fun e W1 ⟨he, hb⟩ => ?_
 ·simp only [List.mem_cons, List.not_mem_nil, or_false] at ht
  rcases ht with rfl | rfl <;> kernel_rfl
 subst he
 exact ⟨_, rfl, AE Tryz.laidOut (by rw [Tryz.params6]; intro t ht; simp only [List.mem_cons, List.not_mem_nil, or_false] at ht; rcases ht with rfl | rfl <;> exact ⟨by kernel_rfl, of_decide_eq_true (by kernel_rfl)⟩) rfl (by kernel_rfl) Tryz.underlying4
  (fun ds hl => by rw [Tryz.params6] at hl; match ds, hl with | [_d0, _d1], _ => rfl) hW' hb⟩
theorem loaderBack_holds : Rows.LoaderBackSaid :=
 OpenClaim.holds_of_wide 6 Tryz.f6 rfl rfl rfl rfl rfl rfl rfl ⟨rfl, rfl, rfl, rfl, rfl⟩ rfl rfl rfl rfl rfl (by kernel_rfl) Tryz.func6 (by kernel_rfl)
  (of_decide_eq_true (by kernel_rfl)) (by unfold Func.isWrapper; first | (rw [if_pos (by decide +kernel)]; kernel_rfl) | (rw [if_neg (by decide +kernel)]; exact ⟨rfl, rfl⟩))
  (fun os started H enc _ => qh os started H enc)
end Go.Proofs.YtoamaaicfjkmhaaGreat
