/- A law out of the evaluator. -/
import Derived.Test.YtoamaaicfjkmhaaGreatZCU16
import Derived.OpenShut
import Derived.WideShapes
import Derived.ChangeShapes
import Derived.JoinedCond
import Derived.Test.YtoamaaicfjkmhaaGreatZCU0
import Derived.Test.YtoamaaicfjkmhaaGreatChecked
import Derived.Test.YtoamaaicfjkmhaaGreatRows
import Derived.Test.YtoamaaicfjkmhaaGreatZCU15
set_option linter.unusedVariables false
set_option linter.unusedSimpArgs false
section
namespace Go.Proofs.YtoamaaicfjkmhaaGreat
namespace Ev
open Go Sm
set_option linter.unusedVariables false
set_option linter.unusedSimpArgs false
theorem PQ {g : Gr} (h : (Gc g).2 = 0) : gS g = 0 ∧ Gc g = (⟨true, 1, eS g.1 g.2.l⟩, 0) := by
 unfold Gc at h ⊢
 split
 ·rename_i c1
  rw [if_pos c1] at h
  split
  ·rename_i c2; exact ⟨c1, rfl⟩
  ·rename_i c2; rw [if_neg c2] at h; exact absurd h (by decide)
 ·rename_i c1; rw [if_neg c1] at h; exact absurd h c1
theorem Ma {α : Type} {w : Nat} {l : List α} (h : l ≠ []) : mo w l = ⟨true, w, l⟩ := by
 cases l with
 | nil => exact absurd rfl h
 | cons a r => rfl
theorem Mb {a b : List Int} (ha : ∀ e ∈ a, 0 ≤ e ∧ e ≤ 255) (hb : ∀ e ∈ b, 0 ≤ e ∧ e ≤ 255) : ∀ e ∈ a ++ b, 0 ≤ e ∧ e ≤ 255 := fun e he => (List.mem_append.1 he).elim (ha e) (hb e)
theorem Mc {n : Int} {s : Sl E3} (hw : gS (n, s) = 0) (hl : s.l.length ≤ 5000) {k : Nat} (hk : k < (eS n s.l).length) : bY ⟨true, 1, (eS n s.l).take k⟩ = some ((0, ⟨false, 0, []⟩), 2, (k : Int)) := by
 have hsz := qo (wtO s.l)
 have hle : szE (wtO s.l) * s.l.length ≤ 12 * s.l.length := Nat.mul_le_mul_right _ hsz.2
 have hlen := tQ n s.l
 have hkl : ((eS n s.l).take k).length = k := by rw [List.length_take]; omega
 refine AK (Iw (fun e he => AJ n s.l e (List.mem_of_mem_take he)) (by omega)) ?_
 have h := tR (f := Sm.Be.gf ⟨true, 1, (eS n s.l).take k⟩) (m := k) (post := []) (by
  intro i hi
  show ((eS n s.l).take k).getD i 0 = _
  rw [List.append_nil]
  simp only [List.getD_eq_getElem?_getD, List.getElem?_take, if_pos hi]) hw
 rw [if_neg (by omega)] at h
 show cg _ ((eS n s.l).take k).length = _
 rw [hkl]
 exact h
theorem Km {n : Int} {s : Sl E3} (hw : gS (n, s) = 0) (hl : s.l.length ≤ 5000) {z : List Int} (hz : ∀ e ∈ z, 0 ≤ e ∧ e ≤ 255) (hz1 : z.length ≤ 100) : ∃ d, bY ⟨true, 1, eS n s.l ++ z⟩ = some d ∧ (z.length = 0 ∨ d.2 = (4, ((eS n s.l).length : Int))) := by
 have hsz := qo (wtO s.l)
 have hle : szE (wtO s.l) * s.l.length ≤ 12 * s.l.length := Nat.mul_le_mul_right _ hsz.2
 have hlen := tQ n s.l
 have hll : (eS n s.l ++ z).length = (eS n s.l).length + z.length := List.length_append
 have hy := Iw (Mb (AJ n s.l) hz) (by rw [hll]; omega)
 have h := tR (f := Sm.Be.gf ⟨true, 1, eS n s.l ++ z⟩) (m := (eS n s.l ++ z).length) (post := z) (fun i _ => rfl) hw
 rw [← hlen, if_pos (by omega)] at h
 by_cases c : z.length = 0
 ·rw [if_pos (by omega)] at h
  exact ⟨_, KX hy h, .inl c⟩
 ·rw [if_neg (by omega)] at h
  exact ⟨_, AK hy h, .inr rfl⟩
theorem jO (x : Gr) (y : Int) (z : Sl Int) (h0 : K.W (.C (.I .i64) (.S (.C (.I .i64) (.C (.I .i64) (.I .i64))))) x) (h1 : K.W (.I .u16) y) (h2 : K.W (.S (.I .u8)) z) (hk : x.2.l.length ≤ 1048576) : cY x y z = some true := by
 obtain ⟨hs, hn, hw⟩ := OQ h0.2
 obtain ⟨g1, g2, g3⟩ := Iu h2
 have hy : 0 ≤ y ∧ y ≤ 65535 := by
  have h1 : inK .u16 y := h1
  simpa [inK, Lit.wf, IntKind.min, IntKind.max, IntKind.signed, IntKind.bits] using h1
 have hL : FL8 = some true := rfl
 rw [mg, hL, vW hs hk]
 simp only [zbS]
 rw [AL (g := (x.1, mo 3 (Ga x))) (Qx _)]
 simp only [zbS]
 by_cases c1 : (x.2.l.length : Int) > 100
 ·rw [if_pos c1]; rfl
 rw [if_neg c1]
 by_cases c2 : (z.l.length : Int) > 100
 ·rw [if_pos c2]; rfl
 rw [if_neg c2]
 by_cases c3 : (Gc (x.1, mo 3 (Ga x))).2 = 0
 ·rw [if_neg (by simp [c3])]
  obtain ⟨w1, w3⟩ := PQ c3
  rw [w3]
  dsimp only
  have hC : (Ga x).length ≤ x.2.l.length := (In (r := 1) (l := x.2.l)).2.1
  have hl : (mo 3 (Ga x)).l.length ≤ 5000 := by rw [Vo]; omega
  generalize (mo 3 (Ga x)) = s at w1 w3 hl ⊢
  have hsz := qo (wtO s.l)
  have hle : szE (wtO s.l) * s.l.length ≤ 12 * s.l.length := Nat.mul_le_mul_right _ hsz.2
  have hlen := tQ x.1 s.l
  have hcut := fun k hk => Mc (n := x.1) (s := s) w1 hl (k := k) hk
  have hmore := Km (n := x.1) (s := s) w1 hl (z := z.l) g2 (by omega)
  have hbyt : (eS x.1 s.l) ≠ [] := fun h => by rw [h] at hlen; simp at hlen; omega
  generalize eS x.1 s.l = L at hlen hcut hmore hbyt ⊢
  obtain ⟨Y, rfl⟩ := Int.eq_ofNat_of_zero_le hy.1
  have hm : yX (IntKind.i64.wrap (Y : Int)) (L.length : Int) = some ((Y % L.length : Nat) : Int) := by
   unfold yX
   rw [if_pos (by omega), wrap64 (by omega) (by omega)]
   exact congrArg some (by rw [Int.tmod_eq_emod_of_nonneg (by omega)]; rfl)
  have hmk : Y % L.length < L.length := Nat.mod_lt _ (by omega)
  rw [hm]
  generalize Y % L.length = k at hmk ⊢
  simp only [zbS]
  have hc : Dg 1 (⟨true, 1, L⟩ : Sl Int) 0 (k : Int) = some ⟨true, 1, L.take k⟩ := by
   unfold Dg
   rw [if_pos ⟨by omega, by omega, by show (k : Int) ≤ (L.length : Int); omega, .inl rfl⟩]
   simp
  rw [hc]
  simp only [zbS]
  rw [hcut k hmk]
  simp only [zbS]
  rw [gX (by simp [ct]; omega)]
  simp only [zbS, List.nil_append]
  rw [gX (by simp [ct]; omega)]
  simp only [zbS]
  rw [Ma (by simp [hbyt])]
  obtain ⟨d, d1, d2⟩ := hmore
  rw [d1]
  simp only [zbS]
  rw [if_pos trivial, if_pos ⟨trivial, trivial⟩]
  by_cases c4 : (z.l.length : Int) = 0
  ·rw [if_pos c4]
  ·rw [if_neg c4]
   rcases d2 with d2 | d2
   ·omega
   ·rw [d2]; simp
 ·rw [if_pos c3]; rfl
end Ev
end Go.Proofs.YtoamaaicfjkmhaaGreat
end
namespace Go.Proofs.YtoamaaicfjkmhaaGreat
open Go Go.ChangeShapes Go.WideShapes Go.ChangeAt Go.RowKit Go.Joins Ev
set_option maxRecDepth 100000
theorem Tryz.own : ownKnob Tryz.prog.godebug = none := by kernel_rfl
theorem Tryz.laidOut : laidOutB Tryz.prog = true := by kernel_rfl
namespace Ev
namespace K
theorem op3 : Op Tryz.prog 3 (.I .i64) := yH (by kernel_rfl)
theorem op2 : Op Tryz.prog 2 (.I .i64) := yH (by kernel_rfl)
theorem Vu : Op Tryz.prog 52 (.C (.I .i64) (.C (.I .i64) (.I .i64))) := wN (fs := cq Tryz.prog 51) (by kernel_rfl) (by kernel_rfl) (tJ op3 (tJ op3 (Ek op2)))
theorem Vv : Op Tryz.prog 22 (.S (.C (.I .i64) (.C (.I .i64) (.I .i64)))) := Ay (by kernel_rfl) (by kernel_rfl) Vu
theorem Vw : Op Tryz.prog 24 (.C (.I .i64) (.S (.C (.I .i64) (.C (.I .i64) (.I .i64))))) := wN (fs := cq Tryz.prog 23) (by kernel_rfl) (by kernel_rfl) (tJ op3 (Ek Vv))
theorem Vx : Op Tryz.prog 49 (.I .u16) := yH (by kernel_rfl)
theorem op5 : Op Tryz.prog 5 (.I .u8) := yH (by kernel_rfl)
theorem Vy : Op Tryz.prog 26 (.S (.I .u8)) := Ay (by kernel_rfl) (by kernel_rfl) op5
end K
end Ev
theorem vn {H : Type} {enc : TypeId × Value → H} {w : World} {vs : List Value} {ds : List (DataW H)} {ps : List MemPlace} (hA : DataW.TrodAll enc Tryz.prog w 0 (fun _ => true) true [24, 49, 26] vs ds ps) (hk : Rows.uptoBulkAll ds ≤ 1048576) (tds : List TD) (h : gU Tryz.prog [24, 49, 26] tds) (hr : fH w (fun _ => False) tds vs) : ∃ m n kind, (cE K.E1 m n).1 7 tds = some (kind, [.one (.v (.bool true))]) := by
 obtain ⟨x0, q0, rfl, w0, h0⟩ := K.If (d := .struct (cq Tryz.prog 23)) (by kernel_rfl) rfl K.Vw h
 have hb0 := CF Tryz.underlying24 Tryz.underlying22 rfl (by kernel_rfl) hr hA
 obtain ⟨x1, q1, rfl, w1, h1⟩ := K.Az (d := .int .u16) (by kernel_rfl) rfl K.Vx h0
 obtain ⟨x2, q2, rfl, w2, h2⟩ := K.Az (d := .slice 5) (by kernel_rfl) rfl K.Vy h1
 obtain rfl := Jw h2
 exact K.KQ (en := K.gR) K.mf (a := (x0, x1, x2)) rfl rfl (jO x0 x1 x2 w0 w1 w2 (Nat.le_trans hb0 hk))
theorem pB (os : Os) (started : os.Started) (H : Type) (enc : TypeId × Value → H) (F : Stop.Interp) :
  ReturnsInHanded {} Tryz.checked os 7 .any ((Rows.OpenSpec.upto Rows.loaderCutsSpec).pre6 enc Tryz.prog Tryz.f7 Rows.loaderCutsUptoRow.domain false) (((Rows.OpenSpec.upto Rows.loaderCutsSpec).at F).post enc Tryz.prog Tryz.f7 false true false false) := by
 refine returnsInHanded_of_cond (C := Tryz.checked) (s := Rows.OpenSpec.upto Rows.loaderCutsSpec) (k := Rows.uptoSmall) rfl Tryz.own started (by kernel_rfl) Tryz.func7
  (OpenSpec.witness (enc := enc) (C := Tryz.checked) (s := Rows.OpenSpec.upto Rows.loaderCutsSpec) (k := Rows.uptoSmall) rfl false ⟨#[], #[.agg #[.int .i64 0, .slice none 0 0], .int .u16 0, .slice none 0 0], []⟩ 8 (by kernel_rfl) (by kernel_rfl) (by kernel_rfl)
   (x := ([.agg [.lit (.int .i64 0), .nil], .lit (.int .u16 0), .nil], [], [])) (by kernel_rfl) rfl (by kernel_rfl)) ?_
 intro W0 base args ds gs before hval0 hW _ hk _
 have hval : ∀ (j : Nat) t v, Tryz.f7.params[j]? = some t → args[j]? = some v → Value.okWide Tryz.prog W0 .any base t v := hval0
 have hW' := hW
 obtain ⟨p, q, hA0, hV, rfl, _, _⟩ := hW
 have hA : DataW.TrodAll enc Tryz.prog W0 0 (fun _ => true) true Tryz.f7.params.toList args.toList ds p := hA0
 rw [Tryz.params7] at hA hval
 refine (yI (E := K.E1) K.ga trivial (d := 8) (k := 7) (base := base) (ts := [24, 49, 26]) (vs := args.toList) (fun t ht => ?_) hA (fun j t v h1 h2 => hval j t v (by simpa using h1) (by simpa using h2)) (vn hA (CE hk))).mono fun e W1 ⟨he, hb⟩ => ?_
 ·simp only [List.mem_cons, List.not_mem_nil, or_false] at ht
  rcases ht with rfl | rfl | rfl <;> kernel_rfl
 subst he
 exact ⟨_, rfl, GT Tryz.laidOut (by rw [Tryz.params7]; intro t ht; simp only [List.mem_cons, List.not_mem_nil, or_false] at ht; rcases ht with rfl | rfl | rfl <;> exact ⟨by kernel_rfl, of_decide_eq_true (by kernel_rfl)⟩) rfl (by kernel_rfl) Tryz.underlying4
  (fun ds hl => by rw [Tryz.params7] at hl; match ds, hl with | [_d0, _d1, _d2], _ => rfl) hW' hb⟩
theorem loaderCuts_holds : Rows.LoaderCutsUptoSaid :=
 OpenClaim.holds_of_cond 7 Tryz.f7 rfl rfl rfl rfl rfl rfl rfl ⟨rfl, rfl, rfl, rfl, rfl⟩ rfl rfl rfl rfl rfl (by kernel_rfl) Tryz.func7 (by kernel_rfl)
  (of_decide_eq_true (by kernel_rfl)) (by unfold Func.isWrapper; first | (rw [if_pos (by decide +kernel)]; kernel_rfl) | (rw [if_neg (by decide +kernel)]; exact ⟨rfl, rfl⟩))
  (fun os started H enc _ F => pB os started H enc F)
end Go.Proofs.YtoamaaicfjkmhaaGreat
