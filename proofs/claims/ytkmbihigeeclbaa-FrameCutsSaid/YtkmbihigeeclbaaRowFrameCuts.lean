/- A law out of the evaluator. -/
import Derived.Test.YtkmbihigeeclbaaZFC15
import Derived.OpenShut
import Derived.WideShapes
import Derived.ChangeShapes
import Derived.Test.YtkmbihigeeclbaaZFC0
import Derived.Test.YtkmbihigeeclbaaChecked
import Derived.Test.YtkmbihigeeclbaaRows
import Derived.Test.YtkmbihigeeclbaaZFC13
import Derived.Test.YtkmbihigeeclbaaZFC14
set_option linter.unusedVariables false
set_option linter.unusedSimpArgs false
section
namespace Go.Proofs.Ytkmbihigeeclbaa
namespace Ev
open Go Sm
set_option linter.unusedVariables false
set_option linter.unusedSimpArgs false
theorem CX {z : Sl Int} (h : K.W (.S (.I .u8)) z) : ∀ e ∈ z.l, 0 ≤ e ∧ e ≤ 255 := fun e he => by
 have : inK .u8 e := h.2.2.2 e he
 simpa [inK, Lit.wf, IntKind.min, IntKind.max, IntKind.signed, IntKind.bits] using this
theorem FP {α : Type} {w : Nat} {l : List α} (h : l ≠ []) : mo w l = ⟨true, w, l⟩ := by
 cases l with
 | nil => exact absurd rfl h
 | cons a r => rfl
theorem yW {a b : List Int} (ha : ∀ e ∈ a, 0 ≤ e ∧ e ≤ 255) (hb : ∀ e ∈ b, 0 ≤ e ∧ e ≤ 255) : ∀ e ∈ a ++ b, 0 ≤ e ∧ e ≤ 255 := fun e he => (List.mem_append.1 he).elim (ha e) (hb e)
theorem Pi (x : Int) (k : Nat) : ∀ e ∈ btl x k, 0 ≤ e ∧ e ≤ 255 := fun e he => by
 unfold btl at he
 obtain ⟨i, _, rfl⟩ := List.mem_map.1 he
 unfold bt
 omega
theorem Og {α : Type} {f : α → List Int} (hf : ∀ x, ∀ e ∈ f x, 0 ≤ e ∧ e ≤ 255) (l : List α) : ∀ e ∈ l.flatMap f, 0 ≤ e ∧ e ≤ 255 := fun e he => by
 obtain ⟨x, _, h⟩ := List.mem_flatMap.1 he
 exact hf x e h
theorem yX (x : FrX) : ∀ e ∈ Sm.Fe.encF x, 0 ≤ e ∧ e ≤ 255 := by
 unfold Sm.Fe.encF vT hdB mdB
 simp only [List.append_assoc]
 repeat' first
  | exact Pi _ _
  | refine yW ?_ ?_
  | refine Og (fun x => ?_) _
  | unfold itB
  | unfold suB
  | unfold trB
theorem Oh {L : List Int} (h : ∀ e ∈ L, 0 ≤ e ∧ e ≤ 255) (hl : L.length ≤ 100000) : Sm.Fd.okY ⟨true, 1, L⟩ = true := by
 simp only [Sm.Fd.okY, Bool.and_eq_true, Bool.or_eq_true, decide_eq_true_eq, List.isEmpty_iff, List.all_eq_true]
 exact ⟨hl, h, .inl trivial⟩
theorem yY {z : Sl Int} (hz : Sm.Fd.okY z = true) {er : Int × Int} (h : dH (Sm.Fd.gf z) z.l.length = .error er) : bg z = some (Sm.Fd.zero, er) := by
 show Sm.Fd.fn z = _
 unfold Sm.Fd.fn
 rw [if_pos hz, h]
theorem Ht {z : Sl Int} (hz : Sm.Fd.okY z = true) {y : Fr} (h : dH (Sm.Fd.gf z) z.l.length = .ok y) : bg z = some (Sm.Fd.frS y, (0, 0)) := by
 show Sm.Fd.fn z = _
 unfold Sm.Fd.fn
 rw [if_pos hz, h]
theorem sT {x : FrX} (h : Gw x) : (Sm.Fe.encF x).length ≤ 50000 ∧ 0 < (Sm.Fe.encF x).length := by
 have q7 := fL wt x.2.2.2.2.2.1.2.l
 have q8 := fL wu x.2.2.2.2.2.2.1.l
 have q9 := fL AD x.2.2.2.2.2.2.2.1.l
 have k7 := h.k7
 have k8 := h.k8
 have k9 := h.k9
 unfold Sm.Fe.encF vT hdB mdB
 simp only [List.length_append, aP, q7, q8, q9]
 omega
theorem FQ {x : FrX} (hw : cI x = 0) (h : Gw x) {k : Nat} (hk : k < (Sm.Fe.encF x).length) : bg ⟨true, 1, (Sm.Fe.encF x).take k⟩ = some (Sm.Fd.zero, (2, (k : Int))) := by
 have hl := (sT h).1
 have hkl : ((Sm.Fe.encF x).take k).length = k := by rw [List.length_take]; omega
 refine yY (Oh (fun e he => yX x e (List.mem_of_mem_take he)) (by omega)) ?_
 have ha := xR hw h.t h.u8 (by have := h.k8; omega) [] [] (Sm.Fe.encF x) (Sm.Fd.gf ⟨true, 1, (Sm.Fe.encF x).take k⟩) k (by simp) (fun i hi => by
  show ((Sm.Fe.encF x).take k).getD i 0 = _
  simp only [List.getD_eq_getElem?_getD, List.getElem?_take, if_pos hi]) (Nat.zero_le _)
 rw [if_neg (by rw [List.length_nil]; omega)] at ha
 show dH _ ((Sm.Fe.encF x).take k).length = _
 rw [hkl]
 unfold dH
 rw [List.length_nil] at ha
 rw [ha]
theorem CY {x : FrX} (hw : cI x = 0) (h : Gw x) {z : List Int} (hz : ∀ e ∈ z, 0 ≤ e ∧ e ≤ 255) (hz1 : z.length ≤ 100) : bg ⟨true, 1, Sm.Fe.encF x ++ z⟩ = some (if z.length = 0 then (Sm.Fd.frS (frD x), (0, 0)) else (Sm.Fd.zero, (4, ((Sm.Fe.encF x).length : Int)))) := by
 have hl := (sT h).1
 have hll : (Sm.Fe.encF x ++ z).length = (Sm.Fe.encF x).length + z.length := List.length_append
 have hy := Oh (yW (yX x) hz) (by rw [hll]; omega)
 have ha := xR hw h.t h.u8 (by have := h.k8; omega) [] z (Sm.Fe.encF x ++ z) (Sm.Fd.gf ⟨true, 1, Sm.Fe.encF x ++ z⟩) (Sm.Fe.encF x ++ z).length (by simp) (fun i _ => rfl) (Nat.zero_le _)
 rw [if_pos (by rw [List.length_nil]; omega)] at ha
 rw [List.length_nil, Nat.zero_add] at ha
 have hd : dH (Sm.Fd.gf ⟨true, 1, Sm.Fe.encF x ++ z⟩) (Sm.Fe.encF x ++ z).length = if (Sm.Fe.encF x).length = (Sm.Fe.encF x ++ z).length then .ok (frD x) else .error (4, ((Sm.Fe.encF x).length : Int)) := by
  unfold dH
  rw [ha]
 by_cases c : z.length = 0
 ·rw [if_pos c]
  rw [if_pos (by omega)] at hd
  exact Ht hy hd
 ·rw [if_neg c]
  rw [if_neg (by omega)] at hd
  exact yY hy hd
theorem jT (x : FrX) (y : Int) (z : Sl Int) (h0 : K.W Sm.Fd.Ft x) (h1 : K.W (.I .u16) y) (h2 : K.W (.S (.I .u8)) z) : dn x y z = some true := by
 obtain ⟨x', e, hx⟩ := Kw h0
 have hE := hx.t
 have g2 := CX h2
 have hy : 0 ≤ y ∧ y ≤ 65535 := by
  have h1 : inK .u16 y := h1
  simpa [inK, Lit.wf, IntKind.min, IntKind.max, IntKind.signed, IntKind.bits] using h1
 rw [lM, e]
 simp only [zbS]
 rw [rB hE, IZ]
 simp only [zbS]
 by_cases c1 : cI x' = 0
 ·have e1 : wq x' = (⟨true, 1, Sm.Fe.encF x'⟩, 0) := by unfold wq; rw [if_pos c1]
  rw [e1]
  rw [if_neg (by simp)]
  by_cases c2 : (z.l.length : Int) > 100
  ·rw [if_pos c2]; rfl
  rw [if_neg c2]
  dsimp only
  have hlen := sT hx
  have hcut := fun k hk => FQ c1 hx (k := k) hk
  have hmore := CY c1 hx (z := z.l) g2 (by omega)
  generalize Sm.Fe.encF x' = L at hlen hcut hmore ⊢
  obtain ⟨Y, rfl⟩ := Int.eq_ofNat_of_zero_le hy.1
  have hm : yp (IntKind.i64.wrap (Y : Int)) (L.length : Int) = some ((Y % L.length : Nat) : Int) := by
   unfold yp
   rw [if_pos (by omega), wrap64 (by omega) (by omega)]
   exact congrArg some (by rw [Int.tmod_eq_emod_of_nonneg (by omega)]; rfl)
  have hmk : Y % L.length < L.length := Nat.mod_lt _ (by omega)
  rw [hm]
  generalize Y % L.length = k at hmk ⊢
  simp only [zbS]
  have hc : lU 1 (⟨true, 1, L⟩ : Sl Int) 0 (k : Int) = some ⟨true, 1, L.take k⟩ := by
   unfold lU
   rw [if_pos ⟨by omega, by omega, by show (k : Int) ≤ (L.length : Int); omega, .inl rfl⟩]
   simp
  rw [hc]
  simp only [zbS]
  rw [hcut k hmk]
  simp only [zbS]
  rw [de (by simp [bB]; omega)]
  simp only [zbS, List.nil_append]
  rw [de (by simp [bB]; omega)]
  simp only [zbS]
  rw [FP (fun h => by rw [List.append_eq_nil_iff] at h; rw [h.1] at hlen; exact absurd hlen.2 (by decide))]
  rw [hmore]
  simp only [zbS]
  rw [if_pos trivial, if_pos ⟨trivial, trivial⟩]
  by_cases c4 : z.l.length = 0
  ·rw [if_pos (by omega)]
  ·rw [if_neg (by omega), if_neg c4]
   simp
 ·have e1 : wq x' = (⟨false, 0, []⟩, cI x') := by unfold wq; rw [if_neg c1]
  rw [e1, if_pos c1]
  rfl
end Ev
end Go.Proofs.Ytkmbihigeeclbaa
end
namespace Go.Proofs.Ytkmbihigeeclbaa
open Go Go.ChangeShapes Go.WideShapes Go.ChangeAt Go.RowKit Go.Joins Ev
set_option maxRecDepth 100000
theorem Try.own : ownKnob Try.prog.godebug = none := by kernel_rfl
theorem Try.laidOut : laidOutB Try.prog = true := by kernel_rfl
namespace Ev
namespace K
theorem Pj : Op Try.prog 22 (.I .i64) := oD (by kernel_rfl)
theorem op3 : Op Try.prog 3 (.I .i64) := oD (by kernel_rfl)
theorem op2 : Op Try.prog 2 (.I .i64) := oD (by kernel_rfl)
theorem Pk : Op Try.prog 56 (.C (.I .i64) (.I .i64)) := gk (fs := bG Try.prog 55) (by kernel_rfl) (by kernel_rfl) (cu op3 (jY op2))
theorem Pm : Op Try.prog 23 (.S (.C (.I .i64) (.I .i64))) := nf (by kernel_rfl) (by kernel_rfl) Pk
theorem Pn : Op Try.prog 25 (.C (.I .i64) (.S (.C (.I .i64) (.I .i64)))) := gk (fs := bG Try.prog 24) (by kernel_rfl) (by kernel_rfl) (cu op3 (jY Pm))
theorem Po : Op Try.prog 57 (.I .u64) := oD (by kernel_rfl)
theorem Pp : Op Try.prog 59 (.C (.I .i64) (.I .u64)) := gk (fs := bG Try.prog 58) (by kernel_rfl) (by kernel_rfl) (cu op2 (jY Po))
theorem Pq : Op Try.prog 61 (.C (.I .i64) (.C (.I .i64) (.I .u64))) := gk (fs := bG Try.prog 60) (by kernel_rfl) (by kernel_rfl) (cu op3 (jY Pp))
theorem Pr : Op Try.prog 26 (.S (.C (.I .i64) (.C (.I .i64) (.I .u64)))) := nf (by kernel_rfl) (by kernel_rfl) Pq
theorem Ps : Op Try.prog 63 (.C (.I .i64) (.C (.I .i64) (.I .i64))) := gk (fs := bG Try.prog 62) (by kernel_rfl) (by kernel_rfl) (cu op3 (cu op3 (jY op2)))
theorem Pu : Op Try.prog 27 (.S (.C (.I .i64) (.C (.I .i64) (.I .i64)))) := nf (by kernel_rfl) (by kernel_rfl) Ps
theorem op4 : Op Try.prog 4 .B := Gi (by kernel_rfl)
theorem Pv : Op Try.prog 29 (.C (.I .i64) (.C (.I .i64) (.C (.I .i64) (.C (.I .i64) (.C (.I .i64) (.C (.C (.I .i64) (.S (.C (.I .i64) (.I .i64)))) (.C (.S (.C (.I .i64) (.C (.I .i64) (.I .u64)))) (.C (.S (.C (.I .i64) (.C (.I .i64) (.I .i64)))) (.C (.I .i64) .B))))))))) := gk (fs := bG Try.prog 28) (by kernel_rfl) (by kernel_rfl) (cu Pj (cu op3 (cu op3 (cu op3 (cu op3 (cu Pn (cu Pr (cu Pu (cu op2 (jY op4))))))))))
theorem Pw : Op Try.prog 47 (.I .u16) := oD (by kernel_rfl)
theorem op5 : Op Try.prog 5 (.I .u8) := oD (by kernel_rfl)
theorem Px : Op Try.prog 31 (.S (.I .u8)) := nf (by kernel_rfl) (by kernel_rfl) op5
end K
end Ev
theorem tZ (tds : List TD) (h : gD Try.prog [29, 47, 31] tds) : ∃ m n kind, (cP K.E1 m n).1 6 tds = some (kind, [.one (.v (.bool true))]) := by
 obtain ⟨x0, q0, rfl, w0, h0⟩ := K.DF (d := .struct (bG Try.prog 28)) (by kernel_rfl) rfl K.Pv h
 obtain ⟨x1, q1, rfl, w1, h1⟩ := K.xI (d := .int .u16) (by kernel_rfl) rfl K.Pw h0
 obtain ⟨x2, q2, rfl, w2, h2⟩ := K.xI (d := .slice 5) (by kernel_rfl) rfl K.Px h1
 obtain rfl := ES h2
 exact K.Gj (en := K.gS) K.lK (a := (x0, x1, x2)) rfl rfl (jT x0 x1 x2 w0 w1 w2)
theorem oT (os : Os) (started : os.Started) (H : Type) (enc : TypeId × Value → H) :
  ReturnsInHanded {} Try.checked os 6 .any (Rows.frameCutsSpec.pre6 enc Try.prog Try.f6 Rows.frameCutsRow.domain false) (Rows.frameCutsSpec.post enc Try.prog Try.f6 false true false false) := by
 refine returnsInHanded_of_change (C := Try.checked) Try.own started (by kernel_rfl) Try.func6
  (ChangeSpec.witness6 (enc := enc) (C := Try.checked) false ⟨#[], #[.agg #[.int .i64 0, .int .i64 0, .int .i64 0, .int .i64 0, .int .i64 0, .int .i64 0, .slice none 0 0, .slice none 0 0, .slice none 0 0, .int .i64 0, .bool false], .int .u16 0, .slice none 0 0], []⟩ 8 (by kernel_rfl) (by kernel_rfl) (by kernel_rfl) (by kernel_rfl)) ?_
 intro W0 base args ds gs before hval0 hW _ _
 have hval : ∀ (j : Nat) t v, Try.f6.params[j]? = some t → args[j]? = some v → Value.okWide Try.prog W0 .any base t v := hval0
 have hW' := hW
 obtain ⟨p, q, hA0, hV, rfl, _, _⟩ := hW
 have hA : DataW.TrodAll enc Try.prog W0 0 (fun _ => true) true Try.f6.params.toList args.toList ds p := hA0
 rw [Try.params6] at hA hval
 refine (Eb (E := K.E1) K.cM trivial (d := 8) (k := 6) (base := base) (ts := [29, 47, 31]) (vs := args.toList) (fun t ht => ?_) hA (fun j t v h1 h2 => hval j t v (by simpa using h1) (by simpa using h2)) tZ).mono fun e W1 ⟨he, hb⟩ => ?_
 ·simp only [List.mem_cons, List.not_mem_nil, or_false] at ht
  rcases ht with rfl | rfl | rfl <;> kernel_rfl
 subst he
 exact ⟨_, rfl, CZ Try.laidOut (by rw [Try.params6]; intro t ht; simp only [List.mem_cons, List.not_mem_nil, or_false] at ht; rcases ht with rfl | rfl | rfl <;> exact ⟨by kernel_rfl, of_decide_eq_true (by kernel_rfl)⟩) rfl (by kernel_rfl) Try.underlying4
  (fun ds hl => by rw [Try.params6] at hl; match ds, hl with | [_d0, _d1, _d2], _ => rfl) hW' hb⟩
theorem frameCuts_holds : Rows.FrameCutsSaid :=
 OpenClaim.holds_of_wide 6 Try.f6 rfl rfl rfl rfl rfl rfl rfl ⟨rfl, rfl, rfl, rfl, rfl⟩ rfl rfl rfl rfl rfl (by kernel_rfl) Try.func6 (by kernel_rfl)
  (of_decide_eq_true (by kernel_rfl)) (by unfold Func.isWrapper; first | (rw [if_pos (by decide +kernel)]; kernel_rfl) | (rw [if_neg (by decide +kernel)]; exact ⟨rfl, rfl⟩))
  (fun os started H enc _ => oT os started H enc)
end Go.Proofs.Ytkmbihigeeclbaa
