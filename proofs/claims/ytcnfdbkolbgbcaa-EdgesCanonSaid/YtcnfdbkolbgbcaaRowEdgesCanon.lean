/- A law out of the evaluator. -/
import Derived.Test.YtcnfdbkolbgbcaaZC11
import Derived.OpenShut
import Derived.WideShapes
import Derived.ChangeShapes
import Derived.Test.YtcnfdbkolbgbcaaZC0
import Derived.Test.YtcnfdbkolbgbcaaChecked
import Derived.Test.YtcnfdbkolbgbcaaRows
set_option linter.unusedVariables false
set_option linter.unusedSimpArgs false
section
namespace Go.Proofs.Ytcnfdbkolbgbcaa
namespace Ev
open Go Sm
set_option linter.unusedVariables false
set_option linter.unusedSimpArgs false
abbrev GrE := Int × Sl E3
theorem mo_nnE {α : Type} {w : Nat} (l : List α) : (mo w l).nn = false → (mo w l).l = [] := by
 cases l with
 | nil => exact fun _ => rfl
 | cons a l => exact fun h => by simp [mo] at h
theorem Canon_e (n : Int) {s : Sl E3} (hs : okS 3 s) (hn : s.nn = false → s.l = []) (hl : s.l.length ≤ 65536) (hw : w64 s.l) : ∃ s' : Sl E3, edges_Canon (n, s) = some (n, s') ∧ okS 3 s' ∧ (s'.nn = false → s'.l = []) ∧ s'.l = (sumR (RG 1) s.l).1 := by
 obtain ⟨s', e1, e2, e3, e4⟩ := edges_Combine_w (r := 1) (by decide) hs hn hl hw
 rw [edges_Canon_eq]
 simp only
 rw [e1]
 exact ⟨s', rfl, e2, e3, e4⟩
theorem sum_w {l : List E3} (hw : w64 l) : w64 (sumR (RG 1) l).1 := fun x hx => by
 obtain ⟨h1, y, hy, h2, h3⟩ := (sum_spec (r := 1) (l := l)).2.2.1 x hx
 have := hw y hy
 exact ⟨by rw [← h2]; exact this.1, by rw [← h3]; exact this.2.1, h1⟩
theorem Rises_e {s : Sl E3} (hs : okS 3 s) (hl : s.l.length ≤ 65536) (h : rises s.l) : ref05_Rises s = some true := by
 have hp := List.pairwise_iff_getElem.1 h
 rw [ref05_Rises_eq]
 have q : loopO (ref05_Rises_b1 s) 1 = some (.inl ()) := by
  by_cases h0 : s.l.length = 0
  ·refine loopO_done ?_
   simp only [ref05_Rises_b1]
   rw [if_neg (by omega)]
  refine loop_stop (s.l.length - 1) (fun j => ((j + 1 : Nat) : Int)) rfl (fun j hj => ?_) ?_
  ·have a1 := atS_some' hs (List.getElem?_eq_getElem (show j + 1 < s.l.length by omega))
   have a2 := atS_some' hs (List.getElem?_eq_getElem (show j < s.l.length by omega))
   have hb := hp j (j + 1) (by omega) (by omega) (by omega)
   have w1 : IntKind.i64.wrap (((j + 1 : Nat) : Int) - 1) = (j : Int) := by rw [wrap64 (by omega) (by omega)]; omega
   have w2 : IntKind.i64.wrap (((j + 1 : Nat) : Int) + 1) = ((j + 1 + 1 : Nat) : Int) := by rw [wrap64 (by omega) (by omega)]; omega
   simp only [ref05_Rises_b1]
   rw [if_pos (by omega), w1, a2]
   simp only [Option.bind_some]
   rw [a1]
   simp only [Option.bind_some]
   rw [ref05_below_w, hb]
   simp only [Option.bind_some]
   rw [if_neg (by simp), w2]
  ·simp only [ref05_Rises_b1]
   rw [if_neg (by omega)]
 rw [q]
 rfl
theorem Same_e {n : Int} {x y : Sl E3} (hl : x.l.length ≤ 65536) (hx : okS 3 x) (hy : okS 3 y) (h : x.l = y.l) : edges_Same (n, x) (n, y) = some true := by
 rw [edges_Same_eq]
 simp only
 rw [if_pos trivial]
 have e : slices_Equal_api_Edge_api_Edge x y = some (decide (x.l = y.l)) := by
  rw [slices_Equal_api_Edge_api_Edge_eq]
  exact same_rows (by omega) hx hy (P := fun u v => u.fst = v.fst ∧ u.snd.fst = v.snd.fst ∧ u.snd.snd = v.snd.snd) (fun u v => by rw [Prod.ext_iff, Prod.ext_iff]) fun a => by unfold slices_Equal_api_Edge_api_Edge_b1; rfl
 rw [e, decide_eq_true h]
 simp
def mt (e x : E3) : Bool := decide (x.1 = e.1 ∧ x.2.1 = e.2.1 ∧ x.2.2 ≤ e.2.2)
theorem there_loop {A : List E3} {n : Int} {c : Sl E3} (hc : okS 3 c) (hl : c.l.length ≤ 65536) {i : Nat} (hi : i < A.length) (h : ∃ x ∈ c.l, mt A[i] x = true) : loopO (law05_EdgesCanon_b1 A (n, c) (i : Int)) (false, 0) = some (.inl true) := by
 have ai := atL_some' (List.getElem?_eq_getElem hi)
 generalize A[i] = e at ai h
 obtain ⟨q, q1, b, rfl, q2⟩ := loop_up (b := law05_EdgesCanon_b1 A (n, c) (i : Int)) c.l.length (fun j a => ∃ b : Bool, a = (b, (j : Int)) ∧ (b = true ↔ ∃ x ∈ c.l.take j, mt e x = true)) (fun q => ∃ b : Bool, q = .inl b ∧ (b = true ↔ ∃ x ∈ c.l, mt e x = true))
  (by
   rintro j _ hj ⟨b, rfl, hb⟩
   have aj := atS_some' hc (List.getElem?_eq_getElem hj)
   have hsnoc : (∃ x ∈ c.l.take (j + 1), mt e x = true) ↔ (∃ x ∈ c.l.take j, mt e x = true) ∨ mt e c.l[j] = true := by
    rw [List.take_succ_eq_append_getElem hj]
    constructor
    ·rintro ⟨x, hx, hm⟩
     rcases List.mem_append.1 hx with hx | hx
     ·exact .inl ⟨x, hx, hm⟩
     ·rw [List.mem_singleton] at hx
      subst hx
      exact .inr hm
    ·rintro (⟨x, hx, hm⟩ | hm)
     ·exact ⟨x, List.mem_append_left _ hx, hm⟩
     ·exact ⟨_, List.mem_append_right _ (List.mem_singleton.2 rfl), hm⟩
   generalize c.l[j] = y at aj hsnoc
   refine .inl ?_
   simp only [law05_EdgesCanon_b1]
   rw [if_pos (by omega), w_succ hj (by omega)]
   cases b with
   | true =>
    rw [if_pos rfl]
    exact ⟨_, rfl, true, rfl, by rw [hsnoc]; exact ⟨fun _ => .inl (hb.1 rfl), fun _ => rfl⟩⟩
   | false =>
    have hno : ¬ ∃ x ∈ c.l.take j, mt e x = true := fun h => by have := hb.2 h; cases this
    rw [if_neg (by simp)]
    simp only [aj, ai, Option.bind_some]
    by_cases c1 : y.1 = e.1
    ·rw [if_pos c1]
     by_cases c2 : y.2.1 = e.2.1
     ·rw [if_pos c2]
      refine ⟨_, rfl, decide (y.2.2 ≤ e.2.2), rfl, ?_⟩
      rw [hsnoc, decide_eq_true_eq]
      unfold mt
      rw [decide_eq_true_eq]
      exact ⟨fun h => .inr ⟨c1, c2, h⟩, fun h => h.elim (fun h => absurd h hno) fun h => h.2.2⟩
     ·rw [if_neg c2]
      refine ⟨_, rfl, false, rfl, ?_⟩
      rw [hsnoc]
      unfold mt at hno ⊢
      simp only [decide_eq_true_eq] at hno ⊢
      exact ⟨fun h => (by cases h), fun h => h.elim (fun h => absurd h hno) fun h => absurd h.2.1 c2⟩
    ·rw [if_neg c1]
     refine ⟨_, rfl, false, rfl, ?_⟩
     rw [hsnoc]
     unfold mt at hno ⊢
     simp only [decide_eq_true_eq] at hno ⊢
     exact ⟨fun h => (by cases h), fun h => h.elim (fun h => absurd h hno) fun h => absurd h.1 c1⟩)
  (by
   rintro _ ⟨b, rfl, hb⟩
   refine ⟨_, if_neg (show ¬ ((c.l.length : Nat) : Int) < ((c.l.length : Nat) : Int) by omega), b, rfl, ?_⟩
   rw [List.take_length] at hb
   exact hb) 0 (Nat.zero_le _) (false, 0) ⟨false, rfl, by simp⟩
 rw [q1, q2.2 h]
theorem law05_EdgesCanon_true (g : GrE) (y : Sl E3) (h0 : K.W (.C (.I .i64) (.S (.C (.I .i64) (.C (.I .i64) (.I .i64))))) g) (h1 : K.W (.S (.C (.I .i64) (.C (.I .i64) (.I .i64)))) y) : law05_EdgesCanon g y = some true := by
 obtain ⟨hs, hn, hw⟩ := w64_of h0.2
 obtain ⟨hs', hn', hw'⟩ := w64_of h1
 have few : ∃ s : Sl E3, law05_Few g = some (g.1, s) ∧ s.l = g.2.l.take 60 := by
  rw [law05_Few_eq]
  by_cases h : g.2.l.length > 60
  ·rw [if_pos (by omega)]
   have hz : g.2.sz = 3 := hs.resolve_left (by intro h'; rw [h'] at h; simp at h)
   refine ⟨⟨g.2.nn, g.2.sz, g.2.l.take 60⟩, ?_, rfl⟩
   unfold cutS
   rw [if_pos ⟨by omega, by omega, by omega, .inl hz⟩]
   simp
  ·rw [if_neg (by omega)]
   exact ⟨g.2, rfl, (List.take_of_length_le (by omega)).symm⟩
 have few2 : ∃ s : Sl E3, (if (y.l.length : Int) > 30 then (cutS 3 y 0 30).bind fun (s' : Sl (Int × Int × Int)) => some (Sum.inl s') else some (Sum.inl y) : Option (Sl E3 ⊕ Empty)) = some (.inl s) ∧ s.l = y.l.take 30 := by
  by_cases h : y.l.length > 30
  ·rw [if_pos (by omega)]
   have hz : y.sz = 3 := hs'.resolve_left (by intro h'; rw [h'] at h; simp at h)
   refine ⟨⟨y.nn, y.sz, y.l.take 30⟩, ?_, rfl⟩
   unfold cutS
   rw [if_pos ⟨by omega, by omega, by omega, .inl hz⟩]
   simp
  ·rw [if_neg (by omega)]
   exact ⟨y, rfl, (List.take_of_length_le (by omega)).symm⟩
 obtain ⟨s, e1, e2⟩ := few
 obtain ⟨t, e3, e4⟩ := few2
 have ls : s.l.length ≤ 60 := by rw [e2, List.length_take]; omega
 have lt : t.l.length ≤ 30 := by rw [e4, List.length_take]; omega
 have ws : w64 s.l := fun x hx => hw x (by rw [e2] at hx; exact List.mem_of_mem_take hx)
 have wt : w64 t.l := fun x hx => hw' x (by rw [e4] at hx; exact List.mem_of_mem_take hx)
 have wA : w64 (s.l ++ t.l) := fun x hx => (List.mem_append.1 hx).elim (ws x) (wt x)
 have wB : w64 (t.l ++ s.l) := fun x hx => (List.mem_append.1 hx).elim (wt x) (ws x)
 obtain ⟨c, c1, c2, c3, c4⟩ := Canon_e g.1 (s := mo 3 (s.l ++ t.l)) (ok_mo _) (mo_nnE _) (by rw [mo_l, List.length_append]; omega) (by rw [mo_l]; exact wA)
 obtain ⟨d, d1, d2, d3, d4⟩ := Canon_e g.1 (s := mo 3 (t.l ++ s.l)) (ok_mo _) (mo_nnE _) (by rw [mo_l, List.length_append]; omega) (by rw [mo_l]; exact wB)
 rw [mo_l] at c4 d4
 have hcd : c.l = d.l := by rw [c4, d4, sum_order (l := s.l ++ t.l) (l' := t.l ++ s.l) fun x => ⟨fun h => List.mem_append.2 (List.mem_append.1 h).symm, fun h => List.mem_append.2 (List.mem_append.1 h).symm⟩]
 have hr := (sum_spec (r := 1) (l := s.l ++ t.l)).1
 have hcl : c.l.length ≤ 90 := by
  have := (sum_spec (r := 1) (l := s.l ++ t.l)).2.1
  rw [List.length_append] at this
  rw [c4]
  omega
 have wc : w64 c.l := by rw [c4]; exact sum_w wA
 obtain ⟨f, f1, f2, f3, f4⟩ := Canon_e g.1 c2 c3 (by omega) wc
 have hfc : f.l = c.l := by rw [f4, sum_rising (by rw [c4]; exact hr) fun x hx => (wc x hx).2.2]
 have live : FL8 = some true := rfl
 have a1 : app [] s.l = some s.l := app_ok (by simp; unfold bound; omega)
 have a2 : app s.l t.l = some (s.l ++ t.l) := app_ok (by unfold bound; omega)
 have a3 : app [] t.l = some t.l := app_ok (by simp; unfold bound; omega)
 have a4 : app t.l s.l = some (t.l ++ s.l) := app_ok (by unfold bound; omega)
 have lp : loopO (law05_EdgesCanon_b2 (s.l ++ t.l) (g.1, c)) 0 = some (.inl ()) := by
  refine loop_stop (s.l ++ t.l).length (fun j => (j : Int)) rfl (fun i hi => ?_) ?_
  ·simp only [law05_EdgesCanon_b2]
   rw [if_pos (by omega), there_loop c2 (by omega) hi (by
    obtain ⟨x, x1, x2, x3, x4⟩ := sum_has wA (List.getElem_mem hi)
    refine ⟨x, by rw [c4]; exact x1, ?_⟩
    unfold mt
    rw [decide_eq_true_eq]
    exact ⟨x2, x3, x4⟩)]
   simp only [Option.bind_some, Sum.elim_inl]
   rw [if_neg (by simp), w_succ hi (by rw [List.length_append]; omega)]
  ·simp only [law05_EdgesCanon_b2]
   rw [if_neg (by omega)]
 rw [law05_EdgesCanon_eq, e1, Option.bind_some, e3, Option.bind_some, Sum.elim_inl, a1, Option.bind_some, a2, Option.bind_some, a3, Option.bind_some, a4, Option.bind_some, c1, Option.bind_some, live, Option.bind_some, if_neg (by simp), Rises_e c2 (by omega) (by rw [c4]; exact hr), Option.bind_some, if_neg (by simp), d1, Option.bind_some, Same_e (by omega) c2 d2 hcd, Option.bind_some, if_neg (by simp), f1, Option.bind_some, Same_e (by rw [hfc]; omega) f2 c2 hfc, Option.bind_some, if_neg (by simp), lp, Option.bind_some, Sum.elim_inl]
end Ev
end Go.Proofs.Ytcnfdbkolbgbcaa
end
namespace Go.Proofs.Ytcnfdbkolbgbcaa
open Go Go.ChangeShapes Go.WideShapes Go.ChangeAt Go.RowKit Go.Joins Ev
set_option maxRecDepth 100000
theorem Try.own : ownKnob Try.prog.godebug = none := by kernel_rfl
theorem Try.laidOut : laidOutB Try.prog = true := by kernel_rfl
namespace Ev
namespace K
theorem op3 : Op Try.prog 3 (.I .i64) := op_int (by kernel_rfl)
theorem op2 : Op Try.prog 2 (.I .i64) := op_int (by kernel_rfl)
theorem op30 : Op Try.prog 30 (.C (.I .i64) (.C (.I .i64) (.I .i64))) := op_struct (fs := flds Try.prog 29) (by kernel_rfl) (by kernel_rfl) (ops_cons op3 (ops_cons op3 (ops_one op2)))
theorem op22 : Op Try.prog 22 (.S (.C (.I .i64) (.C (.I .i64) (.I .i64)))) := op_slice (by kernel_rfl) (by kernel_rfl) op30
theorem op24 : Op Try.prog 24 (.C (.I .i64) (.S (.C (.I .i64) (.C (.I .i64) (.I .i64))))) := op_struct (fs := flds Try.prog 23) (by kernel_rfl) (by kernel_rfl) (ops_cons op3 (ops_one op22))
end K
end Ev
theorem edgesCanon_tds (tds : List TD) (h : TypDs Try.prog [24, 22] tds) : ∃ m n kind, (callers K.E1 m n).1 3 tds = some (kind, [.one (.v (.bool true))]) := by
 obtain ⟨x0, q0, rfl, w0, h0⟩ := K.open_agg (d := .struct (flds Try.prog 23)) (by kernel_rfl) rfl K.op24 h
 obtain ⟨x1, q1, rfl, w1, h1⟩ := K.open_one (d := .slice 30) (by kernel_rfl) rfl K.op22 h0
 obtain rfl := typd_nil h1
 exact K.true_of (en := K.law05_EdgesCanon_E) K.law05_EdgesCanon_ok (a := (x0, x1)) rfl rfl (law05_EdgesCanon_true x0 x1 w0 w1)
theorem edgesCanon_lifted (os : Os) (started : os.Started) (H : Type) (enc : TypeId × Value → H) :
  ReturnsInHanded {} Try.checked os 3 .any (Rows.edgesCanonSpec.pre6 enc Try.prog Try.f3 Rows.edgesCanonRow.domain false) (Rows.edgesCanonSpec.post enc Try.prog Try.f3 false true false false) := by
 refine returnsInHanded_of_change (C := Try.checked) Try.own started (by kernel_rfl) Try.func3
  (ChangeSpec.witness6 (enc := enc) (C := Try.checked) false ⟨#[], #[.agg #[.int .i64 0, .slice none 0 0], .slice none 0 0], []⟩ 8 (by kernel_rfl) (by kernel_rfl) (by kernel_rfl) (by kernel_rfl)) ?_
 intro W0 base args ds gs before hval0 hW _ _
 have hval : ∀ (j : Nat) t v, Try.f3.params[j]? = some t → args[j]? = some v → Value.okWide Try.prog W0 .any base t v := hval0
 have hW' := hW
 obtain ⟨p, q, hA0, hV, rfl, _, _⟩ := hW
 have hA : DataW.TrodAll enc Try.prog W0 0 (fun _ => true) true Try.f3.params.toList args.toList ds p := hA0
 rw [Try.params3] at hA hval
 refine (law_call (E := K.E1) K.E1_ok trivial (d := 8) (k := 3) (base := base) (ts := [24, 22]) (vs := args.toList) (fun t ht => ?_) hA (fun j t v h1 h2 => hval j t v (by simpa using h1) (by simpa using h2)) edgesCanon_tds).mono fun e W1 ⟨he, hb⟩ => ?_
 ·simp only [List.mem_cons, List.not_mem_nil, or_false] at ht
  rcases ht with rfl | rfl <;> kernel_rfl
 subst he
 exact ⟨_, rfl, law_post Try.laidOut (by rw [Try.params3]; intro t ht; simp only [List.mem_cons, List.not_mem_nil, or_false] at ht; rcases ht with rfl | rfl <;> exact ⟨by kernel_rfl, of_decide_eq_true (by kernel_rfl)⟩) rfl (by kernel_rfl) Try.underlying4
  (fun ds hl => by rw [Try.params3] at hl; match ds, hl with | [_d0, _d1], _ => rfl) hW' hb⟩
theorem edgesCanon_holds : Rows.EdgesCanonSaid :=
 OpenClaim.holds_of_wide 3 Try.f3 rfl rfl rfl rfl rfl rfl rfl ⟨rfl, rfl, rfl, rfl, rfl⟩ rfl rfl rfl rfl rfl (by kernel_rfl) Try.func3 (by kernel_rfl)
  (of_decide_eq_true (by kernel_rfl)) (by unfold Func.isWrapper; first | (rw [if_pos (by decide +kernel)]; kernel_rfl) | (rw [if_neg (by decide +kernel)]; exact ⟨rfl, rfl⟩))
  (fun os started H enc _ => edgesCanon_lifted os started H enc)
end Go.Proofs.Ytcnfdbkolbgbcaa
