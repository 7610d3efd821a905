/- ONCE SOMETHING IS WRONG IT STAYS: as a row. -/
import Derived.Test.YtccgpjhfgmonpaaOct22
import Derived.Test.YtccgpjhfgmonpaaLaw
import Derived.Test.YtccgpjhfgmonpaaChecked
import Derived.Test.YtccgpjhfgmonpaaRows
import Derived.Deep.SlicePairs
namespace Go.Proofs.Ytccgpjhfgmonpaa
open Go.ChangeShapes Go.WideShapes Go.ChangeAt Go.RowKit Go.Joins

theorem Try.own : ownKnob Try.prog.godebug = none := by kernel_rfl
theorem Try.laidOut : laidOutB Try.prog = true := by kernel_rfl
theorem bd_i64 {n : Int} (h : (Lit.int .i64 n).wf = true) : (-9223372036854775808 ≤ n ∧ n ≤ 9223372036854775807) := by simpa [Lit.wf, IntKind.min, IntKind.max, IntKind.signed, IntKind.bits] using h
theorem bd_u8 {n : Int} (h : (Lit.int .u8 n).wf = true) : (0 ≤ n ∧ n ≤ 255) := by simpa [Lit.wf, IntKind.min, IntKind.max, IntKind.signed, IntKind.bits] using h

theorem open_rd8 {H : Type} {enc : TypeId × Value → H} {w : World} {b0 : Nat} {v : Value} {d : DataW H} {p : List MemPlace}
    (hv : Value.okWide Try.prog w .any b0 22 v) (h : DataW.Trod enc Try.prog w 0 (fun _ => true) true 22 v d p) :
    ∃ (a : Option Addr) (n c : Nat) (f : Nat → Int), v = .slice a n c ∧ Rd8 w a n f ∧ n ≤ c ∧ (a = none → c = 0 ∧ n = 0) := by
  obtain ⟨a, n, c, rfl⟩ := okWide_slice Try.underlying22 hv
  obtain ⟨fuel, hf⟩ := h
  rcases open_ints Try.underlying22 Try.underlying5 (by kernel_rfl) hf with ⟨h0, _⟩ | ⟨a', n', c', zs, h0, _, hl, _, hz, _, hc, hb⟩
  · simp [Value.cells] at h0
    obtain ⟨rfl, rfl, rfl⟩ := h0
    exact ⟨none, 0, 0, fun _ => 0, rfl, fun i hi => absurd hi (Nat.not_lt_zero _), Nat.le_refl _, fun _ => ⟨rfl, rfl⟩⟩
  · simp [Value.cells] at h0
    obtain ⟨rfl, rfl, rfl⟩ := h0
    refine ⟨_, _, _, fun i => zs.getD i 0, rfl, fun i hi => ?_, hl, fun hh => by cases hh⟩
    have hi' : i < zs.length := by rw [hz]; simp; omega
    have hcell := hc i hi'
    have hbl := block_lt_of_cell hcell
    rw [blk_add] at hbl
    exact ⟨a', rfl, hbl, hcell, bd_u8 (hb _ (by show zs.getD i 0 ∈ zs; rw [List.getD_eq_getElem?_getD, List.getElem?_eq_getElem hi']; exact List.getElem_mem hi'))⟩

theorem add_succ (a : Addr) (k : Nat) : a.add (k + 1) = ⟨a.block, (a.add k).off + 1, none⟩ := by
  unfold Addr.add
  by_cases h : k = 0
  · subst h; simp
  · simp [h]; omega
theorem open_reads {H : Type} {enc : TypeId × Value → H} {w : World} {b0 : Nat} {v : Value} {d : DataW H} {p : List MemPlace}
    (hv : Value.okWide Try.prog w .any b0 23 v) (h : DataW.Trod enc Try.prog w 0 (fun _ => true) true 23 v d p) :
    ∃ (a : Option Addr) (n c : Nat) (K N : Nat → Int), v = .slice a n c ∧ RdR w a n K N := by
  obtain ⟨a, n, c, rfl⟩ := okWide_slice Try.underlying23 hv
  obtain ⟨fuel, hf⟩ := h
  rcases Go.Deep.open_slice_pairs Try.underlying23 Try.underlying33 (by kernel_rfl) rfl rfl (by kernel_rfl) (by kernel_rfl) hf with ⟨h0, _⟩ | ⟨a', n', c', m, n9, V0, V1, D0, D1, P0, P1, h0, _, hl, _, hm, _, hx⟩
  · simp [Value.cells] at h0
    obtain ⟨rfl, rfl, rfl⟩ := h0
    exact ⟨none, 0, 0, fun _ => 0, fun _ => 0, rfl, fun i hi => absurd hi (Nat.not_lt_zero _)⟩
  · simp [Value.cells] at h0
    obtain ⟨rfl, rfl, rfl⟩ := h0
    have hnum : ∀ i, i < n → ∃ x y, w.cell? (a'.add (i * 2)) = some (.int .i64 x) ∧ w.cell? (a'.add (i * 2 + 1)) = some (.int .i64 y) := by
      intro i hi
      obtain ⟨g0, g1, g2, g3⟩ := hx i (by simp at hm; omega)
      obtain ⟨x, hx0, _, _⟩ := DataW.trod_int Try.underlying3 g2
      obtain ⟨y, hy0, _, _⟩ := DataW.trod_int Try.underlying3 g3
      simp only [List.cons.injEq, and_true] at hx0 hy0
      exact ⟨x, y, by rw [g0, hx0], by rw [g1, hy0]⟩
    refine ⟨_, _, _, fun i => if hi : i < n then (hnum i hi).choose else 0, fun i => if hi : i < n then (hnum i hi).choose_spec.choose else 0, rfl, fun i hi => ?_⟩
    obtain ⟨h1, h2⟩ := (hnum i hi).choose_spec.choose_spec
    have hbl := block_lt_of_cell h1
    rw [blk_add] at hbl
    simp only [dif_pos hi]
    exact ⟨a', rfl, hbl, h1, by rw [← add_succ]; exact h2⟩

set_option maxRecDepth 100000 in
theorem octetStays_lifted (os : Os) (started : os.Started) (H : Type) (enc : TypeId × Value → H) :
    ReturnsInHanded {} Try.checked os 6 .any (Rows.octetStaysSpec.pre6 enc Try.prog Try.f6 Rows.octetStaysRow.domain false) (Rows.octetStaysSpec.post enc Try.prog Try.f6 false true false false) := by
  refine returnsInHanded_of_change (C := Try.checked) Try.own started (by kernel_rfl) Try.func6
    (ChangeSpec.witness6 (enc := enc) (C := Try.checked) false ⟨#[], #[.slice none 0 0, .slice none 0 0], []⟩ 8 (by kernel_rfl) (by kernel_rfl) (by kernel_rfl) (by kernel_rfl)) ?_
  intro W0 base args ds gs before hval0 hW _ _
  have hval : ∀ (j : Nat) t v, Try.f6.params[j]? = some t → args[j]? = some v → Value.okWide Try.prog W0 .any base t v := hval0
  have hW' := hW
  obtain ⟨p, q, hA0, hV, rfl, _, _⟩ := hW
  have hA : DataW.TrodAll enc Try.prog W0 0 (fun _ => true) true Try.f6.params.toList args.toList ds p := hA0
  rw [Try.params6] at hA hval
  obtain ⟨v0, v1, d0, d1, p0, p1, rfl, rfl, rfl, h0, h1⟩ := trodAll_two hA
  obtain ⟨a0, n0, c0, f0, rfl, r0, z0⟩ := open_rd8 (hval 0 22 v0 rfl rfl) h0
  obtain ⟨a1, n1, c1, K1, N1, rfl, r1⟩ := open_reads (hval 1 23 v1 rfl rfl) h1
  refine (octetStays_law a0 a1 n0 c0 n1 c1 f0 K1 N1 W0 r0 z0.1 z0.2 r1).mono fun e W1 ⟨he, hb⟩ => ?_
  subst he
  exact ⟨_, rfl, law_post Try.laidOut (by rw [Try.params6]; intro t ht; simp only [List.mem_cons, List.not_mem_nil, or_false] at ht; rcases ht with rfl | rfl <;> exact ⟨by kernel_rfl, of_decide_eq_true (by kernel_rfl)⟩) rfl (by kernel_rfl) Try.underlying4
    (fun ds hl => by rw [Try.params6] at hl; match ds, hl with | [_d0, _d1], _ => rfl) hW' hb⟩

theorem octetStays_holds : Rows.OctetStaysSaid :=
  OpenClaim.holds_of_wide 6 Try.f6 rfl rfl rfl rfl rfl rfl rfl ⟨rfl, rfl, rfl, rfl, rfl⟩ rfl rfl rfl rfl rfl (by kernel_rfl) Try.func6 (by kernel_rfl)
    (of_decide_eq_true (by kernel_rfl)) (by unfold Func.isWrapper; first | (rw [if_pos (by decide +kernel)]; kernel_rfl) | (rw [if_neg (by decide +kernel)]; exact ⟨rfl, rfl⟩))
    (fun os started H enc _ => octetStays_lifted os started H enc)
end Go.Proofs.Ytccgpjhfgmonpaa
