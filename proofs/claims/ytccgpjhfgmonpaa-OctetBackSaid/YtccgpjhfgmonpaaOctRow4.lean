/- WHAT IS PUT IS READ: as a row. -/
import Derived.Test.YtccgpjhfgmonpaaOct26
import Derived.Test.YtccgpjhfgmonpaaLaw
import Derived.Test.YtccgpjhfgmonpaaChecked
import Derived.Test.YtccgpjhfgmonpaaRows
namespace Go.Proofs.Ytccgpjhfgmonpaa
open Go.ChangeShapes Go.WideShapes Go.ChangeAt Go.RowKit Go.Joins

theorem Try.own : ownKnob Try.prog.godebug = none := by kernel_rfl
theorem Try.laidOut : laidOutB Try.prog = true := by kernel_rfl
theorem bd_i64 {n : Int} (h : (Lit.int .i64 n).wf = true) : (-9223372036854775808 ≤ n ∧ n ≤ 9223372036854775807) := by simpa [Lit.wf, IntKind.min, IntKind.max, IntKind.signed, IntKind.bits] using h
theorem bd_u8 {n : Int} (h : (Lit.int .u8 n).wf = true) : (0 ≤ n ∧ n ≤ 255) := by simpa [Lit.wf, IntKind.min, IntKind.max, IntKind.signed, IntKind.bits] using h
theorem bd_u32 {n : Int} (h : (Lit.int .u32 n).wf = true) : (0 ≤ n ∧ n ≤ 4294967295) := by simpa [Lit.wf, IntKind.min, IntKind.max, IntKind.signed, IntKind.bits] using h

theorem open_bytes {H : Type} {enc : TypeId × Value → H} {w : World} {sp : Nat → Bool} {held : Bool} {fuel : Nat} {c0 : Value} {y : DataW H × List MemPlace}
    (hf : DataW.trod enc Try.prog w 0 sp held fuel 22 [c0] = some y) :
    ∃ (a : Option Addr) (n c : Nat) (f : Nat → Int), c0 = .slice a n c ∧ Rd8 w a n f ∧ n ≤ c ∧ (a = none → c = 0 ∧ n = 0) := by
  rcases open_ints Try.underlying22 Try.underlying5 (by kernel_rfl) hf with ⟨h0, _⟩ | ⟨a', n', c', zs, h0, _, hl, _, hz, _, hc, hb⟩
  · simp at h0
    subst h0
    exact ⟨none, 0, 0, fun _ => 0, rfl, fun i hi => absurd hi (Nat.not_lt_zero _), Nat.le_refl _, fun _ => ⟨rfl, rfl⟩⟩
  · simp at h0
    subst h0
    refine ⟨_, _, _, fun i => zs.getD i 0, rfl, fun i hi => ?_, hl, fun hh => by cases hh⟩
    have hi' : i < zs.length := by rw [hz]; split <;> omega
    have hcell := hc i hi'
    have hbl := block_lt_of_cell hcell
    rw [blk_add] at hbl
    exact ⟨a', rfl, hbl, hcell, bd_u8 (hb _ (by show zs.getD i 0 ∈ zs; rw [List.getD_eq_getElem?_getD, List.getElem?_eq_getElem hi']; exact List.getElem_mem hi'))⟩

theorem two {l : List Value} (h : l.length = 2) : ∃ a b, l = [a, b] := by
  match l, h with
  | [a, b], _ => exact ⟨a, b, rfl⟩
theorem open_parts {H : Type} {enc : TypeId × Value → H} {w : World} {b0 : Nat} {v : Value} {d : DataW H} {p : List MemPlace}
    (hv : Value.okWide Try.prog w .any b0 51 v) (h : DataW.Trod enc Try.prog w 0 (fun _ => true) true 51 v d p) :
    ∃ (a b : Option Addr) (n c m e : Nat) (f g : Nat → Int), v = .agg #[.slice a n c, .slice b m e] ∧ (Rd8 w a n f ∧ n ≤ c ∧ (a = none → c = 0 ∧ n = 0)) ∧ (Rd8 w b m g ∧ m ≤ e ∧ (b = none → e = 0 ∧ m = 0)) := by
  simp only [Value.okWide, Try.underlying51] at hv
  obtain ⟨cs, rfl, hsz, _⟩ := hv
  obtain ⟨c0, c1, hc⟩ := two (l := cs.toList) (by simpa using hsz.trans (show Try.prog.cellsOf 51 = 2 by kernel_rfl))
  have ecs : cs = #[c0, c1] := by rw [← Array.toArray_toList (xs := cs), hc]
  subst ecs
  obtain ⟨fuel, hf⟩ := h
  obtain ⟨xs, m, _, _, _, hlen, hel⟩ := DataW.trod_array Try.underlying51 hf
  have c64 : Try.prog.cellsOf 22 = 1 := by kernel_rfl
  match xs, hlen, hel with
  | [y0, y1], _, hel =>
    obtain ⟨a, n, c, f, rfl, hA⟩ := open_bytes (show DataW.trod enc Try.prog w 0 (fun _ => true) true m 22 [c0] = some y0 by simpa [Value.cells, c64] using hel 0 (by decide))
    obtain ⟨b, k, e, g, rfl, hB⟩ := open_bytes (show DataW.trod enc Try.prog w 0 (fun _ => true) true m 22 [c1] = some y1 by simpa [Value.cells, c64] using hel 1 (by decide))
    exact ⟨a, b, n, c, k, e, f, g, rfl, hA, hB⟩

set_option maxRecDepth 100000 in
theorem octetBack_lifted (os : Os) (started : os.Started) (H : Type) (enc : TypeId × Value → H) :
    ReturnsInHanded {} Try.checked os 5 .any (Rows.octetBackSpec.pre6 enc Try.prog Try.f5 Rows.octetBackRow.domain false) (Rows.octetBackSpec.post enc Try.prog Try.f5 false true false false) := by
  refine returnsInHanded_of_change (C := Try.checked) Try.own started (by kernel_rfl) Try.func5
    (ChangeSpec.witness6 (enc := enc) (C := Try.checked) false ⟨#[], #[.int .u32 0, .int .i64 0, .agg #[.slice none 0 0, .slice none 0 0]], []⟩ 8 (by kernel_rfl) (by kernel_rfl) (by kernel_rfl) (by kernel_rfl)) ?_
  intro W0 base args ds gs before hval0 hW _ _
  have hval : ∀ (j : Nat) t v, Try.f5.params[j]? = some t → args[j]? = some v → Value.okWide Try.prog W0 .any base t v := hval0
  have hW' := hW
  obtain ⟨p, q, hA0, hV, rfl, _, _⟩ := hW
  have hA : DataW.TrodAll enc Try.prog W0 0 (fun _ => true) true Try.f5.params.toList args.toList ds p := hA0
  rw [Try.params5] at hA hval
  obtain ⟨v0, v1, v2, d0, d1, d2, p0, p1, p2, rfl, rfl, rfl, h0, h1, h2⟩ := trodAll_three hA
  obtain ⟨n0, rfl, rfl, rfl, w0⟩ := open_int Try.underlying37 (hval 0 37 v0 rfl rfl) h0
  obtain ⟨n1, rfl, rfl, rfl, w1⟩ := open_int Try.underlying2 (hval 1 2 v1 rfl rfl) h1
  obtain ⟨aa, bb, pp, cc, qq, ee, f, g, rfl, rA, rB⟩ := open_parts (hval 2 51 v2 rfl rfl) h2
  refine (octetBack_law n0 n1 (by have := bd_u32 w0; omega) (by have := bd_i64 w1; omega) aa bb pp cc qq ee f g W0 rA.1 rB.1 rA.2.2 rB.2.2).mono fun e W1 ⟨he, hb⟩ => ?_
  subst he
  exact ⟨_, rfl, law_post Try.laidOut (by rw [Try.params5]; intro t ht; simp only [List.mem_cons, List.not_mem_nil, or_false] at ht; rcases ht with rfl | rfl | rfl <;> exact ⟨by kernel_rfl, of_decide_eq_true (by kernel_rfl)⟩) rfl (by kernel_rfl) Try.underlying4
    (fun ds hl => by rw [Try.params5] at hl; match ds, hl with | [_d0, _d1, _d2], _ => rfl) hW' hb⟩

theorem octetBack_holds : Rows.OctetBackSaid :=
  OpenClaim.holds_of_wide 5 Try.f5 rfl rfl rfl rfl rfl rfl rfl ⟨rfl, rfl, rfl, rfl, rfl⟩ rfl rfl rfl rfl rfl (by kernel_rfl) Try.func5 (by kernel_rfl)
    (of_decide_eq_true (by kernel_rfl)) (by unfold Func.isWrapper; first | (rw [if_pos (by decide +kernel)]; kernel_rfl) | (rw [if_neg (by decide +kernel)]; exact ⟨rfl, rfl⟩))
    (fun os started H enc _ => octetBack_lifted os started H enc)
end Go.Proofs.Ytccgpjhfgmonpaa
