/- The library's table, out of what the row says that it reads as; words and numbers that come in. -/
import Derived.Test.YtccgpjhfgmonpaaDoorFl13
import Derived.Test.YtccgpjhfgmonpaaDoorLaw
import Derived.Test.YtccgpjhfgmonpaaDoorChecked
import Derived.Test.YtccgpjhfgmonpaaDoorRows
import Derived.LaidMore
import Derived.OpenShut
import Derived.Stop.Joined
import Derived.ChangeSlices
namespace Go.Proofs.YtccgpjhfgmonpaaDoor
open Go.ChangeShapes Go.WideShapes Go.ChangeAt Go.WideMaps Go.WideElems Go.RowKit Go.Joins

theorem Tryd.own : ownKnob Tryd.prog.godebug = none := by kernel_rfl
theorem Tryd.laidOut : laidOutB Tryd.prog = true := by kernel_rfl
theorem gTab : Tryd.prog.globalNamed "math/bits.deBruijn64tab" = some 0 := by kernel_rfl
theorem tTab : (Tryd.prog.globals[0]?).map (·.type) = some 73 := by kernel_rfl
theorem cByte : Tryd.prog.cellsOf 5 = 1 := by kernel_rfl
theorem cTab : Tryd.prog.cellsOf 73 = 64 := by kernel_rfl
abbrev laidL {H : Type} : List (String × DataW H) := [("math/bits.deBruijn64tab", Rows.laid_math_bits_deBruijn64tab)]

theorem door_met (os : Os) (args : Array Value) : laidMetH Tryd.prog laidL ((World.doorLaid Tryd.prog 400 os).forCall (fun _ _ => 0) ⟨#[], args, []⟩).memory :=
  laidMetH_of_parts3 (fuel := 8) (laidMet_of_run' 8 (by kernel_rfl) (by kernel_rfl)) (by kernel_rfl) (by kernel_rfl)

def datTab {H : Type} : List (DataW H) := Lib.deBruijn64tab.map fun n => .lit (.int .u8 (n : Nat))
theorem laid_eq {H : Type} : (Rows.laid_math_bits_deBruijn64tab : DataW H) = .agg datTab := rfl

theorem tab_of_laid {W : World} (h : laidMetH Tryd.prog laidL W) : Tab W := by
  rw [MakeChecks.laidMetH_plain _ _ _ (by kernel_rfl)] at h
  obtain ⟨ps, ⟨g0, t0, cs0, f0, p0, q0, hg0, ht0, hv0, hd0, _, _⟩, _, _⟩ := h
  obtain rfl := Option.some.inj (gTab.symm.trans hg0)
  obtain rfl := Option.some.inj (tTab.symm.trans ht0)
  obtain ⟨xs, m, _, hx, hlen, hxl, hel⟩ := DataW.trod_array Tryd.underlying73 hd0
  rw [cTab] at hlen
  have hx1 := (Prod.mk.inj hx).1
  rw [laid_eq] at hx1
  have hx2 : datTab = xs.map (·.1) := by injection hx1
  have cell := fun k => World.var?_cell hg0 hv0 k
  have hsz : cs0.size = 64 := by simpa using hlen
  have key : ∀ j, j < 64 → cs0[j]? = some (.int .u8 (Lib.deBruijn64tab.getD j 0 : Nat)) := by
    intro j hj
    have hj' : xs[j]? = some (xs[j]'(by omega)) := List.getElem?_eq_getElem (by omega)
    have h1 := hel j hj
    rw [cByte, hj'] at h1
    have hcs : (cs0.toList.drop (j * 1)).take 1 = [cs0[j]'(by omega)] := by
      rw [Nat.mul_one, List.drop_eq_getElem_cons (by simp; omega)]
      simp
    rw [hcs] at h1
    obtain ⟨a, e1, e2, _⟩ := DataW.trod_int Tryd.underlying5 h1
    have h3 : (datTab (H := Unit))[j]? = some ((xs[j]'(by omega)).1) := by rw [hx2, List.getElem?_map, hj']; rfl
    rw [e2] at h3
    have h4 : (datTab (H := Unit))[j]? = some (.lit (.int .u8 (Lib.deBruijn64tab.getD j 0 : Nat))) := by
      have hl : Lib.deBruijn64tab.length = 64 := rfl
      unfold datTab
      rw [List.getElem?_map, List.getElem?_eq_getElem (by rw [hl]; exact hj), List.getD_eq_getElem?_getD, List.getElem?_eq_getElem (by rw [hl]; exact hj)]
      rfl
    rw [h3] at h4
    have h5 : a = (Lib.deBruijn64tab.getD j 0 : Nat) := by
      injection h4 with h4
      injection h4 with h4
      injection h4
    rw [Array.getElem?_eq_getElem (by omega)]
    simp only [List.cons.injEq, and_true] at e1
    rw [e1, h5]
  have hl : Lib.deBruijn64tab.length = 64 := rfl
  have c0 : ∀ j, j < Lib.deBruijn64tab.length → W.cell? ⟨0, j, none⟩ = some (.int .u8 (Lib.deBruijn64tab.getD j 0 : Nat)) := fun j hj => by
    rw [hl] at hj
    have := cell j
    rw [this]
    exact key j hj
  exact ⟨block_lt_of_cell (c0 0 (by rw [hl]; decide)), c0⟩

theorem bd_i64 {n : Int} (h : (Lit.int .i64 n).wf = true) : -9223372036854775808 ≤ n ∧ n ≤ 9223372036854775807 := by simpa [Lit.wf, IntKind.min, IntKind.max, IntKind.signed, IntKind.bits] using h
theorem bd_u64 {n : Int} (h : (Lit.int .u64 n).wf = true) : 0 ≤ n ∧ n ≤ 18446744073709551615 := by simpa [Lit.wf, IntKind.min, IntKind.max, IntKind.signed, IntKind.bits] using h
theorem bd_u16 {n : Int} (h : (Lit.int .u16 n).wf = true) : 0 ≤ n ∧ n ≤ 65535 := by simpa [Lit.wf, IntKind.min, IntKind.max, IntKind.signed, IntKind.bits] using h

theorem open_words {H : Type} {enc : TypeId × Value → H} {w : World} {b0 : Nat} {v : Value} {d : DataW H} {p : List MemPlace}
    (hv : Value.okWide Tryd.prog w .any b0 22 v) (h : DataW.Trod enc Tryd.prog w 0 (fun _ => true) true 22 v d p) :
    ∃ (a : Option Addr) (n c : Nat) (q : Nat → Bool), v = .slice a n c ∧ RdW w a n (wd q) ∧ n ≤ c ∧ c ≤ 9223372036854775807 ∧ (a = none → c = 0 ∧ n = 0) := by
  obtain ⟨a, n, c, rfl⟩ := okWide_slice Tryd.underlying22 hv
  obtain ⟨fuel, hf⟩ := h
  rcases open_ints Tryd.underlying22 Tryd.underlying48 (by kernel_rfl) hf with ⟨h0, _⟩ | ⟨a', n', c', zs, h0, g1, hl, g2, hz, g3, hc, hb⟩
  · simp [Value.cells] at h0
    obtain ⟨rfl, rfl, rfl⟩ := h0
    exact ⟨none, 0, 0, fun _ => false, rfl, fun i hi => absurd hi (Nat.not_lt_zero _), Nat.le_refl _, by decide, fun _ => ⟨rfl, rfl⟩⟩
  · simp [Value.cells] at h0
    obtain ⟨rfl, rfl, rfl⟩ := h0
    have hbd : ∀ i, i < n → 0 ≤ zs.getD i 0 ∧ zs.getD i 0 ≤ 18446744073709551615 := fun i hi => by
      have hi' : i < zs.length := by rw [hz]; simp; omega
      exact bd_u64 (hb _ (by show zs.getD i 0 ∈ zs; rw [List.getD_eq_getElem?_getD, List.getElem?_eq_getElem hi']; exact List.getElem_mem hi'))
    have hrd : RdW w (some a') n (fun i => (zs.getD i 0).toNat) := fun i hi => by
      have hi' : i < zs.length := by rw [hz]; simp; omega
      have hcell := hc i hi'
      have hbl := block_lt_of_cell hcell
      rw [blk_add] at hbl
      have := hbd i hi
      refine ⟨a', rfl, hbl, ?_, (show (zs.getD i 0).toNat < 18446744073709551616 by omega)⟩
      rw [hcell]
      show some (Value.int .u64 (zs.getD i 0)) = some (Value.int .u64 ((zs.getD i 0).toNat : Int))
      rw [Int.toNat_of_nonneg this.1]
    refine ⟨_, _, _, bitOf fun i => (zs.getD i 0).toNat, rfl, hrd.congr (fun i hi => ?_), hl, ?_, fun hh => by cases hh⟩
    · have := hbd i hi
      exact (wd_bitOf (fun i => (zs.getD i 0).toNat) i (show (zs.getD i 0).toNat < 18446744073709551616 by omega)).symm
    · unfold maxLen at *; omega

theorem open_nums {H : Type} {enc : TypeId × Value → H} {w : World} {b0 : Nat} {v : Value} {d : DataW H} {p : List MemPlace}
    (hv : Value.okWide Tryd.prog w .any b0 23 v) (h : DataW.Trod enc Tryd.prog w 0 (fun _ => true) true 23 v d p) :
    ∃ (a : Option Addr) (n c : Nat) (f : Nat → Int), v = .slice a n c ∧ RdI w a n f ∧ n ≤ c ∧ c ≤ 9223372036854775807 := by
  obtain ⟨a, n, c, rfl⟩ := okWide_slice Tryd.underlying23 hv
  obtain ⟨fuel, hf⟩ := h
  rcases open_ints Tryd.underlying23 Tryd.underlying3 (by kernel_rfl) hf with ⟨h0, _⟩ | ⟨a', n', c', zs, h0, g1, hl, g2, hz, g3, hc, hb⟩
  · simp [Value.cells] at h0
    obtain ⟨rfl, rfl, rfl⟩ := h0
    exact ⟨none, 0, 0, fun _ => 0, rfl, fun i hi => absurd hi (Nat.not_lt_zero _), Nat.le_refl _, by decide⟩
  · simp [Value.cells] at h0
    obtain ⟨rfl, rfl, rfl⟩ := h0
    refine ⟨_, _, _, fun i => zs.getD i 0, rfl, fun i hi => ?_, hl, by unfold maxLen at *; omega⟩
    have hi' : i < zs.length := by rw [hz]; simp; omega
    have hcell := hc i hi'
    have hbl := block_lt_of_cell hcell
    rw [blk_add] at hbl
    exact ⟨a', rfl, hbl, hcell, bd_i64 (hb _ (by show zs.getD i 0 ∈ zs; rw [List.getD_eq_getElem?_getD, List.getElem?_eq_getElem hi']; exact List.getElem_mem hi'))⟩
end Go.Proofs.YtccgpjhfgmonpaaDoor
