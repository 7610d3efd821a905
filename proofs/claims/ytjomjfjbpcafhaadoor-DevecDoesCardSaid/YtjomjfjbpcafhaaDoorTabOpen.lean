/- The library's table, out of what the row says that it reads as; words and numbers that come in. -/
import Derived.Test.YtjomjfjbpcafhaaDoorEvS5
import Derived.Test.YtjomjfjbpcafhaaDoorLaw
import Derived.Test.YtjomjfjbpcafhaaDoorChecked
import Derived.Test.YtjomjfjbpcafhaaDoorRows
import Derived.LaidMore
import Derived.OpenShut
import Derived.Stop.Joined
import Derived.ChangeSlices
namespace Go.Proofs.YtjomjfjbpcafhaaDoor
namespace Ev
open Go Go.ChangeShapes Go.WideShapes Go.ChangeAt Go.WideMaps Go.WideElems Go.RowKit Go.Joins

theorem ownD : ownKnob Tryd.prog.godebug = none := by kernel_rfl
theorem laidOutD : laidOutB Tryd.prog = true := by kernel_rfl
theorem gTab : Tryd.prog.globalNamed "math/bits.deBruijn64tab" = some 0 := by kernel_rfl
theorem tTab : (Tryd.prog.globals[0]?).map (·.type) = some 122 := by kernel_rfl
theorem cByte : Tryd.prog.cellsOf 5 = 1 := by kernel_rfl
theorem cTab : Tryd.prog.cellsOf 122 = 64 := by kernel_rfl
abbrev laidL {H : Type} : List (String × DataW H) := [("math/bits.deBruijn64tab", Rows.laid_math_bits_deBruijn64tab)]

theorem door_met (os : Os) (args : Array Value) : laidMetH Tryd.prog laidL ((World.doorLaid Tryd.prog 400 os).forCall (fun _ _ => 0) ⟨#[], args, []⟩).memory :=
  laidMetH_of_parts3 (fuel := 8) (laidMet_of_run' 8 (by kernel_rfl) (by kernel_rfl)) (by kernel_rfl) (by kernel_rfl)

def datTab {H : Type} : List (DataW H) := Lib.deBruijn64tab.map fun n => .lit (.int .u8 (n : Nat))
theorem laid_eq {H : Type} : (Rows.laid_math_bits_deBruijn64tab : DataW H) = .agg datTab := rfl

theorem tab_of_laid {W : World} (h : laidMetH Tryd.prog laidL W) : TabW W := by
  rw [MakeChecks.laidMetH_plain _ _ _ (by kernel_rfl)] at h
  obtain ⟨ps, ⟨g0, t0, cs0, f0, p0, q0, hg0, ht0, hv0, hd0, _, _⟩, _, _⟩ := h
  obtain rfl := Option.some.inj (gTab.symm.trans hg0)
  obtain rfl := Option.some.inj (tTab.symm.trans ht0)
  obtain ⟨xs, m, _, hx, hlen, hxl, hel⟩ := DataW.trod_array Tryd.underlying122 hd0
  rw [cTab] at hlen
  have hx1 := (Prod.mk.inj hx).1
  rw [laid_eq] at hx1
  have hx2 : datTab = xs.map (·.1) := by injection hx1
  have cell := fun k => World.var?_cell hg0 hv0 k
  have hsz : cs0.size = 64 := by simpa using hlen
  have key : ∀ j, j < 64 → cs0[j]? = some (.int .u8 (Lib.deBruijn64tab.getD j 0 : Nat)) := by
    intro j hj
    have hj' : xs[j]? = some (xs[j]'(by omega)) := List.getElem?_eq_getElem (by omega)
    have h1 := hel j hj
    rw [cByte, hj'] at h1
    have hcs : (cs0.toList.drop (j * 1)).take 1 = [cs0[j]'(by omega)] := by
      rw [Nat.mul_one, List.drop_eq_getElem_cons (by simp; omega)]
      simp
    rw [hcs] at h1
    obtain ⟨a, e1, e2, _⟩ := DataW.trod_int Tryd.underlying5 h1
    have h3 : (datTab (H := Unit))[j]? = some ((xs[j]'(by omega)).1) := by rw [hx2, List.getElem?_map, hj']; rfl
    rw [e2] at h3
    have h4 : (datTab (H := Unit))[j]? = some (.lit (.int .u8 (Lib.deBruijn64tab.getD j 0 : Nat))) := by
      have hl : Lib.deBruijn64tab.length = 64 := rfl
      unfold datTab
      rw [List.getElem?_map, List.getElem?_eq_getElem (by rw [hl]; exact hj), List.getD_eq_getElem?_getD, List.getElem?_eq_getElem (by rw [hl]; exact hj)]
      rfl
    rw [h3] at h4
    have h5 : a = (Lib.deBruijn64tab.getD j 0 : Nat) := by
      injection h4 with h4
      injection h4 with h4
      injection h4
    rw [Array.getElem?_eq_getElem (by omega)]
    simp only [List.cons.injEq, and_true] at e1
    rw [e1, h5]
  have hl : Lib.deBruijn64tab.length = 64 := rfl
  have c0 : ∀ j, j < Lib.deBruijn64tab.length → W.cell? ⟨0, j, none⟩ = some (.int .u8 (Lib.deBruijn64tab.getD j 0 : Nat)) := fun j hj => by
    rw [hl] at hj
    have := cell j
    rw [this]
    exact key j hj
  exact ⟨block_lt_of_cell (c0 0 (by rw [hl]; decide)), c0⟩

end Ev
end Go.Proofs.YtjomjfjbpcafhaaDoor
