/- The table of the rings' names, out of what the row says that it reads as. -/
import Derived.Test.YtekkgidoblddfaaDoorRRRingLaw
import Derived.Test.YtekkgidoblddfaaDoorRRLaw
import Derived.LaidMore
import Derived.OpenShut
import Derived.Stop.Joined
namespace Go.Proofs.YtekkgidoblddfaaDoorRR
open Go.ChangeShapes Go.WideShapes Go.ChangeAt Go.WideMaps Go.WideElems Go.RowKit Go.Joins

theorem Tryd.own : ownKnob Tryd.prog.godebug = none := by kernel_rfl
theorem Tryd.laidOut : laidOutB Tryd.prog = true := by kernel_rfl
theorem gNames : Tryd.prog.globalNamed "fretwork/ring.names" = some 0 := by kernel_rfl
theorem tNames : (Tryd.prog.globals[0]?).map (·.type) = some 48 := by kernel_rfl
theorem cStr : Tryd.prog.cellsOf 9 = 1 := by kernel_rfl
theorem cNames : Tryd.prog.cellsOf 48 = 6 := by kernel_rfl
abbrev laidL {H : Type} : List (String × DataW H) := [("fretwork/ring.names", Rows.laid_fretwork_ring_names)]

theorem string_of_trod {H : Type} {enc : TypeId × Value → H} {w : World} {base : Nat} {sp : Nat → Bool} {held : Bool} {fuel : Nat} {c : Value} {y : DataW H × List MemPlace}
    (h : DataW.trod enc Tryd.prog w base sp held fuel 9 [c] = some y) : ∃ s : ByteArray, c = .string s ∧ y = (.lit (.string s.data.toList), []) := by
  obtain ⟨s, hc, hy, _⟩ := DataW.trod_string Tryd.underlying9 h
  exact ⟨s, by simpa using hc, hy⟩

theorem door_met (os : Os) (args : Array Value) : laidMetH Tryd.prog laidL ((World.doorLaid Tryd.prog 400 os).forCall (fun _ _ => 0) ⟨#[], args, []⟩).memory :=
  laidMetH_of_parts3 (fuel := 8) (laidMet_of_run' 8 (by kernel_rfl) (by kernel_rfl)) (by kernel_rfl) (by kernel_rfl)

theorem six {l : List Value} (h : l.length = 6) : ∃ a b c d e f, l = [a, b, c, d, e, f] := by
  match l, h with
  | [a, b, c, d, e, f], _ => exact ⟨a, b, c, d, e, f, rfl⟩
theorem six' {α : Type} {l : List α} (h : l.length = 6) : ∃ a b c d e f, l = [a, b, c, d, e, f] := by
  match l, h with
  | [a, b, c, d, e, f], _ => exact ⟨a, b, c, d, e, f, rfl⟩

theorem names_of_laid {W : World} (h : laidMetH Tryd.prog laidL W) : Names W := by
  rw [MakeChecks.laidMetH_plain _ _ _ (by kernel_rfl)] at h
  obtain ⟨ps, ⟨g0, t0, cs0, f0, p0, q0, hg0, ht0, hv0, hd0, _, _⟩, _, _⟩ := h
  obtain rfl := Option.some.inj (gNames.symm.trans hg0)
  obtain rfl := Option.some.inj (tNames.symm.trans ht0)
  obtain ⟨xs, m, _, hx, hlen, hxl, hel⟩ := DataW.trod_array Tryd.underlying48 hd0
  rw [cNames] at hlen
  obtain ⟨a0, a1, a2, a3, a4, a5, hcs⟩ := six hlen
  obtain ⟨y0, y1, y2, y3, y4, y5, rfl⟩ := six' hxl
  rw [hcs, cStr] at hel
  obtain ⟨s0, rfl, e0⟩ := string_of_trod (by simpa using hel 0 (by decide))
  obtain ⟨s1, rfl, e1⟩ := string_of_trod (by simpa using hel 1 (by decide))
  obtain ⟨s2, rfl, e2⟩ := string_of_trod (by simpa using hel 2 (by decide))
  obtain ⟨s3, rfl, e3⟩ := string_of_trod (by simpa using hel 3 (by decide))
  obtain ⟨s4, rfl, e4⟩ := string_of_trod (by simpa using hel 4 (by decide))
  obtain ⟨s5, rfl, e5⟩ := string_of_trod (by simpa using hel 5 (by decide))
  subst e0 e1 e2 e3 e4 e5
  simp only [Prod.mk.injEq, Rows.laid_fretwork_ring_names] at hx
  have hh := hx.1
  simp at hh
  have str : ∀ {s : ByteArray} {l : List UInt8}, l = s.data.toList → s = ⟨l.toArray⟩ := by
    intro s l hl; obtain ⟨⟨d⟩⟩ := s; exact congrArg (fun x : List UInt8 => (⟨x.toArray⟩ : ByteArray)) hl.symm
  have ecs : cs0 = #[.string s0, .string s1, .string s2, .string s3, .string s4, .string s5] := by rw [← Array.toArray_toList (xs := cs0), hcs]
  subst ecs
  have cell := fun k => World.var?_cell hg0 hv0 k
  clear hel hxl hlen hcs hd0
  obtain ⟨h0, h1, h2, h3, h4, h5⟩ := hh
  obtain ⟨d0⟩ := s0
  simp only at h0
  subst h0
  obtain rfl := str h1
  obtain rfl := str h2
  obtain rfl := str h3
  obtain rfl := str h4
  obtain rfl := str h5
  have c0 : W.cell? ⟨0, 0, none⟩ = some (.string ⟨#[]⟩) := cell 0
  exact ⟨block_lt_of_cell c0, c0, cell 1, cell 2, cell 3, cell 4, cell 5⟩
end Go.Proofs.YtekkgidoblddfaaDoorRR
