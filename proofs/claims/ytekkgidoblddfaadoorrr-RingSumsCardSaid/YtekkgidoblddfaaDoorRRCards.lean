/-
  DERIVED. GIVEN WITH THE SEED: THE CARDS: each row of YtekkgidoblddfaaDoorRRRows.lean that lists a variable, with what it lists TIED to the program's text (the seventh form; the later family's looks); each row that meets fmt, with fmt's text TOLD by the authors' own Lean function (tested against real Go, not proved from fmt's source: count such statements apart). THE CARD IS WHAT COUNTS. Prove the row's statement (the work); the ties are given (YtekkgidoblddfaaDoorRRTie.lean); close each card by the builder's one call (the guide's Derived/Test/ToyasCard.lean, 'card_holds'). Laid BY PROGRAM, IN A SANDBOX (cutbox-door.mjs). By AI agents, Wed Nov 11 2026. No macro, syntax, notation, axiom, sorry.
-/
import Derived.Test.YtekkgidoblddfaaDoorRRRows
import GoSem.ClaimSeven
namespace Go.Proofs.YtekkgidoblddfaaDoorRR
namespace Rows

/-- THE TIED CARD OF 'fretworklaw02.RingSums'. -/
def ringSumsCard : Claim7 := { stood := { row := ringSumsRow, standIns := [], harness := (true, "4fd10af7320b0c94d0d24254335f2c4821018f987deec2fcbda11486e83c2ae5"), looks := false }, kinds := [], alts := [], laidByText := true, laidKinds := [.data], laidTests := true, laidLooks := .later }
def RingSumsCardSaid : Prop := Claim7.holds Tryd.pinned (.plain (OpenSpec.ofChange ringSumsSpec)) ringSumsCard

/-- THE TIED CARD OF 'fretworklaw02.RingSpreads'. -/
def ringSpreadsCard : Claim7 := { stood := { row := ringSpreadsRow, standIns := [], harness := (true, "4fd10af7320b0c94d0d24254335f2c4821018f987deec2fcbda11486e83c2ae5"), looks := false }, kinds := [], alts := [], laidByText := true, laidKinds := [.data], laidTests := true, laidLooks := .later }
def RingSpreadsCardSaid : Prop := Claim7.holds Tryd.pinned (.plain (OpenSpec.ofChange ringSpreadsSpec)) ringSpreadsCard

/-- THE TIED CARD OF 'fretworklaw02.RingExact'. -/
def ringExactCard : Claim7 := { stood := { row := ringExactRow, standIns := [], harness := (true, "4fd10af7320b0c94d0d24254335f2c4821018f987deec2fcbda11486e83c2ae5"), looks := false }, kinds := [], alts := [], laidByText := true, laidKinds := [.data], laidTests := true, laidLooks := .later }
def RingExactCardSaid : Prop := Claim7.holds Tryd.pinned (.plain (OpenSpec.ofChange ringExactSpec)) ringExactCard

/-- THE SECOND FORM's CARD OF 'fretworklaw02.RingSums'. -/
def ringSumsUptoCard : Claim7 := { stood := { row := ringSumsUptoRow, standIns := [], harness := (true, "4fd10af7320b0c94d0d24254335f2c4821018f987deec2fcbda11486e83c2ae5"), looks := false }, kinds := [], alts := [], laidByText := true, laidKinds := [.data], laidTests := true, laidLooks := .later }
def RingSumsUptoCardSaid : Prop := Claim7.holds Tryd.pinned (.plain (OpenSpec.upto ringSumsSpec)) ringSumsUptoCard

/-- THE SECOND FORM's CARD OF 'fretworklaw02.RingSpreads'. -/
def ringSpreadsUptoCard : Claim7 := { stood := { row := ringSpreadsUptoRow, standIns := [], harness := (true, "4fd10af7320b0c94d0d24254335f2c4821018f987deec2fcbda11486e83c2ae5"), looks := false }, kinds := [], alts := [], laidByText := true, laidKinds := [.data], laidTests := true, laidLooks := .later }
def RingSpreadsUptoCardSaid : Prop := Claim7.holds Tryd.pinned (.plain (OpenSpec.upto ringSpreadsSpec)) ringSpreadsUptoCard

/-- THE SECOND FORM's CARD OF 'fretworklaw02.RingExact'. -/
def ringExactUptoCard : Claim7 := { stood := { row := ringExactUptoRow, standIns := [], harness := (true, "4fd10af7320b0c94d0d24254335f2c4821018f987deec2fcbda11486e83c2ae5"), looks := false }, kinds := [], alts := [], laidByText := true, laidKinds := [.data], laidTests := true, laidLooks := .later }
def RingExactUptoCardSaid : Prop := Claim7.holds Tryd.pinned (.plain (OpenSpec.upto ringExactSpec)) ringExactUptoCard
end Rows
end Go.Proofs.YtekkgidoblddfaaDoorRR
