/-
  DERIVED. GIVEN WITH THE SEED: THE CARDS: each row of YtgefmokmjdeecaaDoorRows.lean that lists a variable, with what it lists TIED to the program's text (the seventh form; the later family's looks); each row that meets fmt, with fmt's text TOLD by the authors' own Lean function (tested against real Go, not proved from fmt's source: count such statements apart). THE CARD IS WHAT COUNTS. Prove the row's statement (the work); the ties are given (YtgefmokmjdeecaaDoorTie.lean); close each card by the builder's one call (the guide's Derived/Test/ToyasCard.lean, 'card_holds'). Laid BY PROGRAM, IN A SANDBOX (cutbox-door.mjs). By AI agents, Wed Nov 11 2026. No macro, syntax, notation, axiom, sorry.
-/
import Derived.Test.YtgefmokmjdeecaaDoorRows
import GoSem.ClaimSeven
namespace Go.Proofs.YtgefmokmjdeecaaDoor
namespace Rows

/-- THE TIED CARD OF 'fretworktop.TopBothWays'. -/
def topBothWaysCard : Claim7 := { stood := { row := topBothWaysRow, standIns := [], harness := (true, "e058826089927637e033e39f25749af8e9f54540aa7bc585ef18f7f3a6165ef2"), looks := false }, kinds := [], alts := [], laidByText := true, laidKinds := [.data], laidTests := true, laidLooks := .later }
def TopBothWaysCardSaid : Prop := Claim7.holds Tryd.pinned (.plain (OpenSpec.ofChange topBothWaysSpec)) topBothWaysCard

/-- THE SECOND FORM's CARD OF 'fretworktop.TopBothWays'. -/
def topBothWaysUptoCard : Claim7 := { stood := { row := topBothWaysUptoRow, standIns := [], harness := (true, "e058826089927637e033e39f25749af8e9f54540aa7bc585ef18f7f3a6165ef2"), looks := false }, kinds := [], alts := [], laidByText := true, laidKinds := [.data], laidTests := true, laidLooks := .later }
def TopBothWaysUptoCardSaid : Prop := Claim7.holds Tryd.pinned (.plain (OpenSpec.upto topBothWaysSpec)) topBothWaysUptoCard
end Rows
end Go.Proofs.YtgefmokmjdeecaaDoor
