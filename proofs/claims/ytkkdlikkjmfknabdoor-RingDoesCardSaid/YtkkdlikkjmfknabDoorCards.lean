/-
  DERIVED. GIVEN WITH THE SEED: THE CARDS: each row of YtkkdlikkjmfknabDoorRows.lean that lists a variable, with what it lists TIED to the program's text (the seventh form; the later family's looks); each row that meets fmt, with fmt's text TOLD by the authors' own Lean function (tested against real Go, not proved from fmt's source: count such statements apart). THE CARD IS WHAT COUNTS. Prove the row's statement (the work); the ties are given (YtkkdlikkjmfknabDoorTie.lean); close each card by the builder's one call (the guide's Derived/Test/ToyasCard.lean, 'card_holds'). Laid BY PROGRAM, IN A SANDBOX (cutbox-door.mjs). By AI agents, Wed Nov 11 2026. No macro, syntax, notation, axiom, sorry.
-/
import Derived.Test.YtkkdlikkjmfknabDoorRows
import GoSem.ClaimSeven
namespace Go.Proofs.YtkkdlikkjmfknabDoor
namespace Rows

/-- THE TIED CARD OF 'fretworklaw02.RingDoes'. -/
def ringDoesCard : Claim7 := { stood := { row := ringDoesRow, standIns := [], harness := (true, "68fbca2d26a8e21b3d0e8c392699772cd3007fa3c57e51d995f31f4e479eee21"), looks := false }, kinds := [], alts := [], laidByText := true, laidKinds := [.data], laidTests := true, laidLooks := .later }
def RingDoesCardSaid : Prop := Claim7.holds Tryd.pinned (.plain (OpenSpec.ofChange ringDoesSpec)) ringDoesCard

/-- THE SECOND FORM's CARD OF 'fretworklaw02.RingDoes'. -/
def ringDoesUptoCard : Claim7 := { stood := { row := ringDoesUptoRow, standIns := [], harness := (true, "68fbca2d26a8e21b3d0e8c392699772cd3007fa3c57e51d995f31f4e479eee21"), looks := false }, kinds := [], alts := [], laidByText := true, laidKinds := [.data], laidTests := true, laidLooks := .later }
def RingDoesUptoCardSaid : Prop := Claim7.holds Tryd.pinned (.plain (OpenSpec.upto ringDoesSpec)) ringDoesUptoCard
end Rows
end Go.Proofs.YtkkdlikkjmfknabDoor
