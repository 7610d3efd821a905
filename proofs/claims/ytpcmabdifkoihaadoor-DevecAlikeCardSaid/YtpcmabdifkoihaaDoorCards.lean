/-
  DERIVED. GIVEN WITH THE SEED: THE CARDS: each row of YtpcmabdifkoihaaDoorRows.lean that lists a variable, with what it lists TIED to the program's text (the seventh form; the later family's looks); each row that meets fmt, with fmt's text TOLD by the authors' own Lean function (tested against real Go, not proved from fmt's source: count such statements apart). THE CARD IS WHAT COUNTS. Prove the row's statement (the work); the ties are given (YtpcmabdifkoihaaDoorTie.lean); close each card by the builder's one call (the guide's Derived/Test/ToyasCard.lean, 'card_holds'). Laid BY PROGRAM, IN A SANDBOX (cutbox-door.mjs). By AI agents, Wed Nov 11 2026. No macro, syntax, notation, axiom, sorry.
-/
import Derived.Test.YtpcmabdifkoihaaDoorRows
import GoSem.ClaimSeven
namespace Go.Proofs.YtpcmabdifkoihaaDoor
namespace Rows

/-- THE TIED CARD OF 'fretworklaw10.DevecAlike'. -/
def devecAlikeCard : Claim7 := { stood := { row := devecAlikeRow, standIns := [], harness := (true, "cf028df58bb4127c9273b30ebc0f84b70268d3805c6ec44d435f2365879f9485"), looks := false }, kinds := [], alts := [], laidByText := true, laidKinds := [.data], laidTests := true, laidLooks := .later }
def DevecAlikeCardSaid : Prop := Claim7.holds Tryd.pinned (.plain (OpenSpec.ofChange devecAlikeSpec)) devecAlikeCard

/-- THE SECOND FORM's CARD OF 'fretworklaw10.DevecAlike'. -/
def devecAlikeUptoCard : Claim7 := { stood := { row := devecAlikeUptoRow, standIns := [], harness := (true, "cf028df58bb4127c9273b30ebc0f84b70268d3805c6ec44d435f2365879f9485"), looks := false }, kinds := [], alts := [], laidByText := true, laidKinds := [.data], laidTests := true, laidLooks := .later }
def DevecAlikeUptoCardSaid : Prop := Claim7.holds Tryd.pinned (.plain (OpenSpec.upto devecAlikeSpec)) devecAlikeUptoCard
end Rows
end Go.Proofs.YtpcmabdifkoihaaDoor
