/-
  DERIVED. GIVEN WITH THE SEED: THE CARDS: each row of YtjjbpdldbdmoeaaGreatDoorRows.lean that lists a variable, with what it lists TIED to the program's text (the seventh form; the later family's looks); each row that meets fmt, with fmt's text TOLD by the authors' own Lean function (tested against real Go, not proved from fmt's source: count such statements apart). THE CARD IS WHAT COUNTS. Prove the row's statement (the work); the ties are given (YtjjbpdldbdmoeaaGreatDoorTie.lean); close each card by the builder's one call (the guide's Derived/Test/ToyasCard.lean, 'card_holds'). Laid BY PROGRAM, IN A SANDBOX (cutbox-door.mjs). By AI agents, Wed Nov 11 2026. No macro, syntax, notation, axiom, sorry.
-/
import Derived.Test.YtjjbpdldbdmoeaaGreatDoorRows
import GoSem.ClaimSeven
namespace Go.Proofs.YtjjbpdldbdmoeaaGreatDoor
namespace Rows

/-- THE TIED CARD OF 'fretworklaw14.PushPulls'. -/
def pushPullsCard : Claim7 := { stood := { row := pushPullsRow, standIns := [], harness := (true, "b83366038d95ddf932d315adfbc47e61bbc3d77c2212c6957acfb989f179233f"), looks := true }, kinds := [], alts := [], laidByText := true, laidKinds := [.data], laidTests := true, laidLooks := .later }
def PushPullsCardSaid : Prop := Claim7.holds Tryz.pinned (.plain (OpenSpec.ofChange pushPullsSpec)) pushPullsCard

/-- THE SECOND FORM's CARD OF 'fretworklaw14.PushPulls'. -/
def pushPullsUptoCard : Claim7 := { stood := { row := pushPullsUptoRow, standIns := [], harness := (true, "b83366038d95ddf932d315adfbc47e61bbc3d77c2212c6957acfb989f179233f"), looks := true }, kinds := [], alts := [], laidByText := true, laidKinds := [.data], laidTests := true, laidLooks := .later }
def PushPullsUptoCardSaid : Prop := Claim7.holds Tryz.pinned (.plain (OpenSpec.upto pushPullsSpec)) pushPullsUptoCard
end Rows
end Go.Proofs.YtjjbpdldbdmoeaaGreatDoor
