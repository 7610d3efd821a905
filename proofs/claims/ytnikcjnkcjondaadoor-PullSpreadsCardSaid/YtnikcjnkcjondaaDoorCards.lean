/-
  DERIVED. GIVEN WITH THE SEED: THE CARDS: each row of YtnikcjnkcjondaaDoorRows.lean that lists a variable, with what it lists TIED to the program's text (the seventh form; the later family's looks); each row that meets fmt, with fmt's text TOLD by the authors' own Lean function (tested against real Go, not proved from fmt's source: count such statements apart). THE CARD IS WHAT COUNTS. Prove the row's statement (the work); the ties are given (YtnikcjnkcjondaaDoorTie.lean); close each card by the builder's one call (the guide's Derived/Test/ToyasCard.lean, 'card_holds'). Laid BY PROGRAM, IN A SANDBOX (cutbox-door.mjs). By AI agents, Wed Nov 11 2026. No macro, syntax, notation, axiom, sorry.
-/
import Derived.Test.YtnikcjnkcjondaaDoorRows
import GoSem.ClaimSeven
namespace Go.Proofs.YtnikcjnkcjondaaDoor
namespace Rows

/-- THE TIED CARD OF 'fretworklaw13.PullSpreads'. -/
def pullSpreadsCard : Claim7 := { stood := { row := pullSpreadsRow, standIns := [], harness := (true, "c64d5597fb542cca65c6ec448fa64930ebc391c631db8c59b8f14a1082ffb306"), looks := false }, kinds := [], alts := [], laidByText := true, laidKinds := [.data], laidTests := true, laidLooks := .later }
def PullSpreadsCardSaid : Prop := Claim7.holds Tryd.pinned (.plain (OpenSpec.ofChange pullSpreadsSpec)) pullSpreadsCard

/-- THE TIED CARD OF 'fretworklaw13.PullFinds'. -/
def pullFindsCard : Claim7 := { stood := { row := pullFindsRow, standIns := [], harness := (true, "c64d5597fb542cca65c6ec448fa64930ebc391c631db8c59b8f14a1082ffb306"), looks := false }, kinds := [], alts := [], laidByText := true, laidKinds := [.data], laidTests := true, laidLooks := .later }
def PullFindsCardSaid : Prop := Claim7.holds Tryd.pinned (.plain (OpenSpec.ofChange pullFindsSpec)) pullFindsCard

/-- THE SECOND FORM's CARD OF 'fretworklaw13.PullSpreads'. -/
def pullSpreadsUptoCard : Claim7 := { stood := { row := pullSpreadsUptoRow, standIns := [], harness := (true, "c64d5597fb542cca65c6ec448fa64930ebc391c631db8c59b8f14a1082ffb306"), looks := false }, kinds := [], alts := [], laidByText := true, laidKinds := [.data], laidTests := true, laidLooks := .later }
def PullSpreadsUptoCardSaid : Prop := Claim7.holds Tryd.pinned (.plain (OpenSpec.upto pullSpreadsSpec)) pullSpreadsUptoCard

/-- THE SECOND FORM's CARD OF 'fretworklaw13.PullFinds'. -/
def pullFindsUptoCard : Claim7 := { stood := { row := pullFindsUptoRow, standIns := [], harness := (true, "c64d5597fb542cca65c6ec448fa64930ebc391c631db8c59b8f14a1082ffb306"), looks := false }, kinds := [], alts := [], laidByText := true, laidKinds := [.data], laidTests := true, laidLooks := .later }
def PullFindsUptoCardSaid : Prop := Claim7.holds Tryd.pinned (.plain (OpenSpec.upto pullFindsSpec)) pullFindsUptoCard
end Rows
end Go.Proofs.YtnikcjnkcjondaaDoor
