/-
  DERIVED. GIVEN WITH THE SEED: THE CARDS: each row of YtjomjfjbpcafhaaDoorRows.lean that lists a variable, with what it lists TIED to the program's text (the seventh form; the later family's looks); each row that meets fmt, with fmt's text TOLD by the authors' own Lean function (tested against real Go, not proved from fmt's source: count such statements apart). THE CARD IS WHAT COUNTS. Prove the row's statement (the work); the ties are given (YtjomjfjbpcafhaaDoorTie.lean); close each card by the builder's one call (the guide's Derived/Test/ToyasCard.lean, 'card_holds'). Laid BY PROGRAM, IN A SANDBOX (cutbox-door.mjs). By AI agents, Wed Nov 11 2026. No macro, syntax, notation, axiom, sorry.
-/
import Derived.Test.YtjomjfjbpcafhaaDoorRows
import GoSem.ClaimSeven
namespace Go.Proofs.YtjomjfjbpcafhaaDoor
namespace Rows

/-- THE TIED CARD OF 'fretworklaw10.DevecOf'. -/
def devecOfCard : Claim7 := { stood := { row := devecOfRow, standIns := [], harness := (true, "5311617f661d908b57e3b03707261593d2d6545aa0124017e21c46af0ab71dd3"), looks := false }, kinds := [], alts := [], laidByText := true, laidKinds := [.data], laidTests := true, laidLooks := .later }
def DevecOfCardSaid : Prop := Claim7.holds Tryd.pinned (.plain (OpenSpec.ofChange devecOfSpec)) devecOfCard

/-- THE TIED CARD OF 'fretworklaw10.DevecDoes'. -/
def devecDoesCard : Claim7 := { stood := { row := devecDoesRow, standIns := [], harness := (true, "5311617f661d908b57e3b03707261593d2d6545aa0124017e21c46af0ab71dd3"), looks := false }, kinds := [], alts := [], laidByText := true, laidKinds := [.data], laidTests := true, laidLooks := .later }
def DevecDoesCardSaid : Prop := Claim7.holds Tryd.pinned (.plain (OpenSpec.ofChange devecDoesSpec)) devecDoesCard

/-- THE TIED CARD OF 'fretworklaw10.DevecBack'. -/
def devecBackCard : Claim7 := { stood := { row := devecBackRow, standIns := [], harness := (true, "5311617f661d908b57e3b03707261593d2d6545aa0124017e21c46af0ab71dd3"), looks := false }, kinds := [], alts := [], laidByText := true, laidKinds := [.data], laidTests := true, laidLooks := .later }
def DevecBackCardSaid : Prop := Claim7.holds Tryd.pinned (.plain (OpenSpec.ofChange devecBackSpec)) devecBackCard

/-- THE TIED CARD OF 'fretworklaw10.DevecAlike'. -/
def devecAlikeCard : Claim7 := { stood := { row := devecAlikeRow, standIns := [], harness := (true, "5311617f661d908b57e3b03707261593d2d6545aa0124017e21c46af0ab71dd3"), looks := false }, kinds := [], alts := [], laidByText := true, laidKinds := [.data], laidTests := true, laidLooks := .later }
def DevecAlikeCardSaid : Prop := Claim7.holds Tryd.pinned (.plain (OpenSpec.ofChange devecAlikeSpec)) devecAlikeCard

/-- THE TIED CARD OF 'fretworklaw10.DevecOnly'. -/
def devecOnlyCard : Claim7 := { stood := { row := devecOnlyRow, standIns := [], harness := (true, "5311617f661d908b57e3b03707261593d2d6545aa0124017e21c46af0ab71dd3"), looks := false }, kinds := [], alts := [], laidByText := true, laidKinds := [.data], laidTests := true, laidLooks := .later }
def DevecOnlyCardSaid : Prop := Claim7.holds Tryd.pinned (.plain (OpenSpec.ofChange devecOnlySpec)) devecOnlyCard

/-- THE TIED CARD OF 'fretworktop.TopForms'. -/
def topFormsCard : Claim7 := { stood := { row := topFormsRow, standIns := [], harness := (true, "5311617f661d908b57e3b03707261593d2d6545aa0124017e21c46af0ab71dd3"), looks := false }, kinds := [], alts := [], laidByText := true, laidKinds := [.data], laidTests := true, laidLooks := .later }
def TopFormsCardSaid : Prop := Claim7.holds Tryd.pinned (.plain (OpenSpec.ofChange topFormsSpec)) topFormsCard

/-- THE SECOND FORM's CARD OF 'fretworklaw10.DevecOf'. -/
def devecOfUptoCard : Claim7 := { stood := { row := devecOfUptoRow, standIns := [], harness := (true, "5311617f661d908b57e3b03707261593d2d6545aa0124017e21c46af0ab71dd3"), looks := false }, kinds := [], alts := [], laidByText := true, laidKinds := [.data], laidTests := true, laidLooks := .later }
def DevecOfUptoCardSaid : Prop := Claim7.holds Tryd.pinned (.plain (OpenSpec.upto devecOfSpec)) devecOfUptoCard

/-- THE SECOND FORM's CARD OF 'fretworklaw10.DevecDoes'. -/
def devecDoesUptoCard : Claim7 := { stood := { row := devecDoesUptoRow, standIns := [], harness := (true, "5311617f661d908b57e3b03707261593d2d6545aa0124017e21c46af0ab71dd3"), looks := false }, kinds := [], alts := [], laidByText := true, laidKinds := [.data], laidTests := true, laidLooks := .later }
def DevecDoesUptoCardSaid : Prop := Claim7.holds Tryd.pinned (.plain (OpenSpec.upto devecDoesSpec)) devecDoesUptoCard

/-- THE SECOND FORM's CARD OF 'fretworklaw10.DevecBack'. -/
def devecBackUptoCard : Claim7 := { stood := { row := devecBackUptoRow, standIns := [], harness := (true, "5311617f661d908b57e3b03707261593d2d6545aa0124017e21c46af0ab71dd3"), looks := false }, kinds := [], alts := [], laidByText := true, laidKinds := [.data], laidTests := true, laidLooks := .later }
def DevecBackUptoCardSaid : Prop := Claim7.holds Tryd.pinned (.plain (OpenSpec.upto devecBackSpec)) devecBackUptoCard

/-- THE SECOND FORM's CARD OF 'fretworklaw10.DevecAlike'. -/
def devecAlikeUptoCard : Claim7 := { stood := { row := devecAlikeUptoRow, standIns := [], harness := (true, "5311617f661d908b57e3b03707261593d2d6545aa0124017e21c46af0ab71dd3"), looks := false }, kinds := [], alts := [], laidByText := true, laidKinds := [.data], laidTests := true, laidLooks := .later }
def DevecAlikeUptoCardSaid : Prop := Claim7.holds Tryd.pinned (.plain (OpenSpec.upto devecAlikeSpec)) devecAlikeUptoCard

/-- THE SECOND FORM's CARD OF 'fretworklaw10.DevecOnly'. -/
def devecOnlyUptoCard : Claim7 := { stood := { row := devecOnlyUptoRow, standIns := [], harness := (true, "5311617f661d908b57e3b03707261593d2d6545aa0124017e21c46af0ab71dd3"), looks := false }, kinds := [], alts := [], laidByText := true, laidKinds := [.data], laidTests := true, laidLooks := .later }
def DevecOnlyUptoCardSaid : Prop := Claim7.holds Tryd.pinned (.plain (OpenSpec.upto devecOnlySpec)) devecOnlyUptoCard

/-- THE SECOND FORM's CARD OF 'fretworktop.TopForms'. -/
def topFormsUptoCard : Claim7 := { stood := { row := topFormsUptoRow, standIns := [], harness := (true, "5311617f661d908b57e3b03707261593d2d6545aa0124017e21c46af0ab71dd3"), looks := false }, kinds := [], alts := [], laidByText := true, laidKinds := [.data], laidTests := true, laidLooks := .later }
def TopFormsUptoCardSaid : Prop := Claim7.holds Tryd.pinned (.plain (OpenSpec.upto topFormsSpec)) topFormsUptoCard
end Rows
end Go.Proofs.YtjomjfjbpcafhaaDoor
