/-
  DERIVED. GIVEN WITH THE SEED: THE CARDS: each row of YtlcfdmjkbaegpaaDoorRows.lean that lists a variable, with what it lists TIED to the program's text (the seventh form; the later family's looks); each row that meets fmt, with fmt's text TOLD by the authors' own Lean function (tested against real Go, not proved from fmt's source: count such statements apart). THE CARD IS WHAT COUNTS. Prove the row's statement (the work); the ties are given (YtlcfdmjkbaegpaaDoorTie.lean); close each card by the builder's one call (the guide's Derived/Test/ToyasCard.lean, 'card_holds'). Laid BY PROGRAM, IN A SANDBOX (cutbox-door.mjs). By AI agents, Wed Nov 11 2026. No macro, syntax, notation, axiom, sorry.
-/
import Derived.Test.YtlcfdmjkbaegpaaDoorRows
import GoSem.ClaimSeven
namespace Go.Proofs.YtlcfdmjkbaegpaaDoor
namespace Rows

/-- THE TIED CARD OF 'fretworklaw13.PullTells'. -/
def pullTellsCard : Claim7 := { stood := { row := pullTellsRow, standIns := [], harness := (true, "7ce12855f6a71ff557f74914cbeeaf207f203b603b5797b0b21cfbfc1b63691f"), looks := false }, kinds := [], alts := [], laidByText := true, laidKinds := [.data], laidTests := true, laidLooks := .later }
def PullTellsCardSaid : Prop := Claim7.holds Tryd.pinned (.plain (OpenSpec.ofChange pullTellsSpec)) pullTellsCard

/-- THE TIED CARD OF 'fretworklaw13.PullRaw'. -/
def pullRawCard : Claim7 := { stood := { row := pullRawRow, standIns := [], harness := (true, "7ce12855f6a71ff557f74914cbeeaf207f203b603b5797b0b21cfbfc1b63691f"), looks := false }, kinds := [], alts := [], laidByText := true, laidKinds := [.data], laidTests := true, laidLooks := .later }
def PullRawCardSaid : Prop := Claim7.holds Tryd.pinned (.plain (OpenSpec.ofChange pullRawSpec)) pullRawCard

/-- THE TIED CARD OF 'fretworklaw13.PullSpreads'. -/
def pullSpreadsCard : Claim7 := { stood := { row := pullSpreadsRow, standIns := [], harness := (true, "7ce12855f6a71ff557f74914cbeeaf207f203b603b5797b0b21cfbfc1b63691f"), looks := false }, kinds := [], alts := [], laidByText := true, laidKinds := [.data], laidTests := true, laidLooks := .later }
def PullSpreadsCardSaid : Prop := Claim7.holds Tryd.pinned (.plain (OpenSpec.ofChange pullSpreadsSpec)) pullSpreadsCard

/-- THE TIED CARD OF 'fretworklaw13.PullParts'. -/
def pullPartsCard : Claim7 := { stood := { row := pullPartsRow, standIns := [], harness := (true, "7ce12855f6a71ff557f74914cbeeaf207f203b603b5797b0b21cfbfc1b63691f"), looks := false }, kinds := [], alts := [], laidByText := true, laidKinds := [.data], laidTests := true, laidLooks := .later }
def PullPartsCardSaid : Prop := Claim7.holds Tryd.pinned (.plain (OpenSpec.ofChange pullPartsSpec)) pullPartsCard

/-- THE TIED CARD OF 'fretworklaw13.PullFinds'. -/
def pullFindsCard : Claim7 := { stood := { row := pullFindsRow, standIns := [], harness := (true, "7ce12855f6a71ff557f74914cbeeaf207f203b603b5797b0b21cfbfc1b63691f"), looks := false }, kinds := [], alts := [], laidByText := true, laidKinds := [.data], laidTests := true, laidLooks := .later }
def PullFindsCardSaid : Prop := Claim7.holds Tryd.pinned (.plain (OpenSpec.ofChange pullFindsSpec)) pullFindsCard

/-- THE SECOND FORM's CARD OF 'fretworklaw13.PullTells'. -/
def pullTellsUptoCard : Claim7 := { stood := { row := pullTellsUptoRow, standIns := [], harness := (true, "7ce12855f6a71ff557f74914cbeeaf207f203b603b5797b0b21cfbfc1b63691f"), looks := false }, kinds := [], alts := [], laidByText := true, laidKinds := [.data], laidTests := true, laidLooks := .later }
def PullTellsUptoCardSaid : Prop := Claim7.holds Tryd.pinned (.plain (OpenSpec.upto pullTellsSpec)) pullTellsUptoCard

/-- THE SECOND FORM's CARD OF 'fretworklaw13.PullRaw'. -/
def pullRawUptoCard : Claim7 := { stood := { row := pullRawUptoRow, standIns := [], harness := (true, "7ce12855f6a71ff557f74914cbeeaf207f203b603b5797b0b21cfbfc1b63691f"), looks := false }, kinds := [], alts := [], laidByText := true, laidKinds := [.data], laidTests := true, laidLooks := .later }
def PullRawUptoCardSaid : Prop := Claim7.holds Tryd.pinned (.plain (OpenSpec.upto pullRawSpec)) pullRawUptoCard

/-- THE SECOND FORM's CARD OF 'fretworklaw13.PullSpreads'. -/
def pullSpreadsUptoCard : Claim7 := { stood := { row := pullSpreadsUptoRow, standIns := [], harness := (true, "7ce12855f6a71ff557f74914cbeeaf207f203b603b5797b0b21cfbfc1b63691f"), looks := false }, kinds := [], alts := [], laidByText := true, laidKinds := [.data], laidTests := true, laidLooks := .later }
def PullSpreadsUptoCardSaid : Prop := Claim7.holds Tryd.pinned (.plain (OpenSpec.upto pullSpreadsSpec)) pullSpreadsUptoCard

/-- THE SECOND FORM's CARD OF 'fretworklaw13.PullParts'. -/
def pullPartsUptoCard : Claim7 := { stood := { row := pullPartsUptoRow, standIns := [], harness := (true, "7ce12855f6a71ff557f74914cbeeaf207f203b603b5797b0b21cfbfc1b63691f"), looks := false }, kinds := [], alts := [], laidByText := true, laidKinds := [.data], laidTests := true, laidLooks := .later }
def PullPartsUptoCardSaid : Prop := Claim7.holds Tryd.pinned (.plain (OpenSpec.upto pullPartsSpec)) pullPartsUptoCard

/-- THE SECOND FORM's CARD OF 'fretworklaw13.PullFinds'. -/
def pullFindsUptoCard : Claim7 := { stood := { row := pullFindsUptoRow, standIns := [], harness := (true, "7ce12855f6a71ff557f74914cbeeaf207f203b603b5797b0b21cfbfc1b63691f"), looks := false }, kinds := [], alts := [], laidByText := true, laidKinds := [.data], laidTests := true, laidLooks := .later }
def PullFindsUptoCardSaid : Prop := Claim7.holds Tryd.pinned (.plain (OpenSpec.upto pullFindsSpec)) pullFindsUptoCard
end Rows
end Go.Proofs.YtlcfdmjkbaegpaaDoor
