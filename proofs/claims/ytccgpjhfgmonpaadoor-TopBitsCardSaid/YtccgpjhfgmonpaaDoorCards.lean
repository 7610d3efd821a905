/-
  DERIVED. GIVEN WITH THE SEED: THE CARDS: each row of YtccgpjhfgmonpaaDoorRows.lean that lists a variable, with what it lists TIED to the program's text (the seventh form; the later family's looks); each row that meets fmt, with fmt's text TOLD by the authors' own Lean function (tested against real Go, not proved from fmt's source: count such statements apart). THE CARD IS WHAT COUNTS. Prove the row's statement (the work); the ties are given (YtccgpjhfgmonpaaDoorTie.lean); close each card by the builder's one call (the guide's Derived/Test/ToyasCard.lean, 'card_holds'). Laid BY PROGRAM, IN A SANDBOX (cutbox-door.mjs). By AI agents, Wed Nov 11 2026. No macro, syntax, notation, axiom, sorry.
-/
import Derived.Test.YtccgpjhfgmonpaaDoorRows
import GoSem.ClaimSeven
namespace Go.Proofs.YtccgpjhfgmonpaaDoor
namespace Rows

/-- THE TIED CARD OF 'fretworklaw03.FlagsMake'. -/
def flagsMakeCard : Claim7 := { stood := { row := flagsMakeRow, standIns := [], harness := (true, "9268e12c845d76d2aa2a4cfb135aaabafab68d60d8eaaf74b76c2ecb4247965b"), looks := true }, kinds := [], alts := [], laidByText := true, laidKinds := [.data], laidTests := true, laidLooks := .later }
def FlagsMakeCardSaid : Prop := Claim7.holds Tryd.pinned (.plain (OpenSpec.ofChange flagsMakeSpec)) flagsMakeCard

/-- THE TIED CARD OF 'fretworklaw03.FlagsAsk'. -/
def flagsAskCard : Claim7 := { stood := { row := flagsAskRow, standIns := [], harness := (true, "9268e12c845d76d2aa2a4cfb135aaabafab68d60d8eaaf74b76c2ecb4247965b"), looks := true }, kinds := [], alts := [], laidByText := true, laidKinds := [.data], laidTests := true, laidLooks := .later }
def FlagsAskCardSaid : Prop := Claim7.holds Tryd.pinned (.plain (OpenSpec.ofChange flagsAskSpec)) flagsAskCard

/-- THE TIED CARD OF 'fretworklaw03.FlagsJoin'. -/
def flagsJoinCard : Claim7 := { stood := { row := flagsJoinRow, standIns := [], harness := (true, "9268e12c845d76d2aa2a4cfb135aaabafab68d60d8eaaf74b76c2ecb4247965b"), looks := true }, kinds := [], alts := [], laidByText := true, laidKinds := [.data], laidTests := true, laidLooks := .later }
def FlagsJoinCardSaid : Prop := Claim7.holds Tryd.pinned (.plain (OpenSpec.ofChange flagsJoinSpec)) flagsJoinCard

/-- THE TIED CARD OF 'fretworklaw03.FlagsRanks'. -/
def flagsRanksCard : Claim7 := { stood := { row := flagsRanksRow, standIns := [], harness := (true, "9268e12c845d76d2aa2a4cfb135aaabafab68d60d8eaaf74b76c2ecb4247965b"), looks := true }, kinds := [], alts := [], laidByText := true, laidKinds := [.data], laidTests := true, laidLooks := .later }
def FlagsRanksCardSaid : Prop := Claim7.holds Tryd.pinned (.plain (OpenSpec.ofChange flagsRanksSpec)) flagsRanksCard

/-- THE TIED CARD OF 'fretworklaw03.FlagsSets'. -/
def flagsSetsCard : Claim7 := { stood := { row := flagsSetsRow, standIns := [], harness := (true, "9268e12c845d76d2aa2a4cfb135aaabafab68d60d8eaaf74b76c2ecb4247965b"), looks := true }, kinds := [], alts := [], laidByText := true, laidKinds := [.data], laidTests := true, laidLooks := .later }
def FlagsSetsCardSaid : Prop := Claim7.holds Tryd.pinned (.plain (OpenSpec.ofChange flagsSetsSpec)) flagsSetsCard

/-- THE TIED CARD OF 'fretworklaw03.FlagsParts'. -/
def flagsPartsCard : Claim7 := { stood := { row := flagsPartsRow, standIns := [], harness := (true, "9268e12c845d76d2aa2a4cfb135aaabafab68d60d8eaaf74b76c2ecb4247965b"), looks := true }, kinds := [], alts := [], laidByText := true, laidKinds := [.data], laidTests := true, laidLooks := .later }
def FlagsPartsCardSaid : Prop := Claim7.holds Tryd.pinned (.plain (OpenSpec.ofChange flagsPartsSpec)) flagsPartsCard

/-- THE TIED CARD OF 'fretworktop.TopBits'. -/
def topBitsCard : Claim7 := { stood := { row := topBitsRow, standIns := [], harness := (true, "9268e12c845d76d2aa2a4cfb135aaabafab68d60d8eaaf74b76c2ecb4247965b"), looks := true }, kinds := [], alts := [], laidByText := true, laidKinds := [.data], laidTests := true, laidLooks := .later }
def TopBitsCardSaid : Prop := Claim7.holds Tryd.pinned (.plain (OpenSpec.ofChange topBitsSpec)) topBitsCard

/-- THE SECOND FORM's CARD OF 'fretworklaw03.FlagsMake'. -/
def flagsMakeUptoCard : Claim7 := { stood := { row := flagsMakeUptoRow, standIns := [], harness := (true, "9268e12c845d76d2aa2a4cfb135aaabafab68d60d8eaaf74b76c2ecb4247965b"), looks := true }, kinds := [], alts := [], laidByText := true, laidKinds := [.data], laidTests := true, laidLooks := .later }
def FlagsMakeUptoCardSaid : Prop := Claim7.holds Tryd.pinned (.plain (OpenSpec.upto flagsMakeSpec)) flagsMakeUptoCard

/-- THE SECOND FORM's CARD OF 'fretworklaw03.FlagsAsk'. -/
def flagsAskUptoCard : Claim7 := { stood := { row := flagsAskUptoRow, standIns := [], harness := (true, "9268e12c845d76d2aa2a4cfb135aaabafab68d60d8eaaf74b76c2ecb4247965b"), looks := true }, kinds := [], alts := [], laidByText := true, laidKinds := [.data], laidTests := true, laidLooks := .later }
def FlagsAskUptoCardSaid : Prop := Claim7.holds Tryd.pinned (.plain (OpenSpec.upto flagsAskSpec)) flagsAskUptoCard

/-- THE SECOND FORM's CARD OF 'fretworklaw03.FlagsJoin'. -/
def flagsJoinUptoCard : Claim7 := { stood := { row := flagsJoinUptoRow, standIns := [], harness := (true, "9268e12c845d76d2aa2a4cfb135aaabafab68d60d8eaaf74b76c2ecb4247965b"), looks := true }, kinds := [], alts := [], laidByText := true, laidKinds := [.data], laidTests := true, laidLooks := .later }
def FlagsJoinUptoCardSaid : Prop := Claim7.holds Tryd.pinned (.plain (OpenSpec.upto flagsJoinSpec)) flagsJoinUptoCard

/-- THE SECOND FORM's CARD OF 'fretworklaw03.FlagsRanks'. -/
def flagsRanksUptoCard : Claim7 := { stood := { row := flagsRanksUptoRow, standIns := [], harness := (true, "9268e12c845d76d2aa2a4cfb135aaabafab68d60d8eaaf74b76c2ecb4247965b"), looks := true }, kinds := [], alts := [], laidByText := true, laidKinds := [.data], laidTests := true, laidLooks := .later }
def FlagsRanksUptoCardSaid : Prop := Claim7.holds Tryd.pinned (.plain (OpenSpec.upto flagsRanksSpec)) flagsRanksUptoCard

/-- THE SECOND FORM's CARD OF 'fretworklaw03.FlagsSets'. -/
def flagsSetsUptoCard : Claim7 := { stood := { row := flagsSetsUptoRow, standIns := [], harness := (true, "9268e12c845d76d2aa2a4cfb135aaabafab68d60d8eaaf74b76c2ecb4247965b"), looks := true }, kinds := [], alts := [], laidByText := true, laidKinds := [.data], laidTests := true, laidLooks := .later }
def FlagsSetsUptoCardSaid : Prop := Claim7.holds Tryd.pinned (.plain (OpenSpec.upto flagsSetsSpec)) flagsSetsUptoCard

/-- THE SECOND FORM's CARD OF 'fretworklaw03.FlagsParts'. -/
def flagsPartsUptoCard : Claim7 := { stood := { row := flagsPartsUptoRow, standIns := [], harness := (true, "9268e12c845d76d2aa2a4cfb135aaabafab68d60d8eaaf74b76c2ecb4247965b"), looks := true }, kinds := [], alts := [], laidByText := true, laidKinds := [.data], laidTests := true, laidLooks := .later }
def FlagsPartsUptoCardSaid : Prop := Claim7.holds Tryd.pinned (.plain (OpenSpec.upto flagsPartsSpec)) flagsPartsUptoCard

/-- THE SECOND FORM's CARD OF 'fretworktop.TopBits'. -/
def topBitsUptoCard : Claim7 := { stood := { row := topBitsUptoRow, standIns := [], harness := (true, "9268e12c845d76d2aa2a4cfb135aaabafab68d60d8eaaf74b76c2ecb4247965b"), looks := true }, kinds := [], alts := [], laidByText := true, laidKinds := [.data], laidTests := true, laidLooks := .later }
def TopBitsUptoCardSaid : Prop := Claim7.holds Tryd.pinned (.plain (OpenSpec.upto topBitsSpec)) topBitsUptoCard
end Rows
end Go.Proofs.YtccgpjhfgmonpaaDoor
