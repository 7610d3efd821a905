/-
  NARROWER THAN 'FOR EVERY INPUT', by the rows' own cells (each row's printed sentence says how): FlagsMake: laid · FlagsAsk: laid · FlagsJoin: laid · FlagsRanks: laid · FlagsSets: laid · FlagsParts: laid · TopBits: laid.
  DERIVED. THE GIVEN ROWS OF THIS SEAT. 7 by the template 'for every input the law returns true; each argument reads behind the call as it read before'; 0 by the template 'total and deterministic' (their statements: YtccgpjhfgmonpaaDoorTotals.lean).
  GIVEN WITH THE SEED: the statements are not yours to turn. If you find one false, say at which input.
  Laid BY PROGRAM, IN A SANDBOX (cutbox-rows.mjs): the forced cells as the released guide's own fill.sh prints them over the translation 3e05ded49ef5e571… (all of the seat's roots in one cut). By AI agents, Wed Nov 11 2026. No macro, syntax, notation, axiom, sorry.
-/
import Derived.Test.YtccgpjhfgmonpaaDoorChecked
import GoSem.Claim
import GoSem.ClaimJoined
import GoSem.ClaimMapViews
import Derived.JoinedTies
import Derived.KernelRfl
namespace Go.Proofs.YtccgpjhfgmonpaaDoor
/- THE CELL 'sum', in the pinned program and in every row, IS THE sha256 OF THE DUMP (.gsa) THAT YtccgpjhfgmonpaaDoorProg.lean LOADS. Nothing in Lean hashes anything: it is a label: what it is worth is what the hold of that sum in a sandbox is worth. -/
noncomputable def Tryd.pinned : Pinned := { name := "ytccgpjhfgmonpaadoor", sum := "3e05ded49ef5e571e0ad39c82f633abe764ea2c752cbc9719816279d7a09c076", checked := Tryd.checked }
namespace Rows
def none {H : Type} : Left H := { results := [], args := [] }

/- WHAT THE LISTED PACKAGE-LEVEL VARIABLES READ AS WHEN THE CALL BEGINS. Each datum BY PROGRAM (the guide's laid-datum.mjs) off the statement by which the dump's own 'gosem.cut.vars' lays the variable. In a bare row this is a premise. The card (YtccgpjhfgmonpaaDoorCards.lean) ties it to the program's text. -/
def laid_math_bits_deBruijn64tab {H : Type} : DataW H := .agg [.lit (.int .u8 0), .lit (.int .u8 1), .lit (.int .u8 56), .lit (.int .u8 2), .lit (.int .u8 57), .lit (.int .u8 49), .lit (.int .u8 28), .lit (.int .u8 3), .lit (.int .u8 61), .lit (.int .u8 58), .lit (.int .u8 42), .lit (.int .u8 50), .lit (.int .u8 38), .lit (.int .u8 29), .lit (.int .u8 17), .lit (.int .u8 4), .lit (.int .u8 62), .lit (.int .u8 47), .lit (.int .u8 59), .lit (.int .u8 36), .lit (.int .u8 45), .lit (.int .u8 43), .lit (.int .u8 51), .lit (.int .u8 22), .lit (.int .u8 53), .lit (.int .u8 39), .lit (.int .u8 33), .lit (.int .u8 30), .lit (.int .u8 24), .lit (.int .u8 18), .lit (.int .u8 12), .lit (.int .u8 5), .lit (.int .u8 63), .lit (.int .u8 55), .lit (.int .u8 48), .lit (.int .u8 27), .lit (.int .u8 60), .lit (.int .u8 41), .lit (.int .u8 37), .lit (.int .u8 16), .lit (.int .u8 46), .lit (.int .u8 35), .lit (.int .u8 44), .lit (.int .u8 21), .lit (.int .u8 52), .lit (.int .u8 32), .lit (.int .u8 23), .lit (.int .u8 11), .lit (.int .u8 54), .lit (.int .u8 26), .lit (.int .u8 40), .lit (.int .u8 15), .lit (.int .u8 34), .lit (.int .u8 20), .lit (.int .u8 31), .lit (.int .u8 10), .lit (.int .u8 25), .lit (.int .u8 14), .lit (.int .u8 19), .lit (.int .u8 9), .lit (.int .u8 13), .lit (.int .u8 8), .lit (.int .u8 7), .lit (.int .u8 6)]

/-- 'fretworklaw03.FlagsMake': WHATEVER THE INPUT: true; the input reads as it did. -/
def flagsMakeSpec : ChangeSpec := { name := "flagsMake", fn := fun _ => fun
  | [d1, d2, d3] => { results := [.lit (.bool true)], args := [d1, d2, d3] }
  | _ => none }
def flagsMakeRow : OpenClaim := { program := "ytccgpjhfgmonpaadoor", sum := "3e05ded49ef5e571e0ad39c82f633abe764ea2c752cbc9719816279d7a09c076", func := "fretwork/fretworklaw03.FlagsMake", spec := "flagsMake", unfollowed := true, recurses := true, named := ["math/bits.deBruijn64tab"], apart := false, laid := [("math/bits.deBruijn64tab", laid_math_bits_deBruijn64tab)] }
def FlagsMakeSaid : Prop := flagsMakeRow.holds Tryd.pinned (OpenSpec.ofChange flagsMakeSpec)

/-- ITS FALSE NEIGHBOUR: 'it returns false'. Refute it at one input. -/
def flagsMakeWrong : ChangeSpec := { name := "flagsMake", fn := fun _ => fun
  | [d1, d2, d3] => { results := [.lit (.bool false)], args := [d1, d2, d3] }
  | _ => none }
def FlagsMakeWrongFalsely : Prop := flagsMakeRow.holds Tryd.pinned (OpenSpec.ofChange flagsMakeWrong)

/-- 'fretworklaw03.FlagsAsk': WHATEVER THE INPUT: true; the input reads as it did. -/
def flagsAskSpec : ChangeSpec := { name := "flagsAsk", fn := fun _ => fun
  | [d1, d2] => { results := [.lit (.bool true)], args := [d1, d2] }
  | _ => none }
def flagsAskRow : OpenClaim := { program := "ytccgpjhfgmonpaadoor", sum := "3e05ded49ef5e571e0ad39c82f633abe764ea2c752cbc9719816279d7a09c076", func := "fretwork/fretworklaw03.FlagsAsk", spec := "flagsAsk", unfollowed := true, recurses := true, named := ["math/bits.deBruijn64tab"], apart := false, laid := [("math/bits.deBruijn64tab", laid_math_bits_deBruijn64tab)] }
def FlagsAskSaid : Prop := flagsAskRow.holds Tryd.pinned (OpenSpec.ofChange flagsAskSpec)

/-- ITS FALSE NEIGHBOUR: 'it returns false'. Refute it at one input. -/
def flagsAskWrong : ChangeSpec := { name := "flagsAsk", fn := fun _ => fun
  | [d1, d2] => { results := [.lit (.bool false)], args := [d1, d2] }
  | _ => none }
def FlagsAskWrongFalsely : Prop := flagsAskRow.holds Tryd.pinned (OpenSpec.ofChange flagsAskWrong)

/-- 'fretworklaw03.FlagsJoin': WHATEVER THE INPUT: true; the input reads as it did. -/
def flagsJoinSpec : ChangeSpec := { name := "flagsJoin", fn := fun _ => fun
  | [d1, d2, d3] => { results := [.lit (.bool true)], args := [d1, d2, d3] }
  | _ => none }
def flagsJoinRow : OpenClaim := { program := "ytccgpjhfgmonpaadoor", sum := "3e05ded49ef5e571e0ad39c82f633abe764ea2c752cbc9719816279d7a09c076", func := "fretwork/fretworklaw03.FlagsJoin", spec := "flagsJoin", unfollowed := true, recurses := true, named := ["math/bits.deBruijn64tab"], apart := false, laid := [("math/bits.deBruijn64tab", laid_math_bits_deBruijn64tab)] }
def FlagsJoinSaid : Prop := flagsJoinRow.holds Tryd.pinned (OpenSpec.ofChange flagsJoinSpec)

/-- ITS FALSE NEIGHBOUR: 'it returns false'. Refute it at one input. -/
def flagsJoinWrong : ChangeSpec := { name := "flagsJoin", fn := fun _ => fun
  | [d1, d2, d3] => { results := [.lit (.bool false)], args := [d1, d2, d3] }
  | _ => none }
def FlagsJoinWrongFalsely : Prop := flagsJoinRow.holds Tryd.pinned (OpenSpec.ofChange flagsJoinWrong)

/-- 'fretworklaw03.FlagsRanks': WHATEVER THE INPUT: true; the input reads as it did. -/
def flagsRanksSpec : ChangeSpec := { name := "flagsRanks", fn := fun _ => fun
  | [d] => { results := [.lit (.bool true)], args := [d] }
  | _ => none }
def flagsRanksRow : OpenClaim := { program := "ytccgpjhfgmonpaadoor", sum := "3e05ded49ef5e571e0ad39c82f633abe764ea2c752cbc9719816279d7a09c076", func := "fretwork/fretworklaw03.FlagsRanks", spec := "flagsRanks", unfollowed := true, recurses := true, named := ["math/bits.deBruijn64tab"], apart := false, laid := [("math/bits.deBruijn64tab", laid_math_bits_deBruijn64tab)] }
def FlagsRanksSaid : Prop := flagsRanksRow.holds Tryd.pinned (OpenSpec.ofChange flagsRanksSpec)

/-- ITS FALSE NEIGHBOUR: 'it returns false'. Refute it at one input. -/
def flagsRanksWrong : ChangeSpec := { name := "flagsRanks", fn := fun _ => fun
  | [d] => { results := [.lit (.bool false)], args := [d] }
  | _ => none }
def FlagsRanksWrongFalsely : Prop := flagsRanksRow.holds Tryd.pinned (OpenSpec.ofChange flagsRanksWrong)

/-- 'fretworklaw03.FlagsSets': WHATEVER THE INPUT: true; the input reads as it did. -/
def flagsSetsSpec : ChangeSpec := { name := "flagsSets", fn := fun _ => fun
  | [d1, d2, d3] => { results := [.lit (.bool true)], args := [d1, d2, d3] }
  | _ => none }
def flagsSetsRow : OpenClaim := { program := "ytccgpjhfgmonpaadoor", sum := "3e05ded49ef5e571e0ad39c82f633abe764ea2c752cbc9719816279d7a09c076", func := "fretwork/fretworklaw03.FlagsSets", spec := "flagsSets", unfollowed := true, recurses := true, named := ["math/bits.deBruijn64tab"], apart := false, laid := [("math/bits.deBruijn64tab", laid_math_bits_deBruijn64tab)] }
def FlagsSetsSaid : Prop := flagsSetsRow.holds Tryd.pinned (OpenSpec.ofChange flagsSetsSpec)

/-- ITS FALSE NEIGHBOUR: 'it returns false'. Refute it at one input. -/
def flagsSetsWrong : ChangeSpec := { name := "flagsSets", fn := fun _ => fun
  | [d1, d2, d3] => { results := [.lit (.bool false)], args := [d1, d2, d3] }
  | _ => none }
def FlagsSetsWrongFalsely : Prop := flagsSetsRow.holds Tryd.pinned (OpenSpec.ofChange flagsSetsWrong)

/-- 'fretworklaw03.FlagsParts': WHATEVER THE INPUT: true; the input reads as it did. -/
def flagsPartsSpec : ChangeSpec := { name := "flagsParts", fn := fun _ => fun
  | [d1, d2] => { results := [.lit (.bool true)], args := [d1, d2] }
  | _ => none }
def flagsPartsRow : OpenClaim := { program := "ytccgpjhfgmonpaadoor", sum := "3e05ded49ef5e571e0ad39c82f633abe764ea2c752cbc9719816279d7a09c076", func := "fretwork/fretworklaw03.FlagsParts", spec := "flagsParts", unfollowed := true, recurses := true, named := ["math/bits.deBruijn64tab"], apart := false, laid := [("math/bits.deBruijn64tab", laid_math_bits_deBruijn64tab)] }
def FlagsPartsSaid : Prop := flagsPartsRow.holds Tryd.pinned (OpenSpec.ofChange flagsPartsSpec)

/-- ITS FALSE NEIGHBOUR: 'it returns false'. Refute it at one input. -/
def flagsPartsWrong : ChangeSpec := { name := "flagsParts", fn := fun _ => fun
  | [d1, d2] => { results := [.lit (.bool false)], args := [d1, d2] }
  | _ => none }
def FlagsPartsWrongFalsely : Prop := flagsPartsRow.holds Tryd.pinned (OpenSpec.ofChange flagsPartsWrong)

/-- 'fretworktop.TopBits': WHATEVER THE INPUT: true; the input reads as it did. -/
def topBitsSpec : ChangeSpec := { name := "topBits", fn := fun _ => fun
  | [d1, d2] => { results := [.lit (.bool true)], args := [d1, d2] }
  | _ => none }
def topBitsRow : OpenClaim := { program := "ytccgpjhfgmonpaadoor", sum := "3e05ded49ef5e571e0ad39c82f633abe764ea2c752cbc9719816279d7a09c076", func := "fretwork/fretworktop.TopBits", spec := "topBits", unfollowed := true, recurses := true, named := ["math/bits.deBruijn64tab"], apart := false, laid := [("math/bits.deBruijn64tab", laid_math_bits_deBruijn64tab)] }
def TopBitsSaid : Prop := topBitsRow.holds Tryd.pinned (OpenSpec.ofChange topBitsSpec)

/-- ITS FALSE NEIGHBOUR: 'it returns false'. Refute it at one input. -/
def topBitsWrong : ChangeSpec := { name := "topBits", fn := fun _ => fun
  | [d1, d2] => { results := [.lit (.bool false)], args := [d1, d2] }
  | _ => none }
def TopBitsWrongFalsely : Prop := topBitsRow.holds Tryd.pinned (OpenSpec.ofChange topBitsWrong)

/- THE SECOND FORM. 'bulk': how many values and letters a reading holds, each counted each time it is reached (what is shared counts as often as it is met; a slice's spare places count too). A statement '..UptoSaid' is the law's where the arguments, and the package variables that the reading takes, are together of bulk at most 1048576: NARROWER than '..Said'. Prove '..Said' where nothing that the law and all that it calls make is longer than what came in: it says more and counts as full. Else prove '..UptoSaid'. A law counts once. -/
mutual
def uptoBulk {H : Type} : DataW H → Nat
  | .lit (.string bytes) => bytes.length + 1
  | .lit _ => 1
  | .nil => 1
  | .ptr d => uptoBulk d + 1
  | .slice elems spare => uptoBulkAll elems + uptoBulkAll spare + 1
  | .agg parts => uptoBulkAll parts + 1
  | .iface _ d => uptoBulk d + 1
  | .map entries => uptoBulkEntries entries + 1
  | .held _ => 1
def uptoBulkAll {H : Type} : List (DataW H) → Nat
  | [] => 0
  | d :: r => uptoBulk d + uptoBulkAll r
def uptoBulkEntries {H : Type} : List (Lit × DataW H) → Nat
  | [] => 0
  | x :: r => uptoBulkEntry x + uptoBulkEntries r
def uptoBulkEntry {H : Type} : Lit × DataW H → Nat
  | (.string bytes, d) => bytes.length + uptoBulk d + 1
  | (_, d) => uptoBulk d + 1
 end
def uptoSmall : (H : Type) → List (DataW H) → Bool := fun _ ds => decide (uptoBulkAll ds ≤ 1048576)
def OpenSpec.upto (s : _root_.Go.ChangeSpec) : _root_.Go.OpenSpec := { _root_.Go.OpenSpec.ofChange s with cond := some uptoSmall }

/-- 'fretworklaw03.FlagsMake', WHERE WHAT IT READS IS OF BULK AT MOST 1048576: true; the input reads as it did. -/
def flagsMakeUptoRow : OpenClaim := { program := "ytccgpjhfgmonpaadoor", sum := "3e05ded49ef5e571e0ad39c82f633abe764ea2c752cbc9719816279d7a09c076", func := "fretwork/fretworklaw03.FlagsMake", spec := "flagsMake", unfollowed := true, recurses := true, named := ["math/bits.deBruijn64tab"], apart := false, laid := [("math/bits.deBruijn64tab", laid_math_bits_deBruijn64tab)], narrowed := true }
def FlagsMakeUptoSaid : Prop := flagsMakeUptoRow.holds Tryd.pinned (OpenSpec.upto flagsMakeSpec)

/-- 'fretworklaw03.FlagsAsk', WHERE WHAT IT READS IS OF BULK AT MOST 1048576: true; the input reads as it did. -/
def flagsAskUptoRow : OpenClaim := { program := "ytccgpjhfgmonpaadoor", sum := "3e05ded49ef5e571e0ad39c82f633abe764ea2c752cbc9719816279d7a09c076", func := "fretwork/fretworklaw03.FlagsAsk", spec := "flagsAsk", unfollowed := true, recurses := true, named := ["math/bits.deBruijn64tab"], apart := false, laid := [("math/bits.deBruijn64tab", laid_math_bits_deBruijn64tab)], narrowed := true }
def FlagsAskUptoSaid : Prop := flagsAskUptoRow.holds Tryd.pinned (OpenSpec.upto flagsAskSpec)

/-- 'fretworklaw03.FlagsJoin', WHERE WHAT IT READS IS OF BULK AT MOST 1048576: true; the input reads as it did. -/
def flagsJoinUptoRow : OpenClaim := { program := "ytccgpjhfgmonpaadoor", sum := "3e05ded49ef5e571e0ad39c82f633abe764ea2c752cbc9719816279d7a09c076", func := "fretwork/fretworklaw03.FlagsJoin", spec := "flagsJoin", unfollowed := true, recurses := true, named := ["math/bits.deBruijn64tab"], apart := false, laid := [("math/bits.deBruijn64tab", laid_math_bits_deBruijn64tab)], narrowed := true }
def FlagsJoinUptoSaid : Prop := flagsJoinUptoRow.holds Tryd.pinned (OpenSpec.upto flagsJoinSpec)

/-- 'fretworklaw03.FlagsRanks', WHERE WHAT IT READS IS OF BULK AT MOST 1048576: true; the input reads as it did. -/
def flagsRanksUptoRow : OpenClaim := { program := "ytccgpjhfgmonpaadoor", sum := "3e05ded49ef5e571e0ad39c82f633abe764ea2c752cbc9719816279d7a09c076", func := "fretwork/fretworklaw03.FlagsRanks", spec := "flagsRanks", unfollowed := true, recurses := true, named := ["math/bits.deBruijn64tab"], apart := false, laid := [("math/bits.deBruijn64tab", laid_math_bits_deBruijn64tab)], narrowed := true }
def FlagsRanksUptoSaid : Prop := flagsRanksUptoRow.holds Tryd.pinned (OpenSpec.upto flagsRanksSpec)

/-- 'fretworklaw03.FlagsSets', WHERE WHAT IT READS IS OF BULK AT MOST 1048576: true; the input reads as it did. -/
def flagsSetsUptoRow : OpenClaim := { program := "ytccgpjhfgmonpaadoor", sum := "3e05ded49ef5e571e0ad39c82f633abe764ea2c752cbc9719816279d7a09c076", func := "fretwork/fretworklaw03.FlagsSets", spec := "flagsSets", unfollowed := true, recurses := true, named := ["math/bits.deBruijn64tab"], apart := false, laid := [("math/bits.deBruijn64tab", laid_math_bits_deBruijn64tab)], narrowed := true }
def FlagsSetsUptoSaid : Prop := flagsSetsUptoRow.holds Tryd.pinned (OpenSpec.upto flagsSetsSpec)

/-- 'fretworklaw03.FlagsParts', WHERE WHAT IT READS IS OF BULK AT MOST 1048576: true; the input reads as it did. -/
def flagsPartsUptoRow : OpenClaim := { program := "ytccgpjhfgmonpaadoor", sum := "3e05ded49ef5e571e0ad39c82f633abe764ea2c752cbc9719816279d7a09c076", func := "fretwork/fretworklaw03.FlagsParts", spec := "flagsParts", unfollowed := true, recurses := true, named := ["math/bits.deBruijn64tab"], apart := false, laid := [("math/bits.deBruijn64tab", laid_math_bits_deBruijn64tab)], narrowed := true }
def FlagsPartsUptoSaid : Prop := flagsPartsUptoRow.holds Tryd.pinned (OpenSpec.upto flagsPartsSpec)

/-- 'fretworktop.TopBits', WHERE WHAT IT READS IS OF BULK AT MOST 1048576: true; the input reads as it did. -/
def topBitsUptoRow : OpenClaim := { program := "ytccgpjhfgmonpaadoor", sum := "3e05ded49ef5e571e0ad39c82f633abe764ea2c752cbc9719816279d7a09c076", func := "fretwork/fretworktop.TopBits", spec := "topBits", unfollowed := true, recurses := true, named := ["math/bits.deBruijn64tab"], apart := false, laid := [("math/bits.deBruijn64tab", laid_math_bits_deBruijn64tab)], narrowed := true }
def TopBitsUptoSaid : Prop := topBitsUptoRow.holds Tryd.pinned (OpenSpec.upto topBitsSpec)

end Rows
end Go.Proofs.YtccgpjhfgmonpaaDoor
