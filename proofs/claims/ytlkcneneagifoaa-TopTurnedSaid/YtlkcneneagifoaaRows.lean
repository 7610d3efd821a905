/-
  No cell of these rows narrows 'for every input' (looked for: loops, veiled, ifaces, maps, wideKeys, modest, calm, conditions, laid).
  DERIVED. THE GIVEN ROWS OF THIS SEAT. 11 by the template 'for every input the law returns true; each argument reads behind the call as it read before'; 0 by the template 'total and deterministic' (their statements: YtlkcneneagifoaaTotals.lean).
  GIVEN WITH THE SEED: the statements are not yours to turn. If you find one false, say at which input.
  Laid BY PROGRAM, IN A SANDBOX (cutbox-rows.mjs): the forced cells as the released guide's own fill.sh prints them over the translation e76a7eaeb3f9ae2c… (all of the seat's roots in one cut). By AI agents, Wed Nov 11 2026. No macro, syntax, notation, axiom, sorry.
-/
import Derived.Test.YtlkcneneagifoaaChecked
import GoSem.Claim
import GoSem.ClaimJoined
import GoSem.ClaimMapViews
import Derived.JoinedTies
import Derived.KernelRfl
namespace Go.Proofs.Ytlkcneneagifoaa
/- THE CELL 'sum', in the pinned program and in every row, IS THE sha256 OF THE DUMP (.gsa) THAT YtlkcneneagifoaaProg.lean LOADS. Nothing in Lean hashes anything: it is a label: what it is worth is what the hold of that sum in a sandbox is worth. -/
noncomputable def Try.pinned : Pinned := { name := "ytlkcneneagifoaa", sum := "e76a7eaeb3f9ae2ccc3aae64763c95bb8539ec15abfa748500781425ee0c8d3f", checked := Try.checked }
namespace Rows
def none {H : Type} : Left H := { results := [], args := [] }

/-- 'fretworklaw07.CsrOf': WHATEVER THE INPUT: true; the input reads as it did. -/
def csrOfSpec : ChangeSpec := { name := "csrOf", fn := fun _ => fun
  | [d1, d2, d3] => { results := [.lit (.bool true)], args := [d1, d2, d3] }
  | _ => none }
def csrOfRow : OpenClaim := { program := "ytlkcneneagifoaa", sum := "e76a7eaeb3f9ae2ccc3aae64763c95bb8539ec15abfa748500781425ee0c8d3f", func := "fretwork/fretworklaw07.CsrOf", spec := "csrOf", unfollowed := true, recurses := true, plainKeys := false, apart := false }
def CsrOfSaid : Prop := csrOfRow.holds Try.pinned (OpenSpec.ofChange csrOfSpec)

/-- ITS FALSE NEIGHBOUR: 'it returns false'. Refute it at one input. -/
def csrOfWrong : ChangeSpec := { name := "csrOf", fn := fun _ => fun
  | [d1, d2, d3] => { results := [.lit (.bool false)], args := [d1, d2, d3] }
  | _ => none }
def CsrOfWrongFalsely : Prop := csrOfRow.holds Try.pinned (OpenSpec.ofChange csrOfWrong)

/-- 'fretworklaw07.CsrAsks': WHATEVER THE INPUT: true; the input reads as it did. -/
def csrAsksSpec : ChangeSpec := { name := "csrAsks", fn := fun _ => fun
  | [d1, d2, d3] => { results := [.lit (.bool true)], args := [d1, d2, d3] }
  | _ => none }
def csrAsksRow : OpenClaim := { program := "ytlkcneneagifoaa", sum := "e76a7eaeb3f9ae2ccc3aae64763c95bb8539ec15abfa748500781425ee0c8d3f", func := "fretwork/fretworklaw07.CsrAsks", spec := "csrAsks", unfollowed := true, recurses := true, plainKeys := false, apart := false }
def CsrAsksSaid : Prop := csrAsksRow.holds Try.pinned (OpenSpec.ofChange csrAsksSpec)

/-- ITS FALSE NEIGHBOUR: 'it returns false'. Refute it at one input. -/
def csrAsksWrong : ChangeSpec := { name := "csrAsks", fn := fun _ => fun
  | [d1, d2, d3] => { results := [.lit (.bool false)], args := [d1, d2, d3] }
  | _ => none }
def CsrAsksWrongFalsely : Prop := csrAsksRow.holds Try.pinned (OpenSpec.ofChange csrAsksWrong)

/-- 'fretworklaw07.CsrGraph': WHATEVER THE INPUT: true; the input reads as it did. -/
def csrGraphSpec : ChangeSpec := { name := "csrGraph", fn := fun _ => fun
  | [d] => { results := [.lit (.bool true)], args := [d] }
  | _ => none }
def csrGraphRow : OpenClaim := { program := "ytlkcneneagifoaa", sum := "e76a7eaeb3f9ae2ccc3aae64763c95bb8539ec15abfa748500781425ee0c8d3f", func := "fretwork/fretworklaw07.CsrGraph", spec := "csrGraph", unfollowed := true, recurses := true, plainKeys := false, apart := false }
def CsrGraphSaid : Prop := csrGraphRow.holds Try.pinned (OpenSpec.ofChange csrGraphSpec)

/-- ITS FALSE NEIGHBOUR: 'it returns false'. Refute it at one input. -/
def csrGraphWrong : ChangeSpec := { name := "csrGraph", fn := fun _ => fun
  | [d] => { results := [.lit (.bool false)], args := [d] }
  | _ => none }
def CsrGraphWrongFalsely : Prop := csrGraphRow.holds Try.pinned (OpenSpec.ofChange csrGraphWrong)

/-- 'fretworklaw07.CsrBack': WHATEVER THE INPUT: true; the input reads as it did. -/
def csrBackSpec : ChangeSpec := { name := "csrBack", fn := fun _ => fun
  | [d1, d2, d3] => { results := [.lit (.bool true)], args := [d1, d2, d3] }
  | _ => none }
def csrBackRow : OpenClaim := { program := "ytlkcneneagifoaa", sum := "e76a7eaeb3f9ae2ccc3aae64763c95bb8539ec15abfa748500781425ee0c8d3f", func := "fretwork/fretworklaw07.CsrBack", spec := "csrBack", unfollowed := true, recurses := true, plainKeys := false, apart := false }
def CsrBackSaid : Prop := csrBackRow.holds Try.pinned (OpenSpec.ofChange csrBackSpec)

/-- ITS FALSE NEIGHBOUR: 'it returns false'. Refute it at one input. -/
def csrBackWrong : ChangeSpec := { name := "csrBack", fn := fun _ => fun
  | [d1, d2, d3] => { results := [.lit (.bool false)], args := [d1, d2, d3] }
  | _ => none }
def CsrBackWrongFalsely : Prop := csrBackRow.holds Try.pinned (OpenSpec.ofChange csrBackWrong)

/-- 'fretworklaw07.CsrTurns': WHATEVER THE INPUT: true; the input reads as it did. -/
def csrTurnsSpec : ChangeSpec := { name := "csrTurns", fn := fun _ => fun
  | [d1, d2, d3] => { results := [.lit (.bool true)], args := [d1, d2, d3] }
  | _ => none }
def csrTurnsRow : OpenClaim := { program := "ytlkcneneagifoaa", sum := "e76a7eaeb3f9ae2ccc3aae64763c95bb8539ec15abfa748500781425ee0c8d3f", func := "fretwork/fretworklaw07.CsrTurns", spec := "csrTurns", unfollowed := true, recurses := true, plainKeys := false, apart := false }
def CsrTurnsSaid : Prop := csrTurnsRow.holds Try.pinned (OpenSpec.ofChange csrTurnsSpec)

/-- ITS FALSE NEIGHBOUR: 'it returns false'. Refute it at one input. -/
def csrTurnsWrong : ChangeSpec := { name := "csrTurns", fn := fun _ => fun
  | [d1, d2, d3] => { results := [.lit (.bool false)], args := [d1, d2, d3] }
  | _ => none }
def CsrTurnsWrongFalsely : Prop := csrTurnsRow.holds Try.pinned (OpenSpec.ofChange csrTurnsWrong)

/-- 'fretworklaw07.CsrCuts': WHATEVER THE INPUT: true; the input reads as it did. -/
def csrCutsSpec : ChangeSpec := { name := "csrCuts", fn := fun _ => fun
  | [d1, d2, d3] => { results := [.lit (.bool true)], args := [d1, d2, d3] }
  | _ => none }
def csrCutsRow : OpenClaim := { program := "ytlkcneneagifoaa", sum := "e76a7eaeb3f9ae2ccc3aae64763c95bb8539ec15abfa748500781425ee0c8d3f", func := "fretwork/fretworklaw07.CsrCuts", spec := "csrCuts", unfollowed := true, recurses := true, plainKeys := false, apart := false }
def CsrCutsSaid : Prop := csrCutsRow.holds Try.pinned (OpenSpec.ofChange csrCutsSpec)

/-- ITS FALSE NEIGHBOUR: 'it returns false'. Refute it at one input. -/
def csrCutsWrong : ChangeSpec := { name := "csrCuts", fn := fun _ => fun
  | [d1, d2, d3] => { results := [.lit (.bool false)], args := [d1, d2, d3] }
  | _ => none }
def CsrCutsWrongFalsely : Prop := csrCutsRow.holds Try.pinned (OpenSpec.ofChange csrCutsWrong)

/-- 'fretworklaw08.DcscOf': WHATEVER THE INPUT: true; the input reads as it did. -/
def dcscOfSpec : ChangeSpec := { name := "dcscOf", fn := fun _ => fun
  | [d1, d2, d3] => { results := [.lit (.bool true)], args := [d1, d2, d3] }
  | _ => none }
def dcscOfRow : OpenClaim := { program := "ytlkcneneagifoaa", sum := "e76a7eaeb3f9ae2ccc3aae64763c95bb8539ec15abfa748500781425ee0c8d3f", func := "fretwork/fretworklaw08.DcscOf", spec := "dcscOf", unfollowed := true, recurses := true, plainKeys := false, apart := false }
def DcscOfSaid : Prop := dcscOfRow.holds Try.pinned (OpenSpec.ofChange dcscOfSpec)

/-- ITS FALSE NEIGHBOUR: 'it returns false'. Refute it at one input. -/
def dcscOfWrong : ChangeSpec := { name := "dcscOf", fn := fun _ => fun
  | [d1, d2, d3] => { results := [.lit (.bool false)], args := [d1, d2, d3] }
  | _ => none }
def DcscOfWrongFalsely : Prop := dcscOfRow.holds Try.pinned (OpenSpec.ofChange dcscOfWrong)

/-- 'fretworklaw08.DcscBack': WHATEVER THE INPUT: true; the input reads as it did. -/
def dcscBackSpec : ChangeSpec := { name := "dcscBack", fn := fun _ => fun
  | [d1, d2] => { results := [.lit (.bool true)], args := [d1, d2] }
  | _ => none }
def dcscBackRow : OpenClaim := { program := "ytlkcneneagifoaa", sum := "e76a7eaeb3f9ae2ccc3aae64763c95bb8539ec15abfa748500781425ee0c8d3f", func := "fretwork/fretworklaw08.DcscBack", spec := "dcscBack", unfollowed := true, recurses := true, plainKeys := false, apart := false }
def DcscBackSaid : Prop := dcscBackRow.holds Try.pinned (OpenSpec.ofChange dcscBackSpec)

/-- ITS FALSE NEIGHBOUR: 'it returns false'. Refute it at one input. -/
def dcscBackWrong : ChangeSpec := { name := "dcscBack", fn := fun _ => fun
  | [d1, d2] => { results := [.lit (.bool false)], args := [d1, d2] }
  | _ => none }
def DcscBackWrongFalsely : Prop := dcscBackRow.holds Try.pinned (OpenSpec.ofChange dcscBackWrong)

/-- 'fretworklaw08.DcscTurns': WHATEVER THE INPUT: true; the input reads as it did. -/
def dcscTurnsSpec : ChangeSpec := { name := "dcscTurns", fn := fun _ => fun
  | [d1, d2, d3] => { results := [.lit (.bool true)], args := [d1, d2, d3] }
  | _ => none }
def dcscTurnsRow : OpenClaim := { program := "ytlkcneneagifoaa", sum := "e76a7eaeb3f9ae2ccc3aae64763c95bb8539ec15abfa748500781425ee0c8d3f", func := "fretwork/fretworklaw08.DcscTurns", spec := "dcscTurns", unfollowed := true, recurses := true, plainKeys := false, apart := false }
def DcscTurnsSaid : Prop := dcscTurnsRow.holds Try.pinned (OpenSpec.ofChange dcscTurnsSpec)

/-- ITS FALSE NEIGHBOUR: 'it returns false'. Refute it at one input. -/
def dcscTurnsWrong : ChangeSpec := { name := "dcscTurns", fn := fun _ => fun
  | [d1, d2, d3] => { results := [.lit (.bool false)], args := [d1, d2, d3] }
  | _ => none }
def DcscTurnsWrongFalsely : Prop := dcscTurnsRow.holds Try.pinned (OpenSpec.ofChange dcscTurnsWrong)

/-- 'fretworklaw08.DcscFull': WHATEVER THE INPUT: true; the input reads as it did. -/
def dcscFullSpec : ChangeSpec := { name := "dcscFull", fn := fun _ => fun
  | [d1, d2] => { results := [.lit (.bool true)], args := [d1, d2] }
  | _ => none }
def dcscFullRow : OpenClaim := { program := "ytlkcneneagifoaa", sum := "e76a7eaeb3f9ae2ccc3aae64763c95bb8539ec15abfa748500781425ee0c8d3f", func := "fretwork/fretworklaw08.DcscFull", spec := "dcscFull", unfollowed := true, recurses := true, plainKeys := false, apart := false }
def DcscFullSaid : Prop := dcscFullRow.holds Try.pinned (OpenSpec.ofChange dcscFullSpec)

/-- ITS FALSE NEIGHBOUR: 'it returns false'. Refute it at one input. -/
def dcscFullWrong : ChangeSpec := { name := "dcscFull", fn := fun _ => fun
  | [d1, d2] => { results := [.lit (.bool false)], args := [d1, d2] }
  | _ => none }
def DcscFullWrongFalsely : Prop := dcscFullRow.holds Try.pinned (OpenSpec.ofChange dcscFullWrong)

/-- 'fretworktop.TopTurned': WHATEVER THE INPUT: true; the input reads as it did. -/
def topTurnedSpec : ChangeSpec := { name := "topTurned", fn := fun _ => fun
  | [d] => { results := [.lit (.bool true)], args := [d] }
  | _ => none }
def topTurnedRow : OpenClaim := { program := "ytlkcneneagifoaa", sum := "e76a7eaeb3f9ae2ccc3aae64763c95bb8539ec15abfa748500781425ee0c8d3f", func := "fretwork/fretworktop.TopTurned", spec := "topTurned", unfollowed := true, recurses := true, plainKeys := false, apart := false }
def TopTurnedSaid : Prop := topTurnedRow.holds Try.pinned (OpenSpec.ofChange topTurnedSpec)

/-- ITS FALSE NEIGHBOUR: 'it returns false'. Refute it at one input. -/
def topTurnedWrong : ChangeSpec := { name := "topTurned", fn := fun _ => fun
  | [d] => { results := [.lit (.bool false)], args := [d] }
  | _ => none }
def TopTurnedWrongFalsely : Prop := topTurnedRow.holds Try.pinned (OpenSpec.ofChange topTurnedWrong)

/- THE SECOND FORM. 'bulk': how many values and letters a reading holds, each counted each time it is reached (what is shared counts as often as it is met; a slice's spare places count too). A statement '..UptoSaid' is the law's where the arguments, and the package variables that the reading takes, are together of bulk at most 1048576: NARROWER than '..Said'. Prove '..Said' where nothing that the law and all that it calls make is longer than what came in: it says more and counts as full. Else prove '..UptoSaid'. A law counts once. -/
mutual
def uptoBulk {H : Type} : DataW H → Nat
  | .lit (.string bytes) => bytes.length + 1
  | .lit _ => 1
  | .nil => 1
  | .ptr d => uptoBulk d + 1
  | .slice elems spare => uptoBulkAll elems + uptoBulkAll spare + 1
  | .agg parts => uptoBulkAll parts + 1
  | .iface _ d => uptoBulk d + 1
  | .map entries => uptoBulkEntries entries + 1
  | .held _ => 1
def uptoBulkAll {H : Type} : List (DataW H) → Nat
  | [] => 0
  | d :: r => uptoBulk d + uptoBulkAll r
def uptoBulkEntries {H : Type} : List (Lit × DataW H) → Nat
  | [] => 0
  | x :: r => uptoBulkEntry x + uptoBulkEntries r
def uptoBulkEntry {H : Type} : Lit × DataW H → Nat
  | (.string bytes, d) => bytes.length + uptoBulk d + 1
  | (_, d) => uptoBulk d + 1
 end
def uptoSmall : (H : Type) → List (DataW H) → Bool := fun _ ds => decide (uptoBulkAll ds ≤ 1048576)
def OpenSpec.upto (s : _root_.Go.ChangeSpec) : _root_.Go.OpenSpec := { _root_.Go.OpenSpec.ofChange s with cond := some uptoSmall }

/-- 'fretworklaw07.CsrOf', WHERE WHAT IT READS IS OF BULK AT MOST 1048576: true; the input reads as it did. -/
def csrOfUptoRow : OpenClaim := { program := "ytlkcneneagifoaa", sum := "e76a7eaeb3f9ae2ccc3aae64763c95bb8539ec15abfa748500781425ee0c8d3f", func := "fretwork/fretworklaw07.CsrOf", spec := "csrOf", unfollowed := true, recurses := true, plainKeys := false, apart := false, narrowed := true }
def CsrOfUptoSaid : Prop := csrOfUptoRow.holds Try.pinned (OpenSpec.upto csrOfSpec)

/-- 'fretworklaw07.CsrAsks', WHERE WHAT IT READS IS OF BULK AT MOST 1048576: true; the input reads as it did. -/
def csrAsksUptoRow : OpenClaim := { program := "ytlkcneneagifoaa", sum := "e76a7eaeb3f9ae2ccc3aae64763c95bb8539ec15abfa748500781425ee0c8d3f", func := "fretwork/fretworklaw07.CsrAsks", spec := "csrAsks", unfollowed := true, recurses := true, plainKeys := false, apart := false, narrowed := true }
def CsrAsksUptoSaid : Prop := csrAsksUptoRow.holds Try.pinned (OpenSpec.upto csrAsksSpec)

/-- 'fretworklaw07.CsrGraph', WHERE WHAT IT READS IS OF BULK AT MOST 1048576: true; the input reads as it did. -/
def csrGraphUptoRow : OpenClaim := { program := "ytlkcneneagifoaa", sum := "e76a7eaeb3f9ae2ccc3aae64763c95bb8539ec15abfa748500781425ee0c8d3f", func := "fretwork/fretworklaw07.CsrGraph", spec := "csrGraph", unfollowed := true, recurses := true, plainKeys := false, apart := false, narrowed := true }
def CsrGraphUptoSaid : Prop := csrGraphUptoRow.holds Try.pinned (OpenSpec.upto csrGraphSpec)

/-- 'fretworklaw07.CsrBack', WHERE WHAT IT READS IS OF BULK AT MOST 1048576: true; the input reads as it did. -/
def csrBackUptoRow : OpenClaim := { program := "ytlkcneneagifoaa", sum := "e76a7eaeb3f9ae2ccc3aae64763c95bb8539ec15abfa748500781425ee0c8d3f", func := "fretwork/fretworklaw07.CsrBack", spec := "csrBack", unfollowed := true, recurses := true, plainKeys := false, apart := false, narrowed := true }
def CsrBackUptoSaid : Prop := csrBackUptoRow.holds Try.pinned (OpenSpec.upto csrBackSpec)

/-- 'fretworklaw07.CsrTurns', WHERE WHAT IT READS IS OF BULK AT MOST 1048576: true; the input reads as it did. -/
def csrTurnsUptoRow : OpenClaim := { program := "ytlkcneneagifoaa", sum := "e76a7eaeb3f9ae2ccc3aae64763c95bb8539ec15abfa748500781425ee0c8d3f", func := "fretwork/fretworklaw07.CsrTurns", spec := "csrTurns", unfollowed := true, recurses := true, plainKeys := false, apart := false, narrowed := true }
def CsrTurnsUptoSaid : Prop := csrTurnsUptoRow.holds Try.pinned (OpenSpec.upto csrTurnsSpec)

/-- 'fretworklaw07.CsrCuts', WHERE WHAT IT READS IS OF BULK AT MOST 1048576: true; the input reads as it did. -/
def csrCutsUptoRow : OpenClaim := { program := "ytlkcneneagifoaa", sum := "e76a7eaeb3f9ae2ccc3aae64763c95bb8539ec15abfa748500781425ee0c8d3f", func := "fretwork/fretworklaw07.CsrCuts", spec := "csrCuts", unfollowed := true, recurses := true, plainKeys := false, apart := false, narrowed := true }
def CsrCutsUptoSaid : Prop := csrCutsUptoRow.holds Try.pinned (OpenSpec.upto csrCutsSpec)

/-- 'fretworklaw08.DcscOf', WHERE WHAT IT READS IS OF BULK AT MOST 1048576: true; the input reads as it did. -/
def dcscOfUptoRow : OpenClaim := { program := "ytlkcneneagifoaa", sum := "e76a7eaeb3f9ae2ccc3aae64763c95bb8539ec15abfa748500781425ee0c8d3f", func := "fretwork/fretworklaw08.DcscOf", spec := "dcscOf", unfollowed := true, recurses := true, plainKeys := false, apart := false, narrowed := true }
def DcscOfUptoSaid : Prop := dcscOfUptoRow.holds Try.pinned (OpenSpec.upto dcscOfSpec)

/-- 'fretworklaw08.DcscBack', WHERE WHAT IT READS IS OF BULK AT MOST 1048576: true; the input reads as it did. -/
def dcscBackUptoRow : OpenClaim := { program := "ytlkcneneagifoaa", sum := "e76a7eaeb3f9ae2ccc3aae64763c95bb8539ec15abfa748500781425ee0c8d3f", func := "fretwork/fretworklaw08.DcscBack", spec := "dcscBack", unfollowed := true, recurses := true, plainKeys := false, apart := false, narrowed := true }
def DcscBackUptoSaid : Prop := dcscBackUptoRow.holds Try.pinned (OpenSpec.upto dcscBackSpec)

/-- 'fretworklaw08.DcscTurns', WHERE WHAT IT READS IS OF BULK AT MOST 1048576: true; the input reads as it did. -/
def dcscTurnsUptoRow : OpenClaim := { program := "ytlkcneneagifoaa", sum := "e76a7eaeb3f9ae2ccc3aae64763c95bb8539ec15abfa748500781425ee0c8d3f", func := "fretwork/fretworklaw08.DcscTurns", spec := "dcscTurns", unfollowed := true, recurses := true, plainKeys := false, apart := false, narrowed := true }
def DcscTurnsUptoSaid : Prop := dcscTurnsUptoRow.holds Try.pinned (OpenSpec.upto dcscTurnsSpec)

/-- 'fretworklaw08.DcscFull', WHERE WHAT IT READS IS OF BULK AT MOST 1048576: true; the input reads as it did. -/
def dcscFullUptoRow : OpenClaim := { program := "ytlkcneneagifoaa", sum := "e76a7eaeb3f9ae2ccc3aae64763c95bb8539ec15abfa748500781425ee0c8d3f", func := "fretwork/fretworklaw08.DcscFull", spec := "dcscFull", unfollowed := true, recurses := true, plainKeys := false, apart := false, narrowed := true }
def DcscFullUptoSaid : Prop := dcscFullUptoRow.holds Try.pinned (OpenSpec.upto dcscFullSpec)

/-- 'fretworktop.TopTurned', WHERE WHAT IT READS IS OF BULK AT MOST 1048576: true; the input reads as it did. -/
def topTurnedUptoRow : OpenClaim := { program := "ytlkcneneagifoaa", sum := "e76a7eaeb3f9ae2ccc3aae64763c95bb8539ec15abfa748500781425ee0c8d3f", func := "fretwork/fretworktop.TopTurned", spec := "topTurned", unfollowed := true, recurses := true, plainKeys := false, apart := false, narrowed := true }
def TopTurnedUptoSaid : Prop := topTurnedUptoRow.holds Try.pinned (OpenSpec.upto topTurnedSpec)

end Rows
end Go.Proofs.Ytlkcneneagifoaa
