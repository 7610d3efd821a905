/-
  No cell of these rows narrows 'for every input' (looked for: loops, veiled, ifaces, maps, wideKeys, modest, calm, conditions, laid).
  DERIVED. THE GIVEN ROWS OF THIS SEAT. 7 by the template 'for every input the law returns true; each argument reads behind the call as it read before'; 0 by the template 'total and deterministic' (their statements: YtlcfdmjkbaegpaaTotals.lean).
  GIVEN WITH THE SEED: the statements are not yours to turn. If you find one false, say at which input.
  Laid BY PROGRAM, IN A SANDBOX (cutbox-rows.mjs): the forced cells as the released guide's own fill.sh prints them over the translation 3cf46903dcb3a193… (all of the seat's roots in one cut). By AI agents, Wed Nov 11 2026. No macro, syntax, notation, axiom, sorry.
-/
import Derived.Test.YtlcfdmjkbaegpaaChecked
import GoSem.Claim
import GoSem.ClaimJoined
import GoSem.ClaimMapViews
import Derived.JoinedTies
import Derived.KernelRfl
namespace Go.Proofs.Ytlcfdmjkbaegpaa
/- THE CELL 'sum', in the pinned program and in every row, IS THE sha256 OF THE DUMP (.gsa) THAT YtlcfdmjkbaegpaaProg.lean LOADS. Nothing in Lean hashes anything: it is a label: what it is worth is what the hold of that sum in a sandbox is worth. -/
noncomputable def Try.pinned : Pinned := { name := "ytlcfdmjkbaegpaa", sum := "3cf46903dcb3a193890a1b1f85b758ecceec037477e8c1dc981da94da02f7797", checked := Try.checked }
namespace Rows
def none {H : Type} : Left H := { results := [], args := [] }

/-- 'fretworklaw11.BlendSums': WHATEVER THE INPUT: true; the input reads as it did. -/
def blendSumsSpec : ChangeSpec := { name := "blendSums", fn := fun _ => fun
  | [d1, d2, d3] => { results := [.lit (.bool true)], args := [d1, d2, d3] }
  | _ => none }
def blendSumsRow : OpenClaim := { program := "ytlcfdmjkbaegpaa", sum := "3cf46903dcb3a193890a1b1f85b758ecceec037477e8c1dc981da94da02f7797", func := "fretwork/fretworklaw11.BlendSums", spec := "blendSums", unfollowed := true, recurses := true, apart := false }
def BlendSumsSaid : Prop := blendSumsRow.holds Try.pinned (OpenSpec.ofChange blendSumsSpec)

/-- ITS FALSE NEIGHBOUR: 'it returns false'. Refute it at one input. -/
def blendSumsWrong : ChangeSpec := { name := "blendSums", fn := fun _ => fun
  | [d1, d2, d3] => { results := [.lit (.bool false)], args := [d1, d2, d3] }
  | _ => none }
def BlendSumsWrongFalsely : Prop := blendSumsRow.holds Try.pinned (OpenSpec.ofChange blendSumsWrong)

/-- 'fretworklaw11.BlendMasks': WHATEVER THE INPUT: true; the input reads as it did. -/
def blendMasksSpec : ChangeSpec := { name := "blendMasks", fn := fun _ => fun
  | [d1, d2, d3] => { results := [.lit (.bool true)], args := [d1, d2, d3] }
  | _ => none }
def blendMasksRow : OpenClaim := { program := "ytlcfdmjkbaegpaa", sum := "3cf46903dcb3a193890a1b1f85b758ecceec037477e8c1dc981da94da02f7797", func := "fretwork/fretworklaw11.BlendMasks", spec := "blendMasks", unfollowed := true, recurses := true, apart := false }
def BlendMasksSaid : Prop := blendMasksRow.holds Try.pinned (OpenSpec.ofChange blendMasksSpec)

/-- ITS FALSE NEIGHBOUR: 'it returns false'. Refute it at one input. -/
def blendMasksWrong : ChangeSpec := { name := "blendMasks", fn := fun _ => fun
  | [d1, d2, d3] => { results := [.lit (.bool false)], args := [d1, d2, d3] }
  | _ => none }
def BlendMasksWrongFalsely : Prop := blendMasksRow.holds Try.pinned (OpenSpec.ofChange blendMasksWrong)

/-- 'fretworklaw11.BlendUnion': WHATEVER THE INPUT: true; the input reads as it did. -/
def blendUnionSpec : ChangeSpec := { name := "blendUnion", fn := fun _ => fun
  | [d1, d2, d3] => { results := [.lit (.bool true)], args := [d1, d2, d3] }
  | _ => none }
def blendUnionRow : OpenClaim := { program := "ytlcfdmjkbaegpaa", sum := "3cf46903dcb3a193890a1b1f85b758ecceec037477e8c1dc981da94da02f7797", func := "fretwork/fretworklaw11.BlendUnion", spec := "blendUnion", unfollowed := true, recurses := true, apart := false }
def BlendUnionSaid : Prop := blendUnionRow.holds Try.pinned (OpenSpec.ofChange blendUnionSpec)

/-- ITS FALSE NEIGHBOUR: 'it returns false'. Refute it at one input. -/
def blendUnionWrong : ChangeSpec := { name := "blendUnion", fn := fun _ => fun
  | [d1, d2, d3] => { results := [.lit (.bool false)], args := [d1, d2, d3] }
  | _ => none }
def BlendUnionWrongFalsely : Prop := blendUnionRow.holds Try.pinned (OpenSpec.ofChange blendUnionWrong)

/-- 'fretworklaw11.BlendParts': WHATEVER THE INPUT: true; the input reads as it did. -/
def blendPartsSpec : ChangeSpec := { name := "blendParts", fn := fun _ => fun
  | [d1, d2, d3] => { results := [.lit (.bool true)], args := [d1, d2, d3] }
  | _ => none }
def blendPartsRow : OpenClaim := { program := "ytlcfdmjkbaegpaa", sum := "3cf46903dcb3a193890a1b1f85b758ecceec037477e8c1dc981da94da02f7797", func := "fretwork/fretworklaw11.BlendParts", spec := "blendParts", unfollowed := true, recurses := true, apart := false }
def BlendPartsSaid : Prop := blendPartsRow.holds Try.pinned (OpenSpec.ofChange blendPartsSpec)

/-- ITS FALSE NEIGHBOUR: 'it returns false'. Refute it at one input. -/
def blendPartsWrong : ChangeSpec := { name := "blendParts", fn := fun _ => fun
  | [d1, d2, d3] => { results := [.lit (.bool false)], args := [d1, d2, d3] }
  | _ => none }
def BlendPartsWrongFalsely : Prop := blendPartsRow.holds Try.pinned (OpenSpec.ofChange blendPartsWrong)

/-- 'fretworklaw11.BlendLeast': WHATEVER THE INPUT: true; the input reads as it did. -/
def blendLeastSpec : ChangeSpec := { name := "blendLeast", fn := fun _ => fun
  | [d1, d2] => { results := [.lit (.bool true)], args := [d1, d2] }
  | _ => none }
def blendLeastRow : OpenClaim := { program := "ytlcfdmjkbaegpaa", sum := "3cf46903dcb3a193890a1b1f85b758ecceec037477e8c1dc981da94da02f7797", func := "fretwork/fretworklaw11.BlendLeast", spec := "blendLeast", unfollowed := true, recurses := true, apart := false }
def BlendLeastSaid : Prop := blendLeastRow.holds Try.pinned (OpenSpec.ofChange blendLeastSpec)

/-- ITS FALSE NEIGHBOUR: 'it returns false'. Refute it at one input. -/
def blendLeastWrong : ChangeSpec := { name := "blendLeast", fn := fun _ => fun
  | [d1, d2] => { results := [.lit (.bool false)], args := [d1, d2] }
  | _ => none }
def BlendLeastWrongFalsely : Prop := blendLeastRow.holds Try.pinned (OpenSpec.ofChange blendLeastWrong)

/-- 'fretworklaw11.BlendOver': WHATEVER THE INPUT: true; the input reads as it did. -/
def blendOverSpec : ChangeSpec := { name := "blendOver", fn := fun _ => fun
  | [d1, d2] => { results := [.lit (.bool true)], args := [d1, d2] }
  | _ => none }
def blendOverRow : OpenClaim := { program := "ytlcfdmjkbaegpaa", sum := "3cf46903dcb3a193890a1b1f85b758ecceec037477e8c1dc981da94da02f7797", func := "fretwork/fretworklaw11.BlendOver", spec := "blendOver", unfollowed := true, recurses := true, apart := false }
def BlendOverSaid : Prop := blendOverRow.holds Try.pinned (OpenSpec.ofChange blendOverSpec)

/-- ITS FALSE NEIGHBOUR: 'it returns false'. Refute it at one input. -/
def blendOverWrong : ChangeSpec := { name := "blendOver", fn := fun _ => fun
  | [d1, d2] => { results := [.lit (.bool false)], args := [d1, d2] }
  | _ => none }
def BlendOverWrongFalsely : Prop := blendOverRow.holds Try.pinned (OpenSpec.ofChange blendOverWrong)

/-- 'fretworktop.TopLeast': WHATEVER THE INPUT: true; the input reads as it did. -/
def topLeastSpec : ChangeSpec := { name := "topLeast", fn := fun _ => fun
  | [d1, d2, d3] => { results := [.lit (.bool true)], args := [d1, d2, d3] }
  | _ => none }
def topLeastRow : OpenClaim := { program := "ytlcfdmjkbaegpaa", sum := "3cf46903dcb3a193890a1b1f85b758ecceec037477e8c1dc981da94da02f7797", func := "fretwork/fretworktop.TopLeast", spec := "topLeast", unfollowed := true, recurses := true, apart := false }
def TopLeastSaid : Prop := topLeastRow.holds Try.pinned (OpenSpec.ofChange topLeastSpec)

/-- ITS FALSE NEIGHBOUR: 'it returns false'. Refute it at one input. -/
def topLeastWrong : ChangeSpec := { name := "topLeast", fn := fun _ => fun
  | [d1, d2, d3] => { results := [.lit (.bool false)], args := [d1, d2, d3] }
  | _ => none }
def TopLeastWrongFalsely : Prop := topLeastRow.holds Try.pinned (OpenSpec.ofChange topLeastWrong)

/- THE SECOND FORM. 'bulk': how many values and letters a reading holds, each counted each time it is reached (what is shared counts as often as it is met; a slice's spare places count too). A statement '..UptoSaid' is the law's where the arguments, and the package variables that the reading takes, are together of bulk at most 1048576: NARROWER than '..Said'. Prove '..Said' where nothing that the law and all that it calls make is longer than what came in: it says more and counts as full. Else prove '..UptoSaid'. A law counts once. -/
mutual
def uptoBulk {H : Type} : DataW H → Nat
  | .lit (.string bytes) => bytes.length + 1
  | .lit _ => 1
  | .nil => 1
  | .ptr d => uptoBulk d + 1
  | .slice elems spare => uptoBulkAll elems + uptoBulkAll spare + 1
  | .agg parts => uptoBulkAll parts + 1
  | .iface _ d => uptoBulk d + 1
  | .map entries => uptoBulkEntries entries + 1
  | .held _ => 1
def uptoBulkAll {H : Type} : List (DataW H) → Nat
  | [] => 0
  | d :: r => uptoBulk d + uptoBulkAll r
def uptoBulkEntries {H : Type} : List (Lit × DataW H) → Nat
  | [] => 0
  | x :: r => uptoBulkEntry x + uptoBulkEntries r
def uptoBulkEntry {H : Type} : Lit × DataW H → Nat
  | (.string bytes, d) => bytes.length + uptoBulk d + 1
  | (_, d) => uptoBulk d + 1
 end
def uptoSmall : (H : Type) → List (DataW H) → Bool := fun _ ds => decide (uptoBulkAll ds ≤ 1048576)
def OpenSpec.upto (s : _root_.Go.ChangeSpec) : _root_.Go.OpenSpec := { _root_.Go.OpenSpec.ofChange s with cond := some uptoSmall }

/-- 'fretworklaw11.BlendSums', WHERE WHAT IT READS IS OF BULK AT MOST 1048576: true; the input reads as it did. -/
def blendSumsUptoRow : OpenClaim := { program := "ytlcfdmjkbaegpaa", sum := "3cf46903dcb3a193890a1b1f85b758ecceec037477e8c1dc981da94da02f7797", func := "fretwork/fretworklaw11.BlendSums", spec := "blendSums", unfollowed := true, recurses := true, apart := false, narrowed := true }
def BlendSumsUptoSaid : Prop := blendSumsUptoRow.holds Try.pinned (OpenSpec.upto blendSumsSpec)

/-- 'fretworklaw11.BlendMasks', WHERE WHAT IT READS IS OF BULK AT MOST 1048576: true; the input reads as it did. -/
def blendMasksUptoRow : OpenClaim := { program := "ytlcfdmjkbaegpaa", sum := "3cf46903dcb3a193890a1b1f85b758ecceec037477e8c1dc981da94da02f7797", func := "fretwork/fretworklaw11.BlendMasks", spec := "blendMasks", unfollowed := true, recurses := true, apart := false, narrowed := true }
def BlendMasksUptoSaid : Prop := blendMasksUptoRow.holds Try.pinned (OpenSpec.upto blendMasksSpec)

/-- 'fretworklaw11.BlendUnion', WHERE WHAT IT READS IS OF BULK AT MOST 1048576: true; the input reads as it did. -/
def blendUnionUptoRow : OpenClaim := { program := "ytlcfdmjkbaegpaa", sum := "3cf46903dcb3a193890a1b1f85b758ecceec037477e8c1dc981da94da02f7797", func := "fretwork/fretworklaw11.BlendUnion", spec := "blendUnion", unfollowed := true, recurses := true, apart := false, narrowed := true }
def BlendUnionUptoSaid : Prop := blendUnionUptoRow.holds Try.pinned (OpenSpec.upto blendUnionSpec)

/-- 'fretworklaw11.BlendParts', WHERE WHAT IT READS IS OF BULK AT MOST 1048576: true; the input reads as it did. -/
def blendPartsUptoRow : OpenClaim := { program := "ytlcfdmjkbaegpaa", sum := "3cf46903dcb3a193890a1b1f85b758ecceec037477e8c1dc981da94da02f7797", func := "fretwork/fretworklaw11.BlendParts", spec := "blendParts", unfollowed := true, recurses := true, apart := false, narrowed := true }
def BlendPartsUptoSaid : Prop := blendPartsUptoRow.holds Try.pinned (OpenSpec.upto blendPartsSpec)

/-- 'fretworklaw11.BlendLeast', WHERE WHAT IT READS IS OF BULK AT MOST 1048576: true; the input reads as it did. -/
def blendLeastUptoRow : OpenClaim := { program := "ytlcfdmjkbaegpaa", sum := "3cf46903dcb3a193890a1b1f85b758ecceec037477e8c1dc981da94da02f7797", func := "fretwork/fretworklaw11.BlendLeast", spec := "blendLeast", unfollowed := true, recurses := true, apart := false, narrowed := true }
def BlendLeastUptoSaid : Prop := blendLeastUptoRow.holds Try.pinned (OpenSpec.upto blendLeastSpec)

/-- 'fretworklaw11.BlendOver', WHERE WHAT IT READS IS OF BULK AT MOST 1048576: true; the input reads as it did. -/
def blendOverUptoRow : OpenClaim := { program := "ytlcfdmjkbaegpaa", sum := "3cf46903dcb3a193890a1b1f85b758ecceec037477e8c1dc981da94da02f7797", func := "fretwork/fretworklaw11.BlendOver", spec := "blendOver", unfollowed := true, recurses := true, apart := false, narrowed := true }
def BlendOverUptoSaid : Prop := blendOverUptoRow.holds Try.pinned (OpenSpec.upto blendOverSpec)

/-- 'fretworktop.TopLeast', WHERE WHAT IT READS IS OF BULK AT MOST 1048576: true; the input reads as it did. -/
def topLeastUptoRow : OpenClaim := { program := "ytlcfdmjkbaegpaa", sum := "3cf46903dcb3a193890a1b1f85b758ecceec037477e8c1dc981da94da02f7797", func := "fretwork/fretworktop.TopLeast", spec := "topLeast", unfollowed := true, recurses := true, apart := false, narrowed := true }
def TopLeastUptoSaid : Prop := topLeastUptoRow.holds Try.pinned (OpenSpec.upto topLeastSpec)

end Rows
end Go.Proofs.Ytlcfdmjkbaegpaa
