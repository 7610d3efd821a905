/-
  No cell of these rows narrows 'for every input' (looked for: loops, veiled, ifaces, maps, wideKeys, modest, calm, conditions, laid).
  DERIVED. THE GIVEN ROWS OF THIS SEAT. 5 by the template 'for every input the law returns true; each argument reads behind the call as it read before'; 0 by the template 'total and deterministic' (their statements: YthkgcllekhnecaaTotals.lean).
  GIVEN WITH THE SEED: the statements are not yours to turn. If you find one false, say at which input.
  Laid BY PROGRAM, IN A SANDBOX (cutbox-rows.mjs): the forced cells as the released guide's own fill.sh prints them over the translation 9b43e5e662b63019… (all of the seat's roots in one cut). By AI agents, Wed Nov 11 2026. No macro, syntax, notation, axiom, sorry.
-/
import Derived.Test.YthkgcllekhnecaaChecked
import GoSem.Claim
import GoSem.ClaimJoined
import GoSem.ClaimMapViews
import Derived.JoinedTies
import Derived.KernelRfl
namespace Go.Proofs.Ythkgcllekhnecaa
/- THE CELL 'sum', in the pinned program and in every row, IS THE sha256 OF THE DUMP (.gsa) THAT YthkgcllekhnecaaProg.lean LOADS. Nothing in Lean hashes anything: it is a label: what it is worth is what the hold of that sum in a sandbox is worth. -/
noncomputable def Try.pinned : Pinned := { name := "ythkgcllekhnecaa", sum := "9b43e5e662b630199d6391e7a2c88b027e47bb068bdd97fb2dcee7637eb86ca0", checked := Try.checked }
namespace Rows
def none {H : Type} : Left H := { results := [], args := [] }

/-- 'fretworklaw09.SpvecOf': WHATEVER THE INPUT: true; the input reads as it did. -/
def spvecOfSpec : ChangeSpec := { name := "spvecOf", fn := fun _ => fun
  | [d1, d2, d3] => { results := [.lit (.bool true)], args := [d1, d2, d3] }
  | _ => none }
def spvecOfRow : OpenClaim := { program := "ythkgcllekhnecaa", sum := "9b43e5e662b630199d6391e7a2c88b027e47bb068bdd97fb2dcee7637eb86ca0", func := "fretwork/fretworklaw09.SpvecOf", spec := "spvecOf", inPlace := ["slices.overlaps[fretwork/api.Item]"], unfollowed := true, recurses := true, apart := false }
def SpvecOfSaid : Prop := spvecOfRow.holds Try.pinned (OpenSpec.ofChange spvecOfSpec)

/-- ITS FALSE NEIGHBOUR: 'it returns false'. Refute it at one input. -/
def spvecOfWrong : ChangeSpec := { name := "spvecOf", fn := fun _ => fun
  | [d1, d2, d3] => { results := [.lit (.bool false)], args := [d1, d2, d3] }
  | _ => none }
def SpvecOfWrongFalsely : Prop := spvecOfRow.holds Try.pinned (OpenSpec.ofChange spvecOfWrong)

/-- 'fretworklaw09.SpvecDoes': WHATEVER THE INPUT: true; the input reads as it did. -/
def spvecDoesSpec : ChangeSpec := { name := "spvecDoes", fn := fun _ => fun
  | [d1, d2, d3] => { results := [.lit (.bool true)], args := [d1, d2, d3] }
  | _ => none }
def spvecDoesRow : OpenClaim := { program := "ythkgcllekhnecaa", sum := "9b43e5e662b630199d6391e7a2c88b027e47bb068bdd97fb2dcee7637eb86ca0", func := "fretwork/fretworklaw09.SpvecDoes", spec := "spvecDoes", inPlace := ["slices.overlaps[fretwork/api.Item]"], unfollowed := true, recurses := true, apart := false }
def SpvecDoesSaid : Prop := spvecDoesRow.holds Try.pinned (OpenSpec.ofChange spvecDoesSpec)

/-- ITS FALSE NEIGHBOUR: 'it returns false'. Refute it at one input. -/
def spvecDoesWrong : ChangeSpec := { name := "spvecDoes", fn := fun _ => fun
  | [d1, d2, d3] => { results := [.lit (.bool false)], args := [d1, d2, d3] }
  | _ => none }
def SpvecDoesWrongFalsely : Prop := spvecDoesRow.holds Try.pinned (OpenSpec.ofChange spvecDoesWrong)

/-- 'fretworklaw09.SpvecGlues': WHATEVER THE INPUT: true; the input reads as it did. -/
def spvecGluesSpec : ChangeSpec := { name := "spvecGlues", fn := fun _ => fun
  | [d] => { results := [.lit (.bool true)], args := [d] }
  | _ => none }
def spvecGluesRow : OpenClaim := { program := "ythkgcllekhnecaa", sum := "9b43e5e662b630199d6391e7a2c88b027e47bb068bdd97fb2dcee7637eb86ca0", func := "fretwork/fretworklaw09.SpvecGlues", spec := "spvecGlues", inPlace := ["slices.overlaps[fretwork/api.Item]"], unfollowed := true, recurses := true, apart := false }
def SpvecGluesSaid : Prop := spvecGluesRow.holds Try.pinned (OpenSpec.ofChange spvecGluesSpec)

/-- ITS FALSE NEIGHBOUR: 'it returns false'. Refute it at one input. -/
def spvecGluesWrong : ChangeSpec := { name := "spvecGlues", fn := fun _ => fun
  | [d] => { results := [.lit (.bool false)], args := [d] }
  | _ => none }
def SpvecGluesWrongFalsely : Prop := spvecGluesRow.holds Try.pinned (OpenSpec.ofChange spvecGluesWrong)

/-- 'fretworklaw09.SpvecPuts': WHATEVER THE INPUT: true; the input reads as it did. -/
def spvecPutsSpec : ChangeSpec := { name := "spvecPuts", fn := fun _ => fun
  | [d1, d2, d3] => { results := [.lit (.bool true)], args := [d1, d2, d3] }
  | _ => none }
def spvecPutsRow : OpenClaim := { program := "ythkgcllekhnecaa", sum := "9b43e5e662b630199d6391e7a2c88b027e47bb068bdd97fb2dcee7637eb86ca0", func := "fretwork/fretworklaw09.SpvecPuts", spec := "spvecPuts", inPlace := ["slices.overlaps[fretwork/api.Item]"], unfollowed := true, recurses := true, apart := false }
def SpvecPutsSaid : Prop := spvecPutsRow.holds Try.pinned (OpenSpec.ofChange spvecPutsSpec)

/-- ITS FALSE NEIGHBOUR: 'it returns false'. Refute it at one input. -/
def spvecPutsWrong : ChangeSpec := { name := "spvecPuts", fn := fun _ => fun
  | [d1, d2, d3] => { results := [.lit (.bool false)], args := [d1, d2, d3] }
  | _ => none }
def SpvecPutsWrongFalsely : Prop := spvecPutsRow.holds Try.pinned (OpenSpec.ofChange spvecPutsWrong)

/-- 'fretworklaw09.SpvecParts': WHATEVER THE INPUT: true; the input reads as it did. -/
def spvecPartsSpec : ChangeSpec := { name := "spvecParts", fn := fun _ => fun
  | [d1, d2, d3] => { results := [.lit (.bool true)], args := [d1, d2, d3] }
  | _ => none }
def spvecPartsRow : OpenClaim := { program := "ythkgcllekhnecaa", sum := "9b43e5e662b630199d6391e7a2c88b027e47bb068bdd97fb2dcee7637eb86ca0", func := "fretwork/fretworklaw09.SpvecParts", spec := "spvecParts", inPlace := ["slices.overlaps[fretwork/api.Item]"], unfollowed := true, recurses := true, apart := false }
def SpvecPartsSaid : Prop := spvecPartsRow.holds Try.pinned (OpenSpec.ofChange spvecPartsSpec)

/-- ITS FALSE NEIGHBOUR: 'it returns false'. Refute it at one input. -/
def spvecPartsWrong : ChangeSpec := { name := "spvecParts", fn := fun _ => fun
  | [d1, d2, d3] => { results := [.lit (.bool false)], args := [d1, d2, d3] }
  | _ => none }
def SpvecPartsWrongFalsely : Prop := spvecPartsRow.holds Try.pinned (OpenSpec.ofChange spvecPartsWrong)

/- THE SECOND FORM. 'bulk': how many values and letters a reading holds, each counted each time it is reached (what is shared counts as often as it is met; a slice's spare places count too). A statement '..UptoSaid' is the law's where the arguments, and the package variables that the reading takes, are together of bulk at most 1048576: NARROWER than '..Said'. Prove '..Said' where nothing that the law and all that it calls make is longer than what came in: it says more and counts as full. Else prove '..UptoSaid'. A law counts once. -/
mutual
def uptoBulk {H : Type} : DataW H → Nat
  | .lit (.string bytes) => bytes.length + 1
  | .lit _ => 1
  | .nil => 1
  | .ptr d => uptoBulk d + 1
  | .slice elems spare => uptoBulkAll elems + uptoBulkAll spare + 1
  | .agg parts => uptoBulkAll parts + 1
  | .iface _ d => uptoBulk d + 1
  | .map entries => uptoBulkEntries entries + 1
  | .held _ => 1
def uptoBulkAll {H : Type} : List (DataW H) → Nat
  | [] => 0
  | d :: r => uptoBulk d + uptoBulkAll r
def uptoBulkEntries {H : Type} : List (Lit × DataW H) → Nat
  | [] => 0
  | x :: r => uptoBulkEntry x + uptoBulkEntries r
def uptoBulkEntry {H : Type} : Lit × DataW H → Nat
  | (.string bytes, d) => bytes.length + uptoBulk d + 1
  | (_, d) => uptoBulk d + 1
 end
def uptoSmall : (H : Type) → List (DataW H) → Bool := fun _ ds => decide (uptoBulkAll ds ≤ 1048576)
def OpenSpec.upto (s : _root_.Go.ChangeSpec) : _root_.Go.OpenSpec := { _root_.Go.OpenSpec.ofChange s with cond := some uptoSmall }

/-- 'fretworklaw09.SpvecOf', WHERE WHAT IT READS IS OF BULK AT MOST 1048576: true; the input reads as it did. -/
def spvecOfUptoRow : OpenClaim := { program := "ythkgcllekhnecaa", sum := "9b43e5e662b630199d6391e7a2c88b027e47bb068bdd97fb2dcee7637eb86ca0", func := "fretwork/fretworklaw09.SpvecOf", spec := "spvecOf", inPlace := ["slices.overlaps[fretwork/api.Item]"], unfollowed := true, recurses := true, apart := false, narrowed := true }
def SpvecOfUptoSaid : Prop := spvecOfUptoRow.holds Try.pinned (OpenSpec.upto spvecOfSpec)

/-- 'fretworklaw09.SpvecDoes', WHERE WHAT IT READS IS OF BULK AT MOST 1048576: true; the input reads as it did. -/
def spvecDoesUptoRow : OpenClaim := { program := "ythkgcllekhnecaa", sum := "9b43e5e662b630199d6391e7a2c88b027e47bb068bdd97fb2dcee7637eb86ca0", func := "fretwork/fretworklaw09.SpvecDoes", spec := "spvecDoes", inPlace := ["slices.overlaps[fretwork/api.Item]"], unfollowed := true, recurses := true, apart := false, narrowed := true }
def SpvecDoesUptoSaid : Prop := spvecDoesUptoRow.holds Try.pinned (OpenSpec.upto spvecDoesSpec)

/-- 'fretworklaw09.SpvecGlues', WHERE WHAT IT READS IS OF BULK AT MOST 1048576: true; the input reads as it did. -/
def spvecGluesUptoRow : OpenClaim := { program := "ythkgcllekhnecaa", sum := "9b43e5e662b630199d6391e7a2c88b027e47bb068bdd97fb2dcee7637eb86ca0", func := "fretwork/fretworklaw09.SpvecGlues", spec := "spvecGlues", inPlace := ["slices.overlaps[fretwork/api.Item]"], unfollowed := true, recurses := true, apart := false, narrowed := true }
def SpvecGluesUptoSaid : Prop := spvecGluesUptoRow.holds Try.pinned (OpenSpec.upto spvecGluesSpec)

/-- 'fretworklaw09.SpvecPuts', WHERE WHAT IT READS IS OF BULK AT MOST 1048576: true; the input reads as it did. -/
def spvecPutsUptoRow : OpenClaim := { program := "ythkgcllekhnecaa", sum := "9b43e5e662b630199d6391e7a2c88b027e47bb068bdd97fb2dcee7637eb86ca0", func := "fretwork/fretworklaw09.SpvecPuts", spec := "spvecPuts", inPlace := ["slices.overlaps[fretwork/api.Item]"], unfollowed := true, recurses := true, apart := false, narrowed := true }
def SpvecPutsUptoSaid : Prop := spvecPutsUptoRow.holds Try.pinned (OpenSpec.upto spvecPutsSpec)

/-- 'fretworklaw09.SpvecParts', WHERE WHAT IT READS IS OF BULK AT MOST 1048576: true; the input reads as it did. -/
def spvecPartsUptoRow : OpenClaim := { program := "ythkgcllekhnecaa", sum := "9b43e5e662b630199d6391e7a2c88b027e47bb068bdd97fb2dcee7637eb86ca0", func := "fretwork/fretworklaw09.SpvecParts", spec := "spvecParts", inPlace := ["slices.overlaps[fretwork/api.Item]"], unfollowed := true, recurses := true, apart := false, narrowed := true }
def SpvecPartsUptoSaid : Prop := spvecPartsUptoRow.holds Try.pinned (OpenSpec.upto spvecPartsSpec)

end Rows
end Go.Proofs.Ythkgcllekhnecaa
