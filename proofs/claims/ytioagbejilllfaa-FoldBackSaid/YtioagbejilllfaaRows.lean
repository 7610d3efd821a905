/-
  No cell of these rows narrows 'for every input' (looked for: loops, veiled, ifaces, maps, wideKeys, modest, calm, conditions, laid).
  DERIVED. THE GIVEN ROWS OF THIS SEAT. 7 by the template 'for every input the law returns true; each argument reads behind the call as it read before'; 0 by the template 'total and deterministic' (their statements: YtioagbejilllfaaTotals.lean).
  GIVEN WITH THE SEED: the statements are not yours to turn. If you find one false, say at which input.
  Laid BY PROGRAM, IN A SANDBOX (cutbox-rows.mjs): the forced cells as the released guide's own fill.sh prints them over the translation 87f65b1bcc624f3a… (all of the seat's roots in one cut). By AI agents, Wed Nov 11 2026. No macro, syntax, notation, axiom, sorry.
-/
import Derived.Test.YtioagbejilllfaaChecked
import GoSem.Claim
import GoSem.ClaimJoined
import GoSem.ClaimMapViews
import Derived.JoinedTies
import Derived.KernelRfl
namespace Go.Proofs.Ytioagbejilllfaa
/- THE CELL 'sum', in the pinned program and in every row, IS THE sha256 OF THE DUMP (.gsa) THAT YtioagbejilllfaaProg.lean LOADS. Nothing in Lean hashes anything: it is a label: what it is worth is what the hold of that sum in a sandbox is worth. -/
noncomputable def Try.pinned : Pinned := { name := "ytioagbejilllfaa", sum := "87f65b1bcc624f3a250b27abb25513e7accd2587f9c3410596818d3c403ec014", checked := Try.checked }
namespace Rows
def none {H : Type} : Left H := { results := [], args := [] }

/-- 'fretworklaw12.FoldReduces': WHATEVER THE INPUT: true; the input reads as it did. -/
def foldReducesSpec : ChangeSpec := { name := "foldReduces", fn := fun _ => fun
  | [d1, d2, d3] => { results := [.lit (.bool true)], args := [d1, d2, d3] }
  | _ => none }
def foldReducesRow : OpenClaim := { program := "ytioagbejilllfaa", sum := "87f65b1bcc624f3a250b27abb25513e7accd2587f9c3410596818d3c403ec014", func := "fretwork/fretworklaw12.FoldReduces", spec := "foldReduces", apart := false }
def FoldReducesSaid : Prop := foldReducesRow.holds Try.pinned (OpenSpec.ofChange foldReducesSpec)

/-- ITS FALSE NEIGHBOUR: 'it returns false'. Refute it at one input. -/
def foldReducesWrong : ChangeSpec := { name := "foldReduces", fn := fun _ => fun
  | [d1, d2, d3] => { results := [.lit (.bool false)], args := [d1, d2, d3] }
  | _ => none }
def FoldReducesWrongFalsely : Prop := foldReducesRow.holds Try.pinned (OpenSpec.ofChange foldReducesWrong)

/-- 'fretworklaw12.FoldPicks': WHATEVER THE INPUT: true; the input reads as it did. -/
def foldPicksSpec : ChangeSpec := { name := "foldPicks", fn := fun _ => fun
  | [d1, d2, d3] => { results := [.lit (.bool true)], args := [d1, d2, d3] }
  | _ => none }
def foldPicksRow : OpenClaim := { program := "ytioagbejilllfaa", sum := "87f65b1bcc624f3a250b27abb25513e7accd2587f9c3410596818d3c403ec014", func := "fretwork/fretworklaw12.FoldPicks", spec := "foldPicks", apart := false }
def FoldPicksSaid : Prop := foldPicksRow.holds Try.pinned (OpenSpec.ofChange foldPicksSpec)

/-- ITS FALSE NEIGHBOUR: 'it returns false'. Refute it at one input. -/
def foldPicksWrong : ChangeSpec := { name := "foldPicks", fn := fun _ => fun
  | [d1, d2, d3] => { results := [.lit (.bool false)], args := [d1, d2, d3] }
  | _ => none }
def FoldPicksWrongFalsely : Prop := foldPicksRow.holds Try.pinned (OpenSpec.ofChange foldPicksWrong)

/-- 'fretworklaw12.FoldParts': WHATEVER THE INPUT: true; the input reads as it did. -/
def foldPartsSpec : ChangeSpec := { name := "foldParts", fn := fun _ => fun
  | [d1, d2, d3] => { results := [.lit (.bool true)], args := [d1, d2, d3] }
  | _ => none }
def foldPartsRow : OpenClaim := { program := "ytioagbejilllfaa", sum := "87f65b1bcc624f3a250b27abb25513e7accd2587f9c3410596818d3c403ec014", func := "fretwork/fretworklaw12.FoldParts", spec := "foldParts", apart := false }
def FoldPartsSaid : Prop := foldPartsRow.holds Try.pinned (OpenSpec.ofChange foldPartsSpec)

/-- ITS FALSE NEIGHBOUR: 'it returns false'. Refute it at one input. -/
def foldPartsWrong : ChangeSpec := { name := "foldParts", fn := fun _ => fun
  | [d1, d2, d3] => { results := [.lit (.bool false)], args := [d1, d2, d3] }
  | _ => none }
def FoldPartsWrongFalsely : Prop := foldPartsRow.holds Try.pinned (OpenSpec.ofChange foldPartsWrong)

/-- 'fretworklaw12.FoldWhere': WHATEVER THE INPUT: true; the input reads as it did. -/
def foldWhereSpec : ChangeSpec := { name := "foldWhere", fn := fun _ => fun
  | [d1, d2, d3] => { results := [.lit (.bool true)], args := [d1, d2, d3] }
  | _ => none }
def foldWhereRow : OpenClaim := { program := "ytioagbejilllfaa", sum := "87f65b1bcc624f3a250b27abb25513e7accd2587f9c3410596818d3c403ec014", func := "fretwork/fretworklaw12.FoldWhere", spec := "foldWhere", apart := false }
def FoldWhereSaid : Prop := foldWhereRow.holds Try.pinned (OpenSpec.ofChange foldWhereSpec)

/-- ITS FALSE NEIGHBOUR: 'it returns false'. Refute it at one input. -/
def foldWhereWrong : ChangeSpec := { name := "foldWhere", fn := fun _ => fun
  | [d1, d2, d3] => { results := [.lit (.bool false)], args := [d1, d2, d3] }
  | _ => none }
def FoldWhereWrongFalsely : Prop := foldWhereRow.holds Try.pinned (OpenSpec.ofChange foldWhereWrong)

/-- 'fretworklaw12.FoldBack': WHATEVER THE INPUT: true; the input reads as it did. -/
def foldBackSpec : ChangeSpec := { name := "foldBack", fn := fun _ => fun
  | [d1, d2, d3] => { results := [.lit (.bool true)], args := [d1, d2, d3] }
  | _ => none }
def foldBackRow : OpenClaim := { program := "ytioagbejilllfaa", sum := "87f65b1bcc624f3a250b27abb25513e7accd2587f9c3410596818d3c403ec014", func := "fretwork/fretworklaw12.FoldBack", spec := "foldBack", apart := false }
def FoldBackSaid : Prop := foldBackRow.holds Try.pinned (OpenSpec.ofChange foldBackSpec)

/-- ITS FALSE NEIGHBOUR: 'it returns false'. Refute it at one input. -/
def foldBackWrong : ChangeSpec := { name := "foldBack", fn := fun _ => fun
  | [d1, d2, d3] => { results := [.lit (.bool false)], args := [d1, d2, d3] }
  | _ => none }
def FoldBackWrongFalsely : Prop := foldBackRow.holds Try.pinned (OpenSpec.ofChange foldBackWrong)

/-- 'fretworklaw12.FoldLeast': WHATEVER THE INPUT: true; the input reads as it did. -/
def foldLeastSpec : ChangeSpec := { name := "foldLeast", fn := fun _ => fun
  | [d1, d2] => { results := [.lit (.bool true)], args := [d1, d2] }
  | _ => none }
def foldLeastRow : OpenClaim := { program := "ytioagbejilllfaa", sum := "87f65b1bcc624f3a250b27abb25513e7accd2587f9c3410596818d3c403ec014", func := "fretwork/fretworklaw12.FoldLeast", spec := "foldLeast", apart := false }
def FoldLeastSaid : Prop := foldLeastRow.holds Try.pinned (OpenSpec.ofChange foldLeastSpec)

/-- ITS FALSE NEIGHBOUR: 'it returns false'. Refute it at one input. -/
def foldLeastWrong : ChangeSpec := { name := "foldLeast", fn := fun _ => fun
  | [d1, d2] => { results := [.lit (.bool false)], args := [d1, d2] }
  | _ => none }
def FoldLeastWrongFalsely : Prop := foldLeastRow.holds Try.pinned (OpenSpec.ofChange foldLeastWrong)

/-- 'fretworktop.TopLeast': WHATEVER THE INPUT: true; the input reads as it did. -/
def topLeastSpec : ChangeSpec := { name := "topLeast", fn := fun _ => fun
  | [d1, d2, d3] => { results := [.lit (.bool true)], args := [d1, d2, d3] }
  | _ => none }
def topLeastRow : OpenClaim := { program := "ytioagbejilllfaa", sum := "87f65b1bcc624f3a250b27abb25513e7accd2587f9c3410596818d3c403ec014", func := "fretwork/fretworktop.TopLeast", spec := "topLeast", unfollowed := true, recurses := true, apart := false }
def TopLeastSaid : Prop := topLeastRow.holds Try.pinned (OpenSpec.ofChange topLeastSpec)

/-- ITS FALSE NEIGHBOUR: 'it returns false'. Refute it at one input. -/
def topLeastWrong : ChangeSpec := { name := "topLeast", fn := fun _ => fun
  | [d1, d2, d3] => { results := [.lit (.bool false)], args := [d1, d2, d3] }
  | _ => none }
def TopLeastWrongFalsely : Prop := topLeastRow.holds Try.pinned (OpenSpec.ofChange topLeastWrong)

/- THE SECOND FORM. 'bulk': how many values and letters a reading holds, each counted each time it is reached (what is shared counts as often as it is met; a slice's spare places count too). A statement '..UptoSaid' is the law's where the arguments, and the package variables that the reading takes, are together of bulk at most 1048576: NARROWER than '..Said'. Prove '..Said' where nothing that the law and all that it calls make is longer than what came in: it says more and counts as full. Else prove '..UptoSaid'. A law counts once. -/
mutual
def uptoBulk {H : Type} : DataW H → Nat
  | .lit (.string bytes) => bytes.length + 1
  | .lit _ => 1
  | .nil => 1
  | .ptr d => uptoBulk d + 1
  | .slice elems spare => uptoBulkAll elems + uptoBulkAll spare + 1
  | .agg parts => uptoBulkAll parts + 1
  | .iface _ d => uptoBulk d + 1
  | .map entries => uptoBulkEntries entries + 1
  | .held _ => 1
def uptoBulkAll {H : Type} : List (DataW H) → Nat
  | [] => 0
  | d :: r => uptoBulk d + uptoBulkAll r
def uptoBulkEntries {H : Type} : List (Lit × DataW H) → Nat
  | [] => 0
  | x :: r => uptoBulkEntry x + uptoBulkEntries r
def uptoBulkEntry {H : Type} : Lit × DataW H → Nat
  | (.string bytes, d) => bytes.length + uptoBulk d + 1
  | (_, d) => uptoBulk d + 1
 end
def uptoSmall : (H : Type) → List (DataW H) → Bool := fun _ ds => decide (uptoBulkAll ds ≤ 1048576)
def OpenSpec.upto (s : _root_.Go.ChangeSpec) : _root_.Go.OpenSpec := { _root_.Go.OpenSpec.ofChange s with cond := some uptoSmall }

/-- 'fretworklaw12.FoldReduces', WHERE WHAT IT READS IS OF BULK AT MOST 1048576: true; the input reads as it did. -/
def foldReducesUptoRow : OpenClaim := { program := "ytioagbejilllfaa", sum := "87f65b1bcc624f3a250b27abb25513e7accd2587f9c3410596818d3c403ec014", func := "fretwork/fretworklaw12.FoldReduces", spec := "foldReduces", apart := false, narrowed := true }
def FoldReducesUptoSaid : Prop := foldReducesUptoRow.holds Try.pinned (OpenSpec.upto foldReducesSpec)

/-- 'fretworklaw12.FoldPicks', WHERE WHAT IT READS IS OF BULK AT MOST 1048576: true; the input reads as it did. -/
def foldPicksUptoRow : OpenClaim := { program := "ytioagbejilllfaa", sum := "87f65b1bcc624f3a250b27abb25513e7accd2587f9c3410596818d3c403ec014", func := "fretwork/fretworklaw12.FoldPicks", spec := "foldPicks", apart := false, narrowed := true }
def FoldPicksUptoSaid : Prop := foldPicksUptoRow.holds Try.pinned (OpenSpec.upto foldPicksSpec)

/-- 'fretworklaw12.FoldParts', WHERE WHAT IT READS IS OF BULK AT MOST 1048576: true; the input reads as it did. -/
def foldPartsUptoRow : OpenClaim := { program := "ytioagbejilllfaa", sum := "87f65b1bcc624f3a250b27abb25513e7accd2587f9c3410596818d3c403ec014", func := "fretwork/fretworklaw12.FoldParts", spec := "foldParts", apart := false, narrowed := true }
def FoldPartsUptoSaid : Prop := foldPartsUptoRow.holds Try.pinned (OpenSpec.upto foldPartsSpec)

/-- 'fretworklaw12.FoldWhere', WHERE WHAT IT READS IS OF BULK AT MOST 1048576: true; the input reads as it did. -/
def foldWhereUptoRow : OpenClaim := { program := "ytioagbejilllfaa", sum := "87f65b1bcc624f3a250b27abb25513e7accd2587f9c3410596818d3c403ec014", func := "fretwork/fretworklaw12.FoldWhere", spec := "foldWhere", apart := false, narrowed := true }
def FoldWhereUptoSaid : Prop := foldWhereUptoRow.holds Try.pinned (OpenSpec.upto foldWhereSpec)

/-- 'fretworklaw12.FoldBack', WHERE WHAT IT READS IS OF BULK AT MOST 1048576: true; the input reads as it did. -/
def foldBackUptoRow : OpenClaim := { program := "ytioagbejilllfaa", sum := "87f65b1bcc624f3a250b27abb25513e7accd2587f9c3410596818d3c403ec014", func := "fretwork/fretworklaw12.FoldBack", spec := "foldBack", apart := false, narrowed := true }
def FoldBackUptoSaid : Prop := foldBackUptoRow.holds Try.pinned (OpenSpec.upto foldBackSpec)

/-- 'fretworklaw12.FoldLeast', WHERE WHAT IT READS IS OF BULK AT MOST 1048576: true; the input reads as it did. -/
def foldLeastUptoRow : OpenClaim := { program := "ytioagbejilllfaa", sum := "87f65b1bcc624f3a250b27abb25513e7accd2587f9c3410596818d3c403ec014", func := "fretwork/fretworklaw12.FoldLeast", spec := "foldLeast", apart := false, narrowed := true }
def FoldLeastUptoSaid : Prop := foldLeastUptoRow.holds Try.pinned (OpenSpec.upto foldLeastSpec)

/-- 'fretworktop.TopLeast', WHERE WHAT IT READS IS OF BULK AT MOST 1048576: true; the input reads as it did. -/
def topLeastUptoRow : OpenClaim := { program := "ytioagbejilllfaa", sum := "87f65b1bcc624f3a250b27abb25513e7accd2587f9c3410596818d3c403ec014", func := "fretwork/fretworktop.TopLeast", spec := "topLeast", unfollowed := true, recurses := true, apart := false, narrowed := true }
def TopLeastUptoSaid : Prop := topLeastUptoRow.holds Try.pinned (OpenSpec.upto topLeastSpec)

end Rows
end Go.Proofs.Ytioagbejilllfaa
