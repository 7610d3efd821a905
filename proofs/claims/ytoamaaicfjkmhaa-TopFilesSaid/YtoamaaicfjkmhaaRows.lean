/-
  No cell of these rows narrows 'for every input' (looked for: loops, veiled, ifaces, maps, wideKeys, modest, calm, conditions, laid).
  DERIVED. THE GIVEN ROWS OF THIS SEAT. 3 by the template 'for every input the law returns true; each argument reads behind the call as it read before'; 0 by the template 'total and deterministic' (their statements: YtoamaaicfjkmhaaTotals.lean).
  GIVEN WITH THE SEED: the statements are not yours to turn. If you find one false, say at which input.
  Laid BY PROGRAM, IN A SANDBOX (cutbox-rows.mjs): the forced cells as the released guide's own fill.sh prints them over the translation 939430d5c77c558f… (all of the seat's roots in one cut). By AI agents, Wed Nov 11 2026. No macro, syntax, notation, axiom, sorry.
-/
import Derived.Test.YtoamaaicfjkmhaaChecked
import GoSem.Claim
import GoSem.ClaimJoined
import GoSem.ClaimMapViews
import Derived.JoinedTies
import Derived.KernelRfl
namespace Go.Proofs.Ytoamaaicfjkmhaa
/- THE CELL 'sum', in the pinned program and in every row, IS THE sha256 OF THE DUMP (.gsa) THAT YtoamaaicfjkmhaaProg.lean LOADS. Nothing in Lean hashes anything: it is a label: what it is worth is what the hold of that sum in a sandbox is worth. -/
noncomputable def Try.pinned : Pinned := { name := "ytoamaaicfjkmhaa", sum := "939430d5c77c558f02f3784096ed9c09732d53e1bed6dd8126e416ccc849220d", checked := Try.checked }
namespace Rows
def none {H : Type} : Left H := { results := [], args := [] }

/-- 'fretworklaw06.LoaderMatrices': WHATEVER THE INPUT: true; the input reads as it did. -/
def loaderMatricesSpec : ChangeSpec := { name := "loaderMatrices", fn := fun _ => fun
  | [d1, d2, d3] => { results := [.lit (.bool true)], args := [d1, d2, d3] }
  | _ => none }
def loaderMatricesRow : OpenClaim := { program := "ytoamaaicfjkmhaa", sum := "939430d5c77c558f02f3784096ed9c09732d53e1bed6dd8126e416ccc849220d", func := "fretwork/fretworklaw06.LoaderMatrices", spec := "loaderMatrices", unfollowed := true, recurses := true, plainKeys := false, apart := false }
def LoaderMatricesSaid : Prop := loaderMatricesRow.holds Try.pinned (OpenSpec.ofChange loaderMatricesSpec)

/-- ITS FALSE NEIGHBOUR: 'it returns false'. Refute it at one input. -/
def loaderMatricesWrong : ChangeSpec := { name := "loaderMatrices", fn := fun _ => fun
  | [d1, d2, d3] => { results := [.lit (.bool false)], args := [d1, d2, d3] }
  | _ => none }
def LoaderMatricesWrongFalsely : Prop := loaderMatricesRow.holds Try.pinned (OpenSpec.ofChange loaderMatricesWrong)

/-- 'fretworktop.TopFiles': WHATEVER THE INPUT: true; the input reads as it did. -/
def topFilesSpec : ChangeSpec := { name := "topFiles", fn := fun _ => fun
  | [d] => { results := [.lit (.bool true)], args := [d] }
  | _ => none }
def topFilesRow : OpenClaim := { program := "ytoamaaicfjkmhaa", sum := "939430d5c77c558f02f3784096ed9c09732d53e1bed6dd8126e416ccc849220d", func := "fretwork/fretworktop.TopFiles", spec := "topFiles", unfollowed := true, recurses := true, plainKeys := false, apart := false }
def TopFilesSaid : Prop := topFilesRow.holds Try.pinned (OpenSpec.ofChange topFilesSpec)

/-- ITS FALSE NEIGHBOUR: 'it returns false'. Refute it at one input. -/
def topFilesWrong : ChangeSpec := { name := "topFiles", fn := fun _ => fun
  | [d] => { results := [.lit (.bool false)], args := [d] }
  | _ => none }
def TopFilesWrongFalsely : Prop := topFilesRow.holds Try.pinned (OpenSpec.ofChange topFilesWrong)

/-- 'fretworktop.TopMatrix': WHATEVER THE INPUT: true; the input reads as it did. -/
def topMatrixSpec : ChangeSpec := { name := "topMatrix", fn := fun _ => fun
  | [d] => { results := [.lit (.bool true)], args := [d] }
  | _ => none }
def topMatrixRow : OpenClaim := { program := "ytoamaaicfjkmhaa", sum := "939430d5c77c558f02f3784096ed9c09732d53e1bed6dd8126e416ccc849220d", func := "fretwork/fretworktop.TopMatrix", spec := "topMatrix", unfollowed := true, recurses := true, plainKeys := false, apart := false }
def TopMatrixSaid : Prop := topMatrixRow.holds Try.pinned (OpenSpec.ofChange topMatrixSpec)

/-- ITS FALSE NEIGHBOUR: 'it returns false'. Refute it at one input. -/
def topMatrixWrong : ChangeSpec := { name := "topMatrix", fn := fun _ => fun
  | [d] => { results := [.lit (.bool false)], args := [d] }
  | _ => none }
def TopMatrixWrongFalsely : Prop := topMatrixRow.holds Try.pinned (OpenSpec.ofChange topMatrixWrong)

/- THE SECOND FORM. 'bulk': how many values and letters a reading holds, each counted each time it is reached (what is shared counts as often as it is met; a slice's spare places count too). A statement '..UptoSaid' is the law's where the arguments, and the package variables that the reading takes, are together of bulk at most 1048576: NARROWER than '..Said'. Prove '..Said' where nothing that the law and all that it calls make is longer than what came in: it says more and counts as full. Else prove '..UptoSaid'. A law counts once. -/
mutual
def uptoBulk {H : Type} : DataW H → Nat
  | .lit (.string bytes) => bytes.length + 1
  | .lit _ => 1
  | .nil => 1
  | .ptr d => uptoBulk d + 1
  | .slice elems spare => uptoBulkAll elems + uptoBulkAll spare + 1
  | .agg parts => uptoBulkAll parts + 1
  | .iface _ d => uptoBulk d + 1
  | .map entries => uptoBulkEntries entries + 1
  | .held _ => 1
def uptoBulkAll {H : Type} : List (DataW H) → Nat
  | [] => 0
  | d :: r => uptoBulk d + uptoBulkAll r
def uptoBulkEntries {H : Type} : List (Lit × DataW H) → Nat
  | [] => 0
  | x :: r => uptoBulkEntry x + uptoBulkEntries r
def uptoBulkEntry {H : Type} : Lit × DataW H → Nat
  | (.string bytes, d) => bytes.length + uptoBulk d + 1
  | (_, d) => uptoBulk d + 1
 end
def uptoSmall : (H : Type) → List (DataW H) → Bool := fun _ ds => decide (uptoBulkAll ds ≤ 1048576)
def OpenSpec.upto (s : _root_.Go.ChangeSpec) : _root_.Go.OpenSpec := { _root_.Go.OpenSpec.ofChange s with cond := some uptoSmall }

/-- 'fretworklaw06.LoaderMatrices', WHERE WHAT IT READS IS OF BULK AT MOST 1048576: true; the input reads as it did. -/
def loaderMatricesUptoRow : OpenClaim := { program := "ytoamaaicfjkmhaa", sum := "939430d5c77c558f02f3784096ed9c09732d53e1bed6dd8126e416ccc849220d", func := "fretwork/fretworklaw06.LoaderMatrices", spec := "loaderMatrices", unfollowed := true, recurses := true, plainKeys := false, apart := false, narrowed := true }
def LoaderMatricesUptoSaid : Prop := loaderMatricesUptoRow.holds Try.pinned (OpenSpec.upto loaderMatricesSpec)

/-- 'fretworktop.TopFiles', WHERE WHAT IT READS IS OF BULK AT MOST 1048576: true; the input reads as it did. -/
def topFilesUptoRow : OpenClaim := { program := "ytoamaaicfjkmhaa", sum := "939430d5c77c558f02f3784096ed9c09732d53e1bed6dd8126e416ccc849220d", func := "fretwork/fretworktop.TopFiles", spec := "topFiles", unfollowed := true, recurses := true, plainKeys := false, apart := false, narrowed := true }
def TopFilesUptoSaid : Prop := topFilesUptoRow.holds Try.pinned (OpenSpec.upto topFilesSpec)

/-- 'fretworktop.TopMatrix', WHERE WHAT IT READS IS OF BULK AT MOST 1048576: true; the input reads as it did. -/
def topMatrixUptoRow : OpenClaim := { program := "ytoamaaicfjkmhaa", sum := "939430d5c77c558f02f3784096ed9c09732d53e1bed6dd8126e416ccc849220d", func := "fretwork/fretworktop.TopMatrix", spec := "topMatrix", unfollowed := true, recurses := true, plainKeys := false, apart := false, narrowed := true }
def TopMatrixUptoSaid : Prop := topMatrixUptoRow.holds Try.pinned (OpenSpec.upto topMatrixSpec)

end Rows
end Go.Proofs.Ytoamaaicfjkmhaa
