/-
  No cell of these rows narrows 'for every input' (looked for: loops, veiled, ifaces, maps, wideKeys, modest, calm, conditions, laid).
  DERIVED. THE GIVEN ROWS OF THIS SEAT. 5 by the template 'for every input the law returns true; each argument reads behind the call as it read before'; 0 by the template 'total and deterministic' (their statements: YtoamaaicfjkmhaaGreatTotals.lean).
  GIVEN WITH THE SEED: the statements are not yours to turn. If you find one false, say at which input.
  Laid BY PROGRAM, IN A SANDBOX (cutbox-rows.mjs): the forced cells as the released guide's own fill.sh prints them over the translation e4d7df6870c254a6… (all of the seat's roots in one cut). By AI agents, Wed Nov 11 2026. No macro, syntax, notation, axiom, sorry.
-/
import Derived.Test.YtoamaaicfjkmhaaGreatChecked
import GoSem.Claim
import GoSem.ClaimJoined
import GoSem.ClaimMapViews
import Derived.JoinedTies
import Derived.KernelRfl
namespace Go.Proofs.YtoamaaicfjkmhaaGreat
/- THE CELL 'sum', in the pinned program and in every row, IS THE sha256 OF THE DUMP (.gsa) THAT YtoamaaicfjkmhaaGreatProg.lean LOADS. Nothing in Lean hashes anything: it is a label: what it is worth is what the hold of that sum in a sandbox is worth. -/
noncomputable def Tryz.pinned : Pinned := { name := "ytoamaaicfjkmhaagreat", sum := "e4d7df6870c254a604f846e51bc7dfedf83382adb5ea9d89ab06f05575f7afd1", checked := Tryz.checked }
namespace Rows
def none {H : Type} : Left H := { results := [], args := [] }

/-- 'fretworklaw06.LoaderWrites': WHATEVER THE INPUT: true; the input reads as it did. -/
def loaderWritesSpec : ChangeSpec := { name := "loaderWrites", fn := fun _ => fun
  | [d] => { results := [.lit (.bool true)], args := [d] }
  | _ => none }
def loaderWritesRow : OpenClaim := { program := "ytoamaaicfjkmhaagreat", sum := "e4d7df6870c254a604f846e51bc7dfedf83382adb5ea9d89ab06f05575f7afd1", func := "fretwork/fretworklaw06.LoaderWrites", spec := "loaderWrites", unfollowed := true, recurses := true, plainKeys := false, apart := false }
def LoaderWritesSaid : Prop := loaderWritesRow.holds Tryz.pinned (OpenSpec.ofChange loaderWritesSpec)

/-- ITS FALSE NEIGHBOUR: 'it returns false'. Refute it at one input. -/
def loaderWritesWrong : ChangeSpec := { name := "loaderWrites", fn := fun _ => fun
  | [d] => { results := [.lit (.bool false)], args := [d] }
  | _ => none }
def LoaderWritesWrongFalsely : Prop := loaderWritesRow.holds Tryz.pinned (OpenSpec.ofChange loaderWritesWrong)

/-- 'fretworklaw06.LoaderReads': WHATEVER THE INPUT: true; the input reads as it did. -/
def loaderReadsSpec : ChangeSpec := { name := "loaderReads", fn := fun _ => fun
  | [d] => { results := [.lit (.bool true)], args := [d] }
  | _ => none }
def loaderReadsRow : OpenClaim := { program := "ytoamaaicfjkmhaagreat", sum := "e4d7df6870c254a604f846e51bc7dfedf83382adb5ea9d89ab06f05575f7afd1", func := "fretwork/fretworklaw06.LoaderReads", spec := "loaderReads", unfollowed := true, recurses := true, plainKeys := false, apart := false }
def LoaderReadsSaid : Prop := loaderReadsRow.holds Tryz.pinned (OpenSpec.ofChange loaderReadsSpec)

/-- ITS FALSE NEIGHBOUR: 'it returns false'. Refute it at one input. -/
def loaderReadsWrong : ChangeSpec := { name := "loaderReads", fn := fun _ => fun
  | [d] => { results := [.lit (.bool false)], args := [d] }
  | _ => none }
def LoaderReadsWrongFalsely : Prop := loaderReadsRow.holds Tryz.pinned (OpenSpec.ofChange loaderReadsWrong)

/-- 'fretworklaw06.LoaderMatrix': WHATEVER THE INPUT: true; the input reads as it did. -/
def loaderMatrixSpec : ChangeSpec := { name := "loaderMatrix", fn := fun _ => fun
  | [d1, d2, d3] => { results := [.lit (.bool true)], args := [d1, d2, d3] }
  | _ => none }
def loaderMatrixRow : OpenClaim := { program := "ytoamaaicfjkmhaagreat", sum := "e4d7df6870c254a604f846e51bc7dfedf83382adb5ea9d89ab06f05575f7afd1", func := "fretwork/fretworklaw06.LoaderMatrix", spec := "loaderMatrix", unfollowed := true, recurses := true, plainKeys := false, apart := false }
def LoaderMatrixSaid : Prop := loaderMatrixRow.holds Tryz.pinned (OpenSpec.ofChange loaderMatrixSpec)

/-- ITS FALSE NEIGHBOUR: 'it returns false'. Refute it at one input. -/
def loaderMatrixWrong : ChangeSpec := { name := "loaderMatrix", fn := fun _ => fun
  | [d1, d2, d3] => { results := [.lit (.bool false)], args := [d1, d2, d3] }
  | _ => none }
def LoaderMatrixWrongFalsely : Prop := loaderMatrixRow.holds Tryz.pinned (OpenSpec.ofChange loaderMatrixWrong)

/-- 'fretworklaw06.LoaderBack': WHATEVER THE INPUT: true; the input reads as it did. -/
def loaderBackSpec : ChangeSpec := { name := "loaderBack", fn := fun _ => fun
  | [d1, d2] => { results := [.lit (.bool true)], args := [d1, d2] }
  | _ => none }
def loaderBackRow : OpenClaim := { program := "ytoamaaicfjkmhaagreat", sum := "e4d7df6870c254a604f846e51bc7dfedf83382adb5ea9d89ab06f05575f7afd1", func := "fretwork/fretworklaw06.LoaderBack", spec := "loaderBack", unfollowed := true, recurses := true, plainKeys := false, apart := false }
def LoaderBackSaid : Prop := loaderBackRow.holds Tryz.pinned (OpenSpec.ofChange loaderBackSpec)

/-- ITS FALSE NEIGHBOUR: 'it returns false'. Refute it at one input. -/
def loaderBackWrong : ChangeSpec := { name := "loaderBack", fn := fun _ => fun
  | [d1, d2] => { results := [.lit (.bool false)], args := [d1, d2] }
  | _ => none }
def LoaderBackWrongFalsely : Prop := loaderBackRow.holds Tryz.pinned (OpenSpec.ofChange loaderBackWrong)

/-- 'fretworklaw06.LoaderCuts': WHATEVER THE INPUT: true; the input reads as it did. -/
def loaderCutsSpec : ChangeSpec := { name := "loaderCuts", fn := fun _ => fun
  | [d1, d2, d3] => { results := [.lit (.bool true)], args := [d1, d2, d3] }
  | _ => none }
def loaderCutsRow : OpenClaim := { program := "ytoamaaicfjkmhaagreat", sum := "e4d7df6870c254a604f846e51bc7dfedf83382adb5ea9d89ab06f05575f7afd1", func := "fretwork/fretworklaw06.LoaderCuts", spec := "loaderCuts", unfollowed := true, recurses := true, plainKeys := false, apart := false }
def LoaderCutsSaid : Prop := loaderCutsRow.holds Tryz.pinned (OpenSpec.ofChange loaderCutsSpec)

/-- ITS FALSE NEIGHBOUR: 'it returns false'. Refute it at one input. -/
def loaderCutsWrong : ChangeSpec := { name := "loaderCuts", fn := fun _ => fun
  | [d1, d2, d3] => { results := [.lit (.bool false)], args := [d1, d2, d3] }
  | _ => none }
def LoaderCutsWrongFalsely : Prop := loaderCutsRow.holds Tryz.pinned (OpenSpec.ofChange loaderCutsWrong)

/- THE SECOND FORM. 'bulk': how many values and letters a reading holds, each counted each time it is reached (what is shared counts as often as it is met; a slice's spare places count too). A statement '..UptoSaid' is the law's where the arguments, and the package variables that the reading takes, are together of bulk at most 1048576: NARROWER than '..Said'. Prove '..Said' where nothing that the law and all that it calls make is longer than what came in: it says more and counts as full. Else prove '..UptoSaid'. A law counts once. -/
mutual
def uptoBulk {H : Type} : DataW H → Nat
  | .lit (.string bytes) => bytes.length + 1
  | .lit _ => 1
  | .nil => 1
  | .ptr d => uptoBulk d + 1
  | .slice elems spare => uptoBulkAll elems + uptoBulkAll spare + 1
  | .agg parts => uptoBulkAll parts + 1
  | .iface _ d => uptoBulk d + 1
  | .map entries => uptoBulkEntries entries + 1
  | .held _ => 1
def uptoBulkAll {H : Type} : List (DataW H) → Nat
  | [] => 0
  | d :: r => uptoBulk d + uptoBulkAll r
def uptoBulkEntries {H : Type} : List (Lit × DataW H) → Nat
  | [] => 0
  | x :: r => uptoBulkEntry x + uptoBulkEntries r
def uptoBulkEntry {H : Type} : Lit × DataW H → Nat
  | (.string bytes, d) => bytes.length + uptoBulk d + 1
  | (_, d) => uptoBulk d + 1
 end
def uptoSmall : (H : Type) → List (DataW H) → Bool := fun _ ds => decide (uptoBulkAll ds ≤ 1048576)
def OpenSpec.upto (s : _root_.Go.ChangeSpec) : _root_.Go.OpenSpec := { _root_.Go.OpenSpec.ofChange s with cond := some uptoSmall }

/-- 'fretworklaw06.LoaderWrites', WHERE WHAT IT READS IS OF BULK AT MOST 1048576: true; the input reads as it did. -/
def loaderWritesUptoRow : OpenClaim := { program := "ytoamaaicfjkmhaagreat", sum := "e4d7df6870c254a604f846e51bc7dfedf83382adb5ea9d89ab06f05575f7afd1", func := "fretwork/fretworklaw06.LoaderWrites", spec := "loaderWrites", unfollowed := true, recurses := true, plainKeys := false, apart := false, narrowed := true }
def LoaderWritesUptoSaid : Prop := loaderWritesUptoRow.holds Tryz.pinned (OpenSpec.upto loaderWritesSpec)

/-- 'fretworklaw06.LoaderReads', WHERE WHAT IT READS IS OF BULK AT MOST 1048576: true; the input reads as it did. -/
def loaderReadsUptoRow : OpenClaim := { program := "ytoamaaicfjkmhaagreat", sum := "e4d7df6870c254a604f846e51bc7dfedf83382adb5ea9d89ab06f05575f7afd1", func := "fretwork/fretworklaw06.LoaderReads", spec := "loaderReads", unfollowed := true, recurses := true, plainKeys := false, apart := false, narrowed := true }
def LoaderReadsUptoSaid : Prop := loaderReadsUptoRow.holds Tryz.pinned (OpenSpec.upto loaderReadsSpec)

/-- 'fretworklaw06.LoaderMatrix', WHERE WHAT IT READS IS OF BULK AT MOST 1048576: true; the input reads as it did. -/
def loaderMatrixUptoRow : OpenClaim := { program := "ytoamaaicfjkmhaagreat", sum := "e4d7df6870c254a604f846e51bc7dfedf83382adb5ea9d89ab06f05575f7afd1", func := "fretwork/fretworklaw06.LoaderMatrix", spec := "loaderMatrix", unfollowed := true, recurses := true, plainKeys := false, apart := false, narrowed := true }
def LoaderMatrixUptoSaid : Prop := loaderMatrixUptoRow.holds Tryz.pinned (OpenSpec.upto loaderMatrixSpec)

/-- 'fretworklaw06.LoaderBack', WHERE WHAT IT READS IS OF BULK AT MOST 1048576: true; the input reads as it did. -/
def loaderBackUptoRow : OpenClaim := { program := "ytoamaaicfjkmhaagreat", sum := "e4d7df6870c254a604f846e51bc7dfedf83382adb5ea9d89ab06f05575f7afd1", func := "fretwork/fretworklaw06.LoaderBack", spec := "loaderBack", unfollowed := true, recurses := true, plainKeys := false, apart := false, narrowed := true }
def LoaderBackUptoSaid : Prop := loaderBackUptoRow.holds Tryz.pinned (OpenSpec.upto loaderBackSpec)

/-- 'fretworklaw06.LoaderCuts', WHERE WHAT IT READS IS OF BULK AT MOST 1048576: true; the input reads as it did. -/
def loaderCutsUptoRow : OpenClaim := { program := "ytoamaaicfjkmhaagreat", sum := "e4d7df6870c254a604f846e51bc7dfedf83382adb5ea9d89ab06f05575f7afd1", func := "fretwork/fretworklaw06.LoaderCuts", spec := "loaderCuts", unfollowed := true, recurses := true, plainKeys := false, apart := false, narrowed := true }
def LoaderCutsUptoSaid : Prop := loaderCutsUptoRow.holds Tryz.pinned (OpenSpec.upto loaderCutsSpec)

end Rows
end Go.Proofs.YtoamaaicfjkmhaaGreat
