/-
  No cell of these rows narrows 'for every input' (looked for: loops, veiled, ifaces, maps, wideKeys, modest, calm, conditions, laid).
  DERIVED. THE GIVEN ROWS OF THIS SEAT. 3 by the template 'for every input the law returns true; each argument reads behind the call as it read before'; 0 by the template 'total and deterministic' (their statements: YtjjbpdldbdmoeaaTotals.lean).
  GIVEN WITH THE SEED: the statements are not yours to turn. If you find one false, say at which input.
  Laid BY PROGRAM, IN A SANDBOX (cutbox-rows.mjs): the forced cells as the released guide's own fill.sh prints them over the translation edcc5d536958d565… (all of the seat's roots in one cut). By AI agents, Wed Nov 11 2026. No macro, syntax, notation, axiom, sorry.
-/
import Derived.Test.YtjjbpdldbdmoeaaChecked
import GoSem.Claim
import GoSem.ClaimJoined
import GoSem.ClaimMapViews
import Derived.JoinedTies
import Derived.KernelRfl
namespace Go.Proofs.Ytjjbpdldbdmoeaa
/- THE CELL 'sum', in the pinned program and in every row, IS THE sha256 OF THE DUMP (.gsa) THAT YtjjbpdldbdmoeaaProg.lean LOADS. Nothing in Lean hashes anything: it is a label: what it is worth is what the hold of that sum in a sandbox is worth. -/
noncomputable def Try.pinned : Pinned := { name := "ytjjbpdldbdmoeaa", sum := "edcc5d536958d565f77bc2241f3d3888613b03610781c74d15766e9d84b15539", checked := Try.checked }
namespace Rows
def none {H : Type} : Left H := { results := [], args := [] }

/-- 'fretworklaw14.PushRaw': WHATEVER THE INPUT: true; the input reads as it did. -/
def pushRawSpec : ChangeSpec := { name := "pushRaw", fn := fun _ => fun
  | [d1, d2, d3] => { results := [.lit (.bool true)], args := [d1, d2, d3] }
  | _ => none }
def pushRawRow : OpenClaim := { program := "ytjjbpdldbdmoeaa", sum := "edcc5d536958d565f77bc2241f3d3888613b03610781c74d15766e9d84b15539", func := "fretwork/fretworklaw14.PushRaw", spec := "pushRaw", unfollowed := true, recurses := true, apart := false }
def PushRawSaid : Prop := pushRawRow.holds Try.pinned (OpenSpec.ofChange pushRawSpec)

/-- ITS FALSE NEIGHBOUR: 'it returns false'. Refute it at one input. -/
def pushRawWrong : ChangeSpec := { name := "pushRaw", fn := fun _ => fun
  | [d1, d2, d3] => { results := [.lit (.bool false)], args := [d1, d2, d3] }
  | _ => none }
def PushRawWrongFalsely : Prop := pushRawRow.holds Try.pinned (OpenSpec.ofChange pushRawWrong)

/-- 'fretworklaw14.PushMerges': WHATEVER THE INPUT: true; the input reads as it did. -/
def pushMergesSpec : ChangeSpec := { name := "pushMerges", fn := fun _ => fun
  | [d1, d2] => { results := [.lit (.bool true)], args := [d1, d2] }
  | _ => none }
def pushMergesRow : OpenClaim := { program := "ytjjbpdldbdmoeaa", sum := "edcc5d536958d565f77bc2241f3d3888613b03610781c74d15766e9d84b15539", func := "fretwork/fretworklaw14.PushMerges", spec := "pushMerges", unfollowed := true, recurses := true, apart := false }
def PushMergesSaid : Prop := pushMergesRow.holds Try.pinned (OpenSpec.ofChange pushMergesSpec)

/-- ITS FALSE NEIGHBOUR: 'it returns false'. Refute it at one input. -/
def pushMergesWrong : ChangeSpec := { name := "pushMerges", fn := fun _ => fun
  | [d1, d2] => { results := [.lit (.bool false)], args := [d1, d2] }
  | _ => none }
def PushMergesWrongFalsely : Prop := pushMergesRow.holds Try.pinned (OpenSpec.ofChange pushMergesWrong)

/-- 'fretworklaw14.PushParts': WHATEVER THE INPUT: true; the input reads as it did. -/
def pushPartsSpec : ChangeSpec := { name := "pushParts", fn := fun _ => fun
  | [d1, d2] => { results := [.lit (.bool true)], args := [d1, d2] }
  | _ => none }
def pushPartsRow : OpenClaim := { program := "ytjjbpdldbdmoeaa", sum := "edcc5d536958d565f77bc2241f3d3888613b03610781c74d15766e9d84b15539", func := "fretwork/fretworklaw14.PushParts", spec := "pushParts", unfollowed := true, recurses := true, apart := false }
def PushPartsSaid : Prop := pushPartsRow.holds Try.pinned (OpenSpec.ofChange pushPartsSpec)

/-- ITS FALSE NEIGHBOUR: 'it returns false'. Refute it at one input. -/
def pushPartsWrong : ChangeSpec := { name := "pushParts", fn := fun _ => fun
  | [d1, d2] => { results := [.lit (.bool false)], args := [d1, d2] }
  | _ => none }
def PushPartsWrongFalsely : Prop := pushPartsRow.holds Try.pinned (OpenSpec.ofChange pushPartsWrong)

/- THE SECOND FORM. 'bulk': how many values and letters a reading holds, each counted each time it is reached (what is shared counts as often as it is met; a slice's spare places count too). A statement '..UptoSaid' is the law's where the arguments, and the package variables that the reading takes, are together of bulk at most 1048576: NARROWER than '..Said'. Prove '..Said' where nothing that the law and all that it calls make is longer than what came in: it says more and counts as full. Else prove '..UptoSaid'. A law counts once. -/
mutual
def uptoBulk {H : Type} : DataW H → Nat
  | .lit (.string bytes) => bytes.length + 1
  | .lit _ => 1
  | .nil => 1
  | .ptr d => uptoBulk d + 1
  | .slice elems spare => uptoBulkAll elems + uptoBulkAll spare + 1
  | .agg parts => uptoBulkAll parts + 1
  | .iface _ d => uptoBulk d + 1
  | .map entries => uptoBulkEntries entries + 1
  | .held _ => 1
def uptoBulkAll {H : Type} : List (DataW H) → Nat
  | [] => 0
  | d :: r => uptoBulk d + uptoBulkAll r
def uptoBulkEntries {H : Type} : List (Lit × DataW H) → Nat
  | [] => 0
  | x :: r => uptoBulkEntry x + uptoBulkEntries r
def uptoBulkEntry {H : Type} : Lit × DataW H → Nat
  | (.string bytes, d) => bytes.length + uptoBulk d + 1
  | (_, d) => uptoBulk d + 1
 end
def uptoSmall : (H : Type) → List (DataW H) → Bool := fun _ ds => decide (uptoBulkAll ds ≤ 1048576)
def OpenSpec.upto (s : _root_.Go.ChangeSpec) : _root_.Go.OpenSpec := { _root_.Go.OpenSpec.ofChange s with cond := some uptoSmall }

/-- 'fretworklaw14.PushRaw', WHERE WHAT IT READS IS OF BULK AT MOST 1048576: true; the input reads as it did. -/
def pushRawUptoRow : OpenClaim := { program := "ytjjbpdldbdmoeaa", sum := "edcc5d536958d565f77bc2241f3d3888613b03610781c74d15766e9d84b15539", func := "fretwork/fretworklaw14.PushRaw", spec := "pushRaw", unfollowed := true, recurses := true, apart := false, narrowed := true }
def PushRawUptoSaid : Prop := pushRawUptoRow.holds Try.pinned (OpenSpec.upto pushRawSpec)

/-- 'fretworklaw14.PushMerges', WHERE WHAT IT READS IS OF BULK AT MOST 1048576: true; the input reads as it did. -/
def pushMergesUptoRow : OpenClaim := { program := "ytjjbpdldbdmoeaa", sum := "edcc5d536958d565f77bc2241f3d3888613b03610781c74d15766e9d84b15539", func := "fretwork/fretworklaw14.PushMerges", spec := "pushMerges", unfollowed := true, recurses := true, apart := false, narrowed := true }
def PushMergesUptoSaid : Prop := pushMergesUptoRow.holds Try.pinned (OpenSpec.upto pushMergesSpec)

/-- 'fretworklaw14.PushParts', WHERE WHAT IT READS IS OF BULK AT MOST 1048576: true; the input reads as it did. -/
def pushPartsUptoRow : OpenClaim := { program := "ytjjbpdldbdmoeaa", sum := "edcc5d536958d565f77bc2241f3d3888613b03610781c74d15766e9d84b15539", func := "fretwork/fretworklaw14.PushParts", spec := "pushParts", unfollowed := true, recurses := true, apart := false, narrowed := true }
def PushPartsUptoSaid : Prop := pushPartsUptoRow.holds Try.pinned (OpenSpec.upto pushPartsSpec)

end Rows
end Go.Proofs.Ytjjbpdldbdmoeaa
