/- What is known of a program's tables in every world: nothing. -/
import Derived.Below
import Derived.Test.YtlcfdmjkbaegpaaEv
namespace Go.Proofs.Ytlcfdmjkbaegpaa
namespace Ev
open Go
def LD (base : Nat) (w : World) : Prop := True
theorem LD.keep {base : Nat} {w w' : World} (_ : LD base w) (_ : 0 < base → 0 < w.heap.size → w'.heap[0]? = w.heap[0]?) (_ : w.heap.size ≤ w'.heap.size) : LD base w' := trivial
theorem LD.up {base base' : Nat} {w : World} (_ : LD base w) (_ : base ≤ base') : LD base' w := trivial
theorem LD.cells {base : Nat} {w w' : World} (_ : LD base w) (_ : w.heap.size ≤ w'.heap.size) (_ : ∀ a v, w.cell? a = some v → w'.cell? a = some v) : LD base w' := trivial
end Ev
end Go.Proofs.Ytlcfdmjkbaegpaa
