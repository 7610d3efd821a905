/- What is known of a program's tables in every world: the library's table of lowest bits lies in the first block. -/
import Derived.Below
import Derived.Lib.TrailingZeros
import Derived.Test.YtjomjfjbpcafhaaDoorEv
namespace Go.Proofs.YtjomjfjbpcafhaaDoor
namespace Ev
open Go
/-- The library's table of lowest bits. -/
def TabW (w : World) : Prop := 0 < w.heap.size ∧ ∀ j, j < Lib.deBruijn64tab.length → w.cell? ⟨0, j, none⟩ = some (.int .u8 (Lib.deBruijn64tab.getD j 0 : Nat))
def LD (base : Nat) (w : World) : Prop := 0 < base ∧ TabW w
theorem LD.keep {base : Nat} {w w' : World} (h : LD base w) (hb : 0 < base → 0 < w.heap.size → w'.heap[0]? = w.heap[0]?) (hs : w.heap.size ≤ w'.heap.size) : LD base w' :=
  ⟨h.1, Nat.lt_of_lt_of_le h.2.1 hs, fun j hj => by rw [← h.2.2 j hj]; have := hb h.1 h.2.1; unfold World.cell?; rw [this]⟩
theorem LD.up {base base' : Nat} {w : World} (h : LD base w) (hb : base ≤ base') : LD base' w := ⟨Nat.lt_of_lt_of_le h.1 hb, h.2⟩
theorem LD.cells {base : Nat} {w w' : World} (h : LD base w) (hs : w.heap.size ≤ w'.heap.size) (hc : ∀ a v, w.cell? a = some v → w'.cell? a = some v) : LD base w' := ⟨h.1, Nat.lt_of_lt_of_le h.2.1 hs, fun j hj => hc _ _ (h.2.2 j hj)⟩
end Ev
end Go.Proofs.YtjomjfjbpcafhaaDoor
