/- Package octet: bytes of one's own. -/
import Derived.Laws.CopyOwn
import Derived.Laws.MakeOwn
import Derived.Test.YtccgpjhfgmonpaaDoorOct3
namespace Go.Proofs.YtccgpjhfgmonpaaDoor
open Go.RowKit Go.Sort
set_option linter.unusedVariables false

theorem infoByte : (Tryd.prog.info? 5).map (fun i => (i.zero, i.size, i.bytes)) = some (some (.int .u8 0), 1, 1) := by kernel_rfl
theorem sizeByte : (Tryd.prog.info? 5).map (·.size) = some 1 := by kernel_rfl

/-- Some bytes' cells. -/
def cellsB (f : Nat → Int) (k : Nat) : List Value := (List.range k).map fun i => .int .u8 (f i)
theorem cellsB_len (f : Nat → Int) (k : Nat) : (cellsB f k).length = k := by simp [cellsB]
theorem cellsB_at (f : Nat → Int) (k j : Nat) (h : j < k) : (cellsB f k)[j]? = some (.int .u8 (f j)) := by simp [cellsB, h]
theorem cellsB_one (f : Nat → Int) (k : Nat) : ∀ v ∈ cellsB f k, v.oneCell' = true := by
  intro v hv
  obtain ⟨i, _, rfl⟩ := List.mem_map.1 hv
  rfl
theorem rd8_of_row {W : World} {g k : Nat} {t : TypeId} {f : Nat → Int} (h : CellsAt W g t (cellsB f k).toArray) (hf : ∀ i, i < k → 0 ≤ f i ∧ f i ≤ 255) : Rd8 W (some ⟨g, 0, none⟩) k f := by
  intro i hi
  refine ⟨_, rfl, h.lt, ?_, hf i hi⟩
  have : ((⟨g, 0, none⟩ : Addr).add i) = ⟨g, i, none⟩ := by unfold Addr.add; split <;> simp_all
  rw [this, h.cell i]
  simpa using cellsB_at f k i hi

set_option maxRecDepth 100000 in
set_option maxHeartbeats 1000000 in
theorem clone_any (a : Option Addr) (k c : Nat) (f : Nat → Int) (w : World) (hr : Rd8 w a k f) (hk : k ≤ 100000) (hc : k ≤ c) :
    Calls Tryd.prog 62 #[.slice a k c] w fun e w' => ∃ g, e = .returned (.slice (some ⟨g, 0, none⟩) k k) ∧ w.heap.size ≤ g ∧ CellsAt w' g 5 (cellsB f k).toArray ∧ Below w.heap.size w w' := by
  obtain ⟨i0, hi0, hz0, hz1, hz2⟩ := info_parts infoByte
  have hmk := run_makeSlice (P := Tryd.prog) w 46 5 i0 (.int .u8 0) Tryd.underlying46 hi0 hz0 .i64 .i64 (k : Int) (k : Int) (by omega) (by omega) (by rw [hz1]; simp; omega) (by rw [hz2]; omega) (by omega)
  simp only [Int.toNat_natCast, hz1, Nat.mul_one] at hmk
  have hsz : (madeCells (Value.int .u8 0).cells k).size = k := size_madeCells _ _
  generalize madeCells (Value.int .u8 0).cells k = cur at hmk hsz
  have hcur : CellsAt (w.alloc (.cells cur 5)) w.heap.size 5 cur := World.alloc_heap_new w _
  have hb1 : Below w.heap.size w (w.alloc (.cells cur 5)) := bl1 _ _
  have hr1 : Rd8 (w.alloc (.cells cur 5)) a k f := hr.grown (grownBy_of_below hb1 none) (fun _ _ => by simp)
  obtain ⟨cs, hcs⟩ : ∃ cs, cs = cellsB f k := ⟨_, rfl⟩
  have hl : cs.length = k := by rw [hcs]; exact cellsB_len f k
  have h1 : ∀ v ∈ cs, v.oneCell' = true := by rw [hcs]; exact cellsB_one f k
  have hsp : splice cur.toList 0 cs = cs := by
    unfold splice
    simp [hl, hsz]
  have hat : 0 < cs.length → ∃ ad, a = some ad ∧ ∀ j v, cs[j]? = some v → (w.alloc (.cells cur 5)).cell? (ad.add j) = some v := by
    intro h0
    obtain ⟨b, hb, _⟩ := hr1 0 (by omega)
    refine ⟨b, hb, fun j v hj => ?_⟩
    have hj' : j < k := by have := (List.getElem?_eq_some_iff.1 hj).1; omega
    obtain ⟨b', hb', _, h2, _⟩ := hr1 j hj'
    rw [hb] at hb'; cases hb'
    rw [hcs, cellsB_at f k j hj'] at hj
    cases hj
    exact h2
  have hg0 : (w.alloc (.cells cur 5)).heap[w.heap.size]? = some (.cells cur.toList.toArray 5 (0, 0)) := by unfold CellsAt at hcur; simpa using hcur
  have hn0 : cs.length = Nat.min k k := by rw [hl]; exact (Nat.min_self k).symm
  have hf0 : 0 + cs.length ≤ cur.toList.length := by simp [hl, hsz]
  have HCS := Lib.hid hcs
  clear hcs hr hr1
  go_enter Tryd.func62, Tryd.ntmps62
  go_wp2_with (refine wpList_copy_splice rfl (.tmp 7) (.tmp 8) 46 46 rfl 5 Tryd.underlying46 sizeByte _ _ _ _ _ _ rfl rfl w.heap.size 0 cur.toList 5 hg0 cs hn0 (fun h0 => ⟨rfl, hat h0⟩) hf0 h1 w.heap.size w hb1 (Nat.le_refl _) ?_; intro w2 HG2 hB2)
  go_ret
  exact ⟨_, rfl, Nat.le_refl _, by have := HG2.out; rw [hsp, HCS.out] at this; exact this, hB2⟩
end Go.Proofs.YtccgpjhfgmonpaaDoor
