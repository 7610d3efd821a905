/- Package flags: sets of one's own, with a place, and without. -/
import Derived.Laws.AppendOwnNone
import Derived.Test.YtccgpjhfgmonpaaDoorFl2
import Derived.Test.YtccgpjhfgmonpaaDoorFlMath2
namespace Go.Proofs.YtccgpjhfgmonpaaDoor
open Go.RowKit Go.Sort
set_option linter.unusedVariables false

set_option maxRecDepth 100000 in
set_option maxHeartbeats 1000000 in
theorem clonew_any (a : Option Addr) (k c : Nat) (F : Nat → Nat) (w : World) (hr : RdW w a k F) (hk : k ≤ 100000) (hc : k ≤ c) :
    Calls Tryd.prog 51 #[.slice a k c] w fun e w' => ∃ g, e = .returned (.slice (some ⟨g, 0, none⟩) k k) ∧ w.heap.size ≤ g ∧ CellsAt w' g 48 (cellsW F k).toArray ∧ Below w.heap.size w w' := by
  have hmk := make_words w k hk
  have hsz : (cellsW (fun _ => 0) k).toArray.size = k := by simp [cellsW]
  generalize (cellsW (fun _ => 0) k).toArray = cur at hmk hsz
  have hcur : CellsAt (w.alloc (.cells cur 48)) w.heap.size 48 cur := World.alloc_heap_new w _
  have hb1 : Below w.heap.size w (w.alloc (.cells cur 48)) := bl1 _ _
  have hr1 : RdW (w.alloc (.cells cur 48)) a k F := hr.below hb1
  obtain ⟨cs, hcs⟩ : ∃ cs, cs = cellsW F k := ⟨_, rfl⟩
  have hl : cs.length = k := by rw [hcs]; exact cellsW_len F k
  have h1 : ∀ v ∈ cs, v.oneCell' = true := by rw [hcs]; exact cellsW_one F k
  have hsp : splice cur.toList 0 cs = cs := by
    unfold splice
    simp [hl, hsz]
  have hat : 0 < cs.length → ∃ ad, a = some ad ∧ ∀ j v, cs[j]? = some v → (w.alloc (.cells cur 48)).cell? (ad.add j) = some v := by
    intro h0
    obtain ⟨b, hb, _⟩ := hr1 0 (by omega)
    refine ⟨b, hb, fun j v hj => ?_⟩
    have hj' : j < k := by have := (List.getElem?_eq_some_iff.1 hj).1; omega
    obtain ⟨b', hb', _, h2, _⟩ := hr1 j hj'
    rw [hb] at hb'; cases hb'
    rw [hcs, cellsW_at F k j hj'] at hj
    cases hj
    exact h2
  have hg0 : (w.alloc (.cells cur 48)).heap[w.heap.size]? = some (.cells cur.toList.toArray 48 (0, 0)) := by unfold CellsAt at hcur; simpa using hcur
  have hn0 : cs.length = Nat.min k k := by rw [hl]; exact (Nat.min_self k).symm
  have hf0 : 0 + cs.length ≤ cur.toList.length := by simp [hl, hsz]
  have HCS := Lib.hid hcs
  clear hcs hr hr1
  go_enter Tryd.func51, Tryd.ntmps51
  go_wp2_with (refine wpList_copy_splice rfl (.tmp 7) (.tmp 8) 22 22 rfl 48 Tryd.underlying22 sizeWord _ _ _ _ _ _ rfl rfl w.heap.size 0 cur.toList 48 hg0 cs hn0 (fun h0 => ⟨rfl, hat h0⟩) hf0 h1 w.heap.size w hb1 (Nat.le_refl _) ?_; intro w2 HG2 hB2)
  go_ret
  exact ⟨_, rfl, Nat.le_refl _, by have := HG2.out; rw [hsp, HCS.out] at this; exact this, hB2⟩

set_option maxRecDepth 100000 in
set_option maxHeartbeats 1000000 in
theorem put_any (a : Option Addr) (n c : Nat) (p : Nat → Bool) (x : Int) (w : World) (hr : RdW w a n (wd p)) (hn : n ≤ 100000) (hc : n ≤ c) (hx : x ≤ 9223372036854775807) :
    Calls Tryd.prog 21 #[.slice a n c, .int .i64 x] w fun e w' => ∃ g, e = .returned (.slice (some ⟨g, 0, none⟩) n n) ∧ w.heap.size ≤ g ∧ CellsAt w' g 48 (cellsW (wd (putP p x)) n).toArray ∧ Below w.heap.size w w' := by
  cases hin : inB n x
  · have HW := Lib.hid (fun W => within_f a n c x W hin hx)
    have HO := Lib.hid (fun i (hi : i < n) => wd_put_out p (x := x) (n := n) (of_decide_eq_false hin) hi)
    clear hin
    go_enter Tryd.func21, Tryd.ntmps21
    go_wp2_with fail
    refine (clonew_any a n c _ _ hr hn hc).mono ?_
    rintro e w1 ⟨g, rfl, hg, hC, hb⟩
    go_wp2_with fail
    refine (HW.out _).mono ?_
    rintro e w2 ⟨rfl, rfl⟩
    go_wp2
    go_ret
    exact ⟨g, rfl, hg, by rw [← cellsW_congr HO.out]; exact hC, hb⟩
  · obtain ⟨h1, h2⟩ := of_decide_eq_true hin
    obtain ⟨y, rfl⟩ : ∃ y : Nat, x = (y : Int) := ⟨x.toNat, by omega⟩
    have hy : y / 64 < n := by omega
    have HW := Lib.hid (fun W => within_t a n c y W hin hn)
    have HB := Lib.hid (fun W => bit_any y (by omega) W)
    have HV := Lib.hid (or_put p y)
    have HE := Lib.hid (fun i => wd_put_at p y i)
    have h3 : (y : Int) / 64 < (n : Int) := by omega
    have h5 : ((y : Int) / 64).toNat = y / 64 := by omega
    have h6 : (0 : Int) ≤ (y : Int) / 64 := by omega
    clear hin
    go_enter Tryd.func21, Tryd.ntmps21
    go_wp2_with fail
    refine (clonew_any a n c _ _ hr hn hc).mono ?_
    rintro e w1 ⟨g, rfl, hg, hC, hb⟩
    have hcell : w1.cell? ⟨g, y / 64, none⟩ = some (.int .u64 (wd p (y / 64) : Nat)) := by rw [hC.cell]; simpa using cellsW_at (wd p) n _ hy
    have hfr := hC.frozen (y / 64)
    have kg : Has w1 g := hC.lt
    obtain ⟨V, hV⟩ : ∃ V, V = wd p (y / 64) := ⟨_, rfl⟩
    rw [← hV] at hcell HV
    obtain ⟨B, hB⟩ : ∃ B, B = 2 ^ (y % 64) := ⟨_, rfl⟩
    rw [← hB] at HB HV
    clear hV hB
    go_wp2_with fail
    refine (HW.out _).mono ?_
    rintro e w2 ⟨rfl, rfl⟩
    go_wp2_with fail
    refine wp_region_grown_tail 9 (by kernel_rfl) (by kernel_rfl) ?_
    simp only [List.take_succ_cons, List.take_zero, List.drop_succ_cons, List.drop_zero]
    repeat (go_big_quiet_step (first
      | (go_at_call 49; exact Calls.regrown_of ((HB.out _).mono fun _ _ ⟨h1, h2⟩ => ⟨h1, h2 ▸ Below.refl _ _⟩))))
    refine wpQuiet_nil ?_
    rintro _ ⟨⟨d3, o3⟩, rfl⟩
    have hC2 := hC.below (below_regrown w1 d3 o3)
    have hb2 := hb.trans ((below_regrown w1 d3 o3).mono hb.size)
    generalize grow (redrawn w1 d3) o3 = U at hC2 hb2 ⊢
    clear hC hcell hfr kg
    have hcell : U.cell? ⟨g, y / 64, none⟩ = some (.int .u64 (wd p (y / 64) : Nat)) := by rw [hC2.cell]; simpa using cellsW_at (wd p) n _ hy
    have hfr := hC2.frozen (y / 64)
    go_wp2
    go_ret
    refine ⟨g, rfl, hg, ?_, hb2.setCell hg _⟩
    have := hC2.set (y / 64) (.int .u64 (bits .or .u64 V B))
    rw [HV.out, cellsW_set, cellsW_congr (fun i _ => HE.out i)] at this
    rw [HV.out]
    exact this
end Go.Proofs.YtccgpjhfgmonpaaDoor
