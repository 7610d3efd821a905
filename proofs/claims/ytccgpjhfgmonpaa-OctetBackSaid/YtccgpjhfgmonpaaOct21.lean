/- Package octet: WHATEVER IS READ: the law. -/
import Derived.Test.YtccgpjhfgmonpaaOct18
import Derived.Test.YtccgpjhfgmonpaaOct20
namespace Go.Proofs.Ytccgpjhfgmonpaa
open Go.RowKit Go.Sort
set_option linter.unusedVariables false
theorem cell_of_block {W W' : World} {p : Addr} (h : W'.heap[p.block]? = W.heap[p.block]?) : W'.cell? p = W.cell? p := by
  unfold World.cell?
  rw [h]

set_option maxRecDepth 100000 in
set_option maxHeartbeats 4000000 in
theorem octetReads_law (a0 a1 : Option Addr) (n0 c0 n1 c1 : Nat) (f K N : Nat → Int) (w : World) (hr : Rd8 w a0 n0 f) (hc : n0 ≤ c0) (hz : a0 = none → c0 = 0 ∧ n0 = 0) (hl : RdR w a1 n1 K N) :
    Calls Try.prog 3 #[.slice a0 n0 c0, .slice a1 n1 c1] w fun e w' => e = .returned (.bool true) ∧ Below w.heap.size w w' := by
  by_cases hbig : (2000 : Int) < (n0 : Int)
  · go_enter Try.func3, Try.ntmps3
    go_wp2_with fail
    refine (live_any w).mono ?_
    rintro x W0 ⟨rfl, hb0⟩
    go_wp2_with fail
    go_ret
    exact ⟨rfl, hb0⟩
  have hn0 : n0 ≤ 2000 := by omega
  go_enter Try.func3, Try.ntmps3
  go_wp2_with fail
  refine (oOpen_any a0 n0 c0 f w hr (by omega) hc).mono ?_
  rintro x W1 ⟨R, g, rfl, hR1, hg1, hgR, lR, lg, ugx, hb1⟩
  have hr1 := rd8_below hr hb1
  have uR1 := hR1.lt
  go_wp2_with fail
  refine (rOpen_any a0 n0 c0 f W1 hr1 (by omega) hc hz).mono ?_
  rintro x W2 ⟨S, a', c', rfl, hS2, hs2, hcc, hsb, hzz, lS, hb2⟩
  have hR2 := hR1.below hb2
  have hg2 := rd8_below hg1 hb2
  have hB2 : Below w.heap.size w W2 := hb1.trans (hb2.mono hb1.size)
  clear hR1 hg1 hr1 hb2 hr
  go_wp2_with fail
  have uS2 := hS2.lt
  have uR2 := hR2.lt
  have bx := bl1 W2 (.cells #[.pointer (some ⟨R, 0, none⟩), .pointer (some ⟨S, 0, none⟩)] 30)
  have bX : CellsAt (W2.alloc (.cells #[.pointer (some ⟨R, 0, none⟩), .pointer (some ⟨S, 0, none⟩)] 30)) W2.heap.size 30 #[.pointer (some ⟨R, 0, none⟩), .pointer (some ⟨S, 0, none⟩)] := World.alloc_heap_new W2 _
  have hR3 := hR2.below bx
  have hS3 := hS2.below bx
  have hg3 := rd8_below hg2 bx
  have hs3 := rd8_below hs2 bx
  have hB3 := hB2.trans (bx.mono hB2.size)
  have hRS : R ≠ S := by omega
  have m1 : ∀ b, (some ⟨g, 0, none⟩ : Option Addr) = some b → b.block ≠ R ∧ b.block ≠ S := fun b hb => by cases hb; exact ⟨hgR, by simp; omega⟩
  have m2 : ∀ b, a' = some b → b.block ≠ R ∧ b.block ≠ S := fun b hb => by have := hsb b hb; exact ⟨by omega, this.1⟩
  have hlX : w.heap.size ≤ W2.heap.size := hB2.size
  have lS' : w.heap.size ≤ S := Nat.le_trans hb1.size lS
  have hXR : W2.heap.size ≠ R := by omega
  have hXS : W2.heap.size ≠ S := by omega
  clear hR2 hS2 hg2 hs2 hB2 bx uS2 uR2 hsb lS lg ugx hgR uR1 hb1
  obtain ⟨X, hX⟩ : ∃ X, X = W2.heap.size := ⟨_, rfl⟩
  simp only [← hX] at bX hlX hXR hXS ⊢
  clear hX
  generalize W2.alloc (.cells #[.pointer (some ⟨R, 0, none⟩), .pointer (some ⟨S, 0, none⟩)] 30) = V at bX hR3 hS3 hg3 hs3 hB3 ⊢
  have HC := Lib.hid hcc
  clear hcc hz hc
  have HZ := Lib.hid hzz
  clear hzz
  go_loopw [6] (fun z wr => ∃ (i p : Nat) (e fa : Int), z = .int .i64 i ∧ i ≤ 40 ∧ p ≤ n0 ∧ CellsAt wr R 55 (rdr (.slice (some ⟨g, 0, none⟩) n0 n0) p e fa) ∧ CellsAt wr S 57 (rdr (.slice a' n0 c') p e fa) ∧ CellsAt wr X 30 #[.pointer (some ⟨R, 0, none⟩), .pointer (some ⟨S, 0, none⟩)] ∧ Rd8 wr (some ⟨g, 0, none⟩) n0 f ∧ Rd8 wr a' n0 f ∧ Below w.heap.size w wr) (fun z _ => 40 - (intOf z).toNat)
  case atStart => exact ⟨0, 0, 0, 0, rfl, by omega, by omega, hR3, hS3, bX, hg3, hs3, hB3⟩
  case round =>
    clear hR3 hS3 bX hg3 hs3 hB3
    obtain ⟨i, p, e, fa, rfl, hi, hp, hR, hS, hX, hg, hs, hB⟩ := hrel
    by_cases hlt : (i : Int) < n1 ∧ (i : Int) < 40
    · obtain ⟨h1, h2⟩ := hlt
      obtain ⟨b, rfl, hbw, _, _⟩ := hl i (by omega)
      obtain ⟨b', eb, hbl, cb0, cb1⟩ := (hl.below hB) i (by omega)
      cases eb
      have i0 : (0 : Int) ≤ (i : Int) := by omega
      have cX0 : wr.cell? ⟨X, 0, none⟩ = some (.pointer (some ⟨R, 0, none⟩)) := hX.cell 0
      have cX1 : wr.cell? ⟨X, 1, none⟩ = some (.pointer (some ⟨S, 0, none⟩)) := hX.cell 1
      have CB := Lib.hid (show ∀ W : World, W.heap = wr.heap → Calls Try.prog 10 #[.agg #[.pointer (some ⟨R, 0, none⟩), .pointer (some ⟨S, 0, none⟩)], .agg #[.int .i64 (K i), .int .i64 (N i)]] W _ from fun W hW => both_any (K i) R S (some ⟨g, 0, none⟩) a' n0 n0 c' p e fa (N i) f W (by unfold CellsAt; rw [hW]; exact hR) (by unfold CellsAt; rw [hW]; exact hS) (fun j hj => by obtain ⟨b, h1, h2, h3, h4⟩ := hg j hj; exact ⟨b, h1, by rw [hW]; exact h2, by unfold World.cell?; rw [hW]; exact h3, h4⟩) (fun j hj => by obtain ⟨b, h1, h2, h3, h4⟩ := hs j hj; exact ⟨b, h1, by rw [hW]; exact h2, by unfold World.cell?; rw [hW]; exact h3, h4⟩) m1 m2 hRS HZ.out (Nat.le_refl _) HC.out (by omega) hp)
      have kX := Has.of hX.lt
      have kB := Has.of hbl
      go_wp2_with fail
      go_region_held3 (fun w' => w'.cell? ⟨X, 0, none⟩ = some (.pointer (some ⟨R, 0, none⟩)) ∧ w'.cell? ⟨X, 1, none⟩ = some (.pointer (some ⟨S, 0, none⟩)) ∧ w'.cell? (b.add (i * 2)) = some (.int .i64 (K i)) ∧ w'.cell? ⟨b.block, (b.add (i * 2)).off + 1, none⟩ = some (.int .i64 (N i)))
        (first | exact ⟨cX0, cX1, cb0, cb1⟩ | exact ⟨dX0, dX1, dd0, dd1⟩)
        (first
          | (go_at_call 10; refine (CB.out wr.drew rfl).mono ?_; clear CB; rintro x W9 ⟨p9, e9, fa9, rfl, hA9, hR9, hS9, k9⟩; have k8 : Keep2 R S wr W9 := ⟨k9.os, k9.tape, k9.output, k9.size, k9.block⟩; have hX9 := hX.keep2 k8 hXR hXS; have hk8 := k8.block b.block hbl (by omega) (by omega); have dX0 : W9.cell? ⟨X, 0, none⟩ = some (.pointer (some ⟨R, 0, none⟩)) := hX9.cell 0; have dX1 : W9.cell? ⟨X, 1, none⟩ = some (.pointer (some ⟨S, 0, none⟩)) := hX9.cell 1; have dd0 : W9.cell? (b.add (i * 2)) = some (.int .i64 (K i)) := (cell_of_block (by rw [blk_add]; exact hk8)).trans cb0; have dd1 : W9.cell? ⟨b.block, (b.add (i * 2)).off + 1, none⟩ = some (.int .i64 (N i)) := (cell_of_block (p := ⟨b.block, (b.add (i * 2)).off + 1, none⟩) hk8).trans cb1))
      have hg9 := k8.rd8 hg m1
      have hs9 := k8.rd8 hs m2
      have hB9 := hB.trans (k8.below hB.size lR lS')
      go_wp2_with fail
      refine ⟨?_, by simp [intOf]; omega⟩
      exact ⟨i + 1, p9, e9, fa9, by simp, by omega, hA9.1, hR9, hS9, hX9, hg9, hs9, hB9⟩
    · by_cases h1 : (i : Int) < n1
      · have h2 : ¬ (i : Int) < 40 := fun h => hlt ⟨h1, h⟩
        clear hlt hR hS hX hg hs hl
        go_wp2_with fail
        refine (oFail_nil 3 1 wr).mono ?_
        rintro x Y1 ⟨rfl, hy⟩
        replace hB := hB.trans (hy.mono hB.size)
        clear hy
        go_wp2_with fail
        refine (live_any Y1).mono ?_
        rintro x Y2 ⟨rfl, hy⟩
        replace hB := hB.trans (hy.mono hB.size)
        clear hy
        go_wp2_with fail
        refine (oU8_nil Y2).mono ?_
        rintro x Y3 ⟨rfl, hy⟩
        replace hB := hB.trans (hy.mono hB.size)
        clear hy
        go_wp2_with fail
        refine (oU32_nil Y3).mono ?_
        rintro x Y4 ⟨rfl, hy⟩
        replace hB := hB.trans (hy.mono hB.size)
        clear hy
        go_wp2_with fail
        refine (oI64_nil Y4).mono ?_
        rintro x Y5 ⟨rfl, hy⟩
        replace hB := hB.trans (hy.mono hB.size)
        clear hy
        go_wp2_with fail
        refine (oTake_nil 1 Y5).mono ?_
        rintro x Y6 ⟨rfl, hy⟩
        replace hB := hB.trans (hy.mono hB.size)
        clear hy
        go_wp2_with fail
        refine (oAt_nil Y6).mono ?_
        rintro x Y7 ⟨rfl, hy⟩
        replace hB := hB.trans (hy.mono hB.size)
        clear hy
        go_wp2_with fail
        refine (oLeft_nil Y7).mono ?_
        rintro x Y8 ⟨rfl, hy⟩
        replace hB := hB.trans (hy.mono hB.size)
        clear hy
        go_wp2_with fail
        refine (oEnd_nil Y8).mono ?_
        rintro x Y9 ⟨rfl, hy⟩
        replace hB := hB.trans (hy.mono hB.size)
        clear hy
        go_wp2_with fail
        refine (oFault_nil Y9).mono ?_
        rintro x Y10 ⟨rfl, hy⟩
        replace hB := hB.trans (hy.mono hB.size)
        clear hy
        go_wp2_with fail
        go_ret
        exact ⟨rfl, hB⟩
      · clear hlt hR hS hX hg hs hl
        go_wp2_with fail
        refine (oFail_nil 3 1 wr).mono ?_
        rintro x Y1 ⟨rfl, hy⟩
        replace hB := hB.trans (hy.mono hB.size)
        clear hy
        go_wp2_with fail
        refine (live_any Y1).mono ?_
        rintro x Y2 ⟨rfl, hy⟩
        replace hB := hB.trans (hy.mono hB.size)
        clear hy
        go_wp2_with fail
        refine (oU8_nil Y2).mono ?_
        rintro x Y3 ⟨rfl, hy⟩
        replace hB := hB.trans (hy.mono hB.size)
        clear hy
        go_wp2_with fail
        refine (oU32_nil Y3).mono ?_
        rintro x Y4 ⟨rfl, hy⟩
        replace hB := hB.trans (hy.mono hB.size)
        clear hy
        go_wp2_with fail
        refine (oI64_nil Y4).mono ?_
        rintro x Y5 ⟨rfl, hy⟩
        replace hB := hB.trans (hy.mono hB.size)
        clear hy
        go_wp2_with fail
        refine (oTake_nil 1 Y5).mono ?_
        rintro x Y6 ⟨rfl, hy⟩
        replace hB := hB.trans (hy.mono hB.size)
        clear hy
        go_wp2_with fail
        refine (oAt_nil Y6).mono ?_
        rintro x Y7 ⟨rfl, hy⟩
        replace hB := hB.trans (hy.mono hB.size)
        clear hy
        go_wp2_with fail
        refine (oLeft_nil Y7).mono ?_
        rintro x Y8 ⟨rfl, hy⟩
        replace hB := hB.trans (hy.mono hB.size)
        clear hy
        go_wp2_with fail
        refine (oEnd_nil Y8).mono ?_
        rintro x Y9 ⟨rfl, hy⟩
        replace hB := hB.trans (hy.mono hB.size)
        clear hy
        go_wp2_with fail
        refine (oFault_nil Y9).mono ?_
        rintro x Y10 ⟨rfl, hy⟩
        replace hB := hB.trans (hy.mono hB.size)
        clear hy
        go_wp2_with fail
        go_ret
        exact ⟨rfl, hB⟩
end Go.Proofs.Ytccgpjhfgmonpaa
