/- Package flags: what must be whatever is asked. -/
import Derived.Test.YtccgpjhfgmonpaaDoorFl19
namespace Go.Proofs.YtccgpjhfgmonpaaDoor
open Go.RowKit Go.Sort
set_option linter.unusedVariables false

/-- What came in may be read, the library's table stands, nothing that was there has turned. -/
structure St (w : World) (a : Option Addr) (n : Nat) (p : Nat → Bool) (W : World) : Prop where
  rd : RdW W a n (wd p)
  tab : Tab W
  below : Below w.heap.size w W
theorem St.on {w : World} {a : Option Addr} {n : Nat} {p : Nat → Bool} {W W' : World} (h : St w a n p W) (hb : Below W.heap.size W W') : St w a n p W' :=
  ⟨h.rd.below hb, h.tab.below hb, h.below.trans (hb.mono h.below.size)⟩
theorem calls_below {f : FuncId} {args : Array Value} {W : World} {v : Value} (h : Calls Tryd.prog f args W fun e w' => e = .returned v ∧ W = w') : Calls Tryd.prog f args W fun e w' => e = .returned v ∧ Below W.heap.size W w' :=
  h.mono fun _ _ ⟨h1, h2⟩ => ⟨h1, h2 ▸ Below.refl _ _⟩

def q2 (x : Nat) : Bool := decide (x = 5) || decide (x = 64)
def l4 (i : Nat) : Int := nth [5, 64, 5, 70] i
set_option maxRecDepth 100000 in
theorem of_q2 (i : Nat) (hi : i < 2) : wd (ofP 70 l4 4) i = wd q2 i := by
  refine wd_congr fun j hj => ?_
  rw [Bool.eq_iff_iff, ofP_iff]
  unfold q2
  have e0 : l4 0 = 5 := rfl
  have e1 : l4 1 = 64 := rfl
  have e2 : l4 2 = 5 := rfl
  have e3 : l4 3 = 70 := rfl
  rw [Bool.or_eq_true, decide_eq_true_iff, decide_eq_true_iff]
  constructor
  · rintro ⟨k, h1, h2, h3⟩
    have h4 : k = 0 ∨ k = 1 ∨ k = 2 ∨ k = 3 := by omega
    clear h1
    rcases h4 with h4 | h4 | h4 | h4
    · rw [h4, e0] at h2; omega
    · rw [h4, e1] at h2; omega
    · rw [h4, e2] at h2; omega
    · rw [h4, e3] at h3; unfold inO at h3; omega
  · intro h
    rcases h with h | h
    · exact ⟨0, by decide, by rw [e0]; omega, by rw [e0]; unfold inO; omega⟩
    · exact ⟨1, by decide, by rw [e1]; omega, by rw [e1]; unfold inO; omega⟩
theorem rdI_lit (W : World) (l : List Nat) (cs : Array Value) (h : cs = (cellsN l).toArray) (hb : ∀ x ∈ l, x ≤ 100000) : RdI (W.alloc (.cells cs 3)) (some ⟨W.heap.size, 0, none⟩) l.length (nth l) := by
  subst h
  intro i hi
  have hC : CellsAt (W.alloc (.cells (cellsN l).toArray 3)) W.heap.size 3 (cellsN l).toArray := World.alloc_heap_new W _
  have hm : l[i]? = some l[i] := List.getElem?_eq_getElem hi
  refine ⟨_, rfl, hC.lt, ?_, by rw [nth_eq hm]; omega, by rw [nth_eq hm]; have := hb _ (List.mem_of_getElem? hm); omega⟩
  rw [addr0, hC.cell, nth_eq hm]
  simp [cellsN, hm]

set_option maxRecDepth 100000 in
set_option maxHeartbeats 8000000 in
theorem live_any (w : World) (hT : Tab w) : Calls Tryd.prog 11 #[] w fun e w' => e = .returned (.bool true) ∧ Below w.heap.size w w' := by
  have v1 := Lib.hid (show nw 70 = 2 by decide +kernel)
  have v2 := Lib.hid (show cnt q2 (64 * 2) = 2 by decide +kernel)
  have v3 := Lib.hid (show pl q2 (64 * 2) = [5, 64] by decide +kernel)
  have v4 := Lib.hid (show nextV q2 (64 * 2) (6 : Int).toNat = 64 by decide +kernel)
  have v5 := Lib.hid (show nextV q2 (64 * 2) (65 : Int).toNat = -1 by decide +kernel)
  have v6 := Lib.hid (show rankV q2 2 64 = 1 by decide +kernel)
  have v7 := Lib.hid (show hasB q2 2 5 = true by decide +kernel)
  have v8 := Lib.hid (show hasB (dropP q2 5) 2 5 = false by decide +kernel)
  have v9 := Lib.hid (show rightB q2 2 70 = true by decide +kernel)
  have v10 := Lib.hid (show rightB q2 2 64 = false by decide +kernel)
  have v11 := Lib.hid (show cnt (lessP (cutP (belowP 70) 2) (cutP q2 2)) (64 * 2) = 68 by decide +kernel)
  have v12 := Lib.hid (show nw (70 - ((60 : Int).toNat : Int)) = 1 by decide +kernel)
  have v13 := Lib.hid (show hasB (ppP (60 : Int).toNat 70 (pl q2 (64 * 2))) 1 4 = true by decide +kernel)
  have v14 := Lib.hid (show cnt (putP q2 6) (64 * 2) = 3 by decide +kernel)
  have v15 := Lib.hid (show cnt (lessP (cutP q2 2) (cutP q2 2)) (64 * 2) = 0 by decide +kernel)
  have v16 := Lib.hid (show cnt (andP (cutP q2 2) (cutP q2 2)) (64 * 2) = 2 by decide +kernel)
  have v17 := Lib.hid (show cnt (orP (cutP q2 2) (cutP q2 2)) (64 * 2) = 2 by decide +kernel)
  have hwT := hT
  go_enter Tryd.func11, Tryd.ntmps11
  go_wp2_with fail
  have hb0 := bl1 w (.cells #[.int .i64 5, .int .i64 64, .int .i64 5, .int .i64 70] 3)
  have hl0 : RdI (w.alloc (.cells #[.int .i64 5, .int .i64 64, .int .i64 5, .int .i64 70] 3)) (some ⟨w.heap.size, 0, none⟩) 4 l4 := rdI_lit w [5, 64, 5, 70] _ rfl (by decide)
  have HO := Lib.hid (of_any 70 _ 4 4 l4 _ hl0 (by decide))
  rw [v1.out] at HO
  refine HO.out.mono ?_
  rintro e W1 ⟨g, rfl, hg, hC, hb⟩
  have hS : St w (some ⟨g, 0, none⟩) 2 q2 W1 := ⟨(rdW_of_cells hC (fun i _ => wd_lt _ i)).congr (fun i hi => of_q2 i hi), (hT.below hb0).below hb, hb0.trans (hb.mono hb0.size)⟩
  clear hC hb hb0 hl0 hT hg hwT HO
  go_wp2_with fail
  have HH := Lib.hid (new_any 70 W1)
  rw [v1.out] at HH
  refine HH.out.mono ?_
  rintro e W2 ⟨g2, rfl, _, _, hb⟩
  replace hS := hS.on hb
  clear hb HH
  go_wp2_with fail
  have HH := Lib.hid (list_any (some ⟨g, 0, none⟩) 2 2 q2 W2 hS.rd hS.tab (by decide))
  rw [v2.out] at HH
  rw [v3.out] at HH
  refine HH.out.mono ?_
  rintro e W3 ⟨a3, c3, rfl, _, hI, _, hb⟩
  have hI3 := hI
  clear hI
  replace hS := hS.on hb
  clear hb HH
  go_wp2_with fail
  have hb1 := bl1 W3 (.cells #[.int .i64 5, .int .i64 64] 3)
  have HH := Lib.hid (sameI_any a3 (some ⟨W3.heap.size, 0, none⟩) 2 c3 2 (nth [5, 64]) (nth [5, 64]) _ (hI3.below hb1) (rdI_lit W3 [5, 64] _ rfl (by decide)) (fun _ _ => rfl) (by decide))
  refine HH.out.mono ?_
  rintro e W4 ⟨rfl, hb⟩
  replace hS := (hS.on hb1).on hb
  clear hb HH hb1 hI3
  go_wp2_with fail
  have HH := Lib.hid (next_any (some ⟨g, 0, none⟩) 2 2 q2 6 W4 hS.rd hS.tab (by decide) (by decide) (by decide))
  rw [v4.out] at HH
  refine HH.out.mono ?_
  rintro e W5 ⟨rfl, hb⟩
  replace hS := hS.on hb
  clear hb HH
  go_wp2_with fail
  have HH := Lib.hid (next_any (some ⟨g, 0, none⟩) 2 2 q2 65 W5 hS.rd hS.tab (by decide) (by decide) (by decide))
  rw [v5.out] at HH
  refine HH.out.mono ?_
  rintro e W6 ⟨rfl, hb⟩
  replace hS := hS.on hb
  clear hb HH
  go_wp2_with fail
  have HH := Lib.hid (rank_any (some ⟨g, 0, none⟩) 2 2 q2 64 W6 hS.rd (by decide) (by decide) (by decide))
  rw [v6.out] at HH
  refine HH.out.mono ?_
  rintro e W7 ⟨rfl, hb⟩
  replace hS := hS.on hb
  clear hb HH
  go_wp2_with fail
  have HH := Lib.hid (calls_below (count_any (some ⟨g, 0, none⟩) 2 2 q2 W7 hS.rd (by decide)))
  rw [v2.out] at HH
  refine HH.out.mono ?_
  rintro e W8 ⟨rfl, hb⟩
  replace hS := hS.on hb
  clear hb HH
  go_wp2_with fail
  have HH := Lib.hid (has_any (some ⟨g, 0, none⟩) 2 2 q2 5 W8 hS.rd (by decide) (by decide))
  rw [v7.out] at HH
  refine HH.out.mono ?_
  rintro e W9 ⟨rfl, hb⟩
  replace hS := hS.on hb
  clear hb HH
  go_wp2_with fail
  have HH := Lib.hid (drop_any (some ⟨g, 0, none⟩) 2 2 q2 5 W9 hS.rd (by decide) (by decide) (by decide))
  refine HH.out.mono ?_
  rintro e W10 ⟨g2, rfl, hg2, hC, hb⟩
  have hq := rdW_of_cells hC (fun i _ => wd_lt _ i)
  clear hC hg2
  replace hS := hS.on hb
  clear hb HH
  go_wp2_with fail
  have HH := Lib.hid (has_any (some ⟨g2, 0, none⟩) 2 2 (dropP q2 5) 5 W10 hq (by decide) (by decide))
  rw [v8.out] at HH
  refine HH.out.mono ?_
  rintro e W11 ⟨rfl, hb⟩
  clear hq
  replace hS := hS.on hb
  clear hb HH
  go_wp2_with fail
  have HH := Lib.hid (right_any (some ⟨g, 0, none⟩) 2 2 q2 70 W11 hS.rd hS.tab (by decide) (by decide))
  rw [v9.out] at HH
  refine HH.out.mono ?_
  rintro e W12 ⟨rfl, hb⟩
  replace hS := hS.on hb
  clear hb HH
  go_wp2_with fail
  have HH := Lib.hid (right_any (some ⟨g, 0, none⟩) 2 2 q2 64 W12 hS.rd hS.tab (by decide) (by decide))
  rw [v10.out] at HH
  refine HH.out.mono ?_
  rintro e W13 ⟨rfl, hb⟩
  replace hS := hS.on hb
  clear hb HH
  go_wp2_with fail
  have HH := Lib.hid (flip_any 70 (some ⟨g, 0, none⟩) 2 2 q2 W13 hS.rd (by decide))
  rw [v1.out] at HH
  refine HH.out.mono ?_
  rintro e W14 ⟨g2, rfl, hg2, hC, hb⟩
  have hq := rdW_of_cells hC (fun i _ => wd_lt _ i)
  clear hC hg2
  replace hS := hS.on hb
  clear hb HH
  go_wp2_with fail
  have HH := Lib.hid (calls_below (count_any (some ⟨g2, 0, none⟩) 2 2 _ W14 hq (by decide)))
  rw [v11.out] at HH
  refine HH.out.mono ?_
  rintro e W15 ⟨rfl, hb⟩
  clear hq
  replace hS := hS.on hb
  clear hb HH
  go_wp2_with fail
  have HH := Lib.hid (part_any (some ⟨g, 0, none⟩) 2 2 q2 60 70 W15 hS.rd hS.tab (by decide) (by decide) (by decide))
  rw [v12.out] at HH
  refine HH.out.mono ?_
  rintro e W16 ⟨g2, rfl, hg2, hC, hb⟩
  have hq := rdW_of_cells hC (fun i _ => wd_lt _ i)
  clear hC hg2
  replace hS := hS.on hb
  clear hb HH
  go_wp2_with fail
  have HH := Lib.hid (has_any (some ⟨g2, 0, none⟩) 1 1 _ 4 W16 hq (by decide) (by decide))
  rw [v13.out] at HH
  refine HH.out.mono ?_
  rintro e W17 ⟨rfl, hb⟩
  clear hq
  replace hS := hS.on hb
  clear hb HH
  go_wp2_with fail
  have HH := Lib.hid (put_any (some ⟨g, 0, none⟩) 2 2 q2 6 W17 hS.rd (by decide) (by decide) (by decide))
  refine HH.out.mono ?_
  rintro e W18 ⟨g2, rfl, hg2, hC, hb⟩
  have hq := rdW_of_cells hC (fun i _ => wd_lt _ i)
  clear hC hg2
  replace hS := hS.on hb
  clear hb HH
  go_wp2_with fail
  have HH := Lib.hid (calls_below (count_any (some ⟨g2, 0, none⟩) 2 2 _ W18 hq (by decide)))
  rw [v14.out] at HH
  refine HH.out.mono ?_
  rintro e W19 ⟨rfl, hb⟩
  clear hq
  replace hS := hS.on hb
  clear hb HH
  go_wp2_with fail
  have HH := Lib.hid (minus_any q2 q2 (some ⟨g, 0, none⟩) (some ⟨g, 0, none⟩) 2 2 2 2 W19 hS.rd hS.rd (by decide) (by decide))
  refine HH.out.mono ?_
  rintro e W20 ⟨g2, rfl, hg2, hC, hb⟩
  have hq := rdW_of_cells hC (fun i _ => wd_lt _ i)
  clear hC hg2
  replace hS := hS.on hb
  clear hb HH
  go_wp2_with fail
  have HH := Lib.hid (calls_below (count_any (some ⟨g2, 0, none⟩) 2 2 _ W20 hq (by decide)))
  rw [v15.out] at HH
  refine HH.out.mono ?_
  rintro e W21 ⟨rfl, hb⟩
  clear hq
  replace hS := hS.on hb
  clear hb HH
  go_wp2_with fail
  have HH := Lib.hid (both_any q2 q2 (some ⟨g, 0, none⟩) (some ⟨g, 0, none⟩) 2 2 2 2 W21 hS.rd hS.rd (by decide) (by decide))
  refine HH.out.mono ?_
  rintro e W22 ⟨g2, rfl, hg2, hC, hb⟩
  have hq := rdW_of_cells hC (fun i _ => wd_lt _ i)
  clear hC hg2
  replace hS := hS.on hb
  clear hb HH
  go_wp2_with fail
  have HH := Lib.hid (calls_below (count_any (some ⟨g2, 0, none⟩) 2 2 _ W22 hq (by decide)))
  rw [v16.out] at HH
  refine HH.out.mono ?_
  rintro e W23 ⟨rfl, hb⟩
  clear hq
  replace hS := hS.on hb
  clear hb HH
  go_wp2_with fail
  have HH := Lib.hid (union_any q2 q2 (some ⟨g, 0, none⟩) (some ⟨g, 0, none⟩) 2 2 2 2 W23 hS.rd hS.rd (by decide) (by decide))
  refine HH.out.mono ?_
  rintro e W24 ⟨g2, rfl, hg2, hC, hb⟩
  have hq := rdW_of_cells hC (fun i _ => wd_lt _ i)
  clear hC hg2
  replace hS := hS.on hb
  clear hb HH
  go_wp2_with fail
  have HH := Lib.hid (calls_below (count_any (some ⟨g2, 0, none⟩) 2 2 _ W24 hq (by decide)))
  rw [v17.out] at HH
  refine HH.out.mono ?_
  rintro e W25 ⟨rfl, hb⟩
  clear hq
  replace hS := hS.on hb
  clear hb HH
  go_wp2_with fail
  go_ret
  exact ⟨rfl, hS.below⟩
end Go.Proofs.YtccgpjhfgmonpaaDoor
