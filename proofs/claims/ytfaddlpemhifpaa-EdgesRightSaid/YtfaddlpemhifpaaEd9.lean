/- The reference's Combine. -/
import Derived.Test.YtfaddlpemhifpaaEd8
namespace Go.Proofs.Ytfaddlpemhifpaa
open Go.RowKit Go.Sort
set_option linter.unusedVariables false
set_option linter.unusedSimpArgs false
def e0 (p : Ky × Int) : Ed := (p.1.1, p.1.2, 0)
def St2 (W : World) (base : Nat) (v6 v7 : Value) (n : Nat) (E : List Ed) (Z : List Int) : Prop :=
  W.ownsRow base 41 3 v6 n (cellsE E) ∧ W.ownsRow base 52 2 v7 n (rowW Z) ∧ ApartV v6 v7 ∧ E.length = n ∧ Z.length = n
theorem St2.below {W W' : World} {base n : Nat} {v6 v7 : Value} {E : List Ed} {Z : List Int} (h : St2 W base v6 v7 n E Z) (hb : Below W.heap.size W W') : St2 W' base v6 v7 n E Z := by
  obtain ⟨h1, h2, h3, h4⟩ := h
  exact ⟨h1.kept (grownBy_of_below hb none) (by cases h : v6.ownBlock; exact .inl rfl; exact .inr (by simp)), h2.kept (grownBy_of_below hb none) (by cases h : v7.ownBlock; exact .inl rfl; exact .inr (by simp)), h3, h4⟩
theorem st2_mk {W : World} {base n : Nat} {v6 v7 : Value} {E : List Ed} {Z : List Int} (h1 : W.ownsRow base 41 3 v6 n (cellsE E)) (h2 : W.ownsRow base 52 2 v7 n (rowW Z)) (h3 : ApartV v6 v7) (h4 : E.length = n) (h5 : Z.length = n) : St2 W base v6 v7 n E Z := ⟨h1, h2, h3, h4, h5⟩
theorem el_map (S : List (Ky × Int)) (i : Nat) (h : i < S.length) : el (S.map e0) i = e0 (S[i]) := by simp [el, List.getD_eq_getElem?_getD, h]
theorem map_set_e0 (S : List (Ky × Int)) (k : Nat) (h : k < S.length) (z : Int) : (S.set k (S[k].1, z)).map e0 = S.map e0 := by
  refine List.ext_getElem (by simp) fun i h1 h2 => ?_
  simp [List.getElem_set]
  intro e; subst e; rfl
theorem ins_new (r : Int) (e : Ed) : ∀ (S : List (Ky × Int)) (k : Nat), (∀ i (h : i < k) (h2 : i < S.length), klt S[i].1 (key e) = true) → k ≤ S.length → (∀ h : k < S.length, klt (key e) S[k].1 = true) → ins r S e = S.take k ++ (key e, e.2.2) :: S.drop k
  | [], k, _, hk, _ => by
    obtain rfl : k = 0 := by simpa using hk
    rfl
  | p :: S, 0, _, _, h => by
    have := h (by simp)
    simp at this
    unfold ins
    rw [if_neg (by rw [klt_asym this]; simp), if_pos this]
    rfl
  | p :: S, k + 1, h1, hk, h => by
    unfold ins
    rw [if_pos (by have := h1 0 (by omega) (by simp); simpa using this), ins_new r e S k (fun i hi h2 => by have := h1 (i + 1) (by omega) (by simpa using h2); simpa using this) (by simpa using hk) (fun hl => by have := h (by simpa using hl); simpa using this)]
    rfl
theorem ins_add (r : Int) (e : Ed) : ∀ (S : List (Ky × Int)) (k : Nat) (hk : k < S.length), (∀ i (h : i < k) (h2 : i < S.length), klt S[i].1 (key e) = true) → klt S[k].1 (key e) = false → klt (key e) S[k].1 = false → ins r S e = S.set k (S[k].1, addR r S[k].2 e.2.2)
  | [], k, hk, _, _, _ => by simp at hk
  | p :: S, 0, _, _, h1, h2 => by
    simp at h1 h2
    unfold ins
    rw [if_neg (by rw [h1]; simp), if_neg (by rw [h2]; simp)]
    rfl
  | p :: S, k + 1, hk, h, h1, h2 => by
    simp at h1 h2
    unfold ins
    rw [if_pos (by have := h 0 (by omega) (by simp); simpa using this), ins_add r e S k (by simpa using hk) (fun i hi h2 => by have := h (i + 1) (by omega) (by simpa using h2); simpa using this) h1 h2]
    simp

set_option maxRecDepth 100000 in
set_option maxHeartbeats 1000000 in
theorem refCombine_bad (r : Int) (a : Option Addr) (l : List Ed) (c : Nat) (w : World) (h : isR r = false) :
    Calls Try.prog 13 #[.int .i64 r, .slice a l.length c] w fun e w' => e = .returned (.tuple #[.slice none 0 0, .int .i64 8]) ∧ Below w.heap.size w w' := by
  have HI := Lib.hid (refIs_any r w)
  rw [h] at HI
  go_enter Try.func13, Try.ntmps13
  go_wp2_with fail
  refine HI.out.mono ?_
  rintro x w1 ⟨rfl, hb1⟩
  go_wp2
  go_ret2
  exact ⟨rfl, hb1⟩

set_option maxRecDepth 100000 in
set_option maxHeartbeats 4000000 in
theorem refCombine_ok (r : Int) (a : Option Addr) (l : List Ed) (c : Nat) (w : World) (h : isR r = true) (hr : RdE w a l) (hI : ∀ e ∈ l, InE e) (hl : l.length ≤ 1000) :
    Calls Try.prog 13 #[.int .i64 r, .slice a l.length c] w fun e w' => ∃ v, e = .returned (.tuple #[v, .int .i64 (combR r l).2]) ∧ w'.ownsRow w.heap.size 41 3 v (combR r l).1.length (cellsE (combR r l).1) ∧ Below w.heap.size w w' := by
  have HI := Lib.hid (refIs_any r w)
  rw [h] at HI
  obtain ⟨n, hn⟩ : ∃ n, n = l.length := ⟨_, rfl⟩
  rw [← hn] at hl ⊢
  have HN := Lib.hid hn
  clear hn
  generalize hcr : combR r l = R
  have HCR := Lib.hid hcr
  clear hcr
  go_enter Try.func13, Try.ntmps13
  go_wp2_with fail
  refine HI.out.mono ?_
  rintro x w1 ⟨rfl, hb1⟩
  go_wp2_with fail
  clear HI
  go_loopw [6, 7, 8] (fun v6 v7 y wr => ∃ (i : Nat) (S : List (Ky × Int)), y = .int .i64 (i : Int) ∧ i ≤ n ∧ S = canS r (l.take i) ∧ S.length ≤ i ∧ St2 wr w.heap.size v6 v7 S.length (S.map e0) (S.map (·.2)) ∧ Below w.heap.size w wr) (fun _ _ y _ => n - (intOf y).toNat)
  case atStart => exact ⟨0, [], rfl, by omega, by simp [canS], by simp, ⟨World.ownsRow_nil _ _ _ _, World.ownsRow_nil _ _ _ _, ApartV.of_none, rfl, rfl⟩, hb1⟩
  case round =>
    clear hb1
    obtain ⟨i, S, rfl, hin, hS, hSi, hSt, hB⟩ := hrel
    have ⟨W0, hW0⟩ : ∃ W0, W0 = wr := ⟨_, rfl⟩
    subst hW0
    obtain ⟨m, hm⟩ : ∃ m, m = S.length := ⟨_, rfl⟩
    rw [← hm] at hSt hSi
    have HM := Lib.hid hm
    have HS := Lib.hid hS
    clear hm hS
    obtain ⟨a6, c6, rfl, ha6⟩ := row_slice hSt.1
    obtain ⟨a7, c7, rfl, ha7⟩ := row_slice hSt.2.1
    by_cases hlt : (i : Int) < (n : Int)
    · obtain ⟨b, rfl, hbl, _, _, _⟩ := (hr.below hB) i (by rw [← HN.out]; omega)
      have i0 : (0 : Int) ≤ (i : Int) := by omega
      have hIe := hI _ (el_mem (show i < l.length by rw [← HN.out]; omega))
      have HRE := Lib.hid (show ∀ W, Below W0.heap.size W0 W → W.cell? (b.add (i * 3)) = some (.int .i64 (el l i).1) ∧ W.cell? ⟨b.block, (b.add (i * 3)).off + 1, none⟩ = some (.int .i64 (el l i).2.1) ∧ W.cell? ⟨b.block, (b.add (i * 3)).off + 2, none⟩ = some (.int .i64 (el l i).2.2) from fun W hW => by
        obtain ⟨b', e', _, h1, h2, h3⟩ := ((hr.below hB).below hW) i (by rw [← HN.out]; omega)
        cases e'
        exact ⟨h1, h2, h3⟩)
      obtain ⟨ei, hei⟩ : ∃ ei, ei = el l i := ⟨_, rfl⟩
      have HEI := Lib.hid hei
      rw [← hei] at HRE hIe
      clear hei
      go_wp2_with fail
      go_loopw [9] (fun y wr => ∃ k : Nat, y = .int .i64 (k : Int) ∧ k ≤ m ∧ (∀ q (h : q < k) (h2 : q < S.length), klt S[q].1 (key ei) = true) ∧ Below W0.heap.size W0 wr) (fun y _ => m - (intOf y).toNat)
      case atStart => exact ⟨0, rfl, by omega, fun q h _ => by omega, Below.refl _ _⟩
      case round =>
        obtain ⟨k, rfl, hk, hall, hBk⟩ := hrel
        have k0 : (0 : Int) ≤ (k : Int) := by omega
        have hStk := hSt.below hBk
        obtain ⟨c0, c1, c2⟩ := HRE.out wr hBk
        have kb := Has.of (Nat.lt_of_lt_of_le hbl hBk.size)
        by_cases hkm : (k : Int) < (m : Int)
        · have hkS : k < S.length := by rw [← HM.out]; omega
          obtain ⟨g6, c6', e6, hg60, hg6⟩ := row_one hStk.1 (by omega)
          cases e6
          have hrd : RdE wr (some ⟨g6, 0, none⟩) (S.map e0) := by
            obtain ⟨_, _, _, e6, _, hrd, _⟩ := row_rdE hStk.1
            cases e6; exact hrd
          have ⟨d0, d1, d2⟩ : wr.cell? ⟨g6, k * 3, none⟩ = some (.int .i64 (e0 S[k]).1) ∧ wr.cell? ⟨g6, k * 3 + 1, none⟩ = some (.int .i64 (e0 S[k]).2.1) ∧ wr.cell? ⟨g6, k * 3 + 2, none⟩ = some (.int .i64 (e0 S[k]).2.2) := by
            obtain ⟨b6, e6, _, d0, d1, d2⟩ := hrd k (by simpa using hkS)
            cases e6
            rw [el_map S k hkS] at d0 d1 d2
            simp only [addr0] at d0 d1 d2
            exact ⟨d0, d1, d2⟩
          have HC1 := fun W => below_any (e0 S[k]) ei W
          have HC2 := fun W => below_any ei (e0 S[k]) W
          have hb1 : bl (e0 S[k]) ei = klt S[k].1 (key ei) := rfl
          have hb2 : bl ei (e0 S[k]) = klt (key ei) S[k].1 := rfl
          have HSK := Lib.hid (show S[k] = S[k] from rfl)
          have kg6 := Has.of hg6
          clear hrd
          cases hkl : klt S[k].1 (key ei)
          · cases hlk : klt (key ei) S[k].1
            · simp only [hb1, hkl] at HC1
              simp only [hb2, hlk] at HC2
              have HIN := Lib.hid (ins_add r ei S k hkS hall hkl hlk)
              clear hb1 hb2 hkl hlk hall
              generalize e0 S[k] = ek at d0 d1 d2 HC1 HC2
              go_wp2_with fail
              refine wp_region_quiet_below (by kernel_rfl) (by kernel_rfl) ?_
              repeat (go_big_quiet_step (first | (go_at_call 48; exact Calls.regrown_of (HC1 _))))
              refine wpQuiet_nil ?_
              rintro _ ⟨⟨d2, o2⟩, rfl⟩
              go_wp2_with fail
              refine (refOf_any _ _ hIe.2.2.1 hIe.2.2.2).mono ?_
              rintro x w2 ⟨rfl, hb2⟩
              obtain ⟨⟨d3, o3⟩, rfl⟩ := regrown_of_below hb2
              clear hb2
              go_wp2_with fail
              refine wp_region_quiet_below (by kernel_rfl) (by kernel_rfl) ?_
              repeat (go_big_quiet_step (first | (go_at_call 48; exact Calls.regrown_of (HC2 _))))
              refine wpQuiet_nil ?_
              rintro _ ⟨⟨d4, o4⟩, rfl⟩
              dsimp only
              have hX : (grow (redrawn wr d3) (o2 ++ o3)).heap.size = wr.heap.size + (o2.size + o3.size) := by simp [grow, redrawn]
              have hC10 : CellsAt (grow (redrawn ((grow (redrawn wr d3) (o2 ++ o3)).alloc (.cells #[.int .i64 (hi ei.2.2), .int .u64 (lo ei.2.2)] 52)) d4) o4) (wr.heap.size + (o2.size + o3.size)) 52 #[.int .i64 (hi ei.2.2), .int .u64 (lo ei.2.2)] := by
                rw [← hX]; exact (show CellsAt _ _ _ _ from World.alloc_heap_new _ _).below (below_regrown _ _ _)
              have hbU : Below wr.heap.size wr (grow (redrawn ((grow (redrawn wr d3) (o2 ++ o3)).alloc (.cells #[.int .i64 (hi ei.2.2), .int .u64 (lo ei.2.2)] 52)) d4) o4) := (blg (bla (blg (Below.refl _ _) _ _) _) _ _)
              generalize grow (redrawn ((grow (redrawn wr d3) (o2 ++ o3)).alloc (.cells #[.int .i64 (hi ei.2.2), .int .u64 (lo ei.2.2)] 52)) d4) o4 = U at hC10 hbU ⊢
              have hP : wr.heap.size ≤ wr.heap.size + (o2.size + o3.size) := by omega
              generalize wr.heap.size + (o2.size + o3.size) = P at hC10 hP ⊢
              have hStU := hStk.below hbU
              have hBU0 := hBk.trans (hbU.mono hBk.size)
              have hBU := hB.trans (hBU0.mono hB.size)
              have hPl := Has.of hC10.lt
              have z0 : U.cell? ⟨P, 0, none⟩ = some (.int .i64 (hi ei.2.2)) := hC10.cell 0
              have z1 : U.cell? ⟨P, 1, none⟩ = some (.int .u64 (lo ei.2.2)) := hC10.cell 1
              have hL6 := fun q hq => (hStk.1.lt q hq).2
              have hL7 := fun q hq => (hStk.2.1.lt q hq).2
              clear hX hbU c0 c1 c2 kb hStk
              clear d0 d1 d2 kg6
              obtain ⟨g7, c7', e7, hg70, hg7⟩ := row_one hStU.2.1 (by omega)
              cases e7
              obtain ⟨zk, hzk⟩ : ∃ zk, zk = S[k].2 := ⟨_, rfl⟩
              rw [← hzk] at HIN
              have ⟨y0, y1⟩ : U.cell? ⟨g7, k * 2, none⟩ = some (.int .i64 (hi zk)) ∧ U.cell? ⟨g7, k * 2 + 1, none⟩ = some (.int .u64 (lo zk)) := by
                have h := rowW_at (S.map (·.2)) k (by simpa using hkS)
                rw [List.getElem_map, ← hzk] at h
                exact ⟨(hStU.2.1.cellAt _ (by omega)).trans h.1, (hStU.2.1.cellAt _ (by omega)).trans h.2⟩
              have f0 := hStU.2.1.frozenAt (k * 2)
              have f1 := hStU.2.1.frozenAt (k * 2 + 1)
              have kg7 := Has.of hg7
              clear hzk
              go_wp2_with fail
              refine wp_region_grown_tail 10 (by kernel_rfl) (by kernel_rfl) ?_
              simp only [List.take_succ_cons, List.take_zero, List.drop_succ_cons, List.drop_zero]
              repeat (go_big_quiet_step (first | (go_at_call 50; exact Calls.regrown_of (ref2Add_any r zk ei.2.2 _))))
              refine wpQuiet_nil ?_
              rintro _ ⟨⟨d5, o5⟩, rfl⟩
              go_wp2_with fail
              obtain ⟨hs2, hgs⟩ := row_set2 hStU.2.1 k (by simpa using hkS) (addR r zk ei.2.2)
              have hs1 := row_apart hStU.1 hStU.2.2.1.symm hgs
              generalize (U.setCell ⟨g7, k * 2, none⟩ (.int .i64 (hi (addR r zk ei.2.2)))).setCell ⟨g7, k * 2 + 1, none⟩ (.int .u64 (lo (addR r zk ei.2.2))) = U2 at hs2 hgs hs1 ⊢
              have hlen : (ins r S ei).length = m := by rw [HIN.out, List.length_set]; exact HM.out.symm
              have he : (ins r S ei).map e0 = S.map e0 := by rw [HIN.out]; exact map_set_e0 S k hkS _
              have hz2 : (ins r S ei).map (·.2) = (S.map (·.2)).set k (addR r zk ei.2.2) := by rw [HIN.out, List.map_set]
              have hSt2 : St2 U2 w.heap.size (.slice (some ⟨g6, 0, none⟩) m c6) (.slice (some ⟨g7, 0, none⟩) m c7) m ((ins r S ei).map e0) ((ins r S ei).map (·.2)) := by
                rw [he, hz2]
                exact ⟨hs1, hs2, hStU.2.2.1, hStU.2.2.2.1, by simpa using hStU.2.2.2.2⟩
              refine ⟨⟨i + 1, ins r S ei, by simp, by omega, ?_, by omega, ?_, ?_⟩, by simp [intOf]; omega⟩
              · have h1 := take_el (l := l) (j := i) (by rw [← HN.out]; omega)
                rw [← HEI.out] at h1
                rw [h1, canS_snoc, ← HS.out]
              · rw [hlen]
                exact hSt2.below (below_regrown _ _ _)
              · exact (hBU.trans ((below_of_grownBy hgs hBU.size hg70).mono (Nat.le_refl _))).trans ((below_regrown _ _ _).mono (Nat.le_trans hBU.size hgs.size))
            · simp only [hb1, hkl] at HC1
              simp only [hb2, hlk] at HC2
              have HIN := Lib.hid (ins_new r ei S k hall (by omega) (fun _ => hlk))
              clear hb1 hb2 hkl hlk hall
              generalize e0 S[k] = ek at d0 d1 d2 HC1 HC2
              go_wp2_with fail
              refine wp_region_quiet_below (by kernel_rfl) (by kernel_rfl) ?_
              repeat (go_big_quiet_step (first | (go_at_call 48; exact Calls.regrown_of (HC1 _))))
              refine wpQuiet_nil ?_
              rintro _ ⟨⟨d2, o2⟩, rfl⟩
              go_wp2_with fail
              refine (refOf_any _ _ hIe.2.2.1 hIe.2.2.2).mono ?_
              rintro x w2 ⟨rfl, hb2⟩
              obtain ⟨⟨d3, o3⟩, rfl⟩ := regrown_of_below hb2
              clear hb2
              go_wp2_with fail
              refine wp_region_quiet_below (by kernel_rfl) (by kernel_rfl) ?_
              repeat (go_big_quiet_step (first | (go_at_call 48; exact Calls.regrown_of (HC2 _))))
              refine wpQuiet_nil ?_
              rintro _ ⟨⟨d4, o4⟩, rfl⟩
              dsimp only
              have hX : (grow (redrawn wr d3) (o2 ++ o3)).heap.size = wr.heap.size + (o2.size + o3.size) := by simp [grow, redrawn]
              have hC10 : CellsAt (grow (redrawn ((grow (redrawn wr d3) (o2 ++ o3)).alloc (.cells #[.int .i64 (hi ei.2.2), .int .u64 (lo ei.2.2)] 52)) d4) o4) (wr.heap.size + (o2.size + o3.size)) 52 #[.int .i64 (hi ei.2.2), .int .u64 (lo ei.2.2)] := by
                rw [← hX]; exact (show CellsAt _ _ _ _ from World.alloc_heap_new _ _).below (below_regrown _ _ _)
              have hbU : Below wr.heap.size wr (grow (redrawn ((grow (redrawn wr d3) (o2 ++ o3)).alloc (.cells #[.int .i64 (hi ei.2.2), .int .u64 (lo ei.2.2)] 52)) d4) o4) := (blg (bla (blg (Below.refl _ _) _ _) _) _ _)
              generalize grow (redrawn ((grow (redrawn wr d3) (o2 ++ o3)).alloc (.cells #[.int .i64 (hi ei.2.2), .int .u64 (lo ei.2.2)] 52)) d4) o4 = U at hC10 hbU ⊢
              have hP : wr.heap.size ≤ wr.heap.size + (o2.size + o3.size) := by omega
              generalize wr.heap.size + (o2.size + o3.size) = P at hC10 hP ⊢
              have hStU := hStk.below hbU
              have hBU0 := hBk.trans (hbU.mono hBk.size)
              have hBU := hB.trans (hBU0.mono hB.size)
              have hPl := Has.of hC10.lt
              have z0 : U.cell? ⟨P, 0, none⟩ = some (.int .i64 (hi ei.2.2)) := hC10.cell 0
              have z1 : U.cell? ⟨P, 1, none⟩ = some (.int .u64 (lo ei.2.2)) := hC10.cell 1
              have hL6 := fun q hq => (hStk.1.lt q hq).2
              have hL7 := fun q hq => (hStk.2.1.lt q hq).2
              clear hX hbU c0 c1 c2 kb hStk
              have hmb : m ≤ 1000 := by omega
              obtain ⟨t0, ht0, hw0, hw1, hw2⟩ := info_partsE infoWide
              have hkm' : k ≤ m := hk
              obtain ⟨Es, hEs⟩ : ∃ Es, Es = S.map e0 := ⟨_, rfl⟩
              obtain ⟨Zs, hZs⟩ : ∃ Zs : List Int, Zs = S.map (·.2) := ⟨_, rfl⟩
              rw [← hEs, ← hZs] at hStU
              have HEs := Lib.hid hEs
              have HZs := Lib.hid hZs
              have hEl : Es.length = m := hStU.2.2.2.1
              have hZl : Zs.length = m := hStU.2.2.2.2
              clear hEs hZs
              go_wp2_with (first
                | (refine wpList_append_rdE rfl _ _ rfl w.heap.size _ m Es rfl (hStU.1.alloc _) _ 1 1 [(0, 0, 0)] rfl rfl (rdE_one _ _ _ _) (by simp) (by omega) (by have := hBU.size; simp; omega) ?_; intro v6 V1 h6 hg6 hat6; have h7 := row_apart (hStU.2.1.alloc _) hStU.2.2.1 hg6; have hA1 := apart_new (hStU.2.1.alloc (.cells #[.int .i64 0, .int .i64 0, .int .i64 0] 41)) hStU.2.2.1 hat6; have hB1 : Below w.heap.size w V1 := (bla hBU _).trans (below_app hg6 (fun q hq => (hStU.1.lt q hq).1) (by have := hBU.size; simp; omega)); have hC1 : CellsAt V1 P 52 #[.int .i64 (hi ei.2.2), .int .u64 (lo ei.2.2)] := (hC10.below (bl1 U _)).grown hg6 (fun e => by have := hL6 P e.symm; omega); obtain ⟨g6', c6', rfl, hgb6, hgl6⟩ := row_one h6 (by omega); have hP6 := new_ne hL6 hP (by have := hC10.lt; simp; omega) hat6 rfl; clear hg6 hat6)
                | (refine wpList_append_own_at _ rfl _ _ 60 rfl w.heap.size 52 t0 (.agg #[.int .i64 0, .int .u64 0]) 2 16 Try.underlying60 ht0 hw0 hw1 hw2 rfl (by decide) _ m (rowW Zs) rfl (h7.alloc _) ⟨V1.heap.size, 0, none⟩ 1 1 [.int .i64 0, .int .u64 0] rfl rfl (cell_two_new _ _ _ _) (by simp [Value.oneCell']) (by unfold maxLen; omega) (by omega) (by have := hB1.size; simp; omega) ?_; intro v7 V2 h7' hg7 _ hat7))
              obtain ⟨g7', c7', rfl, hgb7, hgl7⟩ := row_one h7' (by omega)
              have hP7 := new_ne hL7 hP (by have := hC1.lt; simp; omega) hat7 rfl
              have h6' := row_apart (h6.alloc (.cells #[.int .i64 0, .int .u64 0] 52)) hA1.symm hg7
              have hA2 := (apart_new (h6.alloc (.cells #[.int .i64 0, .int .u64 0] 52)) hA1.symm hat7).symm
              have hB2 : Below w.heap.size w V2 := (bla hB1 _).trans (below_app hg7 (fun q hq => (hStU.2.1.lt q hq).1) (by have := hB1.size; simp; omega))
              have hC2 : CellsAt V2 P 52 #[.int .i64 (hi ei.2.2), .int .u64 (lo ei.2.2)] := (hC1.below (bl1 V1 _)).grown hg7 (fun e => by have := hL7 P e.symm; omega)
              have h67 : g6' ≠ g7' := fun e => hA2 g6' rfl (by rw [e]; rfl)
              have hSt2 : St2 V2 w.heap.size (.slice (some ⟨g6', 0, none⟩) (m + 1) c6') (.slice (some ⟨g7', 0, none⟩) (m + 1) c7') (m + 1) (shf Es (0, 0, 0) m) (shf Zs 0 m) := by
                rw [← hEl, shf_top, hEl, ← hZl, shf_top, hZl]
                exact ⟨h6', by rw [rowW_snoc]; exact h7', hA2, by simp [hEl], by simp [hZl]⟩
              clear h6 h7 h7' h6' hA1 hA2 hg7 hat7 hB1 hC1 hC10 z0 z1 hStU hBU hBU0 hSt hL6 hL7 hPl hgl6 hgl7
              have h76 := Ne.symm h67
              go_loopw [11] (fun y wr' => ∃ q : Nat, y = .int .i64 (q : Int) ∧ k ≤ q ∧ q ≤ m ∧ St2 wr' w.heap.size (.slice (some ⟨g6', 0, none⟩) (m + 1) c6') (.slice (some ⟨g7', 0, none⟩) (m + 1) c7') (m + 1) (shf Es (0, 0, 0) q) (shf Zs 0 q) ∧ CellsAt wr' P 52 #[.int .i64 (hi ei.2.2), .int .u64 (lo ei.2.2)] ∧ Below w.heap.size w wr') (fun y _ => (intOf y).toNat)
              case atStart => exact ⟨m, by simp, hkm', Nat.le_refl _, hSt2, hC2, hB2⟩
              case round =>
                clear hSt2 hC2 hB2
                obtain ⟨q, rfl, hkq, hqm, hSq, hCq, hBq⟩ := hrel
                have hl6 := (hSq.1.lt g6' rfl).2
                have hl7 := (hSq.2.1.lt g7' rfl).2
                have kg6' := Has.of hl6
                have kg7' := Has.of hl7
                by_cases hgt : (k : Int) < (q : Int)
                · first
                  | (exfalso; omega)
                  | (skip
                     obtain ⟨p, rfl⟩ : ∃ p, q = p + 1 := ⟨q - 1, by omega⟩
                     have e1 : (((p + 1 : Nat) : Int)) = (p : Int) + 1 := by omega
                     rw [e1] at hgt ⊢
                     have p0 : (0 : Int) ≤ (p : Int) := by omega
                     have p1 : (p : Int) + 1 < (m : Int) + 1 := by omega
                     have hq1 : (shf Es (0, 0, 0) (p + 1)).length = m + 1 := hSq.2.2.2.1
                     have hq2 : (shf Zs 0 (p + 1)).length = m + 1 := hSq.2.2.2.2
                     have ⟨x0, x1, x2⟩ := row_rd3 hSq.1 p (by omega)
                     have ⟨y0, y1, y2⟩ := row_rd3 hSq.1 (p + 1) (by omega)
                     have ⟨u0, u1⟩ := row_rd2 hSq.2.1 p (by omega)
                     have ⟨v0, v1⟩ := row_rd2 hSq.2.1 (p + 1) (by omega)
                     have f0 := hSq.1.frozenAt ((p + 1) * 3)
                     have f1 := hSq.1.frozenAt ((p + 1) * 3 + 1)
                     have f2 := hSq.1.frozenAt ((p + 1) * 3 + 2)
                     have f3 := hSq.2.1.frozenAt ((p + 1) * 2)
                     have f4 := hSq.2.1.frozenAt ((p + 1) * 2 + 1)
                     obtain ⟨ep, hep⟩ : ∃ ep, ep = el (shf Es (0, 0, 0) (p + 1)) p := ⟨_, rfl⟩
                     obtain ⟨zp, hzp⟩ : ∃ zp, zp = zl (shf Zs 0 (p + 1)) p := ⟨_, rfl⟩
                     rw [← hep] at x0 x1 x2
                     rw [← hzp] at u0 u1
                     generalize el (shf Es (0, 0, 0) (p + 1)) (p + 1) = ey at y0 y1 y2
                     generalize zl (shf Zs 0 (p + 1)) (p + 1) = zy at v0 v1
                     have HEP := Lib.hid hep
                     have HZP := Lib.hid hzp
                     clear hep hzp
                     go_wp2_with fail
                     obtain ⟨s1, gr1⟩ := row_set3 hSq.1 (p + 1) (by omega) ep
                     have t1 := row_apart hSq.2.1 hSq.2.2.1 gr1
                     obtain ⟨s2, gr2⟩ := row_set2 t1 (p + 1) (by omega) zp
                     have t2 := row_apart s1 hSq.2.2.1.symm gr2
                     have hCs := (hCq.grown gr1 (by simp [hP6])).grown gr2 (by simp [hP7])
                     have hBs := (hBq.trans ((below_of_grownBy gr1 hBq.size hgb6).mono (Nat.le_refl _)))
                     have hBs2 := hBs.trans ((below_of_grownBy gr2 hBs.size hgb7).mono (Nat.le_refl _))
                     refine ⟨⟨p, by simp, by omega, by omega, ⟨?_, ?_, hSq.2.2.1, ?_, ?_⟩, hCs, hBs2⟩, by simp [intOf] <;> omega⟩
                     · rw [shf_step Es (0, 0, 0) p (by omega) ep (by rw [HEP.out] <;> simp [el, List.getD_eq_getElem?_getD, show p < (shf Es (0, 0, 0) (p + 1)).length by omega])] at t2
                       exact t2
                     · rw [shf_step Zs 0 p (by omega) zp (by rw [HZP.out] <;> simp [zl, List.getD_eq_getElem?_getD, show p < (shf Zs 0 (p + 1)).length by omega])] at s2
                       exact s2
                     · rw [shf_len _ _ _ (by omega), hEl]
                     · rw [shf_len _ _ _ (by omega), hZl])
                · obtain rfl : q = k := by omega
                  have hq1 : (shf Es (0, 0, 0) q).length = m + 1 := hSq.2.2.2.1
                  have hq2 : (shf Zs 0 q).length = m + 1 := hSq.2.2.2.2
                  have ⟨y0, y1, y2⟩ := row_rd3 hSq.1 q (by omega)
                  have ⟨v0, v1⟩ := row_rd2 hSq.2.1 q (by omega)
                  have f0 := hSq.1.frozenAt (q * 3)
                  have f1 := hSq.1.frozenAt (q * 3 + 1)
                  have f2 := hSq.1.frozenAt (q * 3 + 2)
                  have f3 := hSq.2.1.frozenAt (q * 2)
                  have f4 := hSq.2.1.frozenAt (q * 2 + 1)
                  have z0 : wr.cell? ⟨P, 0, none⟩ = some (.int .i64 (hi ei.2.2)) := hCq.cell 0
                  have z1 : wr.cell? ⟨P, 1, none⟩ = some (.int .u64 (lo ei.2.2)) := hCq.cell 1
                  have kP := Has.of hCq.lt
                  obtain ⟨b', e', hbl', c0, c1, _⟩ := (hr.below hBq) i (by rw [← HN.out]; omega)
                  cases e'
                  rw [← HEI.out] at c0 c1
                  have kb := Has.of hbl'
                  have q0 : (q : Int) < (m : Int) + 1 := by omega
                  generalize el (shf Es (0, 0, 0) q) q = ey at y0 y1 y2
                  generalize zl (shf Zs 0 q) q = zy at v0 v1
                  go_wp2_with fail
                  refine wp_region_grown_tail 14 (by kernel_rfl) (by kernel_rfl) ?_
                  simp only [List.take_succ_cons, List.take_zero, List.drop_succ_cons, List.drop_zero]
                  repeat (go_big_quiet_step (fail))
                  refine wpQuiet_nil ?_
                  rintro _ ⟨⟨d5, o5⟩, rfl⟩
                  go_wp2_with fail
                  obtain ⟨s1, gr1⟩ := row_set3 hSq.1 q (by omega) (ei.1, ei.2.1, 0)
                  have t1 := row_apart hSq.2.1 hSq.2.2.1 gr1
                  obtain ⟨s2, gr2⟩ := row_set2 t1 q (by omega) ei.2.2
                  have t2 := row_apart s1 hSq.2.2.1.symm gr2
                  have hBs := (hBq.trans ((below_of_grownBy gr1 hBq.size hgb6).mono (Nat.le_refl _)))
                  have hBs2 := hBs.trans ((below_of_grownBy gr2 hBs.size hgb7).mono (Nat.le_refl _))
                  rw [shf_set Es (0, 0, 0) q (by omega)] at t2
                  rw [shf_set Zs 0 q (by omega)] at s2
                  have hlen : (ins r S ei).length = m + 1 := by
                    have h1 := HM.out
                    rw [HIN.out]; simp; omega
                  have hE3 : Es.take q ++ (ei.1, ei.2.1, 0) :: Es.drop q = (ins r S ei).map e0 := by
                    rw [HIN.out, List.map_append, List.map_cons, List.map_take, List.map_drop, ← HEs.out]
                    rfl
                  have hZ3 : Zs.take q ++ ei.2.2 :: Zs.drop q = (ins r S ei).map (·.2) := by
                    rw [HIN.out, List.map_append, List.map_cons, List.map_take, List.map_drop, ← HZs.out]
                  rw [hE3] at t2
                  rw [hZ3] at s2
                  have hSt3 := st2_mk t2 s2 hSq.2.2.1 (by simp [hlen]) (by simp [hlen])
                  refine ⟨⟨i + 1, ins r S ei, by simp, by omega, ?_, by omega, ?_, ?_⟩, by simp [intOf]; omega⟩
                  · have h1 := take_el (l := l) (j := i) (by rw [← HN.out]; omega)
                    rw [← HEI.out] at h1
                    rw [h1, canS_snoc, ← HS.out]
                  · rw [hlen]
                    exact hSt3.below (below_regrown _ _ _)
                  · exact hBs2.trans ((below_regrown _ _ _).mono (Nat.le_trans hBs.size gr2.size))
          · simp only [hb1, hkl] at HC1
            have hkl' := hkl
            clear hb1 hb2 HC2
            generalize hek : e0 S[k] = ek at d0 d1 d2 HC1
            go_wp2_with fail
            refine wp_region_quiet_below (by kernel_rfl) (by kernel_rfl) ?_
            repeat (go_big_quiet_step (first | (go_at_call 48; exact Calls.regrown_of (HC1 _))))
            refine wpQuiet_nil ?_
            rintro _ ⟨⟨d2, o2⟩, rfl⟩
            go_wp2_with fail
            refine ⟨?_, by simp [intOf]; omega⟩
            refine ⟨k + 1, by simp, by omega, fun q hq hq2 => ?_, hBk.trans ((below_regrown wr _ _).mono hBk.size)⟩
            by_cases e : q = k
            · subst e; exact hkl'
            · exact hall q (by omega) hq2
        · have HIN := Lib.hid (ins_new r ei S k hall (by rw [← HM.out]; omega) (fun hl => by have := HM.out; omega))
          clear hall
          have hd : decide (k < m) = false := by simp; omega
          go_wp2_with fail
          refine wp_region_quiet_below (by kernel_rfl) (by kernel_rfl) ?_
          repeat (go_big_quiet_step (fail))
          refine wpQuiet_nil ?_
          rintro _ ⟨⟨d2, o2⟩, rfl⟩
          go_wp2_with fail
          refine (refOf_any _ _ hIe.2.2.1 hIe.2.2.2).mono ?_
          rintro x w2 ⟨rfl, hb2⟩
          obtain ⟨⟨d3, o3⟩, rfl⟩ := regrown_of_below hb2
          clear hb2
          go_wp2_with fail
          refine wp_region_quiet_below (by kernel_rfl) (by kernel_rfl) ?_
          repeat (go_big_quiet_step (fail))
          refine wpQuiet_nil ?_
          rintro _ ⟨⟨d4, o4⟩, rfl⟩
          dsimp only
          have hX : (grow (redrawn wr d3) (o2 ++ o3)).heap.size = wr.heap.size + (o2.size + o3.size) := by simp [grow, redrawn]
          have hC10 : CellsAt (grow (redrawn ((grow (redrawn wr d3) (o2 ++ o3)).alloc (.cells #[.int .i64 (hi ei.2.2), .int .u64 (lo ei.2.2)] 52)) d4) o4) (wr.heap.size + (o2.size + o3.size)) 52 #[.int .i64 (hi ei.2.2), .int .u64 (lo ei.2.2)] := by
            rw [← hX]; exact (show CellsAt _ _ _ _ from World.alloc_heap_new _ _).below (below_regrown _ _ _)
          have hbU : Below wr.heap.size wr (grow (redrawn ((grow (redrawn wr d3) (o2 ++ o3)).alloc (.cells #[.int .i64 (hi ei.2.2), .int .u64 (lo ei.2.2)] 52)) d4) o4) := (blg (bla (blg (Below.refl _ _) _ _) _) _ _)
          generalize grow (redrawn ((grow (redrawn wr d3) (o2 ++ o3)).alloc (.cells #[.int .i64 (hi ei.2.2), .int .u64 (lo ei.2.2)] 52)) d4) o4 = U at hC10 hbU ⊢
          have hP : wr.heap.size ≤ wr.heap.size + (o2.size + o3.size) := by omega
          generalize wr.heap.size + (o2.size + o3.size) = P at hC10 hP ⊢
          have hStU := hStk.below hbU
          have hBU0 := hBk.trans (hbU.mono hBk.size)
          have hBU := hB.trans (hBU0.mono hB.size)
          have hPl := Has.of hC10.lt
          have z0 : U.cell? ⟨P, 0, none⟩ = some (.int .i64 (hi ei.2.2)) := hC10.cell 0
          have z1 : U.cell? ⟨P, 1, none⟩ = some (.int .u64 (lo ei.2.2)) := hC10.cell 1
          have hL6 := fun q hq => (hStk.1.lt q hq).2
          have hL7 := fun q hq => (hStk.2.1.lt q hq).2
          clear hX hbU c0 c1 c2 kb hStk
          have hmb : m ≤ 1000 := by omega
          obtain ⟨t0, ht0, hw0, hw1, hw2⟩ := info_partsE infoWide
          have hkm' : k ≤ m := hk
          obtain ⟨Es, hEs⟩ : ∃ Es, Es = S.map e0 := ⟨_, rfl⟩
          obtain ⟨Zs, hZs⟩ : ∃ Zs : List Int, Zs = S.map (·.2) := ⟨_, rfl⟩
          rw [← hEs, ← hZs] at hStU
          have HEs := Lib.hid hEs
          have HZs := Lib.hid hZs
          have hEl : Es.length = m := hStU.2.2.2.1
          have hZl : Zs.length = m := hStU.2.2.2.2
          clear hEs hZs
          go_wp2_with (first
            | (refine wpList_append_rdE rfl _ _ rfl w.heap.size _ m Es rfl (hStU.1.alloc _) _ 1 1 [(0, 0, 0)] rfl rfl (rdE_one _ _ _ _) (by simp) (by omega) (by have := hBU.size; simp; omega) ?_; intro v6 V1 h6 hg6 hat6; have h7 := row_apart (hStU.2.1.alloc _) hStU.2.2.1 hg6; have hA1 := apart_new (hStU.2.1.alloc (.cells #[.int .i64 0, .int .i64 0, .int .i64 0] 41)) hStU.2.2.1 hat6; have hB1 : Below w.heap.size w V1 := (bla hBU _).trans (below_app hg6 (fun q hq => (hStU.1.lt q hq).1) (by have := hBU.size; simp; omega)); have hC1 : CellsAt V1 P 52 #[.int .i64 (hi ei.2.2), .int .u64 (lo ei.2.2)] := (hC10.below (bl1 U _)).grown hg6 (fun e => by have := hL6 P e.symm; omega); obtain ⟨g6', c6', rfl, hgb6, hgl6⟩ := row_one h6 (by omega); have hP6 := new_ne hL6 hP (by have := hC10.lt; simp; omega) hat6 rfl; clear hg6 hat6)
            | (refine wpList_append_own_at _ rfl _ _ 60 rfl w.heap.size 52 t0 (.agg #[.int .i64 0, .int .u64 0]) 2 16 Try.underlying60 ht0 hw0 hw1 hw2 rfl (by decide) _ m (rowW Zs) rfl (h7.alloc _) ⟨V1.heap.size, 0, none⟩ 1 1 [.int .i64 0, .int .u64 0] rfl rfl (cell_two_new _ _ _ _) (by simp [Value.oneCell']) (by unfold maxLen; omega) (by omega) (by have := hB1.size; simp; omega) ?_; intro v7 V2 h7' hg7 _ hat7))
          obtain ⟨g7', c7', rfl, hgb7, hgl7⟩ := row_one h7' (by omega)
          have hP7 := new_ne hL7 hP (by have := hC1.lt; simp; omega) hat7 rfl
          have h6' := row_apart (h6.alloc (.cells #[.int .i64 0, .int .u64 0] 52)) hA1.symm hg7
          have hA2 := (apart_new (h6.alloc (.cells #[.int .i64 0, .int .u64 0] 52)) hA1.symm hat7).symm
          have hB2 : Below w.heap.size w V2 := (bla hB1 _).trans (below_app hg7 (fun q hq => (hStU.2.1.lt q hq).1) (by have := hB1.size; simp; omega))
          have hC2 : CellsAt V2 P 52 #[.int .i64 (hi ei.2.2), .int .u64 (lo ei.2.2)] := (hC1.below (bl1 V1 _)).grown hg7 (fun e => by have := hL7 P e.symm; omega)
          have h67 : g6' ≠ g7' := fun e => hA2 g6' rfl (by rw [e]; rfl)
          have hSt2 : St2 V2 w.heap.size (.slice (some ⟨g6', 0, none⟩) (m + 1) c6') (.slice (some ⟨g7', 0, none⟩) (m + 1) c7') (m + 1) (shf Es (0, 0, 0) m) (shf Zs 0 m) := by
            rw [← hEl, shf_top, hEl, ← hZl, shf_top, hZl]
            exact ⟨h6', by rw [rowW_snoc]; exact h7', hA2, by simp [hEl], by simp [hZl]⟩
          clear h6 h7 h7' h6' hA1 hA2 hg7 hat7 hB1 hC1 hC10 z0 z1 hStU hBU hBU0 hSt hL6 hL7 hPl hgl6 hgl7
          have h76 := Ne.symm h67
          go_loopw [11] (fun y wr' => ∃ q : Nat, y = .int .i64 (q : Int) ∧ k ≤ q ∧ q ≤ m ∧ St2 wr' w.heap.size (.slice (some ⟨g6', 0, none⟩) (m + 1) c6') (.slice (some ⟨g7', 0, none⟩) (m + 1) c7') (m + 1) (shf Es (0, 0, 0) q) (shf Zs 0 q) ∧ CellsAt wr' P 52 #[.int .i64 (hi ei.2.2), .int .u64 (lo ei.2.2)] ∧ Below w.heap.size w wr') (fun y _ => (intOf y).toNat)
          case atStart => exact ⟨m, by simp, hkm', Nat.le_refl _, hSt2, hC2, hB2⟩
          case round =>
            clear hSt2 hC2 hB2
            obtain ⟨q, rfl, hkq, hqm, hSq, hCq, hBq⟩ := hrel
            have hl6 := (hSq.1.lt g6' rfl).2
            have hl7 := (hSq.2.1.lt g7' rfl).2
            have kg6' := Has.of hl6
            have kg7' := Has.of hl7
            by_cases hgt : (k : Int) < (q : Int)
            · first
              | (exfalso; omega)
              | (skip
                 obtain ⟨p, rfl⟩ : ∃ p, q = p + 1 := ⟨q - 1, by omega⟩
                 have e1 : (((p + 1 : Nat) : Int)) = (p : Int) + 1 := by omega
                 rw [e1] at hgt ⊢
                 have p0 : (0 : Int) ≤ (p : Int) := by omega
                 have p1 : (p : Int) + 1 < (m : Int) + 1 := by omega
                 have hq1 : (shf Es (0, 0, 0) (p + 1)).length = m + 1 := hSq.2.2.2.1
                 have hq2 : (shf Zs 0 (p + 1)).length = m + 1 := hSq.2.2.2.2
                 have ⟨x0, x1, x2⟩ := row_rd3 hSq.1 p (by omega)
                 have ⟨y0, y1, y2⟩ := row_rd3 hSq.1 (p + 1) (by omega)
                 have ⟨u0, u1⟩ := row_rd2 hSq.2.1 p (by omega)
                 have ⟨v0, v1⟩ := row_rd2 hSq.2.1 (p + 1) (by omega)
                 have f0 := hSq.1.frozenAt ((p + 1) * 3)
                 have f1 := hSq.1.frozenAt ((p + 1) * 3 + 1)
                 have f2 := hSq.1.frozenAt ((p + 1) * 3 + 2)
                 have f3 := hSq.2.1.frozenAt ((p + 1) * 2)
                 have f4 := hSq.2.1.frozenAt ((p + 1) * 2 + 1)
                 obtain ⟨ep, hep⟩ : ∃ ep, ep = el (shf Es (0, 0, 0) (p + 1)) p := ⟨_, rfl⟩
                 obtain ⟨zp, hzp⟩ : ∃ zp, zp = zl (shf Zs 0 (p + 1)) p := ⟨_, rfl⟩
                 rw [← hep] at x0 x1 x2
                 rw [← hzp] at u0 u1
                 generalize el (shf Es (0, 0, 0) (p + 1)) (p + 1) = ey at y0 y1 y2
                 generalize zl (shf Zs 0 (p + 1)) (p + 1) = zy at v0 v1
                 have HEP := Lib.hid hep
                 have HZP := Lib.hid hzp
                 clear hep hzp
                 go_wp2_with fail
                 obtain ⟨s1, gr1⟩ := row_set3 hSq.1 (p + 1) (by omega) ep
                 have t1 := row_apart hSq.2.1 hSq.2.2.1 gr1
                 obtain ⟨s2, gr2⟩ := row_set2 t1 (p + 1) (by omega) zp
                 have t2 := row_apart s1 hSq.2.2.1.symm gr2
                 have hCs := (hCq.grown gr1 (by simp [hP6])).grown gr2 (by simp [hP7])
                 have hBs := (hBq.trans ((below_of_grownBy gr1 hBq.size hgb6).mono (Nat.le_refl _)))
                 have hBs2 := hBs.trans ((below_of_grownBy gr2 hBs.size hgb7).mono (Nat.le_refl _))
                 refine ⟨⟨p, by simp, by omega, by omega, ⟨?_, ?_, hSq.2.2.1, ?_, ?_⟩, hCs, hBs2⟩, by simp [intOf] <;> omega⟩
                 · rw [shf_step Es (0, 0, 0) p (by omega) ep (by rw [HEP.out] <;> simp [el, List.getD_eq_getElem?_getD, show p < (shf Es (0, 0, 0) (p + 1)).length by omega])] at t2
                   exact t2
                 · rw [shf_step Zs 0 p (by omega) zp (by rw [HZP.out] <;> simp [zl, List.getD_eq_getElem?_getD, show p < (shf Zs 0 (p + 1)).length by omega])] at s2
                   exact s2
                 · rw [shf_len _ _ _ (by omega), hEl]
                 · rw [shf_len _ _ _ (by omega), hZl])
            · obtain rfl : q = k := by omega
              have hq1 : (shf Es (0, 0, 0) q).length = m + 1 := hSq.2.2.2.1
              have hq2 : (shf Zs 0 q).length = m + 1 := hSq.2.2.2.2
              have ⟨y0, y1, y2⟩ := row_rd3 hSq.1 q (by omega)
              have ⟨v0, v1⟩ := row_rd2 hSq.2.1 q (by omega)
              have f0 := hSq.1.frozenAt (q * 3)
              have f1 := hSq.1.frozenAt (q * 3 + 1)
              have f2 := hSq.1.frozenAt (q * 3 + 2)
              have f3 := hSq.2.1.frozenAt (q * 2)
              have f4 := hSq.2.1.frozenAt (q * 2 + 1)
              have z0 : wr.cell? ⟨P, 0, none⟩ = some (.int .i64 (hi ei.2.2)) := hCq.cell 0
              have z1 : wr.cell? ⟨P, 1, none⟩ = some (.int .u64 (lo ei.2.2)) := hCq.cell 1
              have kP := Has.of hCq.lt
              obtain ⟨b', e', hbl', c0, c1, _⟩ := (hr.below hBq) i (by rw [← HN.out]; omega)
              cases e'
              rw [← HEI.out] at c0 c1
              have kb := Has.of hbl'
              have q0 : (q : Int) < (m : Int) + 1 := by omega
              generalize el (shf Es (0, 0, 0) q) q = ey at y0 y1 y2
              generalize zl (shf Zs 0 q) q = zy at v0 v1
              go_wp2_with fail
              refine wp_region_grown_tail 14 (by kernel_rfl) (by kernel_rfl) ?_
              simp only [List.take_succ_cons, List.take_zero, List.drop_succ_cons, List.drop_zero]
              repeat (go_big_quiet_step (fail))
              refine wpQuiet_nil ?_
              rintro _ ⟨⟨d5, o5⟩, rfl⟩
              go_wp2_with fail
              obtain ⟨s1, gr1⟩ := row_set3 hSq.1 q (by omega) (ei.1, ei.2.1, 0)
              have t1 := row_apart hSq.2.1 hSq.2.2.1 gr1
              obtain ⟨s2, gr2⟩ := row_set2 t1 q (by omega) ei.2.2
              have t2 := row_apart s1 hSq.2.2.1.symm gr2
              have hBs := (hBq.trans ((below_of_grownBy gr1 hBq.size hgb6).mono (Nat.le_refl _)))
              have hBs2 := hBs.trans ((below_of_grownBy gr2 hBs.size hgb7).mono (Nat.le_refl _))
              rw [shf_set Es (0, 0, 0) q (by omega)] at t2
              rw [shf_set Zs 0 q (by omega)] at s2
              have hlen : (ins r S ei).length = m + 1 := by
                have h1 := HM.out
                rw [HIN.out]; simp; omega
              have hE3 : Es.take q ++ (ei.1, ei.2.1, 0) :: Es.drop q = (ins r S ei).map e0 := by
                rw [HIN.out, List.map_append, List.map_cons, List.map_take, List.map_drop, ← HEs.out]
                rfl
              have hZ3 : Zs.take q ++ ei.2.2 :: Zs.drop q = (ins r S ei).map (·.2) := by
                rw [HIN.out, List.map_append, List.map_cons, List.map_take, List.map_drop, ← HZs.out]
              rw [hE3] at t2
              rw [hZ3] at s2
              have hSt3 := st2_mk t2 s2 hSq.2.2.1 (by simp [hlen]) (by simp [hlen])
              refine ⟨⟨i + 1, ins r S ei, by simp, by omega, ?_, by omega, ?_, ?_⟩, by simp [intOf]; omega⟩
              · have h1 := take_el (l := l) (j := i) (by rw [← HN.out]; omega)
                rw [← HEI.out] at h1
                rw [h1, canS_snoc, ← HS.out]
              · rw [hlen]
                exact hSt3.below (below_regrown _ _ _)
              · exact hBs2.trans ((below_regrown _ _ _).mono (Nat.le_trans hBs.size gr2.size))
    · obtain rfl : i = n := by omega
      have hSl : S = canS r l := by rw [HS.out, List.take_of_length_le (by rw [← HN.out]; exact Nat.le_refl _)]
      have HSL := Lib.hid hSl
      clear hSl hlt hin HS
      have h6 : W0.ownsRow w.heap.size 41 3 (.slice a6 m c6) m (cellsE (nar S 0)) := hSt.1
      have h7 := hSt.2.1
      have hA := hSt.2.2.1
      clear hSt
      have hmb : m ≤ 1000 := by omega
      go_wp2_with fail
      go_loopw [12] (fun y wr' => ∃ q : Nat, y = .int .i64 (q : Int) ∧ q ≤ m ∧ wr'.ownsRow w.heap.size 41 3 (.slice a6 m c6) m (cellsE (nar S q)) ∧ wr'.ownsRow w.heap.size 52 2 (.slice a7 m c7) m (rowW (S.map (·.2))) ∧ (∀ j (hj : j < q) (h2 : j < S.length), nb S[j].2 = true) ∧ Below w.heap.size w wr') (fun y _ => m - (intOf y).toNat)
      case atStart => exact ⟨0, rfl, by omega, h6, h7, fun j hj _ => by omega, hB⟩
      case round =>
        clear h6 h7 hB
        obtain ⟨q, rfl, hqm, h6, h7, hnb, hB⟩ := hrel
        by_cases hqlt : (q : Int) < (m : Int)
        · have hqS : q < S.length := by rw [← HM.out]; omega
          obtain ⟨g6, _, e6, hgb6, hgl6⟩ := row_one h6 (by omega)
          cases e6
          obtain ⟨g7, _, e7, hgb7, hgl7⟩ := row_one h7 (by omega)
          cases e7
          have q0 : (0 : Int) ≤ (q : Int) := by omega
          have kg6 := Has.of hgl6
          have kg7 := Has.of hgl7
          have ⟨y0, y1, y2⟩ := row_rd3 h6 q (by rw [nar_len]; exact hqS)
          have ⟨v0, v1⟩ := row_rd2 h7 q (by simpa using hqS)
          have hz : zl (S.map (·.2)) q = S[q].2 := by simp [zl, List.getD_eq_getElem?_getD, hqS]
          rw [hz] at v0 v1
          have f2 := h6.frozenAt (q * 3 + 2)
          obtain ⟨s1, gr1⟩ := h6.stored (q * 3 + 2) (.int .i64 (nv S[q].2))
          rw [cellsE_setW _ q _ (by rw [nar_len]; exact hqS), nar_at S q hqS] at s1
          have hst : (nar S q).set q (S[q].1.1, S[q].1.2, nv S[q].2) = nar S (q + 1) := nar_step S q hqS
          rw [hst] at s1
          have hNB := hnb
          have hfq : fm r l S[q].1 = some S[q].2 := ((rep_can r l).2 _ _).1 (by rw [← HSL.out]; exact List.getElem_mem hqS)
          obtain ⟨zq, hzq⟩ : ∃ zq, zq = S[q].2 := ⟨_, rfl⟩
          have HZQ := Lib.hid hzq
          rw [← hzq] at v0 v1 s1 gr1 hfq
          clear hz hst hzq hnb
          generalize el (nar S q) q = ey at y0 y1 y2
          have HNA := fun W => refNarrow_any zq W
          cases hzb : nb zq
          all_goals simp only [hzb] at HNA
          all_goals go_wp2_with fail
          all_goals refine (HNA _).mono ?_
          all_goals rintro x w2 ⟨rfl, hb2⟩
          all_goals obtain ⟨⟨d3, o3⟩, rfl⟩ := regrown_of_below hb2
          · have hR0 := combR_over (r := r) (l := l) h hfq hzb
            rw [HCR.out] at hR0
            go_wp2_with fail
            go_ret2
            refine ⟨.slice none 0 0, by rw [hR0]; rfl, ?_, hB.trans ((below_regrown _ _ _).mono hB.size)⟩
            rw [hR0]
            exact World.ownsRow_nil _ _ _ _
          · go_wp2_with fail
            have h7' := row_apart h7 hA.symm.symm gr1
            have hBs := hB.trans ((below_of_grownBy gr1 hB.size hgb6).mono (Nat.le_refl _))
            refine ⟨⟨q + 1, by simp, by omega, row_below s1 (below_regrown _ _ _), row_below h7' (below_regrown _ _ _), fun j hj h2 => ?_, hBs.trans ((below_regrown _ _ _).mono hBs.size)⟩, by simp [intOf]; omega⟩
            by_cases e : j = q
            · subst e; rw [← HZQ.out]; exact hzb
            · exact hNB j (by omega) h2
        · obtain rfl : q = m := by omega
          have hR0 : combR r l = ((canS r l).map toE, 0) := combR_all h (fun k z hkz => by
            have hm := ((rep_can r l).2 k z).2 hkz
            rw [← HSL.out] at hm
            obtain ⟨j, hj, e⟩ := List.mem_iff_getElem.1 hm
            have := hnb j (by rw [HM.out]; exact hj) hj
            rw [e] at this; exact this)
          rw [HCR.out] at hR0
          have HR0 := Lib.hid hR0
          clear hR0
          go_wp2_with fail
          go_ret2
          rw [HM.out, nar_all, HSL.out] at h6
          refine ⟨_, by rw [HR0.out]; rfl, ?_, hB⟩
          rw [HR0.out]
          simp only [List.length_map]
          rw [HM.out, HSL.out]
          exact h6
end Go.Proofs.Ytfaddlpemhifpaa
