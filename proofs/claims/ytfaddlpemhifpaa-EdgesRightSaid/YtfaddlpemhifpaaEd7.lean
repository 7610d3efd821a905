/- edges.Combine. -/
import Derived.Test.YtfaddlpemhifpaaEd6
import Derived.Test.YtfaddlpemhifpaaEdMap
import Derived.Test.YtfaddlpemhifpaaEdM
namespace Go.Proofs.Ytfaddlpemhifpaa
open Go.RowKit Go.Sort
set_option linter.unusedVariables false
set_option linter.unusedSimpArgs false
def InE (e : Ed) : Prop := In64 e.1 ∧ In64 e.2.1 ∧ In64 e.2.2
/-- A list that is handed back, new since the heap had so many blocks. -/
def Out (base : Nat) (w : World) (a : Option Addr) (c : Nat) (l : List Ed) : Prop := RdE w a l ∧ (a = none → c = 0 ∧ l.length = 0) ∧ ∀ b, a = some b → base ≤ b.block
theorem out_nil (base : Nat) (w : World) : Out base w none 0 [] := ⟨fun i hi => by simp at hi, fun _ => ⟨rfl, rfl⟩, by simp⟩
theorem Out.mono {base base' : Nat} {w : World} {a : Option Addr} {c : Nat} {l : List Ed} (h : Out base w a c l) (hb : base' ≤ base) : Out base' w a c l := ⟨h.1, h.2.1, fun b e => Nat.le_trans hb (h.2.2 b e)⟩
theorem Out.below {base : Nat} {w w' : World} {a : Option Addr} {c : Nat} {l : List Ed} (h : Out base w a c l) (hb : Below w.heap.size w w') : Out base w' a c l := ⟨h.1.below hb, h.2⟩
theorem RdE.congr {w w' : World} {a : Option Addr} {l : List Ed} (h : RdE w a l) (hb : ∀ b, a = some b → w'.heap[b.block]? = w.heap[b.block]?) : RdE w' a l := by
  intro i hi
  obtain ⟨b, e, hl, h0, h1, h2⟩ := h i hi
  have hh := hb b e
  refine ⟨b, e, ?_, ?_, ?_, ?_⟩
  · rw [Array.getElem?_eq_getElem hl] at hh
    exact (Array.getElem?_eq_some_iff.1 hh).1
  all_goals (unfold World.cell? at *; simp only [blk_add] at *; rw [hh]; assumption)
/-- The blocks that a call has laid are the same, whatever is stored into an older one behind it. -/
theorem Out.regrown {X X' : World} (hs : X'.heap.size = X.heap.size) {d : Nat} {o : Array Obj} {a : Option Addr} {c : Nat} {l : List Ed} (h : Out X.heap.size (grow (redrawn X d) o) a c l) : Out X'.heap.size (grow (redrawn X' d) o) a c l := by
  refine ⟨h.1.congr fun b e => ?_, h.2.1, fun b e => by rw [hs]; exact h.2.2 b e⟩
  have := h.2.2 b e
  simp only [grow, redrawn]
  rw [Array.getElem?_append_right (by omega), Array.getElem?_append_right (by omega), hs]
theorem bl_key (a b : Ed) : bl a b = klt (key a) (key b) := rfl
theorem combR_bad {r : Int} (h : isR r = false) (l : List Ed) : combR r l = ([], 8) := by simp [combR, h]
theorem MapF.alloc {w : World} {b n : Nat} {f : KW} (h : MapF w b n f) (o : Obj) : MapF (w.alloc o) b n f := h.kept (World.grownBy_alloc w o none) (by simp)
theorem MapF.setCell {w : World} {b n : Nat} {f : KW} (h : MapF w b n f) {p : Addr} (hp : b ≠ p.block) (u : Value) : MapF (w.setCell p u) b n f := by
  obtain ⟨D, h, hF⟩ := h
  exact ⟨D, h.setCell hp u, hF⟩
theorem row_mono {w : World} {base base' n : Nat} {e : TypeId} {v : Value} {s : Nat} {xs : List Value} (h : w.ownsRow base e s v n xs) (hb : base' ≤ base) : w.ownsRow base' e s v n xs := by
  refine ⟨h.1, ?_⟩
  rcases h.2 with h2 | ⟨g, cap, cur, h1, h2, h3⟩
  · exact .inl h2
  · exact .inr ⟨g, cap, cur, h1, Nat.le_trans hb h2, h3⟩
theorem makeMapK (V : World) (n : Nat) : (Instr.makeMap 48 (some (.int .i64 n))).run Try.prog V = .ok (.map (some V.heap.size)) (V.alloc (.map #[] 0)) := by
  simp [Instr.makeMap, run_underlying Try.underlying48, asInt, asIntOf, Result.andThen]
theorem upd_none {r : Int} {f : KW} {e : Ed} (h : f (key e) = none) : upd r f e = setF f (key e) e.2.2 := by
  funext k; simp [upd, setF, h]
theorem upd_some {r : Int} {f : KW} {e : Ed} {s : Int} (h : f (key e) = some s) : upd r f e = setF f (key e) (addR r s e.2.2) := by
  funext k; simp [upd, setF, h]
theorem take_el {l : List Ed} {j : Nat} (h : j < l.length) : l.take (j + 1) = l.take j ++ [el l j] := by
  rw [List.take_succ_eq_append_getElem h]
  simp [el, List.getD_eq_getElem?_getD, h]
theorem row_some {w : World} {base n k s : Nat} {e : TypeId} {v : Value} {xs : List Value} (h : w.ownsRow base e s v n xs) (hk : v.ownBlock = some k) : ∃ cap, v = .slice (some ⟨k, 0, none⟩) n cap := by
  rcases h.2 with ⟨rfl, _⟩ | ⟨g, cap, cur, rfl, _⟩
  · cases hk
  · cases hk; exact ⟨cap, rfl⟩
theorem rdE_one (W : World) (x y z : Int) : RdE (W.alloc (.cells #[.int .i64 x, .int .i64 y, .int .i64 z] 41)) (some ⟨W.heap.size, 0, none⟩) [(x, y, z)] := by
  have h : CellsAt (W.alloc (.cells #[.int .i64 x, .int .i64 y, .int .i64 z] 41)) W.heap.size 41 #[.int .i64 x, .int .i64 y, .int .i64 z] := World.alloc_heap_new W _
  refine rdE_cells h.lt (fun i hi k hk => ?_)
  obtain rfl : i = 0 := by simpa using hi
  rw [h.cell]
  have h3 : k = 0 ∨ k = 1 ∨ k = 2 := by omega
  rcases h3 with rfl | rfl | rfl <;> rfl

set_option maxRecDepth 100000 in
set_option maxHeartbeats 1000000 in
theorem combine_bad (r : Int) (a : Option Addr) (l : List Ed) (c : Nat) (w : World) (h : isR r = false) :
    Calls Try.prog 12 #[.int .i64 r, .slice a l.length c] w fun e w' => e = .returned (.tuple #[.slice none 0 0, .int .i64 8]) ∧ Below w.heap.size w w' := by
  have HI := Lib.hid (is_any r w)
  rw [h] at HI
  go_enter Try.func12, Try.ntmps12
  go_wp2_with fail
  refine HI.out.mono ?_
  rintro x w1 ⟨rfl, hb1⟩
  go_wp2
  go_ret2
  exact ⟨rfl, hb1⟩

set_option maxRecDepth 100000 in
set_option maxHeartbeats 1000000 in
theorem combine_rising (r : Int) (a : Option Addr) (l : List Ed) (c : Nat) (w : World) (h : isR r = true) (hr : RdE w a l) (hz : a = none → c = 0 ∧ l.length = 0) (hl : l.length ≤ 1000) (hs : risB l = true) :
    Calls Try.prog 12 #[.int .i64 r, .slice a l.length c] w fun e w' => ∃ v, e = .returned (.tuple #[v, .int .i64 0]) ∧ w'.ownsRow w.heap.size 41 3 v l.length (cellsE l) ∧ Below w.heap.size w w' := by
  have HI := Lib.hid (is_any r w)
  rw [h] at HI
  go_enter Try.func12, Try.ntmps12
  go_wp2_with fail
  refine HI.out.mono ?_
  rintro x w1 ⟨rfl, hb1⟩
  go_wp2_with fail
  have HR := rises_any a l c w1 (hr.below hb1) (by omega)
  rw [hs] at HR
  refine HR.mono ?_
  rintro x w2 ⟨rfl, hb2⟩
  have hbw := hb1.trans (hb2.mono hb1.size)
  go_wp2_with fail
  refine (cloneE_any a l c w2 (hr.below hbw) hz hl).mono ?_
  rintro x w3 ⟨v, rfl, hown, hb3⟩
  go_wp2
  go_ret2
  exact ⟨v, rfl, row_mono hown hbw.size, hbw.trans (hb3.mono hbw.size)⟩

set_option maxRecDepth 100000 in
set_option maxHeartbeats 4000000 in
theorem combine_map (r : Int) (a : Option Addr) (l : List Ed) (c : Nat) (w : World) (h : isR r = true) (hr : RdE w a l) (hI : ∀ e ∈ l, InE e) (hl : l.length ≤ 1000) (hs : risB l = false) :
    Calls Try.prog 12 #[.int .i64 r, .slice a l.length c] w fun e w' => ∃ a' c', e = .returned (.tuple #[.slice a' (combR r l).1.length c', .int .i64 (combR r l).2]) ∧ Out w.heap.size w' a' c' (combR r l).1 ∧ Below w.heap.size w w' := by
  have HI := Lib.hid (is_any r w)
  rw [h] at HI
  obtain ⟨n, hn⟩ : ∃ n, n = l.length := ⟨_, rfl⟩
  rw [← hn] at hl ⊢
  have HN := Lib.hid hn
  clear hn
  generalize hcr : combR r l = R
  have HCR := Lib.hid hcr
  clear hcr
  go_enter Try.func12, Try.ntmps12
  go_wp2_with fail
  refine HI.out.mono ?_
  rintro x w1 ⟨rfl, hb1⟩
  go_wp2_with fail
  have HR := rises_any a l c w1 (hr.below hb1) (by rw [← HN.out]; omega)
  rw [hs, ← HN.out] at HR
  refine HR.mono ?_
  rintro x V ⟨rfl, hb2⟩
  have hbw := hb1.trans (hb2.mono hb1.size)
  clear hb1 hb2 HR HI
  have hmk := makeMapK V n
  have hM0 := MapF.new V
  go_wp2_with fail
  obtain ⟨B, hB⟩ : ∃ B, B = V.heap.size := ⟨_, rfl⟩
  have hb1 := bl1 V (.map #[] 0)
  rw [← hB] at hM0 ⊢
  generalize V.alloc (.map #[] 0) = W1 at hM0 hb1 ⊢
  have hVB : w.heap.size ≤ B := by rw [hB]; exact hbw.size
  have hbw1 : Below w.heap.size w W1 := hbw.trans (hb1.mono hbw.size)
  clear hmk hB hb1 hbw
  go_loopw [29] (fun y wr => ∃ j : Nat, y = .int .i64 (j : Int) ∧ j ≤ n ∧ MapF wr B j (fm r (l.take j)) ∧ Below w.heap.size w wr) (fun y _ => n - (intOf y).toNat)
  case atStart => exact ⟨0, rfl, by omega, hM0, hbw1⟩
  case round =>
    clear hM0 hbw1
    obtain ⟨j, rfl, hj, hM, hBw⟩ := hrel
    by_cases hlt : (j : Int) < (n : Int)
    · obtain ⟨b, rfl, hbl, c0, c1, c2⟩ := (hr.below hBw) j (by rw [← HN.out]; omega)
      have j0 : (0 : Int) ≤ (j : Int) := by omega
      have kb := Has.of hbl
      have hIe := hI _ (el_mem (show j < l.length by rw [← HN.out]; omega))
      have hk : In2 (key (el l j)) := ⟨hIe.1, hIe.2.1⟩
      have hw1 := hIe.2.2
      have HT := Lib.hid (fm_snoc r (l.take j) (el l j))
      have HT2 := Lib.hid (take_el (l := l) (j := j) (by rw [← HN.out]; omega))
      generalize hf : fm r (l.take j) = f at hM HT
      clear hf
      obtain ⟨ej, hej⟩ : ∃ ej, ej = el l j := ⟨_, rfl⟩
      rw [← hej] at c0 c1 c2 hk hw1 HT HT2
      clear hej hIe
      go_wp2_with (at_lookup; refine wpList_lookupF _ rfl _ _ rfl B j f (key ej) rfl ((hM.alloc _).alloc _) rfl hk ?_ ?_)
      · intro hf
        rw [upd_none hf] at HT
        go_wp2_with fail
        refine wp_region_grown_tail 5 (by kernel_rfl) (by kernel_rfl) ?_
        simp only [List.take_succ_cons, List.take_zero, List.drop_succ_cons, List.drop_zero]
        repeat (go_big_quiet_step (first | (go_at_call 43; exact Calls.regrown_of (of_any _ _ hw1.1 hw1.2))))
        refine wpQuiet_nil ?_
        rintro _ ⟨⟨d2, o2⟩, rfl⟩
        go_wp2_with (at_mapUpdate; refine wpList_updateF _ rfl _ _ _ rfl B j f (key ej) ej.2.2 (by unfold maxLen; omega) rfl ((((hM.alloc _).alloc _).alloc _).kept (grownBy_of_below (below_regrown _ _ _) none) (by simp)) rfl rfl hk ?_; intro w' hM' hg')
        refine ⟨?_, by simp [intOf]; omega⟩
        refine ⟨j + 1, by simp, by omega, by rw [HT2.out, HT.out]; exact hM', ?_⟩
        have hbU : Below wr.heap.size wr (grow (redrawn (((wr.alloc (.cells #[.int .i64 ej.1, .int .i64 ej.2.1, .int .i64 ej.2.2] 41)).alloc (.cells #[.int .i64 ej.1, .int .i64 ej.2.1] 49)).alloc (.cells #[.int .i64 (hi 0), .int .u64 (lo 0)] 52)) d2) o2) := (by repeat (first | with_reducible refine blg ?_ _ _ | with_reducible refine bla ?_ _ | with_reducible exact Below.refl _ _))
        exact (hBw.trans (hbU.mono hBw.size)).trans (below_of_grownBy hg' (hBw.trans (hbU.mono hBw.size)).size hVB)
      · intro z hf
        rw [upd_some hf] at HT
        go_wp2_with fail
        refine wp_region_grown_tail 8 (by kernel_rfl) (by kernel_rfl) ?_
        simp only [List.take_succ_cons, List.take_zero, List.drop_succ_cons, List.drop_zero]
        repeat (go_big_quiet_step (first | (go_at_call 43; exact Calls.regrown_of (of_any _ _ hw1.1 hw1.2)) | (go_at_call 42; exact Calls.regrown_of (ringAdd_any r z ej.2.2 _))))
        refine wpQuiet_nil ?_
        rintro _ ⟨⟨d2, o2⟩, rfl⟩
        go_wp2_with (at_mapUpdate; refine wpList_updateF _ rfl _ _ _ rfl B j f (key ej) (addR r z ej.2.2) (by unfold maxLen; omega) rfl ((((hM.alloc _).alloc _).alloc _).kept (grownBy_of_below (below_regrown _ _ _) none) (by simp)) rfl rfl hk ?_; intro w' hM' hg')
        refine ⟨?_, by simp [intOf]; omega⟩
        refine ⟨j + 1, by simp, by omega, by rw [HT2.out, HT.out]; exact hM', ?_⟩
        have hbU : Below wr.heap.size wr (grow (redrawn (((wr.alloc (.cells #[.int .i64 ej.1, .int .i64 ej.2.1, .int .i64 ej.2.2] 41)).alloc (.cells #[.int .i64 ej.1, .int .i64 ej.2.1] 49)).alloc (.cells #[.int .i64 (hi z), .int .u64 (lo z)] 52)) d2) o2) := (by repeat (first | with_reducible refine blg ?_ _ _ | with_reducible refine bla ?_ _ | with_reducible exact Below.refl _ _))
        exact (hBw.trans (hbU.mono hBw.size)).trans (below_of_grownBy hg' (hBw.trans (hbU.mono hBw.size)).size hVB)
    · obtain rfl : j = n := by omega
      have hle := hBw.size
      rw [List.take_of_length_le (by rw [← HN.out]; exact Nat.le_refl _)] at hM
      clear hlt hj
      obtain ⟨i0, hi0, hz0, hz1, hz2⟩ := info_partsE infoE
      go_wp2_with (first
        | (at_len; refine wpList_lenF _ rfl _ rfl B j (fm r l) rfl hM ?_; intro m hm; obtain ⟨V2, hmk, hown, hgn⟩ := run_makeSlice_owned (P := Try.prog) (w := wr) wr.heap.size 22 41 i0 (.agg #[.int .i64 0, .int .i64 0, .int .i64 0]) 3 Try.underlying22 hi0 hz0 hz1 .i64 .i64 m (by omega) (by rw [hz2]; omega) (by unfold maxLen; omega) (Nat.le_refl _); have hM2 := hM.kept hgn (by simp))
        | (at_range; refine wpList_rangeF _ rfl _ rfl B j (fm r l) rfl hM2 ?_; intro V3 hR3 hg3 hs3))
      have hBl := hM.lt
      have hB2 : Below w.heap.size w V2 := hBw.trans ((below_of_grownNone hgn).mono hle)
      obtain ⟨g0, hg0⟩ : ∃ g0, g0 = wr.heap.size := ⟨_, rfl⟩
      rw [← hg0] at hown hBl ⊢
      have hg0V : g0 < V2.heap.size := (hown.lt g0 rfl).2
      have hwg : w.heap.size ≤ g0 := by rw [hg0]; exact hle
      clear hmk hM hgn hg0 hBw hle
      have hown3 := hown.kept hg3 (.inr (by simp [Value.ownBlock]))
      have hB3 : Below w.heap.size w V3 := hB2.trans ((below_of_grownNone hg3).mono hB2.size)
      obtain ⟨ri, hri⟩ : ∃ ri, ri = V2.heap.size := ⟨_, rfl⟩
      rw [← hri] at hR3 hg0V ⊢
      have hwr : w.heap.size ≤ ri := by rw [hri]; exact hB2.size
      clear hM2 hown hg3 hs3 hri hB2
      go_frame
      go_loopw [12] (fun v wr => ∃ done, RangF wr B ri j (fm r l) done ∧ wr.ownsRow w.heap.size 41 3 v done.length (cellsE (done.map toE)) ∧ (∃ k, v.ownBlock = some k ∧ k ≠ ri ∧ k ≠ B) ∧ (∀ p ∈ done, nb p.2 = true) ∧ Below w.heap.size w wr) (fun _ wr => wr.rangeLeft B ri)
      case atStart => exact ⟨[], hR3, row_mono hown3 hwg, ⟨g0, rfl, by omega, by omega⟩, by simp, hB3⟩
      case round =>
        clear hR3 hown3 hB3
        obtain ⟨done, hR, hown, ⟨kb, hkb, hk1, hk2⟩, hnb, hBw⟩ := hrel
        have hRl := hR.lt
        obtain ⟨cap, rfl⟩ := row_some hown hkb
        clear hkb
        go_wp2_with (at_next; refine wpList_nextF _ rfl _ rfl B ri j (fm r l) done rfl hR ?_ ?_)
        · intro hall
          have hT : done.Perm (canS r l) := (rep_can r l).perm hR.facts.1 (fun p hp => (hR.facts.2.1 p hp).2) (fun k z hkz => hall k.1 k.2 (by obtain ⟨e, he, rfl⟩ := fm_some hkz; exact ⟨(hI e he).1, (hI e he).2.1⟩) z hkz)
          have hR0 : combR r l = ((canS r l).map toE, 0) := combR_all h (fun k z hkz => hnb (k, z) (hall k.1 k.2 (by obtain ⟨e, he, rfl⟩ := fm_some hkz; exact ⟨(hI e he).1, (hI e he).2.1⟩) z hkz))
          rw [HCR.out] at hR0
          have hdl : done.length ≤ j := hR.facts.2.2
          have hkl := hown.lt kb rfl
          have HSO := sortF_any kb cap (done.map toE) wr hkl.2 (fun i hi k hk => by rw [hown.cellAt (i * 3 + k) (by simp at hi; omega), cellsE_at _ i k hi hk]) (fun j => hown.frozenAt j) (by simp; omega)
          rw [List.length_map] at HSO
          clear hR hall
          go_wp2_with fail
          refine HSO.mono ?_
          rintro x w1 ⟨rfl, l', hp, hs, hrd, hg⟩
          go_wp2
          go_ret2
          have hl' := sorted_is r l l' done hT hp hs
          have hlen : done.length = l'.length := by have := hp.length_eq; simpa using this.symm
          refine ⟨some ⟨kb, 0, none⟩, cap, ?_, by rw [hR0, ← hl']; exact ⟨hrd, by simp, fun b hb => by cases hb; exact hkl.1⟩, hBw.trans ((below_of_grownBy hg hBw.size hkl.1).mono (Nat.le_refl _))⟩
          rw [hR0, hlen, hl']
          rfl
        · intro k1 k2 z w' hR' hlt hg hs hen
          have hown' := hown.kept hg (.inr (by simp [Value.ownBlock]; exact hk1))
          have hB' : Below w.heap.size w w' := hBw.trans ((below_of_grownBy hg hBw.size hwr).mono (Nat.le_refl _))
          clear hown hR
          have hwl : w'.heap.size = wr.heap.size := hs
          go_wp2_with fail
          obtain ⟨U, hU⟩ : ∃ U, U = (w'.alloc (.cells #[.int .i64 k1, .int .i64 k2] 49)).alloc (.cells #[.int .i64 (hi z), .int .u64 (lo z)] 52) := ⟨_, rfl⟩
          rw [← hU]
          have hCU : CellsAt U wr.heap.size 49 #[.int .i64 k1, .int .i64 k2] := by
            have h1 : CellsAt (w'.alloc (.cells #[.int .i64 k1, .int .i64 k2] 49)) w'.heap.size 49 #[.int .i64 k1, .int .i64 k2] := World.alloc_heap_new w' _
            rw [hU, ← hwl]
            exact h1.below (bl1 _ _)
          have hbU : Below w'.heap.size w' U := by rw [hU]; exact bl2 _ _ _
          have hU1 : wr.heap.size < U.heap.size := by rw [hU]; simp; omega
          clear hU hen
          refine (ringNarrow_any r z U).mono ?_
          rintro x w1 ⟨rfl, hb1⟩
          have hC1 := hCU.below hb1
          have c0 : w1.cell? ⟨wr.heap.size, 0, none⟩ = some (.int .i64 k1) := hC1.cell 0
          have c1 : w1.cell? ⟨wr.heap.size, 1, none⟩ = some (.int .i64 k2) := hC1.cell 1
          have kg := Has.of hC1.lt
          have hbW : Below w'.heap.size w' w1 := hbU.trans (hb1.mono hbU.size)
          have hRW := hR'.kept (grownBy_of_below hbW none) (by simp) (by simp)
          have hownW := hown'.kept (grownBy_of_below hbW none) (.inr (by simp [Value.ownBlock]))
          have hBW : Below w.heap.size w w1 := hB'.trans (hbW.mono hB'.size)
          have hlW := hR'.left (grownBy_of_below hbW none) (by simp) (by simp)
          have hfz := hR'.facts
          clear hbU hb1 hCU hC1 hown'
          cases hz : nb z
          · have hR0 := combR_over (r := r) (l := l) h (hfz.2.1 ((k1, k2), z) (by simp)).2 hz
            rw [HCR.out] at hR0
            go_wp2_with fail
            go_ret2
            refine ⟨none, 0, by rw [hR0]; rfl, ?_, hBW⟩
            rw [hR0]
            exact out_nil _ _
          · have hdl : done.length + 1 ≤ j := by have := hfz.2.2; simpa using this
            go_wp2_with (refine wpList_append_rdE rfl _ _ rfl w.heap.size _ done.length (done.map toE) rfl (hownW.alloc _) _ 1 1 [(k1, k2, nv z)] rfl rfl (rdE_one _ _ _ _) (by simp) (by omega) (by have := hBW.size; simp; omega) ?_; intro v' w2 hown2 hg2 hat2)
            have hg2' : (w1.alloc (.cells #[.int .i64 k1, .int .i64 k2, .int .i64 (nv z)] 41)).grownBy w2 (some kb) := hg2
            have hat2' : v'.ownBlock = some kb ∨ v'.ownBlock = some (w1.alloc (.cells #[.int .i64 k1, .int .i64 k2, .int .i64 (nv z)] 41)).heap.size := hat2
            have hga := World.grownBy_alloc w1 (.cells #[.int .i64 k1, .int .i64 k2, .int .i64 (nv z)] 41) none
            have hkbl := (hownW.lt kb rfl).1
            have hRA := hRW.kept hga (by simp) (by simp)
            have hlA := hRW.left hga (by simp) (by simp)
            have hB1s := hRW.lt
            refine ⟨⟨done ++ [((k1, k2), z)], hRA.kept hg2' (by simp; exact Ne.symm hk2) (by simp; exact Ne.symm hk1), ?_, ?_, ?_, ?_⟩, ?_⟩
            · simpa [toE] using hown2
            · rcases hat2' with e | e
              · exact ⟨kb, e, hk1, hk2⟩
              · exact ⟨_, e, by simp; omega, by simp; omega⟩
            · intro p hp
              rcases List.mem_append.1 hp with hp | hp
              · exact hnb p hp
              · simp at hp; subst hp; exact hz
            · exact (bla hBW _).trans (below_app (v := .slice (some ⟨kb, 0, none⟩) done.length cap) hg2' (fun k hk => by cases hk; exact hkbl) (by have := hBW.size; simp; omega))
            · rw [hRA.left hg2' (by simp; exact Ne.symm hk2) (by simp; exact Ne.symm hk1), hlA, hlW]
              exact hlt

theorem nb_in {z : Int} (h : In64 z) : nb z = true := by
  obtain ⟨h1, h2⟩ := h
  unfold nb
  rw [sv_in z (by omega) (by omega)]
  simp; omega
theorem nv_in {z : Int} (h : In64 z) : nv z = z := by
  unfold nv
  rw [if_pos (nb_in h), sv_in z (by have := h.1; omega) (by have := h.2; omega)]
theorem ris_pw {l : List Ed} (h : risB l = true) : l.Pairwise (fun a b => klt (key a) (key b) = true) := by
  unfold risB at h
  rw [List.all_eq_true] at h
  have hc : ∀ d i, i + d + 1 < l.length → klt (key (el l i)) (key (el l (i + d + 1))) = true := by
    intro d
    induction d with
    | zero => intro i hi; exact h i (by simp; omega)
    | succ d ih => intro i hi; exact klt_trans (ih i (by omega)) (h (i + d + 1) (by simp; omega))
  rw [List.pairwise_iff_getElem]
  intro i j hi hj hij
  have := hc (j - i - 1) i (by omega)
  rw [show i + (j - i - 1) + 1 = j by omega] at this
  simpa [el, List.getD_eq_getElem?_getD, hi, hj] using this
theorem combR_rising {r : Int} {l : List Ed} (h : isR r = true) (hs : risB l = true) (hI : ∀ e ∈ l, InE e) : combR r l = (l, 0) := by
  have hc := canS_rising r l (ris_pw hs)
  have : (canS r l).all (fun p => nb p.2) = true := by
    rw [hc, List.all_eq_true]
    intro p hp
    obtain ⟨e, he, rfl⟩ := List.mem_map.1 hp
    exact nb_in (hI e he).2.2
  simp only [combR, if_pos h, if_pos this]
  rw [hc, List.map_map]
  have : l.map (toE ∘ fun e => (key e, e.2.2)) = l := by
    refine (List.map_congr_left (g := id) fun e he => ?_).trans (List.map_id l)
    simp [toE, key, nv_in (hI e he).2.2]
  rw [this]

theorem combine_any (r : Int) (a : Option Addr) (l : List Ed) (c : Nat) (w : World) (hr : RdE w a l) (hz : a = none → c = 0 ∧ l.length = 0) (hI : ∀ e ∈ l, InE e) (hl : l.length ≤ 1000) :
    Calls Try.prog 12 #[.int .i64 r, .slice a l.length c] w fun e w' => ∃ a' c', e = .returned (.tuple #[.slice a' (combR r l).1.length c', .int .i64 (combR r l).2]) ∧ Out w.heap.size w' a' c' (combR r l).1 ∧ Below w.heap.size w w' := by
  cases h : isR r
  · rw [combR_bad h]
    exact (combine_bad r a l c w h).mono fun e w' ⟨he, hb⟩ => ⟨none, 0, he, out_nil _ _, hb⟩
  · cases hs : risB l
    · exact combine_map r a l c w h hr hI hl hs
    · rw [combR_rising h hs hI]
      refine (combine_rising r a l c w h hr hz hl hs).mono ?_
      rintro e w' ⟨v, rfl, hown, hb⟩
      obtain ⟨_, a', c', rfl, _, hrd, hz'⟩ := row_rdE hown
      exact ⟨a', c', rfl, ⟨hrd, hz', fun b hb => (hown.lt b.block (by rw [hb]; rfl)).1⟩, hb⟩
end Go.Proofs.Ytfaddlpemhifpaa
