/- Package edges: what the statements begin with: so many edges, and what must be whatever is asked. -/
import Derived.Test.YtfaddlpemhifpaaEd14
namespace Go.Proofs.Ytfaddlpemhifpaa
open Go.RowKit Go.Sort
set_option linter.unusedVariables false
set_option linter.unusedSimpArgs false
def few (l : List Ed) : List Ed := l.take 60
theorem few_len (l : List Ed) : (few l).length ≤ 60 := by simp [few]; omega
theorem RdE.take {w : World} {a : Option Addr} {l : List Ed} (h : RdE w a l) (n : Nat) : RdE w a (l.take n) := by
  intro i hi
  have hi2 : i < l.length := by simp at hi; omega
  have he : el (l.take n) i = el l i := by
    have : i < n := by simp at hi; omega
    simp [el, List.getD_eq_getElem?_getD, List.getElem?_take, this]
  obtain ⟨b, e, h0⟩ := h i hi2
  exact ⟨b, e, by rw [he]; exact h0⟩
theorem RdE.few {w : World} {a : Option Addr} {l : List Ed} (h : RdE w a l) : RdE w a (few l) := h.take 60

set_option maxRecDepth 100000 in
set_option maxHeartbeats 1000000 in
theorem few_any (n : Int) (a : Option Addr) (l : List Ed) (c : Nat) (w : World) (hc : l.length ≤ c) (hc2 : c < 9223372036854775808) (hz : a = none → c = 0) :
    Calls Try.prog 11 #[GV n a l.length c] w fun e w' => e = .returned (GV n a (few l).length c) ∧ Below w.heap.size w w' := by
  by_cases hl : 60 < l.length
  · obtain ⟨b, rfl⟩ : ∃ b, a = some b := by cases a with | none => have := hz rfl; omega | some b => exact ⟨b, rfl⟩
    have hlen : (few l).length = 60 := by simp [few]; omega
    rw [hlen]
    go_enter Try.func11, Try.ntmps11
    go_wp2_with fail
    refine bodyPost_ret (v := GV n (some b) 60 c) ?_ rfl ⟨rfl, (by repeat (first | with_reducible refine blg ?_ _ _ | with_reducible refine bla ?_ _ | with_reducible exact Below.refl _ _))⟩
    simp [results, Try.results11, go_sem]
  · have hlen : (few l).length = l.length := by simp [few]; omega
    rw [hlen]
    go_enter Try.func11, Try.ntmps11
    go_wp2_with fail
    refine bodyPost_ret (v := GV n a l.length c) ?_ rfl ⟨rfl, (by repeat (first | with_reducible refine blg ?_ _ _ | with_reducible refine bla ?_ _ | with_reducible exact Below.refl _ _))⟩
    simp [results, Try.results11, go_sem]


@[go_sem] theorem fieldG (n : Int) (a : Option Addr) (k c : Nat) (w : World) : (Instr.field 24 (.agg #[.int .i64 n, .slice a k c]) 1).run Try.prog w = .ok (.slice a k c) w := by kernel_rfl
def lst : List Ed := [(1, 2, 5), (0, 0, 1), (1, 2, 3)]
def lcan : List Ed := [(0, 0, 1), (1, 2, 3)]
theorem inE_lst : ∀ e ∈ lst, InE e := by intro e he; simp [lst] at he; rcases he with rfl | rfl | rfl <;> simp [InE, In64]
theorem lv_right (p : Addr) (W : World) (hr : RdE W (some p) lst) : Calls Try.prog 8 #[GV 3 (some p) 3 3] W fun e w' => e = .returned (.int .i64 0) ∧ Below W.heap.size W w' := by
  have h := right_any 3 (some p) lst 3 W hr (by decide)
  rw [show rightE 3 lst = 0 by decide] at h
  exact h
theorem lv_right1 (W : World) : Calls Try.prog 8 #[GV (-1) none 0 0] W fun e w' => e = .returned (.int .i64 3) ∧ Below W.heap.size W w' := by
  have h := right_any (-1) none [] 0 W (fun i hi => by simp at hi) (by decide)
  rw [show rightE (-1) [] = 3 by decide] at h
  exact h
theorem lv_canon (p : Addr) (W : World) (hr : RdE W (some p) lst) : Calls Try.prog 18 #[GV 3 (some p) 3 3] W fun e w' => ∃ b c', e = .returned (.agg #[.int .i64 3, .slice (some b) 2 c']) ∧ RdE w' (some b) lcan ∧ Below W.heap.size W w' := by
  have h := canon_any 3 (some p) lst 3 W hr (by simp) inE_lst (by decide)
  rw [show canR lst = lcan by decide] at h
  refine h.mono ?_
  rintro e w' ⟨a', c', rfl, hO, hb⟩
  obtain ⟨b, rfl, hbl, c0, c1, c2⟩ := hO.1 1 (by decide)
  exact ⟨b, c', rfl, hO.1, hb⟩
theorem lv_comb (p : Addr) (W : World) (hr : RdE W (some p) lst) : Calls Try.prog 12 #[.int .i64 5, .slice (some p) 3 3] W fun e w' => ∃ b c', e = .returned (.tuple #[.slice (some b) 2 c', .int .i64 0]) ∧ b.block < w'.heap.size ∧ w'.cell? ⟨b.block, b.off + 3 + 2, none⟩ = some (.int .i64 8) ∧ Below W.heap.size W w' := by
  have h := combine_any 5 (some p) lst 3 W hr (by simp) inE_lst (by decide)
  rw [show combR 5 lst = ([(0, 0, 1), (1, 2, 8)], 0) by decide] at h
  refine h.mono ?_
  rintro e w' ⟨a', c', rfl, hO, hb⟩
  obtain ⟨b, rfl, hbl, c0, c1, c2⟩ := hO.1 1 (by decide)
  exact ⟨b, c', rfl, hbl, c2, hb⟩
theorem lv_comb0 (W : World) : Calls Try.prog 12 #[.int .i64 0, .slice none 0 0] W fun e w' => ∃ a' c', e = .returned (.tuple #[.slice a' 0 c', .int .i64 8]) ∧ Below W.heap.size W w' := by
  have h := combine_any 0 none [] 0 W (fun i hi => by simp at hi) (by simp) (by simp) (by decide)
  rw [show combR 0 [] = ([], 8) by decide] at h
  refine h.mono ?_
  rintro e w' ⟨a', c', rfl, hO, hb⟩
  exact ⟨a', c', rfl, hb⟩
theorem lv_turn (p : Addr) (W : World) (hr : RdE W (some p) lst) : Calls Try.prog 20 #[GV 3 (some p) 3 3] W fun e w' => ∃ b c', e = .returned (.agg #[.int .i64 3, .slice (some b) 2 c']) ∧ b.block < w'.heap.size ∧ w'.cell? ⟨b.block, b.off + 3, none⟩ = some (.int .i64 2) ∧ Below W.heap.size W w' := by
  have h := turn_any 3 (some p) lst 3 W hr (by intro e he; simp [lst, chg, turnE] at he; rcases he with rfl | rfl | rfl <;> simp [InE, In64]) (by decide)
  rw [show canR (chg (fun _ => true) turnE lst) = [(0, 0, 1), (2, 1, 3)] by decide] at h
  refine h.mono ?_
  rintro e w' ⟨a', c', rfl, hO, hb⟩
  obtain ⟨b, rfl, hbl, c0, c1, c2⟩ := hO.1 1 (by decide)
  exact ⟨b, c', rfl, hbl, c0, hb⟩
theorem lv_both (p : Addr) (W : World) (hr : RdE W (some p) lst) : Calls Try.prog 22 #[GV 3 (some p) 3 3] W fun e w' => ∃ b c', e = .returned (.agg #[.int .i64 3, .slice b 3 c']) ∧ Below W.heap.size W w' := by
  have h := both_any 3 (some p) lst 3 W hr (by simp) (by intro e he; simp [lst, turnE] at he; rcases he with rfl | rfl | rfl | rfl | rfl | rfl <;> simp [InE, In64]) (by decide)
  rw [show canR (lst ++ lst.map turnE) = [(0, 0, 1), (1, 2, 3), (2, 1, 3)] by decide] at h
  refine h.mono ?_
  rintro e w' ⟨a', c', rfl, hO, hb⟩
  exact ⟨a', c', rfl, hb⟩
theorem lv_simple (p : Addr) (W : World) (hr : RdE W (some p) lst) : Calls Try.prog 24 #[GV 3 (some p) 3 3] W fun e w' => ∃ b c', e = .returned (.agg #[.int .i64 3, .slice b 1 c']) ∧ Below W.heap.size W w' := by
  have h := simpleG_any 3 (some p) lst 3 W hr (by intro e he; simp [lst, chg] at he; rcases he with rfl | rfl <;> simp [InE, In64]) (by decide)
  rw [show canR (chg (fun e : Ed => e.1 != e.2.1) (fun e : Ed => e) lst) = [(1, 2, 3)] by decide] at h
  refine h.mono ?_
  rintro e w' ⟨a', c', rfl, hO, hb⟩
  exact ⟨a', c', rfl, hb⟩
theorem lv_plain (p : Addr) (W : World) (hr : RdE W (some p) lst) : Calls Try.prog 26 #[GV 3 (some p) 3 3] W fun e w' => ∃ b c', e = .returned (.agg #[.int .i64 3, .slice (some b) 2 c']) ∧ b.block < w'.heap.size ∧ w'.cell? ⟨b.block, b.off + 2, none⟩ = some (.int .i64 1) ∧ Below W.heap.size W w' := by
  have h := plainG_any 3 (some p) lst 3 W hr (by intro e he; simp [lst, chg, plainE] at he; rcases he with rfl | rfl | rfl <;> simp [InE, In64]) (by decide)
  rw [show canR (chg (fun _ => true) plainE lst) = [(0, 0, 1), (1, 2, 1)] by decide] at h
  refine h.mono ?_
  rintro e w' ⟨a', c', rfl, hO, hb⟩
  obtain ⟨b, rfl, hbl, c0, c1, c2⟩ := hO.1 0 (by decide)
  exact ⟨b, c', rfl, hbl, c2, hb⟩
theorem lv_lower (p : Addr) (W : World) (hr : RdE W (some p) lst) : Calls Try.prog 28 #[GV 3 (some p) 3 3] W fun e w' => ∃ b c', e = .returned (.agg #[.int .i64 3, .slice b 0 c']) ∧ Below W.heap.size W w' := by
  have h := lowerG_any 3 (some p) lst 3 W hr (by intro e he; simp [lst, chg] at he) (by decide)
  rw [show canR (chg (fun e : Ed => decide (e.2.1 < e.1)) (fun e : Ed => e) lst) = [] by decide] at h
  refine h.mono ?_
  rintro e w' ⟨a', c', rfl, hO, hb⟩
  exact ⟨a', c', rfl, hb⟩
theorem lv_outs (p : Addr) (W : World) (hr : RdE W (some p) lst) : Calls Try.prog 31 #[GV 3 (some p) 3 3] W fun e w' => ∃ b c', e = .returned (.slice b 3 c') ∧ RdN w' b [1, 2, 0] ∧ Below W.heap.size W w' := by
  have h := outs_any 3 (some p) lst 3 W hr (by decide)
  rw [show cntsR fromE 3 lst = [1, 2, 0] by decide] at h
  refine h.mono ?_
  rintro e w' ⟨v, rfl, hrow, hb⟩
  obtain ⟨_, a, c, rfl, hN⟩ := row_rdN hrow
  exact ⟨a, c, rfl, hN, hb⟩
theorem lv_ins (p : Addr) (W : World) (hr : RdE W (some p) lst) : Calls Try.prog 33 #[GV 3 (some p) 3 3] W fun e w' => ∃ b c', e = .returned (.slice b 3 c') ∧ RdN w' b [1, 0, 2] ∧ Below W.heap.size W w' := by
  have h := ins_any 3 (some p) lst 3 W hr (by decide)
  rw [show cntsR intoE 3 lst = [1, 0, 2] by decide] at h
  refine h.mono ?_
  rintro e w' ⟨v, rfl, hrow, hb⟩
  obtain ⟨_, a, c, rfl, hN⟩ := row_rdN hrow
  exact ⟨a, c, rfl, hN, hb⟩
theorem rdN_new (W : World) (x y z : Int) : RdN (W.alloc (.cells #[.int .i64 x, .int .i64 y, .int .i64 z] 3)) (some ⟨W.heap.size, 0, none⟩) [x, y, z] := by
  have h : CellsAt (W.alloc (.cells #[.int .i64 x, .int .i64 y, .int .i64 z] 3)) W.heap.size 3 #[.int .i64 x, .int .i64 y, .int .i64 z] := World.alloc_heap_new _ _
  intro i hi
  refine ⟨_, rfl, h.lt, ?_⟩
  rw [addr0]
  have h3 : i = 0 ∨ i = 1 ∨ i = 2 := by simp at hi; omega
  rcases h3 with rfl | rfl | rfl
  · exact h.cell 0
  · exact h.cell 1
  · exact h.cell 2
theorem lv_sameInts (a b : Option Addr) (x y z : Int) (c : Nat) (W : World) (hr : RdN W a [x, y, z]) (hr2 : RdN W b [x, y, z]) : Calls Try.prog 30 #[.slice a 3 c, .slice b 3 3] W fun e w' => e = .returned (.bool true) ∧ Below W.heap.size W w' := by
  have h := sameInts_any a b [x, y, z] [x, y, z] c 3 W hr hr2 (by simp) (by simp)
  rw [decide_eq_true rfl] at h
  exact h
theorem lv_same (b : Addr) (c : Nat) (W : World) (hr : RdE W (some b) lcan) : Calls Try.prog 35 #[GV 3 (some b) 2 c, GV 3 (some b) 2 c] W fun e w' => e = .returned (.bool true) ∧ Below W.heap.size W w' := by
  have h := same_any 3 3 (some b) (some b) lcan lcan c c W hr hr (by decide) (by decide)
  rw [decide_eq_true ⟨rfl, rfl⟩] at h
  exact h
theorem lv_differ (b p : Addr) (c : Nat) (W : World) (hr : RdE W (some b) lcan) (hr2 : RdE W (some p) lst) : Calls Try.prog 35 #[GV 3 (some b) 2 c, GV 3 (some p) 3 3] W fun e w' => e = .returned (.bool false) ∧ Below W.heap.size W w' := by
  have h := same_any 3 3 (some b) (some p) lcan lst c 3 W hr hr2 (by decide) (by decide)
  rw [show decide ((3 : Int) = 3 ∧ lcan = lst) = false by decide] at h
  exact h
theorem lv_rises (b : Addr) (c : Nat) (W : World) (hr : RdE W (some b) lcan) : Calls Try.prog 14 #[.slice (some b) 2 c] W fun e w' => e = .returned (.bool true) ∧ Below W.heap.size W w' := by
  have h := rises_any (some b) lcan c W hr (by decide)
  rw [show risB lcan = true by decide] at h
  exact h
theorem rdE_lst (w : World) : RdE (w.alloc (.cells #[.int .i64 1, .int .i64 2, .int .i64 5, .int .i64 0, .int .i64 0, .int .i64 1, .int .i64 1, .int .i64 2, .int .i64 3] 41)) (some ⟨w.heap.size, 0, none⟩) lst := by
  have h : CellsAt (w.alloc (.cells #[.int .i64 1, .int .i64 2, .int .i64 5, .int .i64 0, .int .i64 0, .int .i64 1, .int .i64 1, .int .i64 2, .int .i64 3] 41)) w.heap.size 41 #[.int .i64 1, .int .i64 2, .int .i64 5, .int .i64 0, .int .i64 0, .int .i64 1, .int .i64 1, .int .i64 2, .int .i64 3] := World.alloc_heap_new _ _
  intro i hi
  refine ⟨_, rfl, h.lt, ?_⟩
  rw [addr0]
  have h3 : i = 0 ∨ i = 1 ∨ i = 2 := by simp [lst] at hi; omega
  rcases h3 with rfl | rfl | rfl
  · exact ⟨h.cell 0, h.cell 1, h.cell 2⟩
  · exact ⟨h.cell 3, h.cell 4, h.cell 5⟩
  · exact ⟨h.cell 6, h.cell 7, h.cell 8⟩
end Go.Proofs.Ytfaddlpemhifpaa
