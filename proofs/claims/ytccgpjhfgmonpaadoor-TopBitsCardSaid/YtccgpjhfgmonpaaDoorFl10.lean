/- Package flags: all places of a set. -/
import Derived.Maps.AppendAt
import Derived.Test.YtccgpjhfgmonpaaDoorFl9
namespace Go.Proofs.YtccgpjhfgmonpaaDoor
open Go.RowKit Go.Shelf Go.Sort
set_option linter.unusedVariables false
attribute [local go_sem] Oper.semAt_some

theorem infoInt : (Tryd.prog.info? 3).map (fun i => (i.zero, i.size, i.bytes)) = some (some (.int .i64 0), 1, 8) := by kernel_rfl

theorem places_any (a : Option Addr) (n c : Nat) (w : World) : Calls Tryd.prog 55 #[.slice a n c] w fun e w' => e = .returned (.func (.func 65) #[] #[.pointer (some ⟨w.heap.size, 0, none⟩)]) ∧ w' = w.alloc (.cells #[.slice a n c] 22) := by
  go_enter Tryd.func55, Tryd.ntmps55
  go_wp2
  go_ret
  exact ⟨rfl, rfl⟩

theorem places_stops (w0 : World) (a : Option Addr) (n c : Nat) (p : Nat → Bool) (hr : RdW w0 a n (wd p)) (hT : Tab w0) (hn : n ≤ 100000) (m b : Nat) (w : World) (hb : b < w.heap.size) (hB : Below w0.heap.size w0 w)
    (q1 : w.cell? ⟨b, 0, none⟩ = some (.slice a n c)) :
    SeqStopsK Fence.wide m Tryd.prog 65 #[.pointer (some ⟨b, 0, none⟩)] (fun x : Plc => #[.int .i64 (x.1 : Nat)]) (Below w0.heap.size) (fun ys => ys.map (·.1) = pl p (64 * n)) (fun pre => pre.map (·.1) <+: pl p (64 * n)) (64 * n) w := fun l J Jx W hW hJ hJx hY h0 =>
  places1_in w0 a n c p hr hT hn l b m W.heap.size J Jx hJ hY W (hB.trans (hW.mono hB.size)) ((hW.cell (p := ⟨b, 0, none⟩) hb).trans q1) h0

/-- Numbers' cells. -/
def cellsP (l : List Plc) : List Value := l.map fun x => .int .i64 (x.1 : Nat)
theorem cellsP_len (l : List Plc) : (cellsP l).length = l.length := by simp [cellsP]

set_option maxRecDepth 100000 in
set_option maxHeartbeats 1000000 in
theorem list_row (a : Option Addr) (n c : Nat) (p : Nat → Bool) (w : World) (hr : RdW w a n (wd p)) (hT : Tab w) (hn : n ≤ 100000) :
    Calls Tryd.prog 32 #[.slice a n c] w fun e w' => ∃ v ys, e = .returned v ∧ ys.map (·.1) = pl p (64 * n) ∧ w'.ownsRow w.heap.size 3 1 v ys.length (cellsP ys) ∧ Below w.heap.size w w' := by
  obtain ⟨i0, hi, hz0, hz1, hz2⟩ := info_parts infoInt
  refine (callsIn_wide (n := 6)).1 ?_
  refine callsIn_of_wp_marks Tryd.func32 rfl trivial ?_ rfl
  simp only [Tryd.ntmps32, List.size_toArray, List.length_cons, List.length_nil, Nat.reduceAdd, Nat.reduceSub, Array.replicate_succ, Array.replicate_zero, List.push_toArray, List.append_toArray, List.nil_append, List.cons_append]
  refine wpIn_wide.2 ?_
  go_wp2_with fail
  refine (places_any a n c _).mono ?_
  rintro e w3 ⟨rfl, rfl⟩
  go_wp2_with fail
  have bL : Boxed ((w.alloc (.cells #[.slice none 0 0] 23)).alloc (.cells #[.slice a n c] 22)) w.heap.size 23 (.slice none 0 0) := (Boxed.new w _ _).alloc _
  have bN : Boxed ((w.alloc (.cells #[.slice none 0 0] 23)).alloc (.cells #[.slice a n c] 22)) (w.heap.size + 1) 22 (.slice a n c) := by
    have := Boxed.new (w.alloc (.cells #[.slice none 0 0] 23)) 22 (.slice a n c)
    rwa [World.size_alloc] at this
  have hB0 : Below w.heap.size w ((w.alloc (.cells #[.slice none 0 0] 23)).alloc (.cells #[.slice a n c] 22)) := bl2 _ _ _
  have hsz : ((w.alloc (.cells #[.slice none 0 0] 23)).alloc (.cells #[.slice a n c] 22)).heap.size = w.heap.size + 1 + 1 := by simp
  generalize (w.alloc (.cells #[.slice none 0 0] 23)).alloc (.cells #[.slice a n c] 22) = V at bL bN hB0 hsz ⊢
  refine (wpIn_wide (n := 6)).1 ?_
  refine wpIn_rangeFunc_ownF rfl (by omega) (gf := 65) (lb := #[.pointer (some ⟨w.heap.size + 1, 0, none⟩)]) rfl trivial (enters_of Tryd.func65 (by kernel_rfl) rfl)
    (places_stops w a n c p hr hT hn _ (w.heap.size + 1) V (by omega) hB0 bN.cell) belowK_t (belowK_b (by omega)) (Below.refl _ _) (fun _ => rfl)
    (fun pre W => (∃ v, Boxed W w.heap.size 23 v ∧ W.ownsRow w.heap.size 3 1 v pre.length (cellsP pre) ∧ True) ∧ Below w.heap.size w W)
    (fun _ _ _ => False)
    (OwnFrom.and (Own.from (holdsRow_own w.heap.size w.heap.size 23 3 1 (fun pre => List.length pre) (fun pre => cellsP pre) (fun _ _ => True)) _) (ownFrom_below (Nat.le_refl _) (by omega)))
    (fun _ _ _ _ _ hs _ _ => hs)
    ⟨⟨_, bL, World.ownsRow_nil _ _ _ _, trivial⟩, hB0⟩
    (fun x => { tmps := #[.slice a n c, undef, .slice none 0 0, .pointer (some ⟨w.heap.size, 0, none⟩), .int .i64 (x.1 : Nat), .slice a n c, .func (.func 65) #[] #[.pointer (some ⟨w.heap.size + 1, 0, none⟩)], .int .i64 (x.1 : Nat), undef, undef, undef, undef, undef], defers := [] })
    ?assign ?body ?done ?stop
  case assign =>
    intro l x W K hK
    gi_wp2
    exact hK
  case body =>
    rintro l pre x W ⟨⟨v, bL1, hrow, _⟩, hB1⟩ hlt
    have cL := bL1.cell
    have hle := bL1.lt
    gi_wp2_with (gi_at_builtin; refine wpListIn_append_own _ rfl _ _ 23 rfl w.heap.size 3 i0 (.int .i64 0) 1 8 Tryd.underlying23 hi hz0 hz1 hz2 rfl (by decide) _ _ _ rfl (hrow.alloc _) ⟨W.heap.size, 0, none⟩ 1 1 [.int .i64 (x.1 : Nat)] rfl rfl (cell_one_new _ _ _) (by simp [Value.oneCell']) (by unfold maxLen; omega) (by omega) (by have := hB1.size; simp; omega) ?_; intro v' w1 hown' hgrow _; obtain ⟨g', cap', rfl⟩ := ownsRow_succ hown'; obtain ⟨hv1, hv2, hr2, hk2, hb2⟩ := bL1.appended (by decide) hrow hB1.size (Nat.le_refl _) hown' hgrow; have hc1 := hv1.cell; have hf1 := hv1.frozen)
    exact ⟨hk2, hb2, ⟨_, hv2, by simpa [cellsP] using hr2, trivial⟩, hB1.trans hb2⟩
  case done =>
    rintro D ys W hD hS ⟨⟨v, bL1, hrow, _⟩, hB1⟩ hK
    have cL := bL1.cell
    have HS := Lib.hid hS
    clear hS
    go_wp2
    refine ⟨by simp, .inl ⟨_, _, rfl, run_takeDeferred hK, ?_⟩⟩
    exact ⟨_, results_tmp rfl _ _ _, v, ys, rfl, HS.out, ownsRow_putObj hrow _ hK rfl, hB1.trans (belowK_b (w := w) (Nat.le_refl _) W D _ _ (by omega) hK rfl rfl)⟩
  case stop =>
    rintro D c pre W _ _ h _
    exact h.elim
end Go.Proofs.YtccgpjhfgmonpaaDoor
