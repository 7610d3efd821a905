/- Package part: numbers cut in two ways at once. -/
import Derived.Maps.AppendAt
import Derived.Test.YtphgkgpkallgeaaPart8
namespace Go.Proofs.Ytphgkgpkallgeaa
open Go.RowKit Go.Shelf Go.Sort
set_option linter.unusedVariables false
attribute [local go_sem] Oper.semAt_some

/-- The words of some segments, one behind the other. -/
def rowS : List Seg → List Value
  | [] => []
  | s :: l => .int .i64 s.f :: .int .i64 s.t :: .int .i64 s.r :: .int .i64 s.c :: rowS l
theorem rowS_snoc (l : List Seg) (s : Seg) : rowS (l ++ [s]) = rowS l ++ [.int .i64 s.f, .int .i64 s.t, .int .i64 s.r, .int .i64 s.c] := by
  induction l with
  | nil => rfl
  | cons x l ih => simp [rowS, ih]

/-- A block of cells. -/
def CellsAt (W : World) (B : Nat) (t : TypeId) (cs : Array Value) : Prop := W.heap[B]? = some (.cells cs t (0, 0))
theorem CellsAt.lt {W : World} {B : Nat} {t : TypeId} {cs : Array Value} (h : CellsAt W B t cs) : B < W.heap.size := (Array.getElem?_eq_some_iff.1 h).1
theorem cellsAt_own {β : Type} (B : Nat) (t : TypeId) (f : β → Array Value) : Own (fun s W => CellsAt W B t (f s)) := fun s X Y row hs hg hrow =>
  (hg.block B hs.lt (fun e' => by obtain ⟨o, ho, hc⟩ := hrow B e'.symm; rw [show X.heap[B]? = _ from hs] at ho; cases ho; cases hc)).trans hs
theorem CellsAt.cell {W : World} {B : Nat} {t : TypeId} {cs : Array Value} (h : CellsAt W B t cs) (i : Nat) : W.cell? ⟨B, i, none⟩ = cs[i]? := by
  simp [World.cell?, show W.heap[B]? = _ from h]

theorem cell_four_new (w : World) (a b c d : Value) (t : TypeId) : ∀ j u, [a, b, c, d][j]? = some u → (w.alloc (.cells #[a, b, c, d] t)).cell? ((⟨w.heap.size, 0, none⟩ : Addr).add j) = some u := by
  intro j u hj
  match j, hj with
  | 0, hj => simp at hj; subst hj; simp [Addr.add]
  | 1, hj => simp at hj; subst hj; simp [Addr.add]
  | 2, hj => simp at hj; subst hj; simp [Addr.add]
  | 3, hj => simp at hj; subst hj; simp [Addr.add]

theorem infoSeg : (Try.prog.info? 32).map (fun i => (i.zero, i.size, i.bytes)) = some (some (.agg #[.int .i64 0, .int .i64 0, .int .i64 0, .int .i64 0]), 4, 32) := by kernel_rfl

theorem three_boxes (u : World) (n r c : Int) : Boxed (three u n r c) u.heap.size 3 (.int .i64 n) ∧ Boxed (three u n r c) (u.heap.size + 1) 3 (.int .i64 r) ∧ Boxed (three u n r c) (u.heap.size + 2) 3 (.int .i64 c) := by
  have h2 := (Boxed.new (u.alloc (.cells #[.int .i64 n] 3)) 3 (.int .i64 r)).alloc (.cells #[.int .i64 c] 3)
  have h3 := Boxed.new ((u.alloc (.cells #[.int .i64 n] 3)).alloc (.cells #[.int .i64 r] 3)) 3 (.int .i64 c)
  simp only [World.size_alloc] at h2 h3
  exact ⟨((Boxed.new u _ _).alloc _).alloc _, h2, h3⟩

theorem ownsRow_lower {W : World} {n₀ n₁ : Nat} (hn : n₁ ≤ n₀) {e : TypeId} {size k : Nat} {v : Value} {xs : List Value} (h : W.ownsRow n₀ e size v k xs) : W.ownsRow n₁ e size v k xs := by
  obtain ⟨h1, h2 | ⟨g, cap, cur, r1, r2, r3⟩⟩ := h
  · exact ⟨h1, .inl h2⟩
  · exact ⟨h1, .inr ⟨g, cap, cur, r1, by omega, r3⟩⟩

/-- What an append to a row leaves of the blocks below the row's. -/
theorem appended_mid {W w1 : World} {n₀ B lo hi : Nat} {t e : TypeId} {size k m : Nat} {v v' : Value} {xs ys : List Value} {tmp : Obj} (hv : Boxed W B t v) (hte : t ≠ e)
    (hrow : W.ownsRow n₀ e size v k xs) (hgrow : (W.alloc tmp).grownBy w1 v.ownBlock) (hown' : w1.ownsRow n₀ e size v' m ys) (hB : B < lo) (hhi : hi ≤ n₀) (hsz : hi ≤ W.heap.size) :
    Mid lo hi W (w1.setCell ⟨B, 0, none⟩ v') ∧ (w1.setCell ⟨B, 0, none⟩ v').ownsRow n₀ e size v' m ys := by
  have hv1 : Boxed w1 B t v := (hv.alloc tmp).kept hgrow (hv.not_row hte hrow)
  refine ⟨fun k h1 h2 => ?_, hown'.kept (grownBy_setCell' w1 B v') (.inr (hv1.not_row hte hown').symm)⟩
  have e1 := (grownBy_setCell' w1 B v').block k (by have := hgrow.size; simp at this; omega) (fun h => by cases h; omega)
  have e2 := hgrow.block k (by simp; omega) (fun h => by have := (hrow.lt k h.symm).1; omega)
  rw [e1, e2]
  exact Below.heap_alloc W _ k (by omega)

theorem segments_stops (n r c : Int) (hr : mayB n r = true) (hc : mayB n c = true) (m b : Nat) (w : World) (hb : b + 3 ≤ w.heap.size)
    (q1 : w.cell? ⟨b, 0, none⟩ = some (.int .i64 n)) (q2 : w.cell? ⟨b + 1, 0, none⟩ = some (.int .i64 r)) (q3 : w.cell? ⟨b + 2, 0, none⟩ = some (.int .i64 c)) :
    SeqStopsK Fence.wide m Try.prog 31 #[.pointer (some ⟨b, 0, none⟩), .pointer (some ⟨b + 1, 0, none⟩), .pointer (some ⟨b + 2, 0, none⟩)] (fun s : Seg => #[encS s]) (Mid b (b + 3)) (fun ys => ys = segsV n r c) (fun pre => pre <+: segsV n r c) n.toNat w := fun l J Jx W hW hJ hJx hY h0 =>
  segments1_in n r c hr hc l b (b + 3) b (b + 1) (b + 2) m W.heap.size (by omega) (by omega) (by omega) J Jx hJ hY W
    ((hW.cell (p := ⟨b, 0, none⟩) (by simp; omega)).trans q1) ((hW.cell (p := ⟨b + 1, 0, none⟩) (by simp; omega)).trans q2) ((hW.cell (p := ⟨b + 2, 0, none⟩) (by simp; omega)).trans q3) h0

set_option maxRecDepth 100000 in
set_option maxHeartbeats 1000000 in
theorem segments_of (n r c : Int) (hr : mayB n r = true) (hc : mayB n c = true) (w : World) :
    Calls Try.prog 24 #[.int .i64 n, .int .i64 r, .int .i64 c] w fun e w' => ∃ v, e = .returned v ∧ w'.ownsRow w.heap.size 32 4 v (segsV n r c).length (rowS (segsV n r c)) ∧ Below w.heap.size w w' := by
  have hlen : (segsV n r c).length ≤ 4096 := by
    have := segs_len n r c n.toNat 0
    have hm := may_un hr
    unfold segsV; rw [if_pos ⟨hr, hc⟩]; omega
  have hn : n.toNat ≤ 4096 := by have hm := may_un hr; omega
  obtain ⟨i0, hi, hz0, hz1, hz2⟩ := info_parts infoSeg
  have HR := Lib.hid hr
  have HC := Lib.hid hc
  refine (callsIn_wide (n := 6)).1 ?_
  refine callsIn_of_wp_marks Try.func24 rfl trivial ?_ rfl
  simp only [Try.ntmps24, List.size_toArray, List.length_cons, List.length_nil, Nat.reduceAdd, Nat.reduceSub, Array.replicate_succ, Array.replicate_zero, List.push_toArray, List.append_toArray, List.nil_append, List.cons_append]
  refine wpIn_wide.2 ?_
  go_wp2_with fail
  refine (may_to n r true _ hr.symm).mono ?_
  rintro e w1 ⟨rfl, hb1⟩
  go_wp2_with fail
  refine (may_to n c true _ hc.symm).mono ?_
  rintro e w2 ⟨rfl, hb2⟩
  have hb3 : Below w.heap.size w w2 := hb1.trans (hb2.mono hb1.size)
  clear hb1 hb2
  go_wp2_with fail
  refine (segments_any n r c _).mono ?_
  rintro e w3 ⟨rfl, rfl⟩
  go_wp2_with fail
  have bL : Boxed (three (w2.alloc (.cells #[.slice none 0 0] 27)) n r c) w2.heap.size 27 (.slice none 0 0) :=
    (((Boxed.new w2 _ _).alloc _).alloc _).alloc _
  obtain ⟨bN, bR, bC⟩ := three_boxes (w2.alloc (.cells #[.slice none 0 0] 27)) n r c
  rw [World.size_alloc] at bN bR bC
  have hB0 : Below w.heap.size w (three (w2.alloc (.cells #[.slice none 0 0] 27)) n r c) := by
    refine hb3.trans ?_
    exact ((((Below.refl w.heap.size w2).alloc hb3.size _).alloc (by have := hb3.size; simp; omega) _).alloc (by have := hb3.size; simp; omega) _).alloc (by have := hb3.size; simp; omega) _
  have hsz : (three (w2.alloc (.cells #[.slice none 0 0] 27)) n r c).heap.size = w2.heap.size + 1 + 3 := by simp [three]
  have h2 := hb3.size
  generalize three (w2.alloc (.cells #[.slice none 0 0] 27)) n r c = V at bL bN bR bC hB0 hsz ⊢
  refine (wpIn_wide (n := 6)).1 ?_
  refine wpIn_rangeFunc_ownH rfl (by omega) (gf := 31) (lb := #[.pointer (some ⟨w2.heap.size + 1, 0, none⟩), .pointer (some ⟨w2.heap.size + 1 + 1, 0, none⟩), .pointer (some ⟨w2.heap.size + 1 + 1 + 1, 0, none⟩)]) rfl trivial (enters_of Try.func31 (by kernel_rfl) rfl)
    (segments_stops n r c HR.out HC.out _ (w2.heap.size + 1) V (by omega) bN.cell bR.cell bC.cell)
    (fun h k i h1 h2 => (k i h1 h2).trans (h i h1 h2))
    (fun W l o o' hl ho _ _ k h1 h2 => World.putObj_heap_other (by omega)) (Below.refl _ _) (fun _ => rfl)
    (fun pre W => (∃ v, Boxed W w2.heap.size 27 v ∧ W.ownsRow (w2.heap.size + 1 + 3) 32 4 v pre.length (rowS pre) ∧ True) ∧ Below w.heap.size w W ∧ w2.heap.size + 1 + 3 ≤ W.heap.size)
    (fun _ _ _ => False)
    (OwnFrom.and (Own.from (holdsRow_own (w2.heap.size + 1 + 3) w2.heap.size 27 32 4 (fun pre => List.length pre) (fun pre => rowS pre) (fun _ _ => True)) _) (OwnFrom.and (ownFrom_below (Nat.le_refl _) (by omega)) (fun _ _ _ _ hs hg _ => Nat.le_trans hs hg.size)))
    (fun _ _ _ _ _ hs _ _ => hs)
    ⟨⟨_, bL, World.ownsRow_nil _ _ _ _, trivial⟩, hB0, by omega⟩
    (fun x a' W => ∃ Bx, w2.heap.size + 1 + 3 ≤ Bx ∧ CellsAt W Bx 32 #[.int .i64 x.f, .int .i64 x.t, .int .i64 x.r, .int .i64 x.c] ∧ a' = { tmps := #[.int .i64 n, .int .i64 r, .int .i64 c, undef, undef, undef, .slice none 0 0, .pointer (some ⟨w2.heap.size, 0, none⟩), .pointer (some ⟨Bx, 0, none⟩), .int .i64 n, .int .i64 r, .bool true, .bool false, .bool false, .int .i64 n, .int .i64 c, .bool true, .bool false, .bool false, .int .i64 n, .int .i64 r, .int .i64 c, .func (.func 31) #[] #[.pointer (some ⟨w2.heap.size + 1, 0, none⟩), .pointer (some ⟨w2.heap.size + 1 + 1, 0, none⟩), .pointer (some ⟨w2.heap.size + 1 + 1 + 1, 0, none⟩)], encS x, undef, undef, undef, undef, undef], defers := [] })
    (fun x a' _ X Y row hs hg hr => by obtain ⟨Bx, h1, h2, h3⟩ := hs; exact ⟨Bx, h1, cellsAt_own Bx _ (fun (_ : Unit) => #[.int .i64 x.f, .int .i64 x.t, .int .i64 x.r, .int .i64 x.c]) () X Y row h2 hg (fun r e => (hr r e).2), h3⟩)
    ?assign ?body ?done ?stop
  case assign =>
    rintro l pre x W K ⟨⟨v, bL1, hrow, _⟩, hB1, hV1⟩ hK
    gi_wp2
    have hle := bL1.lt
    exact hK _ _ ((KeepsOthers.alloc _ _).from _) (fun k h1 h2 => Below.heap_alloc W _ k (by omega)) ⟨⟨v, bL1.alloc _, hrow.alloc _, trivial⟩, hB1.alloc hB1.size _, by simp; omega⟩ ⟨W.heap.size, by omega, World.alloc_heap_new W _, rfl⟩
  case body =>
    rintro l pre x a' W hl ⟨r, hr⟩ ⟨⟨v, bL1, hrow, _⟩, hB1, hV1⟩ ⟨Bx, hBx, bX, rfl⟩ hlt
    have cL := bL1.cell
    have x0 := bX.cell 0
    have x1 := bX.cell 1
    have x2 := bX.cell 2
    have x3 := bX.cell 3
    gi_wp2_with (gi_at_builtin; refine wpListIn_append_own _ rfl _ _ 27 rfl (w2.heap.size + 1 + 3) 32 i0 (.agg #[.int .i64 0, .int .i64 0, .int .i64 0, .int .i64 0]) 4 32 Try.underlying27 hi hz0 hz1 hz2 rfl (by decide) _ _ _ rfl (hrow.alloc _) ⟨W.heap.size, 0, none⟩ 1 1 [.int .i64 x.f, .int .i64 x.t, .int .i64 x.r, .int .i64 x.c] rfl rfl (cell_four_new _ _ _ _ _ _) (by simp [Value.oneCell']) (by unfold maxLen; omega) (by omega) (by have := bX.lt; simp; omega) ?_; intro v' w5 hown' hgrow _; obtain ⟨g', cap', rfl⟩ := ownsRow_succ hown'; obtain ⟨hv1, hv2, hr2, hk2, hb2⟩ := bL1.appended (n₀ := w.heap.size) (by decide) (ownsRow_lower (by omega) hrow) hB1.size (by omega) (ownsRow_lower (by omega) hown') hgrow; obtain ⟨hm2, hr3⟩ := appended_mid (lo := w2.heap.size + 1) (hi := w2.heap.size + 1 + 3) bL1 (by decide) hrow hgrow hown' (by omega) (by omega) (by have := bX.lt; omega); have hc1 := hv1.cell; have hf1 := hv1.frozen)
    exact ⟨hk2.from _, hm2, ⟨_, hv2, by rw [rowS_snoc]; simpa using hr3, trivial⟩, hB1.trans hb2, Nat.le_trans hV1 hb2.size⟩
  case done =>
    rintro D ys W hD rfl ⟨⟨v, bL1, hrow, _⟩, hB1, hV1⟩ hK
    have cL := bL1.cell
    go_wp2
    refine ⟨by simp, .inl ⟨_, _, rfl, run_takeDeferred hK, ?_⟩⟩
    exact ⟨_, results_tmp rfl _ _ _, v, rfl, ownsRow_putObj (ownsRow_lower (by omega) hrow) _ hK rfl, hB1.trans (belowK_b (w := w) (Nat.le_refl _) W D _ _ (by omega) hK rfl rfl)⟩
  case stop =>
    rintro D c pre W _ _ h _
    exact h.elim
end Go.Proofs.Ytphgkgpkallgeaa
