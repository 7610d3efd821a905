/- Package edges: appending to lists of edges; slices.Clone. -/
import Derived.Laws.AppendOwnNone
import Derived.Test.YtfaddlpemhifpaaEd5
namespace Go.Proofs.Ytfaddlpemhifpaa
open Go.RowKit Go.Sort
set_option linter.unusedVariables false
set_option linter.unusedSimpArgs false
theorem infoE : (Try.prog.info? 41).map (fun i => (i.zero, i.size, i.bytes)) = some (some (.agg #[.int .i64 0, .int .i64 0, .int .i64 0]), 3, 24) := by kernel_rfl
theorem info_partsE {P : Program} {e : TypeId} {z : Value} {s b : Nat} (h : (P.info? e).map (fun i => (i.zero, i.size, i.bytes)) = some (some z, s, b)) : ∃ i, P.info? e = some i ∧ i.zero = some z ∧ i.size = s ∧ i.bytes = b := by
  obtain ⟨i, hi, he⟩ := Option.map_eq_some_iff.1 h
  simp at he
  exact ⟨i, hi, he.1, he.2.1, he.2.2⟩
theorem add_succ (a : Addr) (k : Nat) : a.add (k + 1) = ⟨a.block, (a.add k).off + 1, none⟩ := by
  unfold Addr.add
  by_cases h : k = 0
  · subst h; simp
  · simp [h]; omega
theorem rdE_news {w : World} {b : Addr} {M : List Ed} (hr : RdE w (some b) M) : ∀ j u, (cellsE M)[j]? = some u → w.cell? (b.add j) = some u := by
  intro j u hj
  have hj' : j < M.length * 3 := by have := (List.getElem?_eq_some_iff.1 hj).1; rwa [cellsE_len] at this
  have hc := cellsE_at M (j / 3) (j % 3) (by omega) (by omega)
  rw [show j / 3 * 3 + j % 3 = j by omega, hj] at hc
  obtain ⟨b', hb', _, h0, h1, h2⟩ := hr (j / 3) (by omega)
  cases hb'
  have h3 : j % 3 = 0 ∨ j % 3 = 1 ∨ j % 3 = 2 := by omega
  rcases h3 with h3 | h3 | h3
  · rw [h3] at hc
    simp [encE] at hc
    rw [hc, show j = j / 3 * 3 by omega]
    rw [show (j / 3 * 3) / 3 = j / 3 by omega]
    exact h0
  · rw [h3] at hc
    simp [encE] at hc
    rw [hc]
    have e : b.add j = ⟨b.block, (b.add (j / 3 * 3)).off + 1, none⟩ := by
      rw [show j = j / 3 * 3 + 1 by omega, add_succ]
      rw [show (j / 3 * 3 + 1) / 3 = j / 3 by omega]
    rw [e]; exact h1
  · rw [h3] at hc
    simp [encE] at hc
    rw [hc]
    have e : b.add j = ⟨b.block, (b.add (j / 3 * 3)).off + 2, none⟩ := by
      rw [show j = j / 3 * 3 + 1 + 1 by omega, add_succ, add_succ]
      rw [show (j / 3 * 3 + 1 + 1) / 3 = j / 3 by omega]
    rw [e]; exact h2
theorem wp_append_rdE {w : World} {o : Oper} {a : Act} {K : Act → World → Prop} {Q : Exit → Act → World → Prop} (s x : Operand)
    (ho : o.op = .call { callee := .builtin .append, args := #[s, x], argTypes := #[22, 22] }) (base : Nat) (v : Value) (n : Nat) (L : List Ed) (hs : a.eval s = v) (hown : w.ownsRow base 41 3 v n (cellsE L))
    (b : Addr) (c : Nat) (M : List Ed) (hx : a.eval x = .slice (some b) M.length c) (hr : RdE w (some b) M) (hnm : n + M.length ≤ 100000) (hbase : base ≤ w.heap.size)
    (h : ∀ v' w', w'.ownsRow base 41 3 v' (n + M.length) (cellsE (L ++ M)) → w.grownBy w' v.ownBlock → (v'.ownBlock = v.ownBlock ∨ v'.ownBlock = some w.heap.size) → K (a.put o.dst v') w') : o.wp Try.prog a w K Q := by
  obtain ⟨i0, hi0, hz0, hz1, hz2⟩ := info_partsE infoE
  obtain ⟨v', w', hr, h2, h3, h4, h5⟩ := run_append_own_at (P := Try.prog) w base 22 o.type 41 i0 (.agg #[.int .i64 0, .int .i64 0, .int .i64 0]) 3 24 Try.underlying22 hi0 hz0 hz1 hz2 rfl (by decide) v n (cellsE L) hown b M.length c (cellsE M) (cellsE_len M) (rdE_news hr) (cellsE_one M) (by unfold maxLen; omega) (by omega) hbase
  unfold Oper.wp execOp
  simp only [ho, resolve, invoke, builtin, Sem.run_bind, Sem.run_pure, Result.andThen_ok, List.map_toArray, List.map_cons, List.map_nil, hs, hx, hr]
  exact h v' w' (by rw [cellsE_app]; exact h2) h3 h5
theorem wpList_append_rdE {w : World} {ops : Array Oper} {rest : List Oper} {o : Oper} {a : Act} {Q : Exit → Act → World → Prop} (hgd : o.guard = none) (s x : Operand)
    (ho : o.op = .call { callee := .builtin .append, args := #[s, x], argTypes := #[22, 22] }) (base : Nat) (v : Value) (n : Nat) (L : List Ed) (hs : a.eval s = v) (hown : w.ownsRow base 41 3 v n (cellsE L))
    (ad : Option Addr) (m c : Nat) (M : List Ed) (hx : a.eval x = .slice ad m c) (hm : m = M.length) (hr : RdE w ad M) (hz : ad = none → c = 0 ∧ m = 0) (hnm : n + m ≤ 100000) (hbase : base ≤ w.heap.size)
    (h : ∀ v' w', w'.ownsRow base 41 3 v' (n + m) (cellsE (L ++ M)) → w.grownBy w' v.ownBlock → (v'.ownBlock = v.ownBlock ∨ v'.ownBlock = some w.heap.size) → wpList Try.prog ops Q rest (a.put o.dst v') w') : wpList Try.prog ops Q (o :: rest) a w := by
  obtain ⟨i0, hi0, hz0, hz1, hz2⟩ := info_partsE infoE
  subst hm
  match ad, hr, hz, hx with
  | none, hr, hz, hx =>
    obtain ⟨rfl, h0⟩ := hz rfl
    obtain rfl : M = [] := List.eq_nil_of_length_eq_zero h0
    refine wpList_append_own_none hgd s x 22 ho base 41 i0 3 Try.underlying22 hi0 v n _ hs hown hx (h v w ?_ ⟨rfl, rfl, rfl, Nat.le_refl _, fun _ _ _ => rfl⟩ (.inl rfl))
    simpa using hown
  | some b, hr, hz, hx =>
    have hnews := rdE_news hr
    exact wpList_append_own_at w hgd s x 22 ho base 41 i0 (.agg #[.int .i64 0, .int .i64 0, .int .i64 0]) 3 24 Try.underlying22 hi0 hz0 hz1 hz2 rfl (by decide) v n (cellsE L) hs hown b M.length c (cellsE M) hx (cellsE_len M) hnews (cellsE_one M) (by unfold maxLen; omega) (by omega) hbase
      fun v' w' hown' hg _ hat => h v' w' (by rw [cellsE_app]; exact hown') hg hat

theorem below_app {W w' : World} {base : Nat} {v : Value} (hg : W.grownBy w' v.ownBlock) (hv : ∀ k, v.ownBlock = some k → base ≤ k) (hb : base ≤ W.heap.size) : Below base W w' :=
  ⟨hg.os, hg.tape, hg.output, hg.size, fun k hk => hg.block k (by omega) (fun e => by have := hv k e.symm; omega)⟩
theorem eqNil_t (w : World) : (binOp .eql 22 (.slice none 0 0) (.slice none 0 0)).run Try.prog w = .ok (.bool true) w := by kernel_rfl
theorem eqNil_f (w : World) (b : Addr) (n c : Nat) : (binOp .eql 22 (.slice (some b) n c) (.slice none 0 0)).run Try.prog w = .ok (.bool false) w := by kernel_rfl

set_option maxRecDepth 100000 in
set_option maxHeartbeats 1000000 in
theorem cloneE_any (a : Option Addr) (l : List Ed) (c : Nat) (w : World) (hr : RdE w a l) (hz : a = none → c = 0 ∧ l.length = 0) (hl : l.length ≤ 1000) : Calls Try.prog 41 #[.slice a l.length c] w fun e w' => ∃ v, e = .returned v ∧ w'.ownsRow w.heap.size 41 3 v l.length (cellsE l) ∧ Below w.heap.size w w' := by
  by_cases ha : a = none
  · obtain ⟨rfl, h0⟩ := hz ha
    subst ha
    obtain rfl : l = [] := List.eq_nil_of_length_eq_zero h0
    have hq := eqNil_t w
    go_enter Try.func41, Try.ntmps41
    go_wp2
    go_ret
    exact ⟨_, rfl, World.ownsRow_nil _ _ _ _, (by repeat (first | with_reducible refine blg ?_ _ _ | with_reducible refine bla ?_ _ | with_reducible exact Below.refl _ _))⟩
  · obtain ⟨b, rfl⟩ := Option.ne_none_iff_exists'.1 ha
    obtain ⟨n, hn⟩ : ∃ n, n = l.length := ⟨_, rfl⟩
    rw [← hn] at hl hz ⊢
    have HN := Lib.hid hn
    clear hn ha
    have hq := eqNil_f w b n c
    go_enter Try.func41, Try.ntmps41
    have h0 : (w.alloc (.cells #[] 41)).ownsRow w.heap.size 41 3 (.slice (some ⟨w.heap.size, 0, none⟩) 0 0) 0 (cellsE []) := by
      exact World.ownsRow_lit w #[] 0 (Nat.le_refl _) (by unfold maxLen; omega) rfl
    go_wp2_with (refine wpList_append_rdE rfl _ _ rfl w.heap.size _ 0 [] rfl h0 (some b) n c l rfl HN.out (hr.below (bl1 _ _)) (by simp) (by omega) (by simp) ?_; intro v' w' hown hg hat)
    go_ret
    exact ⟨_, rfl, by simpa using hown, (bl1 w _).trans (below_app (v := .slice (some ⟨w.heap.size, 0, none⟩) 0 0) hg (fun k hk => by cases hk; exact Nat.le_refl _) (by simp))⟩
end Go.Proofs.Ytfaddlpemhifpaa
