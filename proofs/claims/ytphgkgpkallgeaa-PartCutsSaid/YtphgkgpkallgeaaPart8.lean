/- Package part: the sequence of segments, ranged over. -/
import Derived.RangeFuncNested
import Derived.RangeFuncBound
import Derived.RangeFuncCalls
import Derived.RangeFuncLeaves
import Derived.Shelf.Abstract
import Derived.Shelf.RegionOpen
import Derived.OwnWalkIn
import Derived.TacticsInMore
import Derived.LoopNIn
import Derived.LoopIn
import Derived.Test.YtphgkgpkallgeaaPart7
import Derived.Test.YtphgkgpkallgeaaTail
namespace Go.Proofs.Ytphgkgpkallgeaa
open Go.RowKit Go.Shelf Go.Sort
set_option linter.unusedVariables false
attribute [local go_sem] Oper.semAt_some

/-- Some blocks lie as they lay. -/
def Mid (lo hi : Nat) (A B : World) : Prop := ∀ k, lo ≤ k → k < hi → B.heap[k]? = A.heap[k]?
theorem Mid.cell {lo hi : Nat} {A B : World} (h : Mid lo hi A B) {b : Nat} (h1 : lo ≤ b) (h2 : b < hi) (i : Nat) : B.cell? ⟨b, i, none⟩ = A.cell? ⟨b, i, none⟩ := by
  simp [World.cell?, h b h1 h2]
theorem has_of_cell {w : World} {b i : Nat} {v : Value} (h : w.cell? ⟨b, i, none⟩ = some v) : Has w b := by
  apply Classical.byContradiction
  intro hn
  rw [Has, Nat.not_lt] at hn
  simp [World.cell?, Array.getElem?_eq_none hn] at h
theorem grownBy_of_below {w w' : World} (h : Below w.heap.size w w') : w.grownBy w' none := ⟨h.os, h.tape, h.output, h.size, fun k hk _ => h.block k hk⟩

set_option maxRecDepth 100000 in
set_option maxHeartbeats 1000000 in
theorem segments1_in (n r c : Int) (hr : mayB n r = true) (hc : mayB n c = true) (l lo hi b1 b2 b3 m B : Nat) (hb1 : lo ≤ b1 ∧ b1 < hi) (hb2 : lo ≤ b2 ∧ b2 < hi) (hb3 : lo ≤ b3 ∧ b3 < hi) (J Jx : List Seg → World → Prop) (hJ : AbidesFrom B J)
    (hY : ∀ pre x W1, J pre W1 → pre.length < n.toNat → YieldAt Fence.wide (m - 1) Try.prog l #[encS x] W1 fun e W' =>
      (e = .returned (.bool true) ∧ J (pre ++ [x]) W' ∧ Mid lo hi W1 W') ∨ (e = .returned (.bool false) ∧ Jx (pre ++ [x]) W'))
    (W : World) (q1 : W.cell? ⟨b1, 0, none⟩ = some (.int .i64 n)) (q2 : W.cell? ⟨b2, 0, none⟩ = some (.int .i64 r)) (q3 : W.cell? ⟨b3, 0, none⟩ = some (.int .i64 c)) (h0 : J [] W) :
    CallsIn Fence.wide m Try.prog 31 #[.func (.yield l) #[] #[], .pointer (some ⟨b1, 0, none⟩), .pointer (some ⟨b2, 0, none⟩), .pointer (some ⟨b3, 0, none⟩)] W fun e W' => (∃ v, e = .returned v) ∧
      ((∃ ys, ys = segsV n r c ∧ J ys W') ∨ (∃ pre, pre <+: segsV n r c ∧ Jx pre W')) := by
  have hmr := may_un hr
  have hmc := may_un hc
  have e0 : segsV n r c = segs n r c n.toNat 0 := by unfold segsV; rw [if_pos ⟨hr, hc⟩]
  have HR := Lib.hid hr
  have HC := Lib.hid hc
  clear hr hc
  refine callsIn_wide.2 ?_
  go_enter Try.func31, Try.ntmps31
  go_wp2_with fail
  go_loopw [5] (fun p wr => ∃ (pre : List Seg) (f : Nat) (a : Int), p = .int .i64 a ∧ 0 ≤ a ∧ a ≤ n ∧ (n - a).toNat ≤ f ∧ pre.length ≤ a.toNat ∧ Hid (segsV n r c = pre ++ segs n r c f a) ∧ wr.cell? ⟨b1, 0, none⟩ = some (.int .i64 n) ∧ wr.cell? ⟨b2, 0, none⟩ = some (.int .i64 r) ∧ wr.cell? ⟨b3, 0, none⟩ = some (.int .i64 c) ∧ J pre wr) (fun p _ => (n - intOf p).toNat)
  case atStart =>
    exact ⟨[], n.toNat, 0, rfl, by omega, by omega, by omega, by simp, Lib.hid (by simpa using e0), q1, q2, q3, h0⟩
  case round =>
    obtain ⟨pre, f, a, rfl, ha0, han, hf, hpl, hS, q1, q2, q3, hJs⟩ := hrel
    by_cases hlt : a < n
    · have g1 := of_at n r a HR.out ha0 hlt
      have g2 := of_at n c a HC.out ha0 hlt
      have g3 := next_in n r c a HR.out HC.out ha0 hlt
      have hS2 : Hid (segsV n r c = (pre ++ [⟨a, nextV n r c a, ofV n r a, ofV n c a⟩]) ++ segs n r c (f - 1) (nextV n r c a)) := Lib.hid (by
        rw [hS.out, show f = (f - 1) + 1 by omega]
        conv => lhs; unfold segs; rw [if_pos hlt]
        simp)
      have k1 := has_of_cell q1
      have k2 := has_of_cell q2
      have k3 := has_of_cell q3
      have HT : Hid (nextV n r c a = min (lowV n r (ofV n r a + 1)) (lowV n c (ofV n c a + 1))) := Lib.hid rfl
      obtain ⟨R, hR0⟩ : ∃ R, R = ofV n r a := ⟨_, rfl⟩
      obtain ⟨C, hC0⟩ : ∃ C, C = ofV n c a := ⟨_, rfl⟩
      obtain ⟨T, hT0⟩ : ∃ T, T = nextV n r c a := ⟨_, rfl⟩
      rw [← hR0] at g1 hS2 HT
      rw [← hC0] at g2 hS2 HT
      rw [← hT0] at g3 hS2 HT
      obtain ⟨U, hU⟩ : ∃ U, U = lowV n r (R + 1) := ⟨_, rfl⟩
      obtain ⟨V, hV⟩ : ∃ V, V = lowV n c (C + 1) := ⟨_, rfl⟩
      rw [← hU, ← hV] at HT
      have OR := Lib.hid (show ∀ w : World, Calls Try.prog 15 #[.int .i64 n, .int .i64 r, .int .i64 a] w (fun e w' => e = .returned (.int .i64 R) ∧ Below w.heap.size w w') from fun w => by rw [hR0]; exact of_any n r a w)
      have OC := Lib.hid (show ∀ w : World, Calls Try.prog 15 #[.int .i64 n, .int .i64 c, .int .i64 a] w (fun e w' => e = .returned (.int .i64 C) ∧ Below w.heap.size w w') from fun w => by rw [hC0]; exact of_any n c a w)
      have LR := Lib.hid (show ∀ w : World, Calls Try.prog 9 #[.int .i64 n, .int .i64 r, .int .i64 (R + 1)] w (fun e w' => e = .returned (.int .i64 U) ∧ Below w.heap.size w w') from fun w => by rw [hU]; exact low_any n r (R + 1) w (by omega) (by omega))
      have LC := Lib.hid (show ∀ w : World, Calls Try.prog 9 #[.int .i64 n, .int .i64 c, .int .i64 (C + 1)] w (fun e w' => e = .returned (.int .i64 V) ∧ Below w.heap.size w w') from fun w => by rw [hV]; exact low_any n c (C + 1) w (by omega) (by omega))
      clear hR0 hC0 hT0 hU hV
      go_wp2_with fail
      refine wp_region_quiet_below (by kernel_rfl) (by kernel_rfl) ?_
      repeat (go_big_quiet_step (first
        | (go_at_call 15; first | with_reducible exact Calls.regrown_of (OR.out _) | with_reducible exact Calls.regrown_of (OC.out _))))
      refine wpQuiet_nil ?_
      rintro _ ⟨⟨d2, o2⟩, rfl⟩
      go_wp2_with fail
      refine wp_region_grown' (by kernel_rfl) (by kernel_rfl) ?_
      repeat (go_big_quiet_step (first
        | (go_at_call 9; first | with_reducible exact Calls.regrown_of (LR.out _) | with_reducible exact Calls.regrown_of (LC.out _))))
      refine wpQuiet_nil ?_
      rintro _ ⟨⟨d3, o3⟩, rfl⟩
      have hb2' : Below wr.heap.size wr (grow (redrawn wr d3) o3) := below_regrown wr d3 o3
      have hJ2 := hJ pre wr _ none hJs (grownBy_of_below hb2') (fun _ h => by cases h)
      have p1 := (hb2'.cell (p := ⟨b1, 0, none⟩) k1).trans q1
      have p2 := (hb2'.cell (p := ⟨b2, 0, none⟩) k2).trans q2
      have p3 := (hb2'.cell (p := ⟨b3, 0, none⟩) k3).trans q3
      generalize grow (redrawn wr d3) o3 = W2 at p1 p2 p3 hJ2 ⊢
      clear hb2' q1 q2 q3 k1 k2 k3 OR OC LR LC
      obtain ⟨fn, tmps, assign, body, hy, hR⟩ := hY pre ⟨a, T, R, C⟩ W2 hJ2 (by omega)
      go_step
      go_step
      refine (wpIn_wide (n := m)).1 ?_
      have hUV : (if V < U then V else U) = T := by rw [HT.out]; omega
      simp only [hUV]
      gi_wp2
      refine ⟨fun h => by simp [Fence.wide] at h, hR.mono ?_⟩
      rintro e W3 (⟨rfl, hJ3, hk3⟩ | ⟨rfl, hJx3⟩)
      · have q1 := (hk3.cell hb1.1 hb1.2 0).trans p1
        have q2 := (hk3.cell hb2.1 hb2.2 0).trans p2
        have q3 := (hk3.cell hb3.1 hb3.2 0).trans p3
        gi_wp2
        refine ⟨?_, by simp [intOf]; omega⟩
        exact ⟨pre ++ [⟨a, T, R, C⟩], f - 1, T, rfl, by omega, by omega, by omega, by simp; omega, hS2, q1, q2, q3, hJ3⟩
      · gi_wp2
        refine bodyPost_ret (results_none rfl _ _ _) rfl ?_
        exact ⟨⟨_, rfl⟩, .inr ⟨pre ++ [⟨a, T, R, C⟩], ⟨segs n r c (f - 1) T, hS2.out.symm⟩, hJx3⟩⟩
    · have eS : segsV n r c = pre := by
        rw [hS.out]
        cases f with
        | zero => simp [segs]
        | succ f => simp [segs, hlt]
      clear e0 hS
      have HS := Lib.hid eS
      clear eS
      go_wp2
      go_end0
      exact ⟨⟨_, rfl⟩, .inl (by rw [HS.out]; exact hJs)⟩
end Go.Proofs.Ytphgkgpkallgeaa
