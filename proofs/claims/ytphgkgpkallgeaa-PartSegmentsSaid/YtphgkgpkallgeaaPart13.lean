/- Package part: the segments have each number once: the walk. -/
import Derived.Test.YtphgkgpkallgeaaPart12
namespace Go.Proofs.Ytphgkgpkallgeaa
open Go.RowKit Go.Shelf Go.Sort
set_option linter.unusedVariables false

theorem rowK {W W' : World} {b base k : Nat} {e : TypeId} {size : Nat} {v : Value} {xs : List Value} (h : W.ownsRow base e size v k xs) :
    ∃ bs cap, v = .slice bs k cap ∧ ∀ (j : Nat) (u : Value), xs[j]? = some u → ∃ g, bs = some ⟨g, 0, none⟩ ∧ base ≤ g ∧ g < W.heap.size ∧ W.cell? ⟨g, j, none⟩ = some u := by
  obtain ⟨hl, ⟨rfl, h0⟩ | ⟨g, cap, cur, rfl, h1, h2, h3, h4, h5, h6⟩⟩ := h
  · refine ⟨none, 0, by rw [h0], fun j u hj => ?_⟩
    have hn : xs = [] := List.length_eq_zero_iff.1 (by rw [hl, h0]; omega)
    rw [hn] at hj; simp at hj
  · refine ⟨_, cap, rfl, fun j u hj => ⟨g, rfl, h1, (Array.getElem?_eq_some_iff.1 h2).1, ?_⟩⟩
    have hj' : j < xs.length := (List.getElem?_eq_some_iff.1 hj).1
    have := World.ownsRow.cellAt ⟨hl, .inr ⟨g, cap, cur, rfl, h1, h2, h3, h4, h5, h6⟩⟩ j (by omega)
    rw [this, hj]

attribute [local irreducible] lowV mayB sizeV mostV placeV rowV colV ofV worksB
set_option maxRecDepth 100000 in
set_option maxHeartbeats 2000000 in
theorem partCuts_any (n r c : Int) (w : World) (n1 : 0 ≤ n) (n2 : n ≤ 65535) (r1 : 0 ≤ r) (r2 : r ≤ 255) (c1 : 0 ≤ c) (c2 : c ≤ 255) :
    Calls Try.prog 6 #[.int .u16 n, .int .u8 r, .int .u8 c] w fun e w' => e = .returned (.bool true) ∧ Below w.heap.size w w' := by
  have hp : mayB (n % 600) (r % 8 + 1) = true := may_t (by omega)
  have hq : mayB (n % 600) (c % 8 + 1) = true := may_t (by omega)
  obtain ⟨m, hm⟩ : ∃ m, m = n % 600 := ⟨_, rfl⟩
  obtain ⟨p, hpd⟩ : ∃ p, p = r % 8 + 1 := ⟨_, rfl⟩
  obtain ⟨q, hqd⟩ : ∃ q, q = c % 8 + 1 := ⟨_, rfl⟩
  have M1 : 0 ≤ m ∧ m < 600 := by omega
  have P1 : 1 ≤ p ∧ p ≤ 8 := by omega
  have Q1 : 1 ≤ q ∧ q ≤ 8 := by omega
  rw [← hm, ← hpd] at hp
  rw [← hm, ← hqd] at hq
  have few := segsV_few m p q hp hq
  have HR := Lib.hid hp
  have HC := Lib.hid hq
  clear hp hq
  go_enter Try.func6, Try.ntmps6
  go_wp2_with fail
  rw [← hm, ← hpd, ← hqd]
  clear hm hpd hqd
  refine (segments_of m p q HR.out HC.out _).mono ?_
  rintro e w1 ⟨v, rfl, hrow, hb⟩
  obtain ⟨bs, cap, rfl, cel⟩ := rowK (W' := w1) (b := 0) hrow
  clear hrow
  obtain ⟨K, hK⟩ : ∃ K, K = (segsV m p q).length := ⟨_, rfl⟩
  rw [← hK] at few ⊢
  have HK := Lib.hid hK
  clear hK
  go_wp2_with fail
  go_loopw [11, 12] (fun y z wr => ∃ (pre : List Seg) (f : Nat) (a : Int), y = .int .i64 a ∧ z = .int .i64 pre.length ∧ 0 ≤ a ∧ a ≤ m ∧ (m - a).toNat ≤ f ∧ pre.length ≤ K ∧ Hid (segsV m p q = pre ++ segs m p q f a) ∧ Below w1.heap.size w1 wr) (fun _ z _ => K - (intOf z).toNat)
  case atStart =>
    exact ⟨[], m.toNat, 0, rfl, rfl, by omega, by omega, by omega, by simp, Lib.hid (by unfold segsV; rw [if_pos ⟨HR.out, HC.out⟩]; rfl), Below.refl _ _⟩
  case round =>
    obtain ⟨pre, f, a, rfl, rfl, ha0, ham, hf, hpl, hS, hB⟩ := hrel
    by_cases hlt : a < m
    · have g1 := of_at m p a HR.out ha0 hlt
      have g2 := of_at m q a HC.out ha0 hlt
      have g3 := next_in m p q a HR.out HC.out ha0 hlt
      obtain ⟨s1, s2⟩ := seg_is m p q a HR.out HC.out ha0 hlt
      obtain ⟨R, hR0⟩ : ∃ R, R = ofV m p a := ⟨_, rfl⟩
      obtain ⟨C, hC0⟩ : ∃ C, C = ofV m q a := ⟨_, rfl⟩
      obtain ⟨T, hT0⟩ : ∃ T, T = nextV m p q a := ⟨_, rfl⟩
      have hS1 : segsV m p q = pre ++ ⟨a, T, R, C⟩ :: segs m p q (f - 1) T := by
        rw [hS.out, show f = (f - 1) + 1 by omega]
        conv => lhs; unfold segs; rw [if_pos hlt]
        rw [hT0, hR0, hC0]; simp
      have hS2 : Hid (segsV m p q = (pre ++ [⟨a, T, R, C⟩]) ++ segs m p q (f - 1) T) := Lib.hid (by rw [hS1]; simp)
      have hKl : pre.length < K := by rw [HK.out, hS1]; simp
      have hat := rowS_at pre ⟨a, T, R, C⟩ (segs m p q (f - 1) T)
      rw [← hS1] at hat
      obtain ⟨x0, x1, x2, x3⟩ := hat
      obtain ⟨g, rfl, _, hg, y0⟩ := cel _ _ x0
      obtain ⟨_, e1, _, _, y1⟩ := cel _ _ x1; cases e1
      obtain ⟨_, e1, _, _, y2⟩ := cel _ _ x2; cases e1
      obtain ⟨_, e1, _, _, y3⟩ := cel _ _ x3; cases e1
      have z0 := (hB.cell (p := ⟨g, pre.length * 4, none⟩) hg).trans y0
      have z1 := (hB.cell (p := ⟨g, pre.length * 4 + 1, none⟩) hg).trans y1
      have z2 := (hB.cell (p := ⟨g, pre.length * 4 + 2, none⟩) hg).trans y2
      have z3 := (hB.cell (p := ⟨g, pre.length * 4 + 3, none⟩) hg).trans y3
      have hk0 : (0 : Int) ≤ (pre.length : Int) := by omega
      have hki : (pre.length : Int) < (K : Int) := by omega
      rw [← hT0, ← hR0] at s1
      rw [← hT0, ← hC0] at s2
      have S1 := Lib.hid s1
      have S2 := Lib.hid s2
      have S3 := Lib.hid hR0
      have S4 := Lib.hid hC0
      rw [← hR0] at g1
      rw [← hC0] at g2
      rw [← hT0] at g3
      clear s1 s2 hR0 hC0 hT0 x0 x1 x2 x3 y0 y1 y2 y3 hS1
      go_wp2_with fail
      have hV : Below w1.heap.size w1 (wr.alloc (.cells #[.int .i64 a, .int .i64 T, .int .i64 R, .int .i64 C] 32)) := hB.alloc hB.size _
      have bX : CellsAt (wr.alloc (.cells #[.int .i64 a, .int .i64 T, .int .i64 R, .int .i64 C] 32)) wr.heap.size 32 #[.int .i64 a, .int .i64 T, .int .i64 R, .int .i64 C] := World.alloc_heap_new wr _
      generalize wr.heap.size = bx at bX ⊢
      generalize wr.alloc (.cells #[.int .i64 a, .int .i64 T, .int .i64 R, .int .i64 C] 32) = V at hV bX ⊢
      have kX : Has V bx := bX.lt
      have x0 : V.cell? ⟨bx, 0, none⟩ = some (.int .i64 a) := bX.cell 0
      have x1 : V.cell? ⟨bx, 1, none⟩ = some (.int .i64 T) := bX.cell 1
      have x2 : V.cell? ⟨bx, 2, none⟩ = some (.int .i64 R) := bX.cell 2
      have x3 : V.cell? ⟨bx, 3, none⟩ = some (.int .i64 C) := bX.cell 3
      have O1 := Lib.hid (show ∀ w : World, Calls Try.prog 15 #[.int .i64 m, .int .i64 p, .int .i64 a] w (fun e w' => e = .returned (.int .i64 R) ∧ Below w.heap.size w w') from fun w => by rw [S3.out]; exact of_any m p a w)
      have O2 := Lib.hid (show ∀ w : World, Calls Try.prog 15 #[.int .i64 m, .int .i64 p, .int .i64 (T - 1)] w (fun e w' => e = .returned (.int .i64 R) ∧ Below w.heap.size w w') from fun w => by rw [← S1.out]; exact of_any m p (T - 1) w)
      have O3 := Lib.hid (show ∀ w : World, Calls Try.prog 15 #[.int .i64 m, .int .i64 q, .int .i64 a] w (fun e w' => e = .returned (.int .i64 C) ∧ Below w.heap.size w w') from fun w => by rw [S4.out]; exact of_any m q a w)
      have O4 := Lib.hid (show ∀ w : World, Calls Try.prog 15 #[.int .i64 m, .int .i64 q, .int .i64 (T - 1)] w (fun e w' => e = .returned (.int .i64 C) ∧ Below w.heap.size w w') from fun w => by rw [← S2.out]; exact of_any m q (T - 1) w)
      have b1 : decide (T ≤ a) = false := by simp; omega
      clear bX z0 z1 z2 z3 S1 S2 S3 S4
      refine wp_region_quiet_below (by kernel_rfl) (by kernel_rfl) ?_
      repeat (go_big_quiet_step (first
        | (go_at_call 15; first | with_reducible exact Calls.regrown_of (O1.out _) | with_reducible exact Calls.regrown_of (O2.out _) | with_reducible exact Calls.regrown_of (O3.out _) | with_reducible exact Calls.regrown_of (O4.out _))))
      refine wpQuiet_nil ?_
      rintro _ ⟨⟨d2, o2⟩, rfl⟩
      have hU : Below w1.heap.size w1 (grow (redrawn V d2) o2) := hV.trans ((below_regrown V d2 o2).mono hV.size)
      go_wp2
      refine ⟨?_, by simp [intOf]; omega⟩
      exact ⟨pre ++ [⟨a, T, R, C⟩], f - 1, T, rfl, by simp, by omega, by omega, by omega, by simp; omega, hS2, hU⟩
    · have ea : a = m := by omega
      have eK : pre.length = K := by
        rw [HK.out, hS.out]
        cases f with
        | zero => simp [segs]
        | succ f => simp [segs, hlt]
      subst ea
      clear hS
      have few' : (K : Int) ≤ p + q - 1 := few
      rw [← eK] at *
      go_wp2_with fail
      refine (live_any _).mono ?_
      rintro e w2 ⟨rfl, hb1⟩; obtain ⟨⟨d1, o1⟩, rfl⟩ := regrown_of_below hb1; clear hb1
      go_wp2
      go_ret
      exact ⟨rfl, blg (hb.trans (hB.mono hb.size)) _ _⟩
end Go.Proofs.Ytphgkgpkallgeaa
