/- Package part: two lists of segments that are the same. -/
import Derived.Test.YtphgkgpkallgeaaPart15
namespace Go.Proofs.Ytphgkgpkallgeaa
open Go.RowKit Go.Shelf Go.Sort
set_option linter.unusedVariables false

set_option maxRecDepth 100000 in
set_option maxHeartbeats 1000000 in
theorem sameSegments_any (l : List Seg) (hl : l.length ≤ 5000) (n1 n2 : Nat) (v1 v2 : Value) (w : World) (h1 : w.ownsRow n1 32 4 v1 l.length (rowS l)) (h2 : w.ownsRow n2 32 4 v2 l.length (rowS l)) :
    Calls Try.prog 23 #[v1, v2] w fun e w' => e = .returned (.bool true) ∧ Below w.heap.size w w' := by
  obtain ⟨bs1, cap1, rfl, cel1⟩ := rowK (W' := w) (b := 0) h1
  obtain ⟨bs2, cap2, rfl, cel2⟩ := rowK (W' := w) (b := 0) h2
  clear h1 h2
  obtain ⟨K, hK⟩ : ∃ K, K = l.length := ⟨_, rfl⟩
  rw [← hK] at hl ⊢
  have HK := Lib.hid hK
  clear hK
  go_enter Try.func23, Try.ntmps23
  go_wp2_with fail
  go_loopw [5] (fun z wr => ∃ (i d : Nat) (os : Array Obj), z = .int .i64 i ∧ i ≤ K ∧ wr = grow (redrawn w d) os) (fun z _ => K - (intOf z).toNat)
  case atStart =>
    exact ⟨0, w.drawn, #[], rfl, by omega, gr_start w⟩
  case round =>
    obtain ⟨i, d, os, rfl, hi, rfl⟩ := hrel
    by_cases hlt : i < K
    · have hll : i < l.length := by rw [← HK.out]; exact hlt
      have hsplit : l = l.take i ++ l[i] :: l.drop (i + 1) := by rw [← List.drop_eq_getElem_cons hll, List.take_append_drop]
      have hat := rowS_at (l.take i) l[i] (l.drop (i + 1))
      rw [← hsplit, List.length_take, Nat.min_eq_left (by omega)] at hat
      obtain ⟨x0, x1, x2, x3⟩ := hat
      generalize l[i] = s at x0 x1 x2 x3
      obtain ⟨g, rfl, _, hg, y0⟩ := cel1 _ _ x0
      obtain ⟨_, e1, _, _, y1⟩ := cel1 _ _ x1; cases e1
      obtain ⟨_, e1, _, _, y2⟩ := cel1 _ _ x2; cases e1
      obtain ⟨_, e1, _, _, y3⟩ := cel1 _ _ x3; cases e1
      obtain ⟨g', rfl, _, hg', z0⟩ := cel2 _ _ x0
      obtain ⟨_, e1, _, _, z1⟩ := cel2 _ _ x1; cases e1
      obtain ⟨_, e1, _, _, z2⟩ := cel2 _ _ x2; cases e1
      obtain ⟨_, e1, _, _, z3⟩ := cel2 _ _ x3; cases e1
      have hk0 : (0 : Int) ≤ (i : Int) := by omega
      have hki : (i : Int) < (K : Int) := by omega
      have k1 : Has w g := hg
      have k2 : Has w g' := hg'
      clear hsplit x0 x1 x2 x3 cel1 cel2 hll
      go_wp2_with fail
      refine wp_region_grown' (by kernel_rfl) (by kernel_rfl) ?_
      repeat (go_big_quiet_step (fail))
      refine wpQuiet_nil ?_
      rintro _ ⟨⟨d2, o2⟩, rfl⟩
      go_wp2
      refine ⟨?_, by simp [intOf]; omega⟩
      exact ⟨i + 1, d2, _, by simp, by omega, rfl⟩
    · have e : i = K := by omega
      subst e
      clear cel1 cel2
      go_wp2
      go_ret
      exact ⟨rfl, (by repeat (first | with_reducible refine blg ?_ _ _ | with_reducible refine bla ?_ _ | with_reducible exact Below.refl _ _))⟩
end Go.Proofs.Ytphgkgpkallgeaa
