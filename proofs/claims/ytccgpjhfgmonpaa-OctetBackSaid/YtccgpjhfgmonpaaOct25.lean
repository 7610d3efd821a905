/- Package octet: what is put is read: the reads, one behind the other. -/
import Derived.Test.YtccgpjhfgmonpaaOct24
import Derived.Test.YtccgpjhfgmonpaaOct18
namespace Go.Proofs.Ytccgpjhfgmonpaa
open Go.RowKit Go.Sort
set_option linter.unusedVariables false
/-- A reader of all the bytes stands at k, all is well; what came in lies as it lay. -/
structure BK (w : World) (RR gg T X : Nat) (FF : Nat → Int) (a b : Option Addr) (p c q d : Nat) (f : Nat → Int) (k : Nat) (W : World) : Prop where
  rd : CellsAt W RR 55 (rdr (.slice (some ⟨gg, 0, none⟩) T T) k 0 0)
  by' : Rd8 W (some ⟨gg, 0, none⟩) T FF
  x : CellsAt W X 51 #[.slice a p c, .slice b q d]
  a' : Rd8 W a p f
  below : Below w.heap.size w W
section
variable {w W W' : World} {RR gg T X : Nat} {FF : Nat → Int} {a b : Option Addr} {p c q d : Nat} {f : Nat → Int} {k k' : Nat}
theorem BK.on (h : BK w RR gg T X FF a b p c q d f k W) (hb : Below W.heap.size W W') : BK w RR gg T X FF a b p c q d f k W' :=
  ⟨h.rd.below hb, rd8_below h.by' hb, h.x.below hb, rd8_below h.a' hb, h.below.trans (hb.mono h.below.size)⟩
theorem BK.turn (h : BK w RR gg T X FF a b p c q d f k W) (hC : CellsAt W' RR 55 (rdr (.slice (some ⟨gg, 0, none⟩) T T) k' 0 0)) (hg : W.grownBy W' (some RR)) (h1 : gg ≠ RR) (h2 : X ≠ RR) (h3 : w.heap.size ≤ RR) : BK w RR gg T X FF a b p c q d f k' W' :=
  ⟨hC, h.by'.grown hg (fun b hb => by cases hb; simp; exact h1), h.x.grown hg (by simp; exact h2), h.a'.apart hg h.rd (fun i x => rdr_no8 _ _ _ _ i x (fun y hy => by cases hy)), h.below.trans (below_of_grownBy hg h.below.size h3)⟩
theorem BK.cells (h : BK w RR gg T X FF a b p c q d f k W) : W.cell? ⟨X, 0, none⟩ = some (.slice a p c) ∧ W.cell? ⟨X, 1, none⟩ = some (.slice b q d) := ⟨h.x.cell 0, h.x.cell 1⟩

theorem bkTake (h : BK w RR gg T X FF a b p c q d f 0 W) (h1 : gg ≠ RR) (h2 : X ≠ RR) (h3 : w.heap.size ≤ RR) (hT : T ≤ 100000) (hpT : p ≤ T) (hF : ∀ i, i < p → FF i = f i) :
    Calls Try.prog 15 #[.pointer (some ⟨RR, 0, none⟩), .int .i64 p] W fun x W' => ∃ a' c', x = .returned (.slice a' p c') ∧ Rd8 W' a' p f ∧ BK w RR gg T X FF a b p c q d f p W' := by
  obtain ⟨g1, g2, g3, g4⟩ := st_ok 0 T 0 (p : Int) (by omega) (by omega)
  refine (oTake_any RR _ T T 0 0 0 p FF W h.rd h.by' (fun b hb => by cases hb; exact h1) (Nat.le_refl _) hT (by omega)).mono ?_
  rintro x W' ⟨a', n', c', rfl, hn, hc, hr, hC, hgr⟩
  rw [g1] at hn
  simp only [if_true, Int.toNat_natCast] at hn
  subst hn
  rw [g2, g3, g4] at hC
  simp only [Int.toNat_natCast, Nat.zero_add] at hC
  refine ⟨a', c', rfl, fun i hi => ?_, h.turn hC hgr h1 h2 h3⟩
  obtain ⟨b, e1, e2, e3, e4⟩ := hr i hi
  dsimp only at e3 e4
  rw [Nat.zero_add, hF i hi] at e3 e4
  exact ⟨b, e1, e2, e3, e4⟩
theorem bkU32 (h : BK w RR gg T X FF a b p c q d f k W) (h1 : gg ≠ RR) (h2 : X ≠ RR) (h3 : w.heap.size ≤ RR) (hT : T ≤ 100000) (hkT : k + 4 ≤ T) (n : Int) (hn : 0 ≤ n ∧ n < 4294967296) (hF : ∀ i, i < 4 → FF (k + i) = bt n i) :
    Calls Try.prog 13 #[.pointer (some ⟨RR, 0, none⟩)] W fun x W' => x = .returned (.int .u32 n) ∧ BK w RR gg T X FF a b p c q d f (k + 4) W' := by
  obtain ⟨g1, g2, g3, g4⟩ := st_ok 0 T k 4 (by omega) (by omega)
  refine (oU32_any RR _ T T k 0 0 FF W h.rd h.by' (fun b hb => by cases hb; exact h1) (Nat.le_refl _) hT (by omega)).mono ?_
  rintro x W' ⟨rfl, hC, hgr⟩
  rw [g2, g3, g4] at hC
  refine ⟨?_, h.turn hC hgr h1 h2 h3⟩
  rw [g1, if_pos rfl, le_congr _ (bt n) 4 hF, le_bt32 n hn]
theorem bkI64 (h : BK w RR gg T X FF a b p c q d f k W) (h1 : gg ≠ RR) (h2 : X ≠ RR) (h3 : w.heap.size ≤ RR) (hT : T ≤ 100000) (hkT : k + 8 ≤ T) (n : Int) (hn : -9223372036854775808 ≤ n ∧ n < 9223372036854775808) (hF : ∀ i, i < 8 → FF (k + i) = bt n i) :
    Calls Try.prog 14 #[.pointer (some ⟨RR, 0, none⟩)] W fun x W' => x = .returned (.int .i64 n) ∧ BK w RR gg T X FF a b p c q d f (k + 8) W' := by
  obtain ⟨g1, g2, g3, g4⟩ := st_ok 0 T k 8 (by omega) (by omega)
  refine (oI64_any RR _ T T k 0 0 FF W h.rd h.by' (fun b hb => by cases hb; exact h1) (Nat.le_refl _) hT (by omega)).mono ?_
  rintro x W' ⟨rfl, hC, hgr⟩
  rw [g2, g3, g4] at hC
  refine ⟨?_, h.turn hC hgr h1 h2 h3⟩
  rw [g1, if_pos rfl, show lw (fun i => FF (k + i)) 8 = lw (bt n) 8 by unfold lw; rw [le_congr _ (bt n) 8 hF], lw_bt64 n hn]
theorem bkU8 (h : BK w RR gg T X FF a b p c q d f k W) (h1 : gg ≠ RR) (h2 : X ≠ RR) (h3 : w.heap.size ≤ RR) (hT : T ≤ 100000) (hkT : k + 1 ≤ T) (n : Int) (hn : 0 ≤ n ∧ n < 256) (hF : ∀ i, i < 1 → FF (k + i) = bt n i) :
    Calls Try.prog 12 #[.pointer (some ⟨RR, 0, none⟩)] W fun x W' => x = .returned (.int .u8 n) ∧ BK w RR gg T X FF a b p c q d f (k + 1) W' := by
  obtain ⟨g1, g2, g3, g4⟩ := st_ok 0 T k 1 (by omega) (by omega)
  refine (oU8_any RR _ T T k 0 0 FF W h.rd h.by' (fun b hb => by cases hb; exact h1) (Nat.le_refl _) hT (by omega)).mono ?_
  rintro x W' ⟨rfl, hC, hgr⟩
  rw [g2, g3, g4] at hC
  refine ⟨?_, h.turn hC hgr h1 h2 h3⟩
  rw [g1, if_pos rfl, le_congr _ (bt n) 1 hF, le_bt8 n hn]
theorem bkLeft (h : BK w RR gg T X FF a b p c q d f k W) (hT : T ≤ 100000) (hkT : k + q = T) :
    Calls Try.prog 17 #[.pointer (some ⟨RR, 0, none⟩)] W fun x W' => x = .returned (.int .i64 q) ∧ BK w RR gg T X FF a b p c q d f k W' := by
  refine (oLeft_any RR _ T T k 0 0 W h.rd hT (by omega)).mono ?_
  rintro x W' ⟨rfl, hb⟩
  refine ⟨?_, h.on hb⟩
  rw [show leftV 0 T k = (q : Int) by unfold leftV; rw [if_pos rfl]; omega]
theorem bkFault (h : BK w RR gg T X FF a b p c q d f k W) :
    Calls Try.prog 19 #[.pointer (some ⟨RR, 0, none⟩)] W fun x W' => x = .returned (.agg #[.int .i64 0, .int .i64 0]) ∧ BK w RR gg T X FF a b p c q d f k W' :=
  (oFault_any RR _ k 0 0 W h.rd).mono fun x W' ⟨h1, h2⟩ => ⟨h1, h.on h2⟩
theorem bkLive (h : BK w RR gg T X FF a b p c q d f k W) :
    Calls Try.prog 7 #[] W fun x W' => x = .returned (.bool true) ∧ BK w RR gg T X FF a b p c q d f k W' :=
  (live_any W).mono fun x W' ⟨h1, h2⟩ => ⟨h1, h.on h2⟩
theorem bkSame (h : BK w RR gg T X FF a b p c q d f k W) {a' : Option Addr} {c' : Nat} (ha : Rd8 W a' p f) (hp : p ≤ 100000) :
    Calls Try.prog 20 #[.slice a' p c', .slice a p c] W fun x W' => x = .returned (.bool true) ∧ BK w RR gg T X FF a b p c q d f k W' :=
  (sameBytes_any a' a p c' c f W ha h.a' hp).mono fun x W' ⟨h1, h2⟩ => ⟨h1, h.on h2⟩
end
end Go.Proofs.Ytccgpjhfgmonpaa
