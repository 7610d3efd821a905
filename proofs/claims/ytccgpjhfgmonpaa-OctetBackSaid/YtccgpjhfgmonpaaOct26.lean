/- Package octet: WHAT IS PUT IS READ: the law. -/
import Derived.Test.YtccgpjhfgmonpaaOct25
import Derived.Deep.RegionHeld3
namespace Go.Proofs.Ytccgpjhfgmonpaa
open Go.RowKit Go.Sort
set_option linter.unusedVariables false
theorem row_after {w w' : World} {base n : Nat} {e : TypeId} {v : Value} {xs : List Value} (h : w.ownsRow base e 1 v n xs) (hb : Below w.heap.size w w') : w'.ownsRow base e 1 v n xs := by
  refine h.kept (grownBy_of_below hb none) ?_
  by_cases hv : v.ownBlock = none
  · exact .inl hv
  · exact .inr hv

set_option maxRecDepth 100000 in
set_option maxHeartbeats 2000000 in
theorem octetBack_law (n k : Int) (hn : 0 ≤ n ∧ n < 4294967296) (hk : -9223372036854775808 ≤ k ∧ k < 9223372036854775808) (a b : Option Addr) (p c q d : Nat) (f g : Nat → Int) (w : World)
    (ha : Rd8 w a p f) (hb : Rd8 w b q g) (za : a = none → c = 0 ∧ p = 0) (zb : b = none → d = 0 ∧ q = 0) :
    Calls Try.prog 5 #[.int .u32 n, .int .i64 k, .agg #[.slice a p c, .slice b q d]] w fun e w' => e = .returned (.bool true) ∧ Below w.heap.size w w' := by
  by_cases hp : (1000 : Int) < (p : Int)
  · go_enter Try.func5, Try.ntmps5
    go_wp2_with fail
    refine (live_any _).mono ?_
    rintro x W0 ⟨rfl, hb0⟩
    go_wp2_with fail
    go_ret
    exact ⟨rfl, (bl1 w _).trans (hb0.mono (by simp))⟩
  by_cases hq : (1000 : Int) < (q : Int)
  · go_enter Try.func5, Try.ntmps5
    go_wp2_with fail
    refine (live_any _).mono ?_
    rintro x W0 ⟨rfl, hb0⟩
    go_wp2_with fail
    go_ret
    exact ⟨rfl, (bl1 w _).trans (hb0.mono (by simp))⟩
  have hp' : p ≤ 1000 := by omega
  have hq' : q ≤ 1000 := by omega
  have n8 : 0 ≤ n % 256 ∧ n % 256 < 256 := by omega
  have P32 := Lib.hid (fun W => oPut32_any n hn W)
  have P64 := Lib.hid (fun W => oPut64_any k hk W)
  have P8 := Lib.hid (fun W => oPut8_any (n % 256) n8 W)
  go_enter Try.func5, Try.ntmps5
  have hb0 := bl1 w (.cells #[.slice a p c, .slice b q d] 51)
  have hX0 : CellsAt (w.alloc (.cells #[.slice a p c, .slice b q d] 51)) w.heap.size 51 #[.slice a p c, .slice b q d] := World.alloc_heap_new w _
  have ha0 := rd8_below ha hb0
  have hc0 := rd8_below hb hb0
  clear ha hb
  repeat ((fail_if_success (with_reducible show Code.wp _ (Code.seq (Code.region 3 _ _) _) _ _ _)); go_step)
  have hlX : w.heap.size ≤ w.heap.size := Nat.le_refl _
  obtain ⟨X, hX⟩ : ∃ X, X = w.heap.size := ⟨_, rfl⟩
  have uX := hX0.lt
  simp only [← hX] at hX0 uX hlX ⊢
  have HX := Lib.hid hX
  clear hX
  have hbw : Below w.heap.size w (w.alloc (.cells #[.slice a p c, .slice b q d] 51)) := bl1 w _
  clear hb0
  generalize w.alloc (.cells #[.slice a p c, .slice b q d] 51) = V at hX0 ha0 hc0 hbw uX ⊢
  obtain ⟨B, hB⟩ : ∃ B, B = V.heap.size := ⟨_, rfl⟩
  have e0 : V.cell? ⟨X, 0, none⟩ = some (.slice a p c) := hX0.cell 0
  have e1 : V.cell? ⟨X, 1, none⟩ = some (.slice b q d) := hX0.cell 1
  have hr0 : V.ownsRow B 5 1 (.slice none 0 0) 0 (cellsB f 0) := World.ownsRow_nil V B _ _
  have hB0 : B ≤ V.heap.size := Nat.le_of_eq hB
  have hV0 : Below B V V := (Below.refl _ V).mono hB0
  have uX' : X < B := by omega
  have hwB : w.heap.size ≤ B := by rw [hB]; exact hbw.size
  have HB := Lib.hid hB
  have keepV : ∀ W, Below B V W → V.grownBy W none := fun W h => ⟨h.os, h.tape, h.output, h.size, fun k hk _ => h.block k (by rw [HB.out]; exact hk)⟩
  clear hB
  go_wp2_with (refine wpList_append_rd8 rfl _ _ rfl B (.slice none 0 0) 0 f rfl hr0 a p c f rfl ha0 za (by omega) hB0 ?_; intro v1 W1 hr1 hb1 _)
  have hX1 : CellsAt W1 X 51 #[.slice a p c, .slice b q d] := hX0.kept (hb1.block X uX')
  have hB1 : B ≤ W1.heap.size := Nat.le_trans hB0 hb1.size
  have hV1 := hV0.trans hb1
  clear hr0 hX0 e0 e1
  go_wp2_with fail
  refine (P32.out W1).mono ?_
  rintro x W2 ⟨a2, c2, rfl, _, hs2, hb2⟩
  have hr2 := row_after hr1 hb2
  have hX2 := hX1.below hb2
  have hV2 := hV1.trans (hb2.mono hB1)
  have hB2 := Nat.le_trans hB1 hb2.size
  go_wp2_with (refine wpList_append_rd8 rfl _ _ rfl B v1 (0 + p) _ rfl hr2 a2 4 c2 (bt n) rfl hs2 (fun h => by obtain ⟨_, h1, _⟩ := hs2 0 (by omega); rw [h] at h1; cases h1) (by omega) hB2 ?_; intro v3 W3 hr3 hb3 _)
  have hX3 : CellsAt W3 X 51 #[.slice a p c, .slice b q d] := hX2.kept (hb3.block X uX')
  have hV3 := hV2.trans hb3
  have hB3 := Nat.le_trans hB2 hb3.size
  clear hr1 hr2 hs2 hX1 hX2 hb2 hb3
  go_wp2_with fail
  refine (P64.out W3).mono ?_
  rintro x W4 ⟨a4, c4, rfl, _, hs4, hb4⟩
  have hr4 := row_after hr3 hb4
  have hX4 := hX3.below hb4
  have hV4 := hV3.trans (hb4.mono hB3)
  have hB4 := Nat.le_trans hB3 hb4.size
  go_wp2_with (refine wpList_append_rd8 rfl _ _ rfl B v3 (0 + p + 4) _ rfl hr4 a4 8 c4 (bt k) rfl hs4 (fun h => by obtain ⟨_, h1, _⟩ := hs4 0 (by omega); rw [h] at h1; cases h1) (by omega) hB4 ?_; intro v5 W5 hr5 hb5 _)
  have hX5 : CellsAt W5 X 51 #[.slice a p c, .slice b q d] := hX4.kept (hb5.block X uX')
  have hV5 := hV4.trans hb5
  have hB5 := Nat.le_trans hB4 hb5.size
  clear hr3 hr4 hs4 hX3 hX4 hb4 hb5
  go_wp2_with fail
  refine (P8.out W5).mono ?_
  rintro x W6 ⟨a6, c6, rfl, _, hs6, hb6⟩
  have hr6 := row_after hr5 hb6
  have hX6 := hX5.below hb6
  have hV6 := hV5.trans (hb6.mono hB5)
  have hB6 := Nat.le_trans hB5 hb6.size
  go_wp2_with (first
    | (refine wpList_append_rd8 rfl _ _ rfl B v5 (0 + p + 4 + 8) _ rfl hr6 a6 1 c6 (bt (n % 256)) rfl hs6 (fun h => by obtain ⟨_, h1, _⟩ := hs6 0 (by omega); rw [h] at h1; cases h1) (by omega) hB6 ?_; intro v7 W7 hr7 hb7 _; have hX7 : CellsAt W7 X 51 #[.slice a p c, .slice b q d] := hX6.kept (hb7.block X uX'); have e1 : W7.cell? ⟨X, 1, none⟩ = some (.slice b q d) := hX7.cell 1; have hV7 := hV6.trans hb7; have hB7 := Nat.le_trans hB6 hb7.size; have hc7 := hc0.grown (keepV W7 hV7) (fun _ _ => by simp); clear hr5 hr6 hs6 hX5 hX6 hb6)
    | (refine wpList_append_rd8 rfl _ _ rfl B v7 (0 + p + 4 + 8 + 1) _ rfl hr7 b q d g rfl hc7 zb (by omega) hB7 ?_; intro v8 W8 hr8 hb8 _))
  have hX8 : CellsAt W8 X 51 #[.slice a p c, .slice b q d] := hX7.kept (hb8.block X uX')
  have hV8 := hV7.trans hb8
  have hB8 := Nat.le_trans hB7 hb8.size
  have hfb : ∀ i, i < p → 0 ≤ f i ∧ f i ≤ 255 := fun i hi => by obtain ⟨_, _, _, _, h⟩ := ha0 i hi; exact h
  have hgb : ∀ i, i < q → 0 ≤ g i ∧ g i ≤ 255 := fun i hi => by obtain ⟨_, _, _, _, h⟩ := hc0 i hi; exact h
  have hbd := cat_bd (cat_bd (cat_bd (cat_bd (cat_bd (k := 0) (F := f) (fun i hi => absurd hi (Nat.not_lt_zero i)) hfb) (fun i (_ : i < 4) => bt_bd n i)) (fun i (_ : i < 8) => bt_bd k i)) (fun i (_ : i < 1) => bt_bd (n % 256) i)) hgb
  obtain ⟨A, C, rfl, hAC, hrd, _, _⟩ := row_rd8 hr8 (fun i hi => cellsB_at _ _ _ hi) hbd
  obtain ⟨FF, hFF⟩ : ∃ FF, FF = cat (cat (cat (cat (cat f 0 f) (0 + p) (bt n)) (0 + p + 4) (bt k)) (0 + p + 4 + 8) (bt (n % 256))) (0 + p + 4 + 8 + 1) g := ⟨_, rfl⟩
  have FA : ∀ i, i < p → FF i = f i := fun i hi => by rw [hFF]; simp only [cat]; repeat (first | rw [if_pos (by omega)] | rw [if_neg (by omega)]); congr 1
  have FB : ∀ i, i < 4 → FF (p + i) = bt n i := fun i hi => by rw [hFF]; simp only [cat]; (repeat' split); all_goals (first | (exfalso; omega) | (congr 1; omega))
  have FC : ∀ i, i < 8 → FF (p + 4 + i) = bt k i := fun i hi => by rw [hFF]; simp only [cat]; (repeat' split); all_goals (first | (exfalso; omega) | (congr 1; omega))
  have FD : ∀ i, i < 1 → FF (p + 12 + i) = bt (n % 256) i := fun i hi => by rw [hFF]; simp only [cat]; (repeat' split); all_goals (first | (exfalso; omega) | (congr 1; omega))
  rw [← hFF] at hrd
  clear hFF hbd hr8 hr7
  refine (oOpen_any A _ C FF W8 hrd (by omega) hAC).mono ?_
  rintro x W9 ⟨RR, gg, rfl, hR9, hr9, hgR, lR, _, _, hb9⟩
  have hRX : RR ≠ X := by have := hX8.lt; omega
  have hB9 : Below w.heap.size w W9 := hbw.trans ((hV8.mono hwB).trans (hb9.mono (Nat.le_trans hwB hB8)))
  have hRw : w.heap.size ≤ RR := Nat.le_trans (Nat.le_trans hwB hB8) lR
  have hX9 := hX8.below hb9
  have hV9 := hV8.trans (hb9.mono hB8)
  obtain ⟨T, hT⟩ : ∃ T, T = 0 + p + 4 + 8 + 1 + q := ⟨_, rfl⟩
  rw [← hT] at hR9 hr9
  have hWX : RR ≠ X := hRX
  have k0 : BK w RR gg T X FF a b p c q d f 0 W9 := ⟨hR9, hr9, hX9, rd8_below (ha0.grown (keepV W9 hV9) (fun _ _ => by simp)) (Below.refl _ _), hB9⟩
  obtain ⟨x0, x1⟩ := k0.cells
  have hT1 : T ≤ 100000 := by omega
  have FB' : ∀ i, i < 4 → FF (p + i) = bt n i := FB
  have FC' : ∀ i, i < 8 → FF (p + 4 + i) = bt k i := FC
  have FD' : ∀ i, i < 1 → FF (p + 4 + 8 + i) = bt (n % 256) i := FD
  have C0 := Lib.hid (fun W (h : BK w RR gg T X FF a b p c q d f 0 W) => bkLive h)
  have C1 := Lib.hid (fun W (h : BK w RR gg T X FF a b p c q d f 0 W) => bkTake h hgR (Ne.symm hWX) hRw hT1 (by omega) FA)
  have C2 := Lib.hid (fun W (h : BK w RR gg T X FF a b p c q d f p W) => bkU32 h hgR (Ne.symm hWX) hRw hT1 (by omega) n hn FB')
  have C3 := Lib.hid (fun W (h : BK w RR gg T X FF a b p c q d f (p + 4) W) => bkI64 h hgR (Ne.symm hWX) hRw hT1 (by omega) k hk FC')
  have C4 := Lib.hid (fun W (h : BK w RR gg T X FF a b p c q d f (p + 4 + 8) W) => bkU8 h hgR (Ne.symm hWX) hRw hT1 (by omega) (n % 256) n8 FD')
  have C5 := Lib.hid (fun W (h : BK w RR gg T X FF a b p c q d f (p + 4 + 8 + 1) W) => bkLeft h hT1 (by omega))
  have C6 := Lib.hid (fun W (h : BK w RR gg T X FF a b p c q d f (p + 4 + 8 + 1) W) => bkFault h)
  have C7 := Lib.hid (fun W a' c' (h : BK w RR gg T X FF a b p c q d f p W) (ha : Rd8 W a' p f) => bkSame (c' := c') h ha (by omega))
  have K0 := Lib.hid k0
  have hcv : IntKind.u8.wrap n = n % 256 := by simp [IntKind.wrap, IntKind.bits, IntKind.signed]
  clear k0 FA FB FC FD FB' FC' FD' hT hX9 hV9 hR9 hr9 hb9 hAC lR hgb hfb hX8 hV8 hB8 n8 P32 P64 P8 hbw HX HB keepV ha0 hc0 hc7 hp hq hrd
  clear hB0 hV0 hB1 hV1 hV2 hB2 hV3 hB3 hV4 hB4 hV5 hB5 hV6 hB6 hX7 hV7 hB7 hb8 hb7
  go_wp2_with fail
  go_region_held3 (fun w' => w'.cell? ⟨X, 0, none⟩ = some (.slice a p c) ∧ w'.cell? ⟨X, 1, none⟩ = some (.slice b q d))
    (first | exact ⟨x0, x1⟩ | exact K1.out.cells | exact K2.out.cells | exact K3.out.cells | exact K4.out.cells | exact K5.out.cells | exact K6.out.cells | exact K7.out.cells | exact K8.out.cells)
    (first
      | (go_at_call 7; refine (C0.out _ (K0.out.on (Below.refl _ W9).drew)).mono ?_; rintro x L1 ⟨rfl, h9⟩; have K1 := Lib.hid h9; clear h9)
      | (go_at_call 15; refine (C1.out _ K1.out).mono ?_; rintro x L2 ⟨a', c', rfl, hra, h9⟩; have K2 := Lib.hid h9; have HRA := Lib.hid hra; clear h9 hra)
      | (go_at_call 20; refine (C7.out _ a' c' K2.out HRA.out).mono ?_; rintro x L3 ⟨rfl, h9⟩; have K3 := Lib.hid h9; clear h9)
      | (go_at_call 13; refine (C2.out _ K3.out).mono ?_; rintro x L4 ⟨rfl, h9⟩; have K4 := Lib.hid h9; clear h9)
      | (go_at_call 14; refine (C3.out _ K4.out).mono ?_; rintro x L5 ⟨rfl, h9⟩; have K5 := Lib.hid h9; clear h9)
      | (go_at_call 12; refine (C4.out _ K5.out).mono ?_; rintro x L6 ⟨rfl, h9⟩; have K6 := Lib.hid h9; clear h9)
      | (go_at_call 17; refine (C5.out _ K6.out).mono ?_; rintro x L7 ⟨rfl, h9⟩; have K7 := Lib.hid h9; clear h9)
      | (go_at_call 19; refine (C6.out _ K7.out).mono ?_; rintro x L8 ⟨rfl, h9⟩; have K8 := Lib.hid h9; clear h9))
  go_wp2_with fail
  go_ret
  exact ⟨rfl, K8.out.below⟩
end Go.Proofs.Ytccgpjhfgmonpaa
