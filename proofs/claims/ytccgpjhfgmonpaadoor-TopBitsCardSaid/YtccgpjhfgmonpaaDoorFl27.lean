/- Package flags: what two sets come to, all others, and parts: the law. -/
import Derived.Deep.RegionHeld3
import Derived.Test.YtccgpjhfgmonpaaDoorFl26
namespace Go.Proofs.YtccgpjhfgmonpaaDoor
open Go.RowKit Go.Sort
set_option linter.unusedVariables false


set_option maxRecDepth 100000 in
set_option maxHeartbeats 16000000 in
theorem flagsJoin_law (a : Option Addr) (n9 c : Nat) (p : Nat → Bool) (b : Option Addr) (m9 d : Nat) (q : Nat → Bool) (z0 z1 : Int) (w : World) (hr : RdW w a n9 (wd p)) (hT : Tab w) (hc : n9 ≤ c) (hcm : c ≤ 9223372036854775807)
    (hr2 : RdW w b m9 (wd q)) (hd : m9 ≤ d) (hdm : d ≤ 9223372036854775807) (hz0 : -9223372036854775808 ≤ z0 ∧ z0 ≤ 9223372036854775807) (hz1 : -9223372036854775808 ≤ z1 ∧ z1 ≤ 9223372036854775807) :
    Calls Tryd.prog 5 #[.slice a n9 c, .slice b m9 d, .agg #[.int .i64 z0, .int .i64 z1]] w fun e w' => e = .returned (.bool true) ∧ Below w.heap.size w w' := by
  have HCM := Lib.hid hcm
  have HDM := Lib.hid hdm
  have HZ0 := Lib.hid hz0
  have HZ1 := Lib.hid hz1
  have hb0 := bl1 w (.cells #[.int .i64 z0, .int .i64 z1] 37)
  have hS0 : St w a n9 p (w.alloc (.cells #[.int .i64 z0, .int .i64 z1] 37)) := ⟨hr.below hb0, hT.below hb0, hb0⟩
  have hR0 := hr2.below hb0
  have hX0 : CellsAt (w.alloc (.cells #[.int .i64 z0, .int .i64 z1] 37)) w.heap.size 37 #[.int .i64 z0, .int .i64 z1] := World.alloc_heap_new w _
  clear hcm hdm hz0 hz1 hr hr2 hT hb0
  go_enter Tryd.func5, Tryd.ntmps5
  go_wp2_with fail
  refine (few_bl a n9 c _ hc HCM.out).mono ?_
  rintro e W1 ⟨n, hn9, hn8, rfl, hb⟩
  replace hS0 := hS0.on hb
  replace hR0 := hR0.below hb
  replace hX0 := hX0.below hb
  clear hb
  go_wp2_with fail
  refine (few_bl b m9 d _ hd HDM.out).mono ?_
  rintro e W2 ⟨m, hm9, hm8, rfl, hb⟩
  replace hS0 := hS0.on hb
  replace hR0 := hR0.below hb
  replace hX0 := hX0.below hb
  clear hb
  obtain ⟨X, hX⟩ : ∃ X, X = w.heap.size := ⟨_, rfl⟩
  have hx : CellsAt W2 X 37 #[.int .i64 z0, .int .i64 z1] := by rw [hX]; exact hX0
  simp only [← hX]
  have K := Lib.hid (show SJ w X z0 z1 a n p b m q W2 from ⟨⟨hS0.rd.less hn9, hS0.tab, hS0.below⟩, hR0.less hm9, hx⟩)
  have hn : n ≤ 100000 := by omega
  have hm : m ≤ 100000 := by omega
  obtain ⟨NUnion, GUnion, h1, h2, h3⟩ := joinUnion (w := w) (X := X) (z0 := z0) (z1 := z1) (a := a) (n := n) (p := p) (b := b) (m := m) (q := q) c d hn hm
  have CUnion := Lib.hid h2
  have RUnion := Lib.hid h3
  have SUnion := Lib.hid (joinSame (w := w) (X := X) (z0 := z0) (z1 := z1) (a := a) (n := n) (p := p) (b := b) (m := m) (q := q) NUnion GUnion h1)
  clear h1 h2 h3
  obtain ⟨NBoth, GBoth, h1, h2, h3⟩ := joinBoth (w := w) (X := X) (z0 := z0) (z1 := z1) (a := a) (n := n) (p := p) (b := b) (m := m) (q := q) c d hn hm
  have CBoth := Lib.hid h2
  have RBoth := Lib.hid h3
  have SBoth := Lib.hid (joinSame (w := w) (X := X) (z0 := z0) (z1 := z1) (a := a) (n := n) (p := p) (b := b) (m := m) (q := q) NBoth GBoth h1)
  clear h1 h2 h3
  obtain ⟨NMinus, GMinus, h1, h2, h3⟩ := joinMinus (w := w) (X := X) (z0 := z0) (z1 := z1) (a := a) (n := n) (p := p) (b := b) (m := m) (q := q) c d hn hm
  have CMinus := Lib.hid h2
  have RMinus := Lib.hid h3
  have SMinus := Lib.hid (joinSame (w := w) (X := X) (z0 := z0) (z1 := z1) (a := a) (n := n) (p := p) (b := b) (m := m) (q := q) NMinus GMinus h1)
  clear h1 h2 h3
  obtain ⟨NFlip, GFlip, h1, h2, h3⟩ := joinFlip (w := w) (X := X) (z0 := z0) (z1 := z1) (a := a) (n := n) (p := p) (b := b) (m := m) (q := q) c d hn hm
  have CFlip := Lib.hid h2
  have RFlip := Lib.hid h3
  have SFlip := Lib.hid (joinSame (w := w) (X := X) (z0 := z0) (z1 := z1) (a := a) (n := n) (p := p) (b := b) (m := m) (q := q) NFlip GFlip h1)
  clear h1 h2 h3
  obtain ⟨NPart, GPart, h1, h2, h3⟩ := joinPart (w := w) (X := X) (z0 := z0) (z1 := z1) (a := a) (n := n) (p := p) (b := b) (m := m) (q := q) c d hn hm HZ0.out HZ1.out
  have CPart := Lib.hid h2
  have RPart := Lib.hid h3
  have SPart := Lib.hid (joinSame (w := w) (X := X) (z0 := z0) (z1 := z1) (a := a) (n := n) (p := p) (b := b) (m := m) (q := q) NPart GPart h1)
  clear h1 h2 h3
  have CL := Lib.hid (joinLive (w := w) (X := X) (z0 := z0) (z1 := z1) (a := a) (n := n) (p := p) (b := b) (m := m) (q := q))
  clear hS0 hR0 hX0 hX hn9 hm9 hn8 hm8 hx hn hm HCM HDM HZ0 HZ1 hc hd
  go_wp2_with fail
  skip
  go_region_held3 (fun w' => w'.cell? ⟨X, 0, none⟩ = some (.int .i64 z0) ∧ w'.cell? ⟨X, 1, none⟩ = some (.int .i64 z1))
    (first | exact K.out.cells | exact K5.out.cells | exact W4.out.cells | exact U4.out.cells | exact K4.out.cells | exact W3.out.cells | exact U3.out.cells | exact K3.out.cells | exact W2.out.cells | exact U2.out.cells | exact K2.out.cells | exact W1.out.cells | exact U1.out.cells | exact K1.out.cells | exact W0.out.cells | exact U0.out.cells | exact K0.out.cells)
    (first
      | (go_at_call 11; refine (CL.out _ (K.out.on (Below.refl _ W2).drew)).mono ?_; rintro x L1 ⟨rfl, h9⟩; have K0 := Lib.hid h9; clear h9)
      | (go_at_call 33; refine (CUnion.out _ K0.out).mono ?_; rintro x L1 ⟨g0, rfl, h9, h8⟩; have U0 := Lib.hid h9; have V0 := Lib.hid h8; clear h9 h8)
      | (go_at_call 34; refine (RUnion.out _ _ U0.out V0.out).mono ?_; rintro x L1 ⟨a0, c0, rfl, h9, h8, h7⟩; have W0 := Lib.hid h9; have X0 := Lib.hid h8; have Y0 := Lib.hid h7; clear h9 h8 h7 U0 V0)
      | (go_at_call 35; refine (CBoth.out _ K1.out).mono ?_; rintro x L1 ⟨g1, rfl, h9, h8⟩; have U1 := Lib.hid h9; have V1 := Lib.hid h8; clear h9 h8)
      | (go_at_call 36; refine (RBoth.out _ _ U1.out V1.out).mono ?_; rintro x L1 ⟨a1, c1, rfl, h9, h8, h7⟩; have W1 := Lib.hid h9; have X1 := Lib.hid h8; have Y1 := Lib.hid h7; clear h9 h8 h7 U1 V1)
      | (go_at_call 37; refine (CMinus.out _ K2.out).mono ?_; rintro x L1 ⟨g2, rfl, h9, h8⟩; have U2 := Lib.hid h9; have V2 := Lib.hid h8; clear h9 h8)
      | (go_at_call 38; refine (RMinus.out _ _ U2.out V2.out).mono ?_; rintro x L1 ⟨a2, c2, rfl, h9, h8, h7⟩; have W2 := Lib.hid h9; have X2 := Lib.hid h8; have Y2 := Lib.hid h7; clear h9 h8 h7 U2 V2)
      | (go_at_call 39; refine (CFlip.out _ K3.out).mono ?_; rintro x L1 ⟨g3, rfl, h9, h8⟩; have U3 := Lib.hid h9; have V3 := Lib.hid h8; clear h9 h8)
      | (go_at_call 40; refine (RFlip.out _ _ U3.out V3.out).mono ?_; rintro x L1 ⟨a3, c3, rfl, h9, h8, h7⟩; have W3 := Lib.hid h9; have X3 := Lib.hid h8; have Y3 := Lib.hid h7; clear h9 h8 h7 U3 V3)
      | (go_at_call 41; refine (CPart.out _ K4.out).mono ?_; rintro x L1 ⟨g4, rfl, h9, h8⟩; have U4 := Lib.hid h9; have V4 := Lib.hid h8; clear h9 h8)
      | (go_at_call 42; refine (RPart.out _ _ U4.out V4.out).mono ?_; rintro x L1 ⟨a4, c4, rfl, h9, h8, h7⟩; have W4 := Lib.hid h9; have X4 := Lib.hid h8; have Y4 := Lib.hid h7; clear h9 h8 h7 U4 V4)
      | (go_at_call 12; refine (SUnion.out _ _ _ _ _ W0.out X0.out Y0.out).mono ?_; rintro x L1 ⟨rfl, h9⟩; have K1 := Lib.hid h9; clear h9 W0 X0 Y0)
      | (go_at_call 12; refine (SBoth.out _ _ _ _ _ W1.out X1.out Y1.out).mono ?_; rintro x L1 ⟨rfl, h9⟩; have K2 := Lib.hid h9; clear h9 W1 X1 Y1)
      | (go_at_call 12; refine (SMinus.out _ _ _ _ _ W2.out X2.out Y2.out).mono ?_; rintro x L1 ⟨rfl, h9⟩; have K3 := Lib.hid h9; clear h9 W2 X2 Y2)
      | (go_at_call 12; refine (SFlip.out _ _ _ _ _ W3.out X3.out Y3.out).mono ?_; rintro x L1 ⟨rfl, h9⟩; have K4 := Lib.hid h9; clear h9 W3 X3 Y3)
      | (go_at_call 12; refine (SPart.out _ _ _ _ _ W4.out X4.out Y4.out).mono ?_; rintro x L1 ⟨rfl, h9⟩; have K5 := Lib.hid h9; clear h9 W4 X4 Y4))
  go_wp2_with fail
  go_ret
  exact ⟨rfl, K5.out.st.below⟩
end Go.Proofs.YtccgpjhfgmonpaaDoor
