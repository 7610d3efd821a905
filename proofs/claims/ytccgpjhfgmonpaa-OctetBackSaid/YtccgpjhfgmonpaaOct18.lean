/- Package octet: what must be whatever is asked. -/
import Derived.Test.YtccgpjhfgmonpaaOct15
import Derived.Test.YtccgpjhfgmonpaaOct17
namespace Go.Proofs.Ytccgpjhfgmonpaa
open Go.RowKit Go.Sort
set_option linter.unusedVariables false
theorem c258 : #[Value.int .u8 2, Value.int .u8 1, Value.int .u8 0, Value.int .u8 0] = (cellsB (bt 258) 4).toArray := by
  have e : cellsB (bt 258) 4 = [.int .u8 (bt 258 0), .int .u8 (bt 258 1), .int .u8 (bt 258 2), .int .u8 (bt 258 3)] := rfl
  rw [e, show bt 258 0 = 2 by decide, show bt 258 1 = 1 by decide, show bt 258 2 = 0 by decide, show bt 258 3 = 0 by decide]
def lit (l : List Int) (i : Nat) : Int := l.getD i 0
theorem rd8_lit (W : World) (f : Nat → Int) (k : Nat) (cs : Array Value) (h : cs = (cellsB f k).toArray) (hf : ∀ i, i < k → 0 ≤ f i ∧ f i ≤ 255) : Rd8 (W.alloc (.cells cs 5)) (some ⟨W.heap.size, 0, none⟩) k f := by
  subst h
  exact rd8_of_row (World.alloc_heap_new W _) hf

set_option maxRecDepth 100000 in
set_option maxHeartbeats 4000000 in
theorem live_any (w : World) : Calls Try.prog 7 #[] w fun e w' => e = .returned (.bool true) ∧ Below w.heap.size w w' := by
  have P32 := Lib.hid (fun W => oPut32_any 258 (by omega) W)
  have P64 := Lib.hid (fun W => oPut64_any (-1) (by omega) W)
  have P8 := Lib.hid (fun W => oPut8_any 1 (by omega) W)
  go_enter Try.func7, Try.ntmps7
  go_wp2_with fail
  refine (oOpen_any _ 3 3 (lit [2, 1, 0]) _ (rd8_lit w (lit [2, 1, 0]) 3 _ rfl (by decide)) (by decide) (by decide)).mono ?_
  rintro x W1 ⟨R1, g1, rfl, hR1, hr1, hn1, hl1, _, _, hb1⟩
  have hB1 : Below w.heap.size w W1 := (bl1 w _).trans (hb1.mono (by simp))
  have l1 : w.heap.size ≤ R1 := by simp at hl1; omega
  clear hb1 hl1
  go_wp2_with fail
  refine (oU32_any R1 (some ⟨g1, 0, none⟩) 3 3 0 0 0 (lit [2, 1, 0]) W1 hR1 hr1 (fun b hb => by cases hb; exact hn1) (by decide) (by decide) (by decide)).mono ?_
  rintro x W2 ⟨hx, hR2, hg2⟩
  rw [show (if good 0 3 0 4 = true then le (fun i => lit [2, 1, 0] (0 + i)) 4 else 0) = 0 by decide] at hx
  rw [show nP 0 3 0 4 = 0 by decide, show nE 0 3 0 4 = 2 by decide, show nF 0 0 3 0 4 = 3 by decide] at hR2
  subst hx
  have hB2 : Below w.heap.size w W2 := hB1.trans (below_of_grownBy hg2 hB1.size l1)
  have l2 := hR2.lt
  clear hR1 hr1 hg2 hB1
  go_wp2_with fail
  refine (oOpen_any _ 5 5 (lit [2, 1, 0, 0, 9]) _ (rd8_lit W2 (lit [2, 1, 0, 0, 9]) 5 _ rfl (by decide)) (by decide) (by decide)).mono ?_
  rintro x W3 ⟨R2, g2, rfl, hS3, hr3, hn3, hl3, _, _, hb3⟩
  have hb3' : Below W2.heap.size W2 W3 := (bl1 W2 _).trans (hb3.mono (by simp))
  have hR3 := hR2.below hb3'
  have hB3 : Below w.heap.size w W3 := hB2.trans (hb3'.mono hB2.size)
  have l3 : w.heap.size ≤ R2 := by have := hB2.size; simp at hl3; omega
  clear hb3 hb3' hR2 hB2 hl3 l2
  go_wp2_with fail
  refine (oFault_any R1 _ 0 2 3 W3 hR3).mono ?_
  rintro x W4 ⟨rfl, hb4⟩
  have hR4 := hR3.below hb4
  have hS4 := hS3.below hb4
  have hr4 := rd8_below hr3 hb4
  have hB4 := hB3.trans (hb4.mono hB3.size)
  clear hR3 hS3 hr3 hB3 hb4
  go_wp2_with fail
  refine (oAt_any R1 _ 0 2 3 W4 hR4).mono ?_
  rintro x W5 ⟨rfl, hb5⟩
  have hR5 := hR4.below hb5
  have hS5 := hS4.below hb5
  have hr5 := rd8_below hr4 hb5
  have hB5 := hB4.trans (hb5.mono hB4.size)
  clear hR4 hS4 hr4 hB4 hb5
  go_wp2_with fail
  refine (oLeft_any R1 _ 3 3 0 2 3 W5 hR5 (by decide) (by decide)).mono ?_
  rintro x W6 ⟨hx, hb6⟩
  rw [show leftV 2 3 0 = 0 by decide] at hx
  subst hx
  have hS6 := hS5.below hb6
  have hr6 := rd8_below hr5 hb6
  have hB6 := hB5.trans (hb6.mono hB5.size)
  clear hR5 hS5 hr5 hB5 hb6
  go_wp2_with fail
  refine (oU32_any R2 (some ⟨g2, 0, none⟩) 5 5 0 0 0 (lit [2, 1, 0, 0, 9]) W6 hS6 hr6 (fun b hb => by cases hb; exact hn3) (by decide) (by decide) (by decide)).mono ?_
  rintro x W7 ⟨hx, hS7, hg7⟩
  rw [show (if good 0 5 0 4 = true then le (fun i => lit [2, 1, 0, 0, 9] (0 + i)) 4 else 0) = 258 by decide] at hx
  rw [show nP 0 5 0 4 = 4 by decide, show nE 0 5 0 4 = 0 by decide, show nF 0 0 5 0 4 = 0 by decide] at hS7
  subst hx
  have hr7 := hr6.grown hg7 (fun b hb => by cases hb; simp; exact hn3)
  have hB7 : Below w.heap.size w W7 := hB6.trans (below_of_grownBy hg7 hB6.size l3)
  clear hS6 hr6 hB6 hg7
  go_wp2_with fail
  refine (oLeft_any R2 _ 5 5 4 0 0 W7 hS7 (by decide) (by decide)).mono ?_
  rintro x W8 ⟨hx, hb8⟩
  rw [show leftV 0 5 4 = 1 by decide] at hx
  subst hx
  have hS8 := hS7.below hb8
  have hr8 := rd8_below hr7 hb8
  have hB8 := hB7.trans (hb8.mono hB7.size)
  clear hS7 hr7 hB7 hb8
  go_wp2_with fail
  refine (oU8_any R2 (some ⟨g2, 0, none⟩) 5 5 4 0 0 (lit [2, 1, 0, 0, 9]) W8 hS8 hr8 (fun b hb => by cases hb; exact hn3) (by decide) (by decide) (by decide)).mono ?_
  rintro x W9 ⟨hx, hS9, hg9⟩
  rw [show (if good 0 5 4 1 = true then le (fun i => lit [2, 1, 0, 0, 9] (4 + i)) 1 else 0) = 9 by decide] at hx
  rw [show nP 0 5 4 1 = 5 by decide, show nE 0 5 4 1 = 0 by decide, show nF 0 0 5 4 1 = 0 by decide] at hS9
  subst hx
  have hB9 : Below w.heap.size w W9 := hB8.trans (below_of_grownBy hg9 hB8.size l3)
  clear hS8 hr8 hB8 hg9
  go_wp2_with fail
  refine (oEnd_any R2 _ 5 5 5 0 0 W9 hS9).mono ?_
  rintro x Wa ⟨hx, hba⟩
  rw [show endV 0 5 5 = true by decide] at hx
  subst hx
  have hBa := hB9.trans (hba.mono hB9.size)
  clear hS9 hB9 hba
  go_wp2_with fail
  refine (P32.out Wa).mono ?_
  rintro x Wb ⟨a, c, rfl, _, hrb, hbb⟩
  have hBb := hBa.trans (hbb.mono hBa.size)
  clear hBa hbb P32
  go_wp2_with fail
  refine (sameBytes_any _ _ 4 _ _ (bt 258) _ (rd8_below hrb (bl1 Wb _)) (rd8_lit Wb (bt 258) 4 _ c258 (fun i _ => bt_bd _ i)) (by decide)).mono ?_
  rintro x Wc ⟨rfl, hbc⟩
  have hBc : Below w.heap.size w Wc := (hBb.trans ((bl1 Wb _).mono hBb.size)).trans (hbc.mono (by have := hBb.size; simp; omega))
  clear hBb hbc hrb
  go_wp2_with fail
  refine (P64.out Wc).mono ?_
  rintro x Wd ⟨a, c, rfl, _, _, hbd⟩
  have hBd := hBc.trans (hbd.mono hBc.size)
  clear hBc hbd P64
  go_wp2_with fail
  refine (P8.out Wd).mono ?_
  rintro x We ⟨a, c, rfl, _, _, hbe⟩
  have hBe := hBd.trans (hbe.mono hBd.size)
  clear hBd hbe P8
  go_wp2_with fail
  go_ret
  exact ⟨rfl, hBe⟩
end Go.Proofs.Ytccgpjhfgmonpaa
