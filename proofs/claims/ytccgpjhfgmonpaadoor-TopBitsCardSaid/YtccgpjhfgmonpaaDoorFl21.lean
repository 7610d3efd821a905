/- Package flags: the laws. -/
import Derived.Test.YtccgpjhfgmonpaaDoorFl20
namespace Go.Proofs.YtccgpjhfgmonpaaDoor
open Go.RowKit Go.Sort
set_option linter.unusedVariables false

theorem few_ex (a : Option Addr) (n c : Nat) (w : World) (hc : n ≤ c) (hm : c ≤ 9223372036854775807) :
    Calls Tryd.prog 10 #[.slice a n c] w fun e w' => ∃ m, m ≤ n ∧ m ≤ 8 ∧ e = .returned (.slice a m c) ∧ w = w' :=
  (few_any a n c w hc hm).mono fun e w' ⟨h1, h2⟩ => ⟨min n 8, by omega, by omega, h1, h2⟩
theorem sameW_ow {base : Nat} {W : World} {g n : Nat} {b : Option Addr} {d : Nat} {F G : Nat → Nat} (h1 : RdW W (some ⟨g, 0, none⟩) n F) (h2 : OwW base W b n d G) (hn : n ≤ 100000) (h : ∀ i, i < n → F i = G i) :
    Calls Tryd.prog 12 #[.slice (some ⟨g, 0, none⟩) n n, .slice b n d] W fun e w' => e = .returned (.bool true) ∧ Below W.heap.size W w' :=
  same_any _ _ _ _ _ _ _ _ h1 h2.rd h hn

set_option maxRecDepth 100000 in
set_option maxHeartbeats 8000000 in
theorem flagsAsk_law (a : Option Addr) (n c : Nat) (p : Nat → Bool) (x : Int) (w : World) (hr : RdW w a n (wd p)) (hT : Tab w) (hc : n ≤ c) (hcm : c ≤ 9223372036854775807) (hx : x ≤ 9223372036854775807) :
    Calls Tryd.prog 4 #[.slice a n c, .int .i64 x] w fun e w' => e = .returned (.bool true) ∧ Below w.heap.size w w' := by
  have HX := Lib.hid hx
  have HCM := Lib.hid hcm
  clear hx hcm
  go_enter Tryd.func4, Tryd.ntmps4
  go_wp2_with fail
  refine (few_ex a n c w hc HCM.out).mono ?_
  rintro e w0 ⟨m, hmn, hm8, rfl, rfl⟩
  have hS : St w a m p w := ⟨hr.less hmn, hT, Below.refl _ _⟩
  have hmc : m ≤ c := by omega
  have hm : m ≤ 100000 := by omega
  clear hr hT hmn
  go_wp2_with fail
  have HH := Lib.hid (rlist_any a m c p w hS.rd hm)
  refine HH.out.mono ?_
  rintro e W1 ⟨a3, c3, rfl, _, hI, _, hb⟩
  replace hS := hS.on hb
  clear hb HH
  go_wp2_with fail
  have HH := Lib.hid (live_any W1 hS.tab)
  refine HH.out.mono ?_
  rintro e W2 ⟨rfl, hb⟩
  replace hS := hS.on hb
  replace hI := hI.below hb
  clear hb HH
  go_wp2_with fail
  have HH := Lib.hid (calls_below (count_any a m c p W2 hS.rd hm))
  refine HH.out.mono ?_
  rintro e W3 ⟨rfl, hb⟩
  replace hS := hS.on hb
  replace hI := hI.below hb
  clear hb HH
  go_wp2_with fail
  have HH := Lib.hid (rank_any a m c p x W3 hS.rd hm hmc HX.out)
  refine HH.out.mono ?_
  rintro e W4 ⟨rfl, hb⟩
  replace hS := hS.on hb
  replace hI := hI.below hb
  clear hb HH
  go_wp2_with fail
  have HH := Lib.hid (rrank_any a m c p x W4 hS.rd hm)
  refine HH.out.mono ?_
  rintro e W5 ⟨rfl, hb⟩
  replace hS := hS.on hb
  replace hI := hI.below hb
  clear hb HH
  go_wp2_with fail
  have HH := Lib.hid (next_any a m c p x W5 hS.rd hS.tab hm hmc HX.out)
  refine HH.out.mono ?_
  rintro e W6 ⟨rfl, hb⟩
  replace hS := hS.on hb
  replace hI := hI.below hb
  clear hb HH
  go_wp2_with fail
  have HH := Lib.hid (rnext_any a m c p x W6 hS.rd hm)
  refine HH.out.mono ?_
  rintro e W7 ⟨rfl, hb⟩
  replace hS := hS.on hb
  replace hI := hI.below hb
  clear hb HH
  go_wp2_with fail
  have HH := Lib.hid (list_any a m c p W7 hS.rd hS.tab hm)
  refine HH.out.mono ?_
  rintro e W8 ⟨a4, c4, rfl, _, hJ, _, hb⟩
  replace hS := hS.on hb
  replace hI := hI.below hb
  clear hb HH
  go_wp2_with fail
  have HH := Lib.hid (sameI_any a4 a3 _ c4 c3 _ _ W8 hJ hI (fun _ _ => rfl) (by have := cnt_le p (64 * m); omega))
  refine HH.out.mono ?_
  rintro e W9 ⟨rfl, hb⟩
  replace hS := hS.on hb
  replace hI := hI.below hb
  clear hb HH
  go_wp2_with fail
  go_ret
  exact ⟨rfl, hS.below⟩
end Go.Proofs.YtccgpjhfgmonpaaDoor
