/- Package flags: the law of what is made. -/
import Derived.Test.YtccgpjhfgmonpaaDoorFl21
namespace Go.Proofs.YtccgpjhfgmonpaaDoor
open Go.RowKit Go.Sort
set_option linter.unusedVariables false
theorem RdI.less {W : World} {a : Option Addr} {n k : Nat} {F : Nat → Int} (h : RdI W a n F) (hk : k ≤ n) : RdI W a k F := fun i hi => h i (by omega)

set_option maxRecDepth 100000 in
set_option maxHeartbeats 16000000 in
theorem flagsMake_law (a : Option Addr) (n c : Nat) (p : Nat → Bool) (z : Int) (b : Option Addr) (k d : Nat) (G : Nat → Int) (w : World) (hr : RdW w a n (wd p)) (hT : Tab w) (hc : n ≤ c) (hcm : c ≤ 9223372036854775807) (hz0 : a = none → c = 0 ∧ n = 0) (hg : RdI w b k G) (hkd : k ≤ d) (hdm : d ≤ 9223372036854775807) :
    Calls Tryd.prog 3 #[.slice a n c, .int .i64 z, .slice b k d] w fun e w' => e = .returned (.bool true) ∧ Below w.heap.size w w' := by
  have HCM := Lib.hid hcm
  have HZ0 := Lib.hid hz0
  have HDM := Lib.hid hdm
  clear hcm hdm hz0
  by_cases h30 : 30 < k
  · have hki : (30 : Int) < (k : Int) := by omega
    have h30d : (30 : Int) ≤ (d : Int) := by omega
    have h30d' : 30 ≤ d := by omega
    obtain ⟨b0, rfl, hbl, hcell, hx0, hx1⟩ := hg 0 (by omega)
    obtain ⟨x, hx⟩ : ∃ x, x = G 0 := ⟨_, rfl⟩
    rw [← hx] at hcell hx0 hx1
    have HXB := Lib.hid hx1
    have hcell' : w.cell? b0 = some (.int .i64 x) := by simpa [Addr.add] using hcell
    replace hg := hg.less (k := 30) (by omega)
    clear hx hx0 hx1 hcell h30
    go_enter Tryd.func3, Tryd.ntmps3
    go_wp2_with fail
    refine (few_ex a n c w hc HCM.out).mono ?_
    rintro e w0 ⟨m, hmn, hm8, rfl, rfl⟩
    have hS : St w a m p w := ⟨hr.less hmn, hT, Below.refl _ _⟩
    have hmc : m ≤ c := by omega
    have hm : m ≤ 100000 := by omega
    have HZ : Hid (a = none → c = 0 ∧ m = 0) := Lib.hid (fun h => by have := HZ0.out h; omega)
    clear hr hT hmn
    go_wp2_with fail
    have HH := Lib.hid (live_any w hS.tab)
    refine HH.out.mono ?_
    rintro e W1 ⟨rfl, hb⟩
    replace hS := hS.on hb
    replace hg := hg.below hb
    clear hb HH
    go_wp2_with fail
    have HH := Lib.hid (new_any z W1)
    refine HH.out.mono ?_
    rintro e W2 ⟨g1, rfl, _, hC, hb⟩
    replace hS := hS.on hb
    replace hg := hg.below hb
    have hA := rdW_of_cells hC (fun _ _ => by decide)
    clear hC
    clear hb HH
    go_wp2_with fail
    have HH := Lib.hid (rnew_any z W2)
    refine HH.out.mono ?_
    rintro e W3 ⟨g2, rfl, _, hC, hb⟩
    replace hS := hS.on hb
    replace hg := hg.below hb
    replace hA := hA.below hb
    have hB := rdW_of_cells hC (fun _ _ => by decide)
    clear hC
    clear hb HH
    go_wp2_with fail
    have HH := Lib.hid (same_any _ _ _ (nw z) (nw z) _ _ W3 hA hB (fun _ _ => rfl) (by have := nw_le z; omega))
    refine HH.out.mono ?_
    rintro e W4 ⟨rfl, hb⟩
    replace hS := hS.on hb
    replace hg := hg.below hb
    clear hA hB
    clear hb HH
    go_wp2_with fail
    have HH := Lib.hid (of_any z (some b0) 30 d G W4 hg (by omega))
    refine HH.out.mono ?_
    rintro e W5 ⟨g1, rfl, _, hC, hb⟩
    replace hS := hS.on hb
    replace hg := hg.below hb
    have hA := rdW_of_cells hC (fun i _ => wd_lt _ i)
    clear hC
    clear hb HH
    go_wp2_with fail
    have HH := Lib.hid (rof_any z (some b0) 30 d G W5 hg (by omega))
    refine HH.out.mono ?_
    rintro e W6 ⟨a2, c2, rfl, hO, hb⟩
    replace hS := hS.on hb
    replace hg := hg.below hb
    replace hA := hA.below hb
    clear hb HH
    go_wp2_with fail
    have HH := Lib.hid (sameW_ow hA hO (by have := nw_le z; omega) (fun _ _ => rfl))
    refine HH.out.mono ?_
    rintro e W7 ⟨rfl, hb⟩
    replace hS := hS.on hb
    replace hg := hg.below hb
    clear hA hO
    clear hb HH
    go_wp2_with fail
    have HH := Lib.hid (right_any a m c p z W7 hS.rd hS.tab hm hmc)
    refine HH.out.mono ?_
    rintro e W8 ⟨rfl, hb⟩
    replace hS := hS.on hb
    replace hg := hg.below hb
    clear hb HH
    go_wp2_with fail
    have HH := Lib.hid (rright_any a m c p z W8 hS.rd hm)
    refine HH.out.mono ?_
    rintro e W9 ⟨rfl, hb⟩
    replace hS := hS.on hb
    replace hg := hg.below hb
    clear hb HH
    go_wp2_with fail
    have HH := Lib.hid (has_any a m c p x W9 hS.rd hm HXB.out)
    refine HH.out.mono ?_
    rintro e W10 ⟨rfl, hb⟩
    replace hS := hS.on hb
    replace hg := hg.below hb
    clear hb HH
    go_wp2_with fail
    have HH := Lib.hid (calls_below (rhas_any a m c p x W10 hS.rd hm HXB.out))
    refine HH.out.mono ?_
    rintro e W11 ⟨rfl, hb⟩
    replace hS := hS.on hb
    replace hg := hg.below hb
    clear hb HH
    go_wp2_with fail
    have HH := Lib.hid (put_any a m c p x W11 hS.rd hm hmc HXB.out)
    refine HH.out.mono ?_
    rintro e W12 ⟨g1, rfl, _, hC, hb⟩
    replace hS := hS.on hb
    replace hg := hg.below hb
    have hA := rdW_of_cells hC (fun i _ => wd_lt _ i)
    clear hC
    clear hb HH
    go_wp2_with fail
    have HH := Lib.hid (rput_any a m c p x W12 hS.rd HZ.out hm HXB.out)
    refine HH.out.mono ?_
    rintro e W13 ⟨a2, c2, rfl, hO, hb⟩
    replace hS := hS.on hb
    replace hg := hg.below hb
    replace hA := hA.below hb
    clear hb HH
    go_wp2_with fail
    have HH := Lib.hid (sameW_ow hA hO hm (fun _ _ => rfl))
    refine HH.out.mono ?_
    rintro e W14 ⟨rfl, hb⟩
    replace hS := hS.on hb
    replace hg := hg.below hb
    clear hA hO
    clear hb HH
    go_wp2_with fail
    have HH := Lib.hid (drop_any a m c p x W14 hS.rd hm hmc HXB.out)
    refine HH.out.mono ?_
    rintro e W15 ⟨g1, rfl, _, hC, hb⟩
    replace hS := hS.on hb
    replace hg := hg.below hb
    have hA := rdW_of_cells hC (fun i _ => wd_lt _ i)
    clear hC
    clear hb HH
    go_wp2_with fail
    have HH := Lib.hid (rdrop_any a m c p x W15 hS.rd HZ.out hm HXB.out)
    refine HH.out.mono ?_
    rintro e W16 ⟨a2, c2, rfl, hO, hb⟩
    replace hS := hS.on hb
    replace hg := hg.below hb
    replace hA := hA.below hb
    clear hb HH
    go_wp2_with fail
    have HH := Lib.hid (sameW_ow hA hO hm (fun _ _ => rfl))
    refine HH.out.mono ?_
    rintro e W17 ⟨rfl, hb⟩
    replace hS := hS.on hb
    replace hg := hg.below hb
    clear hA hO
    clear hb HH
    go_wp2_with fail
    go_ret
    exact ⟨rfl, hS.below⟩
  · have hki : ¬ (30 : Int) < (k : Int) := by omega
    by_cases h0 : 0 < k
    · have hk0 : (0 : Int) < (k : Int) := by omega
      obtain ⟨b0, rfl, hbl, hcell, hx0, hx1⟩ := hg 0 (by omega)
      obtain ⟨x, hx⟩ : ∃ x, x = G 0 := ⟨_, rfl⟩
      rw [← hx] at hcell hx0 hx1
      have HXB := Lib.hid hx1
      have hcell' : w.cell? b0 = some (.int .i64 x) := by simpa [Addr.add] using hcell
      have hk30 : k ≤ 30 := by omega
      clear hx hx0 hx1 hcell h30
      go_enter Tryd.func3, Tryd.ntmps3
      go_wp2_with fail
      refine (few_ex a n c w hc HCM.out).mono ?_
      rintro e w0 ⟨m, hmn, hm8, rfl, rfl⟩
      have hS : St w a m p w := ⟨hr.less hmn, hT, Below.refl _ _⟩
      have hmc : m ≤ c := by omega
      have hm : m ≤ 100000 := by omega
      have HZ : Hid (a = none → c = 0 ∧ m = 0) := Lib.hid (fun h => by have := HZ0.out h; omega)
      clear hr hT hmn
      go_wp2_with fail
      have HH := Lib.hid (live_any w hS.tab)
      refine HH.out.mono ?_
      rintro e W1 ⟨rfl, hb⟩
      replace hS := hS.on hb
      replace hg := hg.below hb
      clear hb HH
      go_wp2_with fail
      have HH := Lib.hid (new_any z W1)
      refine HH.out.mono ?_
      rintro e W2 ⟨g1, rfl, _, hC, hb⟩
      replace hS := hS.on hb
      replace hg := hg.below hb
      have hA := rdW_of_cells hC (fun _ _ => by decide)
      clear hC
      clear hb HH
      go_wp2_with fail
      have HH := Lib.hid (rnew_any z W2)
      refine HH.out.mono ?_
      rintro e W3 ⟨g2, rfl, _, hC, hb⟩
      replace hS := hS.on hb
      replace hg := hg.below hb
      replace hA := hA.below hb
      have hB := rdW_of_cells hC (fun _ _ => by decide)
      clear hC
      clear hb HH
      go_wp2_with fail
      have HH := Lib.hid (same_any _ _ _ (nw z) (nw z) _ _ W3 hA hB (fun _ _ => rfl) (by have := nw_le z; omega))
      refine HH.out.mono ?_
      rintro e W4 ⟨rfl, hb⟩
      replace hS := hS.on hb
      replace hg := hg.below hb
      clear hA hB
      clear hb HH
      go_wp2_with fail
      have HH := Lib.hid (of_any z (some b0) k d G W4 hg (by omega))
      refine HH.out.mono ?_
      rintro e W5 ⟨g1, rfl, _, hC, hb⟩
      replace hS := hS.on hb
      replace hg := hg.below hb
      have hA := rdW_of_cells hC (fun i _ => wd_lt _ i)
      clear hC
      clear hb HH
      go_wp2_with fail
      have HH := Lib.hid (rof_any z (some b0) k d G W5 hg (by omega))
      refine HH.out.mono ?_
      rintro e W6 ⟨a2, c2, rfl, hO, hb⟩
      replace hS := hS.on hb
      replace hg := hg.below hb
      replace hA := hA.below hb
      clear hb HH
      go_wp2_with fail
      have HH := Lib.hid (sameW_ow hA hO (by have := nw_le z; omega) (fun _ _ => rfl))
      refine HH.out.mono ?_
      rintro e W7 ⟨rfl, hb⟩
      replace hS := hS.on hb
      replace hg := hg.below hb
      clear hA hO
      clear hb HH
      go_wp2_with fail
      have HH := Lib.hid (right_any a m c p z W7 hS.rd hS.tab hm hmc)
      refine HH.out.mono ?_
      rintro e W8 ⟨rfl, hb⟩
      replace hS := hS.on hb
      replace hg := hg.below hb
      clear hb HH
      go_wp2_with fail
      have HH := Lib.hid (rright_any a m c p z W8 hS.rd hm)
      refine HH.out.mono ?_
      rintro e W9 ⟨rfl, hb⟩
      replace hS := hS.on hb
      replace hg := hg.below hb
      clear hb HH
      go_wp2_with fail
      have HH := Lib.hid (has_any a m c p x W9 hS.rd hm HXB.out)
      refine HH.out.mono ?_
      rintro e W10 ⟨rfl, hb⟩
      replace hS := hS.on hb
      replace hg := hg.below hb
      clear hb HH
      go_wp2_with fail
      have HH := Lib.hid (calls_below (rhas_any a m c p x W10 hS.rd hm HXB.out))
      refine HH.out.mono ?_
      rintro e W11 ⟨rfl, hb⟩
      replace hS := hS.on hb
      replace hg := hg.below hb
      clear hb HH
      go_wp2_with fail
      have HH := Lib.hid (put_any a m c p x W11 hS.rd hm hmc HXB.out)
      refine HH.out.mono ?_
      rintro e W12 ⟨g1, rfl, _, hC, hb⟩
      replace hS := hS.on hb
      replace hg := hg.below hb
      have hA := rdW_of_cells hC (fun i _ => wd_lt _ i)
      clear hC
      clear hb HH
      go_wp2_with fail
      have HH := Lib.hid (rput_any a m c p x W12 hS.rd HZ.out hm HXB.out)
      refine HH.out.mono ?_
      rintro e W13 ⟨a2, c2, rfl, hO, hb⟩
      replace hS := hS.on hb
      replace hg := hg.below hb
      replace hA := hA.below hb
      clear hb HH
      go_wp2_with fail
      have HH := Lib.hid (sameW_ow hA hO hm (fun _ _ => rfl))
      refine HH.out.mono ?_
      rintro e W14 ⟨rfl, hb⟩
      replace hS := hS.on hb
      replace hg := hg.below hb
      clear hA hO
      clear hb HH
      go_wp2_with fail
      have HH := Lib.hid (drop_any a m c p x W14 hS.rd hm hmc HXB.out)
      refine HH.out.mono ?_
      rintro e W15 ⟨g1, rfl, _, hC, hb⟩
      replace hS := hS.on hb
      replace hg := hg.below hb
      have hA := rdW_of_cells hC (fun i _ => wd_lt _ i)
      clear hC
      clear hb HH
      go_wp2_with fail
      have HH := Lib.hid (rdrop_any a m c p x W15 hS.rd HZ.out hm HXB.out)
      refine HH.out.mono ?_
      rintro e W16 ⟨a2, c2, rfl, hO, hb⟩
      replace hS := hS.on hb
      replace hg := hg.below hb
      replace hA := hA.below hb
      clear hb HH
      go_wp2_with fail
      have HH := Lib.hid (sameW_ow hA hO hm (fun _ _ => rfl))
      refine HH.out.mono ?_
      rintro e W17 ⟨rfl, hb⟩
      replace hS := hS.on hb
      replace hg := hg.below hb
      clear hA hO
      clear hb HH
      go_wp2_with fail
      go_ret
      exact ⟨rfl, hS.below⟩
    · obtain rfl : k = 0 := by omega
      have HXB := Lib.hid (show (0 : Int) ≤ 9223372036854775807 by decide)
      clear hki h30 h0
      go_enter Tryd.func3, Tryd.ntmps3
      go_wp2_with fail
      refine (few_ex a n c w hc HCM.out).mono ?_
      rintro e w0 ⟨m, hmn, hm8, rfl, rfl⟩
      have hS : St w a m p w := ⟨hr.less hmn, hT, Below.refl _ _⟩
      have hmc : m ≤ c := by omega
      have hm : m ≤ 100000 := by omega
      have HZ : Hid (a = none → c = 0 ∧ m = 0) := Lib.hid (fun h => by have := HZ0.out h; omega)
      clear hr hT hmn
      go_wp2_with fail
      have HH := Lib.hid (live_any w hS.tab)
      refine HH.out.mono ?_
      rintro e W1 ⟨rfl, hb⟩
      replace hS := hS.on hb
      replace hg := hg.below hb
      clear hb HH
      go_wp2_with fail
      have HH := Lib.hid (new_any z W1)
      refine HH.out.mono ?_
      rintro e W2 ⟨g1, rfl, _, hC, hb⟩
      replace hS := hS.on hb
      replace hg := hg.below hb
      have hA := rdW_of_cells hC (fun _ _ => by decide)
      clear hC
      clear hb HH
      go_wp2_with fail
      have HH := Lib.hid (rnew_any z W2)
      refine HH.out.mono ?_
      rintro e W3 ⟨g2, rfl, _, hC, hb⟩
      replace hS := hS.on hb
      replace hg := hg.below hb
      replace hA := hA.below hb
      have hB := rdW_of_cells hC (fun _ _ => by decide)
      clear hC
      clear hb HH
      go_wp2_with fail
      have HH := Lib.hid (same_any _ _ _ (nw z) (nw z) _ _ W3 hA hB (fun _ _ => rfl) (by have := nw_le z; omega))
      refine HH.out.mono ?_
      rintro e W4 ⟨rfl, hb⟩
      replace hS := hS.on hb
      replace hg := hg.below hb
      clear hA hB
      clear hb HH
      go_wp2_with fail
      have HH := Lib.hid (of_any z b 0 d G W4 hg (by omega))
      refine HH.out.mono ?_
      rintro e W5 ⟨g1, rfl, _, hC, hb⟩
      replace hS := hS.on hb
      replace hg := hg.below hb
      have hA := rdW_of_cells hC (fun i _ => wd_lt _ i)
      clear hC
      clear hb HH
      go_wp2_with fail
      have HH := Lib.hid (rof_any z b 0 d G W5 hg (by omega))
      refine HH.out.mono ?_
      rintro e W6 ⟨a2, c2, rfl, hO, hb⟩
      replace hS := hS.on hb
      replace hg := hg.below hb
      replace hA := hA.below hb
      clear hb HH
      go_wp2_with fail
      have HH := Lib.hid (sameW_ow hA hO (by have := nw_le z; omega) (fun _ _ => rfl))
      refine HH.out.mono ?_
      rintro e W7 ⟨rfl, hb⟩
      replace hS := hS.on hb
      replace hg := hg.below hb
      clear hA hO
      clear hb HH
      go_wp2_with fail
      have HH := Lib.hid (right_any a m c p z W7 hS.rd hS.tab hm hmc)
      refine HH.out.mono ?_
      rintro e W8 ⟨rfl, hb⟩
      replace hS := hS.on hb
      replace hg := hg.below hb
      clear hb HH
      go_wp2_with fail
      have HH := Lib.hid (rright_any a m c p z W8 hS.rd hm)
      refine HH.out.mono ?_
      rintro e W9 ⟨rfl, hb⟩
      replace hS := hS.on hb
      replace hg := hg.below hb
      clear hb HH
      go_wp2_with fail
      have HH := Lib.hid (has_any a m c p 0 W9 hS.rd hm HXB.out)
      refine HH.out.mono ?_
      rintro e W10 ⟨rfl, hb⟩
      replace hS := hS.on hb
      replace hg := hg.below hb
      clear hb HH
      go_wp2_with fail
      have HH := Lib.hid (calls_below (rhas_any a m c p 0 W10 hS.rd hm HXB.out))
      refine HH.out.mono ?_
      rintro e W11 ⟨rfl, hb⟩
      replace hS := hS.on hb
      replace hg := hg.below hb
      clear hb HH
      go_wp2_with fail
      have HH := Lib.hid (put_any a m c p 0 W11 hS.rd hm hmc HXB.out)
      refine HH.out.mono ?_
      rintro e W12 ⟨g1, rfl, _, hC, hb⟩
      replace hS := hS.on hb
      replace hg := hg.below hb
      have hA := rdW_of_cells hC (fun i _ => wd_lt _ i)
      clear hC
      clear hb HH
      go_wp2_with fail
      have HH := Lib.hid (rput_any a m c p 0 W12 hS.rd HZ.out hm HXB.out)
      refine HH.out.mono ?_
      rintro e W13 ⟨a2, c2, rfl, hO, hb⟩
      replace hS := hS.on hb
      replace hg := hg.below hb
      replace hA := hA.below hb
      clear hb HH
      go_wp2_with fail
      have HH := Lib.hid (sameW_ow hA hO hm (fun _ _ => rfl))
      refine HH.out.mono ?_
      rintro e W14 ⟨rfl, hb⟩
      replace hS := hS.on hb
      replace hg := hg.below hb
      clear hA hO
      clear hb HH
      go_wp2_with fail
      have HH := Lib.hid (drop_any a m c p 0 W14 hS.rd hm hmc HXB.out)
      refine HH.out.mono ?_
      rintro e W15 ⟨g1, rfl, _, hC, hb⟩
      replace hS := hS.on hb
      replace hg := hg.below hb
      have hA := rdW_of_cells hC (fun i _ => wd_lt _ i)
      clear hC
      clear hb HH
      go_wp2_with fail
      have HH := Lib.hid (rdrop_any a m c p 0 W15 hS.rd HZ.out hm HXB.out)
      refine HH.out.mono ?_
      rintro e W16 ⟨a2, c2, rfl, hO, hb⟩
      replace hS := hS.on hb
      replace hg := hg.below hb
      replace hA := hA.below hb
      clear hb HH
      go_wp2_with fail
      have HH := Lib.hid (sameW_ow hA hO hm (fun _ _ => rfl))
      refine HH.out.mono ?_
      rintro e W17 ⟨rfl, hb⟩
      replace hS := hS.on hb
      replace hg := hg.below hb
      clear hA hO
      clear hb HH
      go_wp2_with fail
      go_ret
      exact ⟨rfl, hS.below⟩
end Go.Proofs.YtccgpjhfgmonpaaDoor
