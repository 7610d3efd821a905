/- Package octet: what is put is what the document puts. -/
import Derived.Test.YtccgpjhfgmonpaaOct18
namespace Go.Proofs.Ytccgpjhfgmonpaa
open Go.RowKit Go.Sort
set_option linter.unusedVariables false

set_option maxRecDepth 100000 in
set_option maxHeartbeats 2000000 in
theorem octetPuts_law (n m k : Int) (hn : 0 ≤ n ∧ n < 256) (hm : 0 ≤ m ∧ m < 4294967296) (hk : -9223372036854775808 ≤ k ∧ k < 9223372036854775808) (w : World) :
    Calls Try.prog 4 #[.int .u8 n, .int .u32 m, .int .i64 k] w fun e w' => e = .returned (.bool true) ∧ Below w.heap.size w w' := by
  go_enter Try.func4, Try.ntmps4
  go_wp2_with fail
  refine (live_any w).mono ?_
  rintro x W0 ⟨rfl, hb0⟩
  have hB := hb0
  clear hb0
  go_wp2_with fail
  refine (oPut8_any n hn W0).mono ?_
  rintro x W1 ⟨a8, c8, rfl, _, hr1, hb1⟩
  go_wp2_with fail
  refine (rPut8_any n hn W1).mono ?_
  rintro x W2 ⟨b8, d8, rfl, _, hr2, hb2⟩
  go_wp2_with fail
  refine (sameBytes_any _ _ 1 _ _ (bt n) W2 (rd8_below hr1 hb2) hr2 (by decide)).mono ?_
  rintro x W3 ⟨rfl, hb3⟩
  replace hB := hB.trans ((hb1.trans ((hb2.mono hb1.size).trans (hb3.mono (Nat.le_trans hb1.size hb2.size)))).mono hB.size)
  clear hr1 hr2 hb1 hb2 hb3
  go_wp2_with fail
  refine (oPut32_any m hm W3).mono ?_
  rintro x W4 ⟨a32, c32, rfl, _, hr1, hb1⟩
  go_wp2_with fail
  refine (rPut32_any m hm W4).mono ?_
  rintro x W5 ⟨b32, d32, rfl, _, hr2, hb2⟩
  go_wp2_with fail
  refine (sameBytes_any _ _ 4 _ _ (bt m) W5 (rd8_below hr1 hb2) hr2 (by decide)).mono ?_
  rintro x W6 ⟨rfl, hb3⟩
  replace hB := hB.trans ((hb1.trans ((hb2.mono hb1.size).trans (hb3.mono (Nat.le_trans hb1.size hb2.size)))).mono hB.size)
  clear hr1 hr2 hb1 hb2 hb3
  go_wp2_with fail
  refine (oPut64_any k hk W6).mono ?_
  rintro x W7 ⟨a64, c64, rfl, _, hr1, hb1⟩
  go_wp2_with fail
  refine (rPut64_any k hk W7).mono ?_
  rintro x W8 ⟨b64, d64, rfl, _, hr2, hb2⟩
  go_wp2_with fail
  refine (sameBytes_any _ _ 8 _ _ (bt k) W8 (rd8_below hr1 hb2) hr2 (by decide)).mono ?_
  rintro x W9 ⟨rfl, hb3⟩
  replace hB := hB.trans ((hb1.trans ((hb2.mono hb1.size).trans (hb3.mono (Nat.le_trans hb1.size hb2.size)))).mono hB.size)
  clear hr1 hr2 hb1 hb2 hb3
  go_wp2_with fail
  go_ret
  exact ⟨rfl, hB⟩
end Go.Proofs.Ytccgpjhfgmonpaa
