/- Package flags: the places of a set, ranged over. -/
import Derived.RangeFuncNested
import Derived.RangeFuncBound
import Derived.RangeFuncCalls
import Derived.RangeFuncLeaves
import Derived.Shelf.Abstract
import Derived.Shelf.RegionOpen
import Derived.OwnWalkIn
import Derived.TacticsInMore
import Derived.LoopNIn
import Derived.LoopIn
import Derived.Test.YtccgpjhfgmonpaaDoorFl8
import Derived.Test.YtccgpjhfgmonpaaDoorFlMath3
namespace Go.Proofs.YtccgpjhfgmonpaaDoor
open Go.RowKit Go.Shelf Go.Sort
set_option linter.unusedVariables false
attribute [local go_sem] Oper.semAt_some

theorem pl_prefix (p : Nat → Bool) {a : Nat} : ∀ {b : Nat}, a ≤ b → pl p a <+: pl p b
  | 0, h => by rw [show a = 0 by omega]; exact List.prefix_rfl
  | b + 1, h => by
    by_cases e : a = b + 1
    · rw [e]; exact List.prefix_rfl
    · exact (pl_prefix p (show a ≤ b by omega)).trans (by rw [pl_succ]; exact List.prefix_append _ _)

set_option maxRecDepth 100000 in
set_option maxHeartbeats 2000000 in
theorem places1_in (w0 : World) (a : Option Addr) (n c : Nat) (p : Nat → Bool) (hr : RdW w0 a n (wd p)) (hT : Tab w0) (hn : n ≤ 100000) (l b1 m B : Nat) (J Jx : List Plc → World → Prop) (hJ : AbidesFrom B J)
    (hY : ∀ pre x W1, J pre W1 → pre.length < 64 * n → YieldAt Fence.wide (m - 1) Tryd.prog l #[.int .i64 (x.1 : Nat)] W1 fun e W' =>
      (e = .returned (.bool true) ∧ J (pre ++ [x]) W' ∧ Below w0.heap.size W1 W') ∨ (e = .returned (.bool false) ∧ Jx (pre ++ [x]) W'))
    (W : World) (hW : Below w0.heap.size w0 W) (q1 : W.cell? ⟨b1, 0, none⟩ = some (.slice a n c)) (h0 : J [] W) :
    CallsIn Fence.wide m Tryd.prog 65 #[.func (.yield l) #[] #[], .pointer (some ⟨b1, 0, none⟩)] W fun e W' => (∃ v, e = .returned v) ∧
      ((∃ ys, ys.map (·.1) = pl p (64 * n) ∧ J ys W') ∨ (∃ pre, pre.map (·.1) <+: pl p (64 * n) ∧ Jx pre W')) := by
  refine callsIn_wide.2 ?_
  go_enter Tryd.func65, Tryd.ntmps65
  go_wp2_with fail
  go_loopw [7] (fun z wr => ∃ (i : Nat) (pre : List Plc), z = .int .i64 i ∧ i ≤ n ∧ Hid (pre.map (·.1) = pl p (64 * i)) ∧ Below w0.heap.size w0 wr ∧ J pre wr) (fun z _ => n - (intOf z).toNat)
  case atStart => exact ⟨0, [], rfl, by omega, Lib.hid rfl, hW, h0⟩
  case round =>
    clear hW h0
    obtain ⟨i, pre, rfl, hi, hP, hB, hJs⟩ := hrel
    by_cases hlt : i < n
    · obtain ⟨b, eb, hbl, hcell, hb64⟩ := (hr.below hB) i hlt
      subst eb
      have hk0 : (0 : Int) ≤ (i : Int) := by omega
      have hki : (i : Int) < (n : Int) := by omega
      rw [← pt_start p i] at hcell
      go_wp2_with fail
      obtain ⟨wo, rfl⟩ : ∃ wo : World, wo = wr := ⟨_, rfl⟩
      go_loopw [4] (fun z wr => ∃ (t : Nat) (pre : List Plc), z = .int .u64 (wd (ptP p t) i : Nat) ∧ 64 * i ≤ t ∧ t ≤ 64 * (i + 1) ∧ Hid (pre.map (·.1) = pl p t) ∧ Below w0.heap.size w0 wr ∧ J pre wr) (fun z _ => (intOf z).toNat)
      case atStart => exact ⟨64 * i, pre, rfl, Nat.le_refl _, by omega, hP, hB, hJs⟩
      case round =>
        clear hB hJs hP hcell hb64 hbl
        obtain ⟨t, pre2, rfl, ht1, ht2, hP, hB, hJs⟩ := hrel
        by_cases h0 : wd (ptP p t) i = 0
        · have hz := pt_zero h0 ht1
          have hP2 : Hid (pre2.map (·.1) = pl p (64 * (i + 1))) := Lib.hid (by rw [hP.out]; exact (pl_gap ht2 hz).symm)
          clear hz
          rw [h0]
          go_wp2
          refine ⟨?_, by simp [intOf]; omega⟩
          exact ⟨i + 1, pre2, by simp, by omega, hP2, hB, hJs⟩
        · obtain ⟨u, hu⟩ : ∃ u, u = wd (ptP p t) i := ⟨_, rfl⟩
          rw [← hu] at h0
          obtain ⟨g1, g2, g3, g4, g5⟩ := pt_next hu h0 ht1
          have hu64 : u < 18446744073709551616 := by rw [hu]; exact wd_lt _ _
          have TZ := Lib.hid (fun W (h : Below w0.heap.size w0 W) => tz64_any u hu64 h0 W (hT.below h))
          obtain ⟨k, hk⟩ : ∃ k, k = Lib.ctz 64 u := ⟨_, rfl⟩
          rw [← hk] at g1 g2 g3 g4 g5 TZ
          have h0' : ((u : Int) != 0) = true := by simp; omega
          have hx : 64 * i + k < 6400064 := by omega
          have hP2 : Hid ((pre2 ++ [(⟨64 * i + k, hx⟩ : Plc)]).map (·.1) = pl p (64 * i + k + 1)) := Lib.hid (by rw [List.map_append, hP.out]; exact (pl_step g2 g4 g3).symm)
          have hU := Lib.hid (and_less hu64 h0)
          have hUl : u &&& (u - 1) < u := by have := Nat.and_le_right (n := u) (m := u - 1); omega
          have hlen : pre2.length < 64 * n := by
            have e := congrArg List.length hP.out
            rw [List.length_map, pl_length] at e
            have := cnt_le p t
            omega
          have HU2 := Lib.hid g5
          have HH := Lib.hid hu
          rw [← hu]
          clear hk g3 g4 g5 hu
          have hmu : IntKind.i64.wrap ((i : Int) * 64) = (i : Int) * 64 := by rw [IntKind.wrap_i64]; omega
          obtain ⟨fn, tmps, assign, body, hy, hR⟩ := hY pre2 ⟨64 * i + k, hx⟩ wr hJs hlen
          have hy' : (Instr.yield l #[.int .i64 ((i : Int) * 64 + (k : Int))]).run Tryd.prog wr = .ok (.round l fn tmps assign body) wr := by
            rw [show (i : Int) * 64 + (k : Int) = ((64 * i + k : Nat) : Int) by omega]; exact hy
          clear hy
          refine (wpIn_wide (n := m)).1 ?_
          gi_wp2
          refine ⟨trivial, fun h => by simp [Fence.wide] at h, ?_⟩
          refine (callsIn_wide.2 (TZ.out _ hB)).mono ?_
          rintro e w' ⟨rfl, rfl⟩
          gi_wp2
          refine ⟨fun h => by simp [Fence.wide] at h, hR.mono ?_⟩
          have hU' := hU.out
          have hsb : IntKind.u64.wrap ((u : Int) - 1) = (u : Int) - 1 := by rw [IntKind.wrap_u64]; omega
          rintro e W3 (⟨rfl, hJ3, hk3⟩ | ⟨rfl, hJx3⟩)
          · gi_wp2
            refine ⟨?_, by simp [intOf]; omega⟩
            exact ⟨64 * i + k + 1, _, by rw [← HU2.out], by omega, by omega, hP2, hB.trans hk3, hJ3⟩
          · gi_wp2
            refine bodyPost_ret (results_none rfl _ _ _) rfl ?_
            refine ⟨⟨_, rfl⟩, .inr ⟨_, ?_, hJx3⟩⟩
            rw [hP2.out]
            exact pl_prefix p (by omega)
    · obtain rfl : i = n := by omega
      go_wp2
      go_end0
      exact ⟨⟨_, rfl⟩, .inl ⟨pre, hP.out, hJs⟩⟩
end Go.Proofs.YtccgpjhfgmonpaaDoor
