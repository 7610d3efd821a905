/- The library's lowest bit of a word, as an entry of the evaluator's table. -/
import Derived.Laws.Bits64b
import Derived.Laws.Bits64
import Derived.Lib.TrailingZeros
import Derived.WalkKit
import Derived.BigQuiet
import Derived.WalkSpells
import Derived.WalkLawsBesides
import Derived.IntWalk
import Derived.Test.YtjomjfjbpcafhaaDoorProg
import Derived.Test.YtjomjfjbpcafhaaDoorEvS5
namespace Go.Proofs.YtjomjfjbpcafhaaDoor
open Go Go.RowKit
set_option linter.unusedVariables false

theorem tz64_key' (x a : Nat) (hx : x < 18446744073709551616) (hx0 : x ≠ 0) (hlow : x &&& (18446744073709551616 - x) = a) :
    IntKind.u64.wrap (bits BinOp.and IntKind.u64 (x : Int) (IntKind.u64.wrap (-(x : Int))) * 285870213051353865) / 288230376151711744 = ((a * 285870213051353865 % 18446744073709551616 / 288230376151711744 : Nat) : Int) := by
  have e1 : IntKind.u64.wrap (-(x : Int)) = ((18446744073709551616 - x : Nat) : Int) := by rw [IntKind.wrap_u64]; omega
  rw [e1, bits_and_u64_nat x _ hx (by omega), hlow, IntKind.wrap_u64]
  omega
set_option maxHeartbeats 1000000 in
theorem tz64_core (x k idx : Nat) (w : World) (hx0 : ((x : Int) == 0) = false)
    (key : IntKind.u64.wrap (bits BinOp.and IntKind.u64 (x : Int) (IntKind.u64.wrap (-(x : Int))) * 285870213051353865) / 288230376151711744 = (idx : Int))
    (hi : idx < 64) (hk : k < 64) (hcell : w.cell? ⟨0, idx, none⟩ = some (.int .u8 k)) :
    Calls Tryd.prog 102 #[.int .u64 x] w fun e w' => e = .returned (.int .i64 k) ∧ w = w' := by
  go_enter Tryd.func102, Tryd.ntmps102
  go_wp2_with (simp only [key])
  go_ret
  exact ⟨rfl, rfl⟩
namespace Ev
theorem tz64_any (x : Nat) (hx : x < 18446744073709551616) (hx0 : x ≠ 0) (w : World) (hT : TabW w) :
    Calls Tryd.prog 102 #[.int .u64 x] w fun e w' => e = .returned (.int .i64 (Lib.ctz 64 x)) ∧ w = w' := by
  obtain ⟨hlow, hk⟩ := Lib.lowest_bit 64 x hx0 hx
  obtain ⟨hi, htab⟩ := Lib.deBruijn64_at _ hk
  have hcell := hT.2 _ hi
  rw [htab] at hcell
  exact tz64_core x _ _ w (by simp; omega) (tz64_key' x _ hx hx0 hlow) hi hk hcell
def tzF : List TD → Option (Kind × List TD)
  | [.one (.v (.int .u64 x))] => if 0 < x ∧ x < 18446744073709551616 then some (.fresh, [.one (.v (.int .i64 (Lib.ctz 64 x.toNat)))]) else none
  | _ => none
def TZ (x : Int) : Option Int := if 0 < x ∧ x < 18446744073709551616 then some ((Lib.ctz 64 x.toNat : Nat) : Int) else none
theorem tz_ok (vs : List TD) (kind : Kind) (rs : List TD) (h : tzF vs = some (kind, rs)) : PureOk Tryd.prog 102 vs kind rs ∧ Enters Tryd.prog 102 := by
  unfold tzF at h
  split at h
  · rename_i x
    split at h
    · rename_i hx
      simp only [Option.some.injEq, Prod.mk.injEq] at h
      obtain ⟨rfl, rfl⟩ := h
      refine ⟨fun w F ys hL hF hr => ?_, ⟨_, _, Tryd.func102, by kernel_rfl, by unfold Tryd.f102; rfl⟩⟩
      obtain ⟨hlen, hi⟩ := hr
      match ys, hlen with
      | [y], _ =>
        obtain ⟨y', e1, e2⟩ := hi 0 _ rfl
        simp only [List.getElem?_cons_zero, Option.some.injEq] at e1
        subst e1
        have ey : y = .int .u64 x := by
          cases e2 with
          | one t y h => cases h with | v x hx => rfl
        subst ey
        obtain ⟨n, rfl⟩ := Int.eq_ofNat_of_zero_le (show 0 ≤ x by omega)
        refine (tz64_any n (by omega) (by omega) w hL.2).mono fun e w' ⟨he, hw⟩ => ?_
        subst hw
        refine ⟨_, he, ?_, fun hk => (by cases hk), Below.refl _ _⟩
        exact .one _ _ (.v _ rfl)
    · simp at h
  · simp at h
end Ev
end Go.Proofs.YtjomjfjbpcafhaaDoor
