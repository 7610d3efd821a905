/- Plain operations on numbers, as the evaluator meets them. No program is named here. -/
import Derived.IntWalk
import Derived.Test.YtjomjfjbpcafhaaDoorEv17
namespace Go.Proofs.YtjomjfjbpcafhaaDoor
namespace Ev
open Go Go.RowKit
set_option linter.unusedVariables false
set_option linter.unusedSimpArgs false

theorem envOf_ti (P : Program) (ax : Ax) : (envOf P ax).ti = tiOf P := rfl
theorem envOf_P (P : Program) (ax : Ax) : (envOf P ax).P = P := rfl
theorem envOf_ax (P : Program) (ax : Ax) : (envOf P ax).ax = ax := rfl
theorem envOf_fn (P : Program) (ax : Ax) : (envOf P ax).fn = fiOf P := rfl
/-- The fields of a struct type. -/
def flds (P : Program) (t : TypeId) : Array Field :=
  match P.underlying t with
  | some (.struct fs) => fs
  | _ => #[]
def fld (P : Program) (t : TypeId) (i : Nat) : Field := (flds P t).toList.getD i default
section
variable (P : Program) (t : TypeId) (x y : Operand) (k : IntKind) (a b : Int)
theorem p_add : pureOf P (do eqGuard .add t x y (.int k a) (.int k b); binOp .add t (.int k a) (.int k b)) = some (.int k (k.wrap (a + b))) := by cases k <;> rfl
theorem p_sub : pureOf P (do eqGuard .sub t x y (.int k a) (.int k b); binOp .sub t (.int k a) (.int k b)) = some (.int k (k.wrap (a - b))) := by cases k <;> rfl
theorem p_mul : pureOf P (do eqGuard .mul t x y (.int k a) (.int k b); binOp .mul t (.int k a) (.int k b)) = some (.int k (k.wrap (a * b))) := by cases k <;> rfl
theorem p_quo (h : b ≠ 0) : pureOf P (do eqGuard .quo t x y (.int k a) (.int k b); binOp .quo t (.int k a) (.int k b)) = some (.int k (k.wrap (a.tdiv b))) := by
  have : (do eqGuard .quo t x y (.int k a) (.int k b); binOp .quo t (.int k a) (.int k b)) = (pure (.int k (k.wrap (a.tdiv b))) : Sem Value) := by
    rw [eqGuard_at_int]
    show binOp .quo t (.int k a) (.int k b) = _
    simp [binOp, Op.intDiv, h]
  rw [this]; rfl
theorem p_rem (h : b ≠ 0) : pureOf P (do eqGuard .rem t x y (.int k a) (.int k b); binOp .rem t (.int k a) (.int k b)) = some (.int k (a.tmod b)) := by
  have : (do eqGuard .rem t x y (.int k a) (.int k b); binOp .rem t (.int k a) (.int k b)) = (pure (.int k (a.tmod b)) : Sem Value) := by
    rw [eqGuard_at_int]
    show binOp .rem t (.int k a) (.int k b) = _
    simp [binOp, Op.intDiv, h]
  rw [this]; rfl
theorem p_lss : pureOf P (do eqGuard .lss t x y (.int k a) (.int k b); binOp .lss t (.int k a) (.int k b)) = some (.bool (decide (a < b))) := by cases k <;> rfl
theorem p_leq : pureOf P (do eqGuard .leq t x y (.int k a) (.int k b); binOp .leq t (.int k a) (.int k b)) = some (.bool (decide (a ≤ b))) := by cases k <;> rfl
theorem p_gtr : pureOf P (do eqGuard .gtr t x y (.int k a) (.int k b); binOp .gtr t (.int k a) (.int k b)) = some (.bool (decide (b < a))) := by cases k <;> rfl
theorem p_geq : pureOf P (do eqGuard .geq t x y (.int k a) (.int k b); binOp .geq t (.int k a) (.int k b)) = some (.bool (decide (b ≤ a))) := by cases k <;> rfl
theorem p_eql : pureOf P (do eqGuard .eql t x y (.int k a) (.int k b); binOp .eql t (.int k a) (.int k b)) = some (.bool (a == b)) := by cases k <;> rfl
theorem p_neq : pureOf P (do eqGuard .neq t x y (.int k a) (.int k b); binOp .neq t (.int k a) (.int k b)) = some (.bool (a != b)) := by cases k <;> rfl
theorem p_not (c : Bool) : pureOf P (Op.unary .not (.bool c)) = some (.bool (!c)) := rfl
theorem p_neg : pureOf P (Op.unary .neg (.int k a)) = some (.int k (k.wrap (0 - a))) := rfl
end
theorem asNat_nat (fr : Bool) (k : IntKind) (n : Nat) : asNat (.one (.p fr (.v (.int k (n : Int))))) = some n := rfl
theorem asNat_nonneg (fr : Bool) (k : IntKind) (n : Int) (h : 0 ≤ n) : asNat (.one (.p fr (.v (.int k n)))) = some n.toNat := by
  obtain ⟨m, rfl⟩ := Int.eq_ofNat_of_zero_le h
  rfl
theorem wrap64 {n : Int} (h1 : -9223372036854775808 ≤ n) (h2 : n ≤ 9223372036854775807) : IntKind.i64.wrap n = n := by rw [IntKind.wrap_i64]; omega
theorem wrap64_succ {n : Nat} (h : n < 1000000000) : IntKind.i64.wrap ((n : Int) + 1) = ((n + 1 : Nat) : Int) := by rw [wrap64 (by omega) (by omega)]; rfl
end Ev
end Go.Proofs.YtjomjfjbpcafhaaDoor
