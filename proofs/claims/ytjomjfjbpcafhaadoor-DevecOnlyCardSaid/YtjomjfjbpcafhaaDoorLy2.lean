import Derived.Test.YtjomjfjbpcafhaaDoorLy1
namespace Go.Proofs.YtjomjfjbpcafhaaDoor
namespace Ev
open Go
set_option linter.unusedVariables false
set_option linter.unusedSimpArgs false
set_option maxRecDepth 100000
set_option maxHeartbeats 1000000
attribute [local irreducible] OpsL StL TnL WpL EndL
theorem eqeqlB4 (x y : Operand) (a b : Bool) : pureOf Tryd.prog (do eqGuard .eql 4 x y (.bool a) (.bool b); binOp .eql 4 (.bool a) (.bool b)) = some (.bool (a == b)) := by cases a <;> cases b <;> kernel_rfl
theorem eqeqlA118 (x y : Operand) (a0 b0 a1 b1 : Int) : pureOf Tryd.prog (do eqGuard .eql 118 x y (.agg #[.int .i64 a0, .int .u64 a1]) (.agg #[.int .i64 b0, .int .u64 b1]); binOp .eql 118 (.agg #[.int .i64 a0, .int .u64 a1]) (.agg #[.int .i64 b0, .int .u64 b1])) = some (.bool ((a0 == b0 && (a1 == b1 && true)))) := by
  refine pof_eqlA (by kernel_rfl) ((pof_struct 9999 118 #[.int .i64 a0, .int .u64 a1] #[.int .i64 b0, .int .u64 b1] (fs := flds Tryd.prog 117) (by kernel_rfl) (by kernel_rfl)).trans ?_)
  rw [show (flds Tryd.prog 117).toList = [fld Tryd.prog 117 0, fld Tryd.prog 117 1] by kernel_rfl]
  exact ((pof_field (k := .i64) (k' := .i64) (by kernel_rfl) (by kernel_rfl) (by kernel_rfl) (by kernel_rfl)).trans (and_of ((pof_field (k := .u64) (k' := .u64) (by kernel_rfl) (by kernel_rfl) (by kernel_rfl) (by kernel_rfl)).trans (and_of pof_nofield))))
theorem eqeqlA118_t (x y : Operand) {a0 b0 a1 b1 : Int} (h : a0 = b0 ∧ a1 = b1) : pureOf Tryd.prog (do eqGuard .eql 118 x y (.agg #[.int .i64 a0, .int .u64 a1]) (.agg #[.int .i64 b0, .int .u64 b1]); binOp .eql 118 (.agg #[.int .i64 a0, .int .u64 a1]) (.agg #[.int .i64 b0, .int .u64 b1])) = some (.bool true) := by rw [eqeqlA118]; simp [h]
theorem eqeqlA118_f (x y : Operand) {a0 b0 a1 b1 : Int} (h : ¬ (a0 = b0 ∧ a1 = b1)) : pureOf Tryd.prog (do eqGuard .eql 118 x y (.agg #[.int .i64 a0, .int .u64 a1]) (.agg #[.int .i64 b0, .int .u64 b1]); binOp .eql 118 (.agg #[.int .i64 a0, .int .u64 a1]) (.agg #[.int .i64 b0, .int .u64 b1])) = some (.bool false) := by rw [eqeqlA118]; congr 2; revert h; by_cases e0 : a0 = b0 <;> by_cases e1 : a1 = b1 <;> simp_all
theorem eqneqB4 (x y : Operand) (a b : Bool) : pureOf Tryd.prog (do eqGuard .neq 4 x y (.bool a) (.bool b); binOp .neq 4 (.bool a) (.bool b)) = some (.bool (a != b)) := by cases a <;> cases b <;> kernel_rfl
theorem eqneqA39 (x y : Operand) (a0 b0 a1 b1 : Int) : pureOf Tryd.prog (do eqGuard .neq 39 x y (.agg #[.int .i64 a0, .int .i64 a1]) (.agg #[.int .i64 b0, .int .i64 b1]); binOp .neq 39 (.agg #[.int .i64 a0, .int .i64 a1]) (.agg #[.int .i64 b0, .int .i64 b1])) = some (.bool (!(a0 == b0 && (a1 == b1 && true)))) := by
  refine pof_neqA (by kernel_rfl) ((pof_struct 9999 39 #[.int .i64 a0, .int .i64 a1] #[.int .i64 b0, .int .i64 b1] (fs := flds Tryd.prog 38) (by kernel_rfl) (by kernel_rfl)).trans ?_)
  rw [show (flds Tryd.prog 38).toList = [fld Tryd.prog 38 0, fld Tryd.prog 38 1] by kernel_rfl]
  exact ((pof_field (k := .i64) (k' := .i64) (by kernel_rfl) (by kernel_rfl) (by kernel_rfl) (by kernel_rfl)).trans (and_of ((pof_field (k := .i64) (k' := .i64) (by kernel_rfl) (by kernel_rfl) (by kernel_rfl) (by kernel_rfl)).trans (and_of pof_nofield))))
theorem eqneqA39_t (x y : Operand) {a0 b0 a1 b1 : Int} (h : a0 = b0 ∧ a1 = b1) : pureOf Tryd.prog (do eqGuard .neq 39 x y (.agg #[.int .i64 a0, .int .i64 a1]) (.agg #[.int .i64 b0, .int .i64 b1]); binOp .neq 39 (.agg #[.int .i64 a0, .int .i64 a1]) (.agg #[.int .i64 b0, .int .i64 b1])) = some (.bool false) := by rw [eqneqA39]; simp [h]
theorem eqneqA39_f (x y : Operand) {a0 b0 a1 b1 : Int} (h : ¬ (a0 = b0 ∧ a1 = b1)) : pureOf Tryd.prog (do eqGuard .neq 39 x y (.agg #[.int .i64 a0, .int .i64 a1]) (.agg #[.int .i64 b0, .int .i64 b1]); binOp .neq 39 (.agg #[.int .i64 a0, .int .i64 a1]) (.agg #[.int .i64 b0, .int .i64 b1])) = some (.bool true) := by rw [eqneqA39]; congr 2; revert h; by_cases e0 : a0 = b0 <;> by_cases e1 : a1 = b1 <;> simp_all
theorem eqneqA118 (x y : Operand) (a0 b0 a1 b1 : Int) : pureOf Tryd.prog (do eqGuard .neq 118 x y (.agg #[.int .i64 a0, .int .u64 a1]) (.agg #[.int .i64 b0, .int .u64 b1]); binOp .neq 118 (.agg #[.int .i64 a0, .int .u64 a1]) (.agg #[.int .i64 b0, .int .u64 b1])) = some (.bool (!(a0 == b0 && (a1 == b1 && true)))) := by
  refine pof_neqA (by kernel_rfl) ((pof_struct 9999 118 #[.int .i64 a0, .int .u64 a1] #[.int .i64 b0, .int .u64 b1] (fs := flds Tryd.prog 117) (by kernel_rfl) (by kernel_rfl)).trans ?_)
  rw [show (flds Tryd.prog 117).toList = [fld Tryd.prog 117 0, fld Tryd.prog 117 1] by kernel_rfl]
  exact ((pof_field (k := .i64) (k' := .i64) (by kernel_rfl) (by kernel_rfl) (by kernel_rfl) (by kernel_rfl)).trans (and_of ((pof_field (k := .u64) (k' := .u64) (by kernel_rfl) (by kernel_rfl) (by kernel_rfl) (by kernel_rfl)).trans (and_of pof_nofield))))
theorem eqneqA118_t (x y : Operand) {a0 b0 a1 b1 : Int} (h : a0 = b0 ∧ a1 = b1) : pureOf Tryd.prog (do eqGuard .neq 118 x y (.agg #[.int .i64 a0, .int .u64 a1]) (.agg #[.int .i64 b0, .int .u64 b1]); binOp .neq 118 (.agg #[.int .i64 a0, .int .u64 a1]) (.agg #[.int .i64 b0, .int .u64 b1])) = some (.bool false) := by rw [eqneqA118]; simp [h]
theorem eqneqA118_f (x y : Operand) {a0 b0 a1 b1 : Int} (h : ¬ (a0 = b0 ∧ a1 = b1)) : pureOf Tryd.prog (do eqGuard .neq 118 x y (.agg #[.int .i64 a0, .int .u64 a1]) (.agg #[.int .i64 b0, .int .u64 b1]); binOp .neq 118 (.agg #[.int .i64 a0, .int .u64 a1]) (.agg #[.int .i64 b0, .int .u64 b1])) = some (.bool true) := by rw [eqneqA118]; congr 2; revert h; by_cases e0 : a0 = b0 <;> by_cases e1 : a1 = b1 <;> simp_all
end Ev
end Go.Proofs.YtjomjfjbpcafhaaDoor
