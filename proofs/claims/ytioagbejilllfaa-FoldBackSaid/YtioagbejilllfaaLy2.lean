import Derived.Test.YtioagbejilllfaaLy1
namespace Go.Proofs.Ytioagbejilllfaa
namespace Ev
open Go
set_option linter.unusedVariables false
set_option linter.unusedSimpArgs false
set_option maxRecDepth 100000
set_option maxHeartbeats 1000000
attribute [local irreducible] OpsL StL TnL WpL EndL
theorem eqeqlB4 (x y : Operand) (a b : Bool) : pureOf Try.prog (do eqGuard .eql 4 x y (.bool a) (.bool b); binOp .eql 4 (.bool a) (.bool b)) = some (.bool (a == b)) := by cases a <;> cases b <;> kernel_rfl
theorem eqeqlA34 (x y : Operand) (a0 b0 a1 b1 : Int) : pureOf Try.prog (do eqGuard .eql 34 x y (.agg #[.int .i64 a0, .int .i64 a1]) (.agg #[.int .i64 b0, .int .i64 b1]); binOp .eql 34 (.agg #[.int .i64 a0, .int .i64 a1]) (.agg #[.int .i64 b0, .int .i64 b1])) = some (.bool ((a0 == b0 && (a1 == b1 && true)))) := by
  refine pof_eqlA (by kernel_rfl) ((pof_struct 9999 34 #[.int .i64 a0, .int .i64 a1] #[.int .i64 b0, .int .i64 b1] (fs := flds Try.prog 33) (by kernel_rfl) (by kernel_rfl)).trans ?_)
  rw [show (flds Try.prog 33).toList = [fld Try.prog 33 0, fld Try.prog 33 1] by kernel_rfl]
  exact ((pof_field (k := .i64) (k' := .i64) (by kernel_rfl) (by kernel_rfl) (by kernel_rfl) (by kernel_rfl)).trans (and_of ((pof_field (k := .i64) (k' := .i64) (by kernel_rfl) (by kernel_rfl) (by kernel_rfl) (by kernel_rfl)).trans (and_of pof_nofield))))
theorem eqeqlA34_t (x y : Operand) {a0 b0 a1 b1 : Int} (h : a0 = b0 ∧ a1 = b1) : pureOf Try.prog (do eqGuard .eql 34 x y (.agg #[.int .i64 a0, .int .i64 a1]) (.agg #[.int .i64 b0, .int .i64 b1]); binOp .eql 34 (.agg #[.int .i64 a0, .int .i64 a1]) (.agg #[.int .i64 b0, .int .i64 b1])) = some (.bool true) := by rw [eqeqlA34]; simp [h]
theorem eqeqlA34_f (x y : Operand) {a0 b0 a1 b1 : Int} (h : ¬ (a0 = b0 ∧ a1 = b1)) : pureOf Try.prog (do eqGuard .eql 34 x y (.agg #[.int .i64 a0, .int .i64 a1]) (.agg #[.int .i64 b0, .int .i64 b1]); binOp .eql 34 (.agg #[.int .i64 a0, .int .i64 a1]) (.agg #[.int .i64 b0, .int .i64 b1])) = some (.bool false) := by rw [eqeqlA34]; congr 2; revert h; by_cases e0 : a0 = b0 <;> by_cases e1 : a1 = b1 <;> simp_all
theorem eqeqlA56 (x y : Operand) (a0 b0 a1 b1 : Int) : pureOf Try.prog (do eqGuard .eql 56 x y (.agg #[.int .i64 a0, .int .u64 a1]) (.agg #[.int .i64 b0, .int .u64 b1]); binOp .eql 56 (.agg #[.int .i64 a0, .int .u64 a1]) (.agg #[.int .i64 b0, .int .u64 b1])) = some (.bool ((a0 == b0 && (a1 == b1 && true)))) := by
  refine pof_eqlA (by kernel_rfl) ((pof_struct 9999 56 #[.int .i64 a0, .int .u64 a1] #[.int .i64 b0, .int .u64 b1] (fs := flds Try.prog 55) (by kernel_rfl) (by kernel_rfl)).trans ?_)
  rw [show (flds Try.prog 55).toList = [fld Try.prog 55 0, fld Try.prog 55 1] by kernel_rfl]
  exact ((pof_field (k := .i64) (k' := .i64) (by kernel_rfl) (by kernel_rfl) (by kernel_rfl) (by kernel_rfl)).trans (and_of ((pof_field (k := .u64) (k' := .u64) (by kernel_rfl) (by kernel_rfl) (by kernel_rfl) (by kernel_rfl)).trans (and_of pof_nofield))))
theorem eqeqlA56_t (x y : Operand) {a0 b0 a1 b1 : Int} (h : a0 = b0 ∧ a1 = b1) : pureOf Try.prog (do eqGuard .eql 56 x y (.agg #[.int .i64 a0, .int .u64 a1]) (.agg #[.int .i64 b0, .int .u64 b1]); binOp .eql 56 (.agg #[.int .i64 a0, .int .u64 a1]) (.agg #[.int .i64 b0, .int .u64 b1])) = some (.bool true) := by rw [eqeqlA56]; simp [h]
theorem eqeqlA56_f (x y : Operand) {a0 b0 a1 b1 : Int} (h : ¬ (a0 = b0 ∧ a1 = b1)) : pureOf Try.prog (do eqGuard .eql 56 x y (.agg #[.int .i64 a0, .int .u64 a1]) (.agg #[.int .i64 b0, .int .u64 b1]); binOp .eql 56 (.agg #[.int .i64 a0, .int .u64 a1]) (.agg #[.int .i64 b0, .int .u64 b1])) = some (.bool false) := by rw [eqeqlA56]; congr 2; revert h; by_cases e0 : a0 = b0 <;> by_cases e1 : a1 = b1 <;> simp_all
theorem eqneqB4 (x y : Operand) (a b : Bool) : pureOf Try.prog (do eqGuard .neq 4 x y (.bool a) (.bool b); binOp .neq 4 (.bool a) (.bool b)) = some (.bool (a != b)) := by cases a <;> cases b <;> kernel_rfl
theorem eqneqA34 (x y : Operand) (a0 b0 a1 b1 : Int) : pureOf Try.prog (do eqGuard .neq 34 x y (.agg #[.int .i64 a0, .int .i64 a1]) (.agg #[.int .i64 b0, .int .i64 b1]); binOp .neq 34 (.agg #[.int .i64 a0, .int .i64 a1]) (.agg #[.int .i64 b0, .int .i64 b1])) = some (.bool (!(a0 == b0 && (a1 == b1 && true)))) := by
  refine pof_neqA (by kernel_rfl) ((pof_struct 9999 34 #[.int .i64 a0, .int .i64 a1] #[.int .i64 b0, .int .i64 b1] (fs := flds Try.prog 33) (by kernel_rfl) (by kernel_rfl)).trans ?_)
  rw [show (flds Try.prog 33).toList = [fld Try.prog 33 0, fld Try.prog 33 1] by kernel_rfl]
  exact ((pof_field (k := .i64) (k' := .i64) (by kernel_rfl) (by kernel_rfl) (by kernel_rfl) (by kernel_rfl)).trans (and_of ((pof_field (k := .i64) (k' := .i64) (by kernel_rfl) (by kernel_rfl) (by kernel_rfl) (by kernel_rfl)).trans (and_of pof_nofield))))
theorem eqneqA34_t (x y : Operand) {a0 b0 a1 b1 : Int} (h : a0 = b0 ∧ a1 = b1) : pureOf Try.prog (do eqGuard .neq 34 x y (.agg #[.int .i64 a0, .int .i64 a1]) (.agg #[.int .i64 b0, .int .i64 b1]); binOp .neq 34 (.agg #[.int .i64 a0, .int .i64 a1]) (.agg #[.int .i64 b0, .int .i64 b1])) = some (.bool false) := by rw [eqneqA34]; simp [h]
theorem eqneqA34_f (x y : Operand) {a0 b0 a1 b1 : Int} (h : ¬ (a0 = b0 ∧ a1 = b1)) : pureOf Try.prog (do eqGuard .neq 34 x y (.agg #[.int .i64 a0, .int .i64 a1]) (.agg #[.int .i64 b0, .int .i64 b1]); binOp .neq 34 (.agg #[.int .i64 a0, .int .i64 a1]) (.agg #[.int .i64 b0, .int .i64 b1])) = some (.bool true) := by rw [eqneqA34]; congr 2; revert h; by_cases e0 : a0 = b0 <;> by_cases e1 : a1 = b1 <;> simp_all
theorem eqneqA56 (x y : Operand) (a0 b0 a1 b1 : Int) : pureOf Try.prog (do eqGuard .neq 56 x y (.agg #[.int .i64 a0, .int .u64 a1]) (.agg #[.int .i64 b0, .int .u64 b1]); binOp .neq 56 (.agg #[.int .i64 a0, .int .u64 a1]) (.agg #[.int .i64 b0, .int .u64 b1])) = some (.bool (!(a0 == b0 && (a1 == b1 && true)))) := by
  refine pof_neqA (by kernel_rfl) ((pof_struct 9999 56 #[.int .i64 a0, .int .u64 a1] #[.int .i64 b0, .int .u64 b1] (fs := flds Try.prog 55) (by kernel_rfl) (by kernel_rfl)).trans ?_)
  rw [show (flds Try.prog 55).toList = [fld Try.prog 55 0, fld Try.prog 55 1] by kernel_rfl]
  exact ((pof_field (k := .i64) (k' := .i64) (by kernel_rfl) (by kernel_rfl) (by kernel_rfl) (by kernel_rfl)).trans (and_of ((pof_field (k := .u64) (k' := .u64) (by kernel_rfl) (by kernel_rfl) (by kernel_rfl) (by kernel_rfl)).trans (and_of pof_nofield))))
theorem eqneqA56_t (x y : Operand) {a0 b0 a1 b1 : Int} (h : a0 = b0 ∧ a1 = b1) : pureOf Try.prog (do eqGuard .neq 56 x y (.agg #[.int .i64 a0, .int .u64 a1]) (.agg #[.int .i64 b0, .int .u64 b1]); binOp .neq 56 (.agg #[.int .i64 a0, .int .u64 a1]) (.agg #[.int .i64 b0, .int .u64 b1])) = some (.bool false) := by rw [eqneqA56]; simp [h]
theorem eqneqA56_f (x y : Operand) {a0 b0 a1 b1 : Int} (h : ¬ (a0 = b0 ∧ a1 = b1)) : pureOf Try.prog (do eqGuard .neq 56 x y (.agg #[.int .i64 a0, .int .u64 a1]) (.agg #[.int .i64 b0, .int .u64 b1]); binOp .neq 56 (.agg #[.int .i64 a0, .int .u64 a1]) (.agg #[.int .i64 b0, .int .u64 b1])) = some (.bool true) := by rw [eqneqA56]; congr 2; revert h; by_cases e0 : a0 = b0 <;> by_cases e1 : a1 = b1 <;> simp_all
end Ev
end Go.Proofs.Ytioagbejilllfaa
