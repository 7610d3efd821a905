import Derived.Test.YtlcfdmjkbaegpaaLy1
namespace Go.Proofs.Ytlcfdmjkbaegpaa
namespace Ev
open Go
set_option linter.unusedVariables false
set_option linter.unusedSimpArgs false
set_option maxRecDepth 100000
set_option maxHeartbeats 1000000
attribute [local irreducible] OpsL StL TnL WpL EndL
theorem eqeqlB4 (x y : Operand) (a b : Bool) : pureOf Try.prog (do eqGuard .eql 4 x y (.bool a) (.bool b); binOp .eql 4 (.bool a) (.bool b)) = some (.bool (a == b)) := by cases a <;> cases b <;> kernel_rfl
theorem eqeqlA66 (x y : Operand) (a0 b0 a1 b1 : Int) : pureOf Try.prog (do eqGuard .eql 66 x y (.agg #[.int .i64 a0, .int .u64 a1]) (.agg #[.int .i64 b0, .int .u64 b1]); binOp .eql 66 (.agg #[.int .i64 a0, .int .u64 a1]) (.agg #[.int .i64 b0, .int .u64 b1])) = some (.bool ((a0 == b0 && (a1 == b1 && true)))) := by
  refine pof_eqlA (by kernel_rfl) ((pof_struct 9999 66 #[.int .i64 a0, .int .u64 a1] #[.int .i64 b0, .int .u64 b1] (fs := flds Try.prog 65) (by kernel_rfl) (by kernel_rfl)).trans ?_)
  rw [show (flds Try.prog 65).toList = [fld Try.prog 65 0, fld Try.prog 65 1] by kernel_rfl]
  exact ((pof_field (k := .i64) (k' := .i64) (by kernel_rfl) (by kernel_rfl) (by kernel_rfl) (by kernel_rfl)).trans (and_of ((pof_field (k := .u64) (k' := .u64) (by kernel_rfl) (by kernel_rfl) (by kernel_rfl) (by kernel_rfl)).trans (and_of pof_nofield))))
theorem eqeqlA66_t (x y : Operand) {a0 b0 a1 b1 : Int} (h : a0 = b0 ∧ a1 = b1) : pureOf Try.prog (do eqGuard .eql 66 x y (.agg #[.int .i64 a0, .int .u64 a1]) (.agg #[.int .i64 b0, .int .u64 b1]); binOp .eql 66 (.agg #[.int .i64 a0, .int .u64 a1]) (.agg #[.int .i64 b0, .int .u64 b1])) = some (.bool true) := by rw [eqeqlA66]; simp [h]
theorem eqeqlA66_f (x y : Operand) {a0 b0 a1 b1 : Int} (h : ¬ (a0 = b0 ∧ a1 = b1)) : pureOf Try.prog (do eqGuard .eql 66 x y (.agg #[.int .i64 a0, .int .u64 a1]) (.agg #[.int .i64 b0, .int .u64 b1]); binOp .eql 66 (.agg #[.int .i64 a0, .int .u64 a1]) (.agg #[.int .i64 b0, .int .u64 b1])) = some (.bool false) := by rw [eqeqlA66]; congr 2; revert h; by_cases e0 : a0 = b0 <;> by_cases e1 : a1 = b1 <;> simp_all
theorem eqneqB4 (x y : Operand) (a b : Bool) : pureOf Try.prog (do eqGuard .neq 4 x y (.bool a) (.bool b); binOp .neq 4 (.bool a) (.bool b)) = some (.bool (a != b)) := by cases a <;> cases b <;> kernel_rfl
theorem eqneqA57 (x y : Operand) (a0 b0 a1 b1 : Int) : pureOf Try.prog (do eqGuard .neq 57 x y (.agg #[.int .i64 a0, .int .i64 a1]) (.agg #[.int .i64 b0, .int .i64 b1]); binOp .neq 57 (.agg #[.int .i64 a0, .int .i64 a1]) (.agg #[.int .i64 b0, .int .i64 b1])) = some (.bool (!(a0 == b0 && (a1 == b1 && true)))) := by
  refine pof_neqA (by kernel_rfl) ((pof_struct 9999 57 #[.int .i64 a0, .int .i64 a1] #[.int .i64 b0, .int .i64 b1] (fs := flds Try.prog 56) (by kernel_rfl) (by kernel_rfl)).trans ?_)
  rw [show (flds Try.prog 56).toList = [fld Try.prog 56 0, fld Try.prog 56 1] by kernel_rfl]
  exact ((pof_field (k := .i64) (k' := .i64) (by kernel_rfl) (by kernel_rfl) (by kernel_rfl) (by kernel_rfl)).trans (and_of ((pof_field (k := .i64) (k' := .i64) (by kernel_rfl) (by kernel_rfl) (by kernel_rfl) (by kernel_rfl)).trans (and_of pof_nofield))))
theorem eqneqA57_t (x y : Operand) {a0 b0 a1 b1 : Int} (h : a0 = b0 ∧ a1 = b1) : pureOf Try.prog (do eqGuard .neq 57 x y (.agg #[.int .i64 a0, .int .i64 a1]) (.agg #[.int .i64 b0, .int .i64 b1]); binOp .neq 57 (.agg #[.int .i64 a0, .int .i64 a1]) (.agg #[.int .i64 b0, .int .i64 b1])) = some (.bool false) := by rw [eqneqA57]; simp [h]
theorem eqneqA57_f (x y : Operand) {a0 b0 a1 b1 : Int} (h : ¬ (a0 = b0 ∧ a1 = b1)) : pureOf Try.prog (do eqGuard .neq 57 x y (.agg #[.int .i64 a0, .int .i64 a1]) (.agg #[.int .i64 b0, .int .i64 b1]); binOp .neq 57 (.agg #[.int .i64 a0, .int .i64 a1]) (.agg #[.int .i64 b0, .int .i64 b1])) = some (.bool true) := by rw [eqneqA57]; congr 2; revert h; by_cases e0 : a0 = b0 <;> by_cases e1 : a1 = b1 <;> simp_all
theorem eqneqA66 (x y : Operand) (a0 b0 a1 b1 : Int) : pureOf Try.prog (do eqGuard .neq 66 x y (.agg #[.int .i64 a0, .int .u64 a1]) (.agg #[.int .i64 b0, .int .u64 b1]); binOp .neq 66 (.agg #[.int .i64 a0, .int .u64 a1]) (.agg #[.int .i64 b0, .int .u64 b1])) = some (.bool (!(a0 == b0 && (a1 == b1 && true)))) := by
  refine pof_neqA (by kernel_rfl) ((pof_struct 9999 66 #[.int .i64 a0, .int .u64 a1] #[.int .i64 b0, .int .u64 b1] (fs := flds Try.prog 65) (by kernel_rfl) (by kernel_rfl)).trans ?_)
  rw [show (flds Try.prog 65).toList = [fld Try.prog 65 0, fld Try.prog 65 1] by kernel_rfl]
  exact ((pof_field (k := .i64) (k' := .i64) (by kernel_rfl) (by kernel_rfl) (by kernel_rfl) (by kernel_rfl)).trans (and_of ((pof_field (k := .u64) (k' := .u64) (by kernel_rfl) (by kernel_rfl) (by kernel_rfl) (by kernel_rfl)).trans (and_of pof_nofield))))
theorem eqneqA66_t (x y : Operand) {a0 b0 a1 b1 : Int} (h : a0 = b0 ∧ a1 = b1) : pureOf Try.prog (do eqGuard .neq 66 x y (.agg #[.int .i64 a0, .int .u64 a1]) (.agg #[.int .i64 b0, .int .u64 b1]); binOp .neq 66 (.agg #[.int .i64 a0, .int .u64 a1]) (.agg #[.int .i64 b0, .int .u64 b1])) = some (.bool false) := by rw [eqneqA66]; simp [h]
theorem eqneqA66_f (x y : Operand) {a0 b0 a1 b1 : Int} (h : ¬ (a0 = b0 ∧ a1 = b1)) : pureOf Try.prog (do eqGuard .neq 66 x y (.agg #[.int .i64 a0, .int .u64 a1]) (.agg #[.int .i64 b0, .int .u64 b1]); binOp .neq 66 (.agg #[.int .i64 a0, .int .u64 a1]) (.agg #[.int .i64 b0, .int .u64 b1])) = some (.bool true) := by rw [eqneqA66]; congr 2; revert h; by_cases e0 : a0 = b0 <;> by_cases e1 : a1 = b1 <;> simp_all
end Ev
end Go.Proofs.Ytlcfdmjkbaegpaa
