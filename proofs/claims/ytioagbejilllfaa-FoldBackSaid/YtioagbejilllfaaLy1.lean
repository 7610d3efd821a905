import Derived.Test.YtioagbejilllfaaLy0
namespace Go.Proofs.Ytioagbejilllfaa
namespace Ev
open Go
set_option linter.unusedVariables false
set_option linter.unusedSimpArgs false
set_option maxRecDepth 100000
set_option maxHeartbeats 1000000
attribute [local irreducible] OpsL StL TnL WpL EndL
def r33 (x : Int × Int) : List T := [iT .i64 x.1, iT .i64 x.2]
def r24 (x : Int × (Sl (Int × Int))) : List T := [iT .i64 x.1, Sl.t r33 x.2]
def r55 (x : Int × Int) : List T := [iT .i64 x.1, iT .u64 x.2]
def r27 (x : Int × Int) : List T := [iT .i64 x.1, iT .i64 x.2]
def r3 (x : Int) : List T := [iT .i64 x]
def r79 (x : Int × Bool) : List T := [iT .i64 x.1, bT x.2]
def r98 (x : Int × Int × Int) : List T := [iT .i64 x.1, iT .i64 x.2.1, iT .i64 x.2.2]
def r47 (x : (Sl (Int × Int)) × (Sl (Int × Int))) : List T := [Sl.t r33 x.1, Sl.t r33 x.2]
def r54 (x : Int) : List T := [iT .u64 x]
theorem cv2_54_i64 (a : Int) : pureOf Try.prog (Go.convert 2 54 (.int .i64 a)) = some (.int .u64 (IntKind.u64.wrap a)) := by kernel_rfl
theorem cv3_5_i64 (a : Int) : pureOf Try.prog (Go.convert 3 5 (.int .i64 a)) = some (.int .u8 (IntKind.u8.wrap a)) := by kernel_rfl
theorem cv3_95_i64 (a : Int) : pureOf Try.prog (Go.convert 3 95 (.int .i64 a)) = some (.int .u64 (IntKind.u64.wrap a)) := by kernel_rfl
theorem cv5_3_u8 (a : Int) : pureOf Try.prog (Go.convert 5 3 (.int .u8 a)) = some (.int .i64 (IntKind.i64.wrap a)) := by kernel_rfl
theorem cv54_2_u64 (a : Int) : pureOf Try.prog (Go.convert 54 2 (.int .u64 a)) = some (.int .i64 (IntKind.i64.wrap a)) := by kernel_rfl
end Ev
end Go.Proofs.Ytioagbejilllfaa
