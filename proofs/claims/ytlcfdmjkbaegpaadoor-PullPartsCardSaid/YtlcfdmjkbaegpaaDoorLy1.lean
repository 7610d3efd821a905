import Derived.Test.YtlcfdmjkbaegpaaDoorLy0
namespace Go.Proofs.YtlcfdmjkbaegpaaDoor
namespace Ev
open Go
set_option linter.unusedVariables false
set_option linter.unusedSimpArgs false
set_option maxRecDepth 100000
set_option maxHeartbeats 1000000
attribute [local irreducible] OpsL StL TnL WpL EndL
def r92 (x : Int × Int × Int) : List T := [iT .i64 x.1, iT .i64 x.2.1, iT .i64 x.2.2]
def r113 (x : Int × Int × Int) : List T := [iT .i64 x.1, iT .i64 x.2.1, iT .i64 x.2.2]
def r61 (x : Int × Int) : List T := [iT .i64 x.1, iT .u64 x.2]
def r3 (x : Int) : List T := [iT .i64 x]
def r2 (x : Int) : List T := [iT .i64 x]
def r32 (x : Int × Int × Sl (Int) × Sl (Int) × Sl (Int)) : List T := [iT .i64 x.1, iT .i64 x.2.1, Sl.t r3 x.2.2.1, Sl.t r3 x.2.2.2.1, Sl.t r2 x.2.2.2.2]
def r23 (x : Int × Int) : List T := [iT .u8 x.1, iT .u8 x.2]
def r70 (x : Int × Int) : List T := [iT .i64 x.1, iT .i64 x.2]
def r60 (x : Int) : List T := [iT .u64 x]
def r27 (x : Int × (Int × Int) × (Sl (Int × Int × Int)) × (Sl (Int × Int)) × (Sl (Int × Int)) × Sl (Int) × Bool) : List T := [iT .i64 x.1, iT .u8 x.2.1.1, iT .u8 x.2.1.2, Sl.t r92 x.2.2.1, Sl.t r70 x.2.2.2.1, Sl.t r70 x.2.2.2.2.1, Sl.t r60 x.2.2.2.2.2.1, bT x.2.2.2.2.2.2]
def r38 (x : Int × (Sl (Int × Int))) : List T := [iT .i64 x.1, Sl.t r70 x.2]
def r35 (x : Int × Sl (Int) × Sl (Int)) : List T := [iT .i64 x.1, Sl.t r60 x.2.1, Sl.t r2 x.2.2]
def r122 (x : Int × Int × Int × Int) : List T := [iT .u64 x.1, iT .u64 x.2.1, iT .u64 x.2.2.1, iT .u64 x.2.2.2]
def r63 (x : Int × (Int × Int)) : List T := [iT .i64 x.1, iT .i64 x.2.1, iT .u64 x.2.2]
theorem cv2_60_i64 (a : Int) : pureOf Tryd.prog (Go.convert 2 60 (.int .i64 a)) = some (.int .u64 (IntKind.u64.wrap a)) := by kernel_rfl
theorem cv3_5_i64 (a : Int) : pureOf Tryd.prog (Go.convert 3 5 (.int .i64 a)) = some (.int .u8 (IntKind.u8.wrap a)) := by kernel_rfl
theorem cv3_110_i64 (a : Int) : pureOf Tryd.prog (Go.convert 3 110 (.int .i64 a)) = some (.int .u64 (IntKind.u64.wrap a)) := by kernel_rfl
theorem cv5_3_u8 (a : Int) : pureOf Tryd.prog (Go.convert 5 3 (.int .u8 a)) = some (.int .i64 (IntKind.i64.wrap a)) := by kernel_rfl
theorem cv60_2_u64 (a : Int) : pureOf Tryd.prog (Go.convert 60 2 (.int .u64 a)) = some (.int .i64 (IntKind.i64.wrap a)) := by kernel_rfl
end Ev
end Go.Proofs.YtlcfdmjkbaegpaaDoor
