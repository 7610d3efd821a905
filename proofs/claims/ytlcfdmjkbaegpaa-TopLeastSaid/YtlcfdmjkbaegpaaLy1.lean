import Derived.Test.YtlcfdmjkbaegpaaLy0
namespace Go.Proofs.Ytlcfdmjkbaegpaa
namespace Ev
open Go
set_option linter.unusedVariables false
set_option linter.unusedSimpArgs false
set_option maxRecDepth 100000
set_option maxHeartbeats 1000000
attribute [local irreducible] OpsL StL TnL WpL EndL
def r56 (x : Int × Int) : List T := [iT .i64 x.1, iT .i64 x.2]
def r24 (x : Int × (Sl (Int × Int))) : List T := [iT .i64 x.1, Sl.t r56 x.2]
def r65 (x : Int × Int) : List T := [iT .i64 x.1, iT .u64 x.2]
def r103 (x : Int × Int × Int × Int) : List T := [iT .u64 x.1, iT .u64 x.2.1, iT .u64 x.2.2.1, iT .u64 x.2.2.2]
def r63 (x : Int × Int × Int × Bool × Bool) : List T := [iT .i64 x.1, iT .i64 x.2.1, iT .i64 x.2.2.1, bT x.2.2.2.1, bT x.2.2.2.2]
def r61 (x : Int) : List T := [iT .u64 x]
def r96 (x : Int × Int × Int) : List T := [iT .i64 x.1, iT .i64 x.2.1, iT .i64 x.2.2]
def r38 (x : (Int × (Sl (Int × Int))) × (Int × (Sl (Int × Int))) × (Int × (Sl (Int × Int)))) : List T := [iT .i64 x.1.1, Sl.t r56 x.1.2, iT .i64 x.2.1.1, Sl.t r56 x.2.1.2, iT .i64 x.2.2.1, Sl.t r56 x.2.2.2]
def r37 (x : (Sl (Int × Int)) × (Sl (Int × Int)) × (Sl (Int × Int))) : List T := [Sl.t r56 x.1, Sl.t r56 x.2.1, Sl.t r56 x.2.2]
def r42 (x : Sl (Int) × Sl (Int)) : List T := [Sl.t r61 x.1, Sl.t r61 x.2]
def r46 (x : (Sl (Int × Int)) × (Sl (Int × Int))) : List T := [Sl.t r56 x.1, Sl.t r56 x.2]
def r3 (x : Int) : List T := [iT .i64 x]
theorem cv2_61_i64 (a : Int) : pureOf Try.prog (Go.convert 2 61 (.int .i64 a)) = some (.int .u64 (IntKind.u64.wrap a)) := by kernel_rfl
theorem cv3_90_i64 (a : Int) : pureOf Try.prog (Go.convert 3 90 (.int .i64 a)) = some (.int .u64 (IntKind.u64.wrap a)) := by kernel_rfl
theorem cv5_3_u8 (a : Int) : pureOf Try.prog (Go.convert 5 3 (.int .u8 a)) = some (.int .i64 (IntKind.i64.wrap a)) := by kernel_rfl
theorem cv61_2_u64 (a : Int) : pureOf Try.prog (Go.convert 61 2 (.int .u64 a)) = some (.int .i64 (IntKind.i64.wrap a)) := by kernel_rfl
end Ev
end Go.Proofs.Ytlcfdmjkbaegpaa
