import Derived.Test.YtjomjfjbpcafhaaDoorLy0
namespace Go.Proofs.YtjomjfjbpcafhaaDoor
namespace Ev
open Go
set_option linter.unusedVariables false
set_option linter.unusedSimpArgs false
set_option maxRecDepth 100000
set_option maxHeartbeats 1000000
attribute [local irreducible] OpsL StL TnL WpL EndL
def r38 (x : Int × Int) : List T := [iT .i64 x.1, iT .i64 x.2]
def r27 (x : Int × (Sl (Int × Int))) : List T := [iT .i64 x.1, Sl.t r38 x.2]
def r85 (x : Int) : List T := [iT .u64 x]
def r2 (x : Int) : List T := [iT .i64 x]
def r24 (x : Int × Sl (Int) × Sl (Int)) : List T := [iT .i64 x.1, Sl.t r85 x.2.1, Sl.t r2 x.2.2]
def r3 (x : Int) : List T := [iT .i64 x]
def r40 (x : (Int × Int) × (Int × Int)) : List T := [iT .i64 x.1.1, iT .i64 x.1.2, iT .i64 x.2.1, iT .i64 x.2.2]
def r108 (x : Int × Int × Int) : List T := [iT .i64 x.1, iT .i64 x.2.1, iT .i64 x.2.2]
def r117 (x : Int × Int) : List T := [iT .i64 x.1, iT .u64 x.2]
theorem cv2_85_i64 (a : Int) : pureOf Tryd.prog (Go.convert 2 85 (.int .i64 a)) = some (.int .u64 (IntKind.u64.wrap a)) := by kernel_rfl
theorem cv3_97_i64 (a : Int) : pureOf Tryd.prog (Go.convert 3 97 (.int .i64 a)) = some (.int .u64 (IntKind.u64.wrap a)) := by kernel_rfl
theorem cv5_3_u8 (a : Int) : pureOf Tryd.prog (Go.convert 5 3 (.int .u8 a)) = some (.int .i64 (IntKind.i64.wrap a)) := by kernel_rfl
theorem cv85_2_u64 (a : Int) : pureOf Tryd.prog (Go.convert 85 2 (.int .u64 a)) = some (.int .i64 (IntKind.i64.wrap a)) := by kernel_rfl
end Ev
end Go.Proofs.YtjomjfjbpcafhaaDoor
