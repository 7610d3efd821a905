import Derived.Test.YtjomjfjbpcafhaaDoorLyV
namespace Go.Proofs.YtjomjfjbpcafhaaDoor
namespace Ev
open Go
set_option linter.unusedVariables false
set_option linter.unusedSimpArgs false
set_option maxRecDepth 100000
set_option maxHeartbeats 1000000
attribute [local irreducible] OpsL StL TnL WpL EndL
theorem memo_22_1 : (callers E0 300 60).1 22 [d70, .one (iT .i64 (1))] = some (.fresh, [.one (iT .i64 (0)), .one (.v (.bool false))]) := by kernel_rfl
theorem memo_35_0 : (callers E0 300 60).1 35 [d70, d70] = some (.fresh, [.one (.v (.bool true))]) := by kernel_rfl
theorem memo_30_0 : (callers E0 300 60).1 30 [d70, .one (.s false 0 [])] = some (.fresh, [n70]) := by kernel_rfl
end Ev
end Go.Proofs.YtjomjfjbpcafhaaDoor
