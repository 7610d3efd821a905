import Derived.Test.YtjomjfjbpcafhaaDoorLyV
namespace Go.Proofs.YtjomjfjbpcafhaaDoor
namespace Ev
open Go
set_option linter.unusedVariables false
set_option linter.unusedSimpArgs false
set_option maxRecDepth 100000
set_option maxHeartbeats 1000000
attribute [local irreducible] OpsL StL TnL WpL EndL
theorem memo_22_0 : (callers E0 300 60).1 22 [d70, .one (iT .i64 (65))] = some (.fresh, [.one (iT .i64 (9)), .one (.v (.bool true))]) := by kernel_rfl
theorem memo_18_0 : (callers E0 300 60).1 18 [v70] = some (.fresh, [d70]) := by kernel_rfl
theorem memo_26_0 : (callers E0 300 60).1 26 [d70, .one (iT .i64 (65))] = some (.fresh, [n70]) := by kernel_rfl
end Ev
end Go.Proofs.YtjomjfjbpcafhaaDoor
