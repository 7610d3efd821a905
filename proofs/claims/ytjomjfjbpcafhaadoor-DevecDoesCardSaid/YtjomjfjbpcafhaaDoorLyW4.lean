import Derived.Test.YtjomjfjbpcafhaaDoorLyV
namespace Go.Proofs.YtjomjfjbpcafhaaDoor
namespace Ev
open Go
set_option linter.unusedVariables false
set_option linter.unusedSimpArgs false
set_option maxRecDepth 100000
set_option maxHeartbeats 1000000
attribute [local irreducible] OpsL StL TnL WpL EndL
theorem memo_15_0 : (callers E0 300 60).1 15 [d70] = some (.fresh, [v70]) := by kernel_rfl
theorem memo_35_1 : (callers E0 300 60).1 35 [d70, n70] = some (.fresh, [.one (.v (.bool false))]) := by kernel_rfl
theorem memo_32_0 : (callers E0 300 60).1 32 [d70, .one (iT .i64 (60)), .one (iT .i64 (70))] = some (.fresh, [p10]) := by kernel_rfl
end Ev
end Go.Proofs.YtjomjfjbpcafhaaDoor
