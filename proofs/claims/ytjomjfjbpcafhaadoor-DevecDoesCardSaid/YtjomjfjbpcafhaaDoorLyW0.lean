import Derived.Test.YtjomjfjbpcafhaaDoorLyV
namespace Go.Proofs.YtjomjfjbpcafhaaDoor
namespace Ev
open Go
set_option linter.unusedVariables false
set_option linter.unusedSimpArgs false
set_option maxRecDepth 100000
set_option maxHeartbeats 1000000
attribute [local irreducible] OpsL StL TnL WpL EndL
theorem memo_20_0 : (callers E00 300 60).1 20 [.one (iT .i64 (70))] = some (.fresh, [n70]) := by kernel_rfl
theorem memo_28_0 : (callers E0 300 60).1 28 [d70] = some (.fresh, [.one (iT .i64 (1))]) := by kernel_rfl
theorem memo_12_0 : (callers E0 300 60).1 12 [d70] = some (.fresh, [.one (.v (.bool true))]) := by kernel_rfl
end Ev
end Go.Proofs.YtjomjfjbpcafhaaDoor
