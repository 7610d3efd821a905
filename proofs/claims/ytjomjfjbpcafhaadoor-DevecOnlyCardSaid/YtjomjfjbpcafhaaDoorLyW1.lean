import Derived.Test.YtjomjfjbpcafhaaDoorLyV
namespace Go.Proofs.YtjomjfjbpcafhaaDoor
namespace Ev
open Go
set_option linter.unusedVariables false
set_option linter.unusedSimpArgs false
set_option maxRecDepth 100000
set_option maxHeartbeats 1000000
attribute [local irreducible] OpsL StL TnL WpL EndL
theorem memo_24_0 : (callers E0 300 60).1 24 [n70, .one (iT .i64 (65)), .one (iT .i64 (9))] = some (.fresh, [d70]) := by kernel_rfl
theorem memo_28_1 : (callers E0 300 60).1 28 [n70] = some (.fresh, [.one (iT .i64 (0))]) := by kernel_rfl
theorem memo_12_1 : (callers E0 300 60).1 12 [.agg [iT .i64 1, .s false 0 [], .s false 0 []]] = some (.fresh, [.one (.v (.bool false))]) := by kernel_rfl
end Ev
end Go.Proofs.YtjomjfjbpcafhaaDoor
