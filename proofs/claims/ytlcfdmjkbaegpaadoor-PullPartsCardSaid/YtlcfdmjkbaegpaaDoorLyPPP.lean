import Derived.Test.YtlcfdmjkbaegpaaDoorLf2
import Derived.Test.YtlcfdmjkbaegpaaDoorLf4
import Derived.Test.YtlcfdmjkbaegpaaDoorLf8
namespace Go.Proofs.YtlcfdmjkbaegpaaDoor
namespace Ev
open Go
set_option linter.unusedVariables false
set_option linter.unusedSimpArgs false
set_option maxRecDepth 100000
set_option maxHeartbeats 1000000
attribute [local irreducible] OpsL StL TnL WpL EndL
noncomputable def runAx (k : FuncId) : List TD → Option (Kind × List TD) := fun vs => cpR E1 60 k vs
theorem runAx_ok (k : FuncId) (he : Enters Tryd.prog k) (vs : List TD) (kind : Kind) (rs : List TD) (h : runAx k vs = some (kind, rs)) : PureOk Tryd.prog k vs kind rs ∧ Enters Tryd.prog k := ⟨(cpR_runs h).pure E1_ok, he⟩
noncomputable def ax3 : Ax := (addAx (addAx (addAx (addAx (addAx (addAx (addAx (addAx (fun _ => none) 58 (runAx 58)) 21 (runAx 21)) 8 (runAx 8)) 10 (runAx 10)) 9 (runAx 9)) 11 (runAx 11)) 12 (runAx 12)) 18 (runAx 18))
noncomputable def EP : Env := envOf Tryd.prog ax3
theorem EP_ok : EP.Ok := envOf_ok mixed0 names0 (axOk_add (axOk_add (axOk_add (axOk_add (axOk_add (axOk_add (axOk_add (axOk_add (axOk_none _) (runAx_ok 58 ⟨_, _, Tryd.func58, by kernel_rfl, by unfold Tryd.f58; rfl⟩)) (runAx_ok 21 ⟨_, _, Tryd.func21, by kernel_rfl, by unfold Tryd.f21; rfl⟩)) (runAx_ok 8 ⟨_, _, Tryd.func8, by kernel_rfl, by unfold Tryd.f8; rfl⟩)) (runAx_ok 10 ⟨_, _, Tryd.func10, by kernel_rfl, by unfold Tryd.f10; rfl⟩)) (runAx_ok 9 ⟨_, _, Tryd.func9, by kernel_rfl, by unfold Tryd.f9; rfl⟩)) (runAx_ok 11 ⟨_, _, Tryd.func11, by kernel_rfl, by unfold Tryd.f11; rfl⟩)) (runAx_ok 12 ⟨_, _, Tryd.func12, by kernel_rfl, by unfold Tryd.f12; rfl⟩)) (runAx_ok 18 ⟨_, _, Tryd.func18, by kernel_rfl, by unfold Tryd.f18; rfl⟩))
theorem EP_fn : EP.fn = fiOf Tryd.prog := envOf_fn _ _
theorem ref03_New_r3 (m : Nat) {n1 : Int} {out : List (Int)} (h : ref03_New n1 = some out) : RunsP EP (m + 1) 58 [.one (iT .i64 n1)] (.own, [.one (.s true 1 ((out).map r60))]) := runsP_ax (F := runAx 58) rfl (cpR_eq (ref03_New_r 58 h))
theorem law13_Right_r3 (m : Nat) {n1 : Int} {out : Int} (h : law13_Right n1 = some out) : RunsP EP (m + 1) 21 [.one (iT .i64 n1)] (.fresh, [.one (iT .i64 out)]) := runsP_ax (F := runAx 21) rfl (cpR_eq (law13_Right_r 59 h))
theorem law13_Task_Matrix_r3 (m : Nat) {a0 : Int × (Int × Int) × (Sl (Int × Int × Int)) × (Sl (Int × Int)) × (Sl (Int × Int)) × Sl (Int) × Bool} {out : (Int × Int × Sl (Int) × Sl (Int) × Sl (Int))} (h : law13_Task_Matrix a0 = some out) : RunsP EP (m + 1) 8 [.agg (r27 a0)] (.fresh, [.agg (r32 out)]) := runsP_ax (F := runAx 8) rfl (cpR_eq (law13_Task_Matrix_r 54 h))
theorem law13_Task_Vector_r3 (m : Nat) {a0 : Int × (Int × Int) × (Sl (Int × Int × Int)) × (Sl (Int × Int)) × (Sl (Int × Int)) × Sl (Int) × Bool} {s9 : Sl (Int × Int)} {out : (Int × (Sl (Int × Int)))} (h : law13_Task_Vector a0 s9 = some out) : RunsP EP (m + 1) 10 [.agg (r27 a0), .one (Sl.t r70 s9)] (.fresh, [.agg (r38 out)]) := runsP_ax (F := runAx 10) rfl (cpR_eq (law13_Task_Vector_r 54 h))
theorem ref10_Of_r3 (m : Nat) {a0 : Int × (Sl (Int × Int))} {out : (Int × Sl (Int) × Sl (Int))} (h : ref10_Of a0 = some out) : RunsP EP (m + 1) 9 [.agg (r38 a0)] (.fresh, [.agg (r35 out)]) := runsP_ax (F := runAx 9) rfl (cpR_eq (ref10_Of_r 56 h))
theorem law13_Task_Rows_r3 (m : Nat) {a0 : Int × (Int × Int) × (Sl (Int × Int × Int)) × (Sl (Int × Int)) × (Sl (Int × Int)) × Sl (Int) × Bool} {out : Sl (Int)} (h : law13_Task_Rows a0 = some out) : RunsX EP (m + 1) 11 [.agg (r27 a0)] [.one (Sl.t r60 out)] := let ⟨fr, hf⟩ := law13_Task_Rows_r 59 h; ⟨fr, runsP_ax (F := runAx 11) rfl (cpR_eq hf)⟩
theorem pull_Sums_r3 (m : Nat) {n1 : Int} {a1 : Int × Int × Sl (Int) × Sl (Int) × Sl (Int)} {a2 : Int × Sl (Int) × Sl (Int)} {s10 : Sl (Int)} {b11 : Bool} {out : (Sl (Int × (Int × Int))) × Int} (h : pull_Sums n1 a1 a2 s10 b11 = some out) : RunsP EP (m + 1) 12 [.one (iT .i64 n1), .agg (r32 a1), .agg (r35 a2), .one (Sl.t r60 s10), .one (bT b11)] (.fresh, [.one (Sl.t r63 out.1), .one (iT .i64 out.2)]) := runsP_ax (F := runAx 12) rfl (cpR_eq (pull_Sums_r 54 h))
theorem FL_r3 (m : Nat) {out : Bool} (h : FL = some out) : RunsP EP (m + 1) 18 [] (.fresh, [.one (bT out)]) := runsP_ax (F := runAx 18) rfl (cpR_eq (FL_r 59 h))
end Ev
end Go.Proofs.YtlcfdmjkbaegpaaDoor
