import Derived.Test.YtjomjfjbpcafhaaDoorLf1
import Derived.Test.YtjomjfjbpcafhaaDoorLf10
import Derived.Test.YtjomjfjbpcafhaaDoorLf2
import Derived.Test.YtjomjfjbpcafhaaDoorLf3
import Derived.Test.YtjomjfjbpcafhaaDoorLf5
import Derived.Test.YtjomjfjbpcafhaaDoorLf8
namespace Go.Proofs.YtjomjfjbpcafhaaDoor
namespace Ev
open Go
set_option linter.unusedVariables false
set_option linter.unusedSimpArgs false
set_option maxRecDepth 100000
set_option maxHeartbeats 1000000
attribute [local irreducible] OpsL StL TnL WpL EndL
noncomputable def runAx (k : FuncId) : List TD → Option (Kind × List TD) := fun vs => cpR E1 60 k vs
theorem runAx_ok (k : FuncId) (he : Enters Tryd.prog k) (vs : List TD) (kind : Kind) (rs : List TD) (h : runAx k vs = some (kind, rs)) : PureOk Tryd.prog k vs kind rs ∧ Enters Tryd.prog k := ⟨(cpR_runs h).pure E1_ok, he⟩
noncomputable def ax3 : Ax := (addAx (addAx (addAx (addAx (addAx (addAx (addAx (addAx (addAx (addAx (addAx (addAx (addAx (fun _ => none) 59 (runAx 59)) 60 (runAx 60)) 9 (runAx 9)) 10 (runAx 10)) 11 (runAx 11)) 12 (runAx 12)) 13 (runAx 13)) 15 (runAx 15)) 16 (runAx 16)) 14 (runAx 14)) 18 (runAx 18)) 19 (runAx 19)) 17 (runAx 17))
noncomputable def EP : Env := envOf Tryd.prog ax3
theorem EP_ok : EP.Ok := envOf_ok mixed0 names0 (axOk_add (axOk_add (axOk_add (axOk_add (axOk_add (axOk_add (axOk_add (axOk_add (axOk_add (axOk_add (axOk_add (axOk_add (axOk_add (axOk_none _) (runAx_ok 59 ⟨_, _, Tryd.func59, by kernel_rfl, by unfold Tryd.f59; rfl⟩)) (runAx_ok 60 ⟨_, _, Tryd.func60, by kernel_rfl, by unfold Tryd.f60; rfl⟩)) (runAx_ok 9 ⟨_, _, Tryd.func9, by kernel_rfl, by unfold Tryd.f9; rfl⟩)) (runAx_ok 10 ⟨_, _, Tryd.func10, by kernel_rfl, by unfold Tryd.f10; rfl⟩)) (runAx_ok 11 ⟨_, _, Tryd.func11, by kernel_rfl, by unfold Tryd.f11; rfl⟩)) (runAx_ok 12 ⟨_, _, Tryd.func12, by kernel_rfl, by unfold Tryd.f12; rfl⟩)) (runAx_ok 13 ⟨_, _, Tryd.func13, by kernel_rfl, by unfold Tryd.f13; rfl⟩)) (runAx_ok 15 ⟨_, _, Tryd.func15, by kernel_rfl, by unfold Tryd.f15; rfl⟩)) (runAx_ok 16 ⟨_, _, Tryd.func16, by kernel_rfl, by unfold Tryd.f16; rfl⟩)) (runAx_ok 14 ⟨_, _, Tryd.func14, by kernel_rfl, by unfold Tryd.f14; rfl⟩)) (runAx_ok 18 ⟨_, _, Tryd.func18, by kernel_rfl, by unfold Tryd.f18; rfl⟩)) (runAx_ok 19 ⟨_, _, Tryd.func19, by kernel_rfl, by unfold Tryd.f19; rfl⟩)) (runAx_ok 17 ⟨_, _, Tryd.func17, by kernel_rfl, by unfold Tryd.f17; rfl⟩))
theorem EP_fn : EP.fn = fiOf Tryd.prog := envOf_fn _ _
theorem flags_New_r3 (m : Nat) {n1 : Int} {out : List (Int)} (h : flags_New n1 = some out) : RunsP EP (m + 1) 59 [.one (iT .i64 n1)] (.own, [.one (.s true 1 ((out).map r85))]) := runsP_ax (F := runAx 59) rfl (cpR_eq (flags_New_r 58 h))
theorem ref03_New_r3 (m : Nat) {n1 : Int} {out : List (Int)} (h : ref03_New n1 = some out) : RunsP EP (m + 1) 60 [.one (iT .i64 n1)] (.own, [.one (.s true 1 ((out).map r85))]) := runsP_ax (F := runAx 60) rfl (cpR_eq (ref03_New_r 58 h))
theorem law09_Few_r3 (m : Nat) {a0 : Int × (Sl (Int × Int))} {out : (Int × (Sl (Int × Int)))} (h : law09_Few a0 = some out) : RunsX EP (m + 1) 9 [.agg (r27 a0)] [.agg (r27 out)] := let ⟨fr, hf⟩ := law09_Few_r 59 h; ⟨fr, runsP_ax (F := runAx 9) rfl (cpR_eq hf)⟩
theorem FL_r3 (m : Nat) {out : Bool} (h : FL = some out) : RunsP EP (m + 1) 10 [] (.fresh, [.one (bT out)]) := runsP_ax (F := runAx 10) rfl (cpR_eq (FL_r 59 h))
theorem law10_small_r3 (m : Nat) {a0 : Int × Sl (Int) × Sl (Int)} {out : Bool} (h : law10_small a0 = some out) : RunsP EP (m + 1) 11 [.agg (r24 a0)] (.fresh, [.one (bT out)]) := runsP_ax (F := runAx 11) rfl (cpR_eq (law10_small_r 59 h))
theorem devec_Right_r3 (m : Nat) {a0 : Int × Sl (Int) × Sl (Int)} {out : Bool} (h : devec_Right a0 = some out) : RunsP EP (m + 1) 12 [.agg (r24 a0)] (.fresh, [.one (bT out)]) := runsP_ax (F := runAx 12) rfl (cpR_eq (devec_Right_r 55 h))
theorem ref10_Right_r3 (m : Nat) {a0 : Int × Sl (Int) × Sl (Int)} {out : Bool} (h : ref10_Right a0 = some out) : RunsP EP (m + 1) 13 [.agg (r24 a0)] (.fresh, [.one (bT out)]) := runsP_ax (F := runAx 13) rfl (cpR_eq (ref10_Right_r 56 h))
theorem devec_Back_r3 (m : Nat) {a0 : Int × Sl (Int) × Sl (Int)} {out : (Int × (Sl (Int × Int)))} (h : devec_Back a0 = some out) : RunsP EP (m + 1) 15 [.agg (r24 a0)] (.fresh, [.agg (r27 out)]) := runsP_ax (F := runAx 15) rfl (cpR_eq (devec_Back_r 53 h))
theorem ref10_Back_r3 (m : Nat) {a0 : Int × Sl (Int) × Sl (Int)} {out : (Int × (Sl (Int × Int)))} (h : ref10_Back a0 = some out) : RunsP EP (m + 1) 16 [.agg (r24 a0)] (.fresh, [.agg (r27 out)]) := runsP_ax (F := runAx 16) rfl (cpR_eq (ref10_Back_r 55 h))
theorem ref09_Same_r3 (m : Nat) {a0 : Int × (Sl (Int × Int))} {a1 : Int × (Sl (Int × Int))} {out : Bool} (h : ref09_Same a0 a1 = some out) : RunsP EP (m + 1) 14 [.agg (r27 a0), .agg (r27 a1)] (.fresh, [.one (bT out)]) := runsP_ax (F := runAx 14) rfl (cpR_eq (ref09_Same_r 58 h))
theorem devec_Of_r3 (m : Nat) {a0 : Int × (Sl (Int × Int))} {out : (Int × Sl (Int) × Sl (Int))} (h : devec_Of a0 = some out) : RunsP EP (m + 1) 18 [.agg (r27 a0)] (.fresh, [.agg (r24 out)]) := runsP_ax (F := runAx 18) rfl (cpR_eq (devec_Of_r 55 h))
theorem ref10_Of_r3 (m : Nat) {a0 : Int × (Sl (Int × Int))} {out : (Int × Sl (Int) × Sl (Int))} (h : ref10_Of a0 = some out) : RunsP EP (m + 1) 19 [.agg (r27 a0)] (.fresh, [.agg (r24 out)]) := runsP_ax (F := runAx 19) rfl (cpR_eq (ref10_Of_r 56 h))
theorem ref10_Same_r3 (m : Nat) {a0 : Int × Sl (Int) × Sl (Int)} {a1 : Int × Sl (Int) × Sl (Int)} {out : Bool} (h : ref10_Same a0 a1 = some out) : RunsP EP (m + 1) 17 [.agg (r24 a0), .agg (r24 a1)] (.fresh, [.one (bT out)]) := runsP_ax (F := runAx 17) rfl (cpR_eq (ref10_Same_r 58 h))
end Ev
end Go.Proofs.YtjomjfjbpcafhaaDoor
