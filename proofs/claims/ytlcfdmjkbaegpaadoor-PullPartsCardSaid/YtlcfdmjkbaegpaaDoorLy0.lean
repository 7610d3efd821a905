import Derived.Test.YtlcfdmjkbaegpaaDoorEvS5
import Derived.Test.YtlcfdmjkbaegpaaDoorProg
import Derived.Test.YtlcfdmjkbaegpaaDoorTz
namespace Go.Proofs.YtlcfdmjkbaegpaaDoor
namespace Ev
open Go
set_option linter.unusedVariables false
set_option linter.unusedSimpArgs false
set_option maxRecDepth 100000
set_option maxHeartbeats 1000000
attribute [local irreducible] OpsL StL TnL WpL EndL
theorem tz1 : tiOf Tryd.prog 1 = some (⟨.func #[] #[] false, [.nilFunc], 1, 8⟩ : TI) := by kernel_rfl
theorem tz2 : tiOf Tryd.prog 2 = some (⟨.int .i64, [.int .i64 0], 1, 8⟩ : TI) := by kernel_rfl
theorem tz3 : tiOf Tryd.prog 3 = some (⟨.int .i64, [.int .i64 0], 1, 8⟩ : TI) := by kernel_rfl
theorem tz4 : tiOf Tryd.prog 4 = some (⟨.bool, [.bool false], 1, 1⟩ : TI) := by kernel_rfl
theorem tz5 : tiOf Tryd.prog 5 = some (⟨.int .u8, [.int .u8 0], 1, 1⟩ : TI) := by kernel_rfl
theorem tz22 : tiOf Tryd.prog 22 = some (⟨.int .i64, [.int .i64 0], 1, 8⟩ : TI) := by kernel_rfl
theorem tz23 : tiOf Tryd.prog 23 = some (⟨.array 2 5, [.int .u8 0, .int .u8 0], 2, 2⟩ : TI) := by kernel_rfl
theorem tz24 : tiOf Tryd.prog 24 = some (⟨.slice 93, [.slice none 0 0], 1, 24⟩ : TI) := by kernel_rfl
theorem tz25 : tiOf Tryd.prog 25 = some (⟨.slice 71, [.slice none 0 0], 1, 24⟩ : TI) := by kernel_rfl
theorem tz26 : tiOf Tryd.prog 26 = some (⟨.slice 60, [.slice none 0 0], 1, 24⟩ : TI) := by kernel_rfl
theorem tz28 : tiOf Tryd.prog 28 = some (⟨.struct (flds Tryd.prog 28), [.int .i64 0, .int .u8 0, .int .u8 0, .slice none 0 0, .slice none 0 0, .slice none 0 0, .slice none 0 0, .bool false], 8, 120⟩ : TI) := by kernel_rfl
theorem tz29 : tiOf Tryd.prog 29 = some (⟨.slice 64, [.slice none 0 0], 1, 24⟩ : TI) := by kernel_rfl
theorem tz30 : tiOf Tryd.prog 30 = some (⟨.slice 3, [.slice none 0 0], 1, 24⟩ : TI) := by kernel_rfl
theorem tz31 : tiOf Tryd.prog 31 = some (⟨.slice 2, [.slice none 0 0], 1, 24⟩ : TI) := by kernel_rfl
theorem tz33 : tiOf Tryd.prog 33 = some (⟨.struct (flds Tryd.prog 33), [.int .i64 0, .int .i64 0, .slice none 0 0, .slice none 0 0, .slice none 0 0], 5, 88⟩ : TI) := by kernel_rfl
theorem pl33 : places (tiOf Tryd.prog) (⟨.struct (flds Tryd.prog 33), [.int .i64 0, .int .i64 0, .slice none 0 0, .slice none 0 0, .slice none 0 0], 5, 88⟩ : TI) = some fun i => ([(0, 1), (1, 1), (2, 1), (3, 1), (4, 1)] : List (Nat × Nat))[i]? := by kernel_rfl
theorem tz36 : tiOf Tryd.prog 36 = some (⟨.struct (flds Tryd.prog 36), [.int .i64 0, .slice none 0 0, .slice none 0 0], 3, 56⟩ : TI) := by kernel_rfl
theorem pl36 : places (tiOf Tryd.prog) (⟨.struct (flds Tryd.prog 36), [.int .i64 0, .slice none 0 0, .slice none 0 0], 3, 56⟩ : TI) = some fun i => ([(0, 1), (1, 1), (2, 1)] : List (Nat × Nat))[i]? := by kernel_rfl
theorem tz39 : tiOf Tryd.prog 39 = some (⟨.struct (flds Tryd.prog 39), [.int .i64 0, .slice none 0 0], 2, 32⟩ : TI) := by kernel_rfl
theorem pl39 : places (tiOf Tryd.prog) (⟨.struct (flds Tryd.prog 39), [.int .i64 0, .slice none 0 0], 2, 32⟩ : TI) = some fun i => ([(0, 1), (1, 1)] : List (Nat × Nat))[i]? := by kernel_rfl
theorem tz60 : tiOf Tryd.prog 60 = some (⟨.int .u64, [.int .u64 0], 1, 8⟩ : TI) := by kernel_rfl
theorem tz62 : tiOf Tryd.prog 62 = some (⟨.struct (flds Tryd.prog 62), [.int .i64 0, .int .u64 0], 2, 16⟩ : TI) := by kernel_rfl
theorem pl62 : places (tiOf Tryd.prog) (⟨.struct (flds Tryd.prog 62), [.int .i64 0, .int .u64 0], 2, 16⟩ : TI) = some fun i => ([(0, 1), (1, 1)] : List (Nat × Nat))[i]? := by kernel_rfl
theorem tz64 : tiOf Tryd.prog 64 = some (⟨.struct (flds Tryd.prog 64), [.int .i64 0, .int .i64 0, .int .u64 0], 3, 24⟩ : TI) := by kernel_rfl
theorem pl64 : places (tiOf Tryd.prog) (⟨.struct (flds Tryd.prog 64), [.int .i64 0, .int .i64 0, .int .u64 0], 3, 24⟩ : TI) = some fun i => ([(0, 1), (1, 2)] : List (Nat × Nat))[i]? := by kernel_rfl
theorem tz71 : tiOf Tryd.prog 71 = some (⟨.struct (flds Tryd.prog 71), [.int .i64 0, .int .i64 0], 2, 16⟩ : TI) := by kernel_rfl
theorem pl71 : places (tiOf Tryd.prog) (⟨.struct (flds Tryd.prog 71), [.int .i64 0, .int .i64 0], 2, 16⟩ : TI) = some fun i => ([(0, 1), (1, 1)] : List (Nat × Nat))[i]? := by kernel_rfl
theorem tz81 : tiOf Tryd.prog 81 = some (⟨.func #[3] #[62, 4] false, [.nilFunc], 1, 8⟩ : TI) := by kernel_rfl
theorem tz93 : tiOf Tryd.prog 93 = some (⟨.struct (flds Tryd.prog 93), [.int .i64 0, .int .i64 0, .int .i64 0], 3, 24⟩ : TI) := by kernel_rfl
theorem pl93 : places (tiOf Tryd.prog) (⟨.struct (flds Tryd.prog 93), [.int .i64 0, .int .i64 0, .int .i64 0], 3, 24⟩ : TI) = some fun i => ([(0, 1), (1, 1), (2, 1)] : List (Nat × Nat))[i]? := by kernel_rfl
theorem tz112 : tiOf Tryd.prog 112 = some (⟨.slice 114, [.slice none 0 0], 1, 24⟩ : TI) := by kernel_rfl
theorem tz114 : tiOf Tryd.prog 114 = some (⟨.struct (flds Tryd.prog 114), [.int .i64 0, .int .i64 0, .int .i64 0], 3, 24⟩ : TI) := by kernel_rfl
theorem pl114 : places (tiOf Tryd.prog) (⟨.struct (flds Tryd.prog 114), [.int .i64 0, .int .i64 0, .int .i64 0], 3, 24⟩ : TI) = some fun i => ([(0, 1), (1, 1), (2, 1)] : List (Nat × Nat))[i]? := by kernel_rfl
theorem tz122 : tiOf Tryd.prog 122 = some (⟨.array 4 60, [.int .u64 0, .int .u64 0, .int .u64 0, .int .u64 0], 4, 32⟩ : TI) := by kernel_rfl
theorem tz126 : tiOf Tryd.prog 126 = some (⟨.slice 62, [.slice none 0 0], 1, 24⟩ : TI) := by kernel_rfl
theorem sz1 : sizeAt (tiOf Tryd.prog) 1 = some (1, false) := by kernel_rfl
theorem sz2 : sizeAt (tiOf Tryd.prog) 2 = some (1, false) := by kernel_rfl
theorem sz3 : sizeAt (tiOf Tryd.prog) 3 = some (1, false) := by kernel_rfl
theorem sz4 : sizeAt (tiOf Tryd.prog) 4 = some (1, false) := by kernel_rfl
theorem sz5 : sizeAt (tiOf Tryd.prog) 5 = some (1, false) := by kernel_rfl
theorem sz22 : sizeAt (tiOf Tryd.prog) 22 = some (1, false) := by kernel_rfl
theorem sz23 : sizeAt (tiOf Tryd.prog) 23 = some (2, true) := by kernel_rfl
theorem sz24 : sizeAt (tiOf Tryd.prog) 24 = some (1, false) := by kernel_rfl
theorem el24 : elemAt (tiOf Tryd.prog) 24 = some 3 := by kernel_rfl
theorem sz25 : sizeAt (tiOf Tryd.prog) 25 = some (1, false) := by kernel_rfl
theorem el25 : elemAt (tiOf Tryd.prog) 25 = some 2 := by kernel_rfl
theorem sz26 : sizeAt (tiOf Tryd.prog) 26 = some (1, false) := by kernel_rfl
theorem el26 : elemAt (tiOf Tryd.prog) 26 = some 1 := by kernel_rfl
theorem sz28 : sizeAt (tiOf Tryd.prog) 28 = some (8, true) := by kernel_rfl
theorem fa28_0 : fieldAt (tiOf Tryd.prog) 28 0 = some (0, 1, false) := by kernel_rfl
theorem fa28_1 : fieldAt (tiOf Tryd.prog) 28 1 = some (1, 2, true) := by kernel_rfl
theorem fa28_2 : fieldAt (tiOf Tryd.prog) 28 2 = some (3, 1, false) := by kernel_rfl
theorem fa28_3 : fieldAt (tiOf Tryd.prog) 28 3 = some (4, 1, false) := by kernel_rfl
theorem fa28_5 : fieldAt (tiOf Tryd.prog) 28 5 = some (6, 1, false) := by kernel_rfl
theorem sz29 : sizeAt (tiOf Tryd.prog) 29 = some (1, false) := by kernel_rfl
theorem el29 : elemAt (tiOf Tryd.prog) 29 = some 3 := by kernel_rfl
theorem sz30 : sizeAt (tiOf Tryd.prog) 30 = some (1, false) := by kernel_rfl
theorem el30 : elemAt (tiOf Tryd.prog) 30 = some 1 := by kernel_rfl
theorem sz31 : sizeAt (tiOf Tryd.prog) 31 = some (1, false) := by kernel_rfl
theorem el31 : elemAt (tiOf Tryd.prog) 31 = some 1 := by kernel_rfl
theorem sz33 : sizeAt (tiOf Tryd.prog) 33 = some (5, true) := by kernel_rfl
theorem fa33_0 : fieldAt (tiOf Tryd.prog) 33 0 = some (0, 1, false) := by kernel_rfl
theorem fa33_1 : fieldAt (tiOf Tryd.prog) 33 1 = some (1, 1, false) := by kernel_rfl
theorem fa33_2 : fieldAt (tiOf Tryd.prog) 33 2 = some (2, 1, false) := by kernel_rfl
theorem fa33_3 : fieldAt (tiOf Tryd.prog) 33 3 = some (3, 1, false) := by kernel_rfl
theorem fa33_4 : fieldAt (tiOf Tryd.prog) 33 4 = some (4, 1, false) := by kernel_rfl
theorem sz36 : sizeAt (tiOf Tryd.prog) 36 = some (3, true) := by kernel_rfl
theorem fa36_0 : fieldAt (tiOf Tryd.prog) 36 0 = some (0, 1, false) := by kernel_rfl
theorem fa36_1 : fieldAt (tiOf Tryd.prog) 36 1 = some (1, 1, false) := by kernel_rfl
theorem fa36_2 : fieldAt (tiOf Tryd.prog) 36 2 = some (2, 1, false) := by kernel_rfl
theorem sz39 : sizeAt (tiOf Tryd.prog) 39 = some (2, true) := by kernel_rfl
theorem fa39_0 : fieldAt (tiOf Tryd.prog) 39 0 = some (0, 1, false) := by kernel_rfl
theorem fa39_1 : fieldAt (tiOf Tryd.prog) 39 1 = some (1, 1, false) := by kernel_rfl
theorem sz60 : sizeAt (tiOf Tryd.prog) 60 = some (1, false) := by kernel_rfl
theorem sz62 : sizeAt (tiOf Tryd.prog) 62 = some (2, true) := by kernel_rfl
theorem fa62_0 : fieldAt (tiOf Tryd.prog) 62 0 = some (0, 1, false) := by kernel_rfl
theorem fa62_1 : fieldAt (tiOf Tryd.prog) 62 1 = some (1, 1, false) := by kernel_rfl
theorem sz64 : sizeAt (tiOf Tryd.prog) 64 = some (3, true) := by kernel_rfl
theorem fa71_0 : fieldAt (tiOf Tryd.prog) 71 0 = some (0, 1, false) := by kernel_rfl
theorem fa71_1 : fieldAt (tiOf Tryd.prog) 71 1 = some (1, 1, false) := by kernel_rfl
theorem sz81 : sizeAt (tiOf Tryd.prog) 81 = some (1, false) := by kernel_rfl
theorem sz93 : sizeAt (tiOf Tryd.prog) 93 = some (3, true) := by kernel_rfl
theorem fa93_0 : fieldAt (tiOf Tryd.prog) 93 0 = some (0, 1, false) := by kernel_rfl
theorem fa93_1 : fieldAt (tiOf Tryd.prog) 93 1 = some (1, 1, false) := by kernel_rfl
theorem fa93_2 : fieldAt (tiOf Tryd.prog) 93 2 = some (2, 1, false) := by kernel_rfl
theorem el112 : elemAt (tiOf Tryd.prog) 112 = some 3 := by kernel_rfl
theorem sz114 : sizeAt (tiOf Tryd.prog) 114 = some (3, true) := by kernel_rfl
theorem fa114_0 : fieldAt (tiOf Tryd.prog) 114 0 = some (0, 1, false) := by kernel_rfl
theorem fa114_1 : fieldAt (tiOf Tryd.prog) 114 1 = some (1, 1, false) := by kernel_rfl
theorem fa114_2 : fieldAt (tiOf Tryd.prog) 114 2 = some (2, 1, false) := by kernel_rfl
theorem sz122 : sizeAt (tiOf Tryd.prog) 122 = some (4, true) := by kernel_rfl
theorem el126 : elemAt (tiOf Tryd.prog) 126 = some 2 := by kernel_rfl
theorem mixed0 : Tryd.prog.follows .mixedOrders = true := by kernel_rfl
theorem names0 : namesOk Tryd.prog = true := by kernel_rfl
def preAx : Ax := (addAx (fun _ => none) 96 tzF)
theorem preAx_ok : AxOk Tryd.prog preAx := (axOk_add (axOk_none _) tz_ok)
def inlF : List TD → Option (Kind × List TD) := fun _ => none
def inlAx : Ax := (addAx (addAx (addAx (addAx preAx 25 inlF) 41 inlF) 60 inlF) 97 inlF)
theorem inlAx_ok : AxOk Tryd.prog inlAx := (axOk_add (axOk_add (axOk_add (axOk_add preAx_ok fun vs kind rs h => by simp [inlF] at h) fun vs kind rs h => by simp [inlF] at h) fun vs kind rs h => by simp [inlF] at h) fun vs kind rs h => by simp [inlF] at h)
noncomputable def E0 : Env := envOf Tryd.prog inlAx
theorem E0_ok : E0.Ok := envOf_ok mixed0 names0 inlAx_ok
theorem live0 : (callers E0 300 60).1 18 [] = some (.fresh, [.one (.v (.bool true))]) := by kernel_rfl
def liveF : List TD → Option (Kind × List TD)
 | [] => some (.fresh, [.one (.v (.bool true))])
 | _ => none
def liveAx : Ax := addAx inlAx 18 liveF
noncomputable def E1 : Env := envOf Tryd.prog liveAx
theorem E1_ok : E1.Ok := envOf_ok mixed0 names0 (axOk_add inlAx_ok fun vs kind rs h => by
 unfold liveF at h
 split at h
 ·simp only [Option.some.injEq, Prod.mk.injEq] at h
  obtain ⟨rfl, rfl⟩ := h
  exact (callers_ok E0_ok 300 60).1 _ _ _ _ live0
 ·simp at h)
theorem E1_fn : E1.fn = fiOf Tryd.prog := envOf_fn _ _
def FL : Option Bool := some true
theorem FL_r (m : Nat) {out : Bool} (h : FL = some out) : RunsP E1 (m + 1) 18 [] (.fresh, [.one (bT out)]) := by
 obtain rfl := Option.some.inj h
 exact runsP_ax (F := liveF) rfl rfl
theorem TZ_r (m : Nat) {n1 : Int} {out : Int} (h : TZ n1 = some out) : RunsP E1 (m + 1) 96 [.one (iT .u64 n1)] (.fresh, [.one (iT .i64 out)]) := by
 unfold TZ at h
 split at h
 ·rename_i hx
  obtain rfl := Option.some.inj h
  exact runsP_ax (F := tzF) rfl (by show tzF [.one (.v (.int .u64 n1))] = _; unfold tzF; simp only; exact if_pos hx)
 ·simp at h
theorem ax25 : E1.ax 25 = some fun _ => none := rfl
theorem ax41 : E1.ax 41 = some fun _ => none := rfl
theorem ax60 : E1.ax 60 = some fun _ => none := rfl
theorem ax97 : E1.ax 97 = some fun _ => none := rfl
theorem ty1 : E1.ti 1 = some (⟨.func #[] #[] false, [.nilFunc], 1, 8⟩ : TI) := tz1
theorem ty2 : E1.ti 2 = some (⟨.int .i64, [.int .i64 0], 1, 8⟩ : TI) := tz2
theorem ty3 : E1.ti 3 = some (⟨.int .i64, [.int .i64 0], 1, 8⟩ : TI) := tz3
theorem ty4 : E1.ti 4 = some (⟨.bool, [.bool false], 1, 1⟩ : TI) := tz4
theorem ty5 : E1.ti 5 = some (⟨.int .u8, [.int .u8 0], 1, 1⟩ : TI) := tz5
theorem ty22 : E1.ti 22 = some (⟨.int .i64, [.int .i64 0], 1, 8⟩ : TI) := tz22
theorem ty23 : E1.ti 23 = some (⟨.array 2 5, [.int .u8 0, .int .u8 0], 2, 2⟩ : TI) := tz23
theorem ty24 : E1.ti 24 = some (⟨.slice 93, [.slice none 0 0], 1, 24⟩ : TI) := tz24
theorem ty25 : E1.ti 25 = some (⟨.slice 71, [.slice none 0 0], 1, 24⟩ : TI) := tz25
theorem ty26 : E1.ti 26 = some (⟨.slice 60, [.slice none 0 0], 1, 24⟩ : TI) := tz26
theorem ty28 : E1.ti 28 = some (⟨.struct (flds Tryd.prog 28), [.int .i64 0, .int .u8 0, .int .u8 0, .slice none 0 0, .slice none 0 0, .slice none 0 0, .slice none 0 0, .bool false], 8, 120⟩ : TI) := tz28
theorem ty29 : E1.ti 29 = some (⟨.slice 64, [.slice none 0 0], 1, 24⟩ : TI) := tz29
theorem ty30 : E1.ti 30 = some (⟨.slice 3, [.slice none 0 0], 1, 24⟩ : TI) := tz30
theorem ty31 : E1.ti 31 = some (⟨.slice 2, [.slice none 0 0], 1, 24⟩ : TI) := tz31
theorem ty33 : E1.ti 33 = some (⟨.struct (flds Tryd.prog 33), [.int .i64 0, .int .i64 0, .slice none 0 0, .slice none 0 0, .slice none 0 0], 5, 88⟩ : TI) := tz33
theorem ty36 : E1.ti 36 = some (⟨.struct (flds Tryd.prog 36), [.int .i64 0, .slice none 0 0, .slice none 0 0], 3, 56⟩ : TI) := tz36
theorem ty39 : E1.ti 39 = some (⟨.struct (flds Tryd.prog 39), [.int .i64 0, .slice none 0 0], 2, 32⟩ : TI) := tz39
theorem ty60 : E1.ti 60 = some (⟨.int .u64, [.int .u64 0], 1, 8⟩ : TI) := tz60
theorem ty62 : E1.ti 62 = some (⟨.struct (flds Tryd.prog 62), [.int .i64 0, .int .u64 0], 2, 16⟩ : TI) := tz62
theorem ty64 : E1.ti 64 = some (⟨.struct (flds Tryd.prog 64), [.int .i64 0, .int .i64 0, .int .u64 0], 3, 24⟩ : TI) := tz64
theorem ty71 : E1.ti 71 = some (⟨.struct (flds Tryd.prog 71), [.int .i64 0, .int .i64 0], 2, 16⟩ : TI) := tz71
theorem ty81 : E1.ti 81 = some (⟨.func #[3] #[62, 4] false, [.nilFunc], 1, 8⟩ : TI) := tz81
theorem ty93 : E1.ti 93 = some (⟨.struct (flds Tryd.prog 93), [.int .i64 0, .int .i64 0, .int .i64 0], 3, 24⟩ : TI) := tz93
theorem ty112 : E1.ti 112 = some (⟨.slice 114, [.slice none 0 0], 1, 24⟩ : TI) := tz112
theorem ty114 : E1.ti 114 = some (⟨.struct (flds Tryd.prog 114), [.int .i64 0, .int .i64 0, .int .i64 0], 3, 24⟩ : TI) := tz114
theorem ty122 : E1.ti 122 = some (⟨.array 4 60, [.int .u64 0, .int .u64 0, .int .u64 0, .int .u64 0], 4, 32⟩ : TI) := tz122
theorem ty126 : E1.ti 126 = some (⟨.slice 62, [.slice none 0 0], 1, 24⟩ : TI) := tz126
end Ev
end Go.Proofs.YtlcfdmjkbaegpaaDoor
