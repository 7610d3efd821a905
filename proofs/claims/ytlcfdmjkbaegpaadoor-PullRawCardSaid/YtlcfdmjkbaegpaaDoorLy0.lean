import Derived.Test.YtlcfdmjkbaegpaaDoorEvS5
import Derived.Test.YtlcfdmjkbaegpaaDoorProg
import Derived.Test.YtlcfdmjkbaegpaaDoorTz
namespace Go.Proofs.YtlcfdmjkbaegpaaDoor
namespace Ev
open Go
set_option linter.unusedVariables false
set_option linter.unusedSimpArgs false
set_option maxRecDepth 100000
set_option maxHeartbeats 1000000
attribute [local irreducible] OpsL StL TnL WpL EndL
theorem tz1 : tiOf Tryd.prog 1 = some (⟨.func #[] #[] false, [.nilFunc], 1, 8⟩ : TI) := by kernel_rfl
theorem tz2 : tiOf Tryd.prog 2 = some (⟨.int .i64, [.int .i64 0], 1, 8⟩ : TI) := by kernel_rfl
theorem tz3 : tiOf Tryd.prog 3 = some (⟨.int .i64, [.int .i64 0], 1, 8⟩ : TI) := by kernel_rfl
theorem tz4 : tiOf Tryd.prog 4 = some (⟨.bool, [.bool false], 1, 1⟩ : TI) := by kernel_rfl
theorem tz5 : tiOf Tryd.prog 5 = some (⟨.int .u8, [.int .u8 0], 1, 1⟩ : TI) := by kernel_rfl
theorem tz6 : tiOf Tryd.prog 6 = some (⟨.int .u8, [.int .u8 0], 1, 1⟩ : TI) := by kernel_rfl
theorem tz7 : tiOf Tryd.prog 7 = some (⟨.struct (flds Tryd.prog 7), [.int .i64 0, .int .i64 0, .bool false, .int .u8 0], 4, 24⟩ : TI) := by kernel_rfl
theorem fo7_0 : fieldOf (⟨.struct (flds Tryd.prog 7), [.int .i64 0, .int .i64 0, .bool false, .int .u8 0], 4, 24⟩ : TI) 0 = some (fld Tryd.prog 7 0) := by kernel_rfl
theorem ft7_0 : (fld Tryd.prog 7 0).type = 2 := by kernel_rfl
theorem fp7_0 : (fld Tryd.prog 7 0).offset = 0 := by kernel_rfl
theorem fo7_1 : fieldOf (⟨.struct (flds Tryd.prog 7), [.int .i64 0, .int .i64 0, .bool false, .int .u8 0], 4, 24⟩ : TI) 1 = some (fld Tryd.prog 7 1) := by kernel_rfl
theorem ft7_1 : (fld Tryd.prog 7 1).type = 3 := by kernel_rfl
theorem fp7_1 : (fld Tryd.prog 7 1).offset = 1 := by kernel_rfl
theorem fo7_2 : fieldOf (⟨.struct (flds Tryd.prog 7), [.int .i64 0, .int .i64 0, .bool false, .int .u8 0], 4, 24⟩ : TI) 2 = some (fld Tryd.prog 7 2) := by kernel_rfl
theorem ft7_2 : (fld Tryd.prog 7 2).type = 4 := by kernel_rfl
theorem fp7_2 : (fld Tryd.prog 7 2).offset = 2 := by kernel_rfl
theorem fo7_3 : fieldOf (⟨.struct (flds Tryd.prog 7), [.int .i64 0, .int .i64 0, .bool false, .int .u8 0], 4, 24⟩ : TI) 3 = some (fld Tryd.prog 7 3) := by kernel_rfl
theorem ft7_3 : (fld Tryd.prog 7 3).type = 6 := by kernel_rfl
theorem fp7_3 : (fld Tryd.prog 7 3).offset = 3 := by kernel_rfl
theorem pl7 : places (tiOf Tryd.prog) (⟨.struct (flds Tryd.prog 7), [.int .i64 0, .int .i64 0, .bool false, .int .u8 0], 4, 24⟩ : TI) = some fun i => ([(0, 1), (1, 1), (2, 1), (3, 1)] : List (Nat × Nat))[i]? := by kernel_rfl
theorem tz8 : tiOf Tryd.prog 8 = some (⟨.struct (flds Tryd.prog 8), [.int .i64 0, .int .i64 0, .bool false, .int .u8 0], 4, 24⟩ : TI) := by kernel_rfl
theorem fo8_0 : fieldOf (⟨.struct (flds Tryd.prog 8), [.int .i64 0, .int .i64 0, .bool false, .int .u8 0], 4, 24⟩ : TI) 0 = some (fld Tryd.prog 8 0) := by kernel_rfl
theorem ft8_0 : (fld Tryd.prog 8 0).type = 2 := by kernel_rfl
theorem fp8_0 : (fld Tryd.prog 8 0).offset = 0 := by kernel_rfl
theorem fo8_1 : fieldOf (⟨.struct (flds Tryd.prog 8), [.int .i64 0, .int .i64 0, .bool false, .int .u8 0], 4, 24⟩ : TI) 1 = some (fld Tryd.prog 8 1) := by kernel_rfl
theorem ft8_1 : (fld Tryd.prog 8 1).type = 3 := by kernel_rfl
theorem fp8_1 : (fld Tryd.prog 8 1).offset = 1 := by kernel_rfl
theorem fo8_2 : fieldOf (⟨.struct (flds Tryd.prog 8), [.int .i64 0, .int .i64 0, .bool false, .int .u8 0], 4, 24⟩ : TI) 2 = some (fld Tryd.prog 8 2) := by kernel_rfl
theorem ft8_2 : (fld Tryd.prog 8 2).type = 4 := by kernel_rfl
theorem fp8_2 : (fld Tryd.prog 8 2).offset = 2 := by kernel_rfl
theorem fo8_3 : fieldOf (⟨.struct (flds Tryd.prog 8), [.int .i64 0, .int .i64 0, .bool false, .int .u8 0], 4, 24⟩ : TI) 3 = some (fld Tryd.prog 8 3) := by kernel_rfl
theorem ft8_3 : (fld Tryd.prog 8 3).type = 6 := by kernel_rfl
theorem fp8_3 : (fld Tryd.prog 8 3).offset = 3 := by kernel_rfl
theorem pl8 : places (tiOf Tryd.prog) (⟨.struct (flds Tryd.prog 8), [.int .i64 0, .int .i64 0, .bool false, .int .u8 0], 4, 24⟩ : TI) = some fun i => ([(0, 1), (1, 1), (2, 1), (3, 1)] : List (Nat × Nat))[i]? := by kernel_rfl
theorem tz12 : tiOf Tryd.prog 12 = some (⟨.int .u64, [.int .u64 0], 1, 8⟩ : TI) := by kernel_rfl
theorem ft13_0 : (fld Tryd.prog 13 0).type = 9 := by kernel_rfl
theorem fp13_0 : (fld Tryd.prog 13 0).offset = 0 := by kernel_rfl
theorem ft13_1 : (fld Tryd.prog 13 1).type = 12 := by kernel_rfl
theorem fp13_1 : (fld Tryd.prog 13 1).offset = 1 := by kernel_rfl
theorem ft14_0 : (fld Tryd.prog 14 0).type = 9 := by kernel_rfl
theorem fp14_0 : (fld Tryd.prog 14 0).offset = 0 := by kernel_rfl
theorem ft14_1 : (fld Tryd.prog 14 1).type = 12 := by kernel_rfl
theorem fp14_1 : (fld Tryd.prog 14 1).offset = 1 := by kernel_rfl
theorem tz15 : tiOf Tryd.prog 15 = some (⟨.pointer 133, [.pointer none], 1, 8⟩ : TI) := by kernel_rfl
theorem tz16 : tiOf Tryd.prog 16 = some (⟨.pointer 136, [.pointer none], 1, 8⟩ : TI) := by kernel_rfl
theorem tz17 : tiOf Tryd.prog 17 = some (⟨.pointer 146, [.pointer none], 1, 8⟩ : TI) := by kernel_rfl
theorem tz18 : tiOf Tryd.prog 18 = some (⟨.struct (flds Tryd.prog 18), [.pointer none], 1, 8⟩ : TI) := by kernel_rfl
theorem fo18_0 : fieldOf (⟨.struct (flds Tryd.prog 18), [.pointer none], 1, 8⟩ : TI) 0 = some (fld Tryd.prog 18 0) := by kernel_rfl
theorem ft18_0 : (fld Tryd.prog 18 0).type = 17 := by kernel_rfl
theorem fp18_0 : (fld Tryd.prog 18 0).offset = 0 := by kernel_rfl
theorem pl18 : places (tiOf Tryd.prog) (⟨.struct (flds Tryd.prog 18), [.pointer none], 1, 8⟩ : TI) = some fun i => ([(0, 1)] : List (Nat × Nat))[i]? := by kernel_rfl
theorem tz19 : tiOf Tryd.prog 19 = some (⟨.struct (flds Tryd.prog 19), [.pointer none], 1, 8⟩ : TI) := by kernel_rfl
theorem fo19_0 : fieldOf (⟨.struct (flds Tryd.prog 19), [.pointer none], 1, 8⟩ : TI) 0 = some (fld Tryd.prog 19 0) := by kernel_rfl
theorem ft19_0 : (fld Tryd.prog 19 0).type = 17 := by kernel_rfl
theorem fp19_0 : (fld Tryd.prog 19 0).offset = 0 := by kernel_rfl
theorem pl19 : places (tiOf Tryd.prog) (⟨.struct (flds Tryd.prog 19), [.pointer none], 1, 8⟩ : TI) = some fun i => ([(0, 1)] : List (Nat × Nat))[i]? := by kernel_rfl
theorem tz21 : tiOf Tryd.prog 21 = some (⟨.int .i32, [.int .i32 0], 1, 4⟩ : TI) := by kernel_rfl
theorem tz22 : tiOf Tryd.prog 22 = some (⟨.int .i64, [.int .i64 0], 1, 8⟩ : TI) := by kernel_rfl
theorem tz23 : tiOf Tryd.prog 23 = some (⟨.array 2 5, [.int .u8 0, .int .u8 0], 2, 2⟩ : TI) := by kernel_rfl
theorem tz24 : tiOf Tryd.prog 24 = some (⟨.slice 93, [.slice none 0 0], 1, 24⟩ : TI) := by kernel_rfl
theorem tz25 : tiOf Tryd.prog 25 = some (⟨.slice 71, [.slice none 0 0], 1, 24⟩ : TI) := by kernel_rfl
theorem tz26 : tiOf Tryd.prog 26 = some (⟨.slice 60, [.slice none 0 0], 1, 24⟩ : TI) := by kernel_rfl
theorem tz27 : tiOf Tryd.prog 27 = some (⟨.struct (flds Tryd.prog 27), [.int .i64 0, .int .u8 0, .int .u8 0, .slice none 0 0, .slice none 0 0, .slice none 0 0, .slice none 0 0, .bool false], 8, 120⟩ : TI) := by kernel_rfl
theorem fo27_0 : fieldOf (⟨.struct (flds Tryd.prog 27), [.int .i64 0, .int .u8 0, .int .u8 0, .slice none 0 0, .slice none 0 0, .slice none 0 0, .slice none 0 0, .bool false], 8, 120⟩ : TI) 0 = some (fld Tryd.prog 27 0) := by kernel_rfl
theorem ft27_0 : (fld Tryd.prog 27 0).type = 22 := by kernel_rfl
theorem fp27_0 : (fld Tryd.prog 27 0).offset = 0 := by kernel_rfl
theorem fo27_1 : fieldOf (⟨.struct (flds Tryd.prog 27), [.int .i64 0, .int .u8 0, .int .u8 0, .slice none 0 0, .slice none 0 0, .slice none 0 0, .slice none 0 0, .bool false], 8, 120⟩ : TI) 1 = some (fld Tryd.prog 27 1) := by kernel_rfl
theorem ft27_1 : (fld Tryd.prog 27 1).type = 23 := by kernel_rfl
theorem fp27_1 : (fld Tryd.prog 27 1).offset = 1 := by kernel_rfl
theorem fo27_2 : fieldOf (⟨.struct (flds Tryd.prog 27), [.int .i64 0, .int .u8 0, .int .u8 0, .slice none 0 0, .slice none 0 0, .slice none 0 0, .slice none 0 0, .bool false], 8, 120⟩ : TI) 2 = some (fld Tryd.prog 27 2) := by kernel_rfl
theorem ft27_2 : (fld Tryd.prog 27 2).type = 24 := by kernel_rfl
theorem fp27_2 : (fld Tryd.prog 27 2).offset = 3 := by kernel_rfl
theorem fo27_3 : fieldOf (⟨.struct (flds Tryd.prog 27), [.int .i64 0, .int .u8 0, .int .u8 0, .slice none 0 0, .slice none 0 0, .slice none 0 0, .slice none 0 0, .bool false], 8, 120⟩ : TI) 3 = some (fld Tryd.prog 27 3) := by kernel_rfl
theorem ft27_3 : (fld Tryd.prog 27 3).type = 25 := by kernel_rfl
theorem fp27_3 : (fld Tryd.prog 27 3).offset = 4 := by kernel_rfl
theorem fo27_4 : fieldOf (⟨.struct (flds Tryd.prog 27), [.int .i64 0, .int .u8 0, .int .u8 0, .slice none 0 0, .slice none 0 0, .slice none 0 0, .slice none 0 0, .bool false], 8, 120⟩ : TI) 4 = some (fld Tryd.prog 27 4) := by kernel_rfl
theorem ft27_4 : (fld Tryd.prog 27 4).type = 25 := by kernel_rfl
theorem fp27_4 : (fld Tryd.prog 27 4).offset = 5 := by kernel_rfl
theorem fo27_5 : fieldOf (⟨.struct (flds Tryd.prog 27), [.int .i64 0, .int .u8 0, .int .u8 0, .slice none 0 0, .slice none 0 0, .slice none 0 0, .slice none 0 0, .bool false], 8, 120⟩ : TI) 5 = some (fld Tryd.prog 27 5) := by kernel_rfl
theorem ft27_5 : (fld Tryd.prog 27 5).type = 26 := by kernel_rfl
theorem fp27_5 : (fld Tryd.prog 27 5).offset = 6 := by kernel_rfl
theorem fo27_6 : fieldOf (⟨.struct (flds Tryd.prog 27), [.int .i64 0, .int .u8 0, .int .u8 0, .slice none 0 0, .slice none 0 0, .slice none 0 0, .slice none 0 0, .bool false], 8, 120⟩ : TI) 6 = some (fld Tryd.prog 27 6) := by kernel_rfl
theorem ft27_6 : (fld Tryd.prog 27 6).type = 4 := by kernel_rfl
theorem fp27_6 : (fld Tryd.prog 27 6).offset = 7 := by kernel_rfl
theorem pl27 : places (tiOf Tryd.prog) (⟨.struct (flds Tryd.prog 27), [.int .i64 0, .int .u8 0, .int .u8 0, .slice none 0 0, .slice none 0 0, .slice none 0 0, .slice none 0 0, .bool false], 8, 120⟩ : TI) = some fun i => ([(0, 1), (1, 2), (3, 1), (4, 1), (5, 1), (6, 1), (7, 1)] : List (Nat × Nat))[i]? := by kernel_rfl
theorem tz28 : tiOf Tryd.prog 28 = some (⟨.struct (flds Tryd.prog 28), [.int .i64 0, .int .u8 0, .int .u8 0, .slice none 0 0, .slice none 0 0, .slice none 0 0, .slice none 0 0, .bool false], 8, 120⟩ : TI) := by kernel_rfl
theorem fo28_0 : fieldOf (⟨.struct (flds Tryd.prog 28), [.int .i64 0, .int .u8 0, .int .u8 0, .slice none 0 0, .slice none 0 0, .slice none 0 0, .slice none 0 0, .bool false], 8, 120⟩ : TI) 0 = some (fld Tryd.prog 28 0) := by kernel_rfl
theorem ft28_0 : (fld Tryd.prog 28 0).type = 22 := by kernel_rfl
theorem fp28_0 : (fld Tryd.prog 28 0).offset = 0 := by kernel_rfl
theorem fo28_1 : fieldOf (⟨.struct (flds Tryd.prog 28), [.int .i64 0, .int .u8 0, .int .u8 0, .slice none 0 0, .slice none 0 0, .slice none 0 0, .slice none 0 0, .bool false], 8, 120⟩ : TI) 1 = some (fld Tryd.prog 28 1) := by kernel_rfl
theorem ft28_1 : (fld Tryd.prog 28 1).type = 23 := by kernel_rfl
theorem fp28_1 : (fld Tryd.prog 28 1).offset = 1 := by kernel_rfl
theorem fo28_2 : fieldOf (⟨.struct (flds Tryd.prog 28), [.int .i64 0, .int .u8 0, .int .u8 0, .slice none 0 0, .slice none 0 0, .slice none 0 0, .slice none 0 0, .bool false], 8, 120⟩ : TI) 2 = some (fld Tryd.prog 28 2) := by kernel_rfl
theorem ft28_2 : (fld Tryd.prog 28 2).type = 24 := by kernel_rfl
theorem fp28_2 : (fld Tryd.prog 28 2).offset = 3 := by kernel_rfl
theorem fo28_3 : fieldOf (⟨.struct (flds Tryd.prog 28), [.int .i64 0, .int .u8 0, .int .u8 0, .slice none 0 0, .slice none 0 0, .slice none 0 0, .slice none 0 0, .bool false], 8, 120⟩ : TI) 3 = some (fld Tryd.prog 28 3) := by kernel_rfl
theorem ft28_3 : (fld Tryd.prog 28 3).type = 25 := by kernel_rfl
theorem fp28_3 : (fld Tryd.prog 28 3).offset = 4 := by kernel_rfl
theorem fo28_4 : fieldOf (⟨.struct (flds Tryd.prog 28), [.int .i64 0, .int .u8 0, .int .u8 0, .slice none 0 0, .slice none 0 0, .slice none 0 0, .slice none 0 0, .bool false], 8, 120⟩ : TI) 4 = some (fld Tryd.prog 28 4) := by kernel_rfl
theorem ft28_4 : (fld Tryd.prog 28 4).type = 25 := by kernel_rfl
theorem fp28_4 : (fld Tryd.prog 28 4).offset = 5 := by kernel_rfl
theorem fo28_5 : fieldOf (⟨.struct (flds Tryd.prog 28), [.int .i64 0, .int .u8 0, .int .u8 0, .slice none 0 0, .slice none 0 0, .slice none 0 0, .slice none 0 0, .bool false], 8, 120⟩ : TI) 5 = some (fld Tryd.prog 28 5) := by kernel_rfl
theorem ft28_5 : (fld Tryd.prog 28 5).type = 26 := by kernel_rfl
theorem fp28_5 : (fld Tryd.prog 28 5).offset = 6 := by kernel_rfl
theorem fo28_6 : fieldOf (⟨.struct (flds Tryd.prog 28), [.int .i64 0, .int .u8 0, .int .u8 0, .slice none 0 0, .slice none 0 0, .slice none 0 0, .slice none 0 0, .bool false], 8, 120⟩ : TI) 6 = some (fld Tryd.prog 28 6) := by kernel_rfl
theorem ft28_6 : (fld Tryd.prog 28 6).type = 4 := by kernel_rfl
theorem fp28_6 : (fld Tryd.prog 28 6).offset = 7 := by kernel_rfl
theorem pl28 : places (tiOf Tryd.prog) (⟨.struct (flds Tryd.prog 28), [.int .i64 0, .int .u8 0, .int .u8 0, .slice none 0 0, .slice none 0 0, .slice none 0 0, .slice none 0 0, .bool false], 8, 120⟩ : TI) = some fun i => ([(0, 1), (1, 2), (3, 1), (4, 1), (5, 1), (6, 1), (7, 1)] : List (Nat × Nat))[i]? := by kernel_rfl
theorem tz29 : tiOf Tryd.prog 29 = some (⟨.slice 64, [.slice none 0 0], 1, 24⟩ : TI) := by kernel_rfl
theorem tz30 : tiOf Tryd.prog 30 = some (⟨.slice 3, [.slice none 0 0], 1, 24⟩ : TI) := by kernel_rfl
theorem tz31 : tiOf Tryd.prog 31 = some (⟨.slice 2, [.slice none 0 0], 1, 24⟩ : TI) := by kernel_rfl
theorem tz32 : tiOf Tryd.prog 32 = some (⟨.struct (flds Tryd.prog 32), [.int .i64 0, .int .i64 0, .slice none 0 0, .slice none 0 0, .slice none 0 0], 5, 88⟩ : TI) := by kernel_rfl
theorem fo32_0 : fieldOf (⟨.struct (flds Tryd.prog 32), [.int .i64 0, .int .i64 0, .slice none 0 0, .slice none 0 0, .slice none 0 0], 5, 88⟩ : TI) 0 = some (fld Tryd.prog 32 0) := by kernel_rfl
theorem ft32_0 : (fld Tryd.prog 32 0).type = 3 := by kernel_rfl
theorem fp32_0 : (fld Tryd.prog 32 0).offset = 0 := by kernel_rfl
theorem fo32_1 : fieldOf (⟨.struct (flds Tryd.prog 32), [.int .i64 0, .int .i64 0, .slice none 0 0, .slice none 0 0, .slice none 0 0], 5, 88⟩ : TI) 1 = some (fld Tryd.prog 32 1) := by kernel_rfl
theorem ft32_1 : (fld Tryd.prog 32 1).type = 3 := by kernel_rfl
theorem fp32_1 : (fld Tryd.prog 32 1).offset = 1 := by kernel_rfl
theorem fo32_2 : fieldOf (⟨.struct (flds Tryd.prog 32), [.int .i64 0, .int .i64 0, .slice none 0 0, .slice none 0 0, .slice none 0 0], 5, 88⟩ : TI) 2 = some (fld Tryd.prog 32 2) := by kernel_rfl
theorem ft32_2 : (fld Tryd.prog 32 2).type = 30 := by kernel_rfl
theorem fp32_2 : (fld Tryd.prog 32 2).offset = 2 := by kernel_rfl
theorem fo32_3 : fieldOf (⟨.struct (flds Tryd.prog 32), [.int .i64 0, .int .i64 0, .slice none 0 0, .slice none 0 0, .slice none 0 0], 5, 88⟩ : TI) 3 = some (fld Tryd.prog 32 3) := by kernel_rfl
theorem ft32_3 : (fld Tryd.prog 32 3).type = 30 := by kernel_rfl
theorem fp32_3 : (fld Tryd.prog 32 3).offset = 3 := by kernel_rfl
theorem fo32_4 : fieldOf (⟨.struct (flds Tryd.prog 32), [.int .i64 0, .int .i64 0, .slice none 0 0, .slice none 0 0, .slice none 0 0], 5, 88⟩ : TI) 4 = some (fld Tryd.prog 32 4) := by kernel_rfl
theorem ft32_4 : (fld Tryd.prog 32 4).type = 31 := by kernel_rfl
theorem fp32_4 : (fld Tryd.prog 32 4).offset = 4 := by kernel_rfl
theorem pl32 : places (tiOf Tryd.prog) (⟨.struct (flds Tryd.prog 32), [.int .i64 0, .int .i64 0, .slice none 0 0, .slice none 0 0, .slice none 0 0], 5, 88⟩ : TI) = some fun i => ([(0, 1), (1, 1), (2, 1), (3, 1), (4, 1)] : List (Nat × Nat))[i]? := by kernel_rfl
theorem tz33 : tiOf Tryd.prog 33 = some (⟨.struct (flds Tryd.prog 33), [.int .i64 0, .int .i64 0, .slice none 0 0, .slice none 0 0, .slice none 0 0], 5, 88⟩ : TI) := by kernel_rfl
theorem fo33_0 : fieldOf (⟨.struct (flds Tryd.prog 33), [.int .i64 0, .int .i64 0, .slice none 0 0, .slice none 0 0, .slice none 0 0], 5, 88⟩ : TI) 0 = some (fld Tryd.prog 33 0) := by kernel_rfl
theorem ft33_0 : (fld Tryd.prog 33 0).type = 3 := by kernel_rfl
theorem fp33_0 : (fld Tryd.prog 33 0).offset = 0 := by kernel_rfl
theorem fo33_1 : fieldOf (⟨.struct (flds Tryd.prog 33), [.int .i64 0, .int .i64 0, .slice none 0 0, .slice none 0 0, .slice none 0 0], 5, 88⟩ : TI) 1 = some (fld Tryd.prog 33 1) := by kernel_rfl
theorem ft33_1 : (fld Tryd.prog 33 1).type = 3 := by kernel_rfl
theorem fp33_1 : (fld Tryd.prog 33 1).offset = 1 := by kernel_rfl
theorem fo33_2 : fieldOf (⟨.struct (flds Tryd.prog 33), [.int .i64 0, .int .i64 0, .slice none 0 0, .slice none 0 0, .slice none 0 0], 5, 88⟩ : TI) 2 = some (fld Tryd.prog 33 2) := by kernel_rfl
theorem ft33_2 : (fld Tryd.prog 33 2).type = 30 := by kernel_rfl
theorem fp33_2 : (fld Tryd.prog 33 2).offset = 2 := by kernel_rfl
theorem fo33_3 : fieldOf (⟨.struct (flds Tryd.prog 33), [.int .i64 0, .int .i64 0, .slice none 0 0, .slice none 0 0, .slice none 0 0], 5, 88⟩ : TI) 3 = some (fld Tryd.prog 33 3) := by kernel_rfl
theorem ft33_3 : (fld Tryd.prog 33 3).type = 30 := by kernel_rfl
theorem fp33_3 : (fld Tryd.prog 33 3).offset = 3 := by kernel_rfl
theorem fo33_4 : fieldOf (⟨.struct (flds Tryd.prog 33), [.int .i64 0, .int .i64 0, .slice none 0 0, .slice none 0 0, .slice none 0 0], 5, 88⟩ : TI) 4 = some (fld Tryd.prog 33 4) := by kernel_rfl
theorem ft33_4 : (fld Tryd.prog 33 4).type = 31 := by kernel_rfl
theorem fp33_4 : (fld Tryd.prog 33 4).offset = 4 := by kernel_rfl
theorem pl33 : places (tiOf Tryd.prog) (⟨.struct (flds Tryd.prog 33), [.int .i64 0, .int .i64 0, .slice none 0 0, .slice none 0 0, .slice none 0 0], 5, 88⟩ : TI) = some fun i => ([(0, 1), (1, 1), (2, 1), (3, 1), (4, 1)] : List (Nat × Nat))[i]? := by kernel_rfl
theorem tz34 : tiOf Tryd.prog 34 = some (⟨.func #[] #[33] false, [.nilFunc], 1, 8⟩ : TI) := by kernel_rfl
theorem tz35 : tiOf Tryd.prog 35 = some (⟨.struct (flds Tryd.prog 35), [.int .i64 0, .slice none 0 0, .slice none 0 0], 3, 56⟩ : TI) := by kernel_rfl
theorem fo35_0 : fieldOf (⟨.struct (flds Tryd.prog 35), [.int .i64 0, .slice none 0 0, .slice none 0 0], 3, 56⟩ : TI) 0 = some (fld Tryd.prog 35 0) := by kernel_rfl
theorem ft35_0 : (fld Tryd.prog 35 0).type = 3 := by kernel_rfl
theorem fp35_0 : (fld Tryd.prog 35 0).offset = 0 := by kernel_rfl
theorem fo35_1 : fieldOf (⟨.struct (flds Tryd.prog 35), [.int .i64 0, .slice none 0 0, .slice none 0 0], 3, 56⟩ : TI) 1 = some (fld Tryd.prog 35 1) := by kernel_rfl
theorem ft35_1 : (fld Tryd.prog 35 1).type = 26 := by kernel_rfl
theorem fp35_1 : (fld Tryd.prog 35 1).offset = 1 := by kernel_rfl
theorem fo35_2 : fieldOf (⟨.struct (flds Tryd.prog 35), [.int .i64 0, .slice none 0 0, .slice none 0 0], 3, 56⟩ : TI) 2 = some (fld Tryd.prog 35 2) := by kernel_rfl
theorem ft35_2 : (fld Tryd.prog 35 2).type = 31 := by kernel_rfl
theorem fp35_2 : (fld Tryd.prog 35 2).offset = 2 := by kernel_rfl
theorem pl35 : places (tiOf Tryd.prog) (⟨.struct (flds Tryd.prog 35), [.int .i64 0, .slice none 0 0, .slice none 0 0], 3, 56⟩ : TI) = some fun i => ([(0, 1), (1, 1), (2, 1)] : List (Nat × Nat))[i]? := by kernel_rfl
theorem tz36 : tiOf Tryd.prog 36 = some (⟨.struct (flds Tryd.prog 36), [.int .i64 0, .slice none 0 0, .slice none 0 0], 3, 56⟩ : TI) := by kernel_rfl
theorem fo36_0 : fieldOf (⟨.struct (flds Tryd.prog 36), [.int .i64 0, .slice none 0 0, .slice none 0 0], 3, 56⟩ : TI) 0 = some (fld Tryd.prog 36 0) := by kernel_rfl
theorem ft36_0 : (fld Tryd.prog 36 0).type = 3 := by kernel_rfl
theorem fp36_0 : (fld Tryd.prog 36 0).offset = 0 := by kernel_rfl
theorem fo36_1 : fieldOf (⟨.struct (flds Tryd.prog 36), [.int .i64 0, .slice none 0 0, .slice none 0 0], 3, 56⟩ : TI) 1 = some (fld Tryd.prog 36 1) := by kernel_rfl
theorem ft36_1 : (fld Tryd.prog 36 1).type = 26 := by kernel_rfl
theorem fp36_1 : (fld Tryd.prog 36 1).offset = 1 := by kernel_rfl
theorem fo36_2 : fieldOf (⟨.struct (flds Tryd.prog 36), [.int .i64 0, .slice none 0 0, .slice none 0 0], 3, 56⟩ : TI) 2 = some (fld Tryd.prog 36 2) := by kernel_rfl
theorem ft36_2 : (fld Tryd.prog 36 2).type = 31 := by kernel_rfl
theorem fp36_2 : (fld Tryd.prog 36 2).offset = 2 := by kernel_rfl
theorem pl36 : places (tiOf Tryd.prog) (⟨.struct (flds Tryd.prog 36), [.int .i64 0, .slice none 0 0, .slice none 0 0], 3, 56⟩ : TI) = some fun i => ([(0, 1), (1, 1), (2, 1)] : List (Nat × Nat))[i]? := by kernel_rfl
theorem tz37 : tiOf Tryd.prog 37 = some (⟨.func #[39] #[36] false, [.nilFunc], 1, 8⟩ : TI) := by kernel_rfl
theorem tz38 : tiOf Tryd.prog 38 = some (⟨.struct (flds Tryd.prog 38), [.int .i64 0, .slice none 0 0], 2, 32⟩ : TI) := by kernel_rfl
theorem fo38_0 : fieldOf (⟨.struct (flds Tryd.prog 38), [.int .i64 0, .slice none 0 0], 2, 32⟩ : TI) 0 = some (fld Tryd.prog 38 0) := by kernel_rfl
theorem ft38_0 : (fld Tryd.prog 38 0).type = 3 := by kernel_rfl
theorem fp38_0 : (fld Tryd.prog 38 0).offset = 0 := by kernel_rfl
theorem fo38_1 : fieldOf (⟨.struct (flds Tryd.prog 38), [.int .i64 0, .slice none 0 0], 2, 32⟩ : TI) 1 = some (fld Tryd.prog 38 1) := by kernel_rfl
theorem ft38_1 : (fld Tryd.prog 38 1).type = 25 := by kernel_rfl
theorem fp38_1 : (fld Tryd.prog 38 1).offset = 1 := by kernel_rfl
theorem pl38 : places (tiOf Tryd.prog) (⟨.struct (flds Tryd.prog 38), [.int .i64 0, .slice none 0 0], 2, 32⟩ : TI) = some fun i => ([(0, 1), (1, 1)] : List (Nat × Nat))[i]? := by kernel_rfl
theorem tz39 : tiOf Tryd.prog 39 = some (⟨.struct (flds Tryd.prog 39), [.int .i64 0, .slice none 0 0], 2, 32⟩ : TI) := by kernel_rfl
theorem fo39_0 : fieldOf (⟨.struct (flds Tryd.prog 39), [.int .i64 0, .slice none 0 0], 2, 32⟩ : TI) 0 = some (fld Tryd.prog 39 0) := by kernel_rfl
theorem ft39_0 : (fld Tryd.prog 39 0).type = 3 := by kernel_rfl
theorem fp39_0 : (fld Tryd.prog 39 0).offset = 0 := by kernel_rfl
theorem fo39_1 : fieldOf (⟨.struct (flds Tryd.prog 39), [.int .i64 0, .slice none 0 0], 2, 32⟩ : TI) 1 = some (fld Tryd.prog 39 1) := by kernel_rfl
theorem ft39_1 : (fld Tryd.prog 39 1).type = 25 := by kernel_rfl
theorem fp39_1 : (fld Tryd.prog 39 1).offset = 1 := by kernel_rfl
theorem pl39 : places (tiOf Tryd.prog) (⟨.struct (flds Tryd.prog 39), [.int .i64 0, .slice none 0 0], 2, 32⟩ : TI) = some fun i => ([(0, 1), (1, 1)] : List (Nat × Nat))[i]? := by kernel_rfl
theorem tz40 : tiOf Tryd.prog 40 = some (⟨.func #[25] #[39] false, [.nilFunc], 1, 8⟩ : TI) := by kernel_rfl
theorem tz41 : tiOf Tryd.prog 41 = some (⟨.func #[] #[26] false, [.nilFunc], 1, 8⟩ : TI) := by kernel_rfl
theorem tz42 : tiOf Tryd.prog 42 = some (⟨.int .i64, [.int .i64 0], 1, 8⟩ : TI) := by kernel_rfl
theorem tz44 : tiOf Tryd.prog 44 = some (⟨.func #[22, 33, 36, 26, 4] #[29, 42] false, [.nilFunc], 1, 8⟩ : TI) := by kernel_rfl
theorem tz46 : tiOf Tryd.prog 46 = some (⟨.func #[22, 33, 36, 26, 4] #[39, 42] false, [.nilFunc], 1, 8⟩ : TI) := by kernel_rfl
theorem tz47 : tiOf Tryd.prog 47 = some (⟨.func #[22, 3, 29] #[39, 42] false, [.nilFunc], 1, 8⟩ : TI) := by kernel_rfl
theorem tz48 : tiOf Tryd.prog 48 = some (⟨.func #[] #[4] false, [.nilFunc], 1, 8⟩ : TI) := by kernel_rfl
theorem tz49 : tiOf Tryd.prog 49 = some (⟨.func #[29, 29] #[4] false, [.nilFunc], 1, 8⟩ : TI) := by kernel_rfl
theorem tz50 : tiOf Tryd.prog 50 = some (⟨.func #[39, 39] #[4] false, [.nilFunc], 1, 8⟩ : TI) := by kernel_rfl
theorem tz51 : tiOf Tryd.prog 51 = some (⟨.func #[28, 3, 29] #[4] false, [.nilFunc], 1, 8⟩ : TI) := by kernel_rfl
theorem tz52 : tiOf Tryd.prog 52 = some (⟨.func #[22, 33, 36] #[4] false, [.nilFunc], 1, 8⟩ : TI) := by kernel_rfl
theorem tz53 : tiOf Tryd.prog 53 = some (⟨.func #[22] #[22] false, [.nilFunc], 1, 8⟩ : TI) := by kernel_rfl
theorem tz54 : tiOf Tryd.prog 54 = some (⟨.func #[22, 39, 39] #[39, 42] false, [.nilFunc], 1, 8⟩ : TI) := by kernel_rfl
theorem tz55 : tiOf Tryd.prog 55 = some (⟨.func #[39, 56, 2] #[39] false, [.nilFunc], 1, 8⟩ : TI) := by kernel_rfl
theorem tz56 : tiOf Tryd.prog 56 = some (⟨.int .i64, [.int .i64 0], 1, 8⟩ : TI) := by kernel_rfl
theorem tz57 : tiOf Tryd.prog 57 = some (⟨.func #[22] #[2] false, [.nilFunc], 1, 8⟩ : TI) := by kernel_rfl
theorem tz58 : tiOf Tryd.prog 58 = some (⟨.func #[28] #[4] false, [.nilFunc], 1, 8⟩ : TI) := by kernel_rfl
theorem tz59 : tiOf Tryd.prog 59 = some (⟨.func #[3] #[36] false, [.nilFunc], 1, 8⟩ : TI) := by kernel_rfl
theorem tz60 : tiOf Tryd.prog 60 = some (⟨.int .u64, [.int .u64 0], 1, 8⟩ : TI) := by kernel_rfl
theorem tz61 : tiOf Tryd.prog 61 = some (⟨.struct (flds Tryd.prog 61), [.int .i64 0, .int .u64 0], 2, 16⟩ : TI) := by kernel_rfl
theorem fo61_0 : fieldOf (⟨.struct (flds Tryd.prog 61), [.int .i64 0, .int .u64 0], 2, 16⟩ : TI) 0 = some (fld Tryd.prog 61 0) := by kernel_rfl
theorem ft61_0 : (fld Tryd.prog 61 0).type = 2 := by kernel_rfl
theorem fp61_0 : (fld Tryd.prog 61 0).offset = 0 := by kernel_rfl
theorem fo61_1 : fieldOf (⟨.struct (flds Tryd.prog 61), [.int .i64 0, .int .u64 0], 2, 16⟩ : TI) 1 = some (fld Tryd.prog 61 1) := by kernel_rfl
theorem ft61_1 : (fld Tryd.prog 61 1).type = 60 := by kernel_rfl
theorem fp61_1 : (fld Tryd.prog 61 1).offset = 1 := by kernel_rfl
theorem pl61 : places (tiOf Tryd.prog) (⟨.struct (flds Tryd.prog 61), [.int .i64 0, .int .u64 0], 2, 16⟩ : TI) = some fun i => ([(0, 1), (1, 1)] : List (Nat × Nat))[i]? := by kernel_rfl
theorem tz62 : tiOf Tryd.prog 62 = some (⟨.struct (flds Tryd.prog 62), [.int .i64 0, .int .u64 0], 2, 16⟩ : TI) := by kernel_rfl
theorem fo62_0 : fieldOf (⟨.struct (flds Tryd.prog 62), [.int .i64 0, .int .u64 0], 2, 16⟩ : TI) 0 = some (fld Tryd.prog 62 0) := by kernel_rfl
theorem ft62_0 : (fld Tryd.prog 62 0).type = 2 := by kernel_rfl
theorem fp62_0 : (fld Tryd.prog 62 0).offset = 0 := by kernel_rfl
theorem fo62_1 : fieldOf (⟨.struct (flds Tryd.prog 62), [.int .i64 0, .int .u64 0], 2, 16⟩ : TI) 1 = some (fld Tryd.prog 62 1) := by kernel_rfl
theorem ft62_1 : (fld Tryd.prog 62 1).type = 60 := by kernel_rfl
theorem fp62_1 : (fld Tryd.prog 62 1).offset = 1 := by kernel_rfl
theorem pl62 : places (tiOf Tryd.prog) (⟨.struct (flds Tryd.prog 62), [.int .i64 0, .int .u64 0], 2, 16⟩ : TI) = some fun i => ([(0, 1), (1, 1)] : List (Nat × Nat))[i]? := by kernel_rfl
theorem tz63 : tiOf Tryd.prog 63 = some (⟨.struct (flds Tryd.prog 63), [.int .i64 0, .int .i64 0, .int .u64 0], 3, 24⟩ : TI) := by kernel_rfl
theorem fo63_0 : fieldOf (⟨.struct (flds Tryd.prog 63), [.int .i64 0, .int .i64 0, .int .u64 0], 3, 24⟩ : TI) 0 = some (fld Tryd.prog 63 0) := by kernel_rfl
theorem ft63_0 : (fld Tryd.prog 63 0).type = 3 := by kernel_rfl
theorem fp63_0 : (fld Tryd.prog 63 0).offset = 0 := by kernel_rfl
theorem fo63_1 : fieldOf (⟨.struct (flds Tryd.prog 63), [.int .i64 0, .int .i64 0, .int .u64 0], 3, 24⟩ : TI) 1 = some (fld Tryd.prog 63 1) := by kernel_rfl
theorem ft63_1 : (fld Tryd.prog 63 1).type = 62 := by kernel_rfl
theorem fp63_1 : (fld Tryd.prog 63 1).offset = 1 := by kernel_rfl
theorem pl63 : places (tiOf Tryd.prog) (⟨.struct (flds Tryd.prog 63), [.int .i64 0, .int .i64 0, .int .u64 0], 3, 24⟩ : TI) = some fun i => ([(0, 1), (1, 2)] : List (Nat × Nat))[i]? := by kernel_rfl
theorem tz64 : tiOf Tryd.prog 64 = some (⟨.struct (flds Tryd.prog 64), [.int .i64 0, .int .i64 0, .int .u64 0], 3, 24⟩ : TI) := by kernel_rfl
theorem fo64_0 : fieldOf (⟨.struct (flds Tryd.prog 64), [.int .i64 0, .int .i64 0, .int .u64 0], 3, 24⟩ : TI) 0 = some (fld Tryd.prog 64 0) := by kernel_rfl
theorem ft64_0 : (fld Tryd.prog 64 0).type = 3 := by kernel_rfl
theorem fp64_0 : (fld Tryd.prog 64 0).offset = 0 := by kernel_rfl
theorem fo64_1 : fieldOf (⟨.struct (flds Tryd.prog 64), [.int .i64 0, .int .i64 0, .int .u64 0], 3, 24⟩ : TI) 1 = some (fld Tryd.prog 64 1) := by kernel_rfl
theorem ft64_1 : (fld Tryd.prog 64 1).type = 62 := by kernel_rfl
theorem fp64_1 : (fld Tryd.prog 64 1).offset = 1 := by kernel_rfl
theorem pl64 : places (tiOf Tryd.prog) (⟨.struct (flds Tryd.prog 64), [.int .i64 0, .int .i64 0, .int .u64 0], 3, 24⟩ : TI) = some fun i => ([(0, 1), (1, 2)] : List (Nat × Nat))[i]? := by kernel_rfl
theorem tz66 : tiOf Tryd.prog 66 = some (⟨.func #[39, 3] #[2, 4] false, [.nilFunc], 1, 8⟩ : TI) := by kernel_rfl
theorem tz67 : tiOf Tryd.prog 67 = some (⟨.func #[23, 24] #[33] false, [.nilFunc], 1, 8⟩ : TI) := by kernel_rfl
theorem tz68 : tiOf Tryd.prog 68 = some (⟨.func #[22, 2] #[2] false, [.nilFunc], 1, 8⟩ : TI) := by kernel_rfl
theorem tz69 : tiOf Tryd.prog 69 = some (⟨.func #[39] #[39] false, [.nilFunc], 1, 8⟩ : TI) := by kernel_rfl
theorem tz70 : tiOf Tryd.prog 70 = some (⟨.struct (flds Tryd.prog 70), [.int .i64 0, .int .i64 0], 2, 16⟩ : TI) := by kernel_rfl
theorem fo70_0 : fieldOf (⟨.struct (flds Tryd.prog 70), [.int .i64 0, .int .i64 0], 2, 16⟩ : TI) 0 = some (fld Tryd.prog 70 0) := by kernel_rfl
theorem ft70_0 : (fld Tryd.prog 70 0).type = 3 := by kernel_rfl
theorem fp70_0 : (fld Tryd.prog 70 0).offset = 0 := by kernel_rfl
theorem fo70_1 : fieldOf (⟨.struct (flds Tryd.prog 70), [.int .i64 0, .int .i64 0], 2, 16⟩ : TI) 1 = some (fld Tryd.prog 70 1) := by kernel_rfl
theorem ft70_1 : (fld Tryd.prog 70 1).type = 2 := by kernel_rfl
theorem fp70_1 : (fld Tryd.prog 70 1).offset = 1 := by kernel_rfl
theorem pl70 : places (tiOf Tryd.prog) (⟨.struct (flds Tryd.prog 70), [.int .i64 0, .int .i64 0], 2, 16⟩ : TI) = some fun i => ([(0, 1), (1, 1)] : List (Nat × Nat))[i]? := by kernel_rfl
theorem tz71 : tiOf Tryd.prog 71 = some (⟨.struct (flds Tryd.prog 71), [.int .i64 0, .int .i64 0], 2, 16⟩ : TI) := by kernel_rfl
theorem fo71_0 : fieldOf (⟨.struct (flds Tryd.prog 71), [.int .i64 0, .int .i64 0], 2, 16⟩ : TI) 0 = some (fld Tryd.prog 71 0) := by kernel_rfl
theorem ft71_0 : (fld Tryd.prog 71 0).type = 3 := by kernel_rfl
theorem fp71_0 : (fld Tryd.prog 71 0).offset = 0 := by kernel_rfl
theorem fo71_1 : fieldOf (⟨.struct (flds Tryd.prog 71), [.int .i64 0, .int .i64 0], 2, 16⟩ : TI) 1 = some (fld Tryd.prog 71 1) := by kernel_rfl
theorem ft71_1 : (fld Tryd.prog 71 1).type = 2 := by kernel_rfl
theorem fp71_1 : (fld Tryd.prog 71 1).offset = 1 := by kernel_rfl
theorem pl71 : places (tiOf Tryd.prog) (⟨.struct (flds Tryd.prog 71), [.int .i64 0, .int .i64 0], 2, 16⟩ : TI) = some fun i => ([(0, 1), (1, 1)] : List (Nat × Nat))[i]? := by kernel_rfl
theorem tz72 : tiOf Tryd.prog 72 = some (⟨.func #[3, 30] #[26] false, [.nilFunc], 1, 8⟩ : TI) := by kernel_rfl
theorem tz73 : tiOf Tryd.prog 73 = some (⟨.func #[5, 25] #[39] false, [.nilFunc], 1, 8⟩ : TI) := by kernel_rfl
theorem tz74 : tiOf Tryd.prog 74 = some (⟨.func #[5] #[3] false, [.nilFunc], 1, 8⟩ : TI) := by kernel_rfl
theorem tz75 : tiOf Tryd.prog 75 = some (⟨.func #[22] #[4] false, [.nilFunc], 1, 8⟩ : TI) := by kernel_rfl
theorem tz76 : tiOf Tryd.prog 76 = some (⟨.func #[33] #[33] false, [.nilFunc], 1, 8⟩ : TI) := by kernel_rfl
theorem tz77 : tiOf Tryd.prog 77 = some (⟨.func #[36] #[4] false, [.nilFunc], 1, 8⟩ : TI) := by kernel_rfl
theorem tz78 : tiOf Tryd.prog 78 = some (⟨.func #[26, 3] #[4] false, [.nilFunc], 1, 8⟩ : TI) := by kernel_rfl
theorem tz79 : tiOf Tryd.prog 79 = some (⟨.func #[22, 2, 2] #[62] false, [.nilFunc], 1, 8⟩ : TI) := by kernel_rfl
theorem tz80 : tiOf Tryd.prog 80 = some (⟨.func #[22, 62, 62] #[62] false, [.nilFunc], 1, 8⟩ : TI) := by kernel_rfl
theorem tz81 : tiOf Tryd.prog 81 = some (⟨.func #[3] #[62, 4] false, [.nilFunc], 1, 8⟩ : TI) := by kernel_rfl
theorem tz82 : tiOf Tryd.prog 82 = some (⟨.func #[108] #[] false, [.nilFunc], 1, 8⟩ : TI) := by kernel_rfl
theorem tz83 : tiOf Tryd.prog 83 = some (⟨.func #[108] #[] false, [.nilFunc], 1, 8⟩ : TI) := by kernel_rfl
theorem tz84 : tiOf Tryd.prog 84 = some (⟨.func #[3, 26, 4] #[83] false, [.nilFunc], 1, 8⟩ : TI) := by kernel_rfl
theorem tz86 : tiOf Tryd.prog 86 = some (⟨.func #[36] #[39] false, [.nilFunc], 1, 8⟩ : TI) := by kernel_rfl
theorem tz87 : tiOf Tryd.prog 87 = some (⟨.func #[22, 3, 29] #[42] false, [.nilFunc], 1, 8⟩ : TI) := by kernel_rfl
theorem tz88 : tiOf Tryd.prog 88 = some (⟨.func #[22, 62] #[2, 4] false, [.nilFunc], 1, 8⟩ : TI) := by kernel_rfl
theorem tz89 : tiOf Tryd.prog 89 = some (⟨.func #[62] #[2, 4] false, [.nilFunc], 1, 8⟩ : TI) := by kernel_rfl
theorem tz91 : tiOf Tryd.prog 91 = some (⟨.func #[22, 3, 3, 24] #[33, 42] false, [.nilFunc], 1, 8⟩ : TI) := by kernel_rfl
theorem tz92 : tiOf Tryd.prog 92 = some (⟨.struct (flds Tryd.prog 92), [.int .i64 0, .int .i64 0, .int .i64 0], 3, 24⟩ : TI) := by kernel_rfl
theorem fo92_0 : fieldOf (⟨.struct (flds Tryd.prog 92), [.int .i64 0, .int .i64 0, .int .i64 0], 3, 24⟩ : TI) 0 = some (fld Tryd.prog 92 0) := by kernel_rfl
theorem ft92_0 : (fld Tryd.prog 92 0).type = 3 := by kernel_rfl
theorem fp92_0 : (fld Tryd.prog 92 0).offset = 0 := by kernel_rfl
theorem fo92_1 : fieldOf (⟨.struct (flds Tryd.prog 92), [.int .i64 0, .int .i64 0, .int .i64 0], 3, 24⟩ : TI) 1 = some (fld Tryd.prog 92 1) := by kernel_rfl
theorem ft92_1 : (fld Tryd.prog 92 1).type = 3 := by kernel_rfl
theorem fp92_1 : (fld Tryd.prog 92 1).offset = 1 := by kernel_rfl
theorem fo92_2 : fieldOf (⟨.struct (flds Tryd.prog 92), [.int .i64 0, .int .i64 0, .int .i64 0], 3, 24⟩ : TI) 2 = some (fld Tryd.prog 92 2) := by kernel_rfl
theorem ft92_2 : (fld Tryd.prog 92 2).type = 2 := by kernel_rfl
theorem fp92_2 : (fld Tryd.prog 92 2).offset = 2 := by kernel_rfl
theorem pl92 : places (tiOf Tryd.prog) (⟨.struct (flds Tryd.prog 92), [.int .i64 0, .int .i64 0, .int .i64 0], 3, 24⟩ : TI) = some fun i => ([(0, 1), (1, 1), (2, 1)] : List (Nat × Nat))[i]? := by kernel_rfl
theorem tz93 : tiOf Tryd.prog 93 = some (⟨.struct (flds Tryd.prog 93), [.int .i64 0, .int .i64 0, .int .i64 0], 3, 24⟩ : TI) := by kernel_rfl
theorem fo93_0 : fieldOf (⟨.struct (flds Tryd.prog 93), [.int .i64 0, .int .i64 0, .int .i64 0], 3, 24⟩ : TI) 0 = some (fld Tryd.prog 93 0) := by kernel_rfl
theorem ft93_0 : (fld Tryd.prog 93 0).type = 3 := by kernel_rfl
theorem fp93_0 : (fld Tryd.prog 93 0).offset = 0 := by kernel_rfl
theorem fo93_1 : fieldOf (⟨.struct (flds Tryd.prog 93), [.int .i64 0, .int .i64 0, .int .i64 0], 3, 24⟩ : TI) 1 = some (fld Tryd.prog 93 1) := by kernel_rfl
theorem ft93_1 : (fld Tryd.prog 93 1).type = 3 := by kernel_rfl
theorem fp93_1 : (fld Tryd.prog 93 1).offset = 1 := by kernel_rfl
theorem fo93_2 : fieldOf (⟨.struct (flds Tryd.prog 93), [.int .i64 0, .int .i64 0, .int .i64 0], 3, 24⟩ : TI) 2 = some (fld Tryd.prog 93 2) := by kernel_rfl
theorem ft93_2 : (fld Tryd.prog 93 2).type = 2 := by kernel_rfl
theorem fp93_2 : (fld Tryd.prog 93 2).offset = 2 := by kernel_rfl
theorem pl93 : places (tiOf Tryd.prog) (⟨.struct (flds Tryd.prog 93), [.int .i64 0, .int .i64 0, .int .i64 0], 3, 24⟩ : TI) = some fun i => ([(0, 1), (1, 1), (2, 1)] : List (Nat × Nat))[i]? := by kernel_rfl
theorem tz94 : tiOf Tryd.prog 94 = some (⟨.func #[25, 25] #[4] false, [.nilFunc], 1, 8⟩ : TI) := by kernel_rfl
theorem tz95 : tiOf Tryd.prog 95 = some (⟨.func #[2] #[62] false, [.nilFunc], 1, 8⟩ : TI) := by kernel_rfl
theorem tz96 : tiOf Tryd.prog 96 = some (⟨.func #[56, 2, 2] #[4] false, [.nilFunc], 1, 8⟩ : TI) := by kernel_rfl
theorem tz97 : tiOf Tryd.prog 97 = some (⟨.func #[3] #[26] false, [.nilFunc], 1, 8⟩ : TI) := by kernel_rfl
theorem tz98 : tiOf Tryd.prog 98 = some (⟨.func #[24] #[24] false, [.nilFunc], 1, 8⟩ : TI) := by kernel_rfl
theorem tz99 : tiOf Tryd.prog 99 = some (⟨.func #[3, 3] #[33] false, [.nilFunc], 1, 8⟩ : TI) := by kernel_rfl
theorem tz100 : tiOf Tryd.prog 100 = some (⟨.func #[39] #[4] false, [.nilFunc], 1, 8⟩ : TI) := by kernel_rfl
theorem tz101 : tiOf Tryd.prog 101 = some (⟨.func #[26, 3] #[26] false, [.nilFunc], 1, 8⟩ : TI) := by kernel_rfl
theorem tz102 : tiOf Tryd.prog 102 = some (⟨.func #[22, 3, 25] #[39, 42] false, [.nilFunc], 1, 8⟩ : TI) := by kernel_rfl
theorem tz103 : tiOf Tryd.prog 103 = some (⟨.func #[33] #[4] false, [.nilFunc], 1, 8⟩ : TI) := by kernel_rfl
theorem tz104 : tiOf Tryd.prog 104 = some (⟨.func #[3] #[60] false, [.nilFunc], 1, 8⟩ : TI) := by kernel_rfl
theorem tz105 : tiOf Tryd.prog 105 = some (⟨.func #[62, 62] #[62] false, [.nilFunc], 1, 8⟩ : TI) := by kernel_rfl
theorem tz106 : tiOf Tryd.prog 106 = some (⟨.func #[4] #[62] false, [.nilFunc], 1, 8⟩ : TI) := by kernel_rfl
theorem tz107 : tiOf Tryd.prog 107 = some (⟨.func #[2, 2] #[62] false, [.nilFunc], 1, 8⟩ : TI) := by kernel_rfl
theorem tz108 : tiOf Tryd.prog 108 = some (⟨.func #[3] #[4] false, [.nilFunc], 1, 8⟩ : TI) := by kernel_rfl
theorem tz109 : tiOf Tryd.prog 109 = some (⟨.func #[26] #[30] false, [.nilFunc], 1, 8⟩ : TI) := by kernel_rfl
theorem tz110 : tiOf Tryd.prog 110 = some (⟨.int .u64, [.int .u64 0], 1, 8⟩ : TI) := by kernel_rfl
theorem tz111 : tiOf Tryd.prog 111 = some (⟨.func #[62, 62] #[3] false, [.nilFunc], 1, 8⟩ : TI) := by kernel_rfl
theorem tz112 : tiOf Tryd.prog 112 = some (⟨.slice 114, [.slice none 0 0], 1, 24⟩ : TI) := by kernel_rfl
theorem tz113 : tiOf Tryd.prog 113 = some (⟨.struct (flds Tryd.prog 113), [.int .i64 0, .int .i64 0, .int .i64 0], 3, 24⟩ : TI) := by kernel_rfl
theorem fo113_0 : fieldOf (⟨.struct (flds Tryd.prog 113), [.int .i64 0, .int .i64 0, .int .i64 0], 3, 24⟩ : TI) 0 = some (fld Tryd.prog 113 0) := by kernel_rfl
theorem ft113_0 : (fld Tryd.prog 113 0).type = 3 := by kernel_rfl
theorem fp113_0 : (fld Tryd.prog 113 0).offset = 0 := by kernel_rfl
theorem fo113_1 : fieldOf (⟨.struct (flds Tryd.prog 113), [.int .i64 0, .int .i64 0, .int .i64 0], 3, 24⟩ : TI) 1 = some (fld Tryd.prog 113 1) := by kernel_rfl
theorem ft113_1 : (fld Tryd.prog 113 1).type = 3 := by kernel_rfl
theorem fp113_1 : (fld Tryd.prog 113 1).offset = 1 := by kernel_rfl
theorem fo113_2 : fieldOf (⟨.struct (flds Tryd.prog 113), [.int .i64 0, .int .i64 0, .int .i64 0], 3, 24⟩ : TI) 2 = some (fld Tryd.prog 113 2) := by kernel_rfl
theorem ft113_2 : (fld Tryd.prog 113 2).type = 2 := by kernel_rfl
theorem fp113_2 : (fld Tryd.prog 113 2).offset = 2 := by kernel_rfl
theorem pl113 : places (tiOf Tryd.prog) (⟨.struct (flds Tryd.prog 113), [.int .i64 0, .int .i64 0, .int .i64 0], 3, 24⟩ : TI) = some fun i => ([(0, 1), (1, 1), (2, 1)] : List (Nat × Nat))[i]? := by kernel_rfl
theorem tz114 : tiOf Tryd.prog 114 = some (⟨.struct (flds Tryd.prog 114), [.int .i64 0, .int .i64 0, .int .i64 0], 3, 24⟩ : TI) := by kernel_rfl
theorem fo114_0 : fieldOf (⟨.struct (flds Tryd.prog 114), [.int .i64 0, .int .i64 0, .int .i64 0], 3, 24⟩ : TI) 0 = some (fld Tryd.prog 114 0) := by kernel_rfl
theorem ft114_0 : (fld Tryd.prog 114 0).type = 3 := by kernel_rfl
theorem fp114_0 : (fld Tryd.prog 114 0).offset = 0 := by kernel_rfl
theorem fo114_1 : fieldOf (⟨.struct (flds Tryd.prog 114), [.int .i64 0, .int .i64 0, .int .i64 0], 3, 24⟩ : TI) 1 = some (fld Tryd.prog 114 1) := by kernel_rfl
theorem ft114_1 : (fld Tryd.prog 114 1).type = 3 := by kernel_rfl
theorem fp114_1 : (fld Tryd.prog 114 1).offset = 1 := by kernel_rfl
theorem fo114_2 : fieldOf (⟨.struct (flds Tryd.prog 114), [.int .i64 0, .int .i64 0, .int .i64 0], 3, 24⟩ : TI) 2 = some (fld Tryd.prog 114 2) := by kernel_rfl
theorem ft114_2 : (fld Tryd.prog 114 2).type = 2 := by kernel_rfl
theorem fp114_2 : (fld Tryd.prog 114 2).offset = 2 := by kernel_rfl
theorem pl114 : places (tiOf Tryd.prog) (⟨.struct (flds Tryd.prog 114), [.int .i64 0, .int .i64 0, .int .i64 0], 3, 24⟩ : TI) = some fun i => ([(0, 1), (1, 1), (2, 1)] : List (Nat × Nat))[i]? := by kernel_rfl
theorem tz116 : tiOf Tryd.prog 116 = some (⟨.func #[22, 112] #[112, 42] false, [.nilFunc], 1, 8⟩ : TI) := by kernel_rfl
theorem tz117 : tiOf Tryd.prog 117 = some (⟨.func #[3, 3, 24] #[33] false, [.nilFunc], 1, 8⟩ : TI) := by kernel_rfl
theorem tz118 : tiOf Tryd.prog 118 = some (⟨.func #[3] #[3] false, [.nilFunc], 1, 8⟩ : TI) := by kernel_rfl
theorem tz119 : tiOf Tryd.prog 119 = some (⟨.func #[26, 3, 4] #[26] false, [.nilFunc], 1, 8⟩ : TI) := by kernel_rfl
theorem tz120 : tiOf Tryd.prog 120 = some (⟨.func #[30, 3] #[4] false, [.nilFunc], 1, 8⟩ : TI) := by kernel_rfl
theorem tz121 : tiOf Tryd.prog 121 = some (⟨.func #[26, 3] #[3] false, [.nilFunc], 1, 8⟩ : TI) := by kernel_rfl
theorem tz122 : tiOf Tryd.prog 122 = some (⟨.array 4 60, [.int .u64 0, .int .u64 0, .int .u64 0, .int .u64 0], 4, 32⟩ : TI) := by kernel_rfl
theorem tz123 : tiOf Tryd.prog 123 = some (⟨.func #[60, 60] #[122] false, [.nilFunc], 1, 8⟩ : TI) := by kernel_rfl
theorem tz124 : tiOf Tryd.prog 124 = some (⟨.func #[62, 3] #[62] false, [.nilFunc], 1, 8⟩ : TI) := by kernel_rfl
theorem tz125 : tiOf Tryd.prog 125 = some (⟨.func #[62] #[62] false, [.nilFunc], 1, 8⟩ : TI) := by kernel_rfl
theorem tz126 : tiOf Tryd.prog 126 = some (⟨.slice 62, [.slice none 0 0], 1, 24⟩ : TI) := by kernel_rfl
theorem tz127 : tiOf Tryd.prog 127 = some (⟨.func #[114, 114] #[4] false, [.nilFunc], 1, 8⟩ : TI) := by kernel_rfl
theorem tz128 : tiOf Tryd.prog 128 = some (⟨.func #[60] #[3] false, [.nilFunc], 1, 8⟩ : TI) := by kernel_rfl
theorem tz129 : tiOf Tryd.prog 129 = some (⟨.func #[26] #[83] false, [.nilFunc], 1, 8⟩ : TI) := by kernel_rfl
theorem tz130 : tiOf Tryd.prog 130 = some (⟨.array 64 5, [.int .u8 0, .int .u8 0, .int .u8 0, .int .u8 0, .int .u8 0, .int .u8 0, .int .u8 0, .int .u8 0, .int .u8 0, .int .u8 0, .int .u8 0, .int .u8 0, .int .u8 0, .int .u8 0, .int .u8 0, .int .u8 0, .int .u8 0, .int .u8 0, .int .u8 0, .int .u8 0, .int .u8 0, .int .u8 0, .int .u8 0, .int .u8 0, .int .u8 0, .int .u8 0, .int .u8 0, .int .u8 0, .int .u8 0, .int .u8 0, .int .u8 0, .int .u8 0, .int .u8 0, .int .u8 0, .int .u8 0, .int .u8 0, .int .u8 0, .int .u8 0, .int .u8 0, .int .u8 0, .int .u8 0, .int .u8 0, .int .u8 0, .int .u8 0, .int .u8 0, .int .u8 0, .int .u8 0, .int .u8 0, .int .u8 0, .int .u8 0, .int .u8 0, .int .u8 0, .int .u8 0, .int .u8 0, .int .u8 0, .int .u8 0, .int .u8 0, .int .u8 0, .int .u8 0, .int .u8 0, .int .u8 0, .int .u8 0, .int .u8 0, .int .u8 0], 64, 64⟩ : TI) := by kernel_rfl
theorem tz131 : tiOf Tryd.prog 131 = some (⟨.func #[] #[9] false, [.nilFunc], 1, 8⟩ : TI) := by kernel_rfl
theorem ft132_0 : (fld Tryd.prog 132 0).type = 17 := by kernel_rfl
theorem fp132_0 : (fld Tryd.prog 132 0).offset = 0 := by kernel_rfl
theorem ft132_1 : (fld Tryd.prog 132 1).type = 17 := by kernel_rfl
theorem fp132_1 : (fld Tryd.prog 132 1).offset = 1 := by kernel_rfl
theorem ft132_2 : (fld Tryd.prog 132 2).type = 17 := by kernel_rfl
theorem fp132_2 : (fld Tryd.prog 132 2).offset = 2 := by kernel_rfl
theorem ft132_3 : (fld Tryd.prog 132 3).type = 9 := by kernel_rfl
theorem fp132_3 : (fld Tryd.prog 132 3).offset = 3 := by kernel_rfl
theorem ft133_0 : (fld Tryd.prog 133 0).type = 17 := by kernel_rfl
theorem fp133_0 : (fld Tryd.prog 133 0).offset = 0 := by kernel_rfl
theorem ft133_1 : (fld Tryd.prog 133 1).type = 17 := by kernel_rfl
theorem fp133_1 : (fld Tryd.prog 133 1).offset = 1 := by kernel_rfl
theorem ft133_2 : (fld Tryd.prog 133 2).type = 17 := by kernel_rfl
theorem fp133_2 : (fld Tryd.prog 133 2).offset = 2 := by kernel_rfl
theorem ft133_3 : (fld Tryd.prog 133 3).type = 9 := by kernel_rfl
theorem fp133_3 : (fld Tryd.prog 133 3).offset = 3 := by kernel_rfl
theorem tz134 : tiOf Tryd.prog 134 = some (⟨.array 0 16, [], 0, 0⟩ : TI) := by kernel_rfl
theorem tz135 : tiOf Tryd.prog 135 = some (⟨.struct (flds Tryd.prog 135), [], 0, 0⟩ : TI) := by kernel_rfl
theorem fo135_0 : fieldOf (⟨.struct (flds Tryd.prog 135), [], 0, 0⟩ : TI) 0 = some (fld Tryd.prog 135 0) := by kernel_rfl
theorem ft135_0 : (fld Tryd.prog 135 0).type = 134 := by kernel_rfl
theorem fp135_0 : (fld Tryd.prog 135 0).offset = 0 := by kernel_rfl
theorem pl135 : places (tiOf Tryd.prog) (⟨.struct (flds Tryd.prog 135), [], 0, 0⟩ : TI) = some fun i => ([(0, 0)] : List (Nat × Nat))[i]? := by kernel_rfl
theorem tz136 : tiOf Tryd.prog 136 = some (⟨.struct (flds Tryd.prog 136), [], 0, 0⟩ : TI) := by kernel_rfl
theorem fo136_0 : fieldOf (⟨.struct (flds Tryd.prog 136), [], 0, 0⟩ : TI) 0 = some (fld Tryd.prog 136 0) := by kernel_rfl
theorem ft136_0 : (fld Tryd.prog 136 0).type = 134 := by kernel_rfl
theorem fp136_0 : (fld Tryd.prog 136 0).offset = 0 := by kernel_rfl
theorem pl136 : places (tiOf Tryd.prog) (⟨.struct (flds Tryd.prog 136), [], 0, 0⟩ : TI) = some fun i => ([(0, 0)] : List (Nat × Nat))[i]? := by kernel_rfl
theorem tz137 : tiOf Tryd.prog 137 = some (⟨.func #[] #[3] false, [.nilFunc], 1, 8⟩ : TI) := by kernel_rfl
theorem tz138 : tiOf Tryd.prog 138 = some (⟨.int .u32, [.int .u32 0], 1, 4⟩ : TI) := by kernel_rfl
theorem tz139 : tiOf Tryd.prog 139 = some (⟨.int .u8, [.int .u8 0], 1, 1⟩ : TI) := by kernel_rfl
theorem tz140 : tiOf Tryd.prog 140 = some (⟨.int .u8, [.int .u8 0], 1, 1⟩ : TI) := by kernel_rfl
theorem tz141 : tiOf Tryd.prog 141 = some (⟨.func #[147, 147] #[4] false, [.nilFunc], 1, 8⟩ : TI) := by kernel_rfl
theorem tz142 : tiOf Tryd.prog 142 = some (⟨.pointer 5, [.pointer none], 1, 8⟩ : TI) := by kernel_rfl
theorem tz143 : tiOf Tryd.prog 143 = some (⟨.int .i32, [.int .i32 0], 1, 4⟩ : TI) := by kernel_rfl
theorem tz144 : tiOf Tryd.prog 144 = some (⟨.int .i32, [.int .i32 0], 1, 4⟩ : TI) := by kernel_rfl
theorem tz145 : tiOf Tryd.prog 145 = some (⟨.struct (flds Tryd.prog 145), [.int .u64 0, .int .u64 0, .int .u32 0, .int .u8 0, .int .u8 0, .int .u8 0, .int .u8 0, .nilFunc, .pointer none, .int .i32 0, .int .i32 0], 11, 48⟩ : TI) := by kernel_rfl
theorem fo145_0 : fieldOf (⟨.struct (flds Tryd.prog 145), [.int .u64 0, .int .u64 0, .int .u32 0, .int .u8 0, .int .u8 0, .int .u8 0, .int .u8 0, .nilFunc, .pointer none, .int .i32 0, .int .i32 0], 11, 48⟩ : TI) 0 = some (fld Tryd.prog 145 0) := by kernel_rfl
theorem ft145_0 : (fld Tryd.prog 145 0).type = 12 := by kernel_rfl
theorem fp145_0 : (fld Tryd.prog 145 0).offset = 0 := by kernel_rfl
theorem fo145_1 : fieldOf (⟨.struct (flds Tryd.prog 145), [.int .u64 0, .int .u64 0, .int .u32 0, .int .u8 0, .int .u8 0, .int .u8 0, .int .u8 0, .nilFunc, .pointer none, .int .i32 0, .int .i32 0], 11, 48⟩ : TI) 1 = some (fld Tryd.prog 145 1) := by kernel_rfl
theorem ft145_1 : (fld Tryd.prog 145 1).type = 12 := by kernel_rfl
theorem fp145_1 : (fld Tryd.prog 145 1).offset = 1 := by kernel_rfl
theorem fo145_2 : fieldOf (⟨.struct (flds Tryd.prog 145), [.int .u64 0, .int .u64 0, .int .u32 0, .int .u8 0, .int .u8 0, .int .u8 0, .int .u8 0, .nilFunc, .pointer none, .int .i32 0, .int .i32 0], 11, 48⟩ : TI) 2 = some (fld Tryd.prog 145 2) := by kernel_rfl
theorem ft145_2 : (fld Tryd.prog 145 2).type = 138 := by kernel_rfl
theorem fp145_2 : (fld Tryd.prog 145 2).offset = 2 := by kernel_rfl
theorem fo145_3 : fieldOf (⟨.struct (flds Tryd.prog 145), [.int .u64 0, .int .u64 0, .int .u32 0, .int .u8 0, .int .u8 0, .int .u8 0, .int .u8 0, .nilFunc, .pointer none, .int .i32 0, .int .i32 0], 11, 48⟩ : TI) 3 = some (fld Tryd.prog 145 3) := by kernel_rfl
theorem ft145_3 : (fld Tryd.prog 145 3).type = 139 := by kernel_rfl
theorem fp145_3 : (fld Tryd.prog 145 3).offset = 3 := by kernel_rfl
theorem fo145_4 : fieldOf (⟨.struct (flds Tryd.prog 145), [.int .u64 0, .int .u64 0, .int .u32 0, .int .u8 0, .int .u8 0, .int .u8 0, .int .u8 0, .nilFunc, .pointer none, .int .i32 0, .int .i32 0], 11, 48⟩ : TI) 4 = some (fld Tryd.prog 145 4) := by kernel_rfl
theorem ft145_4 : (fld Tryd.prog 145 4).type = 5 := by kernel_rfl
theorem fp145_4 : (fld Tryd.prog 145 4).offset = 4 := by kernel_rfl
theorem fo145_5 : fieldOf (⟨.struct (flds Tryd.prog 145), [.int .u64 0, .int .u64 0, .int .u32 0, .int .u8 0, .int .u8 0, .int .u8 0, .int .u8 0, .nilFunc, .pointer none, .int .i32 0, .int .i32 0], 11, 48⟩ : TI) 5 = some (fld Tryd.prog 145 5) := by kernel_rfl
theorem ft145_5 : (fld Tryd.prog 145 5).type = 5 := by kernel_rfl
theorem fp145_5 : (fld Tryd.prog 145 5).offset = 5 := by kernel_rfl
theorem fo145_6 : fieldOf (⟨.struct (flds Tryd.prog 145), [.int .u64 0, .int .u64 0, .int .u32 0, .int .u8 0, .int .u8 0, .int .u8 0, .int .u8 0, .nilFunc, .pointer none, .int .i32 0, .int .i32 0], 11, 48⟩ : TI) 6 = some (fld Tryd.prog 145 6) := by kernel_rfl
theorem ft145_6 : (fld Tryd.prog 145 6).type = 140 := by kernel_rfl
theorem fp145_6 : (fld Tryd.prog 145 6).offset = 6 := by kernel_rfl
theorem fo145_7 : fieldOf (⟨.struct (flds Tryd.prog 145), [.int .u64 0, .int .u64 0, .int .u32 0, .int .u8 0, .int .u8 0, .int .u8 0, .int .u8 0, .nilFunc, .pointer none, .int .i32 0, .int .i32 0], 11, 48⟩ : TI) 7 = some (fld Tryd.prog 145 7) := by kernel_rfl
theorem ft145_7 : (fld Tryd.prog 145 7).type = 141 := by kernel_rfl
theorem fp145_7 : (fld Tryd.prog 145 7).offset = 7 := by kernel_rfl
theorem fo145_8 : fieldOf (⟨.struct (flds Tryd.prog 145), [.int .u64 0, .int .u64 0, .int .u32 0, .int .u8 0, .int .u8 0, .int .u8 0, .int .u8 0, .nilFunc, .pointer none, .int .i32 0, .int .i32 0], 11, 48⟩ : TI) 8 = some (fld Tryd.prog 145 8) := by kernel_rfl
theorem ft145_8 : (fld Tryd.prog 145 8).type = 142 := by kernel_rfl
theorem fp145_8 : (fld Tryd.prog 145 8).offset = 8 := by kernel_rfl
theorem fo145_9 : fieldOf (⟨.struct (flds Tryd.prog 145), [.int .u64 0, .int .u64 0, .int .u32 0, .int .u8 0, .int .u8 0, .int .u8 0, .int .u8 0, .nilFunc, .pointer none, .int .i32 0, .int .i32 0], 11, 48⟩ : TI) 9 = some (fld Tryd.prog 145 9) := by kernel_rfl
theorem ft145_9 : (fld Tryd.prog 145 9).type = 143 := by kernel_rfl
theorem fp145_9 : (fld Tryd.prog 145 9).offset = 9 := by kernel_rfl
theorem fo145_10 : fieldOf (⟨.struct (flds Tryd.prog 145), [.int .u64 0, .int .u64 0, .int .u32 0, .int .u8 0, .int .u8 0, .int .u8 0, .int .u8 0, .nilFunc, .pointer none, .int .i32 0, .int .i32 0], 11, 48⟩ : TI) 10 = some (fld Tryd.prog 145 10) := by kernel_rfl
theorem ft145_10 : (fld Tryd.prog 145 10).type = 144 := by kernel_rfl
theorem fp145_10 : (fld Tryd.prog 145 10).offset = 10 := by kernel_rfl
theorem pl145 : places (tiOf Tryd.prog) (⟨.struct (flds Tryd.prog 145), [.int .u64 0, .int .u64 0, .int .u32 0, .int .u8 0, .int .u8 0, .int .u8 0, .int .u8 0, .nilFunc, .pointer none, .int .i32 0, .int .i32 0], 11, 48⟩ : TI) = some fun i => ([(0, 1), (1, 1), (2, 1), (3, 1), (4, 1), (5, 1), (6, 1), (7, 1), (8, 1), (9, 1), (10, 1)] : List (Nat × Nat))[i]? := by kernel_rfl
theorem tz146 : tiOf Tryd.prog 146 = some (⟨.struct (flds Tryd.prog 146), [.int .u64 0, .int .u64 0, .int .u32 0, .int .u8 0, .int .u8 0, .int .u8 0, .int .u8 0, .nilFunc, .pointer none, .int .i32 0, .int .i32 0], 11, 48⟩ : TI) := by kernel_rfl
theorem fo146_0 : fieldOf (⟨.struct (flds Tryd.prog 146), [.int .u64 0, .int .u64 0, .int .u32 0, .int .u8 0, .int .u8 0, .int .u8 0, .int .u8 0, .nilFunc, .pointer none, .int .i32 0, .int .i32 0], 11, 48⟩ : TI) 0 = some (fld Tryd.prog 146 0) := by kernel_rfl
theorem ft146_0 : (fld Tryd.prog 146 0).type = 12 := by kernel_rfl
theorem fp146_0 : (fld Tryd.prog 146 0).offset = 0 := by kernel_rfl
theorem fo146_1 : fieldOf (⟨.struct (flds Tryd.prog 146), [.int .u64 0, .int .u64 0, .int .u32 0, .int .u8 0, .int .u8 0, .int .u8 0, .int .u8 0, .nilFunc, .pointer none, .int .i32 0, .int .i32 0], 11, 48⟩ : TI) 1 = some (fld Tryd.prog 146 1) := by kernel_rfl
theorem ft146_1 : (fld Tryd.prog 146 1).type = 12 := by kernel_rfl
theorem fp146_1 : (fld Tryd.prog 146 1).offset = 1 := by kernel_rfl
theorem fo146_2 : fieldOf (⟨.struct (flds Tryd.prog 146), [.int .u64 0, .int .u64 0, .int .u32 0, .int .u8 0, .int .u8 0, .int .u8 0, .int .u8 0, .nilFunc, .pointer none, .int .i32 0, .int .i32 0], 11, 48⟩ : TI) 2 = some (fld Tryd.prog 146 2) := by kernel_rfl
theorem ft146_2 : (fld Tryd.prog 146 2).type = 138 := by kernel_rfl
theorem fp146_2 : (fld Tryd.prog 146 2).offset = 2 := by kernel_rfl
theorem fo146_3 : fieldOf (⟨.struct (flds Tryd.prog 146), [.int .u64 0, .int .u64 0, .int .u32 0, .int .u8 0, .int .u8 0, .int .u8 0, .int .u8 0, .nilFunc, .pointer none, .int .i32 0, .int .i32 0], 11, 48⟩ : TI) 3 = some (fld Tryd.prog 146 3) := by kernel_rfl
theorem ft146_3 : (fld Tryd.prog 146 3).type = 139 := by kernel_rfl
theorem fp146_3 : (fld Tryd.prog 146 3).offset = 3 := by kernel_rfl
theorem fo146_4 : fieldOf (⟨.struct (flds Tryd.prog 146), [.int .u64 0, .int .u64 0, .int .u32 0, .int .u8 0, .int .u8 0, .int .u8 0, .int .u8 0, .nilFunc, .pointer none, .int .i32 0, .int .i32 0], 11, 48⟩ : TI) 4 = some (fld Tryd.prog 146 4) := by kernel_rfl
theorem ft146_4 : (fld Tryd.prog 146 4).type = 5 := by kernel_rfl
theorem fp146_4 : (fld Tryd.prog 146 4).offset = 4 := by kernel_rfl
theorem fo146_5 : fieldOf (⟨.struct (flds Tryd.prog 146), [.int .u64 0, .int .u64 0, .int .u32 0, .int .u8 0, .int .u8 0, .int .u8 0, .int .u8 0, .nilFunc, .pointer none, .int .i32 0, .int .i32 0], 11, 48⟩ : TI) 5 = some (fld Tryd.prog 146 5) := by kernel_rfl
theorem ft146_5 : (fld Tryd.prog 146 5).type = 5 := by kernel_rfl
theorem fp146_5 : (fld Tryd.prog 146 5).offset = 5 := by kernel_rfl
theorem fo146_6 : fieldOf (⟨.struct (flds Tryd.prog 146), [.int .u64 0, .int .u64 0, .int .u32 0, .int .u8 0, .int .u8 0, .int .u8 0, .int .u8 0, .nilFunc, .pointer none, .int .i32 0, .int .i32 0], 11, 48⟩ : TI) 6 = some (fld Tryd.prog 146 6) := by kernel_rfl
theorem ft146_6 : (fld Tryd.prog 146 6).type = 140 := by kernel_rfl
theorem fp146_6 : (fld Tryd.prog 146 6).offset = 6 := by kernel_rfl
theorem fo146_7 : fieldOf (⟨.struct (flds Tryd.prog 146), [.int .u64 0, .int .u64 0, .int .u32 0, .int .u8 0, .int .u8 0, .int .u8 0, .int .u8 0, .nilFunc, .pointer none, .int .i32 0, .int .i32 0], 11, 48⟩ : TI) 7 = some (fld Tryd.prog 146 7) := by kernel_rfl
theorem ft146_7 : (fld Tryd.prog 146 7).type = 141 := by kernel_rfl
theorem fp146_7 : (fld Tryd.prog 146 7).offset = 7 := by kernel_rfl
theorem fo146_8 : fieldOf (⟨.struct (flds Tryd.prog 146), [.int .u64 0, .int .u64 0, .int .u32 0, .int .u8 0, .int .u8 0, .int .u8 0, .int .u8 0, .nilFunc, .pointer none, .int .i32 0, .int .i32 0], 11, 48⟩ : TI) 8 = some (fld Tryd.prog 146 8) := by kernel_rfl
theorem ft146_8 : (fld Tryd.prog 146 8).type = 142 := by kernel_rfl
theorem fp146_8 : (fld Tryd.prog 146 8).offset = 8 := by kernel_rfl
theorem fo146_9 : fieldOf (⟨.struct (flds Tryd.prog 146), [.int .u64 0, .int .u64 0, .int .u32 0, .int .u8 0, .int .u8 0, .int .u8 0, .int .u8 0, .nilFunc, .pointer none, .int .i32 0, .int .i32 0], 11, 48⟩ : TI) 9 = some (fld Tryd.prog 146 9) := by kernel_rfl
theorem ft146_9 : (fld Tryd.prog 146 9).type = 143 := by kernel_rfl
theorem fp146_9 : (fld Tryd.prog 146 9).offset = 9 := by kernel_rfl
theorem fo146_10 : fieldOf (⟨.struct (flds Tryd.prog 146), [.int .u64 0, .int .u64 0, .int .u32 0, .int .u8 0, .int .u8 0, .int .u8 0, .int .u8 0, .nilFunc, .pointer none, .int .i32 0, .int .i32 0], 11, 48⟩ : TI) 10 = some (fld Tryd.prog 146 10) := by kernel_rfl
theorem ft146_10 : (fld Tryd.prog 146 10).type = 144 := by kernel_rfl
theorem fp146_10 : (fld Tryd.prog 146 10).offset = 10 := by kernel_rfl
theorem pl146 : places (tiOf Tryd.prog) (⟨.struct (flds Tryd.prog 146), [.int .u64 0, .int .u64 0, .int .u32 0, .int .u8 0, .int .u8 0, .int .u8 0, .int .u8 0, .nilFunc, .pointer none, .int .i32 0, .int .i32 0], 11, 48⟩ : TI) = some fun i => ([(0, 1), (1, 1), (2, 1), (3, 1), (4, 1), (5, 1), (6, 1), (7, 1), (8, 1), (9, 1), (10, 1)] : List (Nat × Nat))[i]? := by kernel_rfl
theorem sz1 : sizeAt (tiOf Tryd.prog) 1 = some (1, false) := by kernel_rfl
theorem sz2 : sizeAt (tiOf Tryd.prog) 2 = some (1, false) := by kernel_rfl
theorem sz3 : sizeAt (tiOf Tryd.prog) 3 = some (1, false) := by kernel_rfl
theorem sz4 : sizeAt (tiOf Tryd.prog) 4 = some (1, false) := by kernel_rfl
theorem sz5 : sizeAt (tiOf Tryd.prog) 5 = some (1, false) := by kernel_rfl
theorem sz6 : sizeAt (tiOf Tryd.prog) 6 = some (1, false) := by kernel_rfl
theorem sz7 : sizeAt (tiOf Tryd.prog) 7 = some (4, true) := by kernel_rfl
theorem fa7_0 : fieldAt (tiOf Tryd.prog) 7 0 = some (0, 1, false) := by kernel_rfl
theorem fa7_1 : fieldAt (tiOf Tryd.prog) 7 1 = some (1, 1, false) := by kernel_rfl
theorem fa7_2 : fieldAt (tiOf Tryd.prog) 7 2 = some (2, 1, false) := by kernel_rfl
theorem fa7_3 : fieldAt (tiOf Tryd.prog) 7 3 = some (3, 1, false) := by kernel_rfl
theorem sz8 : sizeAt (tiOf Tryd.prog) 8 = some (4, true) := by kernel_rfl
theorem fa8_0 : fieldAt (tiOf Tryd.prog) 8 0 = some (0, 1, false) := by kernel_rfl
theorem fa8_1 : fieldAt (tiOf Tryd.prog) 8 1 = some (1, 1, false) := by kernel_rfl
theorem fa8_2 : fieldAt (tiOf Tryd.prog) 8 2 = some (2, 1, false) := by kernel_rfl
theorem fa8_3 : fieldAt (tiOf Tryd.prog) 8 3 = some (3, 1, false) := by kernel_rfl
theorem sz12 : sizeAt (tiOf Tryd.prog) 12 = some (1, false) := by kernel_rfl
theorem sz15 : sizeAt (tiOf Tryd.prog) 15 = some (1, false) := by kernel_rfl
theorem sz16 : sizeAt (tiOf Tryd.prog) 16 = some (1, false) := by kernel_rfl
theorem sz17 : sizeAt (tiOf Tryd.prog) 17 = some (1, false) := by kernel_rfl
theorem sz18 : sizeAt (tiOf Tryd.prog) 18 = some (1, true) := by kernel_rfl
theorem fa18_0 : fieldAt (tiOf Tryd.prog) 18 0 = some (0, 1, false) := by kernel_rfl
theorem sz19 : sizeAt (tiOf Tryd.prog) 19 = some (1, true) := by kernel_rfl
theorem fa19_0 : fieldAt (tiOf Tryd.prog) 19 0 = some (0, 1, false) := by kernel_rfl
theorem sz21 : sizeAt (tiOf Tryd.prog) 21 = some (1, false) := by kernel_rfl
theorem sz22 : sizeAt (tiOf Tryd.prog) 22 = some (1, false) := by kernel_rfl
theorem sz23 : sizeAt (tiOf Tryd.prog) 23 = some (2, true) := by kernel_rfl
theorem sz24 : sizeAt (tiOf Tryd.prog) 24 = some (1, false) := by kernel_rfl
theorem el24 : elemAt (tiOf Tryd.prog) 24 = some 3 := by kernel_rfl
theorem sz25 : sizeAt (tiOf Tryd.prog) 25 = some (1, false) := by kernel_rfl
theorem el25 : elemAt (tiOf Tryd.prog) 25 = some 2 := by kernel_rfl
theorem sz26 : sizeAt (tiOf Tryd.prog) 26 = some (1, false) := by kernel_rfl
theorem el26 : elemAt (tiOf Tryd.prog) 26 = some 1 := by kernel_rfl
theorem sz27 : sizeAt (tiOf Tryd.prog) 27 = some (8, true) := by kernel_rfl
theorem fa27_0 : fieldAt (tiOf Tryd.prog) 27 0 = some (0, 1, false) := by kernel_rfl
theorem fa27_1 : fieldAt (tiOf Tryd.prog) 27 1 = some (1, 2, true) := by kernel_rfl
theorem fa27_2 : fieldAt (tiOf Tryd.prog) 27 2 = some (3, 1, false) := by kernel_rfl
theorem fa27_3 : fieldAt (tiOf Tryd.prog) 27 3 = some (4, 1, false) := by kernel_rfl
theorem fa27_4 : fieldAt (tiOf Tryd.prog) 27 4 = some (5, 1, false) := by kernel_rfl
theorem fa27_5 : fieldAt (tiOf Tryd.prog) 27 5 = some (6, 1, false) := by kernel_rfl
theorem fa27_6 : fieldAt (tiOf Tryd.prog) 27 6 = some (7, 1, false) := by kernel_rfl
theorem sz28 : sizeAt (tiOf Tryd.prog) 28 = some (8, true) := by kernel_rfl
theorem fa28_0 : fieldAt (tiOf Tryd.prog) 28 0 = some (0, 1, false) := by kernel_rfl
theorem fa28_1 : fieldAt (tiOf Tryd.prog) 28 1 = some (1, 2, true) := by kernel_rfl
theorem fa28_2 : fieldAt (tiOf Tryd.prog) 28 2 = some (3, 1, false) := by kernel_rfl
theorem fa28_3 : fieldAt (tiOf Tryd.prog) 28 3 = some (4, 1, false) := by kernel_rfl
theorem fa28_4 : fieldAt (tiOf Tryd.prog) 28 4 = some (5, 1, false) := by kernel_rfl
theorem fa28_5 : fieldAt (tiOf Tryd.prog) 28 5 = some (6, 1, false) := by kernel_rfl
theorem fa28_6 : fieldAt (tiOf Tryd.prog) 28 6 = some (7, 1, false) := by kernel_rfl
theorem sz29 : sizeAt (tiOf Tryd.prog) 29 = some (1, false) := by kernel_rfl
theorem el29 : elemAt (tiOf Tryd.prog) 29 = some 3 := by kernel_rfl
theorem sz30 : sizeAt (tiOf Tryd.prog) 30 = some (1, false) := by kernel_rfl
theorem el30 : elemAt (tiOf Tryd.prog) 30 = some 1 := by kernel_rfl
theorem sz31 : sizeAt (tiOf Tryd.prog) 31 = some (1, false) := by kernel_rfl
theorem el31 : elemAt (tiOf Tryd.prog) 31 = some 1 := by kernel_rfl
theorem sz32 : sizeAt (tiOf Tryd.prog) 32 = some (5, true) := by kernel_rfl
theorem fa32_0 : fieldAt (tiOf Tryd.prog) 32 0 = some (0, 1, false) := by kernel_rfl
theorem fa32_1 : fieldAt (tiOf Tryd.prog) 32 1 = some (1, 1, false) := by kernel_rfl
theorem fa32_2 : fieldAt (tiOf Tryd.prog) 32 2 = some (2, 1, false) := by kernel_rfl
theorem fa32_3 : fieldAt (tiOf Tryd.prog) 32 3 = some (3, 1, false) := by kernel_rfl
theorem fa32_4 : fieldAt (tiOf Tryd.prog) 32 4 = some (4, 1, false) := by kernel_rfl
theorem sz33 : sizeAt (tiOf Tryd.prog) 33 = some (5, true) := by kernel_rfl
theorem fa33_0 : fieldAt (tiOf Tryd.prog) 33 0 = some (0, 1, false) := by kernel_rfl
theorem fa33_1 : fieldAt (tiOf Tryd.prog) 33 1 = some (1, 1, false) := by kernel_rfl
theorem fa33_2 : fieldAt (tiOf Tryd.prog) 33 2 = some (2, 1, false) := by kernel_rfl
theorem fa33_3 : fieldAt (tiOf Tryd.prog) 33 3 = some (3, 1, false) := by kernel_rfl
theorem fa33_4 : fieldAt (tiOf Tryd.prog) 33 4 = some (4, 1, false) := by kernel_rfl
theorem sz34 : sizeAt (tiOf Tryd.prog) 34 = some (1, false) := by kernel_rfl
theorem sz35 : sizeAt (tiOf Tryd.prog) 35 = some (3, true) := by kernel_rfl
theorem fa35_0 : fieldAt (tiOf Tryd.prog) 35 0 = some (0, 1, false) := by kernel_rfl
theorem fa35_1 : fieldAt (tiOf Tryd.prog) 35 1 = some (1, 1, false) := by kernel_rfl
theorem fa35_2 : fieldAt (tiOf Tryd.prog) 35 2 = some (2, 1, false) := by kernel_rfl
theorem sz36 : sizeAt (tiOf Tryd.prog) 36 = some (3, true) := by kernel_rfl
theorem fa36_0 : fieldAt (tiOf Tryd.prog) 36 0 = some (0, 1, false) := by kernel_rfl
theorem fa36_1 : fieldAt (tiOf Tryd.prog) 36 1 = some (1, 1, false) := by kernel_rfl
theorem fa36_2 : fieldAt (tiOf Tryd.prog) 36 2 = some (2, 1, false) := by kernel_rfl
theorem sz37 : sizeAt (tiOf Tryd.prog) 37 = some (1, false) := by kernel_rfl
theorem sz38 : sizeAt (tiOf Tryd.prog) 38 = some (2, true) := by kernel_rfl
theorem fa38_0 : fieldAt (tiOf Tryd.prog) 38 0 = some (0, 1, false) := by kernel_rfl
theorem fa38_1 : fieldAt (tiOf Tryd.prog) 38 1 = some (1, 1, false) := by kernel_rfl
theorem sz39 : sizeAt (tiOf Tryd.prog) 39 = some (2, true) := by kernel_rfl
theorem fa39_0 : fieldAt (tiOf Tryd.prog) 39 0 = some (0, 1, false) := by kernel_rfl
theorem fa39_1 : fieldAt (tiOf Tryd.prog) 39 1 = some (1, 1, false) := by kernel_rfl
theorem sz40 : sizeAt (tiOf Tryd.prog) 40 = some (1, false) := by kernel_rfl
theorem sz41 : sizeAt (tiOf Tryd.prog) 41 = some (1, false) := by kernel_rfl
theorem sz42 : sizeAt (tiOf Tryd.prog) 42 = some (1, false) := by kernel_rfl
theorem sz44 : sizeAt (tiOf Tryd.prog) 44 = some (1, false) := by kernel_rfl
theorem sz46 : sizeAt (tiOf Tryd.prog) 46 = some (1, false) := by kernel_rfl
theorem sz47 : sizeAt (tiOf Tryd.prog) 47 = some (1, false) := by kernel_rfl
theorem sz48 : sizeAt (tiOf Tryd.prog) 48 = some (1, false) := by kernel_rfl
theorem sz49 : sizeAt (tiOf Tryd.prog) 49 = some (1, false) := by kernel_rfl
theorem sz50 : sizeAt (tiOf Tryd.prog) 50 = some (1, false) := by kernel_rfl
theorem sz51 : sizeAt (tiOf Tryd.prog) 51 = some (1, false) := by kernel_rfl
theorem sz52 : sizeAt (tiOf Tryd.prog) 52 = some (1, false) := by kernel_rfl
theorem sz53 : sizeAt (tiOf Tryd.prog) 53 = some (1, false) := by kernel_rfl
theorem sz54 : sizeAt (tiOf Tryd.prog) 54 = some (1, false) := by kernel_rfl
theorem sz55 : sizeAt (tiOf Tryd.prog) 55 = some (1, false) := by kernel_rfl
theorem sz56 : sizeAt (tiOf Tryd.prog) 56 = some (1, false) := by kernel_rfl
theorem sz57 : sizeAt (tiOf Tryd.prog) 57 = some (1, false) := by kernel_rfl
theorem sz58 : sizeAt (tiOf Tryd.prog) 58 = some (1, false) := by kernel_rfl
theorem sz59 : sizeAt (tiOf Tryd.prog) 59 = some (1, false) := by kernel_rfl
theorem sz60 : sizeAt (tiOf Tryd.prog) 60 = some (1, false) := by kernel_rfl
theorem sz61 : sizeAt (tiOf Tryd.prog) 61 = some (2, true) := by kernel_rfl
theorem fa61_0 : fieldAt (tiOf Tryd.prog) 61 0 = some (0, 1, false) := by kernel_rfl
theorem fa61_1 : fieldAt (tiOf Tryd.prog) 61 1 = some (1, 1, false) := by kernel_rfl
theorem sz62 : sizeAt (tiOf Tryd.prog) 62 = some (2, true) := by kernel_rfl
theorem fa62_0 : fieldAt (tiOf Tryd.prog) 62 0 = some (0, 1, false) := by kernel_rfl
theorem fa62_1 : fieldAt (tiOf Tryd.prog) 62 1 = some (1, 1, false) := by kernel_rfl
theorem sz63 : sizeAt (tiOf Tryd.prog) 63 = some (3, true) := by kernel_rfl
theorem fa63_0 : fieldAt (tiOf Tryd.prog) 63 0 = some (0, 1, false) := by kernel_rfl
theorem fa63_1 : fieldAt (tiOf Tryd.prog) 63 1 = some (1, 2, true) := by kernel_rfl
theorem sz64 : sizeAt (tiOf Tryd.prog) 64 = some (3, true) := by kernel_rfl
theorem fa64_0 : fieldAt (tiOf Tryd.prog) 64 0 = some (0, 1, false) := by kernel_rfl
theorem fa64_1 : fieldAt (tiOf Tryd.prog) 64 1 = some (1, 2, true) := by kernel_rfl
theorem sz66 : sizeAt (tiOf Tryd.prog) 66 = some (1, false) := by kernel_rfl
theorem sz67 : sizeAt (tiOf Tryd.prog) 67 = some (1, false) := by kernel_rfl
theorem sz68 : sizeAt (tiOf Tryd.prog) 68 = some (1, false) := by kernel_rfl
theorem sz69 : sizeAt (tiOf Tryd.prog) 69 = some (1, false) := by kernel_rfl
theorem sz70 : sizeAt (tiOf Tryd.prog) 70 = some (2, true) := by kernel_rfl
theorem fa70_0 : fieldAt (tiOf Tryd.prog) 70 0 = some (0, 1, false) := by kernel_rfl
theorem fa70_1 : fieldAt (tiOf Tryd.prog) 70 1 = some (1, 1, false) := by kernel_rfl
theorem sz71 : sizeAt (tiOf Tryd.prog) 71 = some (2, true) := by kernel_rfl
theorem fa71_0 : fieldAt (tiOf Tryd.prog) 71 0 = some (0, 1, false) := by kernel_rfl
theorem fa71_1 : fieldAt (tiOf Tryd.prog) 71 1 = some (1, 1, false) := by kernel_rfl
theorem sz72 : sizeAt (tiOf Tryd.prog) 72 = some (1, false) := by kernel_rfl
theorem sz73 : sizeAt (tiOf Tryd.prog) 73 = some (1, false) := by kernel_rfl
theorem sz74 : sizeAt (tiOf Tryd.prog) 74 = some (1, false) := by kernel_rfl
theorem sz75 : sizeAt (tiOf Tryd.prog) 75 = some (1, false) := by kernel_rfl
theorem sz76 : sizeAt (tiOf Tryd.prog) 76 = some (1, false) := by kernel_rfl
theorem sz77 : sizeAt (tiOf Tryd.prog) 77 = some (1, false) := by kernel_rfl
theorem sz78 : sizeAt (tiOf Tryd.prog) 78 = some (1, false) := by kernel_rfl
theorem sz79 : sizeAt (tiOf Tryd.prog) 79 = some (1, false) := by kernel_rfl
theorem sz80 : sizeAt (tiOf Tryd.prog) 80 = some (1, false) := by kernel_rfl
theorem sz81 : sizeAt (tiOf Tryd.prog) 81 = some (1, false) := by kernel_rfl
theorem sz82 : sizeAt (tiOf Tryd.prog) 82 = some (1, false) := by kernel_rfl
theorem sz83 : sizeAt (tiOf Tryd.prog) 83 = some (1, false) := by kernel_rfl
theorem sz84 : sizeAt (tiOf Tryd.prog) 84 = some (1, false) := by kernel_rfl
theorem sz86 : sizeAt (tiOf Tryd.prog) 86 = some (1, false) := by kernel_rfl
theorem sz87 : sizeAt (tiOf Tryd.prog) 87 = some (1, false) := by kernel_rfl
theorem sz88 : sizeAt (tiOf Tryd.prog) 88 = some (1, false) := by kernel_rfl
theorem sz89 : sizeAt (tiOf Tryd.prog) 89 = some (1, false) := by kernel_rfl
theorem sz91 : sizeAt (tiOf Tryd.prog) 91 = some (1, false) := by kernel_rfl
theorem sz92 : sizeAt (tiOf Tryd.prog) 92 = some (3, true) := by kernel_rfl
theorem fa92_0 : fieldAt (tiOf Tryd.prog) 92 0 = some (0, 1, false) := by kernel_rfl
theorem fa92_1 : fieldAt (tiOf Tryd.prog) 92 1 = some (1, 1, false) := by kernel_rfl
theorem fa92_2 : fieldAt (tiOf Tryd.prog) 92 2 = some (2, 1, false) := by kernel_rfl
theorem sz93 : sizeAt (tiOf Tryd.prog) 93 = some (3, true) := by kernel_rfl
theorem fa93_0 : fieldAt (tiOf Tryd.prog) 93 0 = some (0, 1, false) := by kernel_rfl
theorem fa93_1 : fieldAt (tiOf Tryd.prog) 93 1 = some (1, 1, false) := by kernel_rfl
theorem fa93_2 : fieldAt (tiOf Tryd.prog) 93 2 = some (2, 1, false) := by kernel_rfl
theorem sz94 : sizeAt (tiOf Tryd.prog) 94 = some (1, false) := by kernel_rfl
theorem sz95 : sizeAt (tiOf Tryd.prog) 95 = some (1, false) := by kernel_rfl
theorem sz96 : sizeAt (tiOf Tryd.prog) 96 = some (1, false) := by kernel_rfl
theorem sz97 : sizeAt (tiOf Tryd.prog) 97 = some (1, false) := by kernel_rfl
theorem sz98 : sizeAt (tiOf Tryd.prog) 98 = some (1, false) := by kernel_rfl
theorem sz99 : sizeAt (tiOf Tryd.prog) 99 = some (1, false) := by kernel_rfl
theorem sz100 : sizeAt (tiOf Tryd.prog) 100 = some (1, false) := by kernel_rfl
theorem sz101 : sizeAt (tiOf Tryd.prog) 101 = some (1, false) := by kernel_rfl
theorem sz102 : sizeAt (tiOf Tryd.prog) 102 = some (1, false) := by kernel_rfl
theorem sz103 : sizeAt (tiOf Tryd.prog) 103 = some (1, false) := by kernel_rfl
theorem sz104 : sizeAt (tiOf Tryd.prog) 104 = some (1, false) := by kernel_rfl
theorem sz105 : sizeAt (tiOf Tryd.prog) 105 = some (1, false) := by kernel_rfl
theorem sz106 : sizeAt (tiOf Tryd.prog) 106 = some (1, false) := by kernel_rfl
theorem sz107 : sizeAt (tiOf Tryd.prog) 107 = some (1, false) := by kernel_rfl
theorem sz108 : sizeAt (tiOf Tryd.prog) 108 = some (1, false) := by kernel_rfl
theorem sz109 : sizeAt (tiOf Tryd.prog) 109 = some (1, false) := by kernel_rfl
theorem sz110 : sizeAt (tiOf Tryd.prog) 110 = some (1, false) := by kernel_rfl
theorem sz111 : sizeAt (tiOf Tryd.prog) 111 = some (1, false) := by kernel_rfl
theorem sz112 : sizeAt (tiOf Tryd.prog) 112 = some (1, false) := by kernel_rfl
theorem el112 : elemAt (tiOf Tryd.prog) 112 = some 3 := by kernel_rfl
theorem sz113 : sizeAt (tiOf Tryd.prog) 113 = some (3, true) := by kernel_rfl
theorem fa113_0 : fieldAt (tiOf Tryd.prog) 113 0 = some (0, 1, false) := by kernel_rfl
theorem fa113_1 : fieldAt (tiOf Tryd.prog) 113 1 = some (1, 1, false) := by kernel_rfl
theorem fa113_2 : fieldAt (tiOf Tryd.prog) 113 2 = some (2, 1, false) := by kernel_rfl
theorem sz114 : sizeAt (tiOf Tryd.prog) 114 = some (3, true) := by kernel_rfl
theorem fa114_0 : fieldAt (tiOf Tryd.prog) 114 0 = some (0, 1, false) := by kernel_rfl
theorem fa114_1 : fieldAt (tiOf Tryd.prog) 114 1 = some (1, 1, false) := by kernel_rfl
theorem fa114_2 : fieldAt (tiOf Tryd.prog) 114 2 = some (2, 1, false) := by kernel_rfl
theorem sz116 : sizeAt (tiOf Tryd.prog) 116 = some (1, false) := by kernel_rfl
theorem sz117 : sizeAt (tiOf Tryd.prog) 117 = some (1, false) := by kernel_rfl
theorem sz118 : sizeAt (tiOf Tryd.prog) 118 = some (1, false) := by kernel_rfl
theorem sz119 : sizeAt (tiOf Tryd.prog) 119 = some (1, false) := by kernel_rfl
theorem sz120 : sizeAt (tiOf Tryd.prog) 120 = some (1, false) := by kernel_rfl
theorem sz121 : sizeAt (tiOf Tryd.prog) 121 = some (1, false) := by kernel_rfl
theorem sz122 : sizeAt (tiOf Tryd.prog) 122 = some (4, true) := by kernel_rfl
theorem sz123 : sizeAt (tiOf Tryd.prog) 123 = some (1, false) := by kernel_rfl
theorem sz124 : sizeAt (tiOf Tryd.prog) 124 = some (1, false) := by kernel_rfl
theorem sz125 : sizeAt (tiOf Tryd.prog) 125 = some (1, false) := by kernel_rfl
theorem sz126 : sizeAt (tiOf Tryd.prog) 126 = some (1, false) := by kernel_rfl
theorem el126 : elemAt (tiOf Tryd.prog) 126 = some 2 := by kernel_rfl
theorem sz127 : sizeAt (tiOf Tryd.prog) 127 = some (1, false) := by kernel_rfl
theorem sz128 : sizeAt (tiOf Tryd.prog) 128 = some (1, false) := by kernel_rfl
theorem sz129 : sizeAt (tiOf Tryd.prog) 129 = some (1, false) := by kernel_rfl
theorem sz130 : sizeAt (tiOf Tryd.prog) 130 = some (64, true) := by kernel_rfl
theorem sz131 : sizeAt (tiOf Tryd.prog) 131 = some (1, false) := by kernel_rfl
theorem sz134 : sizeAt (tiOf Tryd.prog) 134 = some (0, true) := by kernel_rfl
theorem sz135 : sizeAt (tiOf Tryd.prog) 135 = some (0, true) := by kernel_rfl
theorem fa135_0 : fieldAt (tiOf Tryd.prog) 135 0 = some (0, 0, true) := by kernel_rfl
theorem sz136 : sizeAt (tiOf Tryd.prog) 136 = some (0, true) := by kernel_rfl
theorem fa136_0 : fieldAt (tiOf Tryd.prog) 136 0 = some (0, 0, true) := by kernel_rfl
theorem sz137 : sizeAt (tiOf Tryd.prog) 137 = some (1, false) := by kernel_rfl
theorem sz138 : sizeAt (tiOf Tryd.prog) 138 = some (1, false) := by kernel_rfl
theorem sz139 : sizeAt (tiOf Tryd.prog) 139 = some (1, false) := by kernel_rfl
theorem sz140 : sizeAt (tiOf Tryd.prog) 140 = some (1, false) := by kernel_rfl
theorem sz141 : sizeAt (tiOf Tryd.prog) 141 = some (1, false) := by kernel_rfl
theorem sz142 : sizeAt (tiOf Tryd.prog) 142 = some (1, false) := by kernel_rfl
theorem sz143 : sizeAt (tiOf Tryd.prog) 143 = some (1, false) := by kernel_rfl
theorem sz144 : sizeAt (tiOf Tryd.prog) 144 = some (1, false) := by kernel_rfl
theorem sz145 : sizeAt (tiOf Tryd.prog) 145 = some (11, true) := by kernel_rfl
theorem fa145_0 : fieldAt (tiOf Tryd.prog) 145 0 = some (0, 1, false) := by kernel_rfl
theorem fa145_1 : fieldAt (tiOf Tryd.prog) 145 1 = some (1, 1, false) := by kernel_rfl
theorem fa145_2 : fieldAt (tiOf Tryd.prog) 145 2 = some (2, 1, false) := by kernel_rfl
theorem fa145_3 : fieldAt (tiOf Tryd.prog) 145 3 = some (3, 1, false) := by kernel_rfl
theorem fa145_4 : fieldAt (tiOf Tryd.prog) 145 4 = some (4, 1, false) := by kernel_rfl
theorem fa145_5 : fieldAt (tiOf Tryd.prog) 145 5 = some (5, 1, false) := by kernel_rfl
theorem fa145_6 : fieldAt (tiOf Tryd.prog) 145 6 = some (6, 1, false) := by kernel_rfl
theorem fa145_7 : fieldAt (tiOf Tryd.prog) 145 7 = some (7, 1, false) := by kernel_rfl
theorem fa145_8 : fieldAt (tiOf Tryd.prog) 145 8 = some (8, 1, false) := by kernel_rfl
theorem fa145_9 : fieldAt (tiOf Tryd.prog) 145 9 = some (9, 1, false) := by kernel_rfl
theorem fa145_10 : fieldAt (tiOf Tryd.prog) 145 10 = some (10, 1, false) := by kernel_rfl
theorem sz146 : sizeAt (tiOf Tryd.prog) 146 = some (11, true) := by kernel_rfl
theorem fa146_0 : fieldAt (tiOf Tryd.prog) 146 0 = some (0, 1, false) := by kernel_rfl
theorem fa146_1 : fieldAt (tiOf Tryd.prog) 146 1 = some (1, 1, false) := by kernel_rfl
theorem fa146_2 : fieldAt (tiOf Tryd.prog) 146 2 = some (2, 1, false) := by kernel_rfl
theorem fa146_3 : fieldAt (tiOf Tryd.prog) 146 3 = some (3, 1, false) := by kernel_rfl
theorem fa146_4 : fieldAt (tiOf Tryd.prog) 146 4 = some (4, 1, false) := by kernel_rfl
theorem fa146_5 : fieldAt (tiOf Tryd.prog) 146 5 = some (5, 1, false) := by kernel_rfl
theorem fa146_6 : fieldAt (tiOf Tryd.prog) 146 6 = some (6, 1, false) := by kernel_rfl
theorem fa146_7 : fieldAt (tiOf Tryd.prog) 146 7 = some (7, 1, false) := by kernel_rfl
theorem fa146_8 : fieldAt (tiOf Tryd.prog) 146 8 = some (8, 1, false) := by kernel_rfl
theorem fa146_9 : fieldAt (tiOf Tryd.prog) 146 9 = some (9, 1, false) := by kernel_rfl
theorem fa146_10 : fieldAt (tiOf Tryd.prog) 146 10 = some (10, 1, false) := by kernel_rfl
theorem mixed0 : Tryd.prog.follows .mixedOrders = true := by kernel_rfl
theorem names0 : namesOk Tryd.prog = true := by kernel_rfl
def preAx : Ax := (addAx (fun _ => none) 96 tzF)
theorem preAx_ok : AxOk Tryd.prog preAx := (axOk_add (axOk_none _) tz_ok)
def inlF : List TD → Option (Kind × List TD) := fun _ => none
def inlAx : Ax := (addAx (addAx (addAx (addAx preAx 25 inlF) 41 inlF) 60 inlF) 97 inlF)
theorem inlAx_ok : AxOk Tryd.prog inlAx := (axOk_add (axOk_add (axOk_add (axOk_add preAx_ok fun vs kind rs h => by simp [inlF] at h) fun vs kind rs h => by simp [inlF] at h) fun vs kind rs h => by simp [inlF] at h) fun vs kind rs h => by simp [inlF] at h)
noncomputable def E0 : Env := envOf Tryd.prog inlAx
theorem E0_ok : E0.Ok := envOf_ok mixed0 names0 inlAx_ok
theorem live0 : (callers E0 300 60).1 18 [] = some (.fresh, [.one (.v (.bool true))]) := by kernel_rfl
def liveF : List TD → Option (Kind × List TD)
  | [] => some (.fresh, [.one (.v (.bool true))])
  | _ => none
def liveAx : Ax := addAx inlAx 18 liveF
noncomputable def E1 : Env := envOf Tryd.prog liveAx
theorem E1_ok : E1.Ok := envOf_ok mixed0 names0 (axOk_add inlAx_ok fun vs kind rs h => by
  unfold liveF at h
  split at h
  · simp only [Option.some.injEq, Prod.mk.injEq] at h
    obtain ⟨rfl, rfl⟩ := h
    exact (callers_ok E0_ok 300 60).1 _ _ _ _ live0
  · simp at h)
theorem E1_ti : E1.ti = tiOf Tryd.prog := envOf_ti _ _
theorem E1_P : E1.P = Tryd.prog := envOf_P _ _
theorem E1_fn : E1.fn = fiOf Tryd.prog := envOf_fn _ _
def FL : Option Bool := some true
theorem FL_r (m : Nat) {out : Bool} (h : FL = some out) : RunsP E1 (m + 1) 18 [] (.fresh, [.one (bT out)]) := by
  obtain rfl := Option.some.inj h
  exact runsP_ax (F := liveF) rfl rfl
theorem TZ_r (m : Nat) {n1 : Int} {out : Int} (h : TZ n1 = some out) : RunsP E1 (m + 1) 96 [.one (iT .u64 n1)] (.fresh, [.one (iT .i64 out)]) := by
  unfold TZ at h
  split at h
  · rename_i hx
    obtain rfl := Option.some.inj h
    exact runsP_ax (F := tzF) rfl (by show tzF [.one (.v (.int .u64 n1))] = _; unfold tzF; simp only; exact if_pos hx)
  · simp at h
theorem ax25 : E1.ax 25 = some fun _ => none := rfl
theorem ax41 : E1.ax 41 = some fun _ => none := rfl
theorem ax60 : E1.ax 60 = some fun _ => none := rfl
theorem ax97 : E1.ax 97 = some fun _ => none := rfl
theorem ty1 : E1.ti 1 = some (⟨.func #[] #[] false, [.nilFunc], 1, 8⟩ : TI) := tz1
theorem ty2 : E1.ti 2 = some (⟨.int .i64, [.int .i64 0], 1, 8⟩ : TI) := tz2
theorem ty3 : E1.ti 3 = some (⟨.int .i64, [.int .i64 0], 1, 8⟩ : TI) := tz3
theorem ty4 : E1.ti 4 = some (⟨.bool, [.bool false], 1, 1⟩ : TI) := tz4
theorem ty5 : E1.ti 5 = some (⟨.int .u8, [.int .u8 0], 1, 1⟩ : TI) := tz5
theorem ty6 : E1.ti 6 = some (⟨.int .u8, [.int .u8 0], 1, 1⟩ : TI) := tz6
theorem ty7 : E1.ti 7 = some (⟨.struct (flds Tryd.prog 7), [.int .i64 0, .int .i64 0, .bool false, .int .u8 0], 4, 24⟩ : TI) := tz7
theorem ty8 : E1.ti 8 = some (⟨.struct (flds Tryd.prog 8), [.int .i64 0, .int .i64 0, .bool false, .int .u8 0], 4, 24⟩ : TI) := tz8
theorem ty12 : E1.ti 12 = some (⟨.int .u64, [.int .u64 0], 1, 8⟩ : TI) := tz12
theorem ty15 : E1.ti 15 = some (⟨.pointer 133, [.pointer none], 1, 8⟩ : TI) := tz15
theorem ty16 : E1.ti 16 = some (⟨.pointer 136, [.pointer none], 1, 8⟩ : TI) := tz16
theorem ty17 : E1.ti 17 = some (⟨.pointer 146, [.pointer none], 1, 8⟩ : TI) := tz17
theorem ty18 : E1.ti 18 = some (⟨.struct (flds Tryd.prog 18), [.pointer none], 1, 8⟩ : TI) := tz18
theorem ty19 : E1.ti 19 = some (⟨.struct (flds Tryd.prog 19), [.pointer none], 1, 8⟩ : TI) := tz19
theorem ty21 : E1.ti 21 = some (⟨.int .i32, [.int .i32 0], 1, 4⟩ : TI) := tz21
theorem ty22 : E1.ti 22 = some (⟨.int .i64, [.int .i64 0], 1, 8⟩ : TI) := tz22
theorem ty23 : E1.ti 23 = some (⟨.array 2 5, [.int .u8 0, .int .u8 0], 2, 2⟩ : TI) := tz23
theorem ty24 : E1.ti 24 = some (⟨.slice 93, [.slice none 0 0], 1, 24⟩ : TI) := tz24
theorem ty25 : E1.ti 25 = some (⟨.slice 71, [.slice none 0 0], 1, 24⟩ : TI) := tz25
theorem ty26 : E1.ti 26 = some (⟨.slice 60, [.slice none 0 0], 1, 24⟩ : TI) := tz26
theorem ty27 : E1.ti 27 = some (⟨.struct (flds Tryd.prog 27), [.int .i64 0, .int .u8 0, .int .u8 0, .slice none 0 0, .slice none 0 0, .slice none 0 0, .slice none 0 0, .bool false], 8, 120⟩ : TI) := tz27
theorem ty28 : E1.ti 28 = some (⟨.struct (flds Tryd.prog 28), [.int .i64 0, .int .u8 0, .int .u8 0, .slice none 0 0, .slice none 0 0, .slice none 0 0, .slice none 0 0, .bool false], 8, 120⟩ : TI) := tz28
theorem ty29 : E1.ti 29 = some (⟨.slice 64, [.slice none 0 0], 1, 24⟩ : TI) := tz29
theorem ty30 : E1.ti 30 = some (⟨.slice 3, [.slice none 0 0], 1, 24⟩ : TI) := tz30
theorem ty31 : E1.ti 31 = some (⟨.slice 2, [.slice none 0 0], 1, 24⟩ : TI) := tz31
theorem ty32 : E1.ti 32 = some (⟨.struct (flds Tryd.prog 32), [.int .i64 0, .int .i64 0, .slice none 0 0, .slice none 0 0, .slice none 0 0], 5, 88⟩ : TI) := tz32
theorem ty33 : E1.ti 33 = some (⟨.struct (flds Tryd.prog 33), [.int .i64 0, .int .i64 0, .slice none 0 0, .slice none 0 0, .slice none 0 0], 5, 88⟩ : TI) := tz33
theorem ty34 : E1.ti 34 = some (⟨.func #[] #[33] false, [.nilFunc], 1, 8⟩ : TI) := tz34
theorem ty35 : E1.ti 35 = some (⟨.struct (flds Tryd.prog 35), [.int .i64 0, .slice none 0 0, .slice none 0 0], 3, 56⟩ : TI) := tz35
theorem ty36 : E1.ti 36 = some (⟨.struct (flds Tryd.prog 36), [.int .i64 0, .slice none 0 0, .slice none 0 0], 3, 56⟩ : TI) := tz36
theorem ty37 : E1.ti 37 = some (⟨.func #[39] #[36] false, [.nilFunc], 1, 8⟩ : TI) := tz37
theorem ty38 : E1.ti 38 = some (⟨.struct (flds Tryd.prog 38), [.int .i64 0, .slice none 0 0], 2, 32⟩ : TI) := tz38
theorem ty39 : E1.ti 39 = some (⟨.struct (flds Tryd.prog 39), [.int .i64 0, .slice none 0 0], 2, 32⟩ : TI) := tz39
theorem ty40 : E1.ti 40 = some (⟨.func #[25] #[39] false, [.nilFunc], 1, 8⟩ : TI) := tz40
theorem ty41 : E1.ti 41 = some (⟨.func #[] #[26] false, [.nilFunc], 1, 8⟩ : TI) := tz41
theorem ty42 : E1.ti 42 = some (⟨.int .i64, [.int .i64 0], 1, 8⟩ : TI) := tz42
theorem ty44 : E1.ti 44 = some (⟨.func #[22, 33, 36, 26, 4] #[29, 42] false, [.nilFunc], 1, 8⟩ : TI) := tz44
theorem ty46 : E1.ti 46 = some (⟨.func #[22, 33, 36, 26, 4] #[39, 42] false, [.nilFunc], 1, 8⟩ : TI) := tz46
theorem ty47 : E1.ti 47 = some (⟨.func #[22, 3, 29] #[39, 42] false, [.nilFunc], 1, 8⟩ : TI) := tz47
theorem ty48 : E1.ti 48 = some (⟨.func #[] #[4] false, [.nilFunc], 1, 8⟩ : TI) := tz48
theorem ty49 : E1.ti 49 = some (⟨.func #[29, 29] #[4] false, [.nilFunc], 1, 8⟩ : TI) := tz49
theorem ty50 : E1.ti 50 = some (⟨.func #[39, 39] #[4] false, [.nilFunc], 1, 8⟩ : TI) := tz50
theorem ty51 : E1.ti 51 = some (⟨.func #[28, 3, 29] #[4] false, [.nilFunc], 1, 8⟩ : TI) := tz51
theorem ty52 : E1.ti 52 = some (⟨.func #[22, 33, 36] #[4] false, [.nilFunc], 1, 8⟩ : TI) := tz52
theorem ty53 : E1.ti 53 = some (⟨.func #[22] #[22] false, [.nilFunc], 1, 8⟩ : TI) := tz53
theorem ty54 : E1.ti 54 = some (⟨.func #[22, 39, 39] #[39, 42] false, [.nilFunc], 1, 8⟩ : TI) := tz54
theorem ty55 : E1.ti 55 = some (⟨.func #[39, 56, 2] #[39] false, [.nilFunc], 1, 8⟩ : TI) := tz55
theorem ty56 : E1.ti 56 = some (⟨.int .i64, [.int .i64 0], 1, 8⟩ : TI) := tz56
theorem ty57 : E1.ti 57 = some (⟨.func #[22] #[2] false, [.nilFunc], 1, 8⟩ : TI) := tz57
theorem ty58 : E1.ti 58 = some (⟨.func #[28] #[4] false, [.nilFunc], 1, 8⟩ : TI) := tz58
theorem ty59 : E1.ti 59 = some (⟨.func #[3] #[36] false, [.nilFunc], 1, 8⟩ : TI) := tz59
theorem ty60 : E1.ti 60 = some (⟨.int .u64, [.int .u64 0], 1, 8⟩ : TI) := tz60
theorem ty61 : E1.ti 61 = some (⟨.struct (flds Tryd.prog 61), [.int .i64 0, .int .u64 0], 2, 16⟩ : TI) := tz61
theorem ty62 : E1.ti 62 = some (⟨.struct (flds Tryd.prog 62), [.int .i64 0, .int .u64 0], 2, 16⟩ : TI) := tz62
theorem ty63 : E1.ti 63 = some (⟨.struct (flds Tryd.prog 63), [.int .i64 0, .int .i64 0, .int .u64 0], 3, 24⟩ : TI) := tz63
theorem ty64 : E1.ti 64 = some (⟨.struct (flds Tryd.prog 64), [.int .i64 0, .int .i64 0, .int .u64 0], 3, 24⟩ : TI) := tz64
theorem ty66 : E1.ti 66 = some (⟨.func #[39, 3] #[2, 4] false, [.nilFunc], 1, 8⟩ : TI) := tz66
theorem ty67 : E1.ti 67 = some (⟨.func #[23, 24] #[33] false, [.nilFunc], 1, 8⟩ : TI) := tz67
theorem ty68 : E1.ti 68 = some (⟨.func #[22, 2] #[2] false, [.nilFunc], 1, 8⟩ : TI) := tz68
theorem ty69 : E1.ti 69 = some (⟨.func #[39] #[39] false, [.nilFunc], 1, 8⟩ : TI) := tz69
theorem ty70 : E1.ti 70 = some (⟨.struct (flds Tryd.prog 70), [.int .i64 0, .int .i64 0], 2, 16⟩ : TI) := tz70
theorem ty71 : E1.ti 71 = some (⟨.struct (flds Tryd.prog 71), [.int .i64 0, .int .i64 0], 2, 16⟩ : TI) := tz71
theorem ty72 : E1.ti 72 = some (⟨.func #[3, 30] #[26] false, [.nilFunc], 1, 8⟩ : TI) := tz72
theorem ty73 : E1.ti 73 = some (⟨.func #[5, 25] #[39] false, [.nilFunc], 1, 8⟩ : TI) := tz73
theorem ty74 : E1.ti 74 = some (⟨.func #[5] #[3] false, [.nilFunc], 1, 8⟩ : TI) := tz74
theorem ty75 : E1.ti 75 = some (⟨.func #[22] #[4] false, [.nilFunc], 1, 8⟩ : TI) := tz75
theorem ty76 : E1.ti 76 = some (⟨.func #[33] #[33] false, [.nilFunc], 1, 8⟩ : TI) := tz76
theorem ty77 : E1.ti 77 = some (⟨.func #[36] #[4] false, [.nilFunc], 1, 8⟩ : TI) := tz77
theorem ty78 : E1.ti 78 = some (⟨.func #[26, 3] #[4] false, [.nilFunc], 1, 8⟩ : TI) := tz78
theorem ty79 : E1.ti 79 = some (⟨.func #[22, 2, 2] #[62] false, [.nilFunc], 1, 8⟩ : TI) := tz79
theorem ty80 : E1.ti 80 = some (⟨.func #[22, 62, 62] #[62] false, [.nilFunc], 1, 8⟩ : TI) := tz80
theorem ty81 : E1.ti 81 = some (⟨.func #[3] #[62, 4] false, [.nilFunc], 1, 8⟩ : TI) := tz81
theorem ty82 : E1.ti 82 = some (⟨.func #[108] #[] false, [.nilFunc], 1, 8⟩ : TI) := tz82
theorem ty83 : E1.ti 83 = some (⟨.func #[108] #[] false, [.nilFunc], 1, 8⟩ : TI) := tz83
theorem ty84 : E1.ti 84 = some (⟨.func #[3, 26, 4] #[83] false, [.nilFunc], 1, 8⟩ : TI) := tz84
theorem ty86 : E1.ti 86 = some (⟨.func #[36] #[39] false, [.nilFunc], 1, 8⟩ : TI) := tz86
theorem ty87 : E1.ti 87 = some (⟨.func #[22, 3, 29] #[42] false, [.nilFunc], 1, 8⟩ : TI) := tz87
theorem ty88 : E1.ti 88 = some (⟨.func #[22, 62] #[2, 4] false, [.nilFunc], 1, 8⟩ : TI) := tz88
theorem ty89 : E1.ti 89 = some (⟨.func #[62] #[2, 4] false, [.nilFunc], 1, 8⟩ : TI) := tz89
theorem ty91 : E1.ti 91 = some (⟨.func #[22, 3, 3, 24] #[33, 42] false, [.nilFunc], 1, 8⟩ : TI) := tz91
theorem ty92 : E1.ti 92 = some (⟨.struct (flds Tryd.prog 92), [.int .i64 0, .int .i64 0, .int .i64 0], 3, 24⟩ : TI) := tz92
theorem ty93 : E1.ti 93 = some (⟨.struct (flds Tryd.prog 93), [.int .i64 0, .int .i64 0, .int .i64 0], 3, 24⟩ : TI) := tz93
theorem ty94 : E1.ti 94 = some (⟨.func #[25, 25] #[4] false, [.nilFunc], 1, 8⟩ : TI) := tz94
theorem ty95 : E1.ti 95 = some (⟨.func #[2] #[62] false, [.nilFunc], 1, 8⟩ : TI) := tz95
theorem ty96 : E1.ti 96 = some (⟨.func #[56, 2, 2] #[4] false, [.nilFunc], 1, 8⟩ : TI) := tz96
theorem ty97 : E1.ti 97 = some (⟨.func #[3] #[26] false, [.nilFunc], 1, 8⟩ : TI) := tz97
theorem ty98 : E1.ti 98 = some (⟨.func #[24] #[24] false, [.nilFunc], 1, 8⟩ : TI) := tz98
theorem ty99 : E1.ti 99 = some (⟨.func #[3, 3] #[33] false, [.nilFunc], 1, 8⟩ : TI) := tz99
theorem ty100 : E1.ti 100 = some (⟨.func #[39] #[4] false, [.nilFunc], 1, 8⟩ : TI) := tz100
theorem ty101 : E1.ti 101 = some (⟨.func #[26, 3] #[26] false, [.nilFunc], 1, 8⟩ : TI) := tz101
theorem ty102 : E1.ti 102 = some (⟨.func #[22, 3, 25] #[39, 42] false, [.nilFunc], 1, 8⟩ : TI) := tz102
theorem ty103 : E1.ti 103 = some (⟨.func #[33] #[4] false, [.nilFunc], 1, 8⟩ : TI) := tz103
theorem ty104 : E1.ti 104 = some (⟨.func #[3] #[60] false, [.nilFunc], 1, 8⟩ : TI) := tz104
theorem ty105 : E1.ti 105 = some (⟨.func #[62, 62] #[62] false, [.nilFunc], 1, 8⟩ : TI) := tz105
theorem ty106 : E1.ti 106 = some (⟨.func #[4] #[62] false, [.nilFunc], 1, 8⟩ : TI) := tz106
theorem ty107 : E1.ti 107 = some (⟨.func #[2, 2] #[62] false, [.nilFunc], 1, 8⟩ : TI) := tz107
theorem ty108 : E1.ti 108 = some (⟨.func #[3] #[4] false, [.nilFunc], 1, 8⟩ : TI) := tz108
theorem ty109 : E1.ti 109 = some (⟨.func #[26] #[30] false, [.nilFunc], 1, 8⟩ : TI) := tz109
theorem ty110 : E1.ti 110 = some (⟨.int .u64, [.int .u64 0], 1, 8⟩ : TI) := tz110
theorem ty111 : E1.ti 111 = some (⟨.func #[62, 62] #[3] false, [.nilFunc], 1, 8⟩ : TI) := tz111
theorem ty112 : E1.ti 112 = some (⟨.slice 114, [.slice none 0 0], 1, 24⟩ : TI) := tz112
theorem ty113 : E1.ti 113 = some (⟨.struct (flds Tryd.prog 113), [.int .i64 0, .int .i64 0, .int .i64 0], 3, 24⟩ : TI) := tz113
theorem ty114 : E1.ti 114 = some (⟨.struct (flds Tryd.prog 114), [.int .i64 0, .int .i64 0, .int .i64 0], 3, 24⟩ : TI) := tz114
theorem ty116 : E1.ti 116 = some (⟨.func #[22, 112] #[112, 42] false, [.nilFunc], 1, 8⟩ : TI) := tz116
theorem ty117 : E1.ti 117 = some (⟨.func #[3, 3, 24] #[33] false, [.nilFunc], 1, 8⟩ : TI) := tz117
theorem ty118 : E1.ti 118 = some (⟨.func #[3] #[3] false, [.nilFunc], 1, 8⟩ : TI) := tz118
theorem ty119 : E1.ti 119 = some (⟨.func #[26, 3, 4] #[26] false, [.nilFunc], 1, 8⟩ : TI) := tz119
theorem ty120 : E1.ti 120 = some (⟨.func #[30, 3] #[4] false, [.nilFunc], 1, 8⟩ : TI) := tz120
theorem ty121 : E1.ti 121 = some (⟨.func #[26, 3] #[3] false, [.nilFunc], 1, 8⟩ : TI) := tz121
theorem ty122 : E1.ti 122 = some (⟨.array 4 60, [.int .u64 0, .int .u64 0, .int .u64 0, .int .u64 0], 4, 32⟩ : TI) := tz122
theorem ty123 : E1.ti 123 = some (⟨.func #[60, 60] #[122] false, [.nilFunc], 1, 8⟩ : TI) := tz123
theorem ty124 : E1.ti 124 = some (⟨.func #[62, 3] #[62] false, [.nilFunc], 1, 8⟩ : TI) := tz124
theorem ty125 : E1.ti 125 = some (⟨.func #[62] #[62] false, [.nilFunc], 1, 8⟩ : TI) := tz125
theorem ty126 : E1.ti 126 = some (⟨.slice 62, [.slice none 0 0], 1, 24⟩ : TI) := tz126
theorem ty127 : E1.ti 127 = some (⟨.func #[114, 114] #[4] false, [.nilFunc], 1, 8⟩ : TI) := tz127
theorem ty128 : E1.ti 128 = some (⟨.func #[60] #[3] false, [.nilFunc], 1, 8⟩ : TI) := tz128
theorem ty129 : E1.ti 129 = some (⟨.func #[26] #[83] false, [.nilFunc], 1, 8⟩ : TI) := tz129
theorem ty130 : E1.ti 130 = some (⟨.array 64 5, [.int .u8 0, .int .u8 0, .int .u8 0, .int .u8 0, .int .u8 0, .int .u8 0, .int .u8 0, .int .u8 0, .int .u8 0, .int .u8 0, .int .u8 0, .int .u8 0, .int .u8 0, .int .u8 0, .int .u8 0, .int .u8 0, .int .u8 0, .int .u8 0, .int .u8 0, .int .u8 0, .int .u8 0, .int .u8 0, .int .u8 0, .int .u8 0, .int .u8 0, .int .u8 0, .int .u8 0, .int .u8 0, .int .u8 0, .int .u8 0, .int .u8 0, .int .u8 0, .int .u8 0, .int .u8 0, .int .u8 0, .int .u8 0, .int .u8 0, .int .u8 0, .int .u8 0, .int .u8 0, .int .u8 0, .int .u8 0, .int .u8 0, .int .u8 0, .int .u8 0, .int .u8 0, .int .u8 0, .int .u8 0, .int .u8 0, .int .u8 0, .int .u8 0, .int .u8 0, .int .u8 0, .int .u8 0, .int .u8 0, .int .u8 0, .int .u8 0, .int .u8 0, .int .u8 0, .int .u8 0, .int .u8 0, .int .u8 0, .int .u8 0, .int .u8 0], 64, 64⟩ : TI) := tz130
theorem ty131 : E1.ti 131 = some (⟨.func #[] #[9] false, [.nilFunc], 1, 8⟩ : TI) := tz131
theorem ty134 : E1.ti 134 = some (⟨.array 0 16, [], 0, 0⟩ : TI) := tz134
theorem ty135 : E1.ti 135 = some (⟨.struct (flds Tryd.prog 135), [], 0, 0⟩ : TI) := tz135
theorem ty136 : E1.ti 136 = some (⟨.struct (flds Tryd.prog 136), [], 0, 0⟩ : TI) := tz136
theorem ty137 : E1.ti 137 = some (⟨.func #[] #[3] false, [.nilFunc], 1, 8⟩ : TI) := tz137
theorem ty138 : E1.ti 138 = some (⟨.int .u32, [.int .u32 0], 1, 4⟩ : TI) := tz138
theorem ty139 : E1.ti 139 = some (⟨.int .u8, [.int .u8 0], 1, 1⟩ : TI) := tz139
theorem ty140 : E1.ti 140 = some (⟨.int .u8, [.int .u8 0], 1, 1⟩ : TI) := tz140
theorem ty141 : E1.ti 141 = some (⟨.func #[147, 147] #[4] false, [.nilFunc], 1, 8⟩ : TI) := tz141
theorem ty142 : E1.ti 142 = some (⟨.pointer 5, [.pointer none], 1, 8⟩ : TI) := tz142
theorem ty143 : E1.ti 143 = some (⟨.int .i32, [.int .i32 0], 1, 4⟩ : TI) := tz143
theorem ty144 : E1.ti 144 = some (⟨.int .i32, [.int .i32 0], 1, 4⟩ : TI) := tz144
theorem ty145 : E1.ti 145 = some (⟨.struct (flds Tryd.prog 145), [.int .u64 0, .int .u64 0, .int .u32 0, .int .u8 0, .int .u8 0, .int .u8 0, .int .u8 0, .nilFunc, .pointer none, .int .i32 0, .int .i32 0], 11, 48⟩ : TI) := tz145
theorem ty146 : E1.ti 146 = some (⟨.struct (flds Tryd.prog 146), [.int .u64 0, .int .u64 0, .int .u32 0, .int .u8 0, .int .u8 0, .int .u8 0, .int .u8 0, .nilFunc, .pointer none, .int .i32 0, .int .i32 0], 11, 48⟩ : TI) := tz146
end Ev
end Go.Proofs.YtlcfdmjkbaegpaaDoor
