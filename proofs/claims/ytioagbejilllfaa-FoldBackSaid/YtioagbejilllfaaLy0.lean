import Derived.Test.YtioagbejilllfaaEvS4
import Derived.Test.YtioagbejilllfaaProg
namespace Go.Proofs.Ytioagbejilllfaa
namespace Ev
open Go
set_option linter.unusedVariables false
set_option linter.unusedSimpArgs false
set_option maxRecDepth 100000
set_option maxHeartbeats 1000000
attribute [local irreducible] OpsL StL TnL WpL EndL
theorem tz2 : tiOf Try.prog 2 = some (⟨.int .i64, [.int .i64 0], 1, 8⟩ : TI) := by kernel_rfl
theorem tz3 : tiOf Try.prog 3 = some (⟨.int .i64, [.int .i64 0], 1, 8⟩ : TI) := by kernel_rfl
theorem tz4 : tiOf Try.prog 4 = some (⟨.bool, [.bool false], 1, 1⟩ : TI) := by kernel_rfl
theorem tz5 : tiOf Try.prog 5 = some (⟨.int .u8, [.int .u8 0], 1, 1⟩ : TI) := by kernel_rfl
theorem tz6 : tiOf Try.prog 6 = some (⟨.int .u8, [.int .u8 0], 1, 1⟩ : TI) := by kernel_rfl
theorem tz7 : tiOf Try.prog 7 = some (⟨.struct (flds Try.prog 7), [.int .i64 0, .int .i64 0, .bool false, .int .u8 0], 4, 24⟩ : TI) := by kernel_rfl
theorem fo7_0 : fieldOf (⟨.struct (flds Try.prog 7), [.int .i64 0, .int .i64 0, .bool false, .int .u8 0], 4, 24⟩ : TI) 0 = some (fld Try.prog 7 0) := by kernel_rfl
theorem ft7_0 : (fld Try.prog 7 0).type = 2 := by kernel_rfl
theorem fp7_0 : (fld Try.prog 7 0).offset = 0 := by kernel_rfl
theorem fo7_1 : fieldOf (⟨.struct (flds Try.prog 7), [.int .i64 0, .int .i64 0, .bool false, .int .u8 0], 4, 24⟩ : TI) 1 = some (fld Try.prog 7 1) := by kernel_rfl
theorem ft7_1 : (fld Try.prog 7 1).type = 3 := by kernel_rfl
theorem fp7_1 : (fld Try.prog 7 1).offset = 1 := by kernel_rfl
theorem fo7_2 : fieldOf (⟨.struct (flds Try.prog 7), [.int .i64 0, .int .i64 0, .bool false, .int .u8 0], 4, 24⟩ : TI) 2 = some (fld Try.prog 7 2) := by kernel_rfl
theorem ft7_2 : (fld Try.prog 7 2).type = 4 := by kernel_rfl
theorem fp7_2 : (fld Try.prog 7 2).offset = 2 := by kernel_rfl
theorem fo7_3 : fieldOf (⟨.struct (flds Try.prog 7), [.int .i64 0, .int .i64 0, .bool false, .int .u8 0], 4, 24⟩ : TI) 3 = some (fld Try.prog 7 3) := by kernel_rfl
theorem ft7_3 : (fld Try.prog 7 3).type = 6 := by kernel_rfl
theorem fp7_3 : (fld Try.prog 7 3).offset = 3 := by kernel_rfl
theorem pl7 : places (tiOf Try.prog) (⟨.struct (flds Try.prog 7), [.int .i64 0, .int .i64 0, .bool false, .int .u8 0], 4, 24⟩ : TI) = some fun i => ([(0, 1), (1, 1), (2, 1), (3, 1)] : List (Nat × Nat))[i]? := by kernel_rfl
theorem tz8 : tiOf Try.prog 8 = some (⟨.struct (flds Try.prog 8), [.int .i64 0, .int .i64 0, .bool false, .int .u8 0], 4, 24⟩ : TI) := by kernel_rfl
theorem fo8_0 : fieldOf (⟨.struct (flds Try.prog 8), [.int .i64 0, .int .i64 0, .bool false, .int .u8 0], 4, 24⟩ : TI) 0 = some (fld Try.prog 8 0) := by kernel_rfl
theorem ft8_0 : (fld Try.prog 8 0).type = 2 := by kernel_rfl
theorem fp8_0 : (fld Try.prog 8 0).offset = 0 := by kernel_rfl
theorem fo8_1 : fieldOf (⟨.struct (flds Try.prog 8), [.int .i64 0, .int .i64 0, .bool false, .int .u8 0], 4, 24⟩ : TI) 1 = some (fld Try.prog 8 1) := by kernel_rfl
theorem ft8_1 : (fld Try.prog 8 1).type = 3 := by kernel_rfl
theorem fp8_1 : (fld Try.prog 8 1).offset = 1 := by kernel_rfl
theorem fo8_2 : fieldOf (⟨.struct (flds Try.prog 8), [.int .i64 0, .int .i64 0, .bool false, .int .u8 0], 4, 24⟩ : TI) 2 = some (fld Try.prog 8 2) := by kernel_rfl
theorem ft8_2 : (fld Try.prog 8 2).type = 4 := by kernel_rfl
theorem fp8_2 : (fld Try.prog 8 2).offset = 2 := by kernel_rfl
theorem fo8_3 : fieldOf (⟨.struct (flds Try.prog 8), [.int .i64 0, .int .i64 0, .bool false, .int .u8 0], 4, 24⟩ : TI) 3 = some (fld Try.prog 8 3) := by kernel_rfl
theorem ft8_3 : (fld Try.prog 8 3).type = 6 := by kernel_rfl
theorem fp8_3 : (fld Try.prog 8 3).offset = 3 := by kernel_rfl
theorem pl8 : places (tiOf Try.prog) (⟨.struct (flds Try.prog 8), [.int .i64 0, .int .i64 0, .bool false, .int .u8 0], 4, 24⟩ : TI) = some fun i => ([(0, 1), (1, 1), (2, 1), (3, 1)] : List (Nat × Nat))[i]? := by kernel_rfl
theorem tz12 : tiOf Try.prog 12 = some (⟨.int .u64, [.int .u64 0], 1, 8⟩ : TI) := by kernel_rfl
theorem ft13_0 : (fld Try.prog 13 0).type = 9 := by kernel_rfl
theorem fp13_0 : (fld Try.prog 13 0).offset = 0 := by kernel_rfl
theorem ft13_1 : (fld Try.prog 13 1).type = 12 := by kernel_rfl
theorem fp13_1 : (fld Try.prog 13 1).offset = 1 := by kernel_rfl
theorem ft14_0 : (fld Try.prog 14 0).type = 9 := by kernel_rfl
theorem fp14_0 : (fld Try.prog 14 0).offset = 0 := by kernel_rfl
theorem ft14_1 : (fld Try.prog 14 1).type = 12 := by kernel_rfl
theorem fp14_1 : (fld Try.prog 14 1).offset = 1 := by kernel_rfl
theorem tz18 : tiOf Try.prog 18 = some (⟨.struct (flds Try.prog 18), [.pointer none], 1, 8⟩ : TI) := by kernel_rfl
theorem fo18_0 : fieldOf (⟨.struct (flds Try.prog 18), [.pointer none], 1, 8⟩ : TI) 0 = some (fld Try.prog 18 0) := by kernel_rfl
theorem ft18_0 : (fld Try.prog 18 0).type = 17 := by kernel_rfl
theorem fp18_0 : (fld Try.prog 18 0).offset = 0 := by kernel_rfl
theorem pl18 : places (tiOf Try.prog) (⟨.struct (flds Try.prog 18), [.pointer none], 1, 8⟩ : TI) = some fun i => ([(0, 1)] : List (Nat × Nat))[i]? := by kernel_rfl
theorem tz19 : tiOf Try.prog 19 = some (⟨.struct (flds Try.prog 19), [.pointer none], 1, 8⟩ : TI) := by kernel_rfl
theorem fo19_0 : fieldOf (⟨.struct (flds Try.prog 19), [.pointer none], 1, 8⟩ : TI) 0 = some (fld Try.prog 19 0) := by kernel_rfl
theorem ft19_0 : (fld Try.prog 19 0).type = 17 := by kernel_rfl
theorem fp19_0 : (fld Try.prog 19 0).offset = 0 := by kernel_rfl
theorem pl19 : places (tiOf Try.prog) (⟨.struct (flds Try.prog 19), [.pointer none], 1, 8⟩ : TI) = some fun i => ([(0, 1)] : List (Nat × Nat))[i]? := by kernel_rfl
theorem tz21 : tiOf Try.prog 21 = some (⟨.int .i32, [.int .i32 0], 1, 4⟩ : TI) := by kernel_rfl
theorem tz22 : tiOf Try.prog 22 = some (⟨.int .i64, [.int .i64 0], 1, 8⟩ : TI) := by kernel_rfl
theorem tz23 : tiOf Try.prog 23 = some (⟨.slice 34, [.slice none 0 0], 1, 24⟩ : TI) := by kernel_rfl
theorem tz24 : tiOf Try.prog 24 = some (⟨.struct (flds Try.prog 24), [.int .i64 0, .slice none 0 0], 2, 32⟩ : TI) := by kernel_rfl
theorem fo24_0 : fieldOf (⟨.struct (flds Try.prog 24), [.int .i64 0, .slice none 0 0], 2, 32⟩ : TI) 0 = some (fld Try.prog 24 0) := by kernel_rfl
theorem ft24_0 : (fld Try.prog 24 0).type = 3 := by kernel_rfl
theorem fp24_0 : (fld Try.prog 24 0).offset = 0 := by kernel_rfl
theorem fo24_1 : fieldOf (⟨.struct (flds Try.prog 24), [.int .i64 0, .slice none 0 0], 2, 32⟩ : TI) 1 = some (fld Try.prog 24 1) := by kernel_rfl
theorem ft24_1 : (fld Try.prog 24 1).type = 23 := by kernel_rfl
theorem fp24_1 : (fld Try.prog 24 1).offset = 1 := by kernel_rfl
theorem pl24 : places (tiOf Try.prog) (⟨.struct (flds Try.prog 24), [.int .i64 0, .slice none 0 0], 2, 32⟩ : TI) = some fun i => ([(0, 1), (1, 1)] : List (Nat × Nat))[i]? := by kernel_rfl
theorem tz25 : tiOf Try.prog 25 = some (⟨.struct (flds Try.prog 25), [.int .i64 0, .slice none 0 0], 2, 32⟩ : TI) := by kernel_rfl
theorem fo25_0 : fieldOf (⟨.struct (flds Try.prog 25), [.int .i64 0, .slice none 0 0], 2, 32⟩ : TI) 0 = some (fld Try.prog 25 0) := by kernel_rfl
theorem ft25_0 : (fld Try.prog 25 0).type = 3 := by kernel_rfl
theorem fp25_0 : (fld Try.prog 25 0).offset = 0 := by kernel_rfl
theorem fo25_1 : fieldOf (⟨.struct (flds Try.prog 25), [.int .i64 0, .slice none 0 0], 2, 32⟩ : TI) 1 = some (fld Try.prog 25 1) := by kernel_rfl
theorem ft25_1 : (fld Try.prog 25 1).type = 23 := by kernel_rfl
theorem fp25_1 : (fld Try.prog 25 1).offset = 1 := by kernel_rfl
theorem pl25 : places (tiOf Try.prog) (⟨.struct (flds Try.prog 25), [.int .i64 0, .slice none 0 0], 2, 32⟩ : TI) = some fun i => ([(0, 1), (1, 1)] : List (Nat × Nat))[i]? := by kernel_rfl
theorem tz26 : tiOf Try.prog 26 = some (⟨.int .i64, [.int .i64 0], 1, 8⟩ : TI) := by kernel_rfl
theorem tz27 : tiOf Try.prog 27 = some (⟨.struct (flds Try.prog 27), [.int .i64 0, .int .i64 0], 2, 16⟩ : TI) := by kernel_rfl
theorem fo27_0 : fieldOf (⟨.struct (flds Try.prog 27), [.int .i64 0, .int .i64 0], 2, 16⟩ : TI) 0 = some (fld Try.prog 27 0) := by kernel_rfl
theorem ft27_0 : (fld Try.prog 27 0).type = 26 := by kernel_rfl
theorem fp27_0 : (fld Try.prog 27 0).offset = 0 := by kernel_rfl
theorem fo27_1 : fieldOf (⟨.struct (flds Try.prog 27), [.int .i64 0, .int .i64 0], 2, 16⟩ : TI) 1 = some (fld Try.prog 27 1) := by kernel_rfl
theorem ft27_1 : (fld Try.prog 27 1).type = 2 := by kernel_rfl
theorem fp27_1 : (fld Try.prog 27 1).offset = 1 := by kernel_rfl
theorem pl27 : places (tiOf Try.prog) (⟨.struct (flds Try.prog 27), [.int .i64 0, .int .i64 0], 2, 16⟩ : TI) = some fun i => ([(0, 1), (1, 1)] : List (Nat × Nat))[i]? := by kernel_rfl
theorem tz28 : tiOf Try.prog 28 = some (⟨.struct (flds Try.prog 28), [.int .i64 0, .int .i64 0], 2, 16⟩ : TI) := by kernel_rfl
theorem fo28_0 : fieldOf (⟨.struct (flds Try.prog 28), [.int .i64 0, .int .i64 0], 2, 16⟩ : TI) 0 = some (fld Try.prog 28 0) := by kernel_rfl
theorem ft28_0 : (fld Try.prog 28 0).type = 26 := by kernel_rfl
theorem fp28_0 : (fld Try.prog 28 0).offset = 0 := by kernel_rfl
theorem fo28_1 : fieldOf (⟨.struct (flds Try.prog 28), [.int .i64 0, .int .i64 0], 2, 16⟩ : TI) 1 = some (fld Try.prog 28 1) := by kernel_rfl
theorem ft28_1 : (fld Try.prog 28 1).type = 2 := by kernel_rfl
theorem fp28_1 : (fld Try.prog 28 1).offset = 1 := by kernel_rfl
theorem pl28 : places (tiOf Try.prog) (⟨.struct (flds Try.prog 28), [.int .i64 0, .int .i64 0], 2, 16⟩ : TI) = some fun i => ([(0, 1), (1, 1)] : List (Nat × Nat))[i]? := by kernel_rfl
theorem tz30 : tiOf Try.prog 30 = some (⟨.int .i64, [.int .i64 0], 1, 8⟩ : TI) := by kernel_rfl
theorem tz33 : tiOf Try.prog 33 = some (⟨.struct (flds Try.prog 33), [.int .i64 0, .int .i64 0], 2, 16⟩ : TI) := by kernel_rfl
theorem fo33_0 : fieldOf (⟨.struct (flds Try.prog 33), [.int .i64 0, .int .i64 0], 2, 16⟩ : TI) 0 = some (fld Try.prog 33 0) := by kernel_rfl
theorem ft33_0 : (fld Try.prog 33 0).type = 3 := by kernel_rfl
theorem fp33_0 : (fld Try.prog 33 0).offset = 0 := by kernel_rfl
theorem fo33_1 : fieldOf (⟨.struct (flds Try.prog 33), [.int .i64 0, .int .i64 0], 2, 16⟩ : TI) 1 = some (fld Try.prog 33 1) := by kernel_rfl
theorem ft33_1 : (fld Try.prog 33 1).type = 2 := by kernel_rfl
theorem fp33_1 : (fld Try.prog 33 1).offset = 1 := by kernel_rfl
theorem pl33 : places (tiOf Try.prog) (⟨.struct (flds Try.prog 33), [.int .i64 0, .int .i64 0], 2, 16⟩ : TI) = some fun i => ([(0, 1), (1, 1)] : List (Nat × Nat))[i]? := by kernel_rfl
theorem tz34 : tiOf Try.prog 34 = some (⟨.struct (flds Try.prog 34), [.int .i64 0, .int .i64 0], 2, 16⟩ : TI) := by kernel_rfl
theorem fo34_0 : fieldOf (⟨.struct (flds Try.prog 34), [.int .i64 0, .int .i64 0], 2, 16⟩ : TI) 0 = some (fld Try.prog 34 0) := by kernel_rfl
theorem ft34_0 : (fld Try.prog 34 0).type = 3 := by kernel_rfl
theorem fp34_0 : (fld Try.prog 34 0).offset = 0 := by kernel_rfl
theorem fo34_1 : fieldOf (⟨.struct (flds Try.prog 34), [.int .i64 0, .int .i64 0], 2, 16⟩ : TI) 1 = some (fld Try.prog 34 1) := by kernel_rfl
theorem ft34_1 : (fld Try.prog 34 1).type = 2 := by kernel_rfl
theorem fp34_1 : (fld Try.prog 34 1).offset = 1 := by kernel_rfl
theorem pl34 : places (tiOf Try.prog) (⟨.struct (flds Try.prog 34), [.int .i64 0, .int .i64 0], 2, 16⟩ : TI) = some fun i => ([(0, 1), (1, 1)] : List (Nat × Nat))[i]? := by kernel_rfl
theorem tz42 : tiOf Try.prog 42 = some (⟨.slice 3, [.slice none 0 0], 1, 24⟩ : TI) := by kernel_rfl
theorem tz47 : tiOf Try.prog 47 = some (⟨.array 2 23, [.slice none 0 0, .slice none 0 0], 2, 48⟩ : TI) := by kernel_rfl
theorem tz50 : tiOf Try.prog 50 = some (⟨.slice 25, [.slice none 0 0], 1, 24⟩ : TI) := by kernel_rfl
theorem tz54 : tiOf Try.prog 54 = some (⟨.int .u64, [.int .u64 0], 1, 8⟩ : TI) := by kernel_rfl
theorem tz55 : tiOf Try.prog 55 = some (⟨.struct (flds Try.prog 55), [.int .i64 0, .int .u64 0], 2, 16⟩ : TI) := by kernel_rfl
theorem fo55_0 : fieldOf (⟨.struct (flds Try.prog 55), [.int .i64 0, .int .u64 0], 2, 16⟩ : TI) 0 = some (fld Try.prog 55 0) := by kernel_rfl
theorem ft55_0 : (fld Try.prog 55 0).type = 2 := by kernel_rfl
theorem fp55_0 : (fld Try.prog 55 0).offset = 0 := by kernel_rfl
theorem fo55_1 : fieldOf (⟨.struct (flds Try.prog 55), [.int .i64 0, .int .u64 0], 2, 16⟩ : TI) 1 = some (fld Try.prog 55 1) := by kernel_rfl
theorem ft55_1 : (fld Try.prog 55 1).type = 54 := by kernel_rfl
theorem fp55_1 : (fld Try.prog 55 1).offset = 1 := by kernel_rfl
theorem pl55 : places (tiOf Try.prog) (⟨.struct (flds Try.prog 55), [.int .i64 0, .int .u64 0], 2, 16⟩ : TI) = some fun i => ([(0, 1), (1, 1)] : List (Nat × Nat))[i]? := by kernel_rfl
theorem tz56 : tiOf Try.prog 56 = some (⟨.struct (flds Try.prog 56), [.int .i64 0, .int .u64 0], 2, 16⟩ : TI) := by kernel_rfl
theorem fo56_0 : fieldOf (⟨.struct (flds Try.prog 56), [.int .i64 0, .int .u64 0], 2, 16⟩ : TI) 0 = some (fld Try.prog 56 0) := by kernel_rfl
theorem ft56_0 : (fld Try.prog 56 0).type = 2 := by kernel_rfl
theorem fp56_0 : (fld Try.prog 56 0).offset = 0 := by kernel_rfl
theorem fo56_1 : fieldOf (⟨.struct (flds Try.prog 56), [.int .i64 0, .int .u64 0], 2, 16⟩ : TI) 1 = some (fld Try.prog 56 1) := by kernel_rfl
theorem ft56_1 : (fld Try.prog 56 1).type = 54 := by kernel_rfl
theorem fp56_1 : (fld Try.prog 56 1).offset = 1 := by kernel_rfl
theorem pl56 : places (tiOf Try.prog) (⟨.struct (flds Try.prog 56), [.int .i64 0, .int .u64 0], 2, 16⟩ : TI) = some fun i => ([(0, 1), (1, 1)] : List (Nat × Nat))[i]? := by kernel_rfl
theorem tz62 : tiOf Try.prog 62 = some (⟨.slice 54, [.slice none 0 0], 1, 24⟩ : TI) := by kernel_rfl
theorem tz77 : tiOf Try.prog 77 = some (⟨.slice 80, [.slice none 0 0], 1, 24⟩ : TI) := by kernel_rfl
theorem tz79 : tiOf Try.prog 79 = some (⟨.struct (flds Try.prog 79), [.int .i64 0, .bool false], 2, 16⟩ : TI) := by kernel_rfl
theorem fo79_0 : fieldOf (⟨.struct (flds Try.prog 79), [.int .i64 0, .bool false], 2, 16⟩ : TI) 0 = some (fld Try.prog 79 0) := by kernel_rfl
theorem ft79_0 : (fld Try.prog 79 0).type = 2 := by kernel_rfl
theorem fp79_0 : (fld Try.prog 79 0).offset = 0 := by kernel_rfl
theorem fo79_1 : fieldOf (⟨.struct (flds Try.prog 79), [.int .i64 0, .bool false], 2, 16⟩ : TI) 1 = some (fld Try.prog 79 1) := by kernel_rfl
theorem ft79_1 : (fld Try.prog 79 1).type = 4 := by kernel_rfl
theorem fp79_1 : (fld Try.prog 79 1).offset = 1 := by kernel_rfl
theorem pl79 : places (tiOf Try.prog) (⟨.struct (flds Try.prog 79), [.int .i64 0, .bool false], 2, 16⟩ : TI) = some fun i => ([(0, 1), (1, 1)] : List (Nat × Nat))[i]? := by kernel_rfl
theorem tz80 : tiOf Try.prog 80 = some (⟨.struct (flds Try.prog 80), [.int .i64 0, .bool false], 2, 16⟩ : TI) := by kernel_rfl
theorem fo80_0 : fieldOf (⟨.struct (flds Try.prog 80), [.int .i64 0, .bool false], 2, 16⟩ : TI) 0 = some (fld Try.prog 80 0) := by kernel_rfl
theorem ft80_0 : (fld Try.prog 80 0).type = 2 := by kernel_rfl
theorem fp80_0 : (fld Try.prog 80 0).offset = 0 := by kernel_rfl
theorem fo80_1 : fieldOf (⟨.struct (flds Try.prog 80), [.int .i64 0, .bool false], 2, 16⟩ : TI) 1 = some (fld Try.prog 80 1) := by kernel_rfl
theorem ft80_1 : (fld Try.prog 80 1).type = 4 := by kernel_rfl
theorem fp80_1 : (fld Try.prog 80 1).offset = 1 := by kernel_rfl
theorem pl80 : places (tiOf Try.prog) (⟨.struct (flds Try.prog 80), [.int .i64 0, .bool false], 2, 16⟩ : TI) = some fun i => ([(0, 1), (1, 1)] : List (Nat × Nat))[i]? := by kernel_rfl
theorem tz92 : tiOf Try.prog 92 = some (⟨.struct (flds Try.prog 92), [.int .i64 0, .int .i64 0, .int .i64 0, .bool false, .bool false], 5, 32⟩ : TI) := by kernel_rfl
theorem fo92_0 : fieldOf (⟨.struct (flds Try.prog 92), [.int .i64 0, .int .i64 0, .int .i64 0, .bool false, .bool false], 5, 32⟩ : TI) 0 = some (fld Try.prog 92 0) := by kernel_rfl
theorem ft92_0 : (fld Try.prog 92 0).type = 3 := by kernel_rfl
theorem fp92_0 : (fld Try.prog 92 0).offset = 0 := by kernel_rfl
theorem fo92_1 : fieldOf (⟨.struct (flds Try.prog 92), [.int .i64 0, .int .i64 0, .int .i64 0, .bool false, .bool false], 5, 32⟩ : TI) 1 = some (fld Try.prog 92 1) := by kernel_rfl
theorem ft92_1 : (fld Try.prog 92 1).type = 2 := by kernel_rfl
theorem fp92_1 : (fld Try.prog 92 1).offset = 1 := by kernel_rfl
theorem fo92_2 : fieldOf (⟨.struct (flds Try.prog 92), [.int .i64 0, .int .i64 0, .int .i64 0, .bool false, .bool false], 5, 32⟩ : TI) 2 = some (fld Try.prog 92 2) := by kernel_rfl
theorem ft92_2 : (fld Try.prog 92 2).type = 2 := by kernel_rfl
theorem fp92_2 : (fld Try.prog 92 2).offset = 2 := by kernel_rfl
theorem fo92_3 : fieldOf (⟨.struct (flds Try.prog 92), [.int .i64 0, .int .i64 0, .int .i64 0, .bool false, .bool false], 5, 32⟩ : TI) 3 = some (fld Try.prog 92 3) := by kernel_rfl
theorem ft92_3 : (fld Try.prog 92 3).type = 4 := by kernel_rfl
theorem fp92_3 : (fld Try.prog 92 3).offset = 3 := by kernel_rfl
theorem fo92_4 : fieldOf (⟨.struct (flds Try.prog 92), [.int .i64 0, .int .i64 0, .int .i64 0, .bool false, .bool false], 5, 32⟩ : TI) 4 = some (fld Try.prog 92 4) := by kernel_rfl
theorem ft92_4 : (fld Try.prog 92 4).type = 4 := by kernel_rfl
theorem fp92_4 : (fld Try.prog 92 4).offset = 4 := by kernel_rfl
theorem pl92 : places (tiOf Try.prog) (⟨.struct (flds Try.prog 92), [.int .i64 0, .int .i64 0, .int .i64 0, .bool false, .bool false], 5, 32⟩ : TI) = some fun i => ([(0, 1), (1, 1), (2, 1), (3, 1), (4, 1)] : List (Nat × Nat))[i]? := by kernel_rfl
theorem tz93 : tiOf Try.prog 93 = some (⟨.struct (flds Try.prog 93), [.int .i64 0, .int .i64 0, .int .i64 0, .bool false, .bool false], 5, 32⟩ : TI) := by kernel_rfl
theorem fo93_0 : fieldOf (⟨.struct (flds Try.prog 93), [.int .i64 0, .int .i64 0, .int .i64 0, .bool false, .bool false], 5, 32⟩ : TI) 0 = some (fld Try.prog 93 0) := by kernel_rfl
theorem ft93_0 : (fld Try.prog 93 0).type = 3 := by kernel_rfl
theorem fp93_0 : (fld Try.prog 93 0).offset = 0 := by kernel_rfl
theorem fo93_1 : fieldOf (⟨.struct (flds Try.prog 93), [.int .i64 0, .int .i64 0, .int .i64 0, .bool false, .bool false], 5, 32⟩ : TI) 1 = some (fld Try.prog 93 1) := by kernel_rfl
theorem ft93_1 : (fld Try.prog 93 1).type = 2 := by kernel_rfl
theorem fp93_1 : (fld Try.prog 93 1).offset = 1 := by kernel_rfl
theorem fo93_2 : fieldOf (⟨.struct (flds Try.prog 93), [.int .i64 0, .int .i64 0, .int .i64 0, .bool false, .bool false], 5, 32⟩ : TI) 2 = some (fld Try.prog 93 2) := by kernel_rfl
theorem ft93_2 : (fld Try.prog 93 2).type = 2 := by kernel_rfl
theorem fp93_2 : (fld Try.prog 93 2).offset = 2 := by kernel_rfl
theorem fo93_3 : fieldOf (⟨.struct (flds Try.prog 93), [.int .i64 0, .int .i64 0, .int .i64 0, .bool false, .bool false], 5, 32⟩ : TI) 3 = some (fld Try.prog 93 3) := by kernel_rfl
theorem ft93_3 : (fld Try.prog 93 3).type = 4 := by kernel_rfl
theorem fp93_3 : (fld Try.prog 93 3).offset = 3 := by kernel_rfl
theorem fo93_4 : fieldOf (⟨.struct (flds Try.prog 93), [.int .i64 0, .int .i64 0, .int .i64 0, .bool false, .bool false], 5, 32⟩ : TI) 4 = some (fld Try.prog 93 4) := by kernel_rfl
theorem ft93_4 : (fld Try.prog 93 4).type = 4 := by kernel_rfl
theorem fp93_4 : (fld Try.prog 93 4).offset = 4 := by kernel_rfl
theorem pl93 : places (tiOf Try.prog) (⟨.struct (flds Try.prog 93), [.int .i64 0, .int .i64 0, .int .i64 0, .bool false, .bool false], 5, 32⟩ : TI) = some fun i => ([(0, 1), (1, 1), (2, 1), (3, 1), (4, 1)] : List (Nat × Nat))[i]? := by kernel_rfl
theorem tz95 : tiOf Try.prog 95 = some (⟨.int .u64, [.int .u64 0], 1, 8⟩ : TI) := by kernel_rfl
theorem tz97 : tiOf Try.prog 97 = some (⟨.slice 99, [.slice none 0 0], 1, 24⟩ : TI) := by kernel_rfl
theorem tz98 : tiOf Try.prog 98 = some (⟨.struct (flds Try.prog 98), [.int .i64 0, .int .i64 0, .int .i64 0], 3, 24⟩ : TI) := by kernel_rfl
theorem fo98_0 : fieldOf (⟨.struct (flds Try.prog 98), [.int .i64 0, .int .i64 0, .int .i64 0], 3, 24⟩ : TI) 0 = some (fld Try.prog 98 0) := by kernel_rfl
theorem ft98_0 : (fld Try.prog 98 0).type = 3 := by kernel_rfl
theorem fp98_0 : (fld Try.prog 98 0).offset = 0 := by kernel_rfl
theorem fo98_1 : fieldOf (⟨.struct (flds Try.prog 98), [.int .i64 0, .int .i64 0, .int .i64 0], 3, 24⟩ : TI) 1 = some (fld Try.prog 98 1) := by kernel_rfl
theorem ft98_1 : (fld Try.prog 98 1).type = 3 := by kernel_rfl
theorem fp98_1 : (fld Try.prog 98 1).offset = 1 := by kernel_rfl
theorem fo98_2 : fieldOf (⟨.struct (flds Try.prog 98), [.int .i64 0, .int .i64 0, .int .i64 0], 3, 24⟩ : TI) 2 = some (fld Try.prog 98 2) := by kernel_rfl
theorem ft98_2 : (fld Try.prog 98 2).type = 2 := by kernel_rfl
theorem fp98_2 : (fld Try.prog 98 2).offset = 2 := by kernel_rfl
theorem pl98 : places (tiOf Try.prog) (⟨.struct (flds Try.prog 98), [.int .i64 0, .int .i64 0, .int .i64 0], 3, 24⟩ : TI) = some fun i => ([(0, 1), (1, 1), (2, 1)] : List (Nat × Nat))[i]? := by kernel_rfl
theorem tz99 : tiOf Try.prog 99 = some (⟨.struct (flds Try.prog 99), [.int .i64 0, .int .i64 0, .int .i64 0], 3, 24⟩ : TI) := by kernel_rfl
theorem fo99_0 : fieldOf (⟨.struct (flds Try.prog 99), [.int .i64 0, .int .i64 0, .int .i64 0], 3, 24⟩ : TI) 0 = some (fld Try.prog 99 0) := by kernel_rfl
theorem ft99_0 : (fld Try.prog 99 0).type = 3 := by kernel_rfl
theorem fp99_0 : (fld Try.prog 99 0).offset = 0 := by kernel_rfl
theorem fo99_1 : fieldOf (⟨.struct (flds Try.prog 99), [.int .i64 0, .int .i64 0, .int .i64 0], 3, 24⟩ : TI) 1 = some (fld Try.prog 99 1) := by kernel_rfl
theorem ft99_1 : (fld Try.prog 99 1).type = 3 := by kernel_rfl
theorem fp99_1 : (fld Try.prog 99 1).offset = 1 := by kernel_rfl
theorem fo99_2 : fieldOf (⟨.struct (flds Try.prog 99), [.int .i64 0, .int .i64 0, .int .i64 0], 3, 24⟩ : TI) 2 = some (fld Try.prog 99 2) := by kernel_rfl
theorem ft99_2 : (fld Try.prog 99 2).type = 2 := by kernel_rfl
theorem fp99_2 : (fld Try.prog 99 2).offset = 2 := by kernel_rfl
theorem pl99 : places (tiOf Try.prog) (⟨.struct (flds Try.prog 99), [.int .i64 0, .int .i64 0, .int .i64 0], 3, 24⟩ : TI) = some fun i => ([(0, 1), (1, 1), (2, 1)] : List (Nat × Nat))[i]? := by kernel_rfl
theorem tz110 : tiOf Try.prog 110 = some (⟨.slice 56, [.slice none 0 0], 1, 24⟩ : TI) := by kernel_rfl
theorem ft114_0 : (fld Try.prog 114 0).type = 17 := by kernel_rfl
theorem fp114_0 : (fld Try.prog 114 0).offset = 0 := by kernel_rfl
theorem ft114_1 : (fld Try.prog 114 1).type = 17 := by kernel_rfl
theorem fp114_1 : (fld Try.prog 114 1).offset = 1 := by kernel_rfl
theorem ft114_2 : (fld Try.prog 114 2).type = 17 := by kernel_rfl
theorem fp114_2 : (fld Try.prog 114 2).offset = 2 := by kernel_rfl
theorem ft114_3 : (fld Try.prog 114 3).type = 9 := by kernel_rfl
theorem fp114_3 : (fld Try.prog 114 3).offset = 3 := by kernel_rfl
theorem ft115_0 : (fld Try.prog 115 0).type = 17 := by kernel_rfl
theorem fp115_0 : (fld Try.prog 115 0).offset = 0 := by kernel_rfl
theorem ft115_1 : (fld Try.prog 115 1).type = 17 := by kernel_rfl
theorem fp115_1 : (fld Try.prog 115 1).offset = 1 := by kernel_rfl
theorem ft115_2 : (fld Try.prog 115 2).type = 17 := by kernel_rfl
theorem fp115_2 : (fld Try.prog 115 2).offset = 2 := by kernel_rfl
theorem ft115_3 : (fld Try.prog 115 3).type = 9 := by kernel_rfl
theorem fp115_3 : (fld Try.prog 115 3).offset = 3 := by kernel_rfl
theorem tz116 : tiOf Try.prog 116 = some (⟨.array 0 16, [], 0, 0⟩ : TI) := by kernel_rfl
theorem tz117 : tiOf Try.prog 117 = some (⟨.struct (flds Try.prog 117), [], 0, 0⟩ : TI) := by kernel_rfl
theorem fo117_0 : fieldOf (⟨.struct (flds Try.prog 117), [], 0, 0⟩ : TI) 0 = some (fld Try.prog 117 0) := by kernel_rfl
theorem ft117_0 : (fld Try.prog 117 0).type = 116 := by kernel_rfl
theorem fp117_0 : (fld Try.prog 117 0).offset = 0 := by kernel_rfl
theorem pl117 : places (tiOf Try.prog) (⟨.struct (flds Try.prog 117), [], 0, 0⟩ : TI) = some fun i => ([(0, 0)] : List (Nat × Nat))[i]? := by kernel_rfl
theorem tz118 : tiOf Try.prog 118 = some (⟨.struct (flds Try.prog 118), [], 0, 0⟩ : TI) := by kernel_rfl
theorem fo118_0 : fieldOf (⟨.struct (flds Try.prog 118), [], 0, 0⟩ : TI) 0 = some (fld Try.prog 118 0) := by kernel_rfl
theorem ft118_0 : (fld Try.prog 118 0).type = 116 := by kernel_rfl
theorem fp118_0 : (fld Try.prog 118 0).offset = 0 := by kernel_rfl
theorem pl118 : places (tiOf Try.prog) (⟨.struct (flds Try.prog 118), [], 0, 0⟩ : TI) = some fun i => ([(0, 0)] : List (Nat × Nat))[i]? := by kernel_rfl
theorem tz120 : tiOf Try.prog 120 = some (⟨.int .u32, [.int .u32 0], 1, 4⟩ : TI) := by kernel_rfl
theorem tz121 : tiOf Try.prog 121 = some (⟨.int .u8, [.int .u8 0], 1, 1⟩ : TI) := by kernel_rfl
theorem tz122 : tiOf Try.prog 122 = some (⟨.int .u8, [.int .u8 0], 1, 1⟩ : TI) := by kernel_rfl
theorem tz125 : tiOf Try.prog 125 = some (⟨.int .i32, [.int .i32 0], 1, 4⟩ : TI) := by kernel_rfl
theorem tz126 : tiOf Try.prog 126 = some (⟨.int .i32, [.int .i32 0], 1, 4⟩ : TI) := by kernel_rfl
theorem tz127 : tiOf Try.prog 127 = some (⟨.struct (flds Try.prog 127), [.int .u64 0, .int .u64 0, .int .u32 0, .int .u8 0, .int .u8 0, .int .u8 0, .int .u8 0, .nilFunc, .pointer none, .int .i32 0, .int .i32 0], 11, 48⟩ : TI) := by kernel_rfl
theorem fo127_0 : fieldOf (⟨.struct (flds Try.prog 127), [.int .u64 0, .int .u64 0, .int .u32 0, .int .u8 0, .int .u8 0, .int .u8 0, .int .u8 0, .nilFunc, .pointer none, .int .i32 0, .int .i32 0], 11, 48⟩ : TI) 0 = some (fld Try.prog 127 0) := by kernel_rfl
theorem ft127_0 : (fld Try.prog 127 0).type = 12 := by kernel_rfl
theorem fp127_0 : (fld Try.prog 127 0).offset = 0 := by kernel_rfl
theorem fo127_1 : fieldOf (⟨.struct (flds Try.prog 127), [.int .u64 0, .int .u64 0, .int .u32 0, .int .u8 0, .int .u8 0, .int .u8 0, .int .u8 0, .nilFunc, .pointer none, .int .i32 0, .int .i32 0], 11, 48⟩ : TI) 1 = some (fld Try.prog 127 1) := by kernel_rfl
theorem ft127_1 : (fld Try.prog 127 1).type = 12 := by kernel_rfl
theorem fp127_1 : (fld Try.prog 127 1).offset = 1 := by kernel_rfl
theorem fo127_2 : fieldOf (⟨.struct (flds Try.prog 127), [.int .u64 0, .int .u64 0, .int .u32 0, .int .u8 0, .int .u8 0, .int .u8 0, .int .u8 0, .nilFunc, .pointer none, .int .i32 0, .int .i32 0], 11, 48⟩ : TI) 2 = some (fld Try.prog 127 2) := by kernel_rfl
theorem ft127_2 : (fld Try.prog 127 2).type = 120 := by kernel_rfl
theorem fp127_2 : (fld Try.prog 127 2).offset = 2 := by kernel_rfl
theorem fo127_3 : fieldOf (⟨.struct (flds Try.prog 127), [.int .u64 0, .int .u64 0, .int .u32 0, .int .u8 0, .int .u8 0, .int .u8 0, .int .u8 0, .nilFunc, .pointer none, .int .i32 0, .int .i32 0], 11, 48⟩ : TI) 3 = some (fld Try.prog 127 3) := by kernel_rfl
theorem ft127_3 : (fld Try.prog 127 3).type = 121 := by kernel_rfl
theorem fp127_3 : (fld Try.prog 127 3).offset = 3 := by kernel_rfl
theorem fo127_4 : fieldOf (⟨.struct (flds Try.prog 127), [.int .u64 0, .int .u64 0, .int .u32 0, .int .u8 0, .int .u8 0, .int .u8 0, .int .u8 0, .nilFunc, .pointer none, .int .i32 0, .int .i32 0], 11, 48⟩ : TI) 4 = some (fld Try.prog 127 4) := by kernel_rfl
theorem ft127_4 : (fld Try.prog 127 4).type = 5 := by kernel_rfl
theorem fp127_4 : (fld Try.prog 127 4).offset = 4 := by kernel_rfl
theorem fo127_5 : fieldOf (⟨.struct (flds Try.prog 127), [.int .u64 0, .int .u64 0, .int .u32 0, .int .u8 0, .int .u8 0, .int .u8 0, .int .u8 0, .nilFunc, .pointer none, .int .i32 0, .int .i32 0], 11, 48⟩ : TI) 5 = some (fld Try.prog 127 5) := by kernel_rfl
theorem ft127_5 : (fld Try.prog 127 5).type = 5 := by kernel_rfl
theorem fp127_5 : (fld Try.prog 127 5).offset = 5 := by kernel_rfl
theorem fo127_6 : fieldOf (⟨.struct (flds Try.prog 127), [.int .u64 0, .int .u64 0, .int .u32 0, .int .u8 0, .int .u8 0, .int .u8 0, .int .u8 0, .nilFunc, .pointer none, .int .i32 0, .int .i32 0], 11, 48⟩ : TI) 6 = some (fld Try.prog 127 6) := by kernel_rfl
theorem ft127_6 : (fld Try.prog 127 6).type = 122 := by kernel_rfl
theorem fp127_6 : (fld Try.prog 127 6).offset = 6 := by kernel_rfl
theorem fo127_7 : fieldOf (⟨.struct (flds Try.prog 127), [.int .u64 0, .int .u64 0, .int .u32 0, .int .u8 0, .int .u8 0, .int .u8 0, .int .u8 0, .nilFunc, .pointer none, .int .i32 0, .int .i32 0], 11, 48⟩ : TI) 7 = some (fld Try.prog 127 7) := by kernel_rfl
theorem ft127_7 : (fld Try.prog 127 7).type = 123 := by kernel_rfl
theorem fp127_7 : (fld Try.prog 127 7).offset = 7 := by kernel_rfl
theorem fo127_8 : fieldOf (⟨.struct (flds Try.prog 127), [.int .u64 0, .int .u64 0, .int .u32 0, .int .u8 0, .int .u8 0, .int .u8 0, .int .u8 0, .nilFunc, .pointer none, .int .i32 0, .int .i32 0], 11, 48⟩ : TI) 8 = some (fld Try.prog 127 8) := by kernel_rfl
theorem ft127_8 : (fld Try.prog 127 8).type = 124 := by kernel_rfl
theorem fp127_8 : (fld Try.prog 127 8).offset = 8 := by kernel_rfl
theorem fo127_9 : fieldOf (⟨.struct (flds Try.prog 127), [.int .u64 0, .int .u64 0, .int .u32 0, .int .u8 0, .int .u8 0, .int .u8 0, .int .u8 0, .nilFunc, .pointer none, .int .i32 0, .int .i32 0], 11, 48⟩ : TI) 9 = some (fld Try.prog 127 9) := by kernel_rfl
theorem ft127_9 : (fld Try.prog 127 9).type = 125 := by kernel_rfl
theorem fp127_9 : (fld Try.prog 127 9).offset = 9 := by kernel_rfl
theorem fo127_10 : fieldOf (⟨.struct (flds Try.prog 127), [.int .u64 0, .int .u64 0, .int .u32 0, .int .u8 0, .int .u8 0, .int .u8 0, .int .u8 0, .nilFunc, .pointer none, .int .i32 0, .int .i32 0], 11, 48⟩ : TI) 10 = some (fld Try.prog 127 10) := by kernel_rfl
theorem ft127_10 : (fld Try.prog 127 10).type = 126 := by kernel_rfl
theorem fp127_10 : (fld Try.prog 127 10).offset = 10 := by kernel_rfl
theorem pl127 : places (tiOf Try.prog) (⟨.struct (flds Try.prog 127), [.int .u64 0, .int .u64 0, .int .u32 0, .int .u8 0, .int .u8 0, .int .u8 0, .int .u8 0, .nilFunc, .pointer none, .int .i32 0, .int .i32 0], 11, 48⟩ : TI) = some fun i => ([(0, 1), (1, 1), (2, 1), (3, 1), (4, 1), (5, 1), (6, 1), (7, 1), (8, 1), (9, 1), (10, 1)] : List (Nat × Nat))[i]? := by kernel_rfl
theorem tz128 : tiOf Try.prog 128 = some (⟨.struct (flds Try.prog 128), [.int .u64 0, .int .u64 0, .int .u32 0, .int .u8 0, .int .u8 0, .int .u8 0, .int .u8 0, .nilFunc, .pointer none, .int .i32 0, .int .i32 0], 11, 48⟩ : TI) := by kernel_rfl
theorem fo128_0 : fieldOf (⟨.struct (flds Try.prog 128), [.int .u64 0, .int .u64 0, .int .u32 0, .int .u8 0, .int .u8 0, .int .u8 0, .int .u8 0, .nilFunc, .pointer none, .int .i32 0, .int .i32 0], 11, 48⟩ : TI) 0 = some (fld Try.prog 128 0) := by kernel_rfl
theorem ft128_0 : (fld Try.prog 128 0).type = 12 := by kernel_rfl
theorem fp128_0 : (fld Try.prog 128 0).offset = 0 := by kernel_rfl
theorem fo128_1 : fieldOf (⟨.struct (flds Try.prog 128), [.int .u64 0, .int .u64 0, .int .u32 0, .int .u8 0, .int .u8 0, .int .u8 0, .int .u8 0, .nilFunc, .pointer none, .int .i32 0, .int .i32 0], 11, 48⟩ : TI) 1 = some (fld Try.prog 128 1) := by kernel_rfl
theorem ft128_1 : (fld Try.prog 128 1).type = 12 := by kernel_rfl
theorem fp128_1 : (fld Try.prog 128 1).offset = 1 := by kernel_rfl
theorem fo128_2 : fieldOf (⟨.struct (flds Try.prog 128), [.int .u64 0, .int .u64 0, .int .u32 0, .int .u8 0, .int .u8 0, .int .u8 0, .int .u8 0, .nilFunc, .pointer none, .int .i32 0, .int .i32 0], 11, 48⟩ : TI) 2 = some (fld Try.prog 128 2) := by kernel_rfl
theorem ft128_2 : (fld Try.prog 128 2).type = 120 := by kernel_rfl
theorem fp128_2 : (fld Try.prog 128 2).offset = 2 := by kernel_rfl
theorem fo128_3 : fieldOf (⟨.struct (flds Try.prog 128), [.int .u64 0, .int .u64 0, .int .u32 0, .int .u8 0, .int .u8 0, .int .u8 0, .int .u8 0, .nilFunc, .pointer none, .int .i32 0, .int .i32 0], 11, 48⟩ : TI) 3 = some (fld Try.prog 128 3) := by kernel_rfl
theorem ft128_3 : (fld Try.prog 128 3).type = 121 := by kernel_rfl
theorem fp128_3 : (fld Try.prog 128 3).offset = 3 := by kernel_rfl
theorem fo128_4 : fieldOf (⟨.struct (flds Try.prog 128), [.int .u64 0, .int .u64 0, .int .u32 0, .int .u8 0, .int .u8 0, .int .u8 0, .int .u8 0, .nilFunc, .pointer none, .int .i32 0, .int .i32 0], 11, 48⟩ : TI) 4 = some (fld Try.prog 128 4) := by kernel_rfl
theorem ft128_4 : (fld Try.prog 128 4).type = 5 := by kernel_rfl
theorem fp128_4 : (fld Try.prog 128 4).offset = 4 := by kernel_rfl
theorem fo128_5 : fieldOf (⟨.struct (flds Try.prog 128), [.int .u64 0, .int .u64 0, .int .u32 0, .int .u8 0, .int .u8 0, .int .u8 0, .int .u8 0, .nilFunc, .pointer none, .int .i32 0, .int .i32 0], 11, 48⟩ : TI) 5 = some (fld Try.prog 128 5) := by kernel_rfl
theorem ft128_5 : (fld Try.prog 128 5).type = 5 := by kernel_rfl
theorem fp128_5 : (fld Try.prog 128 5).offset = 5 := by kernel_rfl
theorem fo128_6 : fieldOf (⟨.struct (flds Try.prog 128), [.int .u64 0, .int .u64 0, .int .u32 0, .int .u8 0, .int .u8 0, .int .u8 0, .int .u8 0, .nilFunc, .pointer none, .int .i32 0, .int .i32 0], 11, 48⟩ : TI) 6 = some (fld Try.prog 128 6) := by kernel_rfl
theorem ft128_6 : (fld Try.prog 128 6).type = 122 := by kernel_rfl
theorem fp128_6 : (fld Try.prog 128 6).offset = 6 := by kernel_rfl
theorem fo128_7 : fieldOf (⟨.struct (flds Try.prog 128), [.int .u64 0, .int .u64 0, .int .u32 0, .int .u8 0, .int .u8 0, .int .u8 0, .int .u8 0, .nilFunc, .pointer none, .int .i32 0, .int .i32 0], 11, 48⟩ : TI) 7 = some (fld Try.prog 128 7) := by kernel_rfl
theorem ft128_7 : (fld Try.prog 128 7).type = 123 := by kernel_rfl
theorem fp128_7 : (fld Try.prog 128 7).offset = 7 := by kernel_rfl
theorem fo128_8 : fieldOf (⟨.struct (flds Try.prog 128), [.int .u64 0, .int .u64 0, .int .u32 0, .int .u8 0, .int .u8 0, .int .u8 0, .int .u8 0, .nilFunc, .pointer none, .int .i32 0, .int .i32 0], 11, 48⟩ : TI) 8 = some (fld Try.prog 128 8) := by kernel_rfl
theorem ft128_8 : (fld Try.prog 128 8).type = 124 := by kernel_rfl
theorem fp128_8 : (fld Try.prog 128 8).offset = 8 := by kernel_rfl
theorem fo128_9 : fieldOf (⟨.struct (flds Try.prog 128), [.int .u64 0, .int .u64 0, .int .u32 0, .int .u8 0, .int .u8 0, .int .u8 0, .int .u8 0, .nilFunc, .pointer none, .int .i32 0, .int .i32 0], 11, 48⟩ : TI) 9 = some (fld Try.prog 128 9) := by kernel_rfl
theorem ft128_9 : (fld Try.prog 128 9).type = 125 := by kernel_rfl
theorem fp128_9 : (fld Try.prog 128 9).offset = 9 := by kernel_rfl
theorem fo128_10 : fieldOf (⟨.struct (flds Try.prog 128), [.int .u64 0, .int .u64 0, .int .u32 0, .int .u8 0, .int .u8 0, .int .u8 0, .int .u8 0, .nilFunc, .pointer none, .int .i32 0, .int .i32 0], 11, 48⟩ : TI) 10 = some (fld Try.prog 128 10) := by kernel_rfl
theorem ft128_10 : (fld Try.prog 128 10).type = 126 := by kernel_rfl
theorem fp128_10 : (fld Try.prog 128 10).offset = 10 := by kernel_rfl
theorem pl128 : places (tiOf Try.prog) (⟨.struct (flds Try.prog 128), [.int .u64 0, .int .u64 0, .int .u32 0, .int .u8 0, .int .u8 0, .int .u8 0, .int .u8 0, .nilFunc, .pointer none, .int .i32 0, .int .i32 0], 11, 48⟩ : TI) = some fun i => ([(0, 1), (1, 1), (2, 1), (3, 1), (4, 1), (5, 1), (6, 1), (7, 1), (8, 1), (9, 1), (10, 1)] : List (Nat × Nat))[i]? := by kernel_rfl
theorem sz2 : sizeAt (tiOf Try.prog) 2 = some (1, false) := by kernel_rfl
theorem sz3 : sizeAt (tiOf Try.prog) 3 = some (1, false) := by kernel_rfl
theorem sz4 : sizeAt (tiOf Try.prog) 4 = some (1, false) := by kernel_rfl
theorem sz5 : sizeAt (tiOf Try.prog) 5 = some (1, false) := by kernel_rfl
theorem sz6 : sizeAt (tiOf Try.prog) 6 = some (1, false) := by kernel_rfl
theorem sz7 : sizeAt (tiOf Try.prog) 7 = some (4, true) := by kernel_rfl
theorem fa7_0 : fieldAt (tiOf Try.prog) 7 0 = some (0, 1, false) := by kernel_rfl
theorem fa7_1 : fieldAt (tiOf Try.prog) 7 1 = some (1, 1, false) := by kernel_rfl
theorem fa7_2 : fieldAt (tiOf Try.prog) 7 2 = some (2, 1, false) := by kernel_rfl
theorem fa7_3 : fieldAt (tiOf Try.prog) 7 3 = some (3, 1, false) := by kernel_rfl
theorem sz8 : sizeAt (tiOf Try.prog) 8 = some (4, true) := by kernel_rfl
theorem fa8_0 : fieldAt (tiOf Try.prog) 8 0 = some (0, 1, false) := by kernel_rfl
theorem fa8_1 : fieldAt (tiOf Try.prog) 8 1 = some (1, 1, false) := by kernel_rfl
theorem fa8_2 : fieldAt (tiOf Try.prog) 8 2 = some (2, 1, false) := by kernel_rfl
theorem fa8_3 : fieldAt (tiOf Try.prog) 8 3 = some (3, 1, false) := by kernel_rfl
theorem sz12 : sizeAt (tiOf Try.prog) 12 = some (1, false) := by kernel_rfl
theorem sz18 : sizeAt (tiOf Try.prog) 18 = some (1, true) := by kernel_rfl
theorem fa18_0 : fieldAt (tiOf Try.prog) 18 0 = some (0, 1, false) := by kernel_rfl
theorem sz19 : sizeAt (tiOf Try.prog) 19 = some (1, true) := by kernel_rfl
theorem fa19_0 : fieldAt (tiOf Try.prog) 19 0 = some (0, 1, false) := by kernel_rfl
theorem sz21 : sizeAt (tiOf Try.prog) 21 = some (1, false) := by kernel_rfl
theorem sz22 : sizeAt (tiOf Try.prog) 22 = some (1, false) := by kernel_rfl
theorem sz23 : sizeAt (tiOf Try.prog) 23 = some (1, false) := by kernel_rfl
theorem el23 : elemAt (tiOf Try.prog) 23 = some 2 := by kernel_rfl
theorem sz24 : sizeAt (tiOf Try.prog) 24 = some (2, true) := by kernel_rfl
theorem fa24_0 : fieldAt (tiOf Try.prog) 24 0 = some (0, 1, false) := by kernel_rfl
theorem fa24_1 : fieldAt (tiOf Try.prog) 24 1 = some (1, 1, false) := by kernel_rfl
theorem sz25 : sizeAt (tiOf Try.prog) 25 = some (2, true) := by kernel_rfl
theorem fa25_0 : fieldAt (tiOf Try.prog) 25 0 = some (0, 1, false) := by kernel_rfl
theorem fa25_1 : fieldAt (tiOf Try.prog) 25 1 = some (1, 1, false) := by kernel_rfl
theorem sz26 : sizeAt (tiOf Try.prog) 26 = some (1, false) := by kernel_rfl
theorem sz27 : sizeAt (tiOf Try.prog) 27 = some (2, true) := by kernel_rfl
theorem fa27_0 : fieldAt (tiOf Try.prog) 27 0 = some (0, 1, false) := by kernel_rfl
theorem fa27_1 : fieldAt (tiOf Try.prog) 27 1 = some (1, 1, false) := by kernel_rfl
theorem sz28 : sizeAt (tiOf Try.prog) 28 = some (2, true) := by kernel_rfl
theorem fa28_0 : fieldAt (tiOf Try.prog) 28 0 = some (0, 1, false) := by kernel_rfl
theorem fa28_1 : fieldAt (tiOf Try.prog) 28 1 = some (1, 1, false) := by kernel_rfl
theorem sz30 : sizeAt (tiOf Try.prog) 30 = some (1, false) := by kernel_rfl
theorem sz33 : sizeAt (tiOf Try.prog) 33 = some (2, true) := by kernel_rfl
theorem fa33_0 : fieldAt (tiOf Try.prog) 33 0 = some (0, 1, false) := by kernel_rfl
theorem fa33_1 : fieldAt (tiOf Try.prog) 33 1 = some (1, 1, false) := by kernel_rfl
theorem sz34 : sizeAt (tiOf Try.prog) 34 = some (2, true) := by kernel_rfl
theorem fa34_0 : fieldAt (tiOf Try.prog) 34 0 = some (0, 1, false) := by kernel_rfl
theorem fa34_1 : fieldAt (tiOf Try.prog) 34 1 = some (1, 1, false) := by kernel_rfl
theorem sz42 : sizeAt (tiOf Try.prog) 42 = some (1, false) := by kernel_rfl
theorem el42 : elemAt (tiOf Try.prog) 42 = some 1 := by kernel_rfl
theorem sz47 : sizeAt (tiOf Try.prog) 47 = some (2, true) := by kernel_rfl
theorem sz50 : sizeAt (tiOf Try.prog) 50 = some (1, false) := by kernel_rfl
theorem el50 : elemAt (tiOf Try.prog) 50 = some 2 := by kernel_rfl
theorem sz54 : sizeAt (tiOf Try.prog) 54 = some (1, false) := by kernel_rfl
theorem sz55 : sizeAt (tiOf Try.prog) 55 = some (2, true) := by kernel_rfl
theorem fa55_0 : fieldAt (tiOf Try.prog) 55 0 = some (0, 1, false) := by kernel_rfl
theorem fa55_1 : fieldAt (tiOf Try.prog) 55 1 = some (1, 1, false) := by kernel_rfl
theorem sz56 : sizeAt (tiOf Try.prog) 56 = some (2, true) := by kernel_rfl
theorem fa56_0 : fieldAt (tiOf Try.prog) 56 0 = some (0, 1, false) := by kernel_rfl
theorem fa56_1 : fieldAt (tiOf Try.prog) 56 1 = some (1, 1, false) := by kernel_rfl
theorem sz62 : sizeAt (tiOf Try.prog) 62 = some (1, false) := by kernel_rfl
theorem el62 : elemAt (tiOf Try.prog) 62 = some 1 := by kernel_rfl
theorem sz77 : sizeAt (tiOf Try.prog) 77 = some (1, false) := by kernel_rfl
theorem el77 : elemAt (tiOf Try.prog) 77 = some 2 := by kernel_rfl
theorem sz79 : sizeAt (tiOf Try.prog) 79 = some (2, true) := by kernel_rfl
theorem fa79_0 : fieldAt (tiOf Try.prog) 79 0 = some (0, 1, false) := by kernel_rfl
theorem fa79_1 : fieldAt (tiOf Try.prog) 79 1 = some (1, 1, false) := by kernel_rfl
theorem sz80 : sizeAt (tiOf Try.prog) 80 = some (2, true) := by kernel_rfl
theorem fa80_0 : fieldAt (tiOf Try.prog) 80 0 = some (0, 1, false) := by kernel_rfl
theorem fa80_1 : fieldAt (tiOf Try.prog) 80 1 = some (1, 1, false) := by kernel_rfl
theorem sz92 : sizeAt (tiOf Try.prog) 92 = some (5, true) := by kernel_rfl
theorem fa92_0 : fieldAt (tiOf Try.prog) 92 0 = some (0, 1, false) := by kernel_rfl
theorem fa92_1 : fieldAt (tiOf Try.prog) 92 1 = some (1, 1, false) := by kernel_rfl
theorem fa92_2 : fieldAt (tiOf Try.prog) 92 2 = some (2, 1, false) := by kernel_rfl
theorem fa92_3 : fieldAt (tiOf Try.prog) 92 3 = some (3, 1, false) := by kernel_rfl
theorem fa92_4 : fieldAt (tiOf Try.prog) 92 4 = some (4, 1, false) := by kernel_rfl
theorem sz93 : sizeAt (tiOf Try.prog) 93 = some (5, true) := by kernel_rfl
theorem fa93_0 : fieldAt (tiOf Try.prog) 93 0 = some (0, 1, false) := by kernel_rfl
theorem fa93_1 : fieldAt (tiOf Try.prog) 93 1 = some (1, 1, false) := by kernel_rfl
theorem fa93_2 : fieldAt (tiOf Try.prog) 93 2 = some (2, 1, false) := by kernel_rfl
theorem fa93_3 : fieldAt (tiOf Try.prog) 93 3 = some (3, 1, false) := by kernel_rfl
theorem fa93_4 : fieldAt (tiOf Try.prog) 93 4 = some (4, 1, false) := by kernel_rfl
theorem sz95 : sizeAt (tiOf Try.prog) 95 = some (1, false) := by kernel_rfl
theorem sz97 : sizeAt (tiOf Try.prog) 97 = some (1, false) := by kernel_rfl
theorem el97 : elemAt (tiOf Try.prog) 97 = some 3 := by kernel_rfl
theorem sz98 : sizeAt (tiOf Try.prog) 98 = some (3, true) := by kernel_rfl
theorem fa98_0 : fieldAt (tiOf Try.prog) 98 0 = some (0, 1, false) := by kernel_rfl
theorem fa98_1 : fieldAt (tiOf Try.prog) 98 1 = some (1, 1, false) := by kernel_rfl
theorem fa98_2 : fieldAt (tiOf Try.prog) 98 2 = some (2, 1, false) := by kernel_rfl
theorem sz99 : sizeAt (tiOf Try.prog) 99 = some (3, true) := by kernel_rfl
theorem fa99_0 : fieldAt (tiOf Try.prog) 99 0 = some (0, 1, false) := by kernel_rfl
theorem fa99_1 : fieldAt (tiOf Try.prog) 99 1 = some (1, 1, false) := by kernel_rfl
theorem fa99_2 : fieldAt (tiOf Try.prog) 99 2 = some (2, 1, false) := by kernel_rfl
theorem sz110 : sizeAt (tiOf Try.prog) 110 = some (1, false) := by kernel_rfl
theorem el110 : elemAt (tiOf Try.prog) 110 = some 2 := by kernel_rfl
theorem sz116 : sizeAt (tiOf Try.prog) 116 = some (0, true) := by kernel_rfl
theorem sz117 : sizeAt (tiOf Try.prog) 117 = some (0, true) := by kernel_rfl
theorem fa117_0 : fieldAt (tiOf Try.prog) 117 0 = some (0, 0, true) := by kernel_rfl
theorem sz118 : sizeAt (tiOf Try.prog) 118 = some (0, true) := by kernel_rfl
theorem fa118_0 : fieldAt (tiOf Try.prog) 118 0 = some (0, 0, true) := by kernel_rfl
theorem sz120 : sizeAt (tiOf Try.prog) 120 = some (1, false) := by kernel_rfl
theorem sz121 : sizeAt (tiOf Try.prog) 121 = some (1, false) := by kernel_rfl
theorem sz122 : sizeAt (tiOf Try.prog) 122 = some (1, false) := by kernel_rfl
theorem sz125 : sizeAt (tiOf Try.prog) 125 = some (1, false) := by kernel_rfl
theorem sz126 : sizeAt (tiOf Try.prog) 126 = some (1, false) := by kernel_rfl
theorem sz127 : sizeAt (tiOf Try.prog) 127 = some (11, true) := by kernel_rfl
theorem fa127_0 : fieldAt (tiOf Try.prog) 127 0 = some (0, 1, false) := by kernel_rfl
theorem fa127_1 : fieldAt (tiOf Try.prog) 127 1 = some (1, 1, false) := by kernel_rfl
theorem fa127_2 : fieldAt (tiOf Try.prog) 127 2 = some (2, 1, false) := by kernel_rfl
theorem fa127_3 : fieldAt (tiOf Try.prog) 127 3 = some (3, 1, false) := by kernel_rfl
theorem fa127_4 : fieldAt (tiOf Try.prog) 127 4 = some (4, 1, false) := by kernel_rfl
theorem fa127_5 : fieldAt (tiOf Try.prog) 127 5 = some (5, 1, false) := by kernel_rfl
theorem fa127_6 : fieldAt (tiOf Try.prog) 127 6 = some (6, 1, false) := by kernel_rfl
theorem fa127_7 : fieldAt (tiOf Try.prog) 127 7 = some (7, 1, false) := by kernel_rfl
theorem fa127_8 : fieldAt (tiOf Try.prog) 127 8 = some (8, 1, false) := by kernel_rfl
theorem fa127_9 : fieldAt (tiOf Try.prog) 127 9 = some (9, 1, false) := by kernel_rfl
theorem fa127_10 : fieldAt (tiOf Try.prog) 127 10 = some (10, 1, false) := by kernel_rfl
theorem sz128 : sizeAt (tiOf Try.prog) 128 = some (11, true) := by kernel_rfl
theorem fa128_0 : fieldAt (tiOf Try.prog) 128 0 = some (0, 1, false) := by kernel_rfl
theorem fa128_1 : fieldAt (tiOf Try.prog) 128 1 = some (1, 1, false) := by kernel_rfl
theorem fa128_2 : fieldAt (tiOf Try.prog) 128 2 = some (2, 1, false) := by kernel_rfl
theorem fa128_3 : fieldAt (tiOf Try.prog) 128 3 = some (3, 1, false) := by kernel_rfl
theorem fa128_4 : fieldAt (tiOf Try.prog) 128 4 = some (4, 1, false) := by kernel_rfl
theorem fa128_5 : fieldAt (tiOf Try.prog) 128 5 = some (5, 1, false) := by kernel_rfl
theorem fa128_6 : fieldAt (tiOf Try.prog) 128 6 = some (6, 1, false) := by kernel_rfl
theorem fa128_7 : fieldAt (tiOf Try.prog) 128 7 = some (7, 1, false) := by kernel_rfl
theorem fa128_8 : fieldAt (tiOf Try.prog) 128 8 = some (8, 1, false) := by kernel_rfl
theorem fa128_9 : fieldAt (tiOf Try.prog) 128 9 = some (9, 1, false) := by kernel_rfl
theorem fa128_10 : fieldAt (tiOf Try.prog) 128 10 = some (10, 1, false) := by kernel_rfl
theorem mixed0 : Try.prog.follows .mixedOrders = true := by kernel_rfl
theorem names0 : namesOk Try.prog = true := by kernel_rfl
noncomputable def E0 : Env := envOf Try.prog fun _ => none
theorem E0_ok : E0.Ok := envOf_ok mixed0 names0 (axOk_none _)
theorem live0 : (callers E0 300 60).1 15 [] = some (.fresh, [.one (.v (.bool true))]) := by kernel_rfl
def liveF : List TD → Option (Kind × List TD)
  | [] => some (.fresh, [.one (.v (.bool true))])
  | _ => none
def liveAx : Ax := addAx (fun _ => none) 15 liveF
noncomputable def E1 : Env := envOf Try.prog liveAx
theorem E1_ok : E1.Ok := envOf_ok mixed0 names0 (axOk_add (axOk_none _) fun vs kind rs h => by
  unfold liveF at h
  split at h
  · simp only [Option.some.injEq, Prod.mk.injEq] at h
    obtain ⟨rfl, rfl⟩ := h
    exact (callers_ok E0_ok 300 60).1 _ _ _ _ live0
  · simp at h)
theorem E1_ti : E1.ti = tiOf Try.prog := envOf_ti _ _
theorem E1_P : E1.P = Try.prog := envOf_P _ _
theorem E1_fn : E1.fn = fiOf Try.prog := envOf_fn _ _
def FL : Option Bool := some true
theorem FL_r (m : Nat) {out : Bool} (h : FL = some out) : RunsP E1 (m + 1) 15 [] (.fresh, [.one (bT out)]) := by
  obtain rfl := Option.some.inj h
  exact runsP_ax (F := liveF) rfl rfl
theorem ty2 : E1.ti 2 = some (⟨.int .i64, [.int .i64 0], 1, 8⟩ : TI) := tz2
theorem ty3 : E1.ti 3 = some (⟨.int .i64, [.int .i64 0], 1, 8⟩ : TI) := tz3
theorem ty4 : E1.ti 4 = some (⟨.bool, [.bool false], 1, 1⟩ : TI) := tz4
theorem ty5 : E1.ti 5 = some (⟨.int .u8, [.int .u8 0], 1, 1⟩ : TI) := tz5
theorem ty6 : E1.ti 6 = some (⟨.int .u8, [.int .u8 0], 1, 1⟩ : TI) := tz6
theorem ty7 : E1.ti 7 = some (⟨.struct (flds Try.prog 7), [.int .i64 0, .int .i64 0, .bool false, .int .u8 0], 4, 24⟩ : TI) := tz7
theorem ty8 : E1.ti 8 = some (⟨.struct (flds Try.prog 8), [.int .i64 0, .int .i64 0, .bool false, .int .u8 0], 4, 24⟩ : TI) := tz8
theorem ty12 : E1.ti 12 = some (⟨.int .u64, [.int .u64 0], 1, 8⟩ : TI) := tz12
theorem ty18 : E1.ti 18 = some (⟨.struct (flds Try.prog 18), [.pointer none], 1, 8⟩ : TI) := tz18
theorem ty19 : E1.ti 19 = some (⟨.struct (flds Try.prog 19), [.pointer none], 1, 8⟩ : TI) := tz19
theorem ty21 : E1.ti 21 = some (⟨.int .i32, [.int .i32 0], 1, 4⟩ : TI) := tz21
theorem ty22 : E1.ti 22 = some (⟨.int .i64, [.int .i64 0], 1, 8⟩ : TI) := tz22
theorem ty23 : E1.ti 23 = some (⟨.slice 34, [.slice none 0 0], 1, 24⟩ : TI) := tz23
theorem ty24 : E1.ti 24 = some (⟨.struct (flds Try.prog 24), [.int .i64 0, .slice none 0 0], 2, 32⟩ : TI) := tz24
theorem ty25 : E1.ti 25 = some (⟨.struct (flds Try.prog 25), [.int .i64 0, .slice none 0 0], 2, 32⟩ : TI) := tz25
theorem ty26 : E1.ti 26 = some (⟨.int .i64, [.int .i64 0], 1, 8⟩ : TI) := tz26
theorem ty27 : E1.ti 27 = some (⟨.struct (flds Try.prog 27), [.int .i64 0, .int .i64 0], 2, 16⟩ : TI) := tz27
theorem ty28 : E1.ti 28 = some (⟨.struct (flds Try.prog 28), [.int .i64 0, .int .i64 0], 2, 16⟩ : TI) := tz28
theorem ty30 : E1.ti 30 = some (⟨.int .i64, [.int .i64 0], 1, 8⟩ : TI) := tz30
theorem ty33 : E1.ti 33 = some (⟨.struct (flds Try.prog 33), [.int .i64 0, .int .i64 0], 2, 16⟩ : TI) := tz33
theorem ty34 : E1.ti 34 = some (⟨.struct (flds Try.prog 34), [.int .i64 0, .int .i64 0], 2, 16⟩ : TI) := tz34
theorem ty42 : E1.ti 42 = some (⟨.slice 3, [.slice none 0 0], 1, 24⟩ : TI) := tz42
theorem ty47 : E1.ti 47 = some (⟨.array 2 23, [.slice none 0 0, .slice none 0 0], 2, 48⟩ : TI) := tz47
theorem ty50 : E1.ti 50 = some (⟨.slice 25, [.slice none 0 0], 1, 24⟩ : TI) := tz50
theorem ty54 : E1.ti 54 = some (⟨.int .u64, [.int .u64 0], 1, 8⟩ : TI) := tz54
theorem ty55 : E1.ti 55 = some (⟨.struct (flds Try.prog 55), [.int .i64 0, .int .u64 0], 2, 16⟩ : TI) := tz55
theorem ty56 : E1.ti 56 = some (⟨.struct (flds Try.prog 56), [.int .i64 0, .int .u64 0], 2, 16⟩ : TI) := tz56
theorem ty62 : E1.ti 62 = some (⟨.slice 54, [.slice none 0 0], 1, 24⟩ : TI) := tz62
theorem ty77 : E1.ti 77 = some (⟨.slice 80, [.slice none 0 0], 1, 24⟩ : TI) := tz77
theorem ty79 : E1.ti 79 = some (⟨.struct (flds Try.prog 79), [.int .i64 0, .bool false], 2, 16⟩ : TI) := tz79
theorem ty80 : E1.ti 80 = some (⟨.struct (flds Try.prog 80), [.int .i64 0, .bool false], 2, 16⟩ : TI) := tz80
theorem ty92 : E1.ti 92 = some (⟨.struct (flds Try.prog 92), [.int .i64 0, .int .i64 0, .int .i64 0, .bool false, .bool false], 5, 32⟩ : TI) := tz92
theorem ty93 : E1.ti 93 = some (⟨.struct (flds Try.prog 93), [.int .i64 0, .int .i64 0, .int .i64 0, .bool false, .bool false], 5, 32⟩ : TI) := tz93
theorem ty95 : E1.ti 95 = some (⟨.int .u64, [.int .u64 0], 1, 8⟩ : TI) := tz95
theorem ty97 : E1.ti 97 = some (⟨.slice 99, [.slice none 0 0], 1, 24⟩ : TI) := tz97
theorem ty98 : E1.ti 98 = some (⟨.struct (flds Try.prog 98), [.int .i64 0, .int .i64 0, .int .i64 0], 3, 24⟩ : TI) := tz98
theorem ty99 : E1.ti 99 = some (⟨.struct (flds Try.prog 99), [.int .i64 0, .int .i64 0, .int .i64 0], 3, 24⟩ : TI) := tz99
theorem ty110 : E1.ti 110 = some (⟨.slice 56, [.slice none 0 0], 1, 24⟩ : TI) := tz110
theorem ty116 : E1.ti 116 = some (⟨.array 0 16, [], 0, 0⟩ : TI) := tz116
theorem ty117 : E1.ti 117 = some (⟨.struct (flds Try.prog 117), [], 0, 0⟩ : TI) := tz117
theorem ty118 : E1.ti 118 = some (⟨.struct (flds Try.prog 118), [], 0, 0⟩ : TI) := tz118
theorem ty120 : E1.ti 120 = some (⟨.int .u32, [.int .u32 0], 1, 4⟩ : TI) := tz120
theorem ty121 : E1.ti 121 = some (⟨.int .u8, [.int .u8 0], 1, 1⟩ : TI) := tz121
theorem ty122 : E1.ti 122 = some (⟨.int .u8, [.int .u8 0], 1, 1⟩ : TI) := tz122
theorem ty125 : E1.ti 125 = some (⟨.int .i32, [.int .i32 0], 1, 4⟩ : TI) := tz125
theorem ty126 : E1.ti 126 = some (⟨.int .i32, [.int .i32 0], 1, 4⟩ : TI) := tz126
theorem ty127 : E1.ti 127 = some (⟨.struct (flds Try.prog 127), [.int .u64 0, .int .u64 0, .int .u32 0, .int .u8 0, .int .u8 0, .int .u8 0, .int .u8 0, .nilFunc, .pointer none, .int .i32 0, .int .i32 0], 11, 48⟩ : TI) := tz127
theorem ty128 : E1.ti 128 = some (⟨.struct (flds Try.prog 128), [.int .u64 0, .int .u64 0, .int .u32 0, .int .u8 0, .int .u8 0, .int .u8 0, .int .u8 0, .nilFunc, .pointer none, .int .i32 0, .int .i32 0], 11, 48⟩ : TI) := tz128
end Ev
end Go.Proofs.Ytioagbejilllfaa
