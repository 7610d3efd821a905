import Derived.Test.YtlcfdmjkbaegpaaEvS5
import Derived.Test.YtlcfdmjkbaegpaaProg
namespace Go.Proofs.Ytlcfdmjkbaegpaa
namespace Ev
open Go
set_option linter.unusedVariables false
set_option linter.unusedSimpArgs false
set_option maxRecDepth 100000
set_option maxHeartbeats 1000000
attribute [local irreducible] OpsL StL TnL WpL EndL
theorem tz1 : tiOf Try.prog 1 = some (⟨.func #[] #[] false, [.nilFunc], 1, 8⟩ : TI) := by kernel_rfl
theorem tz2 : tiOf Try.prog 2 = some (⟨.int .i64, [.int .i64 0], 1, 8⟩ : TI) := by kernel_rfl
theorem tz3 : tiOf Try.prog 3 = some (⟨.int .i64, [.int .i64 0], 1, 8⟩ : TI) := by kernel_rfl
theorem tz4 : tiOf Try.prog 4 = some (⟨.bool, [.bool false], 1, 1⟩ : TI) := by kernel_rfl
theorem tz5 : tiOf Try.prog 5 = some (⟨.int .u8, [.int .u8 0], 1, 1⟩ : TI) := by kernel_rfl
theorem tz6 : tiOf Try.prog 6 = some (⟨.int .u8, [.int .u8 0], 1, 1⟩ : TI) := by kernel_rfl
theorem tz7 : tiOf Try.prog 7 = some (⟨.struct (flds Try.prog 7), [.int .i64 0, .int .i64 0, .bool false, .int .u8 0], 4, 24⟩ : TI) := by kernel_rfl
theorem fo7_0 : fieldOf (⟨.struct (flds Try.prog 7), [.int .i64 0, .int .i64 0, .bool false, .int .u8 0], 4, 24⟩ : TI) 0 = some (fld Try.prog 7 0) := by kernel_rfl
theorem ft7_0 : (fld Try.prog 7 0).type = 2 := by kernel_rfl
theorem fp7_0 : (fld Try.prog 7 0).offset = 0 := by kernel_rfl
theorem fo7_1 : fieldOf (⟨.struct (flds Try.prog 7), [.int .i64 0, .int .i64 0, .bool false, .int .u8 0], 4, 24⟩ : TI) 1 = some (fld Try.prog 7 1) := by kernel_rfl
theorem ft7_1 : (fld Try.prog 7 1).type = 3 := by kernel_rfl
theorem fp7_1 : (fld Try.prog 7 1).offset = 1 := by kernel_rfl
theorem fo7_2 : fieldOf (⟨.struct (flds Try.prog 7), [.int .i64 0, .int .i64 0, .bool false, .int .u8 0], 4, 24⟩ : TI) 2 = some (fld Try.prog 7 2) := by kernel_rfl
theorem ft7_2 : (fld Try.prog 7 2).type = 4 := by kernel_rfl
theorem fp7_2 : (fld Try.prog 7 2).offset = 2 := by kernel_rfl
theorem fo7_3 : fieldOf (⟨.struct (flds Try.prog 7), [.int .i64 0, .int .i64 0, .bool false, .int .u8 0], 4, 24⟩ : TI) 3 = some (fld Try.prog 7 3) := by kernel_rfl
theorem ft7_3 : (fld Try.prog 7 3).type = 6 := by kernel_rfl
theorem fp7_3 : (fld Try.prog 7 3).offset = 3 := by kernel_rfl
theorem pl7 : places (tiOf Try.prog) (⟨.struct (flds Try.prog 7), [.int .i64 0, .int .i64 0, .bool false, .int .u8 0], 4, 24⟩ : TI) = some fun i => ([(0, 1), (1, 1), (2, 1), (3, 1)] : List (Nat × Nat))[i]? := by kernel_rfl
theorem tz8 : tiOf Try.prog 8 = some (⟨.struct (flds Try.prog 8), [.int .i64 0, .int .i64 0, .bool false, .int .u8 0], 4, 24⟩ : TI) := by kernel_rfl
theorem fo8_0 : fieldOf (⟨.struct (flds Try.prog 8), [.int .i64 0, .int .i64 0, .bool false, .int .u8 0], 4, 24⟩ : TI) 0 = some (fld Try.prog 8 0) := by kernel_rfl
theorem ft8_0 : (fld Try.prog 8 0).type = 2 := by kernel_rfl
theorem fp8_0 : (fld Try.prog 8 0).offset = 0 := by kernel_rfl
theorem fo8_1 : fieldOf (⟨.struct (flds Try.prog 8), [.int .i64 0, .int .i64 0, .bool false, .int .u8 0], 4, 24⟩ : TI) 1 = some (fld Try.prog 8 1) := by kernel_rfl
theorem ft8_1 : (fld Try.prog 8 1).type = 3 := by kernel_rfl
theorem fp8_1 : (fld Try.prog 8 1).offset = 1 := by kernel_rfl
theorem fo8_2 : fieldOf (⟨.struct (flds Try.prog 8), [.int .i64 0, .int .i64 0, .bool false, .int .u8 0], 4, 24⟩ : TI) 2 = some (fld Try.prog 8 2) := by kernel_rfl
theorem ft8_2 : (fld Try.prog 8 2).type = 4 := by kernel_rfl
theorem fp8_2 : (fld Try.prog 8 2).offset = 2 := by kernel_rfl
theorem fo8_3 : fieldOf (⟨.struct (flds Try.prog 8), [.int .i64 0, .int .i64 0, .bool false, .int .u8 0], 4, 24⟩ : TI) 3 = some (fld Try.prog 8 3) := by kernel_rfl
theorem ft8_3 : (fld Try.prog 8 3).type = 6 := by kernel_rfl
theorem fp8_3 : (fld Try.prog 8 3).offset = 3 := by kernel_rfl
theorem pl8 : places (tiOf Try.prog) (⟨.struct (flds Try.prog 8), [.int .i64 0, .int .i64 0, .bool false, .int .u8 0], 4, 24⟩ : TI) = some fun i => ([(0, 1), (1, 1), (2, 1), (3, 1)] : List (Nat × Nat))[i]? := by kernel_rfl
theorem tz12 : tiOf Try.prog 12 = some (⟨.int .u64, [.int .u64 0], 1, 8⟩ : TI) := by kernel_rfl
theorem ft13_0 : (fld Try.prog 13 0).type = 9 := by kernel_rfl
theorem fp13_0 : (fld Try.prog 13 0).offset = 0 := by kernel_rfl
theorem ft13_1 : (fld Try.prog 13 1).type = 12 := by kernel_rfl
theorem fp13_1 : (fld Try.prog 13 1).offset = 1 := by kernel_rfl
theorem ft14_0 : (fld Try.prog 14 0).type = 9 := by kernel_rfl
theorem fp14_0 : (fld Try.prog 14 0).offset = 0 := by kernel_rfl
theorem ft14_1 : (fld Try.prog 14 1).type = 12 := by kernel_rfl
theorem fp14_1 : (fld Try.prog 14 1).offset = 1 := by kernel_rfl
theorem tz15 : tiOf Try.prog 15 = some (⟨.pointer 112, [.pointer none], 1, 8⟩ : TI) := by kernel_rfl
theorem tz16 : tiOf Try.prog 16 = some (⟨.pointer 115, [.pointer none], 1, 8⟩ : TI) := by kernel_rfl
theorem tz17 : tiOf Try.prog 17 = some (⟨.pointer 125, [.pointer none], 1, 8⟩ : TI) := by kernel_rfl
theorem tz18 : tiOf Try.prog 18 = some (⟨.struct (flds Try.prog 18), [.pointer none], 1, 8⟩ : TI) := by kernel_rfl
theorem fo18_0 : fieldOf (⟨.struct (flds Try.prog 18), [.pointer none], 1, 8⟩ : TI) 0 = some (fld Try.prog 18 0) := by kernel_rfl
theorem ft18_0 : (fld Try.prog 18 0).type = 17 := by kernel_rfl
theorem fp18_0 : (fld Try.prog 18 0).offset = 0 := by kernel_rfl
theorem pl18 : places (tiOf Try.prog) (⟨.struct (flds Try.prog 18), [.pointer none], 1, 8⟩ : TI) = some fun i => ([(0, 1)] : List (Nat × Nat))[i]? := by kernel_rfl
theorem tz19 : tiOf Try.prog 19 = some (⟨.struct (flds Try.prog 19), [.pointer none], 1, 8⟩ : TI) := by kernel_rfl
theorem fo19_0 : fieldOf (⟨.struct (flds Try.prog 19), [.pointer none], 1, 8⟩ : TI) 0 = some (fld Try.prog 19 0) := by kernel_rfl
theorem ft19_0 : (fld Try.prog 19 0).type = 17 := by kernel_rfl
theorem fp19_0 : (fld Try.prog 19 0).offset = 0 := by kernel_rfl
theorem pl19 : places (tiOf Try.prog) (⟨.struct (flds Try.prog 19), [.pointer none], 1, 8⟩ : TI) = some fun i => ([(0, 1)] : List (Nat × Nat))[i]? := by kernel_rfl
theorem tz21 : tiOf Try.prog 21 = some (⟨.int .i32, [.int .i32 0], 1, 4⟩ : TI) := by kernel_rfl
theorem tz22 : tiOf Try.prog 22 = some (⟨.int .i64, [.int .i64 0], 1, 8⟩ : TI) := by kernel_rfl
theorem tz23 : tiOf Try.prog 23 = some (⟨.slice 57, [.slice none 0 0], 1, 24⟩ : TI) := by kernel_rfl
theorem tz24 : tiOf Try.prog 24 = some (⟨.struct (flds Try.prog 24), [.int .i64 0, .slice none 0 0], 2, 32⟩ : TI) := by kernel_rfl
theorem fo24_0 : fieldOf (⟨.struct (flds Try.prog 24), [.int .i64 0, .slice none 0 0], 2, 32⟩ : TI) 0 = some (fld Try.prog 24 0) := by kernel_rfl
theorem ft24_0 : (fld Try.prog 24 0).type = 3 := by kernel_rfl
theorem fp24_0 : (fld Try.prog 24 0).offset = 0 := by kernel_rfl
theorem fo24_1 : fieldOf (⟨.struct (flds Try.prog 24), [.int .i64 0, .slice none 0 0], 2, 32⟩ : TI) 1 = some (fld Try.prog 24 1) := by kernel_rfl
theorem ft24_1 : (fld Try.prog 24 1).type = 23 := by kernel_rfl
theorem fp24_1 : (fld Try.prog 24 1).offset = 1 := by kernel_rfl
theorem pl24 : places (tiOf Try.prog) (⟨.struct (flds Try.prog 24), [.int .i64 0, .slice none 0 0], 2, 32⟩ : TI) = some fun i => ([(0, 1), (1, 1)] : List (Nat × Nat))[i]? := by kernel_rfl
theorem tz25 : tiOf Try.prog 25 = some (⟨.struct (flds Try.prog 25), [.int .i64 0, .slice none 0 0], 2, 32⟩ : TI) := by kernel_rfl
theorem fo25_0 : fieldOf (⟨.struct (flds Try.prog 25), [.int .i64 0, .slice none 0 0], 2, 32⟩ : TI) 0 = some (fld Try.prog 25 0) := by kernel_rfl
theorem ft25_0 : (fld Try.prog 25 0).type = 3 := by kernel_rfl
theorem fp25_0 : (fld Try.prog 25 0).offset = 0 := by kernel_rfl
theorem fo25_1 : fieldOf (⟨.struct (flds Try.prog 25), [.int .i64 0, .slice none 0 0], 2, 32⟩ : TI) 1 = some (fld Try.prog 25 1) := by kernel_rfl
theorem ft25_1 : (fld Try.prog 25 1).type = 23 := by kernel_rfl
theorem fp25_1 : (fld Try.prog 25 1).offset = 1 := by kernel_rfl
theorem pl25 : places (tiOf Try.prog) (⟨.struct (flds Try.prog 25), [.int .i64 0, .slice none 0 0], 2, 32⟩ : TI) = some fun i => ([(0, 1), (1, 1)] : List (Nat × Nat))[i]? := by kernel_rfl
theorem tz26 : tiOf Try.prog 26 = some (⟨.func #[25] #[25] false, [.nilFunc], 1, 8⟩ : TI) := by kernel_rfl
theorem tz27 : tiOf Try.prog 27 = some (⟨.func #[] #[4] false, [.nilFunc], 1, 8⟩ : TI) := by kernel_rfl
theorem tz28 : tiOf Try.prog 28 = some (⟨.int .i64, [.int .i64 0], 1, 8⟩ : TI) := by kernel_rfl
theorem tz30 : tiOf Try.prog 30 = some (⟨.func #[22, 25, 25] #[25, 28] false, [.nilFunc], 1, 8⟩ : TI) := by kernel_rfl
theorem tz31 : tiOf Try.prog 31 = some (⟨.func #[25, 25] #[4] false, [.nilFunc], 1, 8⟩ : TI) := by kernel_rfl
theorem tz32 : tiOf Try.prog 32 = some (⟨.func #[22, 25, 25] #[4] false, [.nilFunc], 1, 8⟩ : TI) := by kernel_rfl
theorem tz33 : tiOf Try.prog 33 = some (⟨.slice 61, [.slice none 0 0], 1, 24⟩ : TI) := by kernel_rfl
theorem tz34 : tiOf Try.prog 34 = some (⟨.func #[25, 25] #[25, 28] false, [.nilFunc], 1, 8⟩ : TI) := by kernel_rfl
theorem tz35 : tiOf Try.prog 35 = some (⟨.func #[25, 33, 4] #[25] false, [.nilFunc], 1, 8⟩ : TI) := by kernel_rfl
theorem tz36 : tiOf Try.prog 36 = some (⟨.func #[25, 25, 33] #[4] false, [.nilFunc], 1, 8⟩ : TI) := by kernel_rfl
theorem tz37 : tiOf Try.prog 37 = some (⟨.array 3 23, [.slice none 0 0, .slice none 0 0, .slice none 0 0], 3, 72⟩ : TI) := by kernel_rfl
theorem tz38 : tiOf Try.prog 38 = some (⟨.array 3 25, [.int .i64 0, .slice none 0 0, .int .i64 0, .slice none 0 0, .int .i64 0, .slice none 0 0], 6, 96⟩ : TI) := by kernel_rfl
theorem tz39 : tiOf Try.prog 39 = some (⟨.func #[5, 37] #[38] false, [.nilFunc], 1, 8⟩ : TI) := by kernel_rfl
theorem tz40 : tiOf Try.prog 40 = some (⟨.func #[22] #[4] false, [.nilFunc], 1, 8⟩ : TI) := by kernel_rfl
theorem tz41 : tiOf Try.prog 41 = some (⟨.func #[22, 5, 37] #[4] false, [.nilFunc], 1, 8⟩ : TI) := by kernel_rfl
theorem tz42 : tiOf Try.prog 42 = some (⟨.array 2 33, [.slice none 0 0, .slice none 0 0], 2, 48⟩ : TI) := by kernel_rfl
theorem tz43 : tiOf Try.prog 43 = some (⟨.func #[5, 23] #[25] false, [.nilFunc], 1, 8⟩ : TI) := by kernel_rfl
theorem tz44 : tiOf Try.prog 44 = some (⟨.func #[33, 33] #[33] false, [.nilFunc], 1, 8⟩ : TI) := by kernel_rfl
theorem tz45 : tiOf Try.prog 45 = some (⟨.func #[5, 23, 42] #[4] false, [.nilFunc], 1, 8⟩ : TI) := by kernel_rfl
theorem tz46 : tiOf Try.prog 46 = some (⟨.array 2 23, [.slice none 0 0, .slice none 0 0], 2, 48⟩ : TI) := by kernel_rfl
theorem tz47 : tiOf Try.prog 47 = some (⟨.func #[5, 46] #[4] false, [.nilFunc], 1, 8⟩ : TI) := by kernel_rfl
theorem tz48 : tiOf Try.prog 48 = some (⟨.func #[5, 37] #[4] false, [.nilFunc], 1, 8⟩ : TI) := by kernel_rfl
theorem tz50 : tiOf Try.prog 50 = some (⟨.func #[22, 25] #[2, 28] false, [.nilFunc], 1, 8⟩ : TI) := by kernel_rfl
theorem tz51 : tiOf Try.prog 51 = some (⟨.func #[25, 52, 2] #[25] false, [.nilFunc], 1, 8⟩ : TI) := by kernel_rfl
theorem tz52 : tiOf Try.prog 52 = some (⟨.int .i64, [.int .i64 0], 1, 8⟩ : TI) := by kernel_rfl
theorem tz53 : tiOf Try.prog 53 = some (⟨.func #[3, 54] #[33] false, [.nilFunc], 1, 8⟩ : TI) := by kernel_rfl
theorem tz54 : tiOf Try.prog 54 = some (⟨.slice 3, [.slice none 0 0], 1, 24⟩ : TI) := by kernel_rfl
theorem tz55 : tiOf Try.prog 55 = some (⟨.func #[25] #[54] false, [.nilFunc], 1, 8⟩ : TI) := by kernel_rfl
theorem tz56 : tiOf Try.prog 56 = some (⟨.struct (flds Try.prog 56), [.int .i64 0, .int .i64 0], 2, 16⟩ : TI) := by kernel_rfl
theorem fo56_0 : fieldOf (⟨.struct (flds Try.prog 56), [.int .i64 0, .int .i64 0], 2, 16⟩ : TI) 0 = some (fld Try.prog 56 0) := by kernel_rfl
theorem ft56_0 : (fld Try.prog 56 0).type = 3 := by kernel_rfl
theorem fp56_0 : (fld Try.prog 56 0).offset = 0 := by kernel_rfl
theorem fo56_1 : fieldOf (⟨.struct (flds Try.prog 56), [.int .i64 0, .int .i64 0], 2, 16⟩ : TI) 1 = some (fld Try.prog 56 1) := by kernel_rfl
theorem ft56_1 : (fld Try.prog 56 1).type = 2 := by kernel_rfl
theorem fp56_1 : (fld Try.prog 56 1).offset = 1 := by kernel_rfl
theorem pl56 : places (tiOf Try.prog) (⟨.struct (flds Try.prog 56), [.int .i64 0, .int .i64 0], 2, 16⟩ : TI) = some fun i => ([(0, 1), (1, 1)] : List (Nat × Nat))[i]? := by kernel_rfl
theorem tz57 : tiOf Try.prog 57 = some (⟨.struct (flds Try.prog 57), [.int .i64 0, .int .i64 0], 2, 16⟩ : TI) := by kernel_rfl
theorem fo57_0 : fieldOf (⟨.struct (flds Try.prog 57), [.int .i64 0, .int .i64 0], 2, 16⟩ : TI) 0 = some (fld Try.prog 57 0) := by kernel_rfl
theorem ft57_0 : (fld Try.prog 57 0).type = 3 := by kernel_rfl
theorem fp57_0 : (fld Try.prog 57 0).offset = 0 := by kernel_rfl
theorem fo57_1 : fieldOf (⟨.struct (flds Try.prog 57), [.int .i64 0, .int .i64 0], 2, 16⟩ : TI) 1 = some (fld Try.prog 57 1) := by kernel_rfl
theorem ft57_1 : (fld Try.prog 57 1).type = 2 := by kernel_rfl
theorem fp57_1 : (fld Try.prog 57 1).offset = 1 := by kernel_rfl
theorem pl57 : places (tiOf Try.prog) (⟨.struct (flds Try.prog 57), [.int .i64 0, .int .i64 0], 2, 16⟩ : TI) = some fun i => ([(0, 1), (1, 1)] : List (Nat × Nat))[i]? := by kernel_rfl
theorem tz59 : tiOf Try.prog 59 = some (⟨.func #[25] #[57, 4] false, [.nilFunc], 1, 8⟩ : TI) := by kernel_rfl
theorem tz60 : tiOf Try.prog 60 = some (⟨.func #[5, 46, 2] #[4] false, [.nilFunc], 1, 8⟩ : TI) := by kernel_rfl
theorem tz61 : tiOf Try.prog 61 = some (⟨.int .u64, [.int .u64 0], 1, 8⟩ : TI) := by kernel_rfl
theorem tz62 : tiOf Try.prog 62 = some (⟨.func #[25, 25, 69] #[25, 28] false, [.nilFunc], 1, 8⟩ : TI) := by kernel_rfl
theorem tz63 : tiOf Try.prog 63 = some (⟨.struct (flds Try.prog 63), [.int .i64 0, .int .i64 0, .int .i64 0, .bool false, .bool false], 5, 32⟩ : TI) := by kernel_rfl
theorem fo63_0 : fieldOf (⟨.struct (flds Try.prog 63), [.int .i64 0, .int .i64 0, .int .i64 0, .bool false, .bool false], 5, 32⟩ : TI) 0 = some (fld Try.prog 63 0) := by kernel_rfl
theorem ft63_0 : (fld Try.prog 63 0).type = 3 := by kernel_rfl
theorem fp63_0 : (fld Try.prog 63 0).offset = 0 := by kernel_rfl
theorem fo63_1 : fieldOf (⟨.struct (flds Try.prog 63), [.int .i64 0, .int .i64 0, .int .i64 0, .bool false, .bool false], 5, 32⟩ : TI) 1 = some (fld Try.prog 63 1) := by kernel_rfl
theorem ft63_1 : (fld Try.prog 63 1).type = 2 := by kernel_rfl
theorem fp63_1 : (fld Try.prog 63 1).offset = 1 := by kernel_rfl
theorem fo63_2 : fieldOf (⟨.struct (flds Try.prog 63), [.int .i64 0, .int .i64 0, .int .i64 0, .bool false, .bool false], 5, 32⟩ : TI) 2 = some (fld Try.prog 63 2) := by kernel_rfl
theorem ft63_2 : (fld Try.prog 63 2).type = 2 := by kernel_rfl
theorem fp63_2 : (fld Try.prog 63 2).offset = 2 := by kernel_rfl
theorem fo63_3 : fieldOf (⟨.struct (flds Try.prog 63), [.int .i64 0, .int .i64 0, .int .i64 0, .bool false, .bool false], 5, 32⟩ : TI) 3 = some (fld Try.prog 63 3) := by kernel_rfl
theorem ft63_3 : (fld Try.prog 63 3).type = 4 := by kernel_rfl
theorem fp63_3 : (fld Try.prog 63 3).offset = 3 := by kernel_rfl
theorem fo63_4 : fieldOf (⟨.struct (flds Try.prog 63), [.int .i64 0, .int .i64 0, .int .i64 0, .bool false, .bool false], 5, 32⟩ : TI) 4 = some (fld Try.prog 63 4) := by kernel_rfl
theorem ft63_4 : (fld Try.prog 63 4).type = 4 := by kernel_rfl
theorem fp63_4 : (fld Try.prog 63 4).offset = 4 := by kernel_rfl
theorem pl63 : places (tiOf Try.prog) (⟨.struct (flds Try.prog 63), [.int .i64 0, .int .i64 0, .int .i64 0, .bool false, .bool false], 5, 32⟩ : TI) = some fun i => ([(0, 1), (1, 1), (2, 1), (3, 1), (4, 1)] : List (Nat × Nat))[i]? := by kernel_rfl
theorem tz64 : tiOf Try.prog 64 = some (⟨.struct (flds Try.prog 64), [.int .i64 0, .int .i64 0, .int .i64 0, .bool false, .bool false], 5, 32⟩ : TI) := by kernel_rfl
theorem fo64_0 : fieldOf (⟨.struct (flds Try.prog 64), [.int .i64 0, .int .i64 0, .int .i64 0, .bool false, .bool false], 5, 32⟩ : TI) 0 = some (fld Try.prog 64 0) := by kernel_rfl
theorem ft64_0 : (fld Try.prog 64 0).type = 3 := by kernel_rfl
theorem fp64_0 : (fld Try.prog 64 0).offset = 0 := by kernel_rfl
theorem fo64_1 : fieldOf (⟨.struct (flds Try.prog 64), [.int .i64 0, .int .i64 0, .int .i64 0, .bool false, .bool false], 5, 32⟩ : TI) 1 = some (fld Try.prog 64 1) := by kernel_rfl
theorem ft64_1 : (fld Try.prog 64 1).type = 2 := by kernel_rfl
theorem fp64_1 : (fld Try.prog 64 1).offset = 1 := by kernel_rfl
theorem fo64_2 : fieldOf (⟨.struct (flds Try.prog 64), [.int .i64 0, .int .i64 0, .int .i64 0, .bool false, .bool false], 5, 32⟩ : TI) 2 = some (fld Try.prog 64 2) := by kernel_rfl
theorem ft64_2 : (fld Try.prog 64 2).type = 2 := by kernel_rfl
theorem fp64_2 : (fld Try.prog 64 2).offset = 2 := by kernel_rfl
theorem fo64_3 : fieldOf (⟨.struct (flds Try.prog 64), [.int .i64 0, .int .i64 0, .int .i64 0, .bool false, .bool false], 5, 32⟩ : TI) 3 = some (fld Try.prog 64 3) := by kernel_rfl
theorem ft64_3 : (fld Try.prog 64 3).type = 4 := by kernel_rfl
theorem fp64_3 : (fld Try.prog 64 3).offset = 3 := by kernel_rfl
theorem fo64_4 : fieldOf (⟨.struct (flds Try.prog 64), [.int .i64 0, .int .i64 0, .int .i64 0, .bool false, .bool false], 5, 32⟩ : TI) 4 = some (fld Try.prog 64 4) := by kernel_rfl
theorem ft64_4 : (fld Try.prog 64 4).type = 4 := by kernel_rfl
theorem fp64_4 : (fld Try.prog 64 4).offset = 4 := by kernel_rfl
theorem pl64 : places (tiOf Try.prog) (⟨.struct (flds Try.prog 64), [.int .i64 0, .int .i64 0, .int .i64 0, .bool false, .bool false], 5, 32⟩ : TI) = some fun i => ([(0, 1), (1, 1), (2, 1), (3, 1), (4, 1)] : List (Nat × Nat))[i]? := by kernel_rfl
theorem tz65 : tiOf Try.prog 65 = some (⟨.struct (flds Try.prog 65), [.int .i64 0, .int .u64 0], 2, 16⟩ : TI) := by kernel_rfl
theorem fo65_0 : fieldOf (⟨.struct (flds Try.prog 65), [.int .i64 0, .int .u64 0], 2, 16⟩ : TI) 0 = some (fld Try.prog 65 0) := by kernel_rfl
theorem ft65_0 : (fld Try.prog 65 0).type = 2 := by kernel_rfl
theorem fp65_0 : (fld Try.prog 65 0).offset = 0 := by kernel_rfl
theorem fo65_1 : fieldOf (⟨.struct (flds Try.prog 65), [.int .i64 0, .int .u64 0], 2, 16⟩ : TI) 1 = some (fld Try.prog 65 1) := by kernel_rfl
theorem ft65_1 : (fld Try.prog 65 1).type = 61 := by kernel_rfl
theorem fp65_1 : (fld Try.prog 65 1).offset = 1 := by kernel_rfl
theorem pl65 : places (tiOf Try.prog) (⟨.struct (flds Try.prog 65), [.int .i64 0, .int .u64 0], 2, 16⟩ : TI) = some fun i => ([(0, 1), (1, 1)] : List (Nat × Nat))[i]? := by kernel_rfl
theorem tz66 : tiOf Try.prog 66 = some (⟨.struct (flds Try.prog 66), [.int .i64 0, .int .u64 0], 2, 16⟩ : TI) := by kernel_rfl
theorem fo66_0 : fieldOf (⟨.struct (flds Try.prog 66), [.int .i64 0, .int .u64 0], 2, 16⟩ : TI) 0 = some (fld Try.prog 66 0) := by kernel_rfl
theorem ft66_0 : (fld Try.prog 66 0).type = 2 := by kernel_rfl
theorem fp66_0 : (fld Try.prog 66 0).offset = 0 := by kernel_rfl
theorem fo66_1 : fieldOf (⟨.struct (flds Try.prog 66), [.int .i64 0, .int .u64 0], 2, 16⟩ : TI) 1 = some (fld Try.prog 66 1) := by kernel_rfl
theorem ft66_1 : (fld Try.prog 66 1).type = 61 := by kernel_rfl
theorem fp66_1 : (fld Try.prog 66 1).offset = 1 := by kernel_rfl
theorem pl66 : places (tiOf Try.prog) (⟨.struct (flds Try.prog 66), [.int .i64 0, .int .u64 0], 2, 16⟩ : TI) = some fun i => ([(0, 1), (1, 1)] : List (Nat × Nat))[i]? := by kernel_rfl
theorem tz67 : tiOf Try.prog 67 = some (⟨.func #[22, 66, 66] #[66] false, [.nilFunc], 1, 8⟩ : TI) := by kernel_rfl
theorem tz68 : tiOf Try.prog 68 = some (⟨.func #[2] #[66] false, [.nilFunc], 1, 8⟩ : TI) := by kernel_rfl
theorem tz69 : tiOf Try.prog 69 = some (⟨.func #[64] #[66, 4] false, [.nilFunc], 1, 8⟩ : TI) := by kernel_rfl
theorem tz71 : tiOf Try.prog 71 = some (⟨.func #[25, 3] #[2, 4] false, [.nilFunc], 1, 8⟩ : TI) := by kernel_rfl
theorem tz72 : tiOf Try.prog 72 = some (⟨.func #[66] #[2, 4] false, [.nilFunc], 1, 8⟩ : TI) := by kernel_rfl
theorem tz73 : tiOf Try.prog 73 = some (⟨.func #[22, 2, 2] #[66] false, [.nilFunc], 1, 8⟩ : TI) := by kernel_rfl
theorem tz74 : tiOf Try.prog 74 = some (⟨.func #[23, 23] #[4] false, [.nilFunc], 1, 8⟩ : TI) := by kernel_rfl
theorem tz75 : tiOf Try.prog 75 = some (⟨.func #[25, 3, 2] #[25] false, [.nilFunc], 1, 8⟩ : TI) := by kernel_rfl
theorem tz76 : tiOf Try.prog 76 = some (⟨.func #[33, 3] #[4] false, [.nilFunc], 1, 8⟩ : TI) := by kernel_rfl
theorem tz77 : tiOf Try.prog 77 = some (⟨.func #[22, 3, 23] #[25, 28] false, [.nilFunc], 1, 8⟩ : TI) := by kernel_rfl
theorem tz78 : tiOf Try.prog 78 = some (⟨.func #[33, 3] #[61] false, [.nilFunc], 1, 8⟩ : TI) := by kernel_rfl
theorem tz79 : tiOf Try.prog 79 = some (⟨.func #[22] #[2] false, [.nilFunc], 1, 8⟩ : TI) := by kernel_rfl
theorem tz80 : tiOf Try.prog 80 = some (⟨.func #[22, 66] #[2, 4] false, [.nilFunc], 1, 8⟩ : TI) := by kernel_rfl
theorem tz81 : tiOf Try.prog 81 = some (⟨.func #[52, 2, 2] #[4] false, [.nilFunc], 1, 8⟩ : TI) := by kernel_rfl
theorem tz82 : tiOf Try.prog 82 = some (⟨.func #[3] #[33] false, [.nilFunc], 1, 8⟩ : TI) := by kernel_rfl
theorem tz83 : tiOf Try.prog 83 = some (⟨.func #[33, 3] #[33] false, [.nilFunc], 1, 8⟩ : TI) := by kernel_rfl
theorem tz84 : tiOf Try.prog 84 = some (⟨.func #[102] #[] false, [.nilFunc], 1, 8⟩ : TI) := by kernel_rfl
theorem tz85 : tiOf Try.prog 85 = some (⟨.func #[102] #[] false, [.nilFunc], 1, 8⟩ : TI) := by kernel_rfl
theorem tz86 : tiOf Try.prog 86 = some (⟨.func #[23, 23] #[85] false, [.nilFunc], 1, 8⟩ : TI) := by kernel_rfl
theorem tz88 : tiOf Try.prog 88 = some (⟨.func #[66, 66] #[66] false, [.nilFunc], 1, 8⟩ : TI) := by kernel_rfl
theorem tz89 : tiOf Try.prog 89 = some (⟨.func #[4] #[66] false, [.nilFunc], 1, 8⟩ : TI) := by kernel_rfl
theorem tz90 : tiOf Try.prog 90 = some (⟨.int .u64, [.int .u64 0], 1, 8⟩ : TI) := by kernel_rfl
theorem tz91 : tiOf Try.prog 91 = some (⟨.func #[25] #[4] false, [.nilFunc], 1, 8⟩ : TI) := by kernel_rfl
theorem tz92 : tiOf Try.prog 92 = some (⟨.func #[66, 66] #[3] false, [.nilFunc], 1, 8⟩ : TI) := by kernel_rfl
theorem tz93 : tiOf Try.prog 93 = some (⟨.func #[2, 2] #[66] false, [.nilFunc], 1, 8⟩ : TI) := by kernel_rfl
theorem tz94 : tiOf Try.prog 94 = some (⟨.func #[3] #[61] false, [.nilFunc], 1, 8⟩ : TI) := by kernel_rfl
theorem tz95 : tiOf Try.prog 95 = some (⟨.slice 97, [.slice none 0 0], 1, 24⟩ : TI) := by kernel_rfl
theorem tz96 : tiOf Try.prog 96 = some (⟨.struct (flds Try.prog 96), [.int .i64 0, .int .i64 0, .int .i64 0], 3, 24⟩ : TI) := by kernel_rfl
theorem fo96_0 : fieldOf (⟨.struct (flds Try.prog 96), [.int .i64 0, .int .i64 0, .int .i64 0], 3, 24⟩ : TI) 0 = some (fld Try.prog 96 0) := by kernel_rfl
theorem ft96_0 : (fld Try.prog 96 0).type = 3 := by kernel_rfl
theorem fp96_0 : (fld Try.prog 96 0).offset = 0 := by kernel_rfl
theorem fo96_1 : fieldOf (⟨.struct (flds Try.prog 96), [.int .i64 0, .int .i64 0, .int .i64 0], 3, 24⟩ : TI) 1 = some (fld Try.prog 96 1) := by kernel_rfl
theorem ft96_1 : (fld Try.prog 96 1).type = 3 := by kernel_rfl
theorem fp96_1 : (fld Try.prog 96 1).offset = 1 := by kernel_rfl
theorem fo96_2 : fieldOf (⟨.struct (flds Try.prog 96), [.int .i64 0, .int .i64 0, .int .i64 0], 3, 24⟩ : TI) 2 = some (fld Try.prog 96 2) := by kernel_rfl
theorem ft96_2 : (fld Try.prog 96 2).type = 2 := by kernel_rfl
theorem fp96_2 : (fld Try.prog 96 2).offset = 2 := by kernel_rfl
theorem pl96 : places (tiOf Try.prog) (⟨.struct (flds Try.prog 96), [.int .i64 0, .int .i64 0, .int .i64 0], 3, 24⟩ : TI) = some fun i => ([(0, 1), (1, 1), (2, 1)] : List (Nat × Nat))[i]? := by kernel_rfl
theorem tz97 : tiOf Try.prog 97 = some (⟨.struct (flds Try.prog 97), [.int .i64 0, .int .i64 0, .int .i64 0], 3, 24⟩ : TI) := by kernel_rfl
theorem fo97_0 : fieldOf (⟨.struct (flds Try.prog 97), [.int .i64 0, .int .i64 0, .int .i64 0], 3, 24⟩ : TI) 0 = some (fld Try.prog 97 0) := by kernel_rfl
theorem ft97_0 : (fld Try.prog 97 0).type = 3 := by kernel_rfl
theorem fp97_0 : (fld Try.prog 97 0).offset = 0 := by kernel_rfl
theorem fo97_1 : fieldOf (⟨.struct (flds Try.prog 97), [.int .i64 0, .int .i64 0, .int .i64 0], 3, 24⟩ : TI) 1 = some (fld Try.prog 97 1) := by kernel_rfl
theorem ft97_1 : (fld Try.prog 97 1).type = 3 := by kernel_rfl
theorem fp97_1 : (fld Try.prog 97 1).offset = 1 := by kernel_rfl
theorem fo97_2 : fieldOf (⟨.struct (flds Try.prog 97), [.int .i64 0, .int .i64 0, .int .i64 0], 3, 24⟩ : TI) 2 = some (fld Try.prog 97 2) := by kernel_rfl
theorem ft97_2 : (fld Try.prog 97 2).type = 2 := by kernel_rfl
theorem fp97_2 : (fld Try.prog 97 2).offset = 2 := by kernel_rfl
theorem pl97 : places (tiOf Try.prog) (⟨.struct (flds Try.prog 97), [.int .i64 0, .int .i64 0, .int .i64 0], 3, 24⟩ : TI) = some fun i => ([(0, 1), (1, 1), (2, 1)] : List (Nat × Nat))[i]? := by kernel_rfl
theorem tz99 : tiOf Try.prog 99 = some (⟨.func #[22, 95] #[95, 28] false, [.nilFunc], 1, 8⟩ : TI) := by kernel_rfl
theorem tz100 : tiOf Try.prog 100 = some (⟨.func #[3] #[3] false, [.nilFunc], 1, 8⟩ : TI) := by kernel_rfl
theorem tz101 : tiOf Try.prog 101 = some (⟨.func #[33, 3, 4] #[33] false, [.nilFunc], 1, 8⟩ : TI) := by kernel_rfl
theorem tz102 : tiOf Try.prog 102 = some (⟨.func #[64] #[4] false, [.nilFunc], 1, 8⟩ : TI) := by kernel_rfl
theorem tz103 : tiOf Try.prog 103 = some (⟨.array 4 61, [.int .u64 0, .int .u64 0, .int .u64 0, .int .u64 0], 4, 32⟩ : TI) := by kernel_rfl
theorem tz104 : tiOf Try.prog 104 = some (⟨.func #[61, 61] #[103] false, [.nilFunc], 1, 8⟩ : TI) := by kernel_rfl
theorem tz105 : tiOf Try.prog 105 = some (⟨.func #[66, 3] #[66] false, [.nilFunc], 1, 8⟩ : TI) := by kernel_rfl
theorem tz106 : tiOf Try.prog 106 = some (⟨.func #[66] #[66] false, [.nilFunc], 1, 8⟩ : TI) := by kernel_rfl
theorem tz107 : tiOf Try.prog 107 = some (⟨.func #[3] #[4] false, [.nilFunc], 1, 8⟩ : TI) := by kernel_rfl
theorem tz108 : tiOf Try.prog 108 = some (⟨.slice 66, [.slice none 0 0], 1, 24⟩ : TI) := by kernel_rfl
theorem tz109 : tiOf Try.prog 109 = some (⟨.func #[97, 97] #[4] false, [.nilFunc], 1, 8⟩ : TI) := by kernel_rfl
theorem tz110 : tiOf Try.prog 110 = some (⟨.func #[] #[9] false, [.nilFunc], 1, 8⟩ : TI) := by kernel_rfl
theorem ft111_0 : (fld Try.prog 111 0).type = 17 := by kernel_rfl
theorem fp111_0 : (fld Try.prog 111 0).offset = 0 := by kernel_rfl
theorem ft111_1 : (fld Try.prog 111 1).type = 17 := by kernel_rfl
theorem fp111_1 : (fld Try.prog 111 1).offset = 1 := by kernel_rfl
theorem ft111_2 : (fld Try.prog 111 2).type = 17 := by kernel_rfl
theorem fp111_2 : (fld Try.prog 111 2).offset = 2 := by kernel_rfl
theorem ft111_3 : (fld Try.prog 111 3).type = 9 := by kernel_rfl
theorem fp111_3 : (fld Try.prog 111 3).offset = 3 := by kernel_rfl
theorem ft112_0 : (fld Try.prog 112 0).type = 17 := by kernel_rfl
theorem fp112_0 : (fld Try.prog 112 0).offset = 0 := by kernel_rfl
theorem ft112_1 : (fld Try.prog 112 1).type = 17 := by kernel_rfl
theorem fp112_1 : (fld Try.prog 112 1).offset = 1 := by kernel_rfl
theorem ft112_2 : (fld Try.prog 112 2).type = 17 := by kernel_rfl
theorem fp112_2 : (fld Try.prog 112 2).offset = 2 := by kernel_rfl
theorem ft112_3 : (fld Try.prog 112 3).type = 9 := by kernel_rfl
theorem fp112_3 : (fld Try.prog 112 3).offset = 3 := by kernel_rfl
theorem tz113 : tiOf Try.prog 113 = some (⟨.array 0 16, [], 0, 0⟩ : TI) := by kernel_rfl
theorem tz114 : tiOf Try.prog 114 = some (⟨.struct (flds Try.prog 114), [], 0, 0⟩ : TI) := by kernel_rfl
theorem fo114_0 : fieldOf (⟨.struct (flds Try.prog 114), [], 0, 0⟩ : TI) 0 = some (fld Try.prog 114 0) := by kernel_rfl
theorem ft114_0 : (fld Try.prog 114 0).type = 113 := by kernel_rfl
theorem fp114_0 : (fld Try.prog 114 0).offset = 0 := by kernel_rfl
theorem pl114 : places (tiOf Try.prog) (⟨.struct (flds Try.prog 114), [], 0, 0⟩ : TI) = some fun i => ([(0, 0)] : List (Nat × Nat))[i]? := by kernel_rfl
theorem tz115 : tiOf Try.prog 115 = some (⟨.struct (flds Try.prog 115), [], 0, 0⟩ : TI) := by kernel_rfl
theorem fo115_0 : fieldOf (⟨.struct (flds Try.prog 115), [], 0, 0⟩ : TI) 0 = some (fld Try.prog 115 0) := by kernel_rfl
theorem ft115_0 : (fld Try.prog 115 0).type = 113 := by kernel_rfl
theorem fp115_0 : (fld Try.prog 115 0).offset = 0 := by kernel_rfl
theorem pl115 : places (tiOf Try.prog) (⟨.struct (flds Try.prog 115), [], 0, 0⟩ : TI) = some fun i => ([(0, 0)] : List (Nat × Nat))[i]? := by kernel_rfl
theorem tz116 : tiOf Try.prog 116 = some (⟨.func #[] #[3] false, [.nilFunc], 1, 8⟩ : TI) := by kernel_rfl
theorem tz117 : tiOf Try.prog 117 = some (⟨.int .u32, [.int .u32 0], 1, 4⟩ : TI) := by kernel_rfl
theorem tz118 : tiOf Try.prog 118 = some (⟨.int .u8, [.int .u8 0], 1, 1⟩ : TI) := by kernel_rfl
theorem tz119 : tiOf Try.prog 119 = some (⟨.int .u8, [.int .u8 0], 1, 1⟩ : TI) := by kernel_rfl
theorem tz120 : tiOf Try.prog 120 = some (⟨.func #[126, 126] #[4] false, [.nilFunc], 1, 8⟩ : TI) := by kernel_rfl
theorem tz121 : tiOf Try.prog 121 = some (⟨.pointer 5, [.pointer none], 1, 8⟩ : TI) := by kernel_rfl
theorem tz122 : tiOf Try.prog 122 = some (⟨.int .i32, [.int .i32 0], 1, 4⟩ : TI) := by kernel_rfl
theorem tz123 : tiOf Try.prog 123 = some (⟨.int .i32, [.int .i32 0], 1, 4⟩ : TI) := by kernel_rfl
theorem tz124 : tiOf Try.prog 124 = some (⟨.struct (flds Try.prog 124), [.int .u64 0, .int .u64 0, .int .u32 0, .int .u8 0, .int .u8 0, .int .u8 0, .int .u8 0, .nilFunc, .pointer none, .int .i32 0, .int .i32 0], 11, 48⟩ : TI) := by kernel_rfl
theorem fo124_0 : fieldOf (⟨.struct (flds Try.prog 124), [.int .u64 0, .int .u64 0, .int .u32 0, .int .u8 0, .int .u8 0, .int .u8 0, .int .u8 0, .nilFunc, .pointer none, .int .i32 0, .int .i32 0], 11, 48⟩ : TI) 0 = some (fld Try.prog 124 0) := by kernel_rfl
theorem ft124_0 : (fld Try.prog 124 0).type = 12 := by kernel_rfl
theorem fp124_0 : (fld Try.prog 124 0).offset = 0 := by kernel_rfl
theorem fo124_1 : fieldOf (⟨.struct (flds Try.prog 124), [.int .u64 0, .int .u64 0, .int .u32 0, .int .u8 0, .int .u8 0, .int .u8 0, .int .u8 0, .nilFunc, .pointer none, .int .i32 0, .int .i32 0], 11, 48⟩ : TI) 1 = some (fld Try.prog 124 1) := by kernel_rfl
theorem ft124_1 : (fld Try.prog 124 1).type = 12 := by kernel_rfl
theorem fp124_1 : (fld Try.prog 124 1).offset = 1 := by kernel_rfl
theorem fo124_2 : fieldOf (⟨.struct (flds Try.prog 124), [.int .u64 0, .int .u64 0, .int .u32 0, .int .u8 0, .int .u8 0, .int .u8 0, .int .u8 0, .nilFunc, .pointer none, .int .i32 0, .int .i32 0], 11, 48⟩ : TI) 2 = some (fld Try.prog 124 2) := by kernel_rfl
theorem ft124_2 : (fld Try.prog 124 2).type = 117 := by kernel_rfl
theorem fp124_2 : (fld Try.prog 124 2).offset = 2 := by kernel_rfl
theorem fo124_3 : fieldOf (⟨.struct (flds Try.prog 124), [.int .u64 0, .int .u64 0, .int .u32 0, .int .u8 0, .int .u8 0, .int .u8 0, .int .u8 0, .nilFunc, .pointer none, .int .i32 0, .int .i32 0], 11, 48⟩ : TI) 3 = some (fld Try.prog 124 3) := by kernel_rfl
theorem ft124_3 : (fld Try.prog 124 3).type = 118 := by kernel_rfl
theorem fp124_3 : (fld Try.prog 124 3).offset = 3 := by kernel_rfl
theorem fo124_4 : fieldOf (⟨.struct (flds Try.prog 124), [.int .u64 0, .int .u64 0, .int .u32 0, .int .u8 0, .int .u8 0, .int .u8 0, .int .u8 0, .nilFunc, .pointer none, .int .i32 0, .int .i32 0], 11, 48⟩ : TI) 4 = some (fld Try.prog 124 4) := by kernel_rfl
theorem ft124_4 : (fld Try.prog 124 4).type = 5 := by kernel_rfl
theorem fp124_4 : (fld Try.prog 124 4).offset = 4 := by kernel_rfl
theorem fo124_5 : fieldOf (⟨.struct (flds Try.prog 124), [.int .u64 0, .int .u64 0, .int .u32 0, .int .u8 0, .int .u8 0, .int .u8 0, .int .u8 0, .nilFunc, .pointer none, .int .i32 0, .int .i32 0], 11, 48⟩ : TI) 5 = some (fld Try.prog 124 5) := by kernel_rfl
theorem ft124_5 : (fld Try.prog 124 5).type = 5 := by kernel_rfl
theorem fp124_5 : (fld Try.prog 124 5).offset = 5 := by kernel_rfl
theorem fo124_6 : fieldOf (⟨.struct (flds Try.prog 124), [.int .u64 0, .int .u64 0, .int .u32 0, .int .u8 0, .int .u8 0, .int .u8 0, .int .u8 0, .nilFunc, .pointer none, .int .i32 0, .int .i32 0], 11, 48⟩ : TI) 6 = some (fld Try.prog 124 6) := by kernel_rfl
theorem ft124_6 : (fld Try.prog 124 6).type = 119 := by kernel_rfl
theorem fp124_6 : (fld Try.prog 124 6).offset = 6 := by kernel_rfl
theorem fo124_7 : fieldOf (⟨.struct (flds Try.prog 124), [.int .u64 0, .int .u64 0, .int .u32 0, .int .u8 0, .int .u8 0, .int .u8 0, .int .u8 0, .nilFunc, .pointer none, .int .i32 0, .int .i32 0], 11, 48⟩ : TI) 7 = some (fld Try.prog 124 7) := by kernel_rfl
theorem ft124_7 : (fld Try.prog 124 7).type = 120 := by kernel_rfl
theorem fp124_7 : (fld Try.prog 124 7).offset = 7 := by kernel_rfl
theorem fo124_8 : fieldOf (⟨.struct (flds Try.prog 124), [.int .u64 0, .int .u64 0, .int .u32 0, .int .u8 0, .int .u8 0, .int .u8 0, .int .u8 0, .nilFunc, .pointer none, .int .i32 0, .int .i32 0], 11, 48⟩ : TI) 8 = some (fld Try.prog 124 8) := by kernel_rfl
theorem ft124_8 : (fld Try.prog 124 8).type = 121 := by kernel_rfl
theorem fp124_8 : (fld Try.prog 124 8).offset = 8 := by kernel_rfl
theorem fo124_9 : fieldOf (⟨.struct (flds Try.prog 124), [.int .u64 0, .int .u64 0, .int .u32 0, .int .u8 0, .int .u8 0, .int .u8 0, .int .u8 0, .nilFunc, .pointer none, .int .i32 0, .int .i32 0], 11, 48⟩ : TI) 9 = some (fld Try.prog 124 9) := by kernel_rfl
theorem ft124_9 : (fld Try.prog 124 9).type = 122 := by kernel_rfl
theorem fp124_9 : (fld Try.prog 124 9).offset = 9 := by kernel_rfl
theorem fo124_10 : fieldOf (⟨.struct (flds Try.prog 124), [.int .u64 0, .int .u64 0, .int .u32 0, .int .u8 0, .int .u8 0, .int .u8 0, .int .u8 0, .nilFunc, .pointer none, .int .i32 0, .int .i32 0], 11, 48⟩ : TI) 10 = some (fld Try.prog 124 10) := by kernel_rfl
theorem ft124_10 : (fld Try.prog 124 10).type = 123 := by kernel_rfl
theorem fp124_10 : (fld Try.prog 124 10).offset = 10 := by kernel_rfl
theorem pl124 : places (tiOf Try.prog) (⟨.struct (flds Try.prog 124), [.int .u64 0, .int .u64 0, .int .u32 0, .int .u8 0, .int .u8 0, .int .u8 0, .int .u8 0, .nilFunc, .pointer none, .int .i32 0, .int .i32 0], 11, 48⟩ : TI) = some fun i => ([(0, 1), (1, 1), (2, 1), (3, 1), (4, 1), (5, 1), (6, 1), (7, 1), (8, 1), (9, 1), (10, 1)] : List (Nat × Nat))[i]? := by kernel_rfl
theorem tz125 : tiOf Try.prog 125 = some (⟨.struct (flds Try.prog 125), [.int .u64 0, .int .u64 0, .int .u32 0, .int .u8 0, .int .u8 0, .int .u8 0, .int .u8 0, .nilFunc, .pointer none, .int .i32 0, .int .i32 0], 11, 48⟩ : TI) := by kernel_rfl
theorem fo125_0 : fieldOf (⟨.struct (flds Try.prog 125), [.int .u64 0, .int .u64 0, .int .u32 0, .int .u8 0, .int .u8 0, .int .u8 0, .int .u8 0, .nilFunc, .pointer none, .int .i32 0, .int .i32 0], 11, 48⟩ : TI) 0 = some (fld Try.prog 125 0) := by kernel_rfl
theorem ft125_0 : (fld Try.prog 125 0).type = 12 := by kernel_rfl
theorem fp125_0 : (fld Try.prog 125 0).offset = 0 := by kernel_rfl
theorem fo125_1 : fieldOf (⟨.struct (flds Try.prog 125), [.int .u64 0, .int .u64 0, .int .u32 0, .int .u8 0, .int .u8 0, .int .u8 0, .int .u8 0, .nilFunc, .pointer none, .int .i32 0, .int .i32 0], 11, 48⟩ : TI) 1 = some (fld Try.prog 125 1) := by kernel_rfl
theorem ft125_1 : (fld Try.prog 125 1).type = 12 := by kernel_rfl
theorem fp125_1 : (fld Try.prog 125 1).offset = 1 := by kernel_rfl
theorem fo125_2 : fieldOf (⟨.struct (flds Try.prog 125), [.int .u64 0, .int .u64 0, .int .u32 0, .int .u8 0, .int .u8 0, .int .u8 0, .int .u8 0, .nilFunc, .pointer none, .int .i32 0, .int .i32 0], 11, 48⟩ : TI) 2 = some (fld Try.prog 125 2) := by kernel_rfl
theorem ft125_2 : (fld Try.prog 125 2).type = 117 := by kernel_rfl
theorem fp125_2 : (fld Try.prog 125 2).offset = 2 := by kernel_rfl
theorem fo125_3 : fieldOf (⟨.struct (flds Try.prog 125), [.int .u64 0, .int .u64 0, .int .u32 0, .int .u8 0, .int .u8 0, .int .u8 0, .int .u8 0, .nilFunc, .pointer none, .int .i32 0, .int .i32 0], 11, 48⟩ : TI) 3 = some (fld Try.prog 125 3) := by kernel_rfl
theorem ft125_3 : (fld Try.prog 125 3).type = 118 := by kernel_rfl
theorem fp125_3 : (fld Try.prog 125 3).offset = 3 := by kernel_rfl
theorem fo125_4 : fieldOf (⟨.struct (flds Try.prog 125), [.int .u64 0, .int .u64 0, .int .u32 0, .int .u8 0, .int .u8 0, .int .u8 0, .int .u8 0, .nilFunc, .pointer none, .int .i32 0, .int .i32 0], 11, 48⟩ : TI) 4 = some (fld Try.prog 125 4) := by kernel_rfl
theorem ft125_4 : (fld Try.prog 125 4).type = 5 := by kernel_rfl
theorem fp125_4 : (fld Try.prog 125 4).offset = 4 := by kernel_rfl
theorem fo125_5 : fieldOf (⟨.struct (flds Try.prog 125), [.int .u64 0, .int .u64 0, .int .u32 0, .int .u8 0, .int .u8 0, .int .u8 0, .int .u8 0, .nilFunc, .pointer none, .int .i32 0, .int .i32 0], 11, 48⟩ : TI) 5 = some (fld Try.prog 125 5) := by kernel_rfl
theorem ft125_5 : (fld Try.prog 125 5).type = 5 := by kernel_rfl
theorem fp125_5 : (fld Try.prog 125 5).offset = 5 := by kernel_rfl
theorem fo125_6 : fieldOf (⟨.struct (flds Try.prog 125), [.int .u64 0, .int .u64 0, .int .u32 0, .int .u8 0, .int .u8 0, .int .u8 0, .int .u8 0, .nilFunc, .pointer none, .int .i32 0, .int .i32 0], 11, 48⟩ : TI) 6 = some (fld Try.prog 125 6) := by kernel_rfl
theorem ft125_6 : (fld Try.prog 125 6).type = 119 := by kernel_rfl
theorem fp125_6 : (fld Try.prog 125 6).offset = 6 := by kernel_rfl
theorem fo125_7 : fieldOf (⟨.struct (flds Try.prog 125), [.int .u64 0, .int .u64 0, .int .u32 0, .int .u8 0, .int .u8 0, .int .u8 0, .int .u8 0, .nilFunc, .pointer none, .int .i32 0, .int .i32 0], 11, 48⟩ : TI) 7 = some (fld Try.prog 125 7) := by kernel_rfl
theorem ft125_7 : (fld Try.prog 125 7).type = 120 := by kernel_rfl
theorem fp125_7 : (fld Try.prog 125 7).offset = 7 := by kernel_rfl
theorem fo125_8 : fieldOf (⟨.struct (flds Try.prog 125), [.int .u64 0, .int .u64 0, .int .u32 0, .int .u8 0, .int .u8 0, .int .u8 0, .int .u8 0, .nilFunc, .pointer none, .int .i32 0, .int .i32 0], 11, 48⟩ : TI) 8 = some (fld Try.prog 125 8) := by kernel_rfl
theorem ft125_8 : (fld Try.prog 125 8).type = 121 := by kernel_rfl
theorem fp125_8 : (fld Try.prog 125 8).offset = 8 := by kernel_rfl
theorem fo125_9 : fieldOf (⟨.struct (flds Try.prog 125), [.int .u64 0, .int .u64 0, .int .u32 0, .int .u8 0, .int .u8 0, .int .u8 0, .int .u8 0, .nilFunc, .pointer none, .int .i32 0, .int .i32 0], 11, 48⟩ : TI) 9 = some (fld Try.prog 125 9) := by kernel_rfl
theorem ft125_9 : (fld Try.prog 125 9).type = 122 := by kernel_rfl
theorem fp125_9 : (fld Try.prog 125 9).offset = 9 := by kernel_rfl
theorem fo125_10 : fieldOf (⟨.struct (flds Try.prog 125), [.int .u64 0, .int .u64 0, .int .u32 0, .int .u8 0, .int .u8 0, .int .u8 0, .int .u8 0, .nilFunc, .pointer none, .int .i32 0, .int .i32 0], 11, 48⟩ : TI) 10 = some (fld Try.prog 125 10) := by kernel_rfl
theorem ft125_10 : (fld Try.prog 125 10).type = 123 := by kernel_rfl
theorem fp125_10 : (fld Try.prog 125 10).offset = 10 := by kernel_rfl
theorem pl125 : places (tiOf Try.prog) (⟨.struct (flds Try.prog 125), [.int .u64 0, .int .u64 0, .int .u32 0, .int .u8 0, .int .u8 0, .int .u8 0, .int .u8 0, .nilFunc, .pointer none, .int .i32 0, .int .i32 0], 11, 48⟩ : TI) = some fun i => ([(0, 1), (1, 1), (2, 1), (3, 1), (4, 1), (5, 1), (6, 1), (7, 1), (8, 1), (9, 1), (10, 1)] : List (Nat × Nat))[i]? := by kernel_rfl
theorem sz1 : sizeAt (tiOf Try.prog) 1 = some (1, false) := by kernel_rfl
theorem sz2 : sizeAt (tiOf Try.prog) 2 = some (1, false) := by kernel_rfl
theorem sz3 : sizeAt (tiOf Try.prog) 3 = some (1, false) := by kernel_rfl
theorem sz4 : sizeAt (tiOf Try.prog) 4 = some (1, false) := by kernel_rfl
theorem sz5 : sizeAt (tiOf Try.prog) 5 = some (1, false) := by kernel_rfl
theorem sz6 : sizeAt (tiOf Try.prog) 6 = some (1, false) := by kernel_rfl
theorem sz7 : sizeAt (tiOf Try.prog) 7 = some (4, true) := by kernel_rfl
theorem fa7_0 : fieldAt (tiOf Try.prog) 7 0 = some (0, 1, false) := by kernel_rfl
theorem fa7_1 : fieldAt (tiOf Try.prog) 7 1 = some (1, 1, false) := by kernel_rfl
theorem fa7_2 : fieldAt (tiOf Try.prog) 7 2 = some (2, 1, false) := by kernel_rfl
theorem fa7_3 : fieldAt (tiOf Try.prog) 7 3 = some (3, 1, false) := by kernel_rfl
theorem sz8 : sizeAt (tiOf Try.prog) 8 = some (4, true) := by kernel_rfl
theorem fa8_0 : fieldAt (tiOf Try.prog) 8 0 = some (0, 1, false) := by kernel_rfl
theorem fa8_1 : fieldAt (tiOf Try.prog) 8 1 = some (1, 1, false) := by kernel_rfl
theorem fa8_2 : fieldAt (tiOf Try.prog) 8 2 = some (2, 1, false) := by kernel_rfl
theorem fa8_3 : fieldAt (tiOf Try.prog) 8 3 = some (3, 1, false) := by kernel_rfl
theorem sz12 : sizeAt (tiOf Try.prog) 12 = some (1, false) := by kernel_rfl
theorem sz15 : sizeAt (tiOf Try.prog) 15 = some (1, false) := by kernel_rfl
theorem sz16 : sizeAt (tiOf Try.prog) 16 = some (1, false) := by kernel_rfl
theorem sz17 : sizeAt (tiOf Try.prog) 17 = some (1, false) := by kernel_rfl
theorem sz18 : sizeAt (tiOf Try.prog) 18 = some (1, true) := by kernel_rfl
theorem fa18_0 : fieldAt (tiOf Try.prog) 18 0 = some (0, 1, false) := by kernel_rfl
theorem sz19 : sizeAt (tiOf Try.prog) 19 = some (1, true) := by kernel_rfl
theorem fa19_0 : fieldAt (tiOf Try.prog) 19 0 = some (0, 1, false) := by kernel_rfl
theorem sz21 : sizeAt (tiOf Try.prog) 21 = some (1, false) := by kernel_rfl
theorem sz22 : sizeAt (tiOf Try.prog) 22 = some (1, false) := by kernel_rfl
theorem sz23 : sizeAt (tiOf Try.prog) 23 = some (1, false) := by kernel_rfl
theorem el23 : elemAt (tiOf Try.prog) 23 = some 2 := by kernel_rfl
theorem sz24 : sizeAt (tiOf Try.prog) 24 = some (2, true) := by kernel_rfl
theorem fa24_0 : fieldAt (tiOf Try.prog) 24 0 = some (0, 1, false) := by kernel_rfl
theorem fa24_1 : fieldAt (tiOf Try.prog) 24 1 = some (1, 1, false) := by kernel_rfl
theorem sz25 : sizeAt (tiOf Try.prog) 25 = some (2, true) := by kernel_rfl
theorem fa25_0 : fieldAt (tiOf Try.prog) 25 0 = some (0, 1, false) := by kernel_rfl
theorem fa25_1 : fieldAt (tiOf Try.prog) 25 1 = some (1, 1, false) := by kernel_rfl
theorem sz26 : sizeAt (tiOf Try.prog) 26 = some (1, false) := by kernel_rfl
theorem sz27 : sizeAt (tiOf Try.prog) 27 = some (1, false) := by kernel_rfl
theorem sz28 : sizeAt (tiOf Try.prog) 28 = some (1, false) := by kernel_rfl
theorem sz30 : sizeAt (tiOf Try.prog) 30 = some (1, false) := by kernel_rfl
theorem sz31 : sizeAt (tiOf Try.prog) 31 = some (1, false) := by kernel_rfl
theorem sz32 : sizeAt (tiOf Try.prog) 32 = some (1, false) := by kernel_rfl
theorem sz33 : sizeAt (tiOf Try.prog) 33 = some (1, false) := by kernel_rfl
theorem el33 : elemAt (tiOf Try.prog) 33 = some 1 := by kernel_rfl
theorem sz34 : sizeAt (tiOf Try.prog) 34 = some (1, false) := by kernel_rfl
theorem sz35 : sizeAt (tiOf Try.prog) 35 = some (1, false) := by kernel_rfl
theorem sz36 : sizeAt (tiOf Try.prog) 36 = some (1, false) := by kernel_rfl
theorem sz37 : sizeAt (tiOf Try.prog) 37 = some (3, true) := by kernel_rfl
theorem sz38 : sizeAt (tiOf Try.prog) 38 = some (6, true) := by kernel_rfl
theorem sz39 : sizeAt (tiOf Try.prog) 39 = some (1, false) := by kernel_rfl
theorem sz40 : sizeAt (tiOf Try.prog) 40 = some (1, false) := by kernel_rfl
theorem sz41 : sizeAt (tiOf Try.prog) 41 = some (1, false) := by kernel_rfl
theorem sz42 : sizeAt (tiOf Try.prog) 42 = some (2, true) := by kernel_rfl
theorem sz43 : sizeAt (tiOf Try.prog) 43 = some (1, false) := by kernel_rfl
theorem sz44 : sizeAt (tiOf Try.prog) 44 = some (1, false) := by kernel_rfl
theorem sz45 : sizeAt (tiOf Try.prog) 45 = some (1, false) := by kernel_rfl
theorem sz46 : sizeAt (tiOf Try.prog) 46 = some (2, true) := by kernel_rfl
theorem sz47 : sizeAt (tiOf Try.prog) 47 = some (1, false) := by kernel_rfl
theorem sz48 : sizeAt (tiOf Try.prog) 48 = some (1, false) := by kernel_rfl
theorem sz50 : sizeAt (tiOf Try.prog) 50 = some (1, false) := by kernel_rfl
theorem sz51 : sizeAt (tiOf Try.prog) 51 = some (1, false) := by kernel_rfl
theorem sz52 : sizeAt (tiOf Try.prog) 52 = some (1, false) := by kernel_rfl
theorem sz53 : sizeAt (tiOf Try.prog) 53 = some (1, false) := by kernel_rfl
theorem sz54 : sizeAt (tiOf Try.prog) 54 = some (1, false) := by kernel_rfl
theorem el54 : elemAt (tiOf Try.prog) 54 = some 1 := by kernel_rfl
theorem sz55 : sizeAt (tiOf Try.prog) 55 = some (1, false) := by kernel_rfl
theorem sz56 : sizeAt (tiOf Try.prog) 56 = some (2, true) := by kernel_rfl
theorem fa56_0 : fieldAt (tiOf Try.prog) 56 0 = some (0, 1, false) := by kernel_rfl
theorem fa56_1 : fieldAt (tiOf Try.prog) 56 1 = some (1, 1, false) := by kernel_rfl
theorem sz57 : sizeAt (tiOf Try.prog) 57 = some (2, true) := by kernel_rfl
theorem fa57_0 : fieldAt (tiOf Try.prog) 57 0 = some (0, 1, false) := by kernel_rfl
theorem fa57_1 : fieldAt (tiOf Try.prog) 57 1 = some (1, 1, false) := by kernel_rfl
theorem sz59 : sizeAt (tiOf Try.prog) 59 = some (1, false) := by kernel_rfl
theorem sz60 : sizeAt (tiOf Try.prog) 60 = some (1, false) := by kernel_rfl
theorem sz61 : sizeAt (tiOf Try.prog) 61 = some (1, false) := by kernel_rfl
theorem sz62 : sizeAt (tiOf Try.prog) 62 = some (1, false) := by kernel_rfl
theorem sz63 : sizeAt (tiOf Try.prog) 63 = some (5, true) := by kernel_rfl
theorem fa63_0 : fieldAt (tiOf Try.prog) 63 0 = some (0, 1, false) := by kernel_rfl
theorem fa63_1 : fieldAt (tiOf Try.prog) 63 1 = some (1, 1, false) := by kernel_rfl
theorem fa63_2 : fieldAt (tiOf Try.prog) 63 2 = some (2, 1, false) := by kernel_rfl
theorem fa63_3 : fieldAt (tiOf Try.prog) 63 3 = some (3, 1, false) := by kernel_rfl
theorem fa63_4 : fieldAt (tiOf Try.prog) 63 4 = some (4, 1, false) := by kernel_rfl
theorem sz64 : sizeAt (tiOf Try.prog) 64 = some (5, true) := by kernel_rfl
theorem fa64_0 : fieldAt (tiOf Try.prog) 64 0 = some (0, 1, false) := by kernel_rfl
theorem fa64_1 : fieldAt (tiOf Try.prog) 64 1 = some (1, 1, false) := by kernel_rfl
theorem fa64_2 : fieldAt (tiOf Try.prog) 64 2 = some (2, 1, false) := by kernel_rfl
theorem fa64_3 : fieldAt (tiOf Try.prog) 64 3 = some (3, 1, false) := by kernel_rfl
theorem fa64_4 : fieldAt (tiOf Try.prog) 64 4 = some (4, 1, false) := by kernel_rfl
theorem sz65 : sizeAt (tiOf Try.prog) 65 = some (2, true) := by kernel_rfl
theorem fa65_0 : fieldAt (tiOf Try.prog) 65 0 = some (0, 1, false) := by kernel_rfl
theorem fa65_1 : fieldAt (tiOf Try.prog) 65 1 = some (1, 1, false) := by kernel_rfl
theorem sz66 : sizeAt (tiOf Try.prog) 66 = some (2, true) := by kernel_rfl
theorem fa66_0 : fieldAt (tiOf Try.prog) 66 0 = some (0, 1, false) := by kernel_rfl
theorem fa66_1 : fieldAt (tiOf Try.prog) 66 1 = some (1, 1, false) := by kernel_rfl
theorem sz67 : sizeAt (tiOf Try.prog) 67 = some (1, false) := by kernel_rfl
theorem sz68 : sizeAt (tiOf Try.prog) 68 = some (1, false) := by kernel_rfl
theorem sz69 : sizeAt (tiOf Try.prog) 69 = some (1, false) := by kernel_rfl
theorem sz71 : sizeAt (tiOf Try.prog) 71 = some (1, false) := by kernel_rfl
theorem sz72 : sizeAt (tiOf Try.prog) 72 = some (1, false) := by kernel_rfl
theorem sz73 : sizeAt (tiOf Try.prog) 73 = some (1, false) := by kernel_rfl
theorem sz74 : sizeAt (tiOf Try.prog) 74 = some (1, false) := by kernel_rfl
theorem sz75 : sizeAt (tiOf Try.prog) 75 = some (1, false) := by kernel_rfl
theorem sz76 : sizeAt (tiOf Try.prog) 76 = some (1, false) := by kernel_rfl
theorem sz77 : sizeAt (tiOf Try.prog) 77 = some (1, false) := by kernel_rfl
theorem sz78 : sizeAt (tiOf Try.prog) 78 = some (1, false) := by kernel_rfl
theorem sz79 : sizeAt (tiOf Try.prog) 79 = some (1, false) := by kernel_rfl
theorem sz80 : sizeAt (tiOf Try.prog) 80 = some (1, false) := by kernel_rfl
theorem sz81 : sizeAt (tiOf Try.prog) 81 = some (1, false) := by kernel_rfl
theorem sz82 : sizeAt (tiOf Try.prog) 82 = some (1, false) := by kernel_rfl
theorem sz83 : sizeAt (tiOf Try.prog) 83 = some (1, false) := by kernel_rfl
theorem sz84 : sizeAt (tiOf Try.prog) 84 = some (1, false) := by kernel_rfl
theorem sz85 : sizeAt (tiOf Try.prog) 85 = some (1, false) := by kernel_rfl
theorem sz86 : sizeAt (tiOf Try.prog) 86 = some (1, false) := by kernel_rfl
theorem sz88 : sizeAt (tiOf Try.prog) 88 = some (1, false) := by kernel_rfl
theorem sz89 : sizeAt (tiOf Try.prog) 89 = some (1, false) := by kernel_rfl
theorem sz90 : sizeAt (tiOf Try.prog) 90 = some (1, false) := by kernel_rfl
theorem sz91 : sizeAt (tiOf Try.prog) 91 = some (1, false) := by kernel_rfl
theorem sz92 : sizeAt (tiOf Try.prog) 92 = some (1, false) := by kernel_rfl
theorem sz93 : sizeAt (tiOf Try.prog) 93 = some (1, false) := by kernel_rfl
theorem sz94 : sizeAt (tiOf Try.prog) 94 = some (1, false) := by kernel_rfl
theorem sz95 : sizeAt (tiOf Try.prog) 95 = some (1, false) := by kernel_rfl
theorem el95 : elemAt (tiOf Try.prog) 95 = some 3 := by kernel_rfl
theorem sz96 : sizeAt (tiOf Try.prog) 96 = some (3, true) := by kernel_rfl
theorem fa96_0 : fieldAt (tiOf Try.prog) 96 0 = some (0, 1, false) := by kernel_rfl
theorem fa96_1 : fieldAt (tiOf Try.prog) 96 1 = some (1, 1, false) := by kernel_rfl
theorem fa96_2 : fieldAt (tiOf Try.prog) 96 2 = some (2, 1, false) := by kernel_rfl
theorem sz97 : sizeAt (tiOf Try.prog) 97 = some (3, true) := by kernel_rfl
theorem fa97_0 : fieldAt (tiOf Try.prog) 97 0 = some (0, 1, false) := by kernel_rfl
theorem fa97_1 : fieldAt (tiOf Try.prog) 97 1 = some (1, 1, false) := by kernel_rfl
theorem fa97_2 : fieldAt (tiOf Try.prog) 97 2 = some (2, 1, false) := by kernel_rfl
theorem sz99 : sizeAt (tiOf Try.prog) 99 = some (1, false) := by kernel_rfl
theorem sz100 : sizeAt (tiOf Try.prog) 100 = some (1, false) := by kernel_rfl
theorem sz101 : sizeAt (tiOf Try.prog) 101 = some (1, false) := by kernel_rfl
theorem sz102 : sizeAt (tiOf Try.prog) 102 = some (1, false) := by kernel_rfl
theorem sz103 : sizeAt (tiOf Try.prog) 103 = some (4, true) := by kernel_rfl
theorem sz104 : sizeAt (tiOf Try.prog) 104 = some (1, false) := by kernel_rfl
theorem sz105 : sizeAt (tiOf Try.prog) 105 = some (1, false) := by kernel_rfl
theorem sz106 : sizeAt (tiOf Try.prog) 106 = some (1, false) := by kernel_rfl
theorem sz107 : sizeAt (tiOf Try.prog) 107 = some (1, false) := by kernel_rfl
theorem sz108 : sizeAt (tiOf Try.prog) 108 = some (1, false) := by kernel_rfl
theorem el108 : elemAt (tiOf Try.prog) 108 = some 2 := by kernel_rfl
theorem sz109 : sizeAt (tiOf Try.prog) 109 = some (1, false) := by kernel_rfl
theorem sz110 : sizeAt (tiOf Try.prog) 110 = some (1, false) := by kernel_rfl
theorem sz113 : sizeAt (tiOf Try.prog) 113 = some (0, true) := by kernel_rfl
theorem sz114 : sizeAt (tiOf Try.prog) 114 = some (0, true) := by kernel_rfl
theorem fa114_0 : fieldAt (tiOf Try.prog) 114 0 = some (0, 0, true) := by kernel_rfl
theorem sz115 : sizeAt (tiOf Try.prog) 115 = some (0, true) := by kernel_rfl
theorem fa115_0 : fieldAt (tiOf Try.prog) 115 0 = some (0, 0, true) := by kernel_rfl
theorem sz116 : sizeAt (tiOf Try.prog) 116 = some (1, false) := by kernel_rfl
theorem sz117 : sizeAt (tiOf Try.prog) 117 = some (1, false) := by kernel_rfl
theorem sz118 : sizeAt (tiOf Try.prog) 118 = some (1, false) := by kernel_rfl
theorem sz119 : sizeAt (tiOf Try.prog) 119 = some (1, false) := by kernel_rfl
theorem sz120 : sizeAt (tiOf Try.prog) 120 = some (1, false) := by kernel_rfl
theorem sz121 : sizeAt (tiOf Try.prog) 121 = some (1, false) := by kernel_rfl
theorem sz122 : sizeAt (tiOf Try.prog) 122 = some (1, false) := by kernel_rfl
theorem sz123 : sizeAt (tiOf Try.prog) 123 = some (1, false) := by kernel_rfl
theorem sz124 : sizeAt (tiOf Try.prog) 124 = some (11, true) := by kernel_rfl
theorem fa124_0 : fieldAt (tiOf Try.prog) 124 0 = some (0, 1, false) := by kernel_rfl
theorem fa124_1 : fieldAt (tiOf Try.prog) 124 1 = some (1, 1, false) := by kernel_rfl
theorem fa124_2 : fieldAt (tiOf Try.prog) 124 2 = some (2, 1, false) := by kernel_rfl
theorem fa124_3 : fieldAt (tiOf Try.prog) 124 3 = some (3, 1, false) := by kernel_rfl
theorem fa124_4 : fieldAt (tiOf Try.prog) 124 4 = some (4, 1, false) := by kernel_rfl
theorem fa124_5 : fieldAt (tiOf Try.prog) 124 5 = some (5, 1, false) := by kernel_rfl
theorem fa124_6 : fieldAt (tiOf Try.prog) 124 6 = some (6, 1, false) := by kernel_rfl
theorem fa124_7 : fieldAt (tiOf Try.prog) 124 7 = some (7, 1, false) := by kernel_rfl
theorem fa124_8 : fieldAt (tiOf Try.prog) 124 8 = some (8, 1, false) := by kernel_rfl
theorem fa124_9 : fieldAt (tiOf Try.prog) 124 9 = some (9, 1, false) := by kernel_rfl
theorem fa124_10 : fieldAt (tiOf Try.prog) 124 10 = some (10, 1, false) := by kernel_rfl
theorem sz125 : sizeAt (tiOf Try.prog) 125 = some (11, true) := by kernel_rfl
theorem fa125_0 : fieldAt (tiOf Try.prog) 125 0 = some (0, 1, false) := by kernel_rfl
theorem fa125_1 : fieldAt (tiOf Try.prog) 125 1 = some (1, 1, false) := by kernel_rfl
theorem fa125_2 : fieldAt (tiOf Try.prog) 125 2 = some (2, 1, false) := by kernel_rfl
theorem fa125_3 : fieldAt (tiOf Try.prog) 125 3 = some (3, 1, false) := by kernel_rfl
theorem fa125_4 : fieldAt (tiOf Try.prog) 125 4 = some (4, 1, false) := by kernel_rfl
theorem fa125_5 : fieldAt (tiOf Try.prog) 125 5 = some (5, 1, false) := by kernel_rfl
theorem fa125_6 : fieldAt (tiOf Try.prog) 125 6 = some (6, 1, false) := by kernel_rfl
theorem fa125_7 : fieldAt (tiOf Try.prog) 125 7 = some (7, 1, false) := by kernel_rfl
theorem fa125_8 : fieldAt (tiOf Try.prog) 125 8 = some (8, 1, false) := by kernel_rfl
theorem fa125_9 : fieldAt (tiOf Try.prog) 125 9 = some (9, 1, false) := by kernel_rfl
theorem fa125_10 : fieldAt (tiOf Try.prog) 125 10 = some (10, 1, false) := by kernel_rfl
theorem mixed0 : Try.prog.follows .mixedOrders = true := by kernel_rfl
theorem names0 : namesOk Try.prog = true := by kernel_rfl
def preAx : Ax := (fun _ => none)
theorem preAx_ok : AxOk Try.prog preAx := (axOk_none _)
def inlF : List TD → Option (Kind × List TD) := fun _ => none
def inlAx : Ax := (addAx (addAx preAx 33 inlF) 60 inlF)
theorem inlAx_ok : AxOk Try.prog inlAx := (axOk_add (axOk_add preAx_ok fun vs kind rs h => by simp [inlF] at h) fun vs kind rs h => by simp [inlF] at h)
noncomputable def E0 : Env := envOf Try.prog inlAx
theorem E0_ok : E0.Ok := envOf_ok mixed0 names0 inlAx_ok
theorem live0 : (callers E0 300 60).1 11 [] = some (.fresh, [.one (.v (.bool true))]) := by kernel_rfl
def liveF : List TD → Option (Kind × List TD)
  | [] => some (.fresh, [.one (.v (.bool true))])
  | _ => none
def liveAx : Ax := addAx inlAx 11 liveF
noncomputable def E1 : Env := envOf Try.prog liveAx
theorem E1_ok : E1.Ok := envOf_ok mixed0 names0 (axOk_add inlAx_ok fun vs kind rs h => by
  unfold liveF at h
  split at h
  · simp only [Option.some.injEq, Prod.mk.injEq] at h
    obtain ⟨rfl, rfl⟩ := h
    exact (callers_ok E0_ok 300 60).1 _ _ _ _ live0
  · simp at h)
theorem E1_ti : E1.ti = tiOf Try.prog := envOf_ti _ _
theorem E1_P : E1.P = Try.prog := envOf_P _ _
theorem E1_fn : E1.fn = fiOf Try.prog := envOf_fn _ _
def FL : Option Bool := some true
theorem FL_r (m : Nat) {out : Bool} (h : FL = some out) : RunsP E1 (m + 1) 11 [] (.fresh, [.one (bT out)]) := by
  obtain rfl := Option.some.inj h
  exact runsP_ax (F := liveF) rfl rfl
theorem ax33 : E1.ax 33 = some fun _ => none := rfl
theorem ax60 : E1.ax 60 = some fun _ => none := rfl
theorem ty1 : E1.ti 1 = some (⟨.func #[] #[] false, [.nilFunc], 1, 8⟩ : TI) := tz1
theorem ty2 : E1.ti 2 = some (⟨.int .i64, [.int .i64 0], 1, 8⟩ : TI) := tz2
theorem ty3 : E1.ti 3 = some (⟨.int .i64, [.int .i64 0], 1, 8⟩ : TI) := tz3
theorem ty4 : E1.ti 4 = some (⟨.bool, [.bool false], 1, 1⟩ : TI) := tz4
theorem ty5 : E1.ti 5 = some (⟨.int .u8, [.int .u8 0], 1, 1⟩ : TI) := tz5
theorem ty6 : E1.ti 6 = some (⟨.int .u8, [.int .u8 0], 1, 1⟩ : TI) := tz6
theorem ty7 : E1.ti 7 = some (⟨.struct (flds Try.prog 7), [.int .i64 0, .int .i64 0, .bool false, .int .u8 0], 4, 24⟩ : TI) := tz7
theorem ty8 : E1.ti 8 = some (⟨.struct (flds Try.prog 8), [.int .i64 0, .int .i64 0, .bool false, .int .u8 0], 4, 24⟩ : TI) := tz8
theorem ty12 : E1.ti 12 = some (⟨.int .u64, [.int .u64 0], 1, 8⟩ : TI) := tz12
theorem ty15 : E1.ti 15 = some (⟨.pointer 112, [.pointer none], 1, 8⟩ : TI) := tz15
theorem ty16 : E1.ti 16 = some (⟨.pointer 115, [.pointer none], 1, 8⟩ : TI) := tz16
theorem ty17 : E1.ti 17 = some (⟨.pointer 125, [.pointer none], 1, 8⟩ : TI) := tz17
theorem ty18 : E1.ti 18 = some (⟨.struct (flds Try.prog 18), [.pointer none], 1, 8⟩ : TI) := tz18
theorem ty19 : E1.ti 19 = some (⟨.struct (flds Try.prog 19), [.pointer none], 1, 8⟩ : TI) := tz19
theorem ty21 : E1.ti 21 = some (⟨.int .i32, [.int .i32 0], 1, 4⟩ : TI) := tz21
theorem ty22 : E1.ti 22 = some (⟨.int .i64, [.int .i64 0], 1, 8⟩ : TI) := tz22
theorem ty23 : E1.ti 23 = some (⟨.slice 57, [.slice none 0 0], 1, 24⟩ : TI) := tz23
theorem ty24 : E1.ti 24 = some (⟨.struct (flds Try.prog 24), [.int .i64 0, .slice none 0 0], 2, 32⟩ : TI) := tz24
theorem ty25 : E1.ti 25 = some (⟨.struct (flds Try.prog 25), [.int .i64 0, .slice none 0 0], 2, 32⟩ : TI) := tz25
theorem ty26 : E1.ti 26 = some (⟨.func #[25] #[25] false, [.nilFunc], 1, 8⟩ : TI) := tz26
theorem ty27 : E1.ti 27 = some (⟨.func #[] #[4] false, [.nilFunc], 1, 8⟩ : TI) := tz27
theorem ty28 : E1.ti 28 = some (⟨.int .i64, [.int .i64 0], 1, 8⟩ : TI) := tz28
theorem ty30 : E1.ti 30 = some (⟨.func #[22, 25, 25] #[25, 28] false, [.nilFunc], 1, 8⟩ : TI) := tz30
theorem ty31 : E1.ti 31 = some (⟨.func #[25, 25] #[4] false, [.nilFunc], 1, 8⟩ : TI) := tz31
theorem ty32 : E1.ti 32 = some (⟨.func #[22, 25, 25] #[4] false, [.nilFunc], 1, 8⟩ : TI) := tz32
theorem ty33 : E1.ti 33 = some (⟨.slice 61, [.slice none 0 0], 1, 24⟩ : TI) := tz33
theorem ty34 : E1.ti 34 = some (⟨.func #[25, 25] #[25, 28] false, [.nilFunc], 1, 8⟩ : TI) := tz34
theorem ty35 : E1.ti 35 = some (⟨.func #[25, 33, 4] #[25] false, [.nilFunc], 1, 8⟩ : TI) := tz35
theorem ty36 : E1.ti 36 = some (⟨.func #[25, 25, 33] #[4] false, [.nilFunc], 1, 8⟩ : TI) := tz36
theorem ty37 : E1.ti 37 = some (⟨.array 3 23, [.slice none 0 0, .slice none 0 0, .slice none 0 0], 3, 72⟩ : TI) := tz37
theorem ty38 : E1.ti 38 = some (⟨.array 3 25, [.int .i64 0, .slice none 0 0, .int .i64 0, .slice none 0 0, .int .i64 0, .slice none 0 0], 6, 96⟩ : TI) := tz38
theorem ty39 : E1.ti 39 = some (⟨.func #[5, 37] #[38] false, [.nilFunc], 1, 8⟩ : TI) := tz39
theorem ty40 : E1.ti 40 = some (⟨.func #[22] #[4] false, [.nilFunc], 1, 8⟩ : TI) := tz40
theorem ty41 : E1.ti 41 = some (⟨.func #[22, 5, 37] #[4] false, [.nilFunc], 1, 8⟩ : TI) := tz41
theorem ty42 : E1.ti 42 = some (⟨.array 2 33, [.slice none 0 0, .slice none 0 0], 2, 48⟩ : TI) := tz42
theorem ty43 : E1.ti 43 = some (⟨.func #[5, 23] #[25] false, [.nilFunc], 1, 8⟩ : TI) := tz43
theorem ty44 : E1.ti 44 = some (⟨.func #[33, 33] #[33] false, [.nilFunc], 1, 8⟩ : TI) := tz44
theorem ty45 : E1.ti 45 = some (⟨.func #[5, 23, 42] #[4] false, [.nilFunc], 1, 8⟩ : TI) := tz45
theorem ty46 : E1.ti 46 = some (⟨.array 2 23, [.slice none 0 0, .slice none 0 0], 2, 48⟩ : TI) := tz46
theorem ty47 : E1.ti 47 = some (⟨.func #[5, 46] #[4] false, [.nilFunc], 1, 8⟩ : TI) := tz47
theorem ty48 : E1.ti 48 = some (⟨.func #[5, 37] #[4] false, [.nilFunc], 1, 8⟩ : TI) := tz48
theorem ty50 : E1.ti 50 = some (⟨.func #[22, 25] #[2, 28] false, [.nilFunc], 1, 8⟩ : TI) := tz50
theorem ty51 : E1.ti 51 = some (⟨.func #[25, 52, 2] #[25] false, [.nilFunc], 1, 8⟩ : TI) := tz51
theorem ty52 : E1.ti 52 = some (⟨.int .i64, [.int .i64 0], 1, 8⟩ : TI) := tz52
theorem ty53 : E1.ti 53 = some (⟨.func #[3, 54] #[33] false, [.nilFunc], 1, 8⟩ : TI) := tz53
theorem ty54 : E1.ti 54 = some (⟨.slice 3, [.slice none 0 0], 1, 24⟩ : TI) := tz54
theorem ty55 : E1.ti 55 = some (⟨.func #[25] #[54] false, [.nilFunc], 1, 8⟩ : TI) := tz55
theorem ty56 : E1.ti 56 = some (⟨.struct (flds Try.prog 56), [.int .i64 0, .int .i64 0], 2, 16⟩ : TI) := tz56
theorem ty57 : E1.ti 57 = some (⟨.struct (flds Try.prog 57), [.int .i64 0, .int .i64 0], 2, 16⟩ : TI) := tz57
theorem ty59 : E1.ti 59 = some (⟨.func #[25] #[57, 4] false, [.nilFunc], 1, 8⟩ : TI) := tz59
theorem ty60 : E1.ti 60 = some (⟨.func #[5, 46, 2] #[4] false, [.nilFunc], 1, 8⟩ : TI) := tz60
theorem ty61 : E1.ti 61 = some (⟨.int .u64, [.int .u64 0], 1, 8⟩ : TI) := tz61
theorem ty62 : E1.ti 62 = some (⟨.func #[25, 25, 69] #[25, 28] false, [.nilFunc], 1, 8⟩ : TI) := tz62
theorem ty63 : E1.ti 63 = some (⟨.struct (flds Try.prog 63), [.int .i64 0, .int .i64 0, .int .i64 0, .bool false, .bool false], 5, 32⟩ : TI) := tz63
theorem ty64 : E1.ti 64 = some (⟨.struct (flds Try.prog 64), [.int .i64 0, .int .i64 0, .int .i64 0, .bool false, .bool false], 5, 32⟩ : TI) := tz64
theorem ty65 : E1.ti 65 = some (⟨.struct (flds Try.prog 65), [.int .i64 0, .int .u64 0], 2, 16⟩ : TI) := tz65
theorem ty66 : E1.ti 66 = some (⟨.struct (flds Try.prog 66), [.int .i64 0, .int .u64 0], 2, 16⟩ : TI) := tz66
theorem ty67 : E1.ti 67 = some (⟨.func #[22, 66, 66] #[66] false, [.nilFunc], 1, 8⟩ : TI) := tz67
theorem ty68 : E1.ti 68 = some (⟨.func #[2] #[66] false, [.nilFunc], 1, 8⟩ : TI) := tz68
theorem ty69 : E1.ti 69 = some (⟨.func #[64] #[66, 4] false, [.nilFunc], 1, 8⟩ : TI) := tz69
theorem ty71 : E1.ti 71 = some (⟨.func #[25, 3] #[2, 4] false, [.nilFunc], 1, 8⟩ : TI) := tz71
theorem ty72 : E1.ti 72 = some (⟨.func #[66] #[2, 4] false, [.nilFunc], 1, 8⟩ : TI) := tz72
theorem ty73 : E1.ti 73 = some (⟨.func #[22, 2, 2] #[66] false, [.nilFunc], 1, 8⟩ : TI) := tz73
theorem ty74 : E1.ti 74 = some (⟨.func #[23, 23] #[4] false, [.nilFunc], 1, 8⟩ : TI) := tz74
theorem ty75 : E1.ti 75 = some (⟨.func #[25, 3, 2] #[25] false, [.nilFunc], 1, 8⟩ : TI) := tz75
theorem ty76 : E1.ti 76 = some (⟨.func #[33, 3] #[4] false, [.nilFunc], 1, 8⟩ : TI) := tz76
theorem ty77 : E1.ti 77 = some (⟨.func #[22, 3, 23] #[25, 28] false, [.nilFunc], 1, 8⟩ : TI) := tz77
theorem ty78 : E1.ti 78 = some (⟨.func #[33, 3] #[61] false, [.nilFunc], 1, 8⟩ : TI) := tz78
theorem ty79 : E1.ti 79 = some (⟨.func #[22] #[2] false, [.nilFunc], 1, 8⟩ : TI) := tz79
theorem ty80 : E1.ti 80 = some (⟨.func #[22, 66] #[2, 4] false, [.nilFunc], 1, 8⟩ : TI) := tz80
theorem ty81 : E1.ti 81 = some (⟨.func #[52, 2, 2] #[4] false, [.nilFunc], 1, 8⟩ : TI) := tz81
theorem ty82 : E1.ti 82 = some (⟨.func #[3] #[33] false, [.nilFunc], 1, 8⟩ : TI) := tz82
theorem ty83 : E1.ti 83 = some (⟨.func #[33, 3] #[33] false, [.nilFunc], 1, 8⟩ : TI) := tz83
theorem ty84 : E1.ti 84 = some (⟨.func #[102] #[] false, [.nilFunc], 1, 8⟩ : TI) := tz84
theorem ty85 : E1.ti 85 = some (⟨.func #[102] #[] false, [.nilFunc], 1, 8⟩ : TI) := tz85
theorem ty86 : E1.ti 86 = some (⟨.func #[23, 23] #[85] false, [.nilFunc], 1, 8⟩ : TI) := tz86
theorem ty88 : E1.ti 88 = some (⟨.func #[66, 66] #[66] false, [.nilFunc], 1, 8⟩ : TI) := tz88
theorem ty89 : E1.ti 89 = some (⟨.func #[4] #[66] false, [.nilFunc], 1, 8⟩ : TI) := tz89
theorem ty90 : E1.ti 90 = some (⟨.int .u64, [.int .u64 0], 1, 8⟩ : TI) := tz90
theorem ty91 : E1.ti 91 = some (⟨.func #[25] #[4] false, [.nilFunc], 1, 8⟩ : TI) := tz91
theorem ty92 : E1.ti 92 = some (⟨.func #[66, 66] #[3] false, [.nilFunc], 1, 8⟩ : TI) := tz92
theorem ty93 : E1.ti 93 = some (⟨.func #[2, 2] #[66] false, [.nilFunc], 1, 8⟩ : TI) := tz93
theorem ty94 : E1.ti 94 = some (⟨.func #[3] #[61] false, [.nilFunc], 1, 8⟩ : TI) := tz94
theorem ty95 : E1.ti 95 = some (⟨.slice 97, [.slice none 0 0], 1, 24⟩ : TI) := tz95
theorem ty96 : E1.ti 96 = some (⟨.struct (flds Try.prog 96), [.int .i64 0, .int .i64 0, .int .i64 0], 3, 24⟩ : TI) := tz96
theorem ty97 : E1.ti 97 = some (⟨.struct (flds Try.prog 97), [.int .i64 0, .int .i64 0, .int .i64 0], 3, 24⟩ : TI) := tz97
theorem ty99 : E1.ti 99 = some (⟨.func #[22, 95] #[95, 28] false, [.nilFunc], 1, 8⟩ : TI) := tz99
theorem ty100 : E1.ti 100 = some (⟨.func #[3] #[3] false, [.nilFunc], 1, 8⟩ : TI) := tz100
theorem ty101 : E1.ti 101 = some (⟨.func #[33, 3, 4] #[33] false, [.nilFunc], 1, 8⟩ : TI) := tz101
theorem ty102 : E1.ti 102 = some (⟨.func #[64] #[4] false, [.nilFunc], 1, 8⟩ : TI) := tz102
theorem ty103 : E1.ti 103 = some (⟨.array 4 61, [.int .u64 0, .int .u64 0, .int .u64 0, .int .u64 0], 4, 32⟩ : TI) := tz103
theorem ty104 : E1.ti 104 = some (⟨.func #[61, 61] #[103] false, [.nilFunc], 1, 8⟩ : TI) := tz104
theorem ty105 : E1.ti 105 = some (⟨.func #[66, 3] #[66] false, [.nilFunc], 1, 8⟩ : TI) := tz105
theorem ty106 : E1.ti 106 = some (⟨.func #[66] #[66] false, [.nilFunc], 1, 8⟩ : TI) := tz106
theorem ty107 : E1.ti 107 = some (⟨.func #[3] #[4] false, [.nilFunc], 1, 8⟩ : TI) := tz107
theorem ty108 : E1.ti 108 = some (⟨.slice 66, [.slice none 0 0], 1, 24⟩ : TI) := tz108
theorem ty109 : E1.ti 109 = some (⟨.func #[97, 97] #[4] false, [.nilFunc], 1, 8⟩ : TI) := tz109
theorem ty110 : E1.ti 110 = some (⟨.func #[] #[9] false, [.nilFunc], 1, 8⟩ : TI) := tz110
theorem ty113 : E1.ti 113 = some (⟨.array 0 16, [], 0, 0⟩ : TI) := tz113
theorem ty114 : E1.ti 114 = some (⟨.struct (flds Try.prog 114), [], 0, 0⟩ : TI) := tz114
theorem ty115 : E1.ti 115 = some (⟨.struct (flds Try.prog 115), [], 0, 0⟩ : TI) := tz115
theorem ty116 : E1.ti 116 = some (⟨.func #[] #[3] false, [.nilFunc], 1, 8⟩ : TI) := tz116
theorem ty117 : E1.ti 117 = some (⟨.int .u32, [.int .u32 0], 1, 4⟩ : TI) := tz117
theorem ty118 : E1.ti 118 = some (⟨.int .u8, [.int .u8 0], 1, 1⟩ : TI) := tz118
theorem ty119 : E1.ti 119 = some (⟨.int .u8, [.int .u8 0], 1, 1⟩ : TI) := tz119
theorem ty120 : E1.ti 120 = some (⟨.func #[126, 126] #[4] false, [.nilFunc], 1, 8⟩ : TI) := tz120
theorem ty121 : E1.ti 121 = some (⟨.pointer 5, [.pointer none], 1, 8⟩ : TI) := tz121
theorem ty122 : E1.ti 122 = some (⟨.int .i32, [.int .i32 0], 1, 4⟩ : TI) := tz122
theorem ty123 : E1.ti 123 = some (⟨.int .i32, [.int .i32 0], 1, 4⟩ : TI) := tz123
theorem ty124 : E1.ti 124 = some (⟨.struct (flds Try.prog 124), [.int .u64 0, .int .u64 0, .int .u32 0, .int .u8 0, .int .u8 0, .int .u8 0, .int .u8 0, .nilFunc, .pointer none, .int .i32 0, .int .i32 0], 11, 48⟩ : TI) := tz124
theorem ty125 : E1.ti 125 = some (⟨.struct (flds Try.prog 125), [.int .u64 0, .int .u64 0, .int .u32 0, .int .u8 0, .int .u8 0, .int .u8 0, .int .u8 0, .nilFunc, .pointer none, .int .i32 0, .int .i32 0], 11, 48⟩ : TI) := tz125
end Ev
end Go.Proofs.Ytlcfdmjkbaegpaa
