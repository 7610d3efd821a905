import Derived.Test.YtjomjfjbpcafhaaDoorEvS5
import Derived.Test.YtjomjfjbpcafhaaDoorProg
import Derived.Test.YtjomjfjbpcafhaaDoorTz
namespace Go.Proofs.YtjomjfjbpcafhaaDoor
namespace Ev
open Go
set_option linter.unusedVariables false
set_option linter.unusedSimpArgs false
set_option maxRecDepth 100000
set_option maxHeartbeats 1000000
attribute [local irreducible] OpsL StL TnL WpL EndL
theorem tz1 : tiOf Tryd.prog 1 = some (⟨.func #[] #[] false, [.nilFunc], 1, 8⟩ : TI) := by kernel_rfl
theorem tz2 : tiOf Tryd.prog 2 = some (⟨.int .i64, [.int .i64 0], 1, 8⟩ : TI) := by kernel_rfl
theorem tz3 : tiOf Tryd.prog 3 = some (⟨.int .i64, [.int .i64 0], 1, 8⟩ : TI) := by kernel_rfl
theorem tz4 : tiOf Tryd.prog 4 = some (⟨.bool, [.bool false], 1, 1⟩ : TI) := by kernel_rfl
theorem tz5 : tiOf Tryd.prog 5 = some (⟨.int .u8, [.int .u8 0], 1, 1⟩ : TI) := by kernel_rfl
theorem tz6 : tiOf Tryd.prog 6 = some (⟨.int .u8, [.int .u8 0], 1, 1⟩ : TI) := by kernel_rfl
theorem tz7 : tiOf Tryd.prog 7 = some (⟨.struct (flds Tryd.prog 7), [.int .i64 0, .int .i64 0, .bool false, .int .u8 0], 4, 24⟩ : TI) := by kernel_rfl
theorem fo7_0 : fieldOf (⟨.struct (flds Tryd.prog 7), [.int .i64 0, .int .i64 0, .bool false, .int .u8 0], 4, 24⟩ : TI) 0 = some (fld Tryd.prog 7 0) := by kernel_rfl
theorem ft7_0 : (fld Tryd.prog 7 0).type = 2 := by kernel_rfl
theorem fp7_0 : (fld Tryd.prog 7 0).offset = 0 := by kernel_rfl
theorem fo7_1 : fieldOf (⟨.struct (flds Tryd.prog 7), [.int .i64 0, .int .i64 0, .bool false, .int .u8 0], 4, 24⟩ : TI) 1 = some (fld Tryd.prog 7 1) := by kernel_rfl
theorem ft7_1 : (fld Tryd.prog 7 1).type = 3 := by kernel_rfl
theorem fp7_1 : (fld Tryd.prog 7 1).offset = 1 := by kernel_rfl
theorem fo7_2 : fieldOf (⟨.struct (flds Tryd.prog 7), [.int .i64 0, .int .i64 0, .bool false, .int .u8 0], 4, 24⟩ : TI) 2 = some (fld Tryd.prog 7 2) := by kernel_rfl
theorem ft7_2 : (fld Tryd.prog 7 2).type = 4 := by kernel_rfl
theorem fp7_2 : (fld Tryd.prog 7 2).offset = 2 := by kernel_rfl
theorem fo7_3 : fieldOf (⟨.struct (flds Tryd.prog 7), [.int .i64 0, .int .i64 0, .bool false, .int .u8 0], 4, 24⟩ : TI) 3 = some (fld Tryd.prog 7 3) := by kernel_rfl
theorem ft7_3 : (fld Tryd.prog 7 3).type = 6 := by kernel_rfl
theorem fp7_3 : (fld Tryd.prog 7 3).offset = 3 := by kernel_rfl
theorem pl7 : places (tiOf Tryd.prog) (⟨.struct (flds Tryd.prog 7), [.int .i64 0, .int .i64 0, .bool false, .int .u8 0], 4, 24⟩ : TI) = some fun i => ([(0, 1), (1, 1), (2, 1), (3, 1)] : List (Nat × Nat))[i]? := by kernel_rfl
theorem tz8 : tiOf Tryd.prog 8 = some (⟨.struct (flds Tryd.prog 8), [.int .i64 0, .int .i64 0, .bool false, .int .u8 0], 4, 24⟩ : TI) := by kernel_rfl
theorem fo8_0 : fieldOf (⟨.struct (flds Tryd.prog 8), [.int .i64 0, .int .i64 0, .bool false, .int .u8 0], 4, 24⟩ : TI) 0 = some (fld Tryd.prog 8 0) := by kernel_rfl
theorem ft8_0 : (fld Tryd.prog 8 0).type = 2 := by kernel_rfl
theorem fp8_0 : (fld Tryd.prog 8 0).offset = 0 := by kernel_rfl
theorem fo8_1 : fieldOf (⟨.struct (flds Tryd.prog 8), [.int .i64 0, .int .i64 0, .bool false, .int .u8 0], 4, 24⟩ : TI) 1 = some (fld Tryd.prog 8 1) := by kernel_rfl
theorem ft8_1 : (fld Tryd.prog 8 1).type = 3 := by kernel_rfl
theorem fp8_1 : (fld Tryd.prog 8 1).offset = 1 := by kernel_rfl
theorem fo8_2 : fieldOf (⟨.struct (flds Tryd.prog 8), [.int .i64 0, .int .i64 0, .bool false, .int .u8 0], 4, 24⟩ : TI) 2 = some (fld Tryd.prog 8 2) := by kernel_rfl
theorem ft8_2 : (fld Tryd.prog 8 2).type = 4 := by kernel_rfl
theorem fp8_2 : (fld Tryd.prog 8 2).offset = 2 := by kernel_rfl
theorem fo8_3 : fieldOf (⟨.struct (flds Tryd.prog 8), [.int .i64 0, .int .i64 0, .bool false, .int .u8 0], 4, 24⟩ : TI) 3 = some (fld Tryd.prog 8 3) := by kernel_rfl
theorem ft8_3 : (fld Tryd.prog 8 3).type = 6 := by kernel_rfl
theorem fp8_3 : (fld Tryd.prog 8 3).offset = 3 := by kernel_rfl
theorem pl8 : places (tiOf Tryd.prog) (⟨.struct (flds Tryd.prog 8), [.int .i64 0, .int .i64 0, .bool false, .int .u8 0], 4, 24⟩ : TI) = some fun i => ([(0, 1), (1, 1), (2, 1), (3, 1)] : List (Nat × Nat))[i]? := by kernel_rfl
theorem tz12 : tiOf Tryd.prog 12 = some (⟨.int .u64, [.int .u64 0], 1, 8⟩ : TI) := by kernel_rfl
theorem ft13_0 : (fld Tryd.prog 13 0).type = 9 := by kernel_rfl
theorem fp13_0 : (fld Tryd.prog 13 0).offset = 0 := by kernel_rfl
theorem ft13_1 : (fld Tryd.prog 13 1).type = 12 := by kernel_rfl
theorem fp13_1 : (fld Tryd.prog 13 1).offset = 1 := by kernel_rfl
theorem ft14_0 : (fld Tryd.prog 14 0).type = 9 := by kernel_rfl
theorem fp14_0 : (fld Tryd.prog 14 0).offset = 0 := by kernel_rfl
theorem ft14_1 : (fld Tryd.prog 14 1).type = 12 := by kernel_rfl
theorem fp14_1 : (fld Tryd.prog 14 1).offset = 1 := by kernel_rfl
theorem tz15 : tiOf Tryd.prog 15 = some (⟨.pointer 129, [.pointer none], 1, 8⟩ : TI) := by kernel_rfl
theorem tz16 : tiOf Tryd.prog 16 = some (⟨.pointer 132, [.pointer none], 1, 8⟩ : TI) := by kernel_rfl
theorem tz17 : tiOf Tryd.prog 17 = some (⟨.pointer 142, [.pointer none], 1, 8⟩ : TI) := by kernel_rfl
theorem tz18 : tiOf Tryd.prog 18 = some (⟨.struct (flds Tryd.prog 18), [.pointer none], 1, 8⟩ : TI) := by kernel_rfl
theorem fo18_0 : fieldOf (⟨.struct (flds Tryd.prog 18), [.pointer none], 1, 8⟩ : TI) 0 = some (fld Tryd.prog 18 0) := by kernel_rfl
theorem ft18_0 : (fld Tryd.prog 18 0).type = 17 := by kernel_rfl
theorem fp18_0 : (fld Tryd.prog 18 0).offset = 0 := by kernel_rfl
theorem pl18 : places (tiOf Tryd.prog) (⟨.struct (flds Tryd.prog 18), [.pointer none], 1, 8⟩ : TI) = some fun i => ([(0, 1)] : List (Nat × Nat))[i]? := by kernel_rfl
theorem tz19 : tiOf Tryd.prog 19 = some (⟨.struct (flds Tryd.prog 19), [.pointer none], 1, 8⟩ : TI) := by kernel_rfl
theorem fo19_0 : fieldOf (⟨.struct (flds Tryd.prog 19), [.pointer none], 1, 8⟩ : TI) 0 = some (fld Tryd.prog 19 0) := by kernel_rfl
theorem ft19_0 : (fld Tryd.prog 19 0).type = 17 := by kernel_rfl
theorem fp19_0 : (fld Tryd.prog 19 0).offset = 0 := by kernel_rfl
theorem pl19 : places (tiOf Tryd.prog) (⟨.struct (flds Tryd.prog 19), [.pointer none], 1, 8⟩ : TI) = some fun i => ([(0, 1)] : List (Nat × Nat))[i]? := by kernel_rfl
theorem tz21 : tiOf Tryd.prog 21 = some (⟨.int .i32, [.int .i32 0], 1, 4⟩ : TI) := by kernel_rfl
theorem tz22 : tiOf Tryd.prog 22 = some (⟨.slice 85, [.slice none 0 0], 1, 24⟩ : TI) := by kernel_rfl
theorem tz23 : tiOf Tryd.prog 23 = some (⟨.slice 2, [.slice none 0 0], 1, 24⟩ : TI) := by kernel_rfl
theorem tz24 : tiOf Tryd.prog 24 = some (⟨.struct (flds Tryd.prog 24), [.int .i64 0, .slice none 0 0, .slice none 0 0], 3, 56⟩ : TI) := by kernel_rfl
theorem fo24_0 : fieldOf (⟨.struct (flds Tryd.prog 24), [.int .i64 0, .slice none 0 0, .slice none 0 0], 3, 56⟩ : TI) 0 = some (fld Tryd.prog 24 0) := by kernel_rfl
theorem ft24_0 : (fld Tryd.prog 24 0).type = 3 := by kernel_rfl
theorem fp24_0 : (fld Tryd.prog 24 0).offset = 0 := by kernel_rfl
theorem fo24_1 : fieldOf (⟨.struct (flds Tryd.prog 24), [.int .i64 0, .slice none 0 0, .slice none 0 0], 3, 56⟩ : TI) 1 = some (fld Tryd.prog 24 1) := by kernel_rfl
theorem ft24_1 : (fld Tryd.prog 24 1).type = 22 := by kernel_rfl
theorem fp24_1 : (fld Tryd.prog 24 1).offset = 1 := by kernel_rfl
theorem fo24_2 : fieldOf (⟨.struct (flds Tryd.prog 24), [.int .i64 0, .slice none 0 0, .slice none 0 0], 3, 56⟩ : TI) 2 = some (fld Tryd.prog 24 2) := by kernel_rfl
theorem ft24_2 : (fld Tryd.prog 24 2).type = 23 := by kernel_rfl
theorem fp24_2 : (fld Tryd.prog 24 2).offset = 2 := by kernel_rfl
theorem pl24 : places (tiOf Tryd.prog) (⟨.struct (flds Tryd.prog 24), [.int .i64 0, .slice none 0 0, .slice none 0 0], 3, 56⟩ : TI) = some fun i => ([(0, 1), (1, 1), (2, 1)] : List (Nat × Nat))[i]? := by kernel_rfl
theorem tz25 : tiOf Tryd.prog 25 = some (⟨.struct (flds Tryd.prog 25), [.int .i64 0, .slice none 0 0, .slice none 0 0], 3, 56⟩ : TI) := by kernel_rfl
theorem fo25_0 : fieldOf (⟨.struct (flds Tryd.prog 25), [.int .i64 0, .slice none 0 0, .slice none 0 0], 3, 56⟩ : TI) 0 = some (fld Tryd.prog 25 0) := by kernel_rfl
theorem ft25_0 : (fld Tryd.prog 25 0).type = 3 := by kernel_rfl
theorem fp25_0 : (fld Tryd.prog 25 0).offset = 0 := by kernel_rfl
theorem fo25_1 : fieldOf (⟨.struct (flds Tryd.prog 25), [.int .i64 0, .slice none 0 0, .slice none 0 0], 3, 56⟩ : TI) 1 = some (fld Tryd.prog 25 1) := by kernel_rfl
theorem ft25_1 : (fld Tryd.prog 25 1).type = 22 := by kernel_rfl
theorem fp25_1 : (fld Tryd.prog 25 1).offset = 1 := by kernel_rfl
theorem fo25_2 : fieldOf (⟨.struct (flds Tryd.prog 25), [.int .i64 0, .slice none 0 0, .slice none 0 0], 3, 56⟩ : TI) 2 = some (fld Tryd.prog 25 2) := by kernel_rfl
theorem ft25_2 : (fld Tryd.prog 25 2).type = 23 := by kernel_rfl
theorem fp25_2 : (fld Tryd.prog 25 2).offset = 2 := by kernel_rfl
theorem pl25 : places (tiOf Tryd.prog) (⟨.struct (flds Tryd.prog 25), [.int .i64 0, .slice none 0 0, .slice none 0 0], 3, 56⟩ : TI) = some fun i => ([(0, 1), (1, 1), (2, 1)] : List (Nat × Nat))[i]? := by kernel_rfl
theorem tz26 : tiOf Tryd.prog 26 = some (⟨.slice 39, [.slice none 0 0], 1, 24⟩ : TI) := by kernel_rfl
theorem tz27 : tiOf Tryd.prog 27 = some (⟨.struct (flds Tryd.prog 27), [.int .i64 0, .slice none 0 0], 2, 32⟩ : TI) := by kernel_rfl
theorem fo27_0 : fieldOf (⟨.struct (flds Tryd.prog 27), [.int .i64 0, .slice none 0 0], 2, 32⟩ : TI) 0 = some (fld Tryd.prog 27 0) := by kernel_rfl
theorem ft27_0 : (fld Tryd.prog 27 0).type = 3 := by kernel_rfl
theorem fp27_0 : (fld Tryd.prog 27 0).offset = 0 := by kernel_rfl
theorem fo27_1 : fieldOf (⟨.struct (flds Tryd.prog 27), [.int .i64 0, .slice none 0 0], 2, 32⟩ : TI) 1 = some (fld Tryd.prog 27 1) := by kernel_rfl
theorem ft27_1 : (fld Tryd.prog 27 1).type = 26 := by kernel_rfl
theorem fp27_1 : (fld Tryd.prog 27 1).offset = 1 := by kernel_rfl
theorem pl27 : places (tiOf Tryd.prog) (⟨.struct (flds Tryd.prog 27), [.int .i64 0, .slice none 0 0], 2, 32⟩ : TI) = some fun i => ([(0, 1), (1, 1)] : List (Nat × Nat))[i]? := by kernel_rfl
theorem tz28 : tiOf Tryd.prog 28 = some (⟨.struct (flds Tryd.prog 28), [.int .i64 0, .slice none 0 0], 2, 32⟩ : TI) := by kernel_rfl
theorem fo28_0 : fieldOf (⟨.struct (flds Tryd.prog 28), [.int .i64 0, .slice none 0 0], 2, 32⟩ : TI) 0 = some (fld Tryd.prog 28 0) := by kernel_rfl
theorem ft28_0 : (fld Tryd.prog 28 0).type = 3 := by kernel_rfl
theorem fp28_0 : (fld Tryd.prog 28 0).offset = 0 := by kernel_rfl
theorem fo28_1 : fieldOf (⟨.struct (flds Tryd.prog 28), [.int .i64 0, .slice none 0 0], 2, 32⟩ : TI) 1 = some (fld Tryd.prog 28 1) := by kernel_rfl
theorem ft28_1 : (fld Tryd.prog 28 1).type = 26 := by kernel_rfl
theorem fp28_1 : (fld Tryd.prog 28 1).offset = 1 := by kernel_rfl
theorem pl28 : places (tiOf Tryd.prog) (⟨.struct (flds Tryd.prog 28), [.int .i64 0, .slice none 0 0], 2, 32⟩ : TI) = some fun i => ([(0, 1), (1, 1)] : List (Nat × Nat))[i]? := by kernel_rfl
theorem tz29 : tiOf Tryd.prog 29 = some (⟨.func #[28] #[28] false, [.nilFunc], 1, 8⟩ : TI) := by kernel_rfl
theorem tz30 : tiOf Tryd.prog 30 = some (⟨.func #[] #[4] false, [.nilFunc], 1, 8⟩ : TI) := by kernel_rfl
theorem tz31 : tiOf Tryd.prog 31 = some (⟨.func #[25] #[4] false, [.nilFunc], 1, 8⟩ : TI) := by kernel_rfl
theorem tz32 : tiOf Tryd.prog 32 = some (⟨.func #[28, 28] #[4] false, [.nilFunc], 1, 8⟩ : TI) := by kernel_rfl
theorem tz33 : tiOf Tryd.prog 33 = some (⟨.func #[25] #[28] false, [.nilFunc], 1, 8⟩ : TI) := by kernel_rfl
theorem tz34 : tiOf Tryd.prog 34 = some (⟨.func #[25, 25] #[4] false, [.nilFunc], 1, 8⟩ : TI) := by kernel_rfl
theorem tz35 : tiOf Tryd.prog 35 = some (⟨.func #[28] #[25] false, [.nilFunc], 1, 8⟩ : TI) := by kernel_rfl
theorem tz36 : tiOf Tryd.prog 36 = some (⟨.func #[3] #[25] false, [.nilFunc], 1, 8⟩ : TI) := by kernel_rfl
theorem tz37 : tiOf Tryd.prog 37 = some (⟨.func #[25, 28, 3] #[4] false, [.nilFunc], 1, 8⟩ : TI) := by kernel_rfl
theorem tz38 : tiOf Tryd.prog 38 = some (⟨.struct (flds Tryd.prog 38), [.int .i64 0, .int .i64 0], 2, 16⟩ : TI) := by kernel_rfl
theorem fo38_0 : fieldOf (⟨.struct (flds Tryd.prog 38), [.int .i64 0, .int .i64 0], 2, 16⟩ : TI) 0 = some (fld Tryd.prog 38 0) := by kernel_rfl
theorem ft38_0 : (fld Tryd.prog 38 0).type = 3 := by kernel_rfl
theorem fp38_0 : (fld Tryd.prog 38 0).offset = 0 := by kernel_rfl
theorem fo38_1 : fieldOf (⟨.struct (flds Tryd.prog 38), [.int .i64 0, .int .i64 0], 2, 16⟩ : TI) 1 = some (fld Tryd.prog 38 1) := by kernel_rfl
theorem ft38_1 : (fld Tryd.prog 38 1).type = 2 := by kernel_rfl
theorem fp38_1 : (fld Tryd.prog 38 1).offset = 1 := by kernel_rfl
theorem pl38 : places (tiOf Tryd.prog) (⟨.struct (flds Tryd.prog 38), [.int .i64 0, .int .i64 0], 2, 16⟩ : TI) = some fun i => ([(0, 1), (1, 1)] : List (Nat × Nat))[i]? := by kernel_rfl
theorem tz39 : tiOf Tryd.prog 39 = some (⟨.struct (flds Tryd.prog 39), [.int .i64 0, .int .i64 0], 2, 16⟩ : TI) := by kernel_rfl
theorem fo39_0 : fieldOf (⟨.struct (flds Tryd.prog 39), [.int .i64 0, .int .i64 0], 2, 16⟩ : TI) 0 = some (fld Tryd.prog 39 0) := by kernel_rfl
theorem ft39_0 : (fld Tryd.prog 39 0).type = 3 := by kernel_rfl
theorem fp39_0 : (fld Tryd.prog 39 0).offset = 0 := by kernel_rfl
theorem fo39_1 : fieldOf (⟨.struct (flds Tryd.prog 39), [.int .i64 0, .int .i64 0], 2, 16⟩ : TI) 1 = some (fld Tryd.prog 39 1) := by kernel_rfl
theorem ft39_1 : (fld Tryd.prog 39 1).type = 2 := by kernel_rfl
theorem fp39_1 : (fld Tryd.prog 39 1).offset = 1 := by kernel_rfl
theorem pl39 : places (tiOf Tryd.prog) (⟨.struct (flds Tryd.prog 39), [.int .i64 0, .int .i64 0], 2, 16⟩ : TI) = some fun i => ([(0, 1), (1, 1)] : List (Nat × Nat))[i]? := by kernel_rfl
theorem tz40 : tiOf Tryd.prog 40 = some (⟨.array 2 39, [.int .i64 0, .int .i64 0, .int .i64 0, .int .i64 0], 4, 32⟩ : TI) := by kernel_rfl
theorem tz42 : tiOf Tryd.prog 42 = some (⟨.func #[25, 3] #[2, 4] false, [.nilFunc], 1, 8⟩ : TI) := by kernel_rfl
theorem tz43 : tiOf Tryd.prog 43 = some (⟨.func #[25, 3, 2] #[25] false, [.nilFunc], 1, 8⟩ : TI) := by kernel_rfl
theorem tz44 : tiOf Tryd.prog 44 = some (⟨.func #[25, 3] #[25] false, [.nilFunc], 1, 8⟩ : TI) := by kernel_rfl
theorem tz45 : tiOf Tryd.prog 45 = some (⟨.func #[25] #[3] false, [.nilFunc], 1, 8⟩ : TI) := by kernel_rfl
theorem tz46 : tiOf Tryd.prog 46 = some (⟨.func #[25, 22] #[25] false, [.nilFunc], 1, 8⟩ : TI) := by kernel_rfl
theorem tz47 : tiOf Tryd.prog 47 = some (⟨.func #[25, 3, 3] #[25] false, [.nilFunc], 1, 8⟩ : TI) := by kernel_rfl
theorem tz48 : tiOf Tryd.prog 48 = some (⟨.func #[25, 40, 22] #[4] false, [.nilFunc], 1, 8⟩ : TI) := by kernel_rfl
theorem tz49 : tiOf Tryd.prog 49 = some (⟨.func #[5, 26] #[28] false, [.nilFunc], 1, 8⟩ : TI) := by kernel_rfl
theorem tz50 : tiOf Tryd.prog 50 = some (⟨.func #[5, 26] #[4] false, [.nilFunc], 1, 8⟩ : TI) := by kernel_rfl
theorem tz51 : tiOf Tryd.prog 51 = some (⟨.array 3 3, [.int .i64 0, .int .i64 0, .int .i64 0], 3, 24⟩ : TI) := by kernel_rfl
theorem tz52 : tiOf Tryd.prog 52 = some (⟨.func #[28, 3] #[2, 4] false, [.nilFunc], 1, 8⟩ : TI) := by kernel_rfl
theorem tz53 : tiOf Tryd.prog 53 = some (⟨.func #[28, 3, 2] #[28] false, [.nilFunc], 1, 8⟩ : TI) := by kernel_rfl
theorem tz54 : tiOf Tryd.prog 54 = some (⟨.func #[28, 3] #[28] false, [.nilFunc], 1, 8⟩ : TI) := by kernel_rfl
theorem tz55 : tiOf Tryd.prog 55 = some (⟨.func #[28, 3, 3] #[28] false, [.nilFunc], 1, 8⟩ : TI) := by kernel_rfl
theorem tz56 : tiOf Tryd.prog 56 = some (⟨.func #[5, 26, 51] #[4] false, [.nilFunc], 1, 8⟩ : TI) := by kernel_rfl
theorem tz57 : tiOf Tryd.prog 57 = some (⟨.func #[22, 3] #[22] false, [.nilFunc], 1, 8⟩ : TI) := by kernel_rfl
theorem tz58 : tiOf Tryd.prog 58 = some (⟨.func #[5, 26, 22] #[4] false, [.nilFunc], 1, 8⟩ : TI) := by kernel_rfl
theorem tz59 : tiOf Tryd.prog 59 = some (⟨.array 2 5, [.int .u8 0, .int .u8 0], 2, 2⟩ : TI) := by kernel_rfl
theorem tz60 : tiOf Tryd.prog 60 = some (⟨.int .i64, [.int .i64 0], 1, 8⟩ : TI) := by kernel_rfl
theorem tz62 : tiOf Tryd.prog 62 = some (⟨.func #[92] #[28, 60] true, [.nilFunc], 1, 8⟩ : TI) := by kernel_rfl
theorem tz63 : tiOf Tryd.prog 63 = some (⟨.func #[3, 2] #[28] false, [.nilFunc], 1, 8⟩ : TI) := by kernel_rfl
theorem tz64 : tiOf Tryd.prog 64 = some (⟨.func #[5, 26, 59] #[4] false, [.nilFunc], 1, 8⟩ : TI) := by kernel_rfl
theorem tz65 : tiOf Tryd.prog 65 = some (⟨.func #[22, 3] #[4] false, [.nilFunc], 1, 8⟩ : TI) := by kernel_rfl
theorem tz66 : tiOf Tryd.prog 66 = some (⟨.func #[26, 26] #[4] false, [.nilFunc], 1, 8⟩ : TI) := by kernel_rfl
theorem tz67 : tiOf Tryd.prog 67 = some (⟨.func #[25] #[25] false, [.nilFunc], 1, 8⟩ : TI) := by kernel_rfl
theorem tz68 : tiOf Tryd.prog 68 = some (⟨.func #[98] #[] false, [.nilFunc], 1, 8⟩ : TI) := by kernel_rfl
theorem tz69 : tiOf Tryd.prog 69 = some (⟨.func #[98] #[] false, [.nilFunc], 1, 8⟩ : TI) := by kernel_rfl
theorem tz70 : tiOf Tryd.prog 70 = some (⟨.func #[25] #[69] false, [.nilFunc], 1, 8⟩ : TI) := by kernel_rfl
theorem tz71 : tiOf Tryd.prog 71 = some (⟨.slice 3, [.slice none 0 0], 1, 24⟩ : TI) := by kernel_rfl
theorem tz72 : tiOf Tryd.prog 72 = some (⟨.func #[22] #[71] false, [.nilFunc], 1, 8⟩ : TI) := by kernel_rfl
theorem tz73 : tiOf Tryd.prog 73 = some (⟨.func #[22, 22] #[4] false, [.nilFunc], 1, 8⟩ : TI) := by kernel_rfl
theorem tz74 : tiOf Tryd.prog 74 = some (⟨.func #[23, 23] #[4] false, [.nilFunc], 1, 8⟩ : TI) := by kernel_rfl
theorem tz75 : tiOf Tryd.prog 75 = some (⟨.func #[28] #[4] false, [.nilFunc], 1, 8⟩ : TI) := by kernel_rfl
theorem tz76 : tiOf Tryd.prog 76 = some (⟨.func #[3, 71] #[22] true, [.nilFunc], 1, 8⟩ : TI) := by kernel_rfl
theorem tz77 : tiOf Tryd.prog 77 = some (⟨.func #[28] #[71] false, [.nilFunc], 1, 8⟩ : TI) := by kernel_rfl
theorem tz78 : tiOf Tryd.prog 78 = some (⟨.func #[3, 71] #[22] false, [.nilFunc], 1, 8⟩ : TI) := by kernel_rfl
theorem tz79 : tiOf Tryd.prog 79 = some (⟨.func #[3] #[22] false, [.nilFunc], 1, 8⟩ : TI) := by kernel_rfl
theorem tz80 : tiOf Tryd.prog 80 = some (⟨.func #[22] #[3] false, [.nilFunc], 1, 8⟩ : TI) := by kernel_rfl
theorem tz81 : tiOf Tryd.prog 81 = some (⟨.func #[22, 22] #[22] false, [.nilFunc], 1, 8⟩ : TI) := by kernel_rfl
theorem tz82 : tiOf Tryd.prog 82 = some (⟨.func #[22, 3, 3] #[22] false, [.nilFunc], 1, 8⟩ : TI) := by kernel_rfl
theorem tz83 : tiOf Tryd.prog 83 = some (⟨.func #[84, 3, 26] #[28, 60] false, [.nilFunc], 1, 8⟩ : TI) := by kernel_rfl
theorem tz84 : tiOf Tryd.prog 84 = some (⟨.int .i64, [.int .i64 0], 1, 8⟩ : TI) := by kernel_rfl
theorem tz85 : tiOf Tryd.prog 85 = some (⟨.int .u64, [.int .u64 0], 1, 8⟩ : TI) := by kernel_rfl
theorem tz87 : tiOf Tryd.prog 87 = some (⟨.func #[28, 3] #[3, 4] false, [.nilFunc], 1, 8⟩ : TI) := by kernel_rfl
theorem tz88 : tiOf Tryd.prog 88 = some (⟨.func #[26] #[26] false, [.nilFunc], 1, 8⟩ : TI) := by kernel_rfl
theorem tz89 : tiOf Tryd.prog 89 = some (⟨.func #[26, 3, 26] #[26] true, [.nilFunc], 1, 8⟩ : TI) := by kernel_rfl
theorem tz90 : tiOf Tryd.prog 90 = some (⟨.func #[26, 3, 3] #[26] false, [.nilFunc], 1, 8⟩ : TI) := by kernel_rfl
theorem tz91 : tiOf Tryd.prog 91 = some (⟨.func #[26, 3] #[26] false, [.nilFunc], 1, 8⟩ : TI) := by kernel_rfl
theorem tz92 : tiOf Tryd.prog 92 = some (⟨.slice 28, [.slice none 0 0], 1, 24⟩ : TI) := by kernel_rfl
theorem tz93 : tiOf Tryd.prog 93 = some (⟨.func #[3] #[4] false, [.nilFunc], 1, 8⟩ : TI) := by kernel_rfl
theorem tz94 : tiOf Tryd.prog 94 = some (⟨.func #[3] #[3] false, [.nilFunc], 1, 8⟩ : TI) := by kernel_rfl
theorem tz95 : tiOf Tryd.prog 95 = some (⟨.func #[22, 3] #[3] false, [.nilFunc], 1, 8⟩ : TI) := by kernel_rfl
theorem tz96 : tiOf Tryd.prog 96 = some (⟨.func #[3] #[85] false, [.nilFunc], 1, 8⟩ : TI) := by kernel_rfl
theorem tz97 : tiOf Tryd.prog 97 = some (⟨.int .u64, [.int .u64 0], 1, 8⟩ : TI) := by kernel_rfl
theorem tz98 : tiOf Tryd.prog 98 = some (⟨.func #[3, 2] #[4] false, [.nilFunc], 1, 8⟩ : TI) := by kernel_rfl
theorem tz99 : tiOf Tryd.prog 99 = some (⟨.func #[22] #[22] false, [.nilFunc], 1, 8⟩ : TI) := by kernel_rfl
theorem tz100 : tiOf Tryd.prog 100 = some (⟨.func #[85] #[3] false, [.nilFunc], 1, 8⟩ : TI) := by kernel_rfl
theorem tz101 : tiOf Tryd.prog 101 = some (⟨.func #[22, 22, 3, 102] #[22] false, [.nilFunc], 1, 8⟩ : TI) := by kernel_rfl
theorem tz102 : tiOf Tryd.prog 102 = some (⟨.func #[85, 85] #[85] false, [.nilFunc], 1, 8⟩ : TI) := by kernel_rfl
theorem tz103 : tiOf Tryd.prog 103 = some (⟨.func #[93] #[] false, [.nilFunc], 1, 8⟩ : TI) := by kernel_rfl
theorem tz104 : tiOf Tryd.prog 104 = some (⟨.func #[93] #[] false, [.nilFunc], 1, 8⟩ : TI) := by kernel_rfl
theorem tz105 : tiOf Tryd.prog 105 = some (⟨.func #[22] #[104] false, [.nilFunc], 1, 8⟩ : TI) := by kernel_rfl
theorem tz106 : tiOf Tryd.prog 106 = some (⟨.func #[84] #[4] false, [.nilFunc], 1, 8⟩ : TI) := by kernel_rfl
theorem tz107 : tiOf Tryd.prog 107 = some (⟨.slice 109, [.slice none 0 0], 1, 24⟩ : TI) := by kernel_rfl
theorem tz108 : tiOf Tryd.prog 108 = some (⟨.struct (flds Tryd.prog 108), [.int .i64 0, .int .i64 0, .int .i64 0], 3, 24⟩ : TI) := by kernel_rfl
theorem fo108_0 : fieldOf (⟨.struct (flds Tryd.prog 108), [.int .i64 0, .int .i64 0, .int .i64 0], 3, 24⟩ : TI) 0 = some (fld Tryd.prog 108 0) := by kernel_rfl
theorem ft108_0 : (fld Tryd.prog 108 0).type = 3 := by kernel_rfl
theorem fp108_0 : (fld Tryd.prog 108 0).offset = 0 := by kernel_rfl
theorem fo108_1 : fieldOf (⟨.struct (flds Tryd.prog 108), [.int .i64 0, .int .i64 0, .int .i64 0], 3, 24⟩ : TI) 1 = some (fld Tryd.prog 108 1) := by kernel_rfl
theorem ft108_1 : (fld Tryd.prog 108 1).type = 3 := by kernel_rfl
theorem fp108_1 : (fld Tryd.prog 108 1).offset = 1 := by kernel_rfl
theorem fo108_2 : fieldOf (⟨.struct (flds Tryd.prog 108), [.int .i64 0, .int .i64 0, .int .i64 0], 3, 24⟩ : TI) 2 = some (fld Tryd.prog 108 2) := by kernel_rfl
theorem ft108_2 : (fld Tryd.prog 108 2).type = 2 := by kernel_rfl
theorem fp108_2 : (fld Tryd.prog 108 2).offset = 2 := by kernel_rfl
theorem pl108 : places (tiOf Tryd.prog) (⟨.struct (flds Tryd.prog 108), [.int .i64 0, .int .i64 0, .int .i64 0], 3, 24⟩ : TI) = some fun i => ([(0, 1), (1, 1), (2, 1)] : List (Nat × Nat))[i]? := by kernel_rfl
theorem tz109 : tiOf Tryd.prog 109 = some (⟨.struct (flds Tryd.prog 109), [.int .i64 0, .int .i64 0, .int .i64 0], 3, 24⟩ : TI) := by kernel_rfl
theorem fo109_0 : fieldOf (⟨.struct (flds Tryd.prog 109), [.int .i64 0, .int .i64 0, .int .i64 0], 3, 24⟩ : TI) 0 = some (fld Tryd.prog 109 0) := by kernel_rfl
theorem ft109_0 : (fld Tryd.prog 109 0).type = 3 := by kernel_rfl
theorem fp109_0 : (fld Tryd.prog 109 0).offset = 0 := by kernel_rfl
theorem fo109_1 : fieldOf (⟨.struct (flds Tryd.prog 109), [.int .i64 0, .int .i64 0, .int .i64 0], 3, 24⟩ : TI) 1 = some (fld Tryd.prog 109 1) := by kernel_rfl
theorem ft109_1 : (fld Tryd.prog 109 1).type = 3 := by kernel_rfl
theorem fp109_1 : (fld Tryd.prog 109 1).offset = 1 := by kernel_rfl
theorem fo109_2 : fieldOf (⟨.struct (flds Tryd.prog 109), [.int .i64 0, .int .i64 0, .int .i64 0], 3, 24⟩ : TI) 2 = some (fld Tryd.prog 109 2) := by kernel_rfl
theorem ft109_2 : (fld Tryd.prog 109 2).type = 2 := by kernel_rfl
theorem fp109_2 : (fld Tryd.prog 109 2).offset = 2 := by kernel_rfl
theorem pl109 : places (tiOf Tryd.prog) (⟨.struct (flds Tryd.prog 109), [.int .i64 0, .int .i64 0, .int .i64 0], 3, 24⟩ : TI) = some fun i => ([(0, 1), (1, 1), (2, 1)] : List (Nat × Nat))[i]? := by kernel_rfl
theorem tz111 : tiOf Tryd.prog 111 = some (⟨.func #[84, 107] #[107, 60] false, [.nilFunc], 1, 8⟩ : TI) := by kernel_rfl
theorem tz112 : tiOf Tryd.prog 112 = some (⟨.func #[3, 93] #[3] false, [.nilFunc], 1, 8⟩ : TI) := by kernel_rfl
theorem tz113 : tiOf Tryd.prog 113 = some (⟨.func #[26, 3] #[] false, [.nilFunc], 1, 8⟩ : TI) := by kernel_rfl
theorem tz114 : tiOf Tryd.prog 114 = some (⟨.func #[22, 3, 4] #[22] false, [.nilFunc], 1, 8⟩ : TI) := by kernel_rfl
theorem tz115 : tiOf Tryd.prog 115 = some (⟨.slice 118, [.slice none 0 0], 1, 24⟩ : TI) := by kernel_rfl
theorem tz116 : tiOf Tryd.prog 116 = some (⟨.func #[109, 109] #[4] false, [.nilFunc], 1, 8⟩ : TI) := by kernel_rfl
theorem tz117 : tiOf Tryd.prog 117 = some (⟨.struct (flds Tryd.prog 117), [.int .i64 0, .int .u64 0], 2, 16⟩ : TI) := by kernel_rfl
theorem fo117_0 : fieldOf (⟨.struct (flds Tryd.prog 117), [.int .i64 0, .int .u64 0], 2, 16⟩ : TI) 0 = some (fld Tryd.prog 117 0) := by kernel_rfl
theorem ft117_0 : (fld Tryd.prog 117 0).type = 2 := by kernel_rfl
theorem fp117_0 : (fld Tryd.prog 117 0).offset = 0 := by kernel_rfl
theorem fo117_1 : fieldOf (⟨.struct (flds Tryd.prog 117), [.int .i64 0, .int .u64 0], 2, 16⟩ : TI) 1 = some (fld Tryd.prog 117 1) := by kernel_rfl
theorem ft117_1 : (fld Tryd.prog 117 1).type = 85 := by kernel_rfl
theorem fp117_1 : (fld Tryd.prog 117 1).offset = 1 := by kernel_rfl
theorem pl117 : places (tiOf Tryd.prog) (⟨.struct (flds Tryd.prog 117), [.int .i64 0, .int .u64 0], 2, 16⟩ : TI) = some fun i => ([(0, 1), (1, 1)] : List (Nat × Nat))[i]? := by kernel_rfl
theorem tz118 : tiOf Tryd.prog 118 = some (⟨.struct (flds Tryd.prog 118), [.int .i64 0, .int .u64 0], 2, 16⟩ : TI) := by kernel_rfl
theorem fo118_0 : fieldOf (⟨.struct (flds Tryd.prog 118), [.int .i64 0, .int .u64 0], 2, 16⟩ : TI) 0 = some (fld Tryd.prog 118 0) := by kernel_rfl
theorem ft118_0 : (fld Tryd.prog 118 0).type = 2 := by kernel_rfl
theorem fp118_0 : (fld Tryd.prog 118 0).offset = 0 := by kernel_rfl
theorem fo118_1 : fieldOf (⟨.struct (flds Tryd.prog 118), [.int .i64 0, .int .u64 0], 2, 16⟩ : TI) 1 = some (fld Tryd.prog 118 1) := by kernel_rfl
theorem ft118_1 : (fld Tryd.prog 118 1).type = 85 := by kernel_rfl
theorem fp118_1 : (fld Tryd.prog 118 1).offset = 1 := by kernel_rfl
theorem pl118 : places (tiOf Tryd.prog) (⟨.struct (flds Tryd.prog 118), [.int .i64 0, .int .u64 0], 2, 16⟩ : TI) = some fun i => ([(0, 1), (1, 1)] : List (Nat × Nat))[i]? := by kernel_rfl
theorem tz119 : tiOf Tryd.prog 119 = some (⟨.func #[2] #[118] false, [.nilFunc], 1, 8⟩ : TI) := by kernel_rfl
theorem tz120 : tiOf Tryd.prog 120 = some (⟨.func #[84, 118, 118] #[118] false, [.nilFunc], 1, 8⟩ : TI) := by kernel_rfl
theorem tz121 : tiOf Tryd.prog 121 = some (⟨.func #[118] #[2, 4] false, [.nilFunc], 1, 8⟩ : TI) := by kernel_rfl
theorem tz122 : tiOf Tryd.prog 122 = some (⟨.array 64 5, [.int .u8 0, .int .u8 0, .int .u8 0, .int .u8 0, .int .u8 0, .int .u8 0, .int .u8 0, .int .u8 0, .int .u8 0, .int .u8 0, .int .u8 0, .int .u8 0, .int .u8 0, .int .u8 0, .int .u8 0, .int .u8 0, .int .u8 0, .int .u8 0, .int .u8 0, .int .u8 0, .int .u8 0, .int .u8 0, .int .u8 0, .int .u8 0, .int .u8 0, .int .u8 0, .int .u8 0, .int .u8 0, .int .u8 0, .int .u8 0, .int .u8 0, .int .u8 0, .int .u8 0, .int .u8 0, .int .u8 0, .int .u8 0, .int .u8 0, .int .u8 0, .int .u8 0, .int .u8 0, .int .u8 0, .int .u8 0, .int .u8 0, .int .u8 0, .int .u8 0, .int .u8 0, .int .u8 0, .int .u8 0, .int .u8 0, .int .u8 0, .int .u8 0, .int .u8 0, .int .u8 0, .int .u8 0, .int .u8 0, .int .u8 0, .int .u8 0, .int .u8 0, .int .u8 0, .int .u8 0, .int .u8 0, .int .u8 0, .int .u8 0, .int .u8 0], 64, 64⟩ : TI) := by kernel_rfl
theorem tz123 : tiOf Tryd.prog 123 = some (⟨.func #[118, 118] #[3] false, [.nilFunc], 1, 8⟩ : TI) := by kernel_rfl
theorem tz124 : tiOf Tryd.prog 124 = some (⟨.func #[4] #[118] false, [.nilFunc], 1, 8⟩ : TI) := by kernel_rfl
theorem tz125 : tiOf Tryd.prog 125 = some (⟨.func #[118, 118] #[118] false, [.nilFunc], 1, 8⟩ : TI) := by kernel_rfl
theorem tz126 : tiOf Tryd.prog 126 = some (⟨.func #[26] #[] false, [.nilFunc], 1, 8⟩ : TI) := by kernel_rfl
theorem tz127 : tiOf Tryd.prog 127 = some (⟨.func #[] #[9] false, [.nilFunc], 1, 8⟩ : TI) := by kernel_rfl
theorem ft128_0 : (fld Tryd.prog 128 0).type = 17 := by kernel_rfl
theorem fp128_0 : (fld Tryd.prog 128 0).offset = 0 := by kernel_rfl
theorem ft128_1 : (fld Tryd.prog 128 1).type = 17 := by kernel_rfl
theorem fp128_1 : (fld Tryd.prog 128 1).offset = 1 := by kernel_rfl
theorem ft128_2 : (fld Tryd.prog 128 2).type = 17 := by kernel_rfl
theorem fp128_2 : (fld Tryd.prog 128 2).offset = 2 := by kernel_rfl
theorem ft128_3 : (fld Tryd.prog 128 3).type = 9 := by kernel_rfl
theorem fp128_3 : (fld Tryd.prog 128 3).offset = 3 := by kernel_rfl
theorem ft129_0 : (fld Tryd.prog 129 0).type = 17 := by kernel_rfl
theorem fp129_0 : (fld Tryd.prog 129 0).offset = 0 := by kernel_rfl
theorem ft129_1 : (fld Tryd.prog 129 1).type = 17 := by kernel_rfl
theorem fp129_1 : (fld Tryd.prog 129 1).offset = 1 := by kernel_rfl
theorem ft129_2 : (fld Tryd.prog 129 2).type = 17 := by kernel_rfl
theorem fp129_2 : (fld Tryd.prog 129 2).offset = 2 := by kernel_rfl
theorem ft129_3 : (fld Tryd.prog 129 3).type = 9 := by kernel_rfl
theorem fp129_3 : (fld Tryd.prog 129 3).offset = 3 := by kernel_rfl
theorem tz130 : tiOf Tryd.prog 130 = some (⟨.array 0 16, [], 0, 0⟩ : TI) := by kernel_rfl
theorem tz131 : tiOf Tryd.prog 131 = some (⟨.struct (flds Tryd.prog 131), [], 0, 0⟩ : TI) := by kernel_rfl
theorem fo131_0 : fieldOf (⟨.struct (flds Tryd.prog 131), [], 0, 0⟩ : TI) 0 = some (fld Tryd.prog 131 0) := by kernel_rfl
theorem ft131_0 : (fld Tryd.prog 131 0).type = 130 := by kernel_rfl
theorem fp131_0 : (fld Tryd.prog 131 0).offset = 0 := by kernel_rfl
theorem pl131 : places (tiOf Tryd.prog) (⟨.struct (flds Tryd.prog 131), [], 0, 0⟩ : TI) = some fun i => ([(0, 0)] : List (Nat × Nat))[i]? := by kernel_rfl
theorem tz132 : tiOf Tryd.prog 132 = some (⟨.struct (flds Tryd.prog 132), [], 0, 0⟩ : TI) := by kernel_rfl
theorem fo132_0 : fieldOf (⟨.struct (flds Tryd.prog 132), [], 0, 0⟩ : TI) 0 = some (fld Tryd.prog 132 0) := by kernel_rfl
theorem ft132_0 : (fld Tryd.prog 132 0).type = 130 := by kernel_rfl
theorem fp132_0 : (fld Tryd.prog 132 0).offset = 0 := by kernel_rfl
theorem pl132 : places (tiOf Tryd.prog) (⟨.struct (flds Tryd.prog 132), [], 0, 0⟩ : TI) = some fun i => ([(0, 0)] : List (Nat × Nat))[i]? := by kernel_rfl
theorem tz133 : tiOf Tryd.prog 133 = some (⟨.func #[] #[3] false, [.nilFunc], 1, 8⟩ : TI) := by kernel_rfl
theorem tz134 : tiOf Tryd.prog 134 = some (⟨.int .u32, [.int .u32 0], 1, 4⟩ : TI) := by kernel_rfl
theorem tz135 : tiOf Tryd.prog 135 = some (⟨.int .u8, [.int .u8 0], 1, 1⟩ : TI) := by kernel_rfl
theorem tz136 : tiOf Tryd.prog 136 = some (⟨.int .u8, [.int .u8 0], 1, 1⟩ : TI) := by kernel_rfl
theorem tz137 : tiOf Tryd.prog 137 = some (⟨.func #[143, 143] #[4] false, [.nilFunc], 1, 8⟩ : TI) := by kernel_rfl
theorem tz138 : tiOf Tryd.prog 138 = some (⟨.pointer 5, [.pointer none], 1, 8⟩ : TI) := by kernel_rfl
theorem tz139 : tiOf Tryd.prog 139 = some (⟨.int .i32, [.int .i32 0], 1, 4⟩ : TI) := by kernel_rfl
theorem tz140 : tiOf Tryd.prog 140 = some (⟨.int .i32, [.int .i32 0], 1, 4⟩ : TI) := by kernel_rfl
theorem tz141 : tiOf Tryd.prog 141 = some (⟨.struct (flds Tryd.prog 141), [.int .u64 0, .int .u64 0, .int .u32 0, .int .u8 0, .int .u8 0, .int .u8 0, .int .u8 0, .nilFunc, .pointer none, .int .i32 0, .int .i32 0], 11, 48⟩ : TI) := by kernel_rfl
theorem fo141_0 : fieldOf (⟨.struct (flds Tryd.prog 141), [.int .u64 0, .int .u64 0, .int .u32 0, .int .u8 0, .int .u8 0, .int .u8 0, .int .u8 0, .nilFunc, .pointer none, .int .i32 0, .int .i32 0], 11, 48⟩ : TI) 0 = some (fld Tryd.prog 141 0) := by kernel_rfl
theorem ft141_0 : (fld Tryd.prog 141 0).type = 12 := by kernel_rfl
theorem fp141_0 : (fld Tryd.prog 141 0).offset = 0 := by kernel_rfl
theorem fo141_1 : fieldOf (⟨.struct (flds Tryd.prog 141), [.int .u64 0, .int .u64 0, .int .u32 0, .int .u8 0, .int .u8 0, .int .u8 0, .int .u8 0, .nilFunc, .pointer none, .int .i32 0, .int .i32 0], 11, 48⟩ : TI) 1 = some (fld Tryd.prog 141 1) := by kernel_rfl
theorem ft141_1 : (fld Tryd.prog 141 1).type = 12 := by kernel_rfl
theorem fp141_1 : (fld Tryd.prog 141 1).offset = 1 := by kernel_rfl
theorem fo141_2 : fieldOf (⟨.struct (flds Tryd.prog 141), [.int .u64 0, .int .u64 0, .int .u32 0, .int .u8 0, .int .u8 0, .int .u8 0, .int .u8 0, .nilFunc, .pointer none, .int .i32 0, .int .i32 0], 11, 48⟩ : TI) 2 = some (fld Tryd.prog 141 2) := by kernel_rfl
theorem ft141_2 : (fld Tryd.prog 141 2).type = 134 := by kernel_rfl
theorem fp141_2 : (fld Tryd.prog 141 2).offset = 2 := by kernel_rfl
theorem fo141_3 : fieldOf (⟨.struct (flds Tryd.prog 141), [.int .u64 0, .int .u64 0, .int .u32 0, .int .u8 0, .int .u8 0, .int .u8 0, .int .u8 0, .nilFunc, .pointer none, .int .i32 0, .int .i32 0], 11, 48⟩ : TI) 3 = some (fld Tryd.prog 141 3) := by kernel_rfl
theorem ft141_3 : (fld Tryd.prog 141 3).type = 135 := by kernel_rfl
theorem fp141_3 : (fld Tryd.prog 141 3).offset = 3 := by kernel_rfl
theorem fo141_4 : fieldOf (⟨.struct (flds Tryd.prog 141), [.int .u64 0, .int .u64 0, .int .u32 0, .int .u8 0, .int .u8 0, .int .u8 0, .int .u8 0, .nilFunc, .pointer none, .int .i32 0, .int .i32 0], 11, 48⟩ : TI) 4 = some (fld Tryd.prog 141 4) := by kernel_rfl
theorem ft141_4 : (fld Tryd.prog 141 4).type = 5 := by kernel_rfl
theorem fp141_4 : (fld Tryd.prog 141 4).offset = 4 := by kernel_rfl
theorem fo141_5 : fieldOf (⟨.struct (flds Tryd.prog 141), [.int .u64 0, .int .u64 0, .int .u32 0, .int .u8 0, .int .u8 0, .int .u8 0, .int .u8 0, .nilFunc, .pointer none, .int .i32 0, .int .i32 0], 11, 48⟩ : TI) 5 = some (fld Tryd.prog 141 5) := by kernel_rfl
theorem ft141_5 : (fld Tryd.prog 141 5).type = 5 := by kernel_rfl
theorem fp141_5 : (fld Tryd.prog 141 5).offset = 5 := by kernel_rfl
theorem fo141_6 : fieldOf (⟨.struct (flds Tryd.prog 141), [.int .u64 0, .int .u64 0, .int .u32 0, .int .u8 0, .int .u8 0, .int .u8 0, .int .u8 0, .nilFunc, .pointer none, .int .i32 0, .int .i32 0], 11, 48⟩ : TI) 6 = some (fld Tryd.prog 141 6) := by kernel_rfl
theorem ft141_6 : (fld Tryd.prog 141 6).type = 136 := by kernel_rfl
theorem fp141_6 : (fld Tryd.prog 141 6).offset = 6 := by kernel_rfl
theorem fo141_7 : fieldOf (⟨.struct (flds Tryd.prog 141), [.int .u64 0, .int .u64 0, .int .u32 0, .int .u8 0, .int .u8 0, .int .u8 0, .int .u8 0, .nilFunc, .pointer none, .int .i32 0, .int .i32 0], 11, 48⟩ : TI) 7 = some (fld Tryd.prog 141 7) := by kernel_rfl
theorem ft141_7 : (fld Tryd.prog 141 7).type = 137 := by kernel_rfl
theorem fp141_7 : (fld Tryd.prog 141 7).offset = 7 := by kernel_rfl
theorem fo141_8 : fieldOf (⟨.struct (flds Tryd.prog 141), [.int .u64 0, .int .u64 0, .int .u32 0, .int .u8 0, .int .u8 0, .int .u8 0, .int .u8 0, .nilFunc, .pointer none, .int .i32 0, .int .i32 0], 11, 48⟩ : TI) 8 = some (fld Tryd.prog 141 8) := by kernel_rfl
theorem ft141_8 : (fld Tryd.prog 141 8).type = 138 := by kernel_rfl
theorem fp141_8 : (fld Tryd.prog 141 8).offset = 8 := by kernel_rfl
theorem fo141_9 : fieldOf (⟨.struct (flds Tryd.prog 141), [.int .u64 0, .int .u64 0, .int .u32 0, .int .u8 0, .int .u8 0, .int .u8 0, .int .u8 0, .nilFunc, .pointer none, .int .i32 0, .int .i32 0], 11, 48⟩ : TI) 9 = some (fld Tryd.prog 141 9) := by kernel_rfl
theorem ft141_9 : (fld Tryd.prog 141 9).type = 139 := by kernel_rfl
theorem fp141_9 : (fld Tryd.prog 141 9).offset = 9 := by kernel_rfl
theorem fo141_10 : fieldOf (⟨.struct (flds Tryd.prog 141), [.int .u64 0, .int .u64 0, .int .u32 0, .int .u8 0, .int .u8 0, .int .u8 0, .int .u8 0, .nilFunc, .pointer none, .int .i32 0, .int .i32 0], 11, 48⟩ : TI) 10 = some (fld Tryd.prog 141 10) := by kernel_rfl
theorem ft141_10 : (fld Tryd.prog 141 10).type = 140 := by kernel_rfl
theorem fp141_10 : (fld Tryd.prog 141 10).offset = 10 := by kernel_rfl
theorem pl141 : places (tiOf Tryd.prog) (⟨.struct (flds Tryd.prog 141), [.int .u64 0, .int .u64 0, .int .u32 0, .int .u8 0, .int .u8 0, .int .u8 0, .int .u8 0, .nilFunc, .pointer none, .int .i32 0, .int .i32 0], 11, 48⟩ : TI) = some fun i => ([(0, 1), (1, 1), (2, 1), (3, 1), (4, 1), (5, 1), (6, 1), (7, 1), (8, 1), (9, 1), (10, 1)] : List (Nat × Nat))[i]? := by kernel_rfl
theorem tz142 : tiOf Tryd.prog 142 = some (⟨.struct (flds Tryd.prog 142), [.int .u64 0, .int .u64 0, .int .u32 0, .int .u8 0, .int .u8 0, .int .u8 0, .int .u8 0, .nilFunc, .pointer none, .int .i32 0, .int .i32 0], 11, 48⟩ : TI) := by kernel_rfl
theorem fo142_0 : fieldOf (⟨.struct (flds Tryd.prog 142), [.int .u64 0, .int .u64 0, .int .u32 0, .int .u8 0, .int .u8 0, .int .u8 0, .int .u8 0, .nilFunc, .pointer none, .int .i32 0, .int .i32 0], 11, 48⟩ : TI) 0 = some (fld Tryd.prog 142 0) := by kernel_rfl
theorem ft142_0 : (fld Tryd.prog 142 0).type = 12 := by kernel_rfl
theorem fp142_0 : (fld Tryd.prog 142 0).offset = 0 := by kernel_rfl
theorem fo142_1 : fieldOf (⟨.struct (flds Tryd.prog 142), [.int .u64 0, .int .u64 0, .int .u32 0, .int .u8 0, .int .u8 0, .int .u8 0, .int .u8 0, .nilFunc, .pointer none, .int .i32 0, .int .i32 0], 11, 48⟩ : TI) 1 = some (fld Tryd.prog 142 1) := by kernel_rfl
theorem ft142_1 : (fld Tryd.prog 142 1).type = 12 := by kernel_rfl
theorem fp142_1 : (fld Tryd.prog 142 1).offset = 1 := by kernel_rfl
theorem fo142_2 : fieldOf (⟨.struct (flds Tryd.prog 142), [.int .u64 0, .int .u64 0, .int .u32 0, .int .u8 0, .int .u8 0, .int .u8 0, .int .u8 0, .nilFunc, .pointer none, .int .i32 0, .int .i32 0], 11, 48⟩ : TI) 2 = some (fld Tryd.prog 142 2) := by kernel_rfl
theorem ft142_2 : (fld Tryd.prog 142 2).type = 134 := by kernel_rfl
theorem fp142_2 : (fld Tryd.prog 142 2).offset = 2 := by kernel_rfl
theorem fo142_3 : fieldOf (⟨.struct (flds Tryd.prog 142), [.int .u64 0, .int .u64 0, .int .u32 0, .int .u8 0, .int .u8 0, .int .u8 0, .int .u8 0, .nilFunc, .pointer none, .int .i32 0, .int .i32 0], 11, 48⟩ : TI) 3 = some (fld Tryd.prog 142 3) := by kernel_rfl
theorem ft142_3 : (fld Tryd.prog 142 3).type = 135 := by kernel_rfl
theorem fp142_3 : (fld Tryd.prog 142 3).offset = 3 := by kernel_rfl
theorem fo142_4 : fieldOf (⟨.struct (flds Tryd.prog 142), [.int .u64 0, .int .u64 0, .int .u32 0, .int .u8 0, .int .u8 0, .int .u8 0, .int .u8 0, .nilFunc, .pointer none, .int .i32 0, .int .i32 0], 11, 48⟩ : TI) 4 = some (fld Tryd.prog 142 4) := by kernel_rfl
theorem ft142_4 : (fld Tryd.prog 142 4).type = 5 := by kernel_rfl
theorem fp142_4 : (fld Tryd.prog 142 4).offset = 4 := by kernel_rfl
theorem fo142_5 : fieldOf (⟨.struct (flds Tryd.prog 142), [.int .u64 0, .int .u64 0, .int .u32 0, .int .u8 0, .int .u8 0, .int .u8 0, .int .u8 0, .nilFunc, .pointer none, .int .i32 0, .int .i32 0], 11, 48⟩ : TI) 5 = some (fld Tryd.prog 142 5) := by kernel_rfl
theorem ft142_5 : (fld Tryd.prog 142 5).type = 5 := by kernel_rfl
theorem fp142_5 : (fld Tryd.prog 142 5).offset = 5 := by kernel_rfl
theorem fo142_6 : fieldOf (⟨.struct (flds Tryd.prog 142), [.int .u64 0, .int .u64 0, .int .u32 0, .int .u8 0, .int .u8 0, .int .u8 0, .int .u8 0, .nilFunc, .pointer none, .int .i32 0, .int .i32 0], 11, 48⟩ : TI) 6 = some (fld Tryd.prog 142 6) := by kernel_rfl
theorem ft142_6 : (fld Tryd.prog 142 6).type = 136 := by kernel_rfl
theorem fp142_6 : (fld Tryd.prog 142 6).offset = 6 := by kernel_rfl
theorem fo142_7 : fieldOf (⟨.struct (flds Tryd.prog 142), [.int .u64 0, .int .u64 0, .int .u32 0, .int .u8 0, .int .u8 0, .int .u8 0, .int .u8 0, .nilFunc, .pointer none, .int .i32 0, .int .i32 0], 11, 48⟩ : TI) 7 = some (fld Tryd.prog 142 7) := by kernel_rfl
theorem ft142_7 : (fld Tryd.prog 142 7).type = 137 := by kernel_rfl
theorem fp142_7 : (fld Tryd.prog 142 7).offset = 7 := by kernel_rfl
theorem fo142_8 : fieldOf (⟨.struct (flds Tryd.prog 142), [.int .u64 0, .int .u64 0, .int .u32 0, .int .u8 0, .int .u8 0, .int .u8 0, .int .u8 0, .nilFunc, .pointer none, .int .i32 0, .int .i32 0], 11, 48⟩ : TI) 8 = some (fld Tryd.prog 142 8) := by kernel_rfl
theorem ft142_8 : (fld Tryd.prog 142 8).type = 138 := by kernel_rfl
theorem fp142_8 : (fld Tryd.prog 142 8).offset = 8 := by kernel_rfl
theorem fo142_9 : fieldOf (⟨.struct (flds Tryd.prog 142), [.int .u64 0, .int .u64 0, .int .u32 0, .int .u8 0, .int .u8 0, .int .u8 0, .int .u8 0, .nilFunc, .pointer none, .int .i32 0, .int .i32 0], 11, 48⟩ : TI) 9 = some (fld Tryd.prog 142 9) := by kernel_rfl
theorem ft142_9 : (fld Tryd.prog 142 9).type = 139 := by kernel_rfl
theorem fp142_9 : (fld Tryd.prog 142 9).offset = 9 := by kernel_rfl
theorem fo142_10 : fieldOf (⟨.struct (flds Tryd.prog 142), [.int .u64 0, .int .u64 0, .int .u32 0, .int .u8 0, .int .u8 0, .int .u8 0, .int .u8 0, .nilFunc, .pointer none, .int .i32 0, .int .i32 0], 11, 48⟩ : TI) 10 = some (fld Tryd.prog 142 10) := by kernel_rfl
theorem ft142_10 : (fld Tryd.prog 142 10).type = 140 := by kernel_rfl
theorem fp142_10 : (fld Tryd.prog 142 10).offset = 10 := by kernel_rfl
theorem pl142 : places (tiOf Tryd.prog) (⟨.struct (flds Tryd.prog 142), [.int .u64 0, .int .u64 0, .int .u32 0, .int .u8 0, .int .u8 0, .int .u8 0, .int .u8 0, .nilFunc, .pointer none, .int .i32 0, .int .i32 0], 11, 48⟩ : TI) = some fun i => ([(0, 1), (1, 1), (2, 1), (3, 1), (4, 1), (5, 1), (6, 1), (7, 1), (8, 1), (9, 1), (10, 1)] : List (Nat × Nat))[i]? := by kernel_rfl
theorem sz1 : sizeAt (tiOf Tryd.prog) 1 = some (1, false) := by kernel_rfl
theorem sz2 : sizeAt (tiOf Tryd.prog) 2 = some (1, false) := by kernel_rfl
theorem sz3 : sizeAt (tiOf Tryd.prog) 3 = some (1, false) := by kernel_rfl
theorem sz4 : sizeAt (tiOf Tryd.prog) 4 = some (1, false) := by kernel_rfl
theorem sz5 : sizeAt (tiOf Tryd.prog) 5 = some (1, false) := by kernel_rfl
theorem sz6 : sizeAt (tiOf Tryd.prog) 6 = some (1, false) := by kernel_rfl
theorem sz7 : sizeAt (tiOf Tryd.prog) 7 = some (4, true) := by kernel_rfl
theorem fa7_0 : fieldAt (tiOf Tryd.prog) 7 0 = some (0, 1, false) := by kernel_rfl
theorem fa7_1 : fieldAt (tiOf Tryd.prog) 7 1 = some (1, 1, false) := by kernel_rfl
theorem fa7_2 : fieldAt (tiOf Tryd.prog) 7 2 = some (2, 1, false) := by kernel_rfl
theorem fa7_3 : fieldAt (tiOf Tryd.prog) 7 3 = some (3, 1, false) := by kernel_rfl
theorem sz8 : sizeAt (tiOf Tryd.prog) 8 = some (4, true) := by kernel_rfl
theorem fa8_0 : fieldAt (tiOf Tryd.prog) 8 0 = some (0, 1, false) := by kernel_rfl
theorem fa8_1 : fieldAt (tiOf Tryd.prog) 8 1 = some (1, 1, false) := by kernel_rfl
theorem fa8_2 : fieldAt (tiOf Tryd.prog) 8 2 = some (2, 1, false) := by kernel_rfl
theorem fa8_3 : fieldAt (tiOf Tryd.prog) 8 3 = some (3, 1, false) := by kernel_rfl
theorem sz12 : sizeAt (tiOf Tryd.prog) 12 = some (1, false) := by kernel_rfl
theorem sz15 : sizeAt (tiOf Tryd.prog) 15 = some (1, false) := by kernel_rfl
theorem sz16 : sizeAt (tiOf Tryd.prog) 16 = some (1, false) := by kernel_rfl
theorem sz17 : sizeAt (tiOf Tryd.prog) 17 = some (1, false) := by kernel_rfl
theorem sz18 : sizeAt (tiOf Tryd.prog) 18 = some (1, true) := by kernel_rfl
theorem fa18_0 : fieldAt (tiOf Tryd.prog) 18 0 = some (0, 1, false) := by kernel_rfl
theorem sz19 : sizeAt (tiOf Tryd.prog) 19 = some (1, true) := by kernel_rfl
theorem fa19_0 : fieldAt (tiOf Tryd.prog) 19 0 = some (0, 1, false) := by kernel_rfl
theorem sz21 : sizeAt (tiOf Tryd.prog) 21 = some (1, false) := by kernel_rfl
theorem sz22 : sizeAt (tiOf Tryd.prog) 22 = some (1, false) := by kernel_rfl
theorem el22 : elemAt (tiOf Tryd.prog) 22 = some 1 := by kernel_rfl
theorem sz23 : sizeAt (tiOf Tryd.prog) 23 = some (1, false) := by kernel_rfl
theorem el23 : elemAt (tiOf Tryd.prog) 23 = some 1 := by kernel_rfl
theorem sz24 : sizeAt (tiOf Tryd.prog) 24 = some (3, true) := by kernel_rfl
theorem fa24_0 : fieldAt (tiOf Tryd.prog) 24 0 = some (0, 1, false) := by kernel_rfl
theorem fa24_1 : fieldAt (tiOf Tryd.prog) 24 1 = some (1, 1, false) := by kernel_rfl
theorem fa24_2 : fieldAt (tiOf Tryd.prog) 24 2 = some (2, 1, false) := by kernel_rfl
theorem sz25 : sizeAt (tiOf Tryd.prog) 25 = some (3, true) := by kernel_rfl
theorem fa25_0 : fieldAt (tiOf Tryd.prog) 25 0 = some (0, 1, false) := by kernel_rfl
theorem fa25_1 : fieldAt (tiOf Tryd.prog) 25 1 = some (1, 1, false) := by kernel_rfl
theorem fa25_2 : fieldAt (tiOf Tryd.prog) 25 2 = some (2, 1, false) := by kernel_rfl
theorem sz26 : sizeAt (tiOf Tryd.prog) 26 = some (1, false) := by kernel_rfl
theorem el26 : elemAt (tiOf Tryd.prog) 26 = some 2 := by kernel_rfl
theorem sz27 : sizeAt (tiOf Tryd.prog) 27 = some (2, true) := by kernel_rfl
theorem fa27_0 : fieldAt (tiOf Tryd.prog) 27 0 = some (0, 1, false) := by kernel_rfl
theorem fa27_1 : fieldAt (tiOf Tryd.prog) 27 1 = some (1, 1, false) := by kernel_rfl
theorem sz28 : sizeAt (tiOf Tryd.prog) 28 = some (2, true) := by kernel_rfl
theorem fa28_0 : fieldAt (tiOf Tryd.prog) 28 0 = some (0, 1, false) := by kernel_rfl
theorem fa28_1 : fieldAt (tiOf Tryd.prog) 28 1 = some (1, 1, false) := by kernel_rfl
theorem sz29 : sizeAt (tiOf Tryd.prog) 29 = some (1, false) := by kernel_rfl
theorem sz30 : sizeAt (tiOf Tryd.prog) 30 = some (1, false) := by kernel_rfl
theorem sz31 : sizeAt (tiOf Tryd.prog) 31 = some (1, false) := by kernel_rfl
theorem sz32 : sizeAt (tiOf Tryd.prog) 32 = some (1, false) := by kernel_rfl
theorem sz33 : sizeAt (tiOf Tryd.prog) 33 = some (1, false) := by kernel_rfl
theorem sz34 : sizeAt (tiOf Tryd.prog) 34 = some (1, false) := by kernel_rfl
theorem sz35 : sizeAt (tiOf Tryd.prog) 35 = some (1, false) := by kernel_rfl
theorem sz36 : sizeAt (tiOf Tryd.prog) 36 = some (1, false) := by kernel_rfl
theorem sz37 : sizeAt (tiOf Tryd.prog) 37 = some (1, false) := by kernel_rfl
theorem sz38 : sizeAt (tiOf Tryd.prog) 38 = some (2, true) := by kernel_rfl
theorem fa38_0 : fieldAt (tiOf Tryd.prog) 38 0 = some (0, 1, false) := by kernel_rfl
theorem fa38_1 : fieldAt (tiOf Tryd.prog) 38 1 = some (1, 1, false) := by kernel_rfl
theorem sz39 : sizeAt (tiOf Tryd.prog) 39 = some (2, true) := by kernel_rfl
theorem fa39_0 : fieldAt (tiOf Tryd.prog) 39 0 = some (0, 1, false) := by kernel_rfl
theorem fa39_1 : fieldAt (tiOf Tryd.prog) 39 1 = some (1, 1, false) := by kernel_rfl
theorem sz40 : sizeAt (tiOf Tryd.prog) 40 = some (4, true) := by kernel_rfl
theorem sz42 : sizeAt (tiOf Tryd.prog) 42 = some (1, false) := by kernel_rfl
theorem sz43 : sizeAt (tiOf Tryd.prog) 43 = some (1, false) := by kernel_rfl
theorem sz44 : sizeAt (tiOf Tryd.prog) 44 = some (1, false) := by kernel_rfl
theorem sz45 : sizeAt (tiOf Tryd.prog) 45 = some (1, false) := by kernel_rfl
theorem sz46 : sizeAt (tiOf Tryd.prog) 46 = some (1, false) := by kernel_rfl
theorem sz47 : sizeAt (tiOf Tryd.prog) 47 = some (1, false) := by kernel_rfl
theorem sz48 : sizeAt (tiOf Tryd.prog) 48 = some (1, false) := by kernel_rfl
theorem sz49 : sizeAt (tiOf Tryd.prog) 49 = some (1, false) := by kernel_rfl
theorem sz50 : sizeAt (tiOf Tryd.prog) 50 = some (1, false) := by kernel_rfl
theorem sz51 : sizeAt (tiOf Tryd.prog) 51 = some (3, true) := by kernel_rfl
theorem sz52 : sizeAt (tiOf Tryd.prog) 52 = some (1, false) := by kernel_rfl
theorem sz53 : sizeAt (tiOf Tryd.prog) 53 = some (1, false) := by kernel_rfl
theorem sz54 : sizeAt (tiOf Tryd.prog) 54 = some (1, false) := by kernel_rfl
theorem sz55 : sizeAt (tiOf Tryd.prog) 55 = some (1, false) := by kernel_rfl
theorem sz56 : sizeAt (tiOf Tryd.prog) 56 = some (1, false) := by kernel_rfl
theorem sz57 : sizeAt (tiOf Tryd.prog) 57 = some (1, false) := by kernel_rfl
theorem sz58 : sizeAt (tiOf Tryd.prog) 58 = some (1, false) := by kernel_rfl
theorem sz59 : sizeAt (tiOf Tryd.prog) 59 = some (2, true) := by kernel_rfl
theorem sz60 : sizeAt (tiOf Tryd.prog) 60 = some (1, false) := by kernel_rfl
theorem sz62 : sizeAt (tiOf Tryd.prog) 62 = some (1, false) := by kernel_rfl
theorem sz63 : sizeAt (tiOf Tryd.prog) 63 = some (1, false) := by kernel_rfl
theorem sz64 : sizeAt (tiOf Tryd.prog) 64 = some (1, false) := by kernel_rfl
theorem sz65 : sizeAt (tiOf Tryd.prog) 65 = some (1, false) := by kernel_rfl
theorem sz66 : sizeAt (tiOf Tryd.prog) 66 = some (1, false) := by kernel_rfl
theorem sz67 : sizeAt (tiOf Tryd.prog) 67 = some (1, false) := by kernel_rfl
theorem sz68 : sizeAt (tiOf Tryd.prog) 68 = some (1, false) := by kernel_rfl
theorem sz69 : sizeAt (tiOf Tryd.prog) 69 = some (1, false) := by kernel_rfl
theorem sz70 : sizeAt (tiOf Tryd.prog) 70 = some (1, false) := by kernel_rfl
theorem sz71 : sizeAt (tiOf Tryd.prog) 71 = some (1, false) := by kernel_rfl
theorem el71 : elemAt (tiOf Tryd.prog) 71 = some 1 := by kernel_rfl
theorem sz72 : sizeAt (tiOf Tryd.prog) 72 = some (1, false) := by kernel_rfl
theorem sz73 : sizeAt (tiOf Tryd.prog) 73 = some (1, false) := by kernel_rfl
theorem sz74 : sizeAt (tiOf Tryd.prog) 74 = some (1, false) := by kernel_rfl
theorem sz75 : sizeAt (tiOf Tryd.prog) 75 = some (1, false) := by kernel_rfl
theorem sz76 : sizeAt (tiOf Tryd.prog) 76 = some (1, false) := by kernel_rfl
theorem sz77 : sizeAt (tiOf Tryd.prog) 77 = some (1, false) := by kernel_rfl
theorem sz78 : sizeAt (tiOf Tryd.prog) 78 = some (1, false) := by kernel_rfl
theorem sz79 : sizeAt (tiOf Tryd.prog) 79 = some (1, false) := by kernel_rfl
theorem sz80 : sizeAt (tiOf Tryd.prog) 80 = some (1, false) := by kernel_rfl
theorem sz81 : sizeAt (tiOf Tryd.prog) 81 = some (1, false) := by kernel_rfl
theorem sz82 : sizeAt (tiOf Tryd.prog) 82 = some (1, false) := by kernel_rfl
theorem sz83 : sizeAt (tiOf Tryd.prog) 83 = some (1, false) := by kernel_rfl
theorem sz84 : sizeAt (tiOf Tryd.prog) 84 = some (1, false) := by kernel_rfl
theorem sz85 : sizeAt (tiOf Tryd.prog) 85 = some (1, false) := by kernel_rfl
theorem sz87 : sizeAt (tiOf Tryd.prog) 87 = some (1, false) := by kernel_rfl
theorem sz88 : sizeAt (tiOf Tryd.prog) 88 = some (1, false) := by kernel_rfl
theorem sz89 : sizeAt (tiOf Tryd.prog) 89 = some (1, false) := by kernel_rfl
theorem sz90 : sizeAt (tiOf Tryd.prog) 90 = some (1, false) := by kernel_rfl
theorem sz91 : sizeAt (tiOf Tryd.prog) 91 = some (1, false) := by kernel_rfl
theorem sz92 : sizeAt (tiOf Tryd.prog) 92 = some (1, false) := by kernel_rfl
theorem el92 : elemAt (tiOf Tryd.prog) 92 = some 2 := by kernel_rfl
theorem sz93 : sizeAt (tiOf Tryd.prog) 93 = some (1, false) := by kernel_rfl
theorem sz94 : sizeAt (tiOf Tryd.prog) 94 = some (1, false) := by kernel_rfl
theorem sz95 : sizeAt (tiOf Tryd.prog) 95 = some (1, false) := by kernel_rfl
theorem sz96 : sizeAt (tiOf Tryd.prog) 96 = some (1, false) := by kernel_rfl
theorem sz97 : sizeAt (tiOf Tryd.prog) 97 = some (1, false) := by kernel_rfl
theorem sz98 : sizeAt (tiOf Tryd.prog) 98 = some (1, false) := by kernel_rfl
theorem sz99 : sizeAt (tiOf Tryd.prog) 99 = some (1, false) := by kernel_rfl
theorem sz100 : sizeAt (tiOf Tryd.prog) 100 = some (1, false) := by kernel_rfl
theorem sz101 : sizeAt (tiOf Tryd.prog) 101 = some (1, false) := by kernel_rfl
theorem sz102 : sizeAt (tiOf Tryd.prog) 102 = some (1, false) := by kernel_rfl
theorem sz103 : sizeAt (tiOf Tryd.prog) 103 = some (1, false) := by kernel_rfl
theorem sz104 : sizeAt (tiOf Tryd.prog) 104 = some (1, false) := by kernel_rfl
theorem sz105 : sizeAt (tiOf Tryd.prog) 105 = some (1, false) := by kernel_rfl
theorem sz106 : sizeAt (tiOf Tryd.prog) 106 = some (1, false) := by kernel_rfl
theorem sz107 : sizeAt (tiOf Tryd.prog) 107 = some (1, false) := by kernel_rfl
theorem el107 : elemAt (tiOf Tryd.prog) 107 = some 3 := by kernel_rfl
theorem sz108 : sizeAt (tiOf Tryd.prog) 108 = some (3, true) := by kernel_rfl
theorem fa108_0 : fieldAt (tiOf Tryd.prog) 108 0 = some (0, 1, false) := by kernel_rfl
theorem fa108_1 : fieldAt (tiOf Tryd.prog) 108 1 = some (1, 1, false) := by kernel_rfl
theorem fa108_2 : fieldAt (tiOf Tryd.prog) 108 2 = some (2, 1, false) := by kernel_rfl
theorem sz109 : sizeAt (tiOf Tryd.prog) 109 = some (3, true) := by kernel_rfl
theorem fa109_0 : fieldAt (tiOf Tryd.prog) 109 0 = some (0, 1, false) := by kernel_rfl
theorem fa109_1 : fieldAt (tiOf Tryd.prog) 109 1 = some (1, 1, false) := by kernel_rfl
theorem fa109_2 : fieldAt (tiOf Tryd.prog) 109 2 = some (2, 1, false) := by kernel_rfl
theorem sz111 : sizeAt (tiOf Tryd.prog) 111 = some (1, false) := by kernel_rfl
theorem sz112 : sizeAt (tiOf Tryd.prog) 112 = some (1, false) := by kernel_rfl
theorem sz113 : sizeAt (tiOf Tryd.prog) 113 = some (1, false) := by kernel_rfl
theorem sz114 : sizeAt (tiOf Tryd.prog) 114 = some (1, false) := by kernel_rfl
theorem sz115 : sizeAt (tiOf Tryd.prog) 115 = some (1, false) := by kernel_rfl
theorem el115 : elemAt (tiOf Tryd.prog) 115 = some 2 := by kernel_rfl
theorem sz116 : sizeAt (tiOf Tryd.prog) 116 = some (1, false) := by kernel_rfl
theorem sz117 : sizeAt (tiOf Tryd.prog) 117 = some (2, true) := by kernel_rfl
theorem fa117_0 : fieldAt (tiOf Tryd.prog) 117 0 = some (0, 1, false) := by kernel_rfl
theorem fa117_1 : fieldAt (tiOf Tryd.prog) 117 1 = some (1, 1, false) := by kernel_rfl
theorem sz118 : sizeAt (tiOf Tryd.prog) 118 = some (2, true) := by kernel_rfl
theorem fa118_0 : fieldAt (tiOf Tryd.prog) 118 0 = some (0, 1, false) := by kernel_rfl
theorem fa118_1 : fieldAt (tiOf Tryd.prog) 118 1 = some (1, 1, false) := by kernel_rfl
theorem sz119 : sizeAt (tiOf Tryd.prog) 119 = some (1, false) := by kernel_rfl
theorem sz120 : sizeAt (tiOf Tryd.prog) 120 = some (1, false) := by kernel_rfl
theorem sz121 : sizeAt (tiOf Tryd.prog) 121 = some (1, false) := by kernel_rfl
theorem sz122 : sizeAt (tiOf Tryd.prog) 122 = some (64, true) := by kernel_rfl
theorem sz123 : sizeAt (tiOf Tryd.prog) 123 = some (1, false) := by kernel_rfl
theorem sz124 : sizeAt (tiOf Tryd.prog) 124 = some (1, false) := by kernel_rfl
theorem sz125 : sizeAt (tiOf Tryd.prog) 125 = some (1, false) := by kernel_rfl
theorem sz126 : sizeAt (tiOf Tryd.prog) 126 = some (1, false) := by kernel_rfl
theorem sz127 : sizeAt (tiOf Tryd.prog) 127 = some (1, false) := by kernel_rfl
theorem sz130 : sizeAt (tiOf Tryd.prog) 130 = some (0, true) := by kernel_rfl
theorem sz131 : sizeAt (tiOf Tryd.prog) 131 = some (0, true) := by kernel_rfl
theorem fa131_0 : fieldAt (tiOf Tryd.prog) 131 0 = some (0, 0, true) := by kernel_rfl
theorem sz132 : sizeAt (tiOf Tryd.prog) 132 = some (0, true) := by kernel_rfl
theorem fa132_0 : fieldAt (tiOf Tryd.prog) 132 0 = some (0, 0, true) := by kernel_rfl
theorem sz133 : sizeAt (tiOf Tryd.prog) 133 = some (1, false) := by kernel_rfl
theorem sz134 : sizeAt (tiOf Tryd.prog) 134 = some (1, false) := by kernel_rfl
theorem sz135 : sizeAt (tiOf Tryd.prog) 135 = some (1, false) := by kernel_rfl
theorem sz136 : sizeAt (tiOf Tryd.prog) 136 = some (1, false) := by kernel_rfl
theorem sz137 : sizeAt (tiOf Tryd.prog) 137 = some (1, false) := by kernel_rfl
theorem sz138 : sizeAt (tiOf Tryd.prog) 138 = some (1, false) := by kernel_rfl
theorem sz139 : sizeAt (tiOf Tryd.prog) 139 = some (1, false) := by kernel_rfl
theorem sz140 : sizeAt (tiOf Tryd.prog) 140 = some (1, false) := by kernel_rfl
theorem sz141 : sizeAt (tiOf Tryd.prog) 141 = some (11, true) := by kernel_rfl
theorem fa141_0 : fieldAt (tiOf Tryd.prog) 141 0 = some (0, 1, false) := by kernel_rfl
theorem fa141_1 : fieldAt (tiOf Tryd.prog) 141 1 = some (1, 1, false) := by kernel_rfl
theorem fa141_2 : fieldAt (tiOf Tryd.prog) 141 2 = some (2, 1, false) := by kernel_rfl
theorem fa141_3 : fieldAt (tiOf Tryd.prog) 141 3 = some (3, 1, false) := by kernel_rfl
theorem fa141_4 : fieldAt (tiOf Tryd.prog) 141 4 = some (4, 1, false) := by kernel_rfl
theorem fa141_5 : fieldAt (tiOf Tryd.prog) 141 5 = some (5, 1, false) := by kernel_rfl
theorem fa141_6 : fieldAt (tiOf Tryd.prog) 141 6 = some (6, 1, false) := by kernel_rfl
theorem fa141_7 : fieldAt (tiOf Tryd.prog) 141 7 = some (7, 1, false) := by kernel_rfl
theorem fa141_8 : fieldAt (tiOf Tryd.prog) 141 8 = some (8, 1, false) := by kernel_rfl
theorem fa141_9 : fieldAt (tiOf Tryd.prog) 141 9 = some (9, 1, false) := by kernel_rfl
theorem fa141_10 : fieldAt (tiOf Tryd.prog) 141 10 = some (10, 1, false) := by kernel_rfl
theorem sz142 : sizeAt (tiOf Tryd.prog) 142 = some (11, true) := by kernel_rfl
theorem fa142_0 : fieldAt (tiOf Tryd.prog) 142 0 = some (0, 1, false) := by kernel_rfl
theorem fa142_1 : fieldAt (tiOf Tryd.prog) 142 1 = some (1, 1, false) := by kernel_rfl
theorem fa142_2 : fieldAt (tiOf Tryd.prog) 142 2 = some (2, 1, false) := by kernel_rfl
theorem fa142_3 : fieldAt (tiOf Tryd.prog) 142 3 = some (3, 1, false) := by kernel_rfl
theorem fa142_4 : fieldAt (tiOf Tryd.prog) 142 4 = some (4, 1, false) := by kernel_rfl
theorem fa142_5 : fieldAt (tiOf Tryd.prog) 142 5 = some (5, 1, false) := by kernel_rfl
theorem fa142_6 : fieldAt (tiOf Tryd.prog) 142 6 = some (6, 1, false) := by kernel_rfl
theorem fa142_7 : fieldAt (tiOf Tryd.prog) 142 7 = some (7, 1, false) := by kernel_rfl
theorem fa142_8 : fieldAt (tiOf Tryd.prog) 142 8 = some (8, 1, false) := by kernel_rfl
theorem fa142_9 : fieldAt (tiOf Tryd.prog) 142 9 = some (9, 1, false) := by kernel_rfl
theorem fa142_10 : fieldAt (tiOf Tryd.prog) 142 10 = some (10, 1, false) := by kernel_rfl
theorem mixed0 : Tryd.prog.follows .mixedOrders = true := by kernel_rfl
theorem names0 : namesOk Tryd.prog = true := by kernel_rfl
def preAx : Ax := (addAx (fun _ => none) 102 tzF)
theorem preAx_ok : AxOk Tryd.prog preAx := (axOk_add (axOk_none _) tz_ok)
def inlF : List TD → Option (Kind × List TD) := fun _ => none
def inlAx : Ax := (addAx (addAx (addAx (addAx (addAx (addAx (addAx preAx 20 inlF) 21 inlF) 50 inlF) 62 inlF) 92 inlF) 94 inlF) 97 inlF)
theorem inlAx_ok : AxOk Tryd.prog inlAx := (axOk_add (axOk_add (axOk_add (axOk_add (axOk_add (axOk_add (axOk_add preAx_ok fun vs kind rs h => by simp [inlF] at h) fun vs kind rs h => by simp [inlF] at h) fun vs kind rs h => by simp [inlF] at h) fun vs kind rs h => by simp [inlF] at h) fun vs kind rs h => by simp [inlF] at h) fun vs kind rs h => by simp [inlF] at h) fun vs kind rs h => by simp [inlF] at h)
noncomputable def E0 : Env := envOf Tryd.prog inlAx
theorem E0_ok : E0.Ok := envOf_ok mixed0 names0 inlAx_ok
noncomputable def E00 : Env := envOf Tryd.prog preAx
theorem E00_ok : E00.Ok := envOf_ok mixed0 names0 preAx_ok
def z70 (n : Nat) : List (List T) := List.replicate n [iT .i64 0]
def hasQ (a b : Int) : T := .s true 1 [[iT .u64 a], [iT .u64 b]]
def dQ (b : Int) (l : List (List T)) : TD := .agg [iT .i64 70, hasQ 0 b, .s true 1 l]
def d70 : TD := dQ 2 (z70 65 ++ [iT .i64 9] :: z70 4)
def n70 : TD := dQ 0 (z70 70)
def v70 : TD := .agg [iT .i64 70, .s true 2 [[iT .i64 65, iT .i64 9]]]
def p10 : TD := .agg [iT .i64 10, .s true 1 [[iT .u64 32]], .s true 1 (z70 5 ++ [iT .i64 9] :: z70 4)]
end Ev
end Go.Proofs.YtjomjfjbpcafhaaDoor
