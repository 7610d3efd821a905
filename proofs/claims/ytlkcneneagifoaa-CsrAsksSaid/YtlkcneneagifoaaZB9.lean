/- Texts of a claim, joined. -/
import Derived.Test.YtlkcneneagifoaaZB8
import Derived.Test.YtlkcneneagifoaaProg
import Derived.WalkKit
import Derived.BigQuiet
import Derived.Lib.QuietBelow
import Derived.WalkSpells
import Derived.WalkLawsBesides
import Derived.IntWalk
import Derived.Lib.Hide
import Derived.Outline
import Derived.StillTail
import Derived.Laws.OwnMore
import Derived.Maps.AppendAt
import Derived.RangeFuncBox
import Derived.Defers
import Derived.Recover
import Derived.KernelRfl
import Derived.Test.YtlkcneneagifoaaZB4
section
namespace Go.Proofs.Ytlkcneneagifoaa
namespace Ev
namespace K
open Go Go.RowKit
set_option linter.unusedVariables false
set_option linter.unusedSimpArgs false
set_option maxRecDepth 100000
set_option maxHeartbeats 1000000
noncomputable def TT : List (Nat × TI) := [(1, (⟨.func #[] #[] false, [.nilFunc], 1, 8⟩ : TI)),
 (2, (⟨.int .i64, [.int .i64 0], 1, 8⟩ : TI)),
 (3, (⟨.int .i64, [.int .i64 0], 1, 8⟩ : TI)),
 (4, (⟨.bool, [.bool false], 1, 1⟩ : TI)),
 (5, (⟨.int .u8, [.int .u8 0], 1, 1⟩ : TI)),
 (6, (⟨.int .u8, [.int .u8 0], 1, 1⟩ : TI)),
 (7, (⟨.struct (flds Try.prog 7), [.int .i64 0, .int .i64 0, .bool false, .int .u8 0], 4, 24⟩ : TI)),
 (8, (⟨.struct (flds Try.prog 8), [.int .i64 0, .int .i64 0, .bool false, .int .u8 0], 4, 24⟩ : TI)),
 (12, (⟨.int .u64, [.int .u64 0], 1, 8⟩ : TI)),
 (15, (⟨.pointer 168, [.pointer none], 1, 8⟩ : TI)),
 (16, (⟨.pointer 171, [.pointer none], 1, 8⟩ : TI)),
 (17, (⟨.pointer 180, [.pointer none], 1, 8⟩ : TI)),
 (18, (⟨.struct (flds Try.prog 18), [.pointer none], 1, 8⟩ : TI)),
 (19, (⟨.struct (flds Try.prog 19), [.pointer none], 1, 8⟩ : TI)),
 (21, (⟨.int .i32, [.int .i32 0], 1, 4⟩ : TI)),
 (22, (⟨.int .i64, [.int .i64 0], 1, 8⟩ : TI)),
 (23, (⟨.array 2 3, [.int .i64 0, .int .i64 0], 2, 16⟩ : TI)),
 (24, (⟨.slice 60, [.slice none 0 0], 1, 24⟩ : TI)),
 (25, (⟨.func #[24] #[24] false, [.nilFunc], 1, 8⟩ : TI)),
 (26, (⟨.slice 3, [.slice none 0 0], 1, 24⟩ : TI)),
 (27, (⟨.slice 2, [.slice none 0 0], 1, 24⟩ : TI)),
 (28, (⟨.struct (flds Try.prog 28), [.int .i64 0, .int .i64 0, .slice none 0 0, .slice none 0 0, .slice none 0 0], 5, 88⟩ : TI)),
 (29, (⟨.struct (flds Try.prog 29), [.int .i64 0, .int .i64 0, .slice none 0 0, .slice none 0 0, .slice none 0 0], 5, 88⟩ : TI)),
 (30, (⟨.int .i64, [.int .i64 0], 1, 8⟩ : TI)),
 (32, (⟨.func #[22, 3, 3, 24] #[29, 30] false, [.nilFunc], 1, 8⟩ : TI)),
 (33, (⟨.func #[] #[4] false, [.nilFunc], 1, 8⟩ : TI)),
 (34, (⟨.func #[29, 29] #[4] false, [.nilFunc], 1, 8⟩ : TI)),
 (35, (⟨.func #[22, 23, 24] #[4] false, [.nilFunc], 1, 8⟩ : TI)),
 (37, (⟨.func #[29, 3, 3] #[2, 4] false, [.nilFunc], 1, 8⟩ : TI)),
 (38, (⟨.func #[29] #[4] false, [.nilFunc], 1, 8⟩ : TI)),
 (39, (⟨.func #[29] #[3] false, [.nilFunc], 1, 8⟩ : TI)),
 (40, (⟨.func #[41, 41] #[4] false, [.nilFunc], 1, 8⟩ : TI)),
 (41, (⟨.slice 94, [.slice none 0 0], 1, 24⟩ : TI)),
 (42, (⟨.func #[29, 3] #[41] false, [.nilFunc], 1, 8⟩ : TI)),
 (43, (⟨.func #[24, 24] #[4] false, [.nilFunc], 1, 8⟩ : TI)),
 (44, (⟨.func #[29] #[24] false, [.nilFunc], 1, 8⟩ : TI)),
 (45, (⟨.func #[29] #[29] false, [.nilFunc], 1, 8⟩ : TI)),
 (46, (⟨.func #[29, 23, 23] #[29] false, [.nilFunc], 1, 8⟩ : TI)),
 (47, (⟨.func #[29, 23, 23] #[4] false, [.nilFunc], 1, 8⟩ : TI)),
 (48, (⟨.slice 55, [.slice none 0 0], 1, 24⟩ : TI)),
 (49, (⟨.struct (flds Try.prog 49), [.int .i64 0, .slice none 0 0], 2, 32⟩ : TI)),
 (50, (⟨.struct (flds Try.prog 50), [.int .i64 0, .slice none 0 0], 2, 32⟩ : TI)),
 (51, (⟨.func #[50] #[29, 30] false, [.nilFunc], 1, 8⟩ : TI)),
 (52, (⟨.func #[50] #[30] false, [.nilFunc], 1, 8⟩ : TI)),
 (53, (⟨.func #[50] #[50] false, [.nilFunc], 1, 8⟩ : TI)),
 (54, (⟨.struct (flds Try.prog 54), [.int .i64 0, .int .i64 0, .int .i64 0], 3, 24⟩ : TI)),
 (55, (⟨.struct (flds Try.prog 55), [.int .i64 0, .int .i64 0, .int .i64 0], 3, 24⟩ : TI)),
 (56, (⟨.func #[50] #[4] false, [.nilFunc], 1, 8⟩ : TI)),
 (57, (⟨.array 2 5, [.int .u8 0, .int .u8 0], 2, 2⟩ : TI)),
 (58, (⟨.func #[57, 24] #[29] false, [.nilFunc], 1, 8⟩ : TI)),
 (59, (⟨.struct (flds Try.prog 59), [.int .i64 0, .int .i64 0, .int .i64 0], 3, 24⟩ : TI)),
 (60, (⟨.struct (flds Try.prog 60), [.int .i64 0, .int .i64 0, .int .i64 0], 3, 24⟩ : TI)),
 (61, (⟨.func #[22] #[4] false, [.nilFunc], 1, 8⟩ : TI)),
 (62, (⟨.func #[57, 24, 22] #[4] false, [.nilFunc], 1, 8⟩ : TI)),
 (63, (⟨.func #[5] #[3] false, [.nilFunc], 1, 8⟩ : TI)),
 (64, (⟨.func #[57, 24, 57] #[4] false, [.nilFunc], 1, 8⟩ : TI)),
 (65, (⟨.array 4 5, [.int .u8 0, .int .u8 0, .int .u8 0, .int .u8 0], 4, 4⟩ : TI)),
 (66, (⟨.func #[57, 24, 65] #[4] false, [.nilFunc], 1, 8⟩ : TI)),
 (67, (⟨.struct (flds Try.prog 67), [.int .i64 0, .int .i64 0, .slice none 0 0, .slice none 0 0, .slice none 0 0, .slice none 0 0], 6, 112⟩ : TI)),
 (68, (⟨.struct (flds Try.prog 68), [.int .i64 0, .int .i64 0, .slice none 0 0, .slice none 0 0, .slice none 0 0, .slice none 0 0], 6, 112⟩ : TI)),
 (69, (⟨.func #[68, 3] #[41] false, [.nilFunc], 1, 8⟩ : TI)),
 (70, (⟨.func #[68, 68] #[4] false, [.nilFunc], 1, 8⟩ : TI)),
 (71, (⟨.func #[29] #[68] false, [.nilFunc], 1, 8⟩ : TI)),
 (72, (⟨.func #[68] #[4] false, [.nilFunc], 1, 8⟩ : TI)),
 (73, (⟨.func #[68] #[29] false, [.nilFunc], 1, 8⟩ : TI)),
 (74, (⟨.func #[68] #[3] false, [.nilFunc], 1, 8⟩ : TI)),
 (75, (⟨.func #[68] #[68] false, [.nilFunc], 1, 8⟩ : TI)),
 (76, (⟨.func #[68, 26] #[3] false, [.nilFunc], 1, 8⟩ : TI)),
 (77, (⟨.func #[29, 68, 26] #[4] false, [.nilFunc], 1, 8⟩ : TI)),
 (78, (⟨.func #[57, 24] #[4] false, [.nilFunc], 1, 8⟩ : TI)),
 (79, (⟨.func #[57, 24, 5] #[4] false, [.nilFunc], 1, 8⟩ : TI)),
 (80, (⟨.func #[50] #[26] false, [.nilFunc], 1, 8⟩ : TI)),
 (81, (⟨.func #[3] #[4] false, [.nilFunc], 1, 8⟩ : TI)),
 (83, (⟨.func #[22, 24] #[24, 30] false, [.nilFunc], 1, 8⟩ : TI)),
 (84, (⟨.func #[3, 3, 24] #[29] false, [.nilFunc], 1, 8⟩ : TI)),
 (86, (⟨.func #[22, 48] #[48, 30] false, [.nilFunc], 1, 8⟩ : TI)),
 (87, (⟨.func #[26, 26] #[4] false, [.nilFunc], 1, 8⟩ : TI)),
 (88, (⟨.func #[27, 27] #[4] false, [.nilFunc], 1, 8⟩ : TI)),
 (90, (⟨.func #[29, 3] #[26, 27] false, [.nilFunc], 1, 8⟩ : TI)),
 (92, (⟨.func #[26, 3] #[3, 4] false, [.nilFunc], 1, 8⟩ : TI)),
 (93, (⟨.struct (flds Try.prog 93), [.int .i64 0, .int .i64 0], 2, 16⟩ : TI)),
 (94, (⟨.struct (flds Try.prog 94), [.int .i64 0, .int .i64 0], 2, 16⟩ : TI)),
 (95, (⟨.func #[26, 3] #[4] false, [.nilFunc], 1, 8⟩ : TI)),
 (96, (⟨.func #[26] #[] false, [.nilFunc], 1, 8⟩ : TI)),
 (97, (⟨.func #[26] #[26] false, [.nilFunc], 1, 8⟩ : TI)),
 (98, (⟨.func #[23, 3] #[23] false, [.nilFunc], 1, 8⟩ : TI)),
 (99, (⟨.func #[3, 3] #[29] false, [.nilFunc], 1, 8⟩ : TI)),
 (101, (⟨.func #[68, 3] #[3, 3] false, [.nilFunc], 1, 8⟩ : TI)),
 (102, (⟨.func #[126] #[] false, [.nilFunc], 1, 8⟩ : TI)),
 (103, (⟨.func #[126] #[] false, [.nilFunc], 1, 8⟩ : TI)),
 (104, (⟨.func #[26] #[103] false, [.nilFunc], 1, 8⟩ : TI)),
 (105, (⟨.func #[3, 3] #[3] false, [.nilFunc], 1, 8⟩ : TI)),
 (106, (⟨.func #[50, 107, 108] #[50] false, [.nilFunc], 1, 8⟩ : TI)),
 (107, (⟨.func #[55] #[4] false, [.nilFunc], 1, 8⟩ : TI)),
 (108, (⟨.func #[55] #[55] false, [.nilFunc], 1, 8⟩ : TI)),
 (109, (⟨.func #[50, 110] #[26] false, [.nilFunc], 1, 8⟩ : TI)),
 (110, (⟨.func #[55] #[3] false, [.nilFunc], 1, 8⟩ : TI)),
 (111, (⟨.func #[24] #[4] false, [.nilFunc], 1, 8⟩ : TI)),
 (113, (⟨.int .u64, [.int .u64 0], 1, 8⟩ : TI)),
 (114, (⟨.struct (flds Try.prog 114), [.int .i64 0, .int .u64 0], 2, 16⟩ : TI)),
 (115, (⟨.struct (flds Try.prog 115), [.int .i64 0, .int .u64 0], 2, 16⟩ : TI)),
 (117, (⟨.func #[22, 115, 115] #[115] false, [.nilFunc], 1, 8⟩ : TI)),
 (118, (⟨.func #[2] #[115] false, [.nilFunc], 1, 8⟩ : TI)),
 (119, (⟨.func #[22, 115] #[2, 4] false, [.nilFunc], 1, 8⟩ : TI)),
 (120, (⟨.func #[24, 121] #[] false, [.nilFunc], 1, 8⟩ : TI)),
 (121, (⟨.func #[60, 60] #[3] false, [.nilFunc], 1, 8⟩ : TI)),
 (122, (⟨.slice 115, [.slice none 0 0], 1, 24⟩ : TI)),
 (123, (⟨.func #[55, 55] #[4] false, [.nilFunc], 1, 8⟩ : TI)),
 (124, (⟨.func #[115] #[2, 4] false, [.nilFunc], 1, 8⟩ : TI)),
 (125, (⟨.int .u64, [.int .u64 0], 1, 8⟩ : TI)),
 (126, (⟨.func #[3, 3] #[4] false, [.nilFunc], 1, 8⟩ : TI)),
 (127, (⟨.func #[48, 107] #[4] false, [.nilFunc], 1, 8⟩ : TI)),
 (128, (⟨.func #[48] #[4] false, [.nilFunc], 1, 8⟩ : TI)),
 (129, (⟨.func #[48] #[48] false, [.nilFunc], 1, 8⟩ : TI)),
 (130, (⟨.func #[48, 131] #[] false, [.nilFunc], 1, 8⟩ : TI)),
 (131, (⟨.func #[55, 55] #[3] false, [.nilFunc], 1, 8⟩ : TI)),
 (132, (⟨.func #[115, 115] #[115] false, [.nilFunc], 1, 8⟩ : TI)),
 (133, (⟨.func #[4] #[115] false, [.nilFunc], 1, 8⟩ : TI)),
 (134, (⟨.func #[24, 3, 3, 3, 121] #[] false, [.nilFunc], 1, 8⟩ : TI)),
 (135, (⟨.func #[125] #[3] false, [.nilFunc], 1, 8⟩ : TI)),
 (136, (⟨.func #[26] #[3] true, [.nilFunc], 1, 8⟩ : TI)),
 (137, (⟨.func #[115, 115] #[3] false, [.nilFunc], 1, 8⟩ : TI)),
 (138, (⟨.func #[48, 107] #[3] false, [.nilFunc], 1, 8⟩ : TI)),
 (139, (⟨.func #[48, 3, 3, 3, 131] #[] false, [.nilFunc], 1, 8⟩ : TI)),
 (140, (⟨.func #[24, 3, 3, 121] #[] false, [.nilFunc], 1, 8⟩ : TI)),
 (141, (⟨.int .i64, [.int .i64 0], 1, 8⟩ : TI)),
 (143, (⟨.func #[24, 3, 3, 121] #[3, 141] false, [.nilFunc], 1, 8⟩ : TI)),
 (144, (⟨.func #[24, 3, 3, 121] #[4] false, [.nilFunc], 1, 8⟩ : TI)),
 (145, (⟨.func #[24, 3, 3, 3, 121] #[3] false, [.nilFunc], 1, 8⟩ : TI)),
 (146, (⟨.func #[24, 3, 3, 3, 121] #[3, 4] false, [.nilFunc], 1, 8⟩ : TI)),
 (147, (⟨.func #[148] #[3] false, [.nilFunc], 1, 8⟩ : TI)),
 (148, (⟨.int .u32, [.int .u32 0], 1, 4⟩ : TI)),
 (149, (⟨.func #[113] #[3] false, [.nilFunc], 1, 8⟩ : TI)),
 (150, (⟨.func #[48, 3, 3, 131] #[] false, [.nilFunc], 1, 8⟩ : TI)),
 (151, (⟨.func #[48, 3, 3, 131] #[3, 141] false, [.nilFunc], 1, 8⟩ : TI)),
 (152, (⟨.func #[48, 3, 3, 131] #[4] false, [.nilFunc], 1, 8⟩ : TI)),
 (153, (⟨.func #[48, 3, 3, 3, 131] #[3] false, [.nilFunc], 1, 8⟩ : TI)),
 (154, (⟨.func #[48, 3, 3, 3, 131] #[3, 4] false, [.nilFunc], 1, 8⟩ : TI)),
 (155, (⟨.int .u64, [.int .u64 0], 1, 8⟩ : TI)),
 (156, (⟨.func #[3] #[125] false, [.nilFunc], 1, 8⟩ : TI)),
 (157, (⟨.func #[] #[113] false, [.nilFunc], 1, 8⟩ : TI)),
 (158, (⟨.func #[24, 3, 159, 121] #[3] false, [.nilFunc], 1, 8⟩ : TI)),
 (159, (⟨.pointer 3, [.pointer none], 1, 8⟩ : TI)),
 (160, (⟨.func #[24, 3, 3, 3, 159, 121] #[3] false, [.nilFunc], 1, 8⟩ : TI)),
 (161, (⟨.func #[48, 3, 159, 131] #[3] false, [.nilFunc], 1, 8⟩ : TI)),
 (162, (⟨.func #[48, 3, 3, 3, 159, 131] #[3] false, [.nilFunc], 1, 8⟩ : TI)),
 (163, (⟨.pointer 155, [.pointer none], 1, 8⟩ : TI)),
 (164, (⟨.func #[24, 3, 3, 159, 121] #[3, 3] false, [.nilFunc], 1, 8⟩ : TI)),
 (165, (⟨.func #[48, 3, 3, 159, 131] #[3, 3] false, [.nilFunc], 1, 8⟩ : TI)),
 (166, (⟨.func #[] #[9] false, [.nilFunc], 1, 8⟩ : TI)),
 (169, (⟨.array 0 16, [], 0, 0⟩ : TI)),
 (170, (⟨.struct (flds Try.prog 170), [], 0, 0⟩ : TI)),
 (171, (⟨.struct (flds Try.prog 171), [], 0, 0⟩ : TI)),
 (172, (⟨.func #[] #[3] false, [.nilFunc], 1, 8⟩ : TI)),
 (173, (⟨.int .u8, [.int .u8 0], 1, 1⟩ : TI)),
 (174, (⟨.int .u8, [.int .u8 0], 1, 1⟩ : TI)),
 (175, (⟨.func #[181, 181] #[4] false, [.nilFunc], 1, 8⟩ : TI)),
 (176, (⟨.pointer 5, [.pointer none], 1, 8⟩ : TI)),
 (177, (⟨.int .i32, [.int .i32 0], 1, 4⟩ : TI)),
 (178, (⟨.int .i32, [.int .i32 0], 1, 4⟩ : TI)),
 (179, (⟨.struct (flds Try.prog 179), [.int .u64 0, .int .u64 0, .int .u32 0, .int .u8 0, .int .u8 0, .int .u8 0, .int .u8 0, .nilFunc, .pointer none, .int .i32 0, .int .i32 0], 11, 48⟩ : TI)),
 (180, (⟨.struct (flds Try.prog 180), [.int .u64 0, .int .u64 0, .int .u32 0, .int .u8 0, .int .u8 0, .int .u8 0, .int .u8 0, .nilFunc, .pointer none, .int .i32 0, .int .i32 0], 11, 48⟩ : TI))]
theorem tz1 : tiOf Try.prog 1 = some (⟨.func #[] #[] false, [.nilFunc], 1, 8⟩ : TI) := by kernel_rfl
theorem tz2 : tiOf Try.prog 2 = some (⟨.int .i64, [.int .i64 0], 1, 8⟩ : TI) := by kernel_rfl
theorem tz3 : tiOf Try.prog 3 = some (⟨.int .i64, [.int .i64 0], 1, 8⟩ : TI) := by kernel_rfl
theorem tz4 : tiOf Try.prog 4 = some (⟨.bool, [.bool false], 1, 1⟩ : TI) := by kernel_rfl
theorem tz5 : tiOf Try.prog 5 = some (⟨.int .u8, [.int .u8 0], 1, 1⟩ : TI) := by kernel_rfl
theorem tz6 : tiOf Try.prog 6 = some (⟨.int .u8, [.int .u8 0], 1, 1⟩ : TI) := by kernel_rfl
theorem tz7 : tiOf Try.prog 7 = some (⟨.struct (flds Try.prog 7), [.int .i64 0, .int .i64 0, .bool false, .int .u8 0], 4, 24⟩ : TI) := by kernel_rfl
theorem tz8 : tiOf Try.prog 8 = some (⟨.struct (flds Try.prog 8), [.int .i64 0, .int .i64 0, .bool false, .int .u8 0], 4, 24⟩ : TI) := by kernel_rfl
theorem tz12 : tiOf Try.prog 12 = some (⟨.int .u64, [.int .u64 0], 1, 8⟩ : TI) := by kernel_rfl
theorem tz15 : tiOf Try.prog 15 = some (⟨.pointer 168, [.pointer none], 1, 8⟩ : TI) := by kernel_rfl
theorem tz16 : tiOf Try.prog 16 = some (⟨.pointer 171, [.pointer none], 1, 8⟩ : TI) := by kernel_rfl
theorem tz17 : tiOf Try.prog 17 = some (⟨.pointer 180, [.pointer none], 1, 8⟩ : TI) := by kernel_rfl
theorem tz18 : tiOf Try.prog 18 = some (⟨.struct (flds Try.prog 18), [.pointer none], 1, 8⟩ : TI) := by kernel_rfl
theorem tz19 : tiOf Try.prog 19 = some (⟨.struct (flds Try.prog 19), [.pointer none], 1, 8⟩ : TI) := by kernel_rfl
theorem tz21 : tiOf Try.prog 21 = some (⟨.int .i32, [.int .i32 0], 1, 4⟩ : TI) := by kernel_rfl
theorem tz22 : tiOf Try.prog 22 = some (⟨.int .i64, [.int .i64 0], 1, 8⟩ : TI) := by kernel_rfl
theorem tz23 : tiOf Try.prog 23 = some (⟨.array 2 3, [.int .i64 0, .int .i64 0], 2, 16⟩ : TI) := by kernel_rfl
theorem tz24 : tiOf Try.prog 24 = some (⟨.slice 60, [.slice none 0 0], 1, 24⟩ : TI) := by kernel_rfl
theorem tz25 : tiOf Try.prog 25 = some (⟨.func #[24] #[24] false, [.nilFunc], 1, 8⟩ : TI) := by kernel_rfl
theorem tz26 : tiOf Try.prog 26 = some (⟨.slice 3, [.slice none 0 0], 1, 24⟩ : TI) := by kernel_rfl
theorem tz27 : tiOf Try.prog 27 = some (⟨.slice 2, [.slice none 0 0], 1, 24⟩ : TI) := by kernel_rfl
theorem tz28 : tiOf Try.prog 28 = some (⟨.struct (flds Try.prog 28), [.int .i64 0, .int .i64 0, .slice none 0 0, .slice none 0 0, .slice none 0 0], 5, 88⟩ : TI) := by kernel_rfl
theorem tz29 : tiOf Try.prog 29 = some (⟨.struct (flds Try.prog 29), [.int .i64 0, .int .i64 0, .slice none 0 0, .slice none 0 0, .slice none 0 0], 5, 88⟩ : TI) := by kernel_rfl
theorem tz30 : tiOf Try.prog 30 = some (⟨.int .i64, [.int .i64 0], 1, 8⟩ : TI) := by kernel_rfl
theorem tz32 : tiOf Try.prog 32 = some (⟨.func #[22, 3, 3, 24] #[29, 30] false, [.nilFunc], 1, 8⟩ : TI) := by kernel_rfl
theorem tz33 : tiOf Try.prog 33 = some (⟨.func #[] #[4] false, [.nilFunc], 1, 8⟩ : TI) := by kernel_rfl
theorem tz34 : tiOf Try.prog 34 = some (⟨.func #[29, 29] #[4] false, [.nilFunc], 1, 8⟩ : TI) := by kernel_rfl
theorem tz35 : tiOf Try.prog 35 = some (⟨.func #[22, 23, 24] #[4] false, [.nilFunc], 1, 8⟩ : TI) := by kernel_rfl
theorem tz37 : tiOf Try.prog 37 = some (⟨.func #[29, 3, 3] #[2, 4] false, [.nilFunc], 1, 8⟩ : TI) := by kernel_rfl
theorem tz38 : tiOf Try.prog 38 = some (⟨.func #[29] #[4] false, [.nilFunc], 1, 8⟩ : TI) := by kernel_rfl
theorem tz39 : tiOf Try.prog 39 = some (⟨.func #[29] #[3] false, [.nilFunc], 1, 8⟩ : TI) := by kernel_rfl
theorem tz40 : tiOf Try.prog 40 = some (⟨.func #[41, 41] #[4] false, [.nilFunc], 1, 8⟩ : TI) := by kernel_rfl
theorem tz41 : tiOf Try.prog 41 = some (⟨.slice 94, [.slice none 0 0], 1, 24⟩ : TI) := by kernel_rfl
theorem tz42 : tiOf Try.prog 42 = some (⟨.func #[29, 3] #[41] false, [.nilFunc], 1, 8⟩ : TI) := by kernel_rfl
theorem tz43 : tiOf Try.prog 43 = some (⟨.func #[24, 24] #[4] false, [.nilFunc], 1, 8⟩ : TI) := by kernel_rfl
theorem tz44 : tiOf Try.prog 44 = some (⟨.func #[29] #[24] false, [.nilFunc], 1, 8⟩ : TI) := by kernel_rfl
theorem tz45 : tiOf Try.prog 45 = some (⟨.func #[29] #[29] false, [.nilFunc], 1, 8⟩ : TI) := by kernel_rfl
theorem tz46 : tiOf Try.prog 46 = some (⟨.func #[29, 23, 23] #[29] false, [.nilFunc], 1, 8⟩ : TI) := by kernel_rfl
theorem tz47 : tiOf Try.prog 47 = some (⟨.func #[29, 23, 23] #[4] false, [.nilFunc], 1, 8⟩ : TI) := by kernel_rfl
theorem tz48 : tiOf Try.prog 48 = some (⟨.slice 55, [.slice none 0 0], 1, 24⟩ : TI) := by kernel_rfl
theorem tz49 : tiOf Try.prog 49 = some (⟨.struct (flds Try.prog 49), [.int .i64 0, .slice none 0 0], 2, 32⟩ : TI) := by kernel_rfl
theorem tz50 : tiOf Try.prog 50 = some (⟨.struct (flds Try.prog 50), [.int .i64 0, .slice none 0 0], 2, 32⟩ : TI) := by kernel_rfl
theorem tz51 : tiOf Try.prog 51 = some (⟨.func #[50] #[29, 30] false, [.nilFunc], 1, 8⟩ : TI) := by kernel_rfl
theorem tz52 : tiOf Try.prog 52 = some (⟨.func #[50] #[30] false, [.nilFunc], 1, 8⟩ : TI) := by kernel_rfl
theorem tz53 : tiOf Try.prog 53 = some (⟨.func #[50] #[50] false, [.nilFunc], 1, 8⟩ : TI) := by kernel_rfl
theorem tz54 : tiOf Try.prog 54 = some (⟨.struct (flds Try.prog 54), [.int .i64 0, .int .i64 0, .int .i64 0], 3, 24⟩ : TI) := by kernel_rfl
theorem tz55 : tiOf Try.prog 55 = some (⟨.struct (flds Try.prog 55), [.int .i64 0, .int .i64 0, .int .i64 0], 3, 24⟩ : TI) := by kernel_rfl
theorem tz56 : tiOf Try.prog 56 = some (⟨.func #[50] #[4] false, [.nilFunc], 1, 8⟩ : TI) := by kernel_rfl
theorem tz57 : tiOf Try.prog 57 = some (⟨.array 2 5, [.int .u8 0, .int .u8 0], 2, 2⟩ : TI) := by kernel_rfl
theorem tz58 : tiOf Try.prog 58 = some (⟨.func #[57, 24] #[29] false, [.nilFunc], 1, 8⟩ : TI) := by kernel_rfl
theorem tz59 : tiOf Try.prog 59 = some (⟨.struct (flds Try.prog 59), [.int .i64 0, .int .i64 0, .int .i64 0], 3, 24⟩ : TI) := by kernel_rfl
theorem tz60 : tiOf Try.prog 60 = some (⟨.struct (flds Try.prog 60), [.int .i64 0, .int .i64 0, .int .i64 0], 3, 24⟩ : TI) := by kernel_rfl
theorem tz61 : tiOf Try.prog 61 = some (⟨.func #[22] #[4] false, [.nilFunc], 1, 8⟩ : TI) := by kernel_rfl
theorem tz62 : tiOf Try.prog 62 = some (⟨.func #[57, 24, 22] #[4] false, [.nilFunc], 1, 8⟩ : TI) := by kernel_rfl
theorem tz63 : tiOf Try.prog 63 = some (⟨.func #[5] #[3] false, [.nilFunc], 1, 8⟩ : TI) := by kernel_rfl
theorem tz64 : tiOf Try.prog 64 = some (⟨.func #[57, 24, 57] #[4] false, [.nilFunc], 1, 8⟩ : TI) := by kernel_rfl
theorem tz65 : tiOf Try.prog 65 = some (⟨.array 4 5, [.int .u8 0, .int .u8 0, .int .u8 0, .int .u8 0], 4, 4⟩ : TI) := by kernel_rfl
theorem tz66 : tiOf Try.prog 66 = some (⟨.func #[57, 24, 65] #[4] false, [.nilFunc], 1, 8⟩ : TI) := by kernel_rfl
theorem tz67 : tiOf Try.prog 67 = some (⟨.struct (flds Try.prog 67), [.int .i64 0, .int .i64 0, .slice none 0 0, .slice none 0 0, .slice none 0 0, .slice none 0 0], 6, 112⟩ : TI) := by kernel_rfl
theorem tz68 : tiOf Try.prog 68 = some (⟨.struct (flds Try.prog 68), [.int .i64 0, .int .i64 0, .slice none 0 0, .slice none 0 0, .slice none 0 0, .slice none 0 0], 6, 112⟩ : TI) := by kernel_rfl
theorem tz69 : tiOf Try.prog 69 = some (⟨.func #[68, 3] #[41] false, [.nilFunc], 1, 8⟩ : TI) := by kernel_rfl
theorem tz70 : tiOf Try.prog 70 = some (⟨.func #[68, 68] #[4] false, [.nilFunc], 1, 8⟩ : TI) := by kernel_rfl
theorem tz71 : tiOf Try.prog 71 = some (⟨.func #[29] #[68] false, [.nilFunc], 1, 8⟩ : TI) := by kernel_rfl
theorem tz72 : tiOf Try.prog 72 = some (⟨.func #[68] #[4] false, [.nilFunc], 1, 8⟩ : TI) := by kernel_rfl
theorem tz73 : tiOf Try.prog 73 = some (⟨.func #[68] #[29] false, [.nilFunc], 1, 8⟩ : TI) := by kernel_rfl
theorem tz74 : tiOf Try.prog 74 = some (⟨.func #[68] #[3] false, [.nilFunc], 1, 8⟩ : TI) := by kernel_rfl
theorem tz75 : tiOf Try.prog 75 = some (⟨.func #[68] #[68] false, [.nilFunc], 1, 8⟩ : TI) := by kernel_rfl
theorem tz76 : tiOf Try.prog 76 = some (⟨.func #[68, 26] #[3] false, [.nilFunc], 1, 8⟩ : TI) := by kernel_rfl
theorem tz77 : tiOf Try.prog 77 = some (⟨.func #[29, 68, 26] #[4] false, [.nilFunc], 1, 8⟩ : TI) := by kernel_rfl
theorem tz78 : tiOf Try.prog 78 = some (⟨.func #[57, 24] #[4] false, [.nilFunc], 1, 8⟩ : TI) := by kernel_rfl
theorem tz79 : tiOf Try.prog 79 = some (⟨.func #[57, 24, 5] #[4] false, [.nilFunc], 1, 8⟩ : TI) := by kernel_rfl
theorem tz80 : tiOf Try.prog 80 = some (⟨.func #[50] #[26] false, [.nilFunc], 1, 8⟩ : TI) := by kernel_rfl
theorem tz81 : tiOf Try.prog 81 = some (⟨.func #[3] #[4] false, [.nilFunc], 1, 8⟩ : TI) := by kernel_rfl
theorem tz83 : tiOf Try.prog 83 = some (⟨.func #[22, 24] #[24, 30] false, [.nilFunc], 1, 8⟩ : TI) := by kernel_rfl
theorem tz84 : tiOf Try.prog 84 = some (⟨.func #[3, 3, 24] #[29] false, [.nilFunc], 1, 8⟩ : TI) := by kernel_rfl
theorem tz86 : tiOf Try.prog 86 = some (⟨.func #[22, 48] #[48, 30] false, [.nilFunc], 1, 8⟩ : TI) := by kernel_rfl
theorem tz87 : tiOf Try.prog 87 = some (⟨.func #[26, 26] #[4] false, [.nilFunc], 1, 8⟩ : TI) := by kernel_rfl
theorem tz88 : tiOf Try.prog 88 = some (⟨.func #[27, 27] #[4] false, [.nilFunc], 1, 8⟩ : TI) := by kernel_rfl
theorem tz90 : tiOf Try.prog 90 = some (⟨.func #[29, 3] #[26, 27] false, [.nilFunc], 1, 8⟩ : TI) := by kernel_rfl
theorem tz92 : tiOf Try.prog 92 = some (⟨.func #[26, 3] #[3, 4] false, [.nilFunc], 1, 8⟩ : TI) := by kernel_rfl
theorem tz93 : tiOf Try.prog 93 = some (⟨.struct (flds Try.prog 93), [.int .i64 0, .int .i64 0], 2, 16⟩ : TI) := by kernel_rfl
theorem tz94 : tiOf Try.prog 94 = some (⟨.struct (flds Try.prog 94), [.int .i64 0, .int .i64 0], 2, 16⟩ : TI) := by kernel_rfl
theorem tz95 : tiOf Try.prog 95 = some (⟨.func #[26, 3] #[4] false, [.nilFunc], 1, 8⟩ : TI) := by kernel_rfl
theorem tz96 : tiOf Try.prog 96 = some (⟨.func #[26] #[] false, [.nilFunc], 1, 8⟩ : TI) := by kernel_rfl
theorem tz97 : tiOf Try.prog 97 = some (⟨.func #[26] #[26] false, [.nilFunc], 1, 8⟩ : TI) := by kernel_rfl
theorem tz98 : tiOf Try.prog 98 = some (⟨.func #[23, 3] #[23] false, [.nilFunc], 1, 8⟩ : TI) := by kernel_rfl
theorem tz99 : tiOf Try.prog 99 = some (⟨.func #[3, 3] #[29] false, [.nilFunc], 1, 8⟩ : TI) := by kernel_rfl
theorem tz101 : tiOf Try.prog 101 = some (⟨.func #[68, 3] #[3, 3] false, [.nilFunc], 1, 8⟩ : TI) := by kernel_rfl
theorem tz102 : tiOf Try.prog 102 = some (⟨.func #[126] #[] false, [.nilFunc], 1, 8⟩ : TI) := by kernel_rfl
theorem tz103 : tiOf Try.prog 103 = some (⟨.func #[126] #[] false, [.nilFunc], 1, 8⟩ : TI) := by kernel_rfl
theorem tz104 : tiOf Try.prog 104 = some (⟨.func #[26] #[103] false, [.nilFunc], 1, 8⟩ : TI) := by kernel_rfl
theorem tz105 : tiOf Try.prog 105 = some (⟨.func #[3, 3] #[3] false, [.nilFunc], 1, 8⟩ : TI) := by kernel_rfl
theorem tz106 : tiOf Try.prog 106 = some (⟨.func #[50, 107, 108] #[50] false, [.nilFunc], 1, 8⟩ : TI) := by kernel_rfl
theorem tz107 : tiOf Try.prog 107 = some (⟨.func #[55] #[4] false, [.nilFunc], 1, 8⟩ : TI) := by kernel_rfl
theorem tz108 : tiOf Try.prog 108 = some (⟨.func #[55] #[55] false, [.nilFunc], 1, 8⟩ : TI) := by kernel_rfl
theorem tz109 : tiOf Try.prog 109 = some (⟨.func #[50, 110] #[26] false, [.nilFunc], 1, 8⟩ : TI) := by kernel_rfl
theorem tz110 : tiOf Try.prog 110 = some (⟨.func #[55] #[3] false, [.nilFunc], 1, 8⟩ : TI) := by kernel_rfl
theorem tz111 : tiOf Try.prog 111 = some (⟨.func #[24] #[4] false, [.nilFunc], 1, 8⟩ : TI) := by kernel_rfl
theorem tz113 : tiOf Try.prog 113 = some (⟨.int .u64, [.int .u64 0], 1, 8⟩ : TI) := by kernel_rfl
theorem tz114 : tiOf Try.prog 114 = some (⟨.struct (flds Try.prog 114), [.int .i64 0, .int .u64 0], 2, 16⟩ : TI) := by kernel_rfl
theorem tz115 : tiOf Try.prog 115 = some (⟨.struct (flds Try.prog 115), [.int .i64 0, .int .u64 0], 2, 16⟩ : TI) := by kernel_rfl
theorem tz117 : tiOf Try.prog 117 = some (⟨.func #[22, 115, 115] #[115] false, [.nilFunc], 1, 8⟩ : TI) := by kernel_rfl
theorem tz118 : tiOf Try.prog 118 = some (⟨.func #[2] #[115] false, [.nilFunc], 1, 8⟩ : TI) := by kernel_rfl
theorem tz119 : tiOf Try.prog 119 = some (⟨.func #[22, 115] #[2, 4] false, [.nilFunc], 1, 8⟩ : TI) := by kernel_rfl
theorem tz120 : tiOf Try.prog 120 = some (⟨.func #[24, 121] #[] false, [.nilFunc], 1, 8⟩ : TI) := by kernel_rfl
theorem tz121 : tiOf Try.prog 121 = some (⟨.func #[60, 60] #[3] false, [.nilFunc], 1, 8⟩ : TI) := by kernel_rfl
theorem tz122 : tiOf Try.prog 122 = some (⟨.slice 115, [.slice none 0 0], 1, 24⟩ : TI) := by kernel_rfl
theorem tz123 : tiOf Try.prog 123 = some (⟨.func #[55, 55] #[4] false, [.nilFunc], 1, 8⟩ : TI) := by kernel_rfl
theorem tz124 : tiOf Try.prog 124 = some (⟨.func #[115] #[2, 4] false, [.nilFunc], 1, 8⟩ : TI) := by kernel_rfl
theorem tz125 : tiOf Try.prog 125 = some (⟨.int .u64, [.int .u64 0], 1, 8⟩ : TI) := by kernel_rfl
theorem tz126 : tiOf Try.prog 126 = some (⟨.func #[3, 3] #[4] false, [.nilFunc], 1, 8⟩ : TI) := by kernel_rfl
theorem tz127 : tiOf Try.prog 127 = some (⟨.func #[48, 107] #[4] false, [.nilFunc], 1, 8⟩ : TI) := by kernel_rfl
theorem tz128 : tiOf Try.prog 128 = some (⟨.func #[48] #[4] false, [.nilFunc], 1, 8⟩ : TI) := by kernel_rfl
theorem tz129 : tiOf Try.prog 129 = some (⟨.func #[48] #[48] false, [.nilFunc], 1, 8⟩ : TI) := by kernel_rfl
theorem tz130 : tiOf Try.prog 130 = some (⟨.func #[48, 131] #[] false, [.nilFunc], 1, 8⟩ : TI) := by kernel_rfl
theorem tz131 : tiOf Try.prog 131 = some (⟨.func #[55, 55] #[3] false, [.nilFunc], 1, 8⟩ : TI) := by kernel_rfl
theorem tz132 : tiOf Try.prog 132 = some (⟨.func #[115, 115] #[115] false, [.nilFunc], 1, 8⟩ : TI) := by kernel_rfl
theorem tz133 : tiOf Try.prog 133 = some (⟨.func #[4] #[115] false, [.nilFunc], 1, 8⟩ : TI) := by kernel_rfl
theorem tz134 : tiOf Try.prog 134 = some (⟨.func #[24, 3, 3, 3, 121] #[] false, [.nilFunc], 1, 8⟩ : TI) := by kernel_rfl
theorem tz135 : tiOf Try.prog 135 = some (⟨.func #[125] #[3] false, [.nilFunc], 1, 8⟩ : TI) := by kernel_rfl
theorem tz136 : tiOf Try.prog 136 = some (⟨.func #[26] #[3] true, [.nilFunc], 1, 8⟩ : TI) := by kernel_rfl
theorem tz137 : tiOf Try.prog 137 = some (⟨.func #[115, 115] #[3] false, [.nilFunc], 1, 8⟩ : TI) := by kernel_rfl
theorem tz138 : tiOf Try.prog 138 = some (⟨.func #[48, 107] #[3] false, [.nilFunc], 1, 8⟩ : TI) := by kernel_rfl
theorem tz139 : tiOf Try.prog 139 = some (⟨.func #[48, 3, 3, 3, 131] #[] false, [.nilFunc], 1, 8⟩ : TI) := by kernel_rfl
theorem tz140 : tiOf Try.prog 140 = some (⟨.func #[24, 3, 3, 121] #[] false, [.nilFunc], 1, 8⟩ : TI) := by kernel_rfl
theorem tz141 : tiOf Try.prog 141 = some (⟨.int .i64, [.int .i64 0], 1, 8⟩ : TI) := by kernel_rfl
theorem tz143 : tiOf Try.prog 143 = some (⟨.func #[24, 3, 3, 121] #[3, 141] false, [.nilFunc], 1, 8⟩ : TI) := by kernel_rfl
theorem tz144 : tiOf Try.prog 144 = some (⟨.func #[24, 3, 3, 121] #[4] false, [.nilFunc], 1, 8⟩ : TI) := by kernel_rfl
theorem tz145 : tiOf Try.prog 145 = some (⟨.func #[24, 3, 3, 3, 121] #[3] false, [.nilFunc], 1, 8⟩ : TI) := by kernel_rfl
theorem tz146 : tiOf Try.prog 146 = some (⟨.func #[24, 3, 3, 3, 121] #[3, 4] false, [.nilFunc], 1, 8⟩ : TI) := by kernel_rfl
theorem tz147 : tiOf Try.prog 147 = some (⟨.func #[148] #[3] false, [.nilFunc], 1, 8⟩ : TI) := by kernel_rfl
theorem tz148 : tiOf Try.prog 148 = some (⟨.int .u32, [.int .u32 0], 1, 4⟩ : TI) := by kernel_rfl
theorem tz149 : tiOf Try.prog 149 = some (⟨.func #[113] #[3] false, [.nilFunc], 1, 8⟩ : TI) := by kernel_rfl
theorem tz150 : tiOf Try.prog 150 = some (⟨.func #[48, 3, 3, 131] #[] false, [.nilFunc], 1, 8⟩ : TI) := by kernel_rfl
theorem tz151 : tiOf Try.prog 151 = some (⟨.func #[48, 3, 3, 131] #[3, 141] false, [.nilFunc], 1, 8⟩ : TI) := by kernel_rfl
theorem tz152 : tiOf Try.prog 152 = some (⟨.func #[48, 3, 3, 131] #[4] false, [.nilFunc], 1, 8⟩ : TI) := by kernel_rfl
theorem tz153 : tiOf Try.prog 153 = some (⟨.func #[48, 3, 3, 3, 131] #[3] false, [.nilFunc], 1, 8⟩ : TI) := by kernel_rfl
theorem tz154 : tiOf Try.prog 154 = some (⟨.func #[48, 3, 3, 3, 131] #[3, 4] false, [.nilFunc], 1, 8⟩ : TI) := by kernel_rfl
theorem tz155 : tiOf Try.prog 155 = some (⟨.int .u64, [.int .u64 0], 1, 8⟩ : TI) := by kernel_rfl
theorem tz156 : tiOf Try.prog 156 = some (⟨.func #[3] #[125] false, [.nilFunc], 1, 8⟩ : TI) := by kernel_rfl
theorem tz157 : tiOf Try.prog 157 = some (⟨.func #[] #[113] false, [.nilFunc], 1, 8⟩ : TI) := by kernel_rfl
theorem tz158 : tiOf Try.prog 158 = some (⟨.func #[24, 3, 159, 121] #[3] false, [.nilFunc], 1, 8⟩ : TI) := by kernel_rfl
theorem tz159 : tiOf Try.prog 159 = some (⟨.pointer 3, [.pointer none], 1, 8⟩ : TI) := by kernel_rfl
theorem tz160 : tiOf Try.prog 160 = some (⟨.func #[24, 3, 3, 3, 159, 121] #[3] false, [.nilFunc], 1, 8⟩ : TI) := by kernel_rfl
theorem tz161 : tiOf Try.prog 161 = some (⟨.func #[48, 3, 159, 131] #[3] false, [.nilFunc], 1, 8⟩ : TI) := by kernel_rfl
theorem tz162 : tiOf Try.prog 162 = some (⟨.func #[48, 3, 3, 3, 159, 131] #[3] false, [.nilFunc], 1, 8⟩ : TI) := by kernel_rfl
theorem tz163 : tiOf Try.prog 163 = some (⟨.pointer 155, [.pointer none], 1, 8⟩ : TI) := by kernel_rfl
theorem tz164 : tiOf Try.prog 164 = some (⟨.func #[24, 3, 3, 159, 121] #[3, 3] false, [.nilFunc], 1, 8⟩ : TI) := by kernel_rfl
theorem tz165 : tiOf Try.prog 165 = some (⟨.func #[48, 3, 3, 159, 131] #[3, 3] false, [.nilFunc], 1, 8⟩ : TI) := by kernel_rfl
theorem tz166 : tiOf Try.prog 166 = some (⟨.func #[] #[9] false, [.nilFunc], 1, 8⟩ : TI) := by kernel_rfl
theorem tz169 : tiOf Try.prog 169 = some (⟨.array 0 16, [], 0, 0⟩ : TI) := by kernel_rfl
theorem tz170 : tiOf Try.prog 170 = some (⟨.struct (flds Try.prog 170), [], 0, 0⟩ : TI) := by kernel_rfl
theorem tz171 : tiOf Try.prog 171 = some (⟨.struct (flds Try.prog 171), [], 0, 0⟩ : TI) := by kernel_rfl
theorem tz172 : tiOf Try.prog 172 = some (⟨.func #[] #[3] false, [.nilFunc], 1, 8⟩ : TI) := by kernel_rfl
theorem tz173 : tiOf Try.prog 173 = some (⟨.int .u8, [.int .u8 0], 1, 1⟩ : TI) := by kernel_rfl
theorem tz174 : tiOf Try.prog 174 = some (⟨.int .u8, [.int .u8 0], 1, 1⟩ : TI) := by kernel_rfl
theorem tz175 : tiOf Try.prog 175 = some (⟨.func #[181, 181] #[4] false, [.nilFunc], 1, 8⟩ : TI) := by kernel_rfl
theorem tz176 : tiOf Try.prog 176 = some (⟨.pointer 5, [.pointer none], 1, 8⟩ : TI) := by kernel_rfl
theorem tz177 : tiOf Try.prog 177 = some (⟨.int .i32, [.int .i32 0], 1, 4⟩ : TI) := by kernel_rfl
theorem tz178 : tiOf Try.prog 178 = some (⟨.int .i32, [.int .i32 0], 1, 4⟩ : TI) := by kernel_rfl
theorem tz179 : tiOf Try.prog 179 = some (⟨.struct (flds Try.prog 179), [.int .u64 0, .int .u64 0, .int .u32 0, .int .u8 0, .int .u8 0, .int .u8 0, .int .u8 0, .nilFunc, .pointer none, .int .i32 0, .int .i32 0], 11, 48⟩ : TI) := by kernel_rfl
theorem tz180 : tiOf Try.prog 180 = some (⟨.struct (flds Try.prog 180), [.int .u64 0, .int .u64 0, .int .u32 0, .int .u8 0, .int .u8 0, .int .u8 0, .int .u8 0, .nilFunc, .pointer none, .int .i32 0, .int .i32 0], 11, 48⟩ : TI) := by kernel_rfl
theorem mixed0 : Try.prog.follows .mixedOrders = true := by kernel_rfl
theorem names0 : namesOk Try.prog = true := by kernel_rfl
def inlF : List TD → Option (Kind × List TD) := fun _ => none
theorem kqeql60 (x y : Operand) (a0 b0 a1 b1 a2 b2 : Int) : pureOf Try.prog (do eqGuard .eql 60 x y (.agg #[.int .i64 a0, .int .i64 a1, .int .i64 a2]) (.agg #[.int .i64 b0, .int .i64 b1, .int .i64 b2]); binOp .eql 60 (.agg #[.int .i64 a0, .int .i64 a1, .int .i64 a2]) (.agg #[.int .i64 b0, .int .i64 b1, .int .i64 b2])) = some (.bool ((a0 == b0 && (a1 == b1 && (a2 == b2 && true))))) := by
 refine pof_eqlA (by kernel_rfl) ((pof_struct 9999 60 #[.int .i64 a0, .int .i64 a1, .int .i64 a2] #[.int .i64 b0, .int .i64 b1, .int .i64 b2] (fs := flds Try.prog 59) (by kernel_rfl) (by kernel_rfl)).trans ?_)
 rw [show (flds Try.prog 59).toList = [fld Try.prog 59 0, fld Try.prog 59 1, fld Try.prog 59 2] by kernel_rfl]
 exact ((pof_field (k := .i64) (k' := .i64) (by kernel_rfl) (by kernel_rfl) (by kernel_rfl) (by kernel_rfl)).trans (and_of ((pof_field (k := .i64) (k' := .i64) (by kernel_rfl) (by kernel_rfl) (by kernel_rfl) (by kernel_rfl)).trans (and_of ((pof_field (k := .i64) (k' := .i64) (by kernel_rfl) (by kernel_rfl) (by kernel_rfl) (by kernel_rfl)).trans (and_of pof_nofield))))))
theorem kqneq60 (x y : Operand) (a0 b0 a1 b1 a2 b2 : Int) : pureOf Try.prog (do eqGuard .neq 60 x y (.agg #[.int .i64 a0, .int .i64 a1, .int .i64 a2]) (.agg #[.int .i64 b0, .int .i64 b1, .int .i64 b2]); binOp .neq 60 (.agg #[.int .i64 a0, .int .i64 a1, .int .i64 a2]) (.agg #[.int .i64 b0, .int .i64 b1, .int .i64 b2])) = some (.bool (!(a0 == b0 && (a1 == b1 && (a2 == b2 && true))))) := by
 refine pof_neqA (by kernel_rfl) ((pof_struct 9999 60 #[.int .i64 a0, .int .i64 a1, .int .i64 a2] #[.int .i64 b0, .int .i64 b1, .int .i64 b2] (fs := flds Try.prog 59) (by kernel_rfl) (by kernel_rfl)).trans ?_)
 rw [show (flds Try.prog 59).toList = [fld Try.prog 59 0, fld Try.prog 59 1, fld Try.prog 59 2] by kernel_rfl]
 exact ((pof_field (k := .i64) (k' := .i64) (by kernel_rfl) (by kernel_rfl) (by kernel_rfl) (by kernel_rfl)).trans (and_of ((pof_field (k := .i64) (k' := .i64) (by kernel_rfl) (by kernel_rfl) (by kernel_rfl) (by kernel_rfl)).trans (and_of ((pof_field (k := .i64) (k' := .i64) (by kernel_rfl) (by kernel_rfl) (by kernel_rfl) (by kernel_rfl)).trans (and_of pof_nofield))))))
theorem kqeql94 (x y : Operand) (a0 b0 a1 b1 : Int) : pureOf Try.prog (do eqGuard .eql 94 x y (.agg #[.int .i64 a0, .int .i64 a1]) (.agg #[.int .i64 b0, .int .i64 b1]); binOp .eql 94 (.agg #[.int .i64 a0, .int .i64 a1]) (.agg #[.int .i64 b0, .int .i64 b1])) = some (.bool ((a0 == b0 && (a1 == b1 && true)))) := by
 refine pof_eqlA (by kernel_rfl) ((pof_struct 9999 94 #[.int .i64 a0, .int .i64 a1] #[.int .i64 b0, .int .i64 b1] (fs := flds Try.prog 93) (by kernel_rfl) (by kernel_rfl)).trans ?_)
 rw [show (flds Try.prog 93).toList = [fld Try.prog 93 0, fld Try.prog 93 1] by kernel_rfl]
 exact ((pof_field (k := .i64) (k' := .i64) (by kernel_rfl) (by kernel_rfl) (by kernel_rfl) (by kernel_rfl)).trans (and_of ((pof_field (k := .i64) (k' := .i64) (by kernel_rfl) (by kernel_rfl) (by kernel_rfl) (by kernel_rfl)).trans (and_of pof_nofield))))
theorem kqneq94 (x y : Operand) (a0 b0 a1 b1 : Int) : pureOf Try.prog (do eqGuard .neq 94 x y (.agg #[.int .i64 a0, .int .i64 a1]) (.agg #[.int .i64 b0, .int .i64 b1]); binOp .neq 94 (.agg #[.int .i64 a0, .int .i64 a1]) (.agg #[.int .i64 b0, .int .i64 b1])) = some (.bool (!(a0 == b0 && (a1 == b1 && true)))) := by
 refine pof_neqA (by kernel_rfl) ((pof_struct 9999 94 #[.int .i64 a0, .int .i64 a1] #[.int .i64 b0, .int .i64 b1] (fs := flds Try.prog 93) (by kernel_rfl) (by kernel_rfl)).trans ?_)
 rw [show (flds Try.prog 93).toList = [fld Try.prog 93 0, fld Try.prog 93 1] by kernel_rfl]
 exact ((pof_field (k := .i64) (k' := .i64) (by kernel_rfl) (by kernel_rfl) (by kernel_rfl) (by kernel_rfl)).trans (and_of ((pof_field (k := .i64) (k' := .i64) (by kernel_rfl) (by kernel_rfl) (by kernel_rfl) (by kernel_rfl)).trans (and_of pof_nofield))))
theorem kqeql115 (x y : Operand) (a0 b0 a1 b1 : Int) : pureOf Try.prog (do eqGuard .eql 115 x y (.agg #[.int .i64 a0, .int .u64 a1]) (.agg #[.int .i64 b0, .int .u64 b1]); binOp .eql 115 (.agg #[.int .i64 a0, .int .u64 a1]) (.agg #[.int .i64 b0, .int .u64 b1])) = some (.bool ((a0 == b0 && (a1 == b1 && true)))) := by
 refine pof_eqlA (by kernel_rfl) ((pof_struct 9999 115 #[.int .i64 a0, .int .u64 a1] #[.int .i64 b0, .int .u64 b1] (fs := flds Try.prog 114) (by kernel_rfl) (by kernel_rfl)).trans ?_)
 rw [show (flds Try.prog 114).toList = [fld Try.prog 114 0, fld Try.prog 114 1] by kernel_rfl]
 exact ((pof_field (k := .i64) (k' := .i64) (by kernel_rfl) (by kernel_rfl) (by kernel_rfl) (by kernel_rfl)).trans (and_of ((pof_field (k := .u64) (k' := .u64) (by kernel_rfl) (by kernel_rfl) (by kernel_rfl) (by kernel_rfl)).trans (and_of pof_nofield))))
theorem kqneq115 (x y : Operand) (a0 b0 a1 b1 : Int) : pureOf Try.prog (do eqGuard .neq 115 x y (.agg #[.int .i64 a0, .int .u64 a1]) (.agg #[.int .i64 b0, .int .u64 b1]); binOp .neq 115 (.agg #[.int .i64 a0, .int .u64 a1]) (.agg #[.int .i64 b0, .int .u64 b1])) = some (.bool (!(a0 == b0 && (a1 == b1 && true)))) := by
 refine pof_neqA (by kernel_rfl) ((pof_struct 9999 115 #[.int .i64 a0, .int .u64 a1] #[.int .i64 b0, .int .u64 b1] (fs := flds Try.prog 114) (by kernel_rfl) (by kernel_rfl)).trans ?_)
 rw [show (flds Try.prog 114).toList = [fld Try.prog 114 0, fld Try.prog 114 1] by kernel_rfl]
 exact ((pof_field (k := .i64) (k' := .i64) (by kernel_rfl) (by kernel_rfl) (by kernel_rfl) (by kernel_rfl)).trans (and_of ((pof_field (k := .u64) (k' := .u64) (by kernel_rfl) (by kernel_rfl) (by kernel_rfl) (by kernel_rfl)).trans (and_of pof_nofield))))
def EQS : List (Nat × List IntKind) := [(60, [.i64, .i64, .i64]), (94, [.i64, .i64]), (115, [.i64, .u64])]
noncomputable def fi6 : FI := fiF Try.f6
noncomputable def fi7 : FI := fiF Try.f7
noncomputable def fi8 : FI := fiF Try.f8
noncomputable def fi14 : FI := fiF Try.f14
noncomputable def fi15 : FI := fiF Try.f15
noncomputable def fi16 : FI := fiF Try.f16
noncomputable def fi19 : FI := fiF Try.f19
noncomputable def fi21 : FI := fiF Try.f21
noncomputable def fi23 : FI := fiF Try.f23
noncomputable def fi29 : FI := fiF Try.f29
noncomputable def fi31 : FI := fiF Try.f31
noncomputable def fi33 : FI := fiF Try.f33
noncomputable def fi35 : FI := fiF Try.f35
noncomputable def fi39 : FI := fiF Try.f39
noncomputable def fi40 : FI := fiF Try.f40
noncomputable def fi41 : FI := fiF Try.f41
noncomputable def fi62 : FI := fiF Try.f62
noncomputable def fi63 : FI := fiF Try.f63
noncomputable def fi65 : FI := fiF Try.f65
noncomputable def fi66 : FI := fiF Try.f66
noncomputable def fi67 : FI := fiF Try.f67
noncomputable def fi70 : FI := fiF Try.f70
noncomputable def fi71 : FI := fiF Try.f71
noncomputable def fi72 : FI := fiF Try.f72
noncomputable def fi73 : FI := fiF Try.f73
noncomputable def fi75 : FI := fiF Try.f75
noncomputable def fi76 : FI := fiF Try.f76
noncomputable def fi77 : FI := fiF Try.f77
noncomputable def fi78 : FI := fiF Try.f78
noncomputable def fi79 : FI := fiF Try.f79
noncomputable def fi81 : FI := fiF Try.f81
noncomputable def fi94 : FI := fiF Try.f94
noncomputable def fi95 : FI := fiF Try.f95
noncomputable def fi96 : FI := fiF Try.f96
noncomputable def fi97 : FI := fiF Try.f97
noncomputable def fi99 : FI := fiF Try.f99
noncomputable def fi100 : FI := fiF Try.f100
noncomputable def fi101 : FI := fiF Try.f101
noncomputable def fi102 : FI := fiF Try.f102
noncomputable def fi103 : FI := fiF Try.f103
noncomputable def fi104 : FI := fiF Try.f104
noncomputable def fi105 : FI := fiF Try.f105
noncomputable def fi111 : FI := fiF Try.f111
noncomputable def fi114 : FI := fiF Try.f114
noncomputable def fi115 : FI := fiF Try.f115
noncomputable def fi116 : FI := fiF Try.f116
noncomputable def fi117 : FI := fiF Try.f117
noncomputable def fi118 : FI := fiF Try.f118
noncomputable def fi121 : FI := fiF Try.f121
noncomputable def fi122 : FI := fiF Try.f122
noncomputable def fi123 : FI := fiF Try.f123
noncomputable def fi124 : FI := fiF Try.f124
noncomputable def fi125 : FI := fiF Try.f125
noncomputable def fi126 : FI := fiF Try.f126
noncomputable def fi129 : FI := fiF Try.f129
end K
end Ev
end Go.Proofs.Ytlkcneneagifoaa
end
section
namespace Go.Proofs.Ytlkcneneagifoaa
namespace Ev
namespace K
open Go Go.RowKit
set_option linter.unusedVariables false
set_option linter.unusedSimpArgs false
set_option maxRecDepth 100000
set_option maxHeartbeats 1000000
def wide_Of_A : AnnK := []
noncomputable def wide_Of_G : KG := ⟨TT, EQS, [], []⟩
noncomputable def wide_Of : vals [(false, .I .i64)] → Option (OutK.val (.data true [(true, .C (.I .i64) (.I .u64))])) := funK wide_Of_G wide_Of_A fi96 96 0 [(false, .I .i64)] (.data true [(true, .C (.I .i64) (.I .u64))])
noncomputable def wide_Of_E : Entry := ⟨96, [(false, .I .i64)], .data true [(true, .C (.I .i64) (.I .u64))], wide_Of, 1⟩
def wide_Compare_A : AnnK := []
noncomputable def wide_Compare_G : KG := ⟨TT, EQS, [], []⟩
noncomputable def wide_Compare : vals [(true, .C (.I .i64) (.I .u64)), (true, .C (.I .i64) (.I .u64))] → Option (OutK.val (.data true [(false, .I .i64)])) := funK wide_Compare_G wide_Compare_A fi129 129 0 [(true, .C (.I .i64) (.I .u64)), (true, .C (.I .i64) (.I .u64))] (.data true [(false, .I .i64)])
noncomputable def wide_Compare_E : Entry := ⟨129, [(true, .C (.I .i64) (.I .u64)), (true, .C (.I .i64) (.I .u64))], .data true [(false, .I .i64)], wide_Compare, 1⟩
def ring_lesser_A : AnnK := []
noncomputable def ring_lesser_G : KG := ⟨TT, EQS, [wide_Compare_E], []⟩
noncomputable def ring_lesser : vals [(true, .C (.I .i64) (.I .u64)), (true, .C (.I .i64) (.I .u64))] → Option (OutK.val (.data true [(true, .C (.I .i64) (.I .u64))])) := funK ring_lesser_G ring_lesser_A fi115 115 0 [(true, .C (.I .i64) (.I .u64)), (true, .C (.I .i64) (.I .u64))] (.data true [(true, .C (.I .i64) (.I .u64))])
noncomputable def ring_lesser_E : Entry := ⟨115, [(true, .C (.I .i64) (.I .u64)), (true, .C (.I .i64) (.I .u64))], .data true [(true, .C (.I .i64) (.I .u64))], ring_lesser, 2⟩
def ring_truth_A : AnnK := []
noncomputable def ring_truth_G : KG := ⟨TT, EQS, [wide_Of_E], []⟩
noncomputable def ring_truth : vals [(false, .B)] → Option (OutK.val (.data true [(true, .C (.I .i64) (.I .u64))])) := funK ring_truth_G ring_truth_A fi116 116 0 [(false, .B)] (.data true [(true, .C (.I .i64) (.I .u64))])
noncomputable def ring_truth_E : Entry := ⟨116, [(false, .B)], .data true [(true, .C (.I .i64) (.I .u64))], ring_truth, 2⟩
def wide_Add_A : AnnK := []
noncomputable def wide_Add_G : KG := ⟨TT, EQS, [], []⟩
noncomputable def wide_Add : vals [(true, .C (.I .i64) (.I .u64)), (true, .C (.I .i64) (.I .u64))] → Option (OutK.val (.data true [(true, .C (.I .i64) (.I .u64))])) := funK wide_Add_G wide_Add_A fi117 117 0 [(true, .C (.I .i64) (.I .u64)), (true, .C (.I .i64) (.I .u64))] (.data true [(true, .C (.I .i64) (.I .u64))])
noncomputable def wide_Add_E : Entry := ⟨117, [(true, .C (.I .i64) (.I .u64)), (true, .C (.I .i64) (.I .u64))], .data true [(true, .C (.I .i64) (.I .u64))], wide_Add, 1⟩
def ring_Add_A : AnnK := [(95, ⟨[⟨true, 2, 9, [4, 5, 6, 7], ⟨[], [], []⟩, [(.normal, ⟨[(8, false, [.d true .B])], [], []⟩)]⟩], []⟩)]
noncomputable def ring_Add_G : KG := ⟨TT, EQS, [ring_lesser_E, ring_truth_E, wide_Add_E], []⟩
noncomputable def ring_Add : vals [(false, .I .i64), (true, .C (.I .i64) (.I .u64)), (true, .C (.I .i64) (.I .u64))] → Option (OutK.val (.data true [(true, .C (.I .i64) (.I .u64))])) := funK ring_Add_G ring_Add_A fi95 95 0 [(false, .I .i64), (true, .C (.I .i64) (.I .u64)), (true, .C (.I .i64) (.I .u64))] (.data true [(true, .C (.I .i64) (.I .u64))])
noncomputable def ring_Add_E : Entry := ⟨95, [(false, .I .i64), (true, .C (.I .i64) (.I .u64)), (true, .C (.I .i64) (.I .u64))], .data true [(true, .C (.I .i64) (.I .u64))], ring_Add, 3⟩
def wide_Narrow_A : AnnK := []
noncomputable def wide_Narrow_G : KG := ⟨TT, EQS, [wide_Of_E], []⟩
noncomputable def wide_Narrow : vals [(true, .C (.I .i64) (.I .u64))] → Option (OutK.val (.data true [(false, .I .i64), (false, .B)])) := funK wide_Narrow_G wide_Narrow_A fi118 118 0 [(true, .C (.I .i64) (.I .u64))] (.data true [(false, .I .i64), (false, .B)])
noncomputable def wide_Narrow_E : Entry := ⟨118, [(true, .C (.I .i64) (.I .u64))], .data true [(false, .I .i64), (false, .B)], wide_Narrow, 2⟩
def ring_Narrow_A : AnnK := []
noncomputable def ring_Narrow_G : KG := ⟨TT, EQS, [wide_Narrow_E], []⟩
noncomputable def ring_Narrow : vals [(false, .I .i64), (true, .C (.I .i64) (.I .u64))] → Option (OutK.val (.data true [(false, .I .i64), (false, .B)])) := funK ring_Narrow_G ring_Narrow_A fi97 97 0 [(false, .I .i64), (true, .C (.I .i64) (.I .u64))] (.data true [(false, .I .i64), (false, .B)])
noncomputable def ring_Narrow_E : Entry := ⟨97, [(false, .I .i64), (true, .C (.I .i64) (.I .u64))], .data true [(false, .I .i64), (false, .B)], ring_Narrow, 3⟩
def cmp_Or_int_A : AnnK := [(121, ⟨[⟨false, 3, 0, [3, 6, 7], ⟨[(8, false, [.d true (.I .i64)])], [], []⟩, [(.exit 0, ⟨[], [], []⟩), (.ret, ⟨[(2, false, [.d true (.I .i64)])], [], []⟩)]⟩], []⟩)]
noncomputable def cmp_Or_int_G : KG := ⟨TT, EQS, [], []⟩
noncomputable def cmp_Or_int : vals [(false, .S (.I .i64))] → Option (OutK.val (.data true [(false, .I .i64)])) := funK cmp_Or_int_G cmp_Or_int_A fi121 121 0 [(false, .S (.I .i64))] (.data true [(false, .I .i64)])
noncomputable def cmp_Or_int_E : Entry := ⟨121, [(false, .S (.I .i64))], .data true [(false, .I .i64)], cmp_Or_int, 1⟩
def cmp_isNaN_int_A : AnnK := []
noncomputable def cmp_isNaN_int_G : KG := ⟨TT, EQS, [], []⟩
noncomputable def cmp_isNaN_int : vals [(false, .I .i64)] → Option (OutK.val (.data true [(false, .B)])) := funK cmp_isNaN_int_G cmp_isNaN_int_A fi126 126 0 [(false, .I .i64)] (.data true [(false, .B)])
noncomputable def cmp_isNaN_int_E : Entry := ⟨126, [(false, .I .i64)], .data true [(false, .B)], cmp_isNaN_int, 1⟩
def cmp_Compare_int_A : AnnK := []
noncomputable def cmp_Compare_int_G : KG := ⟨TT, EQS, [cmp_isNaN_int_E], []⟩
noncomputable def cmp_Compare_int : vals [(false, .I .i64), (false, .I .i64)] → Option (OutK.val (.data true [(false, .I .i64)])) := funK cmp_Compare_int_G cmp_Compare_int_A fi122 122 0 [(false, .I .i64), (false, .I .i64)] (.data true [(false, .I .i64)])
noncomputable def cmp_Compare_int_E : Entry := ⟨122, [(false, .I .i64), (false, .I .i64)], .data true [(false, .I .i64)], cmp_Compare_int, 2⟩
def csr_byPlace_A : AnnK := [(99, ⟨[], [(1, ⟨[[], [], [], [], [], [], [], [], [], [], [], [], []], [(false, []), (false, []), (false, []), (false, []), (false, []), (false, []), (false, []), (false, []), (false, []), (false, []), (true, []), (false, []), (false, [])]⟩)]⟩)]
noncomputable def csr_byPlace_G : KG := ⟨TT, EQS, [cmp_Or_int_E, cmp_Compare_int_E], []⟩
noncomputable def csr_byPlace : vals [(true, .C (.I .i64) (.C (.I .i64) (.I .i64))), (true, .C (.I .i64) (.C (.I .i64) (.I .i64)))] → Option (OutK.val (.data true [(false, .I .i64)])) := funK csr_byPlace_G csr_byPlace_A fi99 99 0 [(true, .C (.I .i64) (.C (.I .i64) (.I .i64))), (true, .C (.I .i64) (.C (.I .i64) (.I .i64)))] (.data true [(false, .I .i64)])
noncomputable def csr_byPlace_E : Entry := ⟨99, [(true, .C (.I .i64) (.C (.I .i64) (.I .i64))), (true, .C (.I .i64) (.C (.I .i64) (.I .i64)))], .data true [(false, .I .i64)], csr_byPlace, 3⟩
def csr_inOrder_A : AnnK := [(94, ⟨[⟨false, 2, 0, [0], ⟨[(3, false, [.d true (.I .i64)])], [], []⟩, [(.exit 0, ⟨[], [], []⟩), (.ret, ⟨[(2, false, [.d true .B])], [], []⟩)]⟩], []⟩)]
noncomputable def csr_inOrder_G : KG := ⟨TT, EQS, [csr_byPlace_E], []⟩
noncomputable def csr_inOrder : vals [(false, .S (.C (.I .i64) (.C (.I .i64) (.I .i64))))] → Option (OutK.val (.data true [(false, .B)])) := funK csr_inOrder_G csr_inOrder_A fi94 94 0 [(false, .S (.C (.I .i64) (.C (.I .i64) (.I .i64))))] (.data true [(false, .B)])
noncomputable def csr_inOrder_E : Entry := ⟨94, [(false, .S (.C (.I .i64) (.C (.I .i64) (.I .i64))))], .data true [(false, .B)], csr_inOrder, 4⟩
def ring_Is_A : AnnK := []
noncomputable def ring_Is_G : KG := ⟨TT, EQS, [], []⟩
noncomputable def ring_Is : vals [(false, .I .i64)] → Option (OutK.val (.data true [(false, .B)])) := funK ring_Is_G ring_Is_A fi62 62 0 [(false, .I .i64)] (.data true [(false, .B)])
noncomputable def ring_Is_E : Entry := ⟨62, [(false, .I .i64)], .data true [(false, .B)], ring_Is, 1⟩
def edges_byEnds_A : AnnK := [(114, ⟨[], [(1, ⟨[[], [], [], [], [], [], [], [], [], [], [], [], []], [(false, []), (false, []), (false, []), (false, []), (false, []), (false, []), (false, []), (false, []), (false, []), (false, []), (true, []), (false, []), (false, [])]⟩)]⟩)]
noncomputable def edges_byEnds_G : KG := ⟨TT, EQS, [cmp_Or_int_E, cmp_Compare_int_E], []⟩
noncomputable def edges_byEnds : vals [(true, .C (.I .i64) (.C (.I .i64) (.I .i64))), (true, .C (.I .i64) (.C (.I .i64) (.I .i64)))] → Option (OutK.val (.data true [(false, .I .i64)])) := funK edges_byEnds_G edges_byEnds_A fi114 114 0 [(true, .C (.I .i64) (.C (.I .i64) (.I .i64))), (true, .C (.I .i64) (.C (.I .i64) (.I .i64)))] (.data true [(false, .I .i64)])
noncomputable def edges_byEnds_E : Entry := ⟨114, [(true, .C (.I .i64) (.C (.I .i64) (.I .i64))), (true, .C (.I .i64) (.C (.I .i64) (.I .i64)))], .data true [(false, .I .i64)], edges_byEnds, 3⟩
def edges_Rises_A : AnnK := [(111, ⟨[⟨false, 2, 0, [0], ⟨[(3, false, [.d true (.I .i64)])], [], []⟩, [(.exit 0, ⟨[], [], []⟩), (.ret, ⟨[(2, false, [.d true .B])], [], []⟩)]⟩], []⟩)]
noncomputable def edges_Rises_G : KG := ⟨TT, EQS, [edges_byEnds_E], []⟩
noncomputable def edges_Rises : vals [(false, .S (.C (.I .i64) (.C (.I .i64) (.I .i64))))] → Option (OutK.val (.data true [(false, .B)])) := funK edges_Rises_G edges_Rises_A fi111 111 0 [(false, .S (.C (.I .i64) (.C (.I .i64) (.I .i64))))] (.data true [(false, .B)])
noncomputable def edges_Rises_E : Entry := ⟨111, [(false, .S (.C (.I .i64) (.C (.I .i64) (.I .i64))))], .data true [(false, .B)], edges_Rises, 4⟩
end K
end Ev
end Go.Proofs.Ytlkcneneagifoaa
end
section
namespace Go.Proofs.Ytlkcneneagifoaa
namespace Ev
namespace K
open Go Go.RowKit
set_option linter.unusedVariables false
set_option linter.unusedSimpArgs false
def rowsT {α : Type} (f : List T → Option α) : List (List T) → Option (List α)
 | [] => some []
 | a :: r => (f a).bind fun x => (rowsT f r).map (x :: ·)
theorem rowsT_map {α : Type} {f : List T → Option α} {g : α → List T} (h : ∀ x, f (g x) = some x) : ∀ l : List α, rowsT f (l.map g) = some l
 | [] => rfl
 | x :: l => by simp only [List.map_cons, rowsT, h, Option.bind_some, rowsT_map h l, Option.map_some]
theorem rowsT_some {α : Type} {f : List T → Option α} {g : α → List T} (h : ∀ a x, f a = some x → a = g x) : ∀ {l : List (List T)} {r : List α}, rowsT f l = some r → l = r.map g
 | [], r, hr => by simp [rowsT] at hr; subst hr; rfl
 | a :: l, r, hr => by
  simp only [rowsT, Option.bind_eq_some_iff, Option.map_eq_some_iff] at hr
  obtain ⟨x, hx, r', hr', rfl⟩ := hr
  rw [List.map_cons, ← h a x hx, ← rowsT_some h hr']
def decT : (e : Ty) → List T → Option e.val
 | .I k, l => match l with
  | [.v (.int k' n)] => if k' = k then some n else none
  | _ => none
 | .B, l => match l with
  | [.v (.bool b)] => some b
  | _ => none
 | .S e, l => match l with
  | [.s nn sz rows] => (rowsT (decT e) rows).map fun r => ⟨nn, sz, r⟩
  | _ => none
 | .U, l => match l with
  | [] => some ()
  | _ => none
 | .C a b, l => (decT a (l.take a.size)).bind fun x => (decT b (l.drop a.size)).bind fun y => some (x, y)
theorem decT_row : ∀ (e : Ty) (x : e.val), decT e (e.row x) = some x
 | .I k, x => by simp [decT, Ty.row, iT]
 | .B, x => by simp [decT, Ty.row, bT]
 | .S e, x => by
  simp only [decT, Ty.row, Sl.t]
  rw [rowsT_map (decT_row e)]; rfl
 | .U, x => rfl
 | .C a b, x => by
  show ((decT a ((a.row x.1 ++ b.row x.2).take a.size)).bind fun x1 => (decT b ((a.row x.1 ++ b.row x.2).drop a.size)).bind fun y => some (x1, y)) = some x
  have e1 : (a.row x.1 ++ b.row x.2).take a.size = a.row x.1 := by rw [List.take_append_of_le_length (by rw [row_len]; exact Nat.le_refl _), List.take_of_length_le (by rw [row_len]; exact Nat.le_refl _)]
  have e2 : (a.row x.1 ++ b.row x.2).drop a.size = b.row x.2 := by rw [← row_len a x.1, List.drop_left]
  rw [e1, decT_row a, Option.bind_some, e2, decT_row b]; rfl
theorem decT_some : ∀ (e : Ty) (l : List T) (x : e.val), decT e l = some x → l = e.row x
 | .I k, l, x, h => by
  simp only [decT] at h
  split at h
  ·split at h
   ·rename_i hk; cases h; subst hk; rfl
   ·simp at h
  ·simp at h
 | .B, l, x, h => by
  simp only [decT] at h
  split at h
  ·cases h; rfl
  ·simp at h
 | .S e, l, x, h => by
  simp only [decT] at h
  split at h
  ·rw [Option.map_eq_some_iff] at h
   obtain ⟨r, hr, rfl⟩ := h
   rw [rowsT_some (decT_some e) hr]; rfl
  ·simp at h
 | .U, l, x, h => by
  simp only [decT] at h
  split at h
  ·rfl
  ·simp at h
 | .C a b, l, x, h => by
  simp only [decT, Option.bind_eq_some_iff] at h
  obtain ⟨x1, h1, x2, h2, h3⟩ := h
  cases h3
  show l = a.row x1 ++ b.row x2
  rw [← decT_some a _ _ h1, ← decT_some b _ _ h2, List.take_append_drop]
def decTD (t : TyD) (d : TD) : Option t.2.val :=
 match t, d with
 | (true, e), .agg l => decT e l
 | (false, e), .one y => decT e [y]
 | (false, e), .agg l => if l.length = 1 then none else decT e l
 | _, _ => none
def oneTD : List T → TD
 | [y] => .one y
 | ys => .agg ys
theorem tdOf_row (e : Ty) (x : e.val) : tdOf (false, e) x = oneTD (e.row x) := by
 unfold tdOf oneTD
 rfl
theorem decTD_of (t : TyD) (x : t.2.val) : decTD t (tdOf t x) = some x := by
 obtain ⟨b, e⟩ := t
 have h := decT_row e x
 cases b with
 | true => exact h
 | false =>
  change e.val at x
  rw [show tdOf (false, e) x = _ from tdOf_row e x]
  generalize e.row x = l at h
  match l, h with
  | [], h => exact h
  | [y], h => exact h
  | a :: b :: r, h =>
   show (if (a :: b :: r).length = 1 then none else decT e (a :: b :: r)) = some x
   rw [if_neg (by simp)]; exact h
theorem decTD_some (t : TyD) (d : TD) (x : t.2.val) (h : decTD t d = some x) : d = tdOf t x := by
 obtain ⟨b, e⟩ := t
 cases b with
 | true =>
  cases d with
  | one y => simp [decTD] at h
  | agg l => exact congrArg TD.agg (decT_some e l x h)
 | false =>
  change e.val at x
  cases d with
  | one y => rw [show tdOf (false, e) x = _ from tdOf_row e x, ← decT_some e [y] x h]; rfl
  | agg l =>
   simp only [decTD] at h
   split at h
   ·simp at h
   ·rename_i hl
    have := decT_some e l x h
    rw [show tdOf (false, e) x = _ from tdOf_row e x, ← this]
    match l, hl with
    | [], _ => rfl
    | [y], hl => simp at hl
    | a :: b :: r, _ => rfl
def decTDs : (ts : List TyD) → List TD → Option (vals ts)
 | [], l => match l with
  | [] => some ()
  | _ => none
 | [t], l => match l with
  | [d] => decTD t d
  | _ => none
 | t :: t' :: r, l => match l with
  | d :: ds => (decTD t d).bind fun x => (decTDs (t' :: r) ds).bind fun y => some (x, y)
  | [] => none
theorem decTDs_of : ∀ (ts : List TyD) (x : vals ts), decTDs ts (tdsOf ts x) = some x
 | [], _ => rfl
 | [t], x => decTD_of t x
 | t :: t' :: r, x => by
  show (decTD t (tdOf t x.1)).bind _ = _
  rw [decTD_of t x.1, Option.bind_some, decTDs_of (t' :: r) x.2]; rfl
theorem decTDs_some : ∀ (ts : List TyD) (l : List TD) (x : vals ts), decTDs ts l = some x → l = tdsOf ts x
 | [], l, x, h => by
  simp only [decTDs] at h
  split at h
  ·rfl
  ·simp at h
 | [t], l, x, h => by
  simp only [decTDs] at h
  split at h
  ·exact congrArg (· :: []) (decTD_some t _ x h)
  ·simp at h
 | t :: t' :: r, l, x, h => by
  simp only [decTDs] at h
  split at h
  ·simp only [Option.bind_eq_some_iff] at h
   obtain ⟨y, h1, z, h2, h3⟩ := h
   cases h3
   show _ = tdOf t y :: tdsOf (t' :: r) z
   rw [← decTD_some t _ y h1, ← decTDs_some (t' :: r) _ z h2]
  ·simp at h
def handF (ins : List TyD) (kind : Kind) (ts : List TyD) (g : vals ins → Option (vals ts)) (vs : List TD) : Option (Kind × List TD) := (decTDs ins vs).bind fun a => (g a).bind fun x => some (kind, tdsOf ts x)
theorem hand_ax {P : Program} {k : FuncId} {ins : List TyD} {kind : Kind} {ts : List TyD} {g : vals ins → Option (vals ts)} (he : Enters P k) (h : ∀ a x, g a = some x → PureOk P k (tdsOf ins a) kind (tdsOf ts x)) : ∀ vs kind' rs, handF ins kind ts g vs = some (kind', rs) → PureOk P k vs kind' rs ∧ Enters P k := by
 intro vs kind' rs hf
 simp only [handF, Option.bind_eq_some_iff] at hf
 obtain ⟨a, h1, x, h2, h3⟩ := hf
 cases h3
 rw [decTDs_some ins vs a h1]
 exact ⟨h a x h2, he⟩
theorem hand_runs {E : Env} {k : FuncId} {ins : List TyD} {kind : Kind} {ts : List TyD} {g : vals ins → Option (vals ts)} (hx : E.ax k = some (handF ins kind ts g)) (n : Nat) (a : vals ins) (x : vals ts) (h : g a = some x) : RunsP E (n + 1) k (tdsOf ins a) (kind, tdsOf ts x) :=
 runsP_ax hx (by simp only [handF, decTDs_of, Option.bind_some, h])
theorem hand_any {E : Env} {k : FuncId} {ins : List TyD} {ts : List TyD} {g : vals ins → Option (vals ts)} (hx : E.ax k = some (handF ins .any ts g)) : EntryOk E ⟨k, ins, .data false ts, g, 1⟩ := fun m a x h => ⟨false, hand_runs hx m a x h⟩
end K
end Ev
end Go.Proofs.Ytlkcneneagifoaa
end
section
namespace Go.Proofs.Ytlkcneneagifoaa
open Go.RowKit Go.Sort
def Has (w : World) (b : Nat) : Prop := b < w.heap.size
def Rest (w : World) (os : Array Obj) (b : Nat) : Prop := w.heap.size ≤ b ∧ b < w.heap.size + os.size
theorem Has.of {w : World} {b : Nat} (h : b < w.heap.size) : Has w b := h
@[go_sem] theorem has_alloc (w : World) (o : Obj) (b : Nat) : Has (w.alloc o) b = (b = w.heap.size ∨ Has w b) := by
 unfold Has; simp; omega
@[go_sem] theorem has_grow (w : World) (d : Nat) (os : Array Obj) (b : Nat) : Has (grow (redrawn w d) os) b = (Has w b ∨ Rest w os b) := by
 unfold Has Rest; simp [grow, redrawn]; omega
@[go_sem] theorem has_setCell (w : World) (a : Addr) (v : Value) (b : Nat) : Has (w.setCell a v) b = Has w b := by
 unfold Has; simp [World.setCell]
@[go_sem] theorem has_drew (w : World) (b : Nat) : Has w.drew b = Has w b := rfl
@[go_sem] theorem cell_gr {w : World} {d : Nat} {os : Array Obj} {a : Addr} (h : Has w a.block) : (grow (redrawn w d) os).cell? a = w.cell? a :=
 (below_regrown w d os).cell h
@[go_sem] theorem frozen_gr {w : World} {d : Nat} {os : Array Obj} {a : Addr} (h : Has w a.block) : (grow (redrawn w d) os).frozen? a = w.frozen? a :=
 (below_regrown w d os).frozen h
@[go_sem] theorem cell_al {w : World} {o : Obj} {a : Addr} (h : Has w a.block) : (w.alloc o).cell? a = w.cell? a :=
 ((Below.refl w.heap.size w).alloc (Nat.le_refl _) o).cell h
@[go_sem] theorem frozen_al {w : World} {o : Obj} {a : Addr} (h : Has w a.block) : (w.alloc o).frozen? a = w.frozen? a :=
 ((Below.refl w.heap.size w).alloc (Nat.le_refl _) o).frozen h
@[go_sem] theorem setCell_al {w : World} {o : Obj} {a : Addr} {v : Value} (h : Has w a.block) : (w.alloc o).setCell a v = (w.setCell a v).alloc o := by
 unfold Has at h
 simp only [World.setCell, World.alloc]
 congr 1
 apply Array.ext_getElem?
 intro k
 simp only [Array.getElem?_modify, Array.getElem?_push, Array.size_modify]
 by_cases hk : k = w.heap.size
 ·subst hk; simp; omega
 ·simp [hk]
@[go_sem] theorem ite_ok {α : Type} (p : Prop) [Decidable p] (x y : α) (w : World) : (if p then Result.ok x w else Result.ok y w) = Result.ok (if p then x else y) w := by
 split <;> rfl
@[go_sem] theorem ite_value (p : Prop) [Decidable p] (x y : Value) : (if p then Next.value x else Next.value y) = Next.value (if p then x else y) := by
 split <;> rfl
theorem bl1 (w : World) (a : Obj) : Below w.heap.size w (w.alloc a) := (Below.refl _ _).alloc (Nat.le_refl _) _
theorem bl2 (w : World) (a b : Obj) : Below w.heap.size w ((w.alloc a).alloc b) := (bl1 w a).alloc (by simp) _
theorem blg {w w1 : World} (h : Below w.heap.size w w1) (d : Nat) (os : Array Obj) : Below w.heap.size w (grow (redrawn w1 d) os) :=
 h.trans ((below_regrown w1 d os).mono h.size)
theorem grow_grow (w : World) (a b : Array Obj) : grow (grow w a) b = grow w (a ++ b) := by simp [grow, Array.append_assoc]
@[go_sem] theorem gr_gr (w : World) (d d2 : Nat) (os os2 : Array Obj) : grow (redrawn (grow (redrawn w d) os) d2) os2 = grow (redrawn w d2) (os ++ os2) := by
 simp [grow, redrawn, Array.append_assoc]
@[go_sem] theorem size_gr (w : World) (d : Nat) (os : Array Obj) : (grow (redrawn w d) os).heap.size = w.heap.size + os.size := by simp [grow, redrawn]
@[go_sem] theorem setCell_gr {w : World} {d : Nat} {os : Array Obj} {a : Addr} {v : Value} (h : Has w a.block) : (grow (redrawn w d) os).setCell a v = grow (redrawn (w.setCell a v) d) os := by
 unfold Has at h
 simp only [grow, redrawn, World.setCell]
 congr 1
 apply Array.ext_getElem?
 intro k
 rw [Array.getElem?_modify]
 by_cases hk : k < w.heap.size
 ·rw [Array.getElem?_append_left hk, Array.getElem?_append_left (by simpa using hk), Array.getElem?_modify]
 ·rw [if_neg (by omega), Array.getElem?_append_right (by omega), Array.getElem?_append_right (by simpa using by omega)]
  simp
@[go_sem] theorem heap_redrawn (w : World) (d : Nat) : (redrawn w d).heap = w.heap := rfl
theorem bla {w w1 : World} (h : Below w.heap.size w w1) (o : Obj) : Below w.heap.size w (w1.alloc o) := h.alloc h.size o
theorem bls {w w1 : World} (h : Below w.heap.size w w1) {p : Addr} (hp : w.heap.size ≤ p.block) (v : Value) : Below w.heap.size w (w1.setCell p v) := h.setCell hp v
@[go_sem] theorem sg_u64 : IntKind.u64.signed = false := rfl
@[go_sem] theorem sg_i64 : IntKind.i64.signed = true := rfl
@[go_sem] theorem sg_u8 : IntKind.u8.signed = false := rfl
@[go_sem] theorem sg_u32 : IntKind.u32.signed = false := rfl
end Go.Proofs.Ytlkcneneagifoaa
end
section
namespace Go.Proofs.Ytlkcneneagifoaa
open Go Go.RowKit Go.Sort
section
variable {P : Program} {ops : Array Oper} {md : Region.Mode} {C : World → Prop}
def Head (P : Program) (md : Region.Mode) (ops : Array Oper) (C : World → Prop) (n : Nat) (L : Array Bool → Act → Prop) : Nat → Array Bool → Act → Prop
 | 0, s, a => L s a
 | f + 1, s, a => (∃ i, i ∈ Region.ready md ops s) ∧ ∀ i ∈ Region.ready md ops s, i < n ∧ qOp P ops C i (Head P md ops C n L f (s.setIfInBounds i true)) a
theorem wpAny_of_Head {n g : Nat} {L : Array Bool → Act → Prop} {Q' : Exit → Act → World → Prop} (hL : ∀ s a w, C w → L s a → wpAny P md ops Q' g s a w) :
  ∀ (f : Nat) (s : Array Bool) (a : Act) (w : World), C w → Head P md ops C n L f s a → wpAny P md ops Q' (f + g) s a w := by
 intro f
 induction f with
 | zero => intro s a w hw h; rw [Nat.zero_add]; exact hL s a w hw h
 | succ f ih =>
  intro s a w hw h
  obtain ⟨⟨i0, hi0⟩, hall⟩ := h
  rw [Nat.add_right_comm]
  refine ⟨fun h0 => ?_, fun i hi => wpOp_of_qOp hw (fun a' w' hw' h' => ih _ a' w' hw' h') (hall i hi).2⟩
  rw [h0] at hi0; cases hi0
theorem Head_first {n i : Nat} {oi : Oper} {v : Value} {L : Array Bool → Act → Prop} (hi : ops[i]? = some oi) (hsel : Region.noSelect ops = true)
  (hs : Region.sinkB md ops n = true) (hc : Region.chainB md ops n = true) (hn : n < ops.size) (hin : i < n) (hdone : ∀ s a, L s a → ∀ j ∈ Region.ready md ops s, n ≤ j) (f : Nat) :
  ∀ (s : Array Bool) (a : Act), HeadInv md ops n s →
   (∀ j oj, ops[j]? = some oj → j ≠ i → s.getD j true = false → (∀ e ∈ oj.after, Region.binds md e = true → e.on ≠ i) → oi.apart ops oj = true) →
   i ∈ Region.ready md ops s → YieldsIn P ops C oi v a →
   Head P md ops C n L f (s.setIfInBounds i true) (a.put oi.dst v) → Head P md ops C n L (f + 1) s a := by
 have sel := Region.noSelect_spec hsel
 induction f with
 | zero =>
  intro s a inv _ hr hy H
  refine ⟨⟨i, hr⟩, fun j hj => ?_⟩
  have hjn : j < n := Nat.lt_of_not_le fun h => tail_waits hs hc hn inv _ i rfl hin (mem_ready.1 hr).1 j h hj
  refine ⟨hjn, ?_⟩
  by_cases hji : j = i
  ·rw [hji]; exact hy.qOp hi H
  ·have := hdone _ _ H j (ready_mono hj hji)
   omega
 | succ f ih =>
  intro s a inv hfree hr hy H
  refine ⟨⟨i, hr⟩, fun j hj => ?_⟩
  have hun := (mem_ready.1 hr).1
  have hjn : j < n := Nat.lt_of_not_le fun h => tail_waits hs hc hn inv _ i rfl hin hun j h hj
  refine ⟨hjn, ?_⟩
  by_cases hji : j = i
  ·rw [hji]; exact hy.qOp hi H
  ·obtain ⟨hjun, oj, hoj, hall⟩ := mem_ready.1 hj
   have hnot : ∀ e ∈ oj.after, Region.binds md e = true → e.on ≠ i := by
    intro e he hb heq
    have hd := hall e he hb
    rw [heq, getD_both hun] at hd
    cases hd
   have hp := qOp_put hoj (hfree j oj hoj hji hjun hnot) (fun cs b => sel i oi cs b hi) (fun cs b => sel j oj cs b hoj) hy (H.2 j (ready_mono hj hji)).2
   refine qOp_mono (fun a' h3 => ih _ a' (inv.set hj hjn) ?_ (ready_mono hr (Ne.symm hji)) h3.1 ?_) hp
   ·intro k ok hk hki hkun hno
    refine hfree k ok hk hki ?_ hno
    by_cases hjk : j = k
    ·rw [← hjk]; exact hjun
    ·rwa [getD_set_ne true hjk] at hkun
   ·rw [Array.setIfInBounds_comm _ _ hji]
    exact h3.2
theorem Head_lex {n g : Nat} {Lq : Act → Prop} (hsel : Region.noSelect ops = true) (hs : Region.sinkB md ops n = true) (hc : Region.chainB md ops n = true) (hn : n < ops.size) (l : List Oper) :
  ∀ (k : Nat) (s : Array Bool) (a : Act), (∀ j, j < l.length → l[j]? = ops[k + j]?) → k + l.length = n → HeadInv md ops n s →
  Region.lexHead md ops g l.length k s = true → wpQuiet P ops C Lq l a →
  Head P md ops C n (fun s' a' => Region.seqB md ops g n s' = true ∧ Lq a') l.length s a := by
 induction l with
 | nil =>
  intro k s a _ hk _ hB h
  have hk' : k = n := by simpa using hk
  rw [← hk']
  exact ⟨by simpa [Region.lexHead] using hB, h⟩
 | cons o l ih =>
  intro k s a hl hk inv hB h
  have h0 : ops[k]? = some o := by simpa using (hl 0 (by simp)).symm
  simp only [List.length_cons] at hk hB
  simp only [Region.lexHead, Bool.and_eq_true] at hB
  have hkn : k < n := by omega
  have hr : k ∈ Region.ready md ops s := by simpa using hB.1.1
  have hq : qOp P ops C k (wpQuiet P ops C Lq l) a := by unfold qOp; simp only [h0]; exact h
  obtain ⟨v, hy, hK⟩ := yieldsIn_of_qOp h0 hq
  refine Head_first h0 hsel hs hc hn hkn (fun s' a' hL => seqB_ready hL.1) l.length s a inv (Region.free_spec h0 hB.1.2) hr hy (ih (k + 1) _ _ (fun j hj => ?_) (by omega) (inv.set hr hkn) hB.2 hK)
  have := hl (j + 1) (by simp; omega)
  simpa [Nat.add_assoc, Nat.add_comm 1 j] using this
theorem wp_region_quiet_tail {id : Nat} {Q : Exit → Act → World → Prop} {a : Act} {w : World} {l : List Oper} (n : Nat) (hm : P.follows .mixedOrders = true) (hB : Region.lexTailB .any l.toArray n = true)
  (hC : C { w with drawn := w.drawn + 1 }) (h : wpQuiet P l.toArray C (fun a' => ∀ w', C w' → wpList P l.toArray Q (l.drop n) a' w') (l.take n) a) : (Code.region id l.toArray true).wp P Q a w := by
 simp only [Region.lexTailB, Bool.and_eq_true, decide_eq_true_eq] at hB
 obtain ⟨⟨⟨⟨hsel, hn⟩, hs⟩, hc⟩, hlex⟩ := hB
 have hn' : n < l.length := by simpa using hn
 have htl : (l.take n).length = n := by simp; omega
 have hdl : (l.drop n).length = l.toArray.size - n := by simp
 have H := Head_lex (C := C) (md := .any) (g := l.toArray.size - n) hsel hs hc hn (l.take n) 0 (Array.replicate l.toArray.size false) a (fun j hj => by
  have hj' : j < n := by rw [htl] at hj; exact hj
  simp [hj']) (by simpa using htl) ⟨by simp, fun j oj _ hl => (by rw [getD_replicate_false] at hl; cases hl), fun t _ ht => getD_in (by simpa using ht) (getD_replicate_false _ _)⟩ (by rw [htl]; exact hlex) h
 refine wp_region_any hm ?_
 have R := wpAny_of_Head (Q' := Q) (g := l.toArray.size - n) (fun s a' w' hw hL => by
  have := wpAny_of_seq (md := .any) (Q' := Q) (l.drop n) n s a' w' (fun j => by simp [List.getElem?_drop]) (by rw [hdl]; exact hL.1) (hL.2 w' hw)
  rwa [hdl] at this) _ _ _ _ hC H
 rw [htl, show n + (l.toArray.size - n) = l.toArray.size by omega] at R
 exact R
theorem wp_region_grown_tail {id : Nat} {Q : Exit → Act → World → Prop} {a : Act} {w : World} {l : List Oper} (n : Nat) (hm : P.follows .mixedOrders = true) (hB : Region.lexTailB .any l.toArray n = true)
  (h : wpQuiet P l.toArray (fun w' => ∃ p : Regrown, w' = grow (redrawn w p.d) p.os) (fun a' => ∀ w', (∃ p : Regrown, w' = grow (redrawn w p.d) p.os) → wpList P l.toArray Q (l.drop n) a' w') (l.take n) a) : (Code.region id l.toArray true).wp P Q a w :=
 wp_region_quiet_tail (C := fun w' => ∃ p : Regrown, w' = grow (redrawn w p.d) p.os) n hm hB ⟨⟨w.drawn + 1, #[]⟩, by rw [grow_empty]; rfl⟩ h
end
end Go.Proofs.Ytlkcneneagifoaa
end
section
namespace Go.Proofs.Ytlkcneneagifoaa
open Go.RowKit Go.Sort
set_option linter.unusedVariables false
def CellsAt (W : World) (B : Nat) (t : TypeId) (cs : Array Value) : Prop := W.heap[B]? = some (.cells cs t (0, 0))
theorem CellsAt.lt {W : World} {B : Nat} {t : TypeId} {cs : Array Value} (h : CellsAt W B t cs) : B < W.heap.size := (Array.getElem?_eq_some_iff.1 h).1
theorem CellsAt.cell {W : World} {B : Nat} {t : TypeId} {cs : Array Value} (h : CellsAt W B t cs) (i : Nat) : W.cell? ⟨B, i, none⟩ = cs[i]? := by
 simp [World.cell?, show W.heap[B]? = _ from h]
theorem CellsAt.frozen {W : World} {B : Nat} {t : TypeId} {cs : Array Value} (h : CellsAt W B t cs) (i : Nat) : W.frozen? ⟨B, i, none⟩ = false := by simp [World.frozen?, show W.heap[B]? = _ from h]
theorem CellsAt.set {W : World} {B : Nat} {t : TypeId} {cs : Array Value} (h : CellsAt W B t cs) (i : Nat) (v : Value) : CellsAt (W.setCell ⟨B, i, none⟩ v) B t (cs.setIfInBounds i v) := by
 obtain ⟨hlt, hk⟩ := Array.getElem?_eq_some_iff.1 h
 show (W.heap.modify B _)[B]? = _
 rw [Array.getElem?_eq_getElem (by rw [Array.size_modify]; exact hlt), Array.getElem_modify_self, hk]
 rfl
theorem CellsAt.kept {W W' : World} {B : Nat} {t : TypeId} {cs : Array Value} (h : CellsAt W B t cs) (hb : W'.heap[B]? = W.heap[B]?) : CellsAt W' B t cs := hb.trans h
theorem CellsAt.below {W W' : World} {B : Nat} {t : TypeId} {cs : Array Value} (h : CellsAt W B t cs) (hb : Below W.heap.size W W') : CellsAt W' B t cs := h.kept (hb.block B h.lt)
theorem CellsAt.grown {W W' : World} {B : Nat} {t : TypeId} {cs : Array Value} {row : Option Nat} (h : CellsAt W B t cs) (hg : W.grownBy W' row) (hne : some B ≠ row) : CellsAt W' B t cs := h.kept (hg.block B h.lt hne)
def Rd8 (w : World) (a : Option Addr) (n : Nat) (f : Nat → Int) : Prop := ∀ i, i < n → ∃ b, a = some b ∧ b.block < w.heap.size ∧ w.cell? (b.add i) = some (.int .u8 (f i)) ∧ 0 ≤ f i ∧ f i ≤ 255
@[go_sem] theorem blk_add (b : Addr) (k : Nat) : (b.add k).block = b.block := by unfold Addr.add; split <;> rfl
theorem grownBy_of_below {w w' : World} (h : Below w.heap.size w w') (row : Option Nat) : w.grownBy w' row := ⟨h.os, h.tape, h.output, h.size, fun k hk _ => h.block k hk⟩
theorem Rd8.grown {W W' : World} {a : Option Addr} {n : Nat} {f : Nat → Int} {row : Option Nat} (h : Rd8 W a n f) (hg : W.grownBy W' row) (hne : ∀ b, a = some b → some b.block ≠ row) : Rd8 W' a n f := by
 intro i hi
 obtain ⟨b, hb, h1, h2, h3⟩ := h i hi
 refine ⟨b, hb, Nat.lt_of_lt_of_le h1 hg.size, ?_, h3⟩
 rw [← h2]
 have := hg.block b.block h1 (hne b hb)
 unfold World.cell?
 rw [blk_add, this]
theorem Rd8.cut {W : World} {a : Option Addr} {n p k : Nat} {f : Nat → Int} (h : Rd8 W a n f) (hp : p + k ≤ n) : Rd8 W (Option.map (fun x => x.add p) a) k (fun i => f (p + i)) := by
 intro i hi
 obtain ⟨b, rfl, h1, h2, h3⟩ := h (p + i) (by omega)
 refine ⟨b.add p, rfl, by rw [blk_add]; exact h1, ?_, h3⟩
 rw [← h2]
 congr 1
 unfold Addr.add
 by_cases h4 : p = 0 <;> by_cases h5 : i = 0 <;> simp [h4, h5]
 omega
theorem below_of_grownBy {A B : World} {n r : Nat} (h : A.grownBy B (some r)) (hn : n ≤ A.heap.size) (hr : n ≤ r) : Below n A B := ⟨h.os, h.tape, h.output, h.size, fun k hk => h.block k (by omega) (by simp; omega)⟩
theorem below_of_grownNone {A B : World} (h : A.grownBy B none) : Below A.heap.size A B := ⟨h.os, h.tape, h.output, h.size, fun k hk => h.block k hk (by simp)⟩
end Go.Proofs.Ytlkcneneagifoaa
end
section
namespace Go.Proofs.Ytlkcneneagifoaa
namespace Sm
set_option linter.unusedVariables false
set_option linter.unusedSimpArgs false
abbrev V := Int × Int
structure Rg where
 o : Int → V
 ad : V → V → V
 na : V → Int × Bool
abbrev Ky := Int × Int
def key (e : Int × Int × Int) : Ky := (e.1, e.2.1)
def klt (a b : Ky) : Bool := decide (a.1 < b.1 ∨ a.1 = b.1 ∧ a.2 < b.2)
theorem klt_irr (a : Ky) : klt a a = false := by simp [klt]
theorem klt_trans {a b c : Ky} (h1 : klt a b = true) (h2 : klt b c = true) : klt a c = true := by simp [klt] at *; omega
theorem klt_tri {a b : Ky} (h1 : klt a b = false) (h2 : klt b a = false) : a = b := by
 simp [klt] at *
 refine Prod.ext ?_ ?_ <;> omega
theorem klt_ne {a b : Ky} (h : klt a b = true) : a ≠ b := by rintro rfl; rw [klt_irr] at h; cases h
theorem klt_asym {a b : Ky} (h : klt a b = true) : klt b a = false := by simp [klt] at *; omega
def toE (R : Rg) (p : Ky × V) : Int × Int × Int := (p.1.1, p.1.2, (R.na p.2).1)
def upd (R : Rg) (f : Ky → Option V) (e : Int × Int × Int) : Ky → Option V := fun k => if k = key e then some (match f (key e) with | some s => R.ad s (R.o e.2.2) | none => R.o e.2.2) else f k
def fm (R : Rg) (l : List (Int × Int × Int)) : Ky → Option V := l.foldl (upd R) (fun _ => none)
theorem fm_snoc (R : Rg) (l : List (Int × Int × Int)) (e : Int × Int × Int) : fm R (l ++ [e]) = upd R (fm R l) e := by simp [fm]
def ins (R : Rg) : List (Ky × V) → (Int × Int × Int) → List (Ky × V)
 | [], e => [(key e, R.o e.2.2)]
 | p :: S, e => if klt p.1 (key e) = true then p :: ins R S e else if klt (key e) p.1 = true then (key e, R.o e.2.2) :: p :: S else (p.1, R.ad p.2 (R.o e.2.2)) :: S
def canS (R : Rg) (l : List (Int × Int × Int)) : List (Ky × V) := l.foldl (ins R) []
theorem canS_snoc (R : Rg) (l : List (Int × Int × Int)) (e : Int × Int × Int) : canS R (l ++ [e]) = ins R (canS R l) e := by simp [canS]
def Rep (S : List (Ky × V)) (f : Ky → Option V) : Prop := S.Pairwise (fun p q => klt p.1 q.1 = true) ∧ ∀ k z, (k, z) ∈ S ↔ f k = some z
theorem Rep.nil : Rep [] (fun _ => none) := ⟨List.Pairwise.nil, by simp⟩
theorem ins_mem (R : Rg) (e : Int × Int × Int) : ∀ (S : List (Ky × V)) (q : Ky × V), q ∈ ins R S e → q.1 = key e ∨ q ∈ S
 | [], q, h => by simp [ins] at h; subst h; exact .inl rfl
 | p :: S, q, h => by
  unfold ins at h
  split at h
  ·rcases List.mem_cons.1 h with rfl | h
   ·exact .inr (by simp)
   ·rcases ins_mem R e S q h with h | h
    ·exact .inl h
    ·exact .inr (by simp [h])
  ·split at h
   ·rcases List.mem_cons.1 h with rfl | h
    ·exact .inl rfl
    ·exact .inr h
   ·rename_i h1 h2
    rcases List.mem_cons.1 h with rfl | h
    ·exact .inl (klt_tri (by simpa using h1) (by simpa using h2))
    ·exact .inr (by simp [h])
theorem ins_sorted (R : Rg) (e : Int × Int × Int) : ∀ (S : List (Ky × V)), S.Pairwise (fun p q => klt p.1 q.1 = true) → (ins R S e).Pairwise (fun p q => klt p.1 q.1 = true)
 | [], _ => by simp [ins]
 | p :: S, h => by
  obtain ⟨h1, h2⟩ := List.pairwise_cons.1 h
  unfold ins
  split
  ·rename_i hp
   refine List.pairwise_cons.2 ⟨fun q hq => ?_, ins_sorted R e S h2⟩
   rcases ins_mem R e S q hq with h | h
   ·rw [h]; exact hp
   ·exact h1 q h
  ·split
   ·rename_i hp
    refine List.pairwise_cons.2 ⟨fun q hq => ?_, h⟩
    rcases List.mem_cons.1 hq with rfl | hq
    ·exact hp
    ·exact klt_trans hp (h1 q hq)
   ·exact List.pairwise_cons.2 ⟨h1, h2⟩
theorem ins_at (R : Rg) (e : Int × Int × Int) : ∀ (S : List (Ky × V)) (f : Ky → Option V), Rep S f → Rep (ins R S e) (upd R f e)
 | S, f, h => ⟨ins_sorted R e S h.1, by
  intro k z
  have hmem : ∀ (S : List (Ky × V)), S.Pairwise (fun p q => klt p.1 q.1 = true) → ((k, z) ∈ ins R S e ↔ if k = key e then (∃ s, (k, s) ∈ S ∧ z = R.ad s (R.o e.2.2)) ∨ ((∀ s, (k, s) ∉ S) ∧ z = R.o e.2.2) else (k, z) ∈ S) := by
   intro S
   induction S with
   | nil => intro _; simp [ins, key]
   | cons p S ih =>
    intro hs
    obtain ⟨h1, h2⟩ := List.pairwise_cons.1 hs
    unfold ins
    split
    ·rename_i hp
     rw [List.mem_cons, ih h2]
     by_cases hk : k = key e
     ·have hne : ∀ s, (k, s) ≠ p := fun s hs => klt_ne hp (by rw [← hs]; exact hk)
      simp [hk]
      rw [← hk]
      simp [hne]
     ·simp [hk]
    ·split
     ·rename_i hp0 hp
      have hno : ∀ s, (key e, s) ∉ p :: S := by
       intro s hs
       rcases List.mem_cons.1 hs with rfl | hs
       ·rw [klt_irr] at hp; cases hp
       ·have := klt_trans hp (h1 _ hs)
        rw [klt_irr] at this; cases this
      by_cases hk : k = key e
      ·subst hk
       rw [List.mem_cons]
       simp only [if_true]
       constructor
       ·rintro (h | h)
        ·exact .inr ⟨hno, by cases h; rfl⟩
        ·exact absurd h (hno _)
       ·rintro (⟨s, h, _⟩ | ⟨_, rfl⟩)
        ·exact absurd h (hno _)
        ·exact .inl rfl
      ·rw [List.mem_cons, if_neg hk]
       constructor
       ·rintro (h | h)
        ·cases h; exact absurd rfl hk
        ·exact h
       ·exact .inr
     ·rename_i hp0 hp
      have he : p.1 = key e := klt_tri (by simpa using hp0) (by simpa using hp)
      have hno : ∀ s, (key e, s) ∉ S := by
       intro s hs
       have := h1 _ hs
       rw [he, klt_irr] at this; cases this
      by_cases hk : k = key e
      ·subst hk
       simp only [if_true]
       rw [List.mem_cons]
       constructor
       ·rintro (h | h)
        ·exact .inl ⟨p.2, by rw [← he]; simp, by have := congrArg Prod.snd h; exact this⟩
        ·exact absurd h (hno _)
       ·rintro (⟨s, h, rfl⟩ | ⟨h, _⟩)
        ·rcases List.mem_cons.1 h with h | h
         ·left
          rw [← h]
         ·exact absurd h (hno _)
        ·exact absurd (show (key e, p.2) ∈ p :: S by rw [← he]; simp) (h _)
      ·rw [List.mem_cons, if_neg hk, List.mem_cons]
       constructor
       ·rintro (h | h)
        ·exact absurd (by rw [← he]; exact congrArg Prod.fst h) hk
        ·exact .inr h
       ·rintro (h | h)
        ·exact absurd (by rw [← he, ← h]) hk
        ·exact .inr h
  rw [hmem S h.1]
  unfold upd
  by_cases hk : k = key e
  ·subst hk
   simp only [if_true]
   cases hf : f (key e) with
   | none =>
    have hno : ∀ s, (key e, s) ∉ S := fun s hs => by rw [h.2, hf] at hs; cases hs
    simp [hno, eq_comm]
   | some s =>
    have hs := (h.2 (key e) s).2 hf
    simp only [Option.some.injEq]
    constructor
    ·rintro (⟨s', h', rfl⟩ | ⟨h', _⟩)
     ·rw [h.2, hf] at h'; cases h'; rfl
     ·exact absurd hs (h' _)
    ·rintro rfl
     exact .inl ⟨s, hs, rfl⟩
  ·simp [hk, h.2]⟩
theorem rep_can (R : Rg) (l : List (Int × Int × Int)) : Rep (canS R l) (fm R l) := by
 have : ∀ (l : List (Int × Int × Int)) (S : List (Ky × V)) (f : Ky → Option V), Rep S f → Rep (l.foldl (ins R) S) (l.foldl (upd R) f) := by
  intro l
  induction l with
  | nil => intro S f h; exact h
  | cons e l ih => intro S f h; exact ih _ _ (ins_at R e S f h)
 exact this l [] _ Rep.nil
theorem Rep.nodup {S : List (Ky × V)} {f : Ky → Option V} (h : Rep S f) : S.Nodup := h.1.imp fun {a b} h e => by rw [e, klt_irr] at h; cases h
theorem Rep.perm {S T : List (Ky × V)} {f : Ky → Option V} (h : Rep S f) (hT : (T.map (·.1)).Nodup) (h1 : ∀ p ∈ T, f p.1 = some p.2) (h2 : ∀ k z, f k = some z → (k, z) ∈ T) : T.Perm S := by
 have hTn : T.Nodup := by
  have := List.pairwise_map.1 hT
  exact this.imp fun {a b} h e => h (by rw [e])
 refine (List.perm_ext_iff_of_nodup hTn h.nodup).2 fun p => ⟨fun hp => (h.2 p.1 p.2).2 (h1 p hp), fun hp => h2 p.1 p.2 ((h.2 p.1 p.2).1 hp)⟩
theorem Rep.uniq {S T : List (Ky × V)} {f : Ky → Option V} (h : Rep S f) (h' : Rep T f) : S = T := by
 have hp : S.Perm T := (List.perm_ext_iff_of_nodup h.nodup h'.nodup).2 fun p => by rw [show p = (p.1, p.2) from rfl, h.2, h'.2]
 refine hp.eq_of_pairwise (le := fun p q => klt p.1 q.1 = true) (fun a b _ _ h1 h2 => ?_) h.1 h'.1
 rw [klt_asym h1] at h2; cases h2
theorem ins_last (R : Rg) (e : Int × Int × Int) : ∀ (S : List (Ky × V)), (∀ p ∈ S, klt p.1 (key e) = true) → ins R S e = S ++ [(key e, R.o e.2.2)]
 | [], _ => rfl
 | p :: S, h => by
  unfold ins
  rw [if_pos (h p (by simp)), ins_last R e S (fun q hq => h q (by simp [hq]))]
  rfl
theorem canS_rising (R : Rg) : ∀ (l : List (Int × Int × Int)), l.Pairwise (fun a b => klt (key a) (key b) = true) → canS R l = l.map (fun e => (key e, R.o e.2.2)) := by
 intro l
 have : ∀ (m l : List (Int × Int × Int)), (l ++ m).Pairwise (fun a b => klt (key a) (key b) = true) → m.foldl (ins R) (l.map (fun e => (key e, R.o e.2.2))) = (l ++ m).map (fun e => (key e, R.o e.2.2)) := by
  intro m
  induction m with
  | nil => intro l _; simp
  | cons e m ih =>
   intro l h
   rw [List.foldl_cons, ins_last]
   ·have := ih (l ++ [e]) (by simpa using h)
    simpa using this
   ·intro p hp
    obtain ⟨a, ha, rfl⟩ := List.mem_map.1 hp
    exact (List.pairwise_append.1 h).2.2 a ha e (by simp)
 intro h
 have := this l [] h
 simpa [canS] using this
theorem fm_some {R : Rg} : ∀ {l : List (Int × Int × Int)} {k : Ky} {z : V}, fm R l k = some z → ∃ e ∈ l, key e = k := by
 intro l
 have : ∀ (l : List (Int × Int × Int)) (f : Ky → Option V) (k : Ky) (z : V), l.foldl (upd R) f k = some z → (∃ e ∈ l, key e = k) ∨ ∃ z, f k = some z := by
  intro l
  induction l with
  | nil => intro f k z h; exact .inr ⟨z, h⟩
  | cons e l ih =>
   intro f k z h
   rcases ih _ _ _ h with ⟨e', h1, h2⟩ | ⟨z', h2⟩
   ·exact .inl ⟨e', by simp [h1], h2⟩
   ·unfold upd at h2
    split at h2
    ·rename_i hk
     exact .inl ⟨e, by simp, hk.symm⟩
    ·exact .inr ⟨z', h2⟩
 intro k z h
 rcases this l _ k z h with h | ⟨z, h⟩
 ·exact h
 ·cases h
def sumR (R : Rg) (l : List (Int × Int × Int)) : List (Int × Int × Int) × Int := if (canS R l).all (fun p => (R.na p.2).2) = true then ((canS R l).map (toE R), 0) else ([], 12)
theorem sumR_over {R : Rg} {l : List (Int × Int × Int)} {k : Ky} {z : V} (hk : fm R l k = some z) (hz : (R.na z).2 = false) : sumR R l = ([], 12) := by
 have hm := ((rep_can R l).2 k z).2 hk
 have : ¬ (canS R l).all (fun p => (R.na p.2).2) = true := by
  intro ha
  have := List.all_eq_true.1 ha _ hm
  rw [hz] at this; cases this
 simp only [sumR, if_neg this]
theorem sorted_is (R : Rg) (l l' : List (Int × Int × Int)) (T : List (Ky × V)) (hT : T.Perm (canS R l)) (hp : l'.Perm (T.map (toE R))) (hs : l'.Pairwise (fun a b => klt (key b) (key a) = false)) : l' = (canS R l).map (toE R) := by
 have hp2 : l'.Perm ((canS R l).map (toE R)) := hp.trans (hT.map (toE R))
 have hc := (rep_can R l).1
 have hs2 : ((canS R l).map (toE R)).Pairwise (fun a b => klt (key b) (key a) = false) := by
  rw [List.pairwise_map]
  exact hc.imp fun {a b} h => klt_asym h
 have hn : ((canS R l).map (toE R)).Pairwise (fun a b => key a ≠ key b) := by
  rw [List.pairwise_map]
  exact hc.imp fun {a b} h => klt_ne h
 refine hp2.eq_of_pairwise (le := fun a b => klt (key b) (key a) = false) (fun a b ha hb h1 h2 => ?_) hs hs2
 have hk : key a = key b := klt_tri h2 h1
 have ha' := hp2.mem_iff.1 ha
 have hb' := hb
 obtain ⟨i, hi, rfl⟩ := List.mem_iff_getElem.1 ha'
 obtain ⟨j, hj, rfl⟩ := List.mem_iff_getElem.1 hb'
 have hpw := List.pairwise_iff_getElem.1 hn
 rcases Nat.lt_trichotomy i j with h | h | h
 ·exact absurd hk (hpw i j hi hj h)
 ·subst h; rfl
 ·exact absurd hk.symm (hpw j i hj hi h)
theorem sumR_all {R : Rg} {l : List (Int × Int × Int)} (ha : ∀ k z, fm R l k = some z → (R.na z).2 = true) : sumR R l = ((canS R l).map (toE R), 0) := by
 have : (canS R l).all (fun p => (R.na p.2).2) = true := List.all_eq_true.2 fun p hp => ha p.1 p.2 (((rep_can R l).2 p.1 p.2).1 hp)
 simp only [sumR, if_pos this]
end Sm
end Go.Proofs.Ytlkcneneagifoaa
end
section
namespace Go.Proofs.Ytlkcneneagifoaa
open Go.RowKit Go.Sort
set_option linter.unusedVariables false
set_option linter.unusedSimpArgs false
namespace Sm
open Ev
@[go_sem] abbrev WV (p : V) : Value := .agg #[.int .i64 p.1, .int .u64 p.2]
abbrev Ed := Int × Int × Int
def In64 (n : Int) : Prop := -9223372036854775808 ≤ n ∧ n ≤ 9223372036854775807
def cmpI (x y : Int) : Int := if x < y then -1 else if y < x then 1 else 0
def orI (x y : Int) : Int := if x = 0 then y else x
def el (l : List Ed) (i : Nat) : Ed := l.getD i (0, 0, 0)
theorem el_mem {l : List Ed} {i : Nat} (h : i < l.length) : el l i ∈ l := by
 simp [el, List.getD_eq_getElem?_getD, h]
theorem el_arr (l : List Ed) (i : Nat) (h : i < l.length) : (l.toArray)[i]! = el l i := by
 simp [el, List.getD_eq_getElem?_getD, h]
theorem take_el {l : List Ed} {j : Nat} (h : j < l.length) : l.take (j + 1) = l.take j ++ [el l j] := by
 rw [List.take_succ_eq_append_getElem h]
 simp [el, List.getD_eq_getElem?_getD, h]
theorem addr0 (g i : Nat) : ((⟨g, 0, none⟩ : Addr).add i) = ⟨g, i, none⟩ := by unfold Addr.add; split <;> simp_all
theorem add_succ (a : Addr) (k : Nat) : a.add (k + 1) = ⟨a.block, (a.add k).off + 1, none⟩ := by
 unfold Addr.add
 by_cases h : k = 0
 ·subst h; simp
 ·simp [h]; omega
def PT : T → Option Value
 | .v x => if x.oneCell' then some x else none
 | .s _ _ _ => none
def PTs : List T → Option (List Value)
 | [] => some []
 | t :: r => (PT t).bind fun x => (PTs r).map (x :: ·)
def PD : TD → Option Value
 | .one t => PT t
 | .agg ts => (PTs ts).map fun l => .agg l.toArray
theorem PT_rep {t : T} {x : Value} (h : PT t = some x) (w : World) (F : Nat → Prop) : RepT w F t x ∧ ∀ y, RepT w F t y → y = x := by
 cases t with
 | s => simp [PT] at h
 | v z =>
  simp only [PT] at h
  split at h
  ·rename_i hz
   cases h
   exact ⟨.v _ hz, fun y hy => by cases hy; rfl⟩
  ·simp at h
theorem PTs_rep : ∀ {ts : List T} {l : List Value}, PTs ts = some l → ∀ (w : World) (F : Nat → Prop), RepTs w F ts l ∧ ∀ ys, RepTs w F ts ys → ys = l
 | [], l, h, w, F => by
  simp [PTs] at h
  subst h
  exact ⟨⟨rfl, by simp⟩, fun ys hy => by have := hy.1; simpa using this.symm⟩
 | t :: r, l, h, w, F => by
  simp only [PTs, Option.bind_eq_some_iff, Option.map_eq_some_iff] at h
  obtain ⟨x, hx, l', hl, rfl⟩ := h
  obtain ⟨h1, h2⟩ := PT_rep hx w F
  obtain ⟨h3, h4⟩ := PTs_rep hl w F
  refine ⟨⟨by simp [h3.1], fun i t' hi => ?_⟩, fun ys hy => ?_⟩
  ·cases i with
   | zero => simp at hi; subst hi; exact ⟨x, rfl, h1⟩
   | succ i => obtain ⟨y, e1, e2⟩ := h3.2 i t' (by simpa using hi); exact ⟨y, by simpa using e1, e2⟩
  ·obtain ⟨hl, hy⟩ := hy
   cases ys with
   | nil => simp at hl
   | cons y ys =>
    obtain ⟨y', e1, e2⟩ := hy 0 t rfl
    simp at e1
    subst e1
    rw [h2 _ e2, h4 ys ⟨by simpa using hl, fun i t' hi => by
     obtain ⟨z, f1, f2⟩ := hy (i + 1) t' (by simpa using hi)
     exact ⟨z, by simpa using f1, f2⟩⟩]
theorem PD_rep {t : TD} {x : Value} (h : PD t = some x) (w : World) (F : Nat → Prop) : RepTD w F t x ∧ ∀ y, RepTD w F t y → y = x := by
 cases t with
 | one t =>
  obtain ⟨h1, h2⟩ := PT_rep h w F
  exact ⟨.one _ _ h1, fun y hy => by cases hy with | one _ _ hy => exact h2 _ hy⟩
 | agg ts =>
  simp only [PD, Option.map_eq_some_iff] at h
  obtain ⟨l, hl, rfl⟩ := h
  obtain ⟨h1, h2⟩ := PTs_rep hl w F
  exact ⟨.agg _ _ h1, fun y hy => by cases hy with | agg _ ys hy => rw [h2 _ hy]⟩
def PDs : List TD → Option (List Value)
 | [] => some []
 | t :: r => (PD t).bind fun x => (PDs r).map (x :: ·)
theorem PDs_rep : ∀ {ts : List TD} {l : List Value}, PDs ts = some l → ∀ (w : World) (F : Nat → Prop), RepTDs w F ts l ∧ ∀ ys, RepTDs w F ts ys → ys = l
 | [], l, h, w, F => by
  simp [PDs] at h
  subst h
  exact ⟨⟨rfl, by simp⟩, fun ys hy => by have := hy.1; simpa using this.symm⟩
 | t :: r, l, h, w, F => by
  simp only [PDs, Option.bind_eq_some_iff, Option.map_eq_some_iff] at h
  obtain ⟨x, hx, l', hl, rfl⟩ := h
  obtain ⟨h1, h2⟩ := PD_rep hx w F
  obtain ⟨h3, h4⟩ := PDs_rep hl w F
  refine ⟨⟨by simp [h3.1], fun i t' hi => ?_⟩, fun ys hy => ?_⟩
  ·cases i with
   | zero => simp at hi; subst hi; exact ⟨x, rfl, h1⟩
   | succ i => obtain ⟨y, e1, e2⟩ := h3.2 i t' (by simpa using hi); exact ⟨y, by simpa using e1, e2⟩
  ·obtain ⟨hl, hy⟩ := hy
   cases ys with
   | nil => simp at hl
   | cons y ys =>
    obtain ⟨y', e1, e2⟩ := hy 0 t rfl
    simp at e1
    subst e1
    rw [h2 _ e2, h4 ys ⟨by simpa using hl, fun i t' hi => by
     obtain ⟨z, f1, f2⟩ := hy (i + 1) t' (by simpa using hi)
     exact ⟨z, by simpa using f1, f2⟩⟩]
def PR : List TD → Option Value
 | [r] => PD r
 | rs => (PDs rs).map fun l => .tuple l.toArray
theorem PR_rep {rs : List TD} {x : Value} (h : PR rs = some x) (w : World) (F : Nat → Prop) {y : Value} (hy : RepRes w F rs y) : y = x := by
 match rs, h, hy with
 | [], h, ⟨ys, e, hy⟩ =>
  simp [PR, PDs] at h
  subst h
  rw [e, (PDs_rep (ts := []) (l := []) rfl w F).2 _ hy]
 | [r], h, hy => exact (PD_rep h w F).2 _ hy
 | r :: r' :: rs, h, ⟨ys, e, hy⟩ =>
  simp only [PR, Option.map_eq_some_iff] at h
  obtain ⟨l, hl, rfl⟩ := h
  rw [e, (PDs_rep hl w F).2 _ hy]
theorem calls_plain {P : Program} {k : FuncId} {vs : List TD} {kind : Kind} {rs : List TD} (h : PureOk P k vs kind rs) {ys : List Value} {y : Value} (h1 : PDs vs = some ys) (h2 : PR rs = some y) (w : World) (hL : LD w.heap.size w) : Calls P k ys.toArray w fun e w' => e = .returned y ∧ Below w.heap.size w w' := by
 refine (h w (fun _ => False) ys hL (fun _ h => h.elim) (PDs_rep h1 w _).1).mono fun e w' ⟨y', e1, e2, _, e3⟩ => ⟨?_, e3⟩
 rw [e1, PR_rep h2 w' _ e2]
end Sm
end Go.Proofs.Ytlkcneneagifoaa
end
