/- Texts of a claim, joined. -/
import Derived.Test.YtjjbpdldbdmoeaaGreatDoorZP9
import Derived.Test.YtjjbpdldbdmoeaaGreatDoorProg
import Derived.BigQuiet
import Derived.Lib.QuietBelow
import Derived.WalkSpells
import Derived.WalkLawsBesides
import Derived.Lib.Hide
import Derived.Outline
import Derived.StillTail
import Derived.Laws.IdiomRangeMap
import Derived.RangeFuncBox
import Derived.Laws.OwnMore
import Derived.Maps.AppendAt
import Derived.Defers
import Derived.Recover
import Derived.Deep.RegionHeld3
import Derived.BigRegion
import Derived.RegionTactic
import Derived.Laws.AppendOwnNone
import Derived.Deep.RegionLaw
set_option linter.unusedVariables false
set_option linter.unusedSimpArgs false
namespace Go.Proofs.YtjjbpdldbdmoeaaGreatDoor
noncomputable section
namespace Ev
namespace K
open Go Go.RowKit
set_option maxRecDepth 100000
set_option maxHeartbeats 1000000
def i1:TI:=(⟨.func #[] #[] false,[.nilFunc],1,8⟩:TI)
def i4:TI:=(⟨.bool,[.bool false],1,1⟩:TI)
def i7:TI:=(⟨.struct (bq Tryz.prog 7),[.int .i64 0,.int .i64 0,.bool false,.int .u8 0],4,24⟩:TI)
def i8:TI:=(⟨.struct (bq Tryz.prog 8),[.int .i64 0,.int .i64 0,.bool false,.int .u8 0],4,24⟩:TI)
def i15:TI:=(⟨.pointer 169,[.pointer none],1,8⟩:TI)
def i16:TI:=(⟨.pointer 172,[.pointer none],1,8⟩:TI)
def i17:TI:=(⟨.pointer 181,[.pointer none],1,8⟩:TI)
def i18:TI:=(⟨.struct (bq Tryz.prog 18),[.pointer none],1,8⟩:TI)
def i19:TI:=(⟨.struct (bq Tryz.prog 19),[.pointer none],1,8⟩:TI)
def i23:TI:=(⟨.array 2 5,[.int .u8 0,.int .u8 0],2,2⟩:TI)
def i24:TI:=(⟨.slice 93,[.slice none 0 0],1,24⟩:TI)
def i25:TI:=(⟨.slice 58,[.slice none 0 0],1,24⟩:TI)
def i26:TI:=(⟨.slice 67,[.slice none 0 0],1,24⟩:TI)
def i27:TI:=(⟨.struct (bq Tryz.prog 27),[.int .i64 0,.int .u8 0,.int .u8 0,.slice none 0 0,.slice none 0 0,.slice none 0 0,.slice none 0 0,.bool false],8,120⟩:TI)
def i28:TI:=(⟨.struct (bq Tryz.prog 28),[.int .i64 0,.int .u8 0,.int .u8 0,.slice none 0 0,.slice none 0 0,.slice none 0 0,.slice none 0 0,.bool false],8,120⟩:TI)
def i29:TI:=(⟨.func #[22] #[22] false,[.nilFunc],1,8⟩:TI)
def i30:TI:=(⟨.slice 3,[.slice none 0 0],1,24⟩:TI)
def i31:TI:=(⟨.slice 2,[.slice none 0 0],1,24⟩:TI)
def i32:TI:=(⟨.struct (bq Tryz.prog 32),[.int .i64 0,.int .i64 0,.slice none 0 0,.slice none 0 0,.slice none 0 0],5,88⟩:TI)
def i33:TI:=(⟨.struct (bq Tryz.prog 33),[.int .i64 0,.int .i64 0,.slice none 0 0,.slice none 0 0,.slice none 0 0],5,88⟩:TI)
def i34:TI:=(⟨.func #[] #[33] false,[.nilFunc],1,8⟩:TI)
def i35:TI:=(⟨.struct (bq Tryz.prog 35),[.int .i64 0,.slice none 0 0],2,32⟩:TI)
def i36:TI:=(⟨.struct (bq Tryz.prog 36),[.int .i64 0,.slice none 0 0],2,32⟩:TI)
def i37:TI:=(⟨.func #[25] #[36] false,[.nilFunc],1,8⟩:TI)
def i38:TI:=(⟨.func #[] #[26] false,[.nilFunc],1,8⟩:TI)
def i39:TI:=(⟨.slice 76,[.slice none 0 0],1,24⟩:TI)
def i42:TI:=(⟨.func #[22,44,36,26,4] #[39,40] false,[.nilFunc],1,8⟩:TI)
def i43:TI:=(⟨.struct (bq Tryz.prog 43),[.int .i64 0,.int .i64 0,.slice none 0 0,.slice none 0 0,.slice none 0 0,.slice none 0 0],6,112⟩:TI)
def i44:TI:=(⟨.struct (bq Tryz.prog 44),[.int .i64 0,.int .i64 0,.slice none 0 0,.slice none 0 0,.slice none 0 0,.slice none 0 0],6,112⟩:TI)
def i45:TI:=(⟨.func #[33] #[44] false,[.nilFunc],1,8⟩:TI)
def i46:TI:=(⟨.func #[22,33,48,26,4] #[39,40] false,[.nilFunc],1,8⟩:TI)
def i47:TI:=(⟨.struct (bq Tryz.prog 47),[.int .i64 0,.slice none 0 0,.slice none 0 0],3,56⟩:TI)
def i48:TI:=(⟨.struct (bq Tryz.prog 48),[.int .i64 0,.slice none 0 0,.slice none 0 0],3,56⟩:TI)
def i49:TI:=(⟨.func #[36] #[48] false,[.nilFunc],1,8⟩:TI)
def i50:TI:=(⟨.func #[] #[4] false,[.nilFunc],1,8⟩:TI)
def i51:TI:=(⟨.func #[39,39] #[4] false,[.nilFunc],1,8⟩:TI)
def i52:TI:=(⟨.func #[28] #[4] false,[.nilFunc],1,8⟩:TI)
def i53:TI:=(⟨.func #[23,24] #[33] false,[.nilFunc],1,8⟩:TI)
def i54:TI:=(⟨.func #[22,2] #[2] false,[.nilFunc],1,8⟩:TI)
def i55:TI:=(⟨.func #[5,25] #[36] false,[.nilFunc],1,8⟩:TI)
def i56:TI:=(⟨.func #[5] #[3] false,[.nilFunc],1,8⟩:TI)
def i57:TI:=(⟨.struct (bq Tryz.prog 57),[.int .i64 0,.int .i64 0],2,16⟩:TI)
def i58:TI:=(⟨.struct (bq Tryz.prog 58),[.int .i64 0,.int .i64 0],2,16⟩:TI)
def i59:TI:=(⟨.func #[22] #[4] false,[.nilFunc],1,8⟩:TI)
def i60:TI:=(⟨.func #[44] #[44] false,[.nilFunc],1,8⟩:TI)
def i61:TI:=(⟨.func #[36] #[4] false,[.nilFunc],1,8⟩:TI)
def i62:TI:=(⟨.slice 71,[.slice none 0 0],1,24⟩:TI)
def i65:TI:=(⟨.func #[44,36] #[64] false,[.nilFunc],1,8⟩:TI)
def i66:TI:=(⟨.pointer 71,[.pointer none],1,8⟩:TI)
def i68:TI:=(⟨.struct (bq Tryz.prog 68),[.int .i64 0,.int .u64 0],2,16⟩:TI)
def i69:TI:=(⟨.struct (bq Tryz.prog 69),[.int .i64 0,.int .u64 0],2,16⟩:TI)
def i70:TI:=(⟨.struct (bq Tryz.prog 70),[.int .i64 0,.int .u64 0,.bool false],3,24⟩:TI)
def i71:TI:=(⟨.struct (bq Tryz.prog 71),[.int .i64 0,.int .u64 0,.bool false],3,24⟩:TI)
def i72:TI:=(⟨.func #[22,2,2] #[69] false,[.nilFunc],1,8⟩:TI)
def i73:TI:=(⟨.func #[22,69,69] #[69] false,[.nilFunc],1,8⟩:TI)
def i74:TI:=(⟨.func #[26,3] #[4] false,[.nilFunc],1,8⟩:TI)
def i75:TI:=(⟨.struct (bq Tryz.prog 75),[.int .i64 0,.int .i64 0,.int .u64 0],3,24⟩:TI)
def i76:TI:=(⟨.struct (bq Tryz.prog 76),[.int .i64 0,.int .i64 0,.int .u64 0],3,24⟩:TI)
def i77:TI:=(⟨.func #[33] #[33] false,[.nilFunc],1,8⟩:TI)
def i80:TI:=(⟨.func #[30] #[79] false,[.nilFunc],1,8⟩:TI)
def i81:TI:=(⟨.func #[48] #[4] false,[.nilFunc],1,8⟩:TI)
def i82:TI:=(⟨.func #[3] #[69,4] false,[.nilFunc],1,8⟩:TI)
def i85:TI:=(⟨.func #[3,26,4] #[84] false,[.nilFunc],1,8⟩:TI)
def i87:TI:=(⟨.func #[3] #[48] false,[.nilFunc],1,8⟩:TI)
def i88:TI:=(⟨.func #[3,30] #[26] true,[.nilFunc],1,8⟩:TI)
def i89:TI:=(⟨.func #[36] #[30] false,[.nilFunc],1,8⟩:TI)
def i91:TI:=(⟨.func #[22,3,3,24] #[33,40] false,[.nilFunc],1,8⟩:TI)
def i92:TI:=(⟨.struct (bq Tryz.prog 92),[.int .i64 0,.int .i64 0,.int .i64 0],3,24⟩:TI)
def i93:TI:=(⟨.struct (bq Tryz.prog 93),[.int .i64 0,.int .i64 0,.int .i64 0],3,24⟩:TI)
def i95:TI:=(⟨.func #[22,44,36,26,4] #[36,40] false,[.nilFunc],1,8⟩:TI)
def i96:TI:=(⟨.func #[22,125] #[39,40] true,[.nilFunc],1,8⟩:TI)
def i97:TI:=(⟨.func #[44,36] #[3] false,[.nilFunc],1,8⟩:TI)
def i98:TI:=(⟨.func #[24] #[24] false,[.nilFunc],1,8⟩:TI)
def i99:TI:=(⟨.func #[3,3] #[33] false,[.nilFunc],1,8⟩:TI)
def acD:TI:=(⟨.func #[22,3,25] #[36,40] false,[.nilFunc],1,8⟩:TI)
def acE:TI:=(⟨.func #[44] #[4] false,[.nilFunc],1,8⟩:TI)
def acF:TI:=(⟨.func #[3] #[4] false,[.nilFunc],1,8⟩:TI)
def acG:TI:=(⟨.func #[3,2] #[4] false,[.nilFunc],1,8⟩:TI)
def acH:TI:=(⟨.func #[2] #[69] false,[.nilFunc],1,8⟩:TI)
def acI:TI:=(⟨.func #[69,69] #[69] false,[.nilFunc],1,8⟩:TI)
def acJ:TI:=(⟨.func #[4] #[69] false,[.nilFunc],1,8⟩:TI)
def acK:TI:=(⟨.func #[2,2] #[69] false,[.nilFunc],1,8⟩:TI)
def acL:TI:=(⟨.func #[3] #[67] false,[.nilFunc],1,8⟩:TI)
def acM:TI:=(⟨.func #[30] #[] false,[.nilFunc],1,8⟩:TI)
def acN:TI:=(⟨.func #[30] #[30] false,[.nilFunc],1,8⟩:TI)
def acO:TI:=(⟨.func #[33,3] #[30,31] false,[.nilFunc],1,8⟩:TI)
def acP:TI:=(⟨.func #[3,3] #[4] false,[.nilFunc],1,8⟩:TI)
def acQ:TI:=(⟨.func #[33] #[4] false,[.nilFunc],1,8⟩:TI)
def acR:TI:=(⟨.func #[3] #[26] false,[.nilFunc],1,8⟩:TI)
def acS:TI:=(⟨.func #[36] #[36] false,[.nilFunc],1,8⟩:TI)
def acT:TI:=(⟨.slice 119,[.slice none 0 0],1,24⟩:TI)
def acU:TI:=(⟨.struct (bq Tryz.prog 118),[.int .i64 0,.int .i64 0,.int .i64 0],3,24⟩:TI)
def acV:TI:=(⟨.struct (bq Tryz.prog 119),[.int .i64 0,.int .i64 0,.int .i64 0],3,24⟩:TI)
def acW:TI:=(⟨.func #[22,117] #[117,40] false,[.nilFunc],1,8⟩:TI)
def acX:TI:=(⟨.func #[3,3,24] #[33] false,[.nilFunc],1,8⟩:TI)
def acY:TI:=(⟨.func #[33,3] #[25] false,[.nilFunc],1,8⟩:TI)
def acZ:TI:=(⟨.func #[22,3,39] #[36,40] false,[.nilFunc],1,8⟩:TI)
def ad0:TI:=(⟨.slice 39,[.slice none 0 0],1,24⟩:TI)
def ad1:TI:=(⟨.pointer 130,[.pointer none],1,8⟩:TI)
def ad2:TI:=(⟨.struct (bq Tryz.prog 129),[.slice none 0 0],1,24⟩:TI)
def ad3:TI:=(⟨.struct (bq Tryz.prog 130),[.slice none 0 0],1,24⟩:TI)
def ad4:TI:=(⟨.func #[39] #[4] false,[.nilFunc],1,8⟩:TI)
def ad5:TI:=(⟨.func #[156,20] #[] false,[.nilFunc],1,8⟩:TI)
def ad6:TI:=(⟨.struct (bq Tryz.prog 133),[.int .i64 0,.slice none 0 0],2,32⟩:TI)
def ad7:TI:=(⟨.struct (bq Tryz.prog 134),[.int .i64 0,.slice none 0 0],2,32⟩:TI)
def ad8:TI:=(⟨.func #[] #[3] false,[.nilFunc],1,8⟩:TI)
def ad9:TI:=(⟨.func #[156] #[20] false,[.nilFunc],1,8⟩:TI)
def ada:TI:=(⟨.func #[22,39,76] #[39] false,[.nilFunc],1,8⟩:TI)
def adb:TI:=(⟨.func #[44,30] #[3] false,[.nilFunc],1,8⟩:TI)
def adc:TI:=(⟨.func #[30,3] #[4] false,[.nilFunc],1,8⟩:TI)
def ade:TI:=(⟨.func #[69,69] #[3] false,[.nilFunc],1,8⟩:TI)
def adf:TI:=(⟨.array 4 67,[.int .u64 0,.int .u64 0,.int .u64 0,.int .u64 0],4,32⟩:TI)
def adg:TI:=(⟨.func #[67,67] #[142] false,[.nilFunc],1,8⟩:TI)
def adh:TI:=(⟨.func #[69,3] #[69] false,[.nilFunc],1,8⟩:TI)
def adi:TI:=(⟨.func #[3] #[3] false,[.nilFunc],1,8⟩:TI)
def adj:TI:=(⟨.func #[26,3] #[3] false,[.nilFunc],1,8⟩:TI)
def adk:TI:=(⟨.slice 69,[.slice none 0 0],1,24⟩:TI)
def adl:TI:=(⟨.func #[119,119] #[4] false,[.nilFunc],1,8⟩:TI)
def adm:TI:=(⟨.func #[69] #[2,4] false,[.nilFunc],1,8⟩:TI)
def adn:TI:=(⟨.func #[33] #[24] false,[.nilFunc],1,8⟩:TI)
def ado:TI:=(⟨.func #[22,3,39] #[40] false,[.nilFunc],1,8⟩:TI)
def adp:TI:=(⟨.func #[22,69] #[2,4] false,[.nilFunc],1,8⟩:TI)
def adq:TI:=(⟨.func #[22] #[2] false,[.nilFunc],1,8⟩:TI)
def adr:TI:=(⟨.func #[20] #[] false,[.nilFunc],1,8⟩:TI)
def ads:TI:=(⟨.func #[156,3] #[] false,[.nilFunc],1,8⟩:TI)
def adt:TI:=(⟨.func #[3,3] #[] false,[.nilFunc],1,8⟩:TI)
def adu:TI:=(⟨.func #[156,3,3] #[4] false,[.nilFunc],1,8⟩:TI)
def adv:TI:=(⟨.func #[] #[20] false,[.nilFunc],1,8⟩:TI)
def adw:TI:=(⟨.func #[44,3] #[3,3] false,[.nilFunc],1,8⟩:TI)
def adx:TI:=(⟨.func #[67] #[3] false,[.nilFunc],1,8⟩:TI)
def ady:TI:=(⟨.func #[26] #[84] false,[.nilFunc],1,8⟩:TI)
def adz:TI:=(⟨.array 64 5,[.int .u8 0,.int .u8 0,.int .u8 0,.int .u8 0,.int .u8 0,.int .u8 0,.int .u8 0,.int .u8 0,.int .u8 0,.int .u8 0,.int .u8 0,.int .u8 0,.int .u8 0,.int .u8 0,.int .u8 0,.int .u8 0,.int .u8 0,.int .u8 0,.int .u8 0,.int .u8 0,.int .u8 0,.int .u8 0,.int .u8 0,.int .u8 0,.int .u8 0,.int .u8 0,.int .u8 0,.int .u8 0,.int .u8 0,.int .u8 0,.int .u8 0,.int .u8 0,.int .u8 0,.int .u8 0,.int .u8 0,.int .u8 0,.int .u8 0,.int .u8 0,.int .u8 0,.int .u8 0,.int .u8 0,.int .u8 0,.int .u8 0,.int .u8 0,.int .u8 0,.int .u8 0,.int .u8 0,.int .u8 0,.int .u8 0,.int .u8 0,.int .u8 0,.int .u8 0,.int .u8 0,.int .u8 0,.int .u8 0,.int .u8 0,.int .u8 0,.int .u8 0,.int .u8 0,.int .u8 0,.int .u8 0,.int .u8 0,.int .u8 0,.int .u8 0],64,64⟩:TI)
def adA:TI:=(⟨.func #[] #[9] false,[.nilFunc],1,8⟩:TI)
def adB:TI:=(⟨.array 0 16,[],0,0⟩:TI)
def adC:TI:=(⟨.struct (bq Tryz.prog 171),[],0,0⟩:TI)
def adD:TI:=(⟨.struct (bq Tryz.prog 172),[],0,0⟩:TI)
def adE:TI:=(⟨.int .u32,[.int .u32 0],1,4⟩:TI)
def adF:TI:=(⟨.func #[182,182] #[4] false,[.nilFunc],1,8⟩:TI)
def adG:TI:=(⟨.pointer 5,[.pointer none],1,8⟩:TI)
def adH:TI:=(⟨.struct (bq Tryz.prog 180),[.int .u64 0,.int .u64 0,.int .u32 0,.int .u8 0,.int .u8 0,.int .u8 0,.int .u8 0,.nilFunc,.pointer none,.int .i32 0,.int .i32 0],11,48⟩:TI)
def adI:TI:=(⟨.struct (bq Tryz.prog 181),[.int .u64 0,.int .u64 0,.int .u32 0,.int .u8 0,.int .u8 0,.int .u8 0,.int .u8 0,.nilFunc,.pointer none,.int .i32 0,.int .i32 0],11,48⟩:TI)
def TT:List (Nat×TI):= [(1,i1),
 (2,(⟨.int .i64,[.int .i64 0],1,8⟩:TI)),
 (3,(⟨.int .i64,[.int .i64 0],1,8⟩:TI)),
 (4,i4),
 (5,(⟨.int .u8,[.int .u8 0],1,1⟩:TI)),
 (6,(⟨.int .u8,[.int .u8 0],1,1⟩:TI)),
 (7,i7),
 (8,i8),
 (12,(⟨.int .u64,[.int .u64 0],1,8⟩:TI)),
 (15,i15),
 (16,i16),
 (17,i17),
 (18,i18),
 (19,i19),
 (21,(⟨.int .i32,[.int .i32 0],1,4⟩:TI)),
 (22,(⟨.int .i64,[.int .i64 0],1,8⟩:TI)),
 (23,i23),
 (24,i24),
 (25,i25),
 (26,i26),
 (27,i27),
 (28,i28),
 (29,i29),
 (30,i30),
 (31,i31),
 (32,i32),
 (33,i33),
 (34,i34),
 (35,i35),
 (36,i36),
 (37,i37),
 (38,i38),
 (39,i39),
 (40,(⟨.int .i64,[.int .i64 0],1,8⟩:TI)),
 (42,i42),
 (43,i43),
 (44,i44),
 (45,i45),
 (46,i46),
 (47,i47),
 (48,i48),
 (49,i49),
 (50,i50),
 (51,i51),
 (52,i52),
 (53,i53),
 (54,i54),
 (55,i55),
 (56,i56),
 (57,i57),
 (58,i58),
 (59,i59),
 (60,i60),
 (61,i61),
 (62,i62),
 (63,(⟨.func #[103] #[] false,[.nilFunc],1,8⟩:TI)),
 (64,(⟨.func #[103] #[] false,[.nilFunc],1,8⟩:TI)),
 (65,i65),
 (66,i66),
 (67,(⟨.int .u64,[.int .u64 0],1,8⟩:TI)),
 (68,i68),
 (69,i69),
 (70,i70),
 (71,i71),
 (72,i72),
 (73,i73),
 (74,i74),
 (75,i75),
 (76,i76),
 (77,i77),
 (78,(⟨.func #[113] #[] false,[.nilFunc],1,8⟩:TI)),
 (79,(⟨.func #[113] #[] false,[.nilFunc],1,8⟩:TI)),
 (80,i80),
 (81,i81),
 (82,i82),
 (83,(⟨.func #[102] #[] false,[.nilFunc],1,8⟩:TI)),
 (84,(⟨.func #[102] #[] false,[.nilFunc],1,8⟩:TI)),
 (85,i85),
 (87,i87),
 (88,i88),
 (89,i89),
 (91,i91),
 (92,i92),
 (93,i93),
 (95,i95),
 (96,i96),
 (97,i97),
 (98,i98),
 (99,i99),
 (100,acD),
 (101,acE),
 (102,acF),
 (103,acG),
 (104,acH),
 (105,acI),
 (106,acJ),
 (107,acK),
 (108,acL),
 (109,acM),
 (110,acN),
 (112,acO),
 (113,acP),
 (114,acQ),
 (115,acR),
 (116,acS),
 (117,acT),
 (118,acU),
 (119,acV),
 (121,acW),
 (122,acX),
 (123,acY),
 (124,acZ),
 (125,ad0),
 (126,ad1),
 (127,(⟨.slice 134,[.slice none 0 0],1,24⟩:TI)),
 (128,(⟨.slice 134,[.slice none 0 0],1,24⟩:TI)),
 (129,ad2),
 (130,ad3),
 (131,ad4),
 (132,ad5),
 (133,ad6),
 (134,ad7),
 (135,ad8),
 (136,ad9),
 (137,ada),
 (138,adb),
 (139,adc),
 (140,(⟨.int .u64,[.int .u64 0],1,8⟩:TI)),
 (141,ade),
 (142,adf),
 (143,adg),
 (144,adh),
 (145,adi),
 (146,adj),
 (147,adk),
 (148,adl),
 (150,adm),
 (151,adn),
 (152,ado),
 (153,adp),
 (154,adq),
 (157,adr),
 (158,ads),
 (159,adt),
 (160,adu),
 (161,adv),
 (163,adw),
 (164,adx),
 (165,ady),
 (166,adz),
 (167,adA),
 (170,adB),
 (171,adC),
 (172,adD),
 (173,adE),
 (174,(⟨.int .u8,[.int .u8 0],1,1⟩:TI)),
 (175,(⟨.int .u8,[.int .u8 0],1,1⟩:TI)),
 (176,adF),
 (177,adG),
 (178,(⟨.int .i32,[.int .i32 0],1,4⟩:TI)),
 (179,(⟨.int .i32,[.int .i32 0],1,4⟩:TI)),
 (180,adH),
 (181,adI)]
theorem tz1:aj Tryz.prog 1=some i1:=by kernel_rfl
theorem tz2:aj Tryz.prog 2=some (⟨.int .i64,[.int .i64 0],1,8⟩:TI):=by kernel_rfl
theorem tz3:aj Tryz.prog 3=some (⟨.int .i64,[.int .i64 0],1,8⟩:TI):=by kernel_rfl
theorem tz4:aj Tryz.prog 4=some i4:=by kernel_rfl
theorem tz5:aj Tryz.prog 5=some (⟨.int .u8,[.int .u8 0],1,1⟩:TI):=by kernel_rfl
theorem tz6:aj Tryz.prog 6=some (⟨.int .u8,[.int .u8 0],1,1⟩:TI):=by kernel_rfl
theorem tz7:aj Tryz.prog 7=some i7:=by kernel_rfl
theorem tz8:aj Tryz.prog 8=some i8:=by kernel_rfl
theorem aaj:aj Tryz.prog 12=some (⟨.int .u64,[.int .u64 0],1,8⟩:TI):=by kernel_rfl
theorem aak:aj Tryz.prog 15=some i15:=by kernel_rfl
theorem aal:aj Tryz.prog 16=some i16:=by kernel_rfl
theorem aam:aj Tryz.prog 17=some i17:=by kernel_rfl
theorem aan:aj Tryz.prog 18=some i18:=by kernel_rfl
theorem aao:aj Tryz.prog 19=some i19:=by kernel_rfl
theorem aap:aj Tryz.prog 21=some (⟨.int .i32,[.int .i32 0],1,4⟩:TI):=by kernel_rfl
theorem Xc:aj Tryz.prog 22=some (⟨.int .i64,[.int .i64 0],1,8⟩:TI):=by kernel_rfl
theorem Xd:aj Tryz.prog 23=some i23:=by kernel_rfl
theorem aaq:aj Tryz.prog 24=some i24:=by kernel_rfl
theorem Xe:aj Tryz.prog 25=some i25:=by kernel_rfl
theorem Xf:aj Tryz.prog 26=some i26:=by kernel_rfl
theorem aar:aj Tryz.prog 27=some i27:=by kernel_rfl
theorem Xg:aj Tryz.prog 28=some i28:=by kernel_rfl
theorem aas:aj Tryz.prog 29=some i29:=by kernel_rfl
theorem Xh:aj Tryz.prog 30=some i30:=by kernel_rfl
theorem Xi:aj Tryz.prog 31=some i31:=by kernel_rfl
theorem aat:aj Tryz.prog 32=some i32:=by kernel_rfl
theorem Xj:aj Tryz.prog 33=some i33:=by kernel_rfl
theorem aau:aj Tryz.prog 34=some i34:=by kernel_rfl
theorem aav:aj Tryz.prog 35=some i35:=by kernel_rfl
theorem Xk:aj Tryz.prog 36=some i36:=by kernel_rfl
theorem aaw:aj Tryz.prog 37=some i37:=by kernel_rfl
theorem aax:aj Tryz.prog 38=some i38:=by kernel_rfl
theorem Xl:aj Tryz.prog 39=some i39:=by kernel_rfl
theorem aay:aj Tryz.prog 40=some (⟨.int .i64,[.int .i64 0],1,8⟩:TI):=by kernel_rfl
theorem aaz:aj Tryz.prog 42=some i42:=by kernel_rfl
theorem aaA:aj Tryz.prog 43=some i43:=by kernel_rfl
theorem Xm:aj Tryz.prog 44=some i44:=by kernel_rfl
theorem aaB:aj Tryz.prog 45=some i45:=by kernel_rfl
theorem aaC:aj Tryz.prog 46=some i46:=by kernel_rfl
theorem aaD:aj Tryz.prog 47=some i47:=by kernel_rfl
theorem Xn:aj Tryz.prog 48=some i48:=by kernel_rfl
theorem aaE:aj Tryz.prog 49=some i49:=by kernel_rfl
theorem aaF:aj Tryz.prog 50=some i50:=by kernel_rfl
theorem aaG:aj Tryz.prog 51=some i51:=by kernel_rfl
theorem aaH:aj Tryz.prog 52=some i52:=by kernel_rfl
theorem aaI:aj Tryz.prog 53=some i53:=by kernel_rfl
theorem aaJ:aj Tryz.prog 54=some i54:=by kernel_rfl
theorem aaK:aj Tryz.prog 55=some i55:=by kernel_rfl
theorem aaL:aj Tryz.prog 56=some i56:=by kernel_rfl
theorem aaM:aj Tryz.prog 57=some i57:=by kernel_rfl
theorem Xo:aj Tryz.prog 58=some i58:=by kernel_rfl
theorem aaN:aj Tryz.prog 59=some i59:=by kernel_rfl
theorem aaO:aj Tryz.prog 60=some i60:=by kernel_rfl
theorem aaP:aj Tryz.prog 61=some i61:=by kernel_rfl
theorem Xp:aj Tryz.prog 62=some i62:=by kernel_rfl
theorem aaQ:aj Tryz.prog 63=some (⟨.func #[103] #[] false,[.nilFunc],1,8⟩:TI):=by kernel_rfl
theorem aaR:aj Tryz.prog 64=some (⟨.func #[103] #[] false,[.nilFunc],1,8⟩:TI):=by kernel_rfl
theorem aaS:aj Tryz.prog 65=some i65:=by kernel_rfl
theorem aaT:aj Tryz.prog 66=some i66:=by kernel_rfl
theorem Xq:aj Tryz.prog 67=some (⟨.int .u64,[.int .u64 0],1,8⟩:TI):=by kernel_rfl
theorem aaU:aj Tryz.prog 68=some i68:=by kernel_rfl
theorem Xr:aj Tryz.prog 69=some i69:=by kernel_rfl
theorem aaV:aj Tryz.prog 70=some i70:=by kernel_rfl
theorem Xu:aj Tryz.prog 71=some i71:=by kernel_rfl
theorem aaW:aj Tryz.prog 72=some i72:=by kernel_rfl
theorem aaX:aj Tryz.prog 73=some i73:=by kernel_rfl
theorem aaY:aj Tryz.prog 74=some i74:=by kernel_rfl
theorem aaZ:aj Tryz.prog 75=some i75:=by kernel_rfl
theorem Xv:aj Tryz.prog 76=some i76:=by kernel_rfl
theorem ab0:aj Tryz.prog 77=some i77:=by kernel_rfl
theorem ab1:aj Tryz.prog 78=some (⟨.func #[113] #[] false,[.nilFunc],1,8⟩:TI):=by kernel_rfl
theorem ab2:aj Tryz.prog 79=some (⟨.func #[113] #[] false,[.nilFunc],1,8⟩:TI):=by kernel_rfl
theorem ab3:aj Tryz.prog 80=some i80:=by kernel_rfl
theorem ab4:aj Tryz.prog 81=some i81:=by kernel_rfl
theorem Xw:aj Tryz.prog 82=some i82:=by kernel_rfl
theorem ab5:aj Tryz.prog 83=some (⟨.func #[102] #[] false,[.nilFunc],1,8⟩:TI):=by kernel_rfl
theorem ab6:aj Tryz.prog 84=some (⟨.func #[102] #[] false,[.nilFunc],1,8⟩:TI):=by kernel_rfl
theorem ab7:aj Tryz.prog 85=some i85:=by kernel_rfl
theorem ab8:aj Tryz.prog 87=some i87:=by kernel_rfl
theorem ab9:aj Tryz.prog 88=some i88:=by kernel_rfl
theorem aba:aj Tryz.prog 89=some i89:=by kernel_rfl
theorem abb:aj Tryz.prog 91=some i91:=by kernel_rfl
theorem abc:aj Tryz.prog 92=some i92:=by kernel_rfl
theorem abd:aj Tryz.prog 93=some i93:=by kernel_rfl
theorem abe:aj Tryz.prog 95=some i95:=by kernel_rfl
theorem abf:aj Tryz.prog 96=some i96:=by kernel_rfl
theorem abg:aj Tryz.prog 97=some i97:=by kernel_rfl
theorem abh:aj Tryz.prog 98=some i98:=by kernel_rfl
theorem abi:aj Tryz.prog 99=some i99:=by kernel_rfl
theorem RV:aj Tryz.prog 100=some acD:=by kernel_rfl
theorem RW:aj Tryz.prog 101=some acE:=by kernel_rfl
theorem RX:aj Tryz.prog 102=some acF:=by kernel_rfl
theorem RY:aj Tryz.prog 103=some acG:=by kernel_rfl
theorem RZ:aj Tryz.prog 104=some acH:=by kernel_rfl
theorem Sa:aj Tryz.prog 105=some acI:=by kernel_rfl
theorem Sb:aj Tryz.prog 106=some acJ:=by kernel_rfl
theorem Sd:aj Tryz.prog 107=some acK:=by kernel_rfl
theorem Se:aj Tryz.prog 108=some acL:=by kernel_rfl
theorem Sf:aj Tryz.prog 109=some acM:=by kernel_rfl
theorem Sg:aj Tryz.prog 110=some acN:=by kernel_rfl
theorem Si:aj Tryz.prog 112=some acO:=by kernel_rfl
theorem Sj:aj Tryz.prog 113=some acP:=by kernel_rfl
theorem Sk:aj Tryz.prog 114=some acQ:=by kernel_rfl
theorem Sn:aj Tryz.prog 115=some acR:=by kernel_rfl
theorem So:aj Tryz.prog 116=some acS:=by kernel_rfl
theorem Oy:aj Tryz.prog 117=some acT:=by kernel_rfl
theorem Sp:aj Tryz.prog 118=some acU:=by kernel_rfl
theorem Oz:aj Tryz.prog 119=some acV:=by kernel_rfl
theorem Sq:aj Tryz.prog 121=some acW:=by kernel_rfl
theorem Sr:aj Tryz.prog 122=some acX:=by kernel_rfl
theorem Ss:aj Tryz.prog 123=some acY:=by kernel_rfl
theorem Su:aj Tryz.prog 124=some acZ:=by kernel_rfl
theorem Sv:aj Tryz.prog 125=some ad0:=by kernel_rfl
theorem Sw:aj Tryz.prog 126=some ad1:=by kernel_rfl
theorem Sx:aj Tryz.prog 127=some (⟨.slice 134,[.slice none 0 0],1,24⟩:TI):=by kernel_rfl
theorem Sy:aj Tryz.prog 128=some (⟨.slice 134,[.slice none 0 0],1,24⟩:TI):=by kernel_rfl
theorem Sz:aj Tryz.prog 129=some ad2:=by kernel_rfl
theorem SA:aj Tryz.prog 130=some ad3:=by kernel_rfl
theorem SC:aj Tryz.prog 131=some ad4:=by kernel_rfl
theorem SD:aj Tryz.prog 132=some ad5:=by kernel_rfl
theorem SE:aj Tryz.prog 133=some ad6:=by kernel_rfl
theorem SF:aj Tryz.prog 134=some ad7:=by kernel_rfl
theorem SG:aj Tryz.prog 135=some ad8:=by kernel_rfl
theorem SH:aj Tryz.prog 136=some ad9:=by kernel_rfl
theorem SI:aj Tryz.prog 137=some ada:=by kernel_rfl
theorem SJ:aj Tryz.prog 138=some adb:=by kernel_rfl
theorem SK:aj Tryz.prog 139=some adc:=by kernel_rfl
theorem SM:aj Tryz.prog 140=some (⟨.int .u64,[.int .u64 0],1,8⟩:TI):=by kernel_rfl
theorem SN:aj Tryz.prog 141=some ade:=by kernel_rfl
theorem SO:aj Tryz.prog 142=some adf:=by kernel_rfl
theorem SP:aj Tryz.prog 143=some adg:=by kernel_rfl
theorem SQ:aj Tryz.prog 144=some adh:=by kernel_rfl
theorem SR:aj Tryz.prog 145=some adi:=by kernel_rfl
theorem SS:aj Tryz.prog 146=some adj:=by kernel_rfl
theorem ST:aj Tryz.prog 147=some adk:=by kernel_rfl
theorem SU:aj Tryz.prog 148=some adl:=by kernel_rfl
theorem SW:aj Tryz.prog 150=some adm:=by kernel_rfl
theorem SX:aj Tryz.prog 151=some adn:=by kernel_rfl
theorem SY:aj Tryz.prog 152=some ado:=by kernel_rfl
theorem SZ:aj Tryz.prog 153=some adp:=by kernel_rfl
theorem Ta:aj Tryz.prog 154=some adq:=by kernel_rfl
theorem Tb:aj Tryz.prog 157=some adr:=by kernel_rfl
theorem Tc:aj Tryz.prog 158=some ads:=by kernel_rfl
theorem Td:aj Tryz.prog 159=some adt:=by kernel_rfl
theorem Te:aj Tryz.prog 160=some adu:=by kernel_rfl
theorem Tf:aj Tryz.prog 161=some adv:=by kernel_rfl
theorem Tg:aj Tryz.prog 163=some adw:=by kernel_rfl
theorem Ti:aj Tryz.prog 164=some adx:=by kernel_rfl
theorem Tj:aj Tryz.prog 165=some ady:=by kernel_rfl
theorem Tl:aj Tryz.prog 166=some adz:=by kernel_rfl
theorem Tm:aj Tryz.prog 167=some adA:=by kernel_rfl
theorem Tn:aj Tryz.prog 170=some adB:=by kernel_rfl
theorem To:aj Tryz.prog 171=some adC:=by kernel_rfl
theorem Tp:aj Tryz.prog 172=some adD:=by kernel_rfl
theorem Tq:aj Tryz.prog 173=some adE:=by kernel_rfl
theorem Tr:aj Tryz.prog 174=some (⟨.int .u8,[.int .u8 0],1,1⟩:TI):=by kernel_rfl
theorem Ts:aj Tryz.prog 175=some (⟨.int .u8,[.int .u8 0],1,1⟩:TI):=by kernel_rfl
theorem Tt:aj Tryz.prog 176=some adF:=by kernel_rfl
theorem Tu:aj Tryz.prog 177=some adG:=by kernel_rfl
theorem Tv:aj Tryz.prog 178=some (⟨.int .i32,[.int .i32 0],1,4⟩:TI):=by kernel_rfl
theorem Tw:aj Tryz.prog 179=some (⟨.int .i32,[.int .i32 0],1,4⟩:TI):=by kernel_rfl
theorem Tx:aj Tryz.prog 180=some adH:=by kernel_rfl
theorem Tz:aj Tryz.prog 181=some adI:=by kernel_rfl
theorem ua:Tryz.prog.follows .mixedOrders=true:=by kernel_rfl
theorem ub:HE Tryz.prog=true:=by kernel_rfl
def dk:List TD->Option (Kind×List TD):=λ_=>none
theorem OA(x y:Operand)(a0 b0 a1 b1:Int):am Tryz.prog (do eqGuard .eql 69 x y (.agg #[.int .i64 a0,.int .u64 a1]) (.agg #[.int .i64 b0,.int .u64 b1]);binOp .eql 69 (.agg #[.int .i64 a0,.int .u64 a1]) (.agg #[.int .i64 b0,.int .u64 b1]))=some (.bool ((a0==b0 &&(a1==b1 && true)))):=by
 refine Wa (by kernel_rfl) ((qi 9999 69 #[.int .i64 a0,.int .u64 a1] #[.int .i64 b0,.int .u64 b1] (fs:=bq Tryz.prog 68) (by kernel_rfl) (by kernel_rfl)).trans ?_);rw [show(bq Tryz.prog 68).toList= [fld Tryz.prog 68 0,fld Tryz.prog 68 1]by kernel_rfl];exact((kI (k:= .i64) (k':= .i64) (by kernel_rfl) (by kernel_rfl) (by kernel_rfl) (by kernel_rfl)).trans (rO ((kI (k:= .u64) (k':= .u64) (by kernel_rfl) (by kernel_rfl) (by kernel_rfl) (by kernel_rfl)).trans (rO nU))))
theorem OB(x y:Operand)(a0 b0 a1 b1:Int):am Tryz.prog (do eqGuard .neq 69 x y (.agg #[.int .i64 a0,.int .u64 a1]) (.agg #[.int .i64 b0,.int .u64 b1]);binOp .neq 69 (.agg #[.int .i64 a0,.int .u64 a1]) (.agg #[.int .i64 b0,.int .u64 b1]))=some (.bool (!(a0==b0 &&(a1==b1 && true)))):=by
 refine Lm (by kernel_rfl) ((qi 9999 69 #[.int .i64 a0,.int .u64 a1] #[.int .i64 b0,.int .u64 b1] (fs:=bq Tryz.prog 68) (by kernel_rfl) (by kernel_rfl)).trans ?_);rw [show(bq Tryz.prog 68).toList= [fld Tryz.prog 68 0,fld Tryz.prog 68 1]by kernel_rfl];exact((kI (k:= .i64) (k':= .i64) (by kernel_rfl) (by kernel_rfl) (by kernel_rfl) (by kernel_rfl)).trans (rO ((kI (k:= .u64) (k':= .u64) (by kernel_rfl) (by kernel_rfl) (by kernel_rfl) (by kernel_rfl)).trans (rO nU))))
def EQS:List (Nat×List IntKind):= [(69,[.i64,.u64])]
def fi4:FI:=fiF Tryz.f4
def fi5:FI:=fiF Tryz.f5
def fi6:FI:=fiF Tryz.f6
def fi7:FI:=fiF Tryz.f7
def afl:FI:=fiF Tryz.f13
def adJ:FI:=fiF Tryz.f14
def adK:FI:=fiF Tryz.f15
def afm:FI:=fiF Tryz.f16
def adL:FI:=fiF Tryz.f17
def adM:FI:=fiF Tryz.f18
def adN:FI:=fiF Tryz.f19
def afn:FI:=fiF Tryz.f20
def afo:FI:=fiF Tryz.f21
def adO:FI:=fiF Tryz.f23
def abj:FI:=fiF Tryz.f24
def afp:FI:=fiF Tryz.f25
def adP:FI:=fiF Tryz.f26
def afq:FI:=fiF Tryz.f28
def afr:FI:=fiF Tryz.f33
def afs:FI:=fiF Tryz.f34
def adQ:FI:=fiF Tryz.f35
def adR:FI:=fiF Tryz.f40
def abk:FI:=fiF Tryz.f41
def aft:FI:=fiF Tryz.f42
def adS:FI:=fiF Tryz.f43
def afu:FI:=fiF Tryz.f44
def abl:FI:=fiF Tryz.f46
def abm:FI:=fiF Tryz.f47
def abn:FI:=fiF Tryz.f48
def abo:FI:=fiF Tryz.f49
def adT:FI:=fiF Tryz.f50
def afv:FI:=fiF Tryz.f51
def adU:FI:=fiF Tryz.f52
def adV:FI:=fiF Tryz.f53
def abp:FI:=fiF Tryz.f54
def adW:FI:=fiF Tryz.f55
def adX:FI:=fiF Tryz.f56
def adY:FI:=fiF Tryz.f58
def afw:FI:=fiF Tryz.f61
def afx:FI:=fiF Tryz.f62
def adZ:FI:=fiF Tryz.f63
def ae0:FI:=fiF Tryz.f64
def ae1:FI:=fiF Tryz.f65
def ae2:FI:=fiF Tryz.f69
def ae3:FI:=fiF Tryz.f75
def ae4:FI:=fiF Tryz.f76
def abq:FI:=fiF Tryz.f77
def ae5:FI:=fiF Tryz.f78
def ae6:FI:=fiF Tryz.f79
def ae7:FI:=fiF Tryz.f80
def ae8:FI:=fiF Tryz.f81
def ae9:FI:=fiF Tryz.f82
def afy:FI:=fiF Tryz.f83
def aea:FI:=fiF Tryz.f85
def aeb:FI:=fiF Tryz.f86
def aec:FI:=fiF Tryz.f87
def aed:FI:=fiF Tryz.f88
def ZK:FI:=fiF Tryz.f100
def ZL:FI:=fiF Tryz.f101
def ZM:FI:=fiF Tryz.f102
abbrev abr:TyD:=(true,.C (.I .u8) (.I .u8))
abbrev yD9:TyD:=(true,.C (.I .i64) (.I .u64))
abbrev yD8:TyD:=(false,.S (.C (.I .i64) (.I .i64)))
abbrev yD7:TyD:=(true,.C (.I .i64) (.C (.I .i64) (.I .i64)))
abbrev yD6:TyD:=(true,.C (.I .i64) (.S (.C (.I .i64) (.I .i64))))
abbrev yD5:TyD:=(false,.S (.C (.I .i64) (.C (.I .i64) (.I .i64))))
abbrev yD4:TyD:=(false,.S (.C (.I .i64) (.C (.I .i64) (.I .u64))))
abbrev yD3:TyD:=(true,.C (.I .u64) (.C (.I .u64) (.C (.I .u64) (.I .u64))))
abbrev yD2:TyD:=(true,.C (.I .i64) (.C (.I .i64) (.C (.S (.I .i64)) (.C (.S (.I .i64)) (.S (.I .i64))))))
abbrev yD1:TyD:=(true,.C (.I .i64) (.C (.I .i64) (.C (.S (.I .i64)) (.C (.S (.I .i64)) (.C (.S (.I .i64)) (.S (.I .i64)))))))
abbrev yD0:TyD:=(true,.C (.I .i64) (.C (.C (.I .u8) (.I .u8)) (.C (.S (.C (.I .i64) (.C (.I .i64) (.I .i64)))) (.C (.S (.C (.I .i64) (.I .i64))) (.C (.S (.C (.I .i64) (.I .i64))) (.C (.S (.I .u64)) .B))))))
end K
end Ev
end
noncomputable section
namespace Ev
namespace K
open Go Go.RowKit
set_option maxRecDepth 100000
set_option maxHeartbeats 1000000
def Qe:dh:= []
def wU:KG:=⟨TT,EQS,[],[]⟩
def bY:vals [(false,.I .i64)]->Option (OutK.val (.data true [yD9])):=dI wU Qe abl 46 0 [(false,.I .i64)] (.data true [yD9])
def sa:bJ:=⟨46,[(false,.I .i64)],.data true [yD9],bY,1⟩
def Ad:dh:= []
def mH:KG:=⟨TT,EQS,[],[]⟩
def eu:vals [yD9,yD9]->Option (OutK.val (.data true [(false,.I .i64)])):=dI mH Ad abq 77 0 [yD9,yD9] (.data true [(false,.I .i64)])
def mI:bJ:=⟨77,[yD9,yD9],.data true [(false,.I .i64)],eu,1⟩
def Dc:dh:= []
def ob:KG:=⟨TT,EQS,[mI],[]⟩
def dr:vals [yD9,yD9]->Option (OutK.val (.data true [yD9])):=dI ob Dc abm 47 0 [yD9,yD9] (.data true [yD9])
def kT:bJ:=⟨47,[yD9,yD9],.data true [yD9],dr,2⟩
def LR:dh:= []
def uc:KG:=⟨TT,EQS,[],[]⟩
def dt:vals [yD9,yD9]->Option (OutK.val (.data true [yD9])):=dI uc LR abn 48 0 [yD9,yD9] (.data true [yD9])
def mJ:bJ:=⟨48,[yD9,yD9],.data true [yD9],dt,1⟩
def Ga:dh:= []
def pG:KG:=⟨TT,EQS,[sa],[]⟩
def cL:vals [(false,.B)]->Option (OutK.val (.data true [yD9])):=dI pG Ga abo 49 0 [(false,.B)] (.data true [yD9])
def mf:bJ:=⟨49,[(false,.B)],.data true [yD9],cL,2⟩
def LS:dh:= [(24,⟨[⟨true,2,9,[4,5,6,7],⟨[],[],[]⟩,[(.normal,⟨[(8,false,[.d true .B])],[],[]⟩)]⟩],[]⟩)]
def ud:KG:=⟨TT,EQS,[kT,mJ,mf],[]⟩
def gM:vals [(false,.I .i64),yD9,yD9]->Option (OutK.val (.data true [yD9])):=dI ud LS abj 24 0 [(false,.I .i64),yD9,yD9] (.data true [yD9])
def Ae:bJ:=⟨24,[(false,.I .i64),yD9,yD9],.data true [yD9],gM,3⟩
def Qf:dh:= []
def Ek:KG:=⟨TT,EQS,[],[]⟩
def jh:vals [(false,.I .i64)]->Option (OutK.val (.data true [(false,.B)])):=dI Ek Qf adN 19 0 [(false,.I .i64)] (.data true [(false,.B)])
def Qg:bJ:=⟨19,[(false,.I .i64)],.data true [(false,.B)],jh,1⟩
def Gb:dh:= []
def Gc:KG:=⟨TT,EQS,[],[]⟩
def fc:vals [(false,.I .i64)]->Option (OutK.val (.data true [(false,.B)])):=dI Gc Gb afu 44 0 [(false,.I .i64)] (.data true [(false,.B)])
def Gd:bJ:=⟨44,[(false,.I .i64)],.data true [(false,.B)],fc,1⟩
def De:dh:= [(21,⟨[⟨false,5,0,[1,11,12],⟨[(3,false,[.d true (.I .i64)]),(13,false,[.d true (.I .i64)])],[],[]⟩,[(.exit 0,⟨[],[],[]⟩),(.ret,⟨[(2,false,[.d true .B])],[],[]⟩)]⟩],[]⟩)]
def Df:KG:=⟨TT,EQS,[Gd],[]⟩
def du:vals [yD6]->Option (OutK.val (.data true [(false,.B)])):=dI Df De afo 21 0 [yD6] (.data true [(false,.B)])
def Dg:bJ:=⟨21,[yD6],.data true [(false,.B)],du,2⟩
def Ge:dh:= []
def Gf:KG:=⟨TT,EQS,[Dg],[]⟩
def fe:vals [yD6]->Option (OutK.val (.data false [yD6])):=dI Gf Ge afx 62 0 [yD6] (.data false [yD6])
def Gg:bJ:=⟨62,[yD6],.data false [yD6],fe,3⟩
def Gh:dh:= [(69,⟨[⟨false,2,0,[0],⟨[(3,false,[.d true (.I .i64)])],[],[]⟩,[(.exit 0,⟨[],[],[]⟩),(.ret,⟨[(2,false,[.d true .B])],[],[]⟩)]⟩],[]⟩)]
def vh:KG:=⟨TT,EQS,[],[]⟩
def ku:vals [yD4]->Option (OutK.val (.data true [(false,.B)])):=dI vh Gh ae2 69 0 [yD4] (.data true [(false,.B)])
def Gi:bJ:=⟨69,[yD4],.data true [(false,.B)],ku,1⟩
end K
end Ev
end
noncomputable section
namespace Ev
namespace KM
open Go Go.RowKit
def bY(x:Int):Option (Int×Int):=K.bY x
def eu(x:Int×Int)(y:Int×Int):Option (Int):=K.eu (x,y)
def dr(x:Int×Int)(y:Int×Int):Option (Int×Int):=K.dr (x,y)
def dt(x:Int×Int)(y:Int×Int):Option (Int×Int):=K.dt (x,y)
def cL(x:Bool):Option (Int×Int):=K.cL x
def gM(x:Int)(y:Int×Int)(z:Int×Int):Option (Int×Int):=K.gM (x,y,z)
def jh(x:Int):Option (Bool):=K.jh x
def fc(x:Int):Option (Bool):=K.fc x
def du(x:Int×(Sl (Int×Int))):Option (Bool):=K.du x
def fe(x:Int×(Sl (Int×Int))):Option (Int×(Sl (Int×Int))):=K.fe x
def ku(x:Sl (Int×(Int×Int))):Option (Bool):=K.ku x
end KM
end Ev
end
noncomputable section
namespace Ev
namespace K
open Go Go.RowKit
def IM{α:Type}(f:List T->Option α):List (List T)->Option (List α)
 | []=>some []
 |a::r=>(f a).bind λx=>(IM f r).map (x::·)
theorem Af{α:Type}{f:List T->Option α}{g:α->List T}(h:∀a x,f a=some x->a=g x):∀{l:List (List T)} {r:List α},IM f l=some r->l=r.map g
 | [],r,hr=>by simp [IM]at hr;subst hr;rfl
 |a::l,r,hr=>by
  simp only [IM,zbE,Option.map_eq_some_iff]at hr;obtain⟨x,hx,r',hr',rfl⟩:=hr;rw [List.map_cons,<-h a x hx,<-Af h hr']
def zc:(e:Ty)->List T->Option e.val
 | .I k,l=>match l with
  | [.v (.int k' n)]=>if k'=k then some n else none
  |_=>none
 | .B,l=>match l with
  | [.v (.bool b)]=>some b
  |_=>none
 | .S e,l=>match l with
  | [.s nn sz rows]=>(IM (zc e) rows).map λr=>⟨nn,sz,r⟩
  |_=>none
 | .U,l=>match l with
  | []=>some ()
  |_=>none
 | .C a b,l=>(zc a (l.take a.size)).bind λx=>(zc b (l.drop a.size)).bind λy=>some (x,y)
theorem my:∀(e:Ty) (l:List T) (x:e.val),zc e l=some x->l=e.row x
 | .I k,l,x,h=>by
  simp only [zc]at h;split at h
  .split at h
   .rename_i hk;cases h;subst hk;rfl
   .simp at h
  .simp at h
 | .B,l,x,h=>by
  simp only [zc]at h;split at h
  .cases h;rfl
  .simp at h
 | .S e,l,x,h=>by
  simp only [zc]at h;split at h
  .rw [Option.map_eq_some_iff]at h;obtain⟨r,hr,rfl⟩:=h;rw [Af (my e) hr];rfl
  .simp at h
 | .U,l,x,h=>by
  simp only [zc]at h;split at h
  .rfl
  .simp at h
 | .C a b,l,x,h=>by
  simp only [zc,zbE]at h;obtain⟨x1,h1,x2,h2,h3⟩:=h;cases h3;show l=a.row x1++b.row x2;rw [<-my a _ _ h1,<-my b _ _ h2,List.take_append_drop]
def IN(t:TyD)(d:TD):Option t.2.val:=
 match t,d with
 |(true,e),.agg l=>zc e l
 |(false,e),.one y=>zc e [y]
 |(false,e),.agg l=>if l.length=1 then none else zc e l
 |_,_=>none
def ZN:List T->TD
 | [y]=> .one y
 |ys=> .agg ys
theorem IP(e:Ty)(x:e.val):uE (false,e) x=ZN (e.row x):=by
 unfold uE ZN;rfl
theorem Ag(t:TyD)(d:TD)(x:t.2.val)(h:IN t d=some x):d=uE t x:=by
 obtain⟨b,e⟩:=t
 cases b with
 |true=>
  cases d with
  |one y=>simp [IN]at h
  |agg l=>exact congrArg TD.agg (my e l x h)
 |false=>
  change e.val at x
  cases d with
  |one y=>rw [show uE (false,e) x=_ from IP e x,<-my e [y] x h];rfl
  |agg l=>
   simp only [IN]at h;split at h
   .simp at h
   .rename_i hl
    have:=my e l x h
    rw [show uE (false,e) x=_ from IP e x,<-this]
    match l,hl with
    | [],_=>rfl
    | [y],hl=>simp at hl
    |a::b::r,_=>rfl
def wV:(ts:List TyD)->List TD->Option (vals ts)
 | [],l=>match l with
  | []=>some ()
  |_=>none
 | [t],l=>match l with
  | [d]=>IN t d
  |_=>none
 |t::t'::r,l=>match l with
  |d::ds=>(IN t d).bind λx=>(wV (t'::r) ds).bind λy=>some (x,y)
  | []=>none
theorem xX:∀(ts:List TyD) (l:List TD) (x:vals ts),wV ts l=some x->l=jK ts x
 | [],l,x,h=>by
  simp only [wV]at h;split at h
  .rfl
  .simp at h
 | [t],l,x,h=>by
  simp only [wV]at h;split at h
  .exact congrArg (·:: []) (Ag t _ x h)
  .simp at h
 |t::t'::r,l,x,h=>by
  simp only [wV]at h;split at h
  .simp only [zbE]at h;obtain⟨y,h1,z,h2,h3⟩:=h;cases h3;show _=uE t y::jK (t'::r) z;rw [<-Ag t _ y h1,<-xX (t'::r) _ z h2]
  .simp at h
def TA(ins:List TyD)(kind:Kind)(ts:List TyD)(g:vals ins->Option (vals ts))(vs:List TD):Option (Kind×List TD):=(wV ins vs).bind λa=>(g a).bind λx=>some (kind,jK ts x)
theorem Xx{P:Program}{k:FuncId}{ins:List TyD}{kind:Kind}{ts:List TyD}{g:vals ins->Option (vals ts)}(he:Enters P k)(h:∀a x,g a=some x->bL P k (jK ins a) kind (jK ts x)):∀vs kind' rs,TA ins kind ts g vs=some (kind',rs)->bL P k vs kind' rs/\Enters P k:=by
 intro vs kind' rs hf;simp only [TA,zbE]at hf;obtain⟨a,h1,x,h2,h3⟩:=hf;cases h3;rw [xX ins vs a h1];exact⟨h a x h2,he⟩
end K
end Ev
end
noncomputable section
namespace Ev
namespace KM
open Go Go.RowKit
set_option maxRecDepth 100000
set_option maxHeartbeats 1000000
theorem dJ(x:Int):bY x=(rL IntKind.i64 x 63).bind λ(z:Int)=>some (z,IntKind.u64.wrap x):=by kernel_rfl
theorem zd(x:Int×Int)(y:Int×Int):eu x y=if x.fst=y.fst/\x.snd=y.snd then some 0
else if x.fst<y.fst then some (-1)else if x.fst=y.fst then if x.snd<y.snd then some (-1)else some 1 else some 1:=by kernel_rfl
theorem mK(x:Int×Int)(y:Int×Int):dr x y=(eu y x).bind λ(out:Int)=>if out<0 then some y else some x:=by kernel_rfl
def qR(x:Int×Int)(y:Int×Int):Int->Int->Option (Int×Int):=λ(d d_1:Int)=>some (IntKind.i64.wrap (d+d_1),IntKind.u64.wrap (x.snd+y.snd))
theorem qS(x:Int×Int)(y:Int×Int):dt x y=if IntKind.u64.wrap (x.snd+y.snd)<x.snd then qR x y (IntKind.i64.wrap (x.fst+y.fst)) 1
else qR x y x.fst y.fst:=by kernel_rfl
theorem iW(x:Bool):cL x=if x=true then(bY 1).bind λ(out:Int×Int)=>some out else some (0,0):=by kernel_rfl
theorem lf(x:Int)(y:Int×Int)(z:Int×Int):gM x y z=(if x=1 then some (Sum.inl true)else if x=3 then some (Sum.inl true)else some (Sum.inl (decide (x=4)))).bind λ(y_1:Bool ⊕ Empty)=>Sum.elim (λ(val:Bool)=>if val=true then(dr y z).bind λ(out:Int×Int)=>some out else if x=2 then if¬(y.fst=0/\y.snd=0)then(cL true).bind λ(out:Int×Int)=>some out else(cL (decide ¬(z.fst=0/\z.snd=0))).bind λ(out:Int×Int)=>some out else if x=5 then(dt y z).bind λ(out:Int×Int)=>some out else some (0,0)) (λ(val:Empty)=>nE val) y_1:=by kernel_rfl
theorem pH(x:Int):jh x=if x >= 1 then some (decide (x<=5))else some false:=by kernel_rfl
theorem tj(x:Int):fc x=if x >= 0 then some (decide (x<=4096))else some false:=by kernel_rfl
def eA(x:Int×Sl (Int×Int)):Int×Int->Option (Int×Int ⊕ PUnit ⊕ Bool ⊕ Empty):=λ(x_1:Int×Int)=>if x_1.snd<(↑x.snd.l.length:Int)then(atS 2 x.snd x_1.snd).bind λ(y:Int×Int)=>if y.fst<=x_1.fst then some (Sum.inr (Sum.inr (Sum.inl false)))else if y.fst >= x.fst then some (Sum.inr (Sum.inr (Sum.inl false)))else some (Sum.inl (y.fst,IntKind.i64.wrap (x_1.snd+1)))else some (Sum.inr (Sum.inl ()))
theorem jS(x:Int×Sl (Int×Int)):du x=(fc x.fst).bind λ(out:Bool)=>if¬out=true then some false else(aK (eA x) (-1,0)).bind λ(y:PUnit ⊕ Bool ⊕ Empty)=>Sum.elim (λ(val:PUnit)=>some true) (λ(val:Bool ⊕ Empty)=>Sum.elim (λ(val:Bool)=>some val) (λ(val:Empty)=>nE val) val) y:=by kernel_rfl
theorem tr(x:Int×Sl (Int×Int)):fe x=(du x).bind λ(out:Bool)=>if out=true then some x else some (0,{nn:=false,sz:=0,l:= []}):=by kernel_rfl
def gQ(x:Sl (Int×Int×Int)):Int->Option (Int ⊕ PUnit ⊕ Bool ⊕ Empty):=λ(x_1:Int)=>if x_1<(↑x.l.length:Int)then(atS 3 x x_1).bind λ(y:Int×Int×Int)=>(atS 3 x (IntKind.i64.wrap (x_1 - 1))).bind λ(y_1:Int×Int×Int)=>if y.fst<=y_1.fst then some (Sum.inr (Sum.inr (Sum.inl false)))else some (Sum.inl (IntKind.i64.wrap (x_1+1)))else some (Sum.inr (Sum.inl ()))
theorem Dh(x:Sl (Int×Int×Int)):ku x=(aK (gQ x) 1).bind λ(y:PUnit ⊕ Bool ⊕ Empty)=>Sum.elim (λ(val:PUnit)=>some true) (λ(val:Bool ⊕ Empty)=>Sum.elim (λ(val:Bool)=>some val) (λ(val:Empty)=>nE val) val) y:=by kernel_rfl
end KM
end Ev
end
noncomputable section
namespace Ev
namespace KM
open Go
def cC(n:Int):Prop:= -9223372036854775808<=n/\n<=9223372036854775807
def eJ(n:Int):Prop:=0<=n/\n<=18446744073709551615
theorem sb{n:Int}(h:inK .i64 n):cC n:=by simpa [inK,cC,Lit.wf,IntKind.min,IntKind.max,IntKind.signed,IntKind.bits]using h
theorem wrap_u64(n:Int):IntKind.u64.wrap n=n % 18446744073709551616:=by
 simp [IntKind.wrap,IntKind.signed,IntKind.bits]
theorem mL(n:Int):eJ (IntKind.u64.wrap n):=by rw [wrap_u64];unfold eJ;omega
theorem TB{n:Int}(h:eJ n):IntKind.u64.wrap (IntKind.i64.wrap n)=n:=by rw [wrap_u64,IntKind.wrap_i64];unfold eJ at h;omega
theorem Ah(n:Int):cC (IntKind.i64.wrap n):=by rw [IntKind.wrap_i64];unfold cC;omega
def ofW(n:Int):Int×Int:=(if n<0 then -1 else 0,IntKind.u64.wrap n)
theorem Ai(n:Int):eJ (ofW n).2:=mL n
def vi(a b:Int×Int):Bool:=decide (a.1<b.1)||(decide (a.1=b.1)&& decide (a.2<b.2))
def kv(a b:Int×Int):Int×Int:=if vi b a=true then b else a
def lJ(b:Bool):Int×Int:=if b=true then(0,1)else(0,0)
def vj(a b:Int×Int):Int×Int:=if IntKind.u64.wrap (a.2+b.2)<a.2 then(IntKind.i64.wrap (IntKind.i64.wrap (a.1+b.1)+1),IntKind.u64.wrap (a.2+b.2))else(IntKind.i64.wrap (a.1+b.1),IntKind.u64.wrap (a.2+b.2))
def eQ(r:Int)(a b:Int×Int):Int×Int:=
 if r=1∨r=3∨r=4 then kv a b else if r=2 then lJ (!(decide (a.1=0/\a.2=0)&& decide (b.1=0/\b.2=0)))else if r=5 then vj a b else(0,0)
def gu(a:Int×Int):Int×Bool:=if a=ofW (IntKind.i64.wrap a.2)then(IntKind.i64.wrap a.2,true)else(0,false)
def mM(r:Int):Bool:=decide (1<=r)&& decide (r<=5)
theorem Aj{r:Int}{a b:Int×Int}(ha:eJ a.2)(hb:eJ b.2):eJ (eQ r a b).2:=by
 have h0:eJ 0:=by unfold eJ;omega
 have h1:eJ 1:=by unfold eJ;omega
 unfold eQ kv lJ vj;split
 .split<;>assumption
 .split
  .split<;>assumption
  .split
   .split<;>exact mL _
   .exact h0
theorem Qh{n:Int}(h:cC n):bY n=some (ofW n):=by
 rw [dJ];unfold rL ofW Rt;rw [if_pos (by omega)];have e:(2:Int)^(min (63:Int).toNat IntKind.i64.bits)=9223372036854775808:=by decide
 rw [e];unfold cC at h
 have:n.fdiv 9223372036854775808=if n<0 then -1 else 0:=by
  rw [Int.fdiv_eq_ediv_of_nonneg _ (by omega)];split<;>omega
 rw [this];rfl
theorem lL(a b:Int×Int):∃c,eu a b=some c/\(c<0↔vi a b=true):=by
 obtain⟨a1,a2⟩:=a;obtain⟨b1,b2⟩:=b;rw [zd];unfold vi;simp only;by_cases h1:a1=b1/\a2=b2
 .rw [if_pos h1];exact⟨0,rfl,by simp;omega⟩
 rw [if_neg h1];by_cases h2:a1<b1
 .rw [if_pos h2];exact⟨-1,rfl,by simp [h2]⟩
 rw [if_neg h2];by_cases h3:a1=b1
 .rw [if_pos h3];by_cases h4:a2<b2
  .rw [if_pos h4];exact⟨-1,rfl,by simp [h3,h4]⟩
  .rw [if_neg h4];exact⟨1,rfl,by simp [h3];omega⟩
 .rw [if_neg h3];exact⟨1,rfl,by simp [h3];omega⟩
theorem Di(a b:Int×Int):dr a b=some (kv a b):=by
 obtain⟨c,h1,h2⟩:=lL b a;rw [mK,h1];unfold kv;simp only [zbS];by_cases hc:c<0
 .rw [if_pos hc,if_pos (h2.1 hc)]
 .rw [if_neg hc,if_neg (λh=>hc (h2.2 h))]
theorem Gj(b:Bool):cL b=some (lJ b):=by
 rw [iW];unfold lJ;cases b
 .rfl
 .simp only [if_true,Qh (show cC 1 by unfold cC;omega),zbS];rfl
theorem LT(a b:Int×Int):dt a b=some (vj a b):=by
 rw [qS];unfold vj qR;split
 .rfl
 .obtain⟨a1,a2⟩:=a;obtain⟨b1,b2⟩:=b;rfl
theorem Ak(r:Int)(a b:Int×Int):gM r a b=some (eQ r a b):=by
 rw [lf];unfold eQ;simp only [Di,Gj,LT,zbS];by_cases h1:r=1
 .simp [h1]
 by_cases h3:r=3
 .simp [h3]
 by_cases h4:r=4
 .simp [h4]
 simp only [if_neg h1,if_neg h3,if_neg (show¬(r=1∨r=3∨r=4)by omega),decide_eq_false h4,zbS,Sum.elim_inl,Bool.false_eq_true,if_false];by_cases h2:r=2
 .simp only [if_pos h2];by_cases ha:a.1=0/\a.2=0
  .by_cases hb:b.1=0/\b.2=0
   .simp [ha,hb]
   .simp [ha,hb]
  .simp [ha]
 .simp only [if_neg h2];split<;>rfl
theorem Qi(r:Int):jh r=some (mM r):=by
 rw [pH];unfold mM;by_cases h1:r >= 1
 .rw [if_pos h1,decide_eq_true (show 1<=r from h1)];simp
 .rw [if_neg h1,decide_eq_false (show¬1<=r from h1)];rfl
end KM
end Ev
end
noncomputable section
open Go.RowKit Go.Sort
def Has(w:World)(b:Nat):Prop:=b<w.heap.size
def aee(w:World)(os:Array Obj)(b:Nat):Prop:=w.heap.size<=b/\b<w.heap.size+os.size
theorem Has.of{w:World}{b:Nat}(h:b<w.heap.size):Has w b:=h
@[go_sem] theorem acy (w:World) (o:Obj) (b:Nat):Has (w.alloc o) b=(b=w.heap.size∨Has w b):=by
 unfold Has;simp;omega
@[go_sem] theorem aef (w:World) (d:Nat) (os:Array Obj) (b:Nat):Has (grow (redrawn w d) os) b=(Has w b∨aee w os b):=by
 unfold Has aee;simp [grow,redrawn];omega
@[go_sem] theorem ZO (w:World) (a:Addr) (v:Value) (b:Nat):Has (w.setCell a v) b=Has w b:=by
 unfold Has;simp [World.setCell]
@[go_sem] theorem aeg (w:World) (b:Nat):Has w.drew b=Has w b:=rfl
@[go_sem] theorem afi {w:World} {d:Nat} {os:Array Obj} {a:Addr} (h:Has w a.block):(grow (redrawn w d) os).cell? a=w.cell? a:=
 (below_regrown w d os).cell h
@[go_sem] theorem acz {w:World} {d:Nat} {os:Array Obj} {a:Addr} (h:Has w a.block):(grow (redrawn w d) os).frozen? a=w.frozen? a:=
 (below_regrown w d os).frozen h
@[go_sem] theorem afj {w:World} {o:Obj} {a:Addr} (h:Has w a.block):(w.alloc o).cell? a=w.cell? a:=
 ((Below.refl w.heap.size w).alloc (Nat.le_refl _) o).cell h
@[go_sem] theorem acA {w:World} {o:Obj} {a:Addr} (h:Has w a.block):(w.alloc o).frozen? a=w.frozen? a:=
 ((Below.refl w.heap.size w).alloc (Nat.le_refl _) o).frozen h
@[go_sem] theorem abs {w:World} {o:Obj} {a:Addr} {v:Value} (h:Has w a.block):(w.alloc o).setCell a v=(w.setCell a v).alloc o:=by
 unfold Has at h;simp only [World.setCell,World.alloc];congr 1;apply Array.ext_getElem?;intro k;simp only [Array.getElem?_modify,Array.getElem?_push,Array.size_modify];by_cases hk:k=w.heap.size
 .subst hk;simp;omega
 .simp [hk]
@[go_sem] theorem afz {α:Type} (p:Prop) [Decidable p] (x y:α) (w:World):(if p then Result.ok x w else Result.ok y w)=Result.ok (if p then x else y) w:=by
 split<;>rfl
@[go_sem] theorem acB (p:Prop) [Decidable p] (x y:Value):(if p then Next.value x else Next.value y)=Next.value (if p then x else y):=by
 split<;>rfl
@[go_sem] theorem agM (w:World) (d d2:Nat) (os os2:Array Obj):grow (redrawn (grow (redrawn w d) os) d2) os2=grow (redrawn w d2) (os++os2):=by
 simp [grow,redrawn,Array.append_assoc]
@[go_sem] theorem afk (w:World) (d:Nat) (os:Array Obj):(grow (redrawn w d) os).heap.size=w.heap.size+os.size:=by simp [grow,redrawn]
@[go_sem] theorem abt {w:World} {d:Nat} {os:Array Obj} {a:Addr} {v:Value} (h:Has w a.block):(grow (redrawn w d) os).setCell a v=grow (redrawn (w.setCell a v) d) os:=by
 unfold Has at h;simp only [grow,redrawn,World.setCell];congr 1;apply Array.ext_getElem?;intro k;rw [Array.getElem?_modify];by_cases hk:k<w.heap.size
 .rw [Array.getElem?_append_left hk,Array.getElem?_append_left (by simpa using hk),Array.getElem?_modify]
 .rw [if_neg (by omega),Array.getElem?_append_right (by omega),Array.getElem?_append_right (by simpa using by omega)];simp
@[go_sem] theorem Xy (w:World) (d:Nat):(redrawn w d).heap=w.heap:=rfl
theorem bla{w w1:World}(h:Below w.heap.size w w1)(o:Obj):Below w.heap.size w (w1.alloc o):=h.alloc h.size o
theorem bls{w w1:World}(h:Below w.heap.size w w1){p:Addr}(hp:w.heap.size<=p.block)(v:Value):Below w.heap.size w (w1.setCell p v):=h.setCell hp v
theorem bld{w w1:World}(h:Below w.heap.size w w1):Below w.heap.size w w1.drew:=h.drew
@[go_sem] theorem afA:IntKind.u64.signed=false:=rfl
@[go_sem] theorem afB:IntKind.i64.signed=true:=rfl
@[go_sem] theorem agN:IntKind.u8.signed=false:=rfl
@[go_sem] theorem afC:IntKind.u32.signed=false:=rfl
end
noncomputable section
open Go Go.RowKit Go.Sort
section
variable {P : Program} {ops : Array Oper} {md : Region.Mode} {C : World → Prop}
end
end
noncomputable section
open Go Go.RowKit Go.Sort
section
variable {P : Program} {ops : Array Oper} {md : Region.Mode} {W : World}
def afD(w w':World):Prop:=Below w.heap.size w w'
def IQ(P:Program)(w:World)(v:Value):Result Next->Prop
 | .ok (.value u) w'=>w'=w/\u=v
 | .ok .skip w'=>w'=w/\v=undef
 | .ok (.enter f args) w'=>w'=w/\Calls P f args w (λe w''=>e= .returned v/\afD w w'')
 |_=>False
def TC(P:Program)(o:Oper)(a:Act)(w:World)(v:Value):Prop:=IQ P w v ((execOp a.eval o).run P w)
def afE(P:Program)(o:Oper)(a:Act)(W:World)(next:Act->Prop):Prop:=∃v,(∀p:Regrown,TC P o a (grow (redrawn W p.d) p.os) v)/\next (a.put o.dst v)
attribute [go_sem] IQ TC afE
def LP(ops:Array Oper)(ok:Oper)(n k:Nat):Bool:=(List.range n).all λj=>j==k||(match ops[j]? with|some oj=>ok.apart ops oj|none=>true)
end
end
noncomputable section
open Go Go.RowKit Go.Sort
section
variable {P : Program} {ops : Array Oper} {md : Region.Mode} {W : World}
def cnt(n k:Nat)(s:Array Bool):Nat:=((List.range n).filter λj=>j !=k && !s.getD j true).length
theorem IR{n k:Nat}{s:Array Bool}(h:cnt n k s=0){j:Nat}(hj:j<n)(hjk:j≠k):s.getD j true=true:=by
 have h2:=List.length_eq_zero_iff.1 h;rw [List.filter_eq_nil_iff]at h2
 have:=h2 j (List.mem_range.2 hj)
 simpa [hjk]using this
end
end
noncomputable section
open Go.RowKit Go.Sort
def CellsAt(W:World)(B:Nat)(t:TypeId)(cs:Array Value):Prop:=W.heap[B]? =some (.cells cs t (0,0))
theorem CellsAt.lt{W:World}{B:Nat}{t:TypeId}{cs:Array Value}(h:CellsAt W B t cs):B<W.heap.size:=(Array.getElem?_eq_some_iff.1 h).1
theorem CellsAt.cell{W:World}{B:Nat}{t:TypeId}{cs:Array Value}(h:CellsAt W B t cs)(i:Nat):W.cell? ⟨B,i,none⟩=cs[i]? :=by
 simp [World.cell?,show W.heap[B]? =_ from h]
theorem CellsAt.frozen{W:World}{B:Nat}{t:TypeId}{cs:Array Value}(h:CellsAt W B t cs)(i:Nat):W.frozen? ⟨B,i,none⟩=false:=by simp [World.frozen?,show W.heap[B]? =_ from h]
theorem CellsAt.set{W:World}{B:Nat}{t:TypeId}{cs:Array Value}(h:CellsAt W B t cs)(i:Nat)(v:Value):CellsAt (W.setCell ⟨B,i,none⟩ v) B t (cs.setIfInBounds i v):=by
 obtain⟨hlt,hk⟩:=Array.getElem?_eq_some_iff.1 h;show(W.heap.modify B _)[B]? =_;rw [Array.getElem?_eq_getElem (by rw [Array.size_modify];exact hlt),Array.getElem_modify_self,hk];rfl
theorem CellsAt.kept{W W':World}{B:Nat}{t:TypeId}{cs:Array Value}(h:CellsAt W B t cs)(hb:W'.heap[B]? =W.heap[B]?):CellsAt W' B t cs:=hb.trans h
theorem CellsAt.below{W W':World}{B:Nat}{t:TypeId}{cs:Array Value}(h:CellsAt W B t cs)(hb:Below W.heap.size W W'):CellsAt W' B t cs:=h.kept (hb.block B h.lt)
theorem CellsAt.grown{W W':World}{B:Nat}{t:TypeId}{cs:Array Value}{row:Option Nat}(h:CellsAt W B t cs)(hg:W.grownBy W' row)(hne:some B≠row):CellsAt W' B t cs:=h.kept (hg.block B h.lt hne)
@[go_sem] theorem vk (b:Addr) (k:Nat):(b.add k).block=b.block:=by unfold Addr.add;split<;>rfl
theorem iv{w w':World}(h:Below w.heap.size w w')(row:Option Nat):w.grownBy w' row:=⟨h.os,h.tape,h.output,h.size,λk hk _=>h.block k hk⟩
theorem bV(W:World)(b i:Nat)(v:Value):W.grownBy (W.setCell ⟨b,i,none⟩ v) (some b):=
 ⟨rfl,rfl,rfl,(KeepsWalks.setCell W _ v).size,λk _ hk=>Below.heap_setCell _ _ _ k (λe=>hk (by rw [e]))⟩
end
noncomputable section
namespace Hp
def lt(a b:Int×Int):Bool:=decide (a.1<b.1∨a.1=b.1/\a.2<b.2)
def le(a b:Int×Int):Prop:=lt b a=false
theorem le_iff{a b:Int×Int}:le a b↔a.1<b.1∨a.1=b.1/\a.2<=b.2:=by
 unfold le lt;rw [decide_eq_false_iff_not];omega
theorem abu{a b:Int×Int}:lt a b=true↔a.1<b.1∨a.1=b.1/\a.2<b.2:=by unfold lt;rw [decide_eq_true_eq]
theorem le_refl(a:Int×Int):le a a:=le_iff.2 (.inr ⟨rfl,Int.le_refl _⟩)
theorem le_trans{a b c:Int×Int}(h1:le a b)(h2:le b c):le a c:=by
 rw [le_iff]at*;omega
theorem le_of_lt{a b:Int×Int}(h:lt a b=true):le a b:=by
 rw [abu]at h;rw [le_iff];omega
theorem wW{a b:Int×Int}(h:lt a b=false):le b a:=h
def par(k:Nat):Nat:=(k - 1)/ 2
theorem mN{k:Nat}(h:0<k):par k<k:=by unfold par;omega
theorem Gk{k i:Nat}(h:0<k):par k=i↔k=2*i+1∨k=2*i+2:=by unfold par;omega
section
variable {α : Type} {key : α → Int × Int}
def swp(f:Nat->α)(i j:Nat):Nat->α:=λk=>if k=i then f j else if k=j then f i else f k
def Heap(key:α->Int×Int)(n:Nat)(f:Nat->α):Prop:=∀k,0<k->k<n->le (key (f (par k))) (key (f k))
structure Up(key:α->Int×Int)(n:Nat)(f:Nat->α)(j:Nat):Prop where
 a:∀k,0<k->k<n->k≠j->le (key (f (par k))) (key (f k))
 b:∀k,0<k->k<n->par k=j->0<j->le (key (f (par j))) (key (f k))
theorem Up.step{n:Nat}{f:Nat->α}{j:Nat}(h:Up key n f j)(h0:0<j)(hn:j<n)(hl:lt (key (f j)) (key (f (par j)))=true):Up key n (swp f (par j) j) (par j):=by
 have hi:=mN h0;refine⟨λk k0 kn ki=> ?_,λk k0 kn kp i0=> ?_⟩
 .unfold swp;by_cases hk:k=j
  .subst hk;rw [if_pos rfl,if_neg (by omega),if_pos rfl];exact le_of_lt hl
  .rw [if_neg ki,if_neg hk];by_cases p1:par k=par j
   .rw [if_pos p1]
    have:=h.a k k0 kn hk
    rw [p1]at this;exact le_trans (le_of_lt hl) this
   .rw [if_neg p1];by_cases p2:par k=j
    .rw [if_pos p2];exact h.b k k0 kn p2 h0
    .rw [if_neg p2];exact h.a k k0 kn hk
 .have hpi:=mN i0;have hkk:=mN k0;have hii:=h.a (par j) i0 (by omega) (by omega);unfold swp;rw [if_neg (by omega),if_neg (by omega),if_neg (by omega)];by_cases hk:k=j
  .rw [if_pos hk];exact hii
  .rw [if_neg hk]
   have:=h.a k k0 kn hk
   rw [kp]at this;exact le_trans hii this
theorem Up.done{n:Nat}{f:Nat->α}{j:Nat}(h:Up key n f j)(hj:j=0∨lt (key (f j)) (key (f (par j)))=false):Heap key n f:=λk k0 kn=>by
 by_cases hk:k=j
 .subst hk;rcases hj with hj|hj
  .omega
  .exact hj
 .exact h.a k k0 kn hk
theorem Heap.up{n:Nat}{f:Nat->α}(h:Heap key n f):Up key (n+1) f n:=
 ⟨λk k0 kn kj=>h k k0 (by omega),λk k0 kn kp j0=>by have:=mN k0;omega⟩
structure Down(key:α->Int×Int)(n:Nat)(f:Nat->α)(i:Nat):Prop where
 a:∀k,0<k->k<n->par k≠i->le (key (f (par k))) (key (f k))
 b:∀k,0<k->k<n->par k=i->0<i->le (key (f (par i))) (key (f k))
theorem Down.step{n:Nat}{f:Nat->α}{i j:Nat}(h:Down key n f i)(j0:0<j)(hn:j<n)(hp:par j=i)(hm:∀k,0<k->k<n->par k=i->le (key (f j)) (key (f k)))(hl:lt (key (f j)) (key (f i))=true):Down key n (swp f i j) j:=by
 have hi:=mN j0;refine⟨λk k0 kn kp=> ?_,λk k0 kn kp _=> ?_⟩
 .have hkk:=mN k0;unfold swp;by_cases hk:k=j
  .subst hk;rw [if_pos hp,if_neg (by omega),if_pos rfl];exact le_of_lt hl
  .by_cases p1:par k=i
   .rw [if_pos p1,if_neg (by omega),if_neg hk];exact hm k k0 kn p1
   .rw [if_neg p1,if_neg kp];by_cases ki:k=i
    .subst ki;rw [if_pos rfl];exact h.b j j0 hn hp k0
    .rw [if_neg ki,if_neg hk];exact h.a k k0 kn p1
 .have hkk:=mN k0;unfold swp;rw [if_pos hp,if_neg (by omega),if_neg (by omega)]
  have:=h.a k k0 kn (by omega)
  rw [kp]at this;exact this
theorem Down.done{n:Nat}{f:Nat->α}{i:Nat}(h:Down key n f i)(hj:∀k,0<k->k<n->par k=i->le (key (f i)) (key (f k))):Heap key n f:=λk k0 kn=>by
 by_cases hk:par k=i
 .rw [hk];exact hj k k0 kn hk
 .exact h.a k k0 kn hk
theorem Heap.down{n m:Nat}{f:Nat->α}(h:Heap key (n+1) f)(hm:m=n):Down key n (swp f 0 m) 0:=by
 subst hm;refine⟨λk k0 kn kp=> ?_,λk k0 kn kp i0=>by omega⟩;have hkk:=mN k0;unfold swp;rw [if_neg kp,if_neg (by omega),if_neg (by omega),if_neg (by omega)];exact h k k0 (by omega)
theorem Heap.root{n:Nat}{f:Nat->α}(h:Heap key n f):∀k,k<n->le (key (f 0)) (key (f k)):=by
 intro k
 induction k using Nat.strongRecOn with
 |ind k ih=>
  intro hk;by_cases k0:k=0
  .rw [k0];exact le_refl _
  .have hp:=mN (show 0<k by omega);exact le_trans (ih _ hp (by omega)) (h k (by omega) hk)
end
section
variable {α : Type} [Inhabited α]
def at_(l:List α)(k:Nat):α:=l.getD k default
theorem at_lt{l:List α}{k:Nat}(h:k<l.length):at_ l k=l[k]:=by simp [at_,List.getD_eq_getElem?_getD,h]
def sN(l:List α)(i j:Nat):List α:=(l.set i (at_ l j)).set j (at_ l i)
theorem oD(l:List α)(i j:Nat):(sN l i j).length=l.length:=by unfold sN;rw [List.length_set,List.length_set]
theorem TE{l:List α}{i k:Nat}{x:α}(hi:i<l.length):at_ (l.set i x) k=if k=i then x else at_ l k:=by
 unfold at_;rw [List.getD_eq_getElem?_getD,List.getElem?_set,List.getD_eq_getElem?_getD];by_cases h:i=k
 .subst h;rw [if_pos rfl,if_pos rfl,if_pos hi];rfl
 .rw [if_neg h,if_neg (Ne.symm h)]
theorem mg{l:List α}{i j:Nat}(hi:i<l.length)(hj:j<l.length):at_ (sN l i j)=swp (at_ l) i j:=by
 funext k;unfold sN swp;rw [TE (by rw [List.length_set];exact hj),TE hi];by_cases h1:k=i
 .by_cases h2:k=j
  .rw [if_pos h2,if_pos h1,<-h1,h2]
  .rw [if_neg h2,if_pos h1,if_pos h1]
 .by_cases h2:k=j
  .rw [if_pos h2,if_neg h1,if_pos h2]
  .rw [if_neg h2,if_neg h1,if_neg h1,if_neg h2]
theorem oF{l:List α}{i j:Nat}(hi:i<l.length)(hj:j<l.length):(sN l i j).Perm l:=by
 unfold sN;rw [at_lt hi,at_lt hj];exact List.set_set_perm hi hj
theorem El{l m:List α}{k:Nat}(h:k<l.length):at_ (l++m) k=at_ l k:=by
 unfold at_;rw [List.getD_eq_getElem?_getD,List.getD_eq_getElem?_getD,List.getElem?_append_left h]
theorem Qj{l:List α}{x:α}:at_ (l++ [x]) l.length=x:=by
 unfold at_;rw [List.getD_eq_getElem?_getD];simp
end
theorem Heap.congr{α:Type}{key:α->Int×Int}{n:Nat}{f g:Nat->α}(h:Heap key n f)(e:∀k,k<n->f k=g k):Heap key n g:=λk k0 kn=>by
 have hp:=mN k0;rw [<-e k kn,<-e (par k) (by omega)];exact h k k0 kn
end Hp
end
noncomputable section
open Go.RowKit Go.Lib
namespace Hp
abbrev Sm3:=Int×Int×Int
structure Hd where
 k:Int
 a:Option Addr
 c:Nat
 l:List Sm3
instance:Inhabited Hd:=⟨⟨0,none,0,[]⟩⟩
def Hd.key(h:Hd):Int×Int:=((h.l.headD (0,0,0)).1,h.k)
@[go_sem] abbrev HV (h:Hd):Value:= .agg #[.int .i64 h.k,.slice h.a h.l.length h.c]
def enc(h:Hd):List Value:= [.int .i64 h.k,.slice h.a h.l.length h.c]
def eB(l:List Hd):List Value:=l.flatMap enc
theorem jy(h:Hd)(l:List Hd):eB (h::l)=enc h++eB l:=rfl
theorem Al(l m:List Hd):eB (l++m)=eB l++eB m:=by simp [eB]
theorem ue(l:List Hd):(eB l).length=l.length*2:=by
 induction l with
 |nil=>rfl
 |cons h l ih=>rw [jy,List.length_append,ih];simp [enc];omega
theorem Am:∀(l:List Hd) (i:Nat),i<l.length->(eB l)[i*2]? =some (.int .i64 (at_ l i).k)
 | [],i,h=>by simp at h
 |x::l,0,h=>rfl
 |x::l,i+1,h=>by
  rw [jy,List.getElem?_append_right (by simp [enc];omega)]
  have:=Am l i (by simpa using h)
  rw [show(i+1)*2 - (enc x).length=i*2 by simp [enc];omega,this];rfl
theorem An:∀(l:List Hd) (i:Nat),i<l.length->(eB l)[i*2+1]? =some (.slice (at_ l i).a (at_ l i).l.length (at_ l i).c)
 | [],i,h=>by simp at h
 |x::l,0,h=>rfl
 |x::l,i+1,h=>by
  rw [jy,List.getElem?_append_right (by simp [enc];omega)]
  have:=An l i (by simpa using h)
  rw [show(i+1)*2+1 - (enc x).length=i*2+1 by simp [enc];omega,this];rfl
def RdS(w:World)(base:Nat)(a:Option Addr)(l:List Sm3):Prop:=∀i,(h:i<l.length)->∃b,a=some b/\b.block<base/\w.cell? (b.add (i*3))=some (.int .i64 l[i].1)/\w.cell? (b.add (i*3+1))=some (.int .i64 l[i].2.1)/\w.cell? (b.add (i*3+2))=some (.int .u64 l[i].2.2)
theorem RdS.below{w w':World}{base:Nat}{a:Option Addr}{l:List Sm3}(h:RdS w base a l)(hs:base<=w.heap.size)(hb:Below base w w'):RdS w' base a l:=by
 intro i hi;obtain⟨b,e,hl,h0,h1,h2⟩:=h i hi;exact⟨b,e,hl,(hb.cell (by rw [vk];exact hl)).trans h0,(hb.cell (by rw [vk];exact hl)).trans h1,(hb.cell (by rw [vk];exact hl)).trans h2⟩
def Good(w:World)(base:Nat)(hs:List Hd):Prop:=∀h∈hs,h.l≠[]/\RdS w base h.a h.l
theorem Good.below{w w':World}{base:Nat}{hs:List Hd}(h:Good w base hs)(hz:base<=w.heap.size)(hb:Below base w w'):Good w' base hs:=λx hx=>⟨(h x hx).1,(h x hx).2.below hz hb⟩
def RdH(w:World)(a:Option Addr)(hs:List Hd):Prop:=∀i,i<hs.length->∃b,a=some b/\b.block<w.heap.size/\w.cell? (b.add (i*2))=some (.int .i64 (at_ hs i).k)/\w.cell? ⟨b.block,(b.add (i*2)).off+1,none⟩=some (.slice (at_ hs i).a (at_ hs i).l.length (at_ hs i).c)
theorem IS(a:Addr)(k:Nat):a.add (k+1)=⟨a.block,(a.add k).off+1,none⟩:=by
 unfold Addr.add;by_cases h:k=0
 .subst h;simp
 .simp [h];omega
theorem Gl{w:World}{base:Nat}{a:Option Addr}{n c:Nat}{hs:List Hd}(h:w.ownsRow base 134 2 (.slice a n c) n (eB hs))(hn:n=hs.length):RdH w a hs:=by
 intro i hi;rcases h.2 with⟨e,h0⟩|⟨g,cap,cur,e,hbg,hg,hnc,hcm,hcs,htake⟩
 .omega
 .cases e;have hl:=h.lt g rfl;have h0:=h.cells (g:=g) rfl (i*2) _ (Am hs i hi);have h1:=h.cells (g:=g) rfl (i*2+1) _ (An hs i hi);refine⟨⟨g,0,none⟩,rfl,hl.2,h0,?_⟩;rw [IS]at h1;exact h1
set_option maxRecDepth 100000 in
theorem sd(a:Option Addr)(n c:Nat)(w:World):Calls Tryz.prog 71 #[.slice a n c] w λe w'=>e= .returned (.int .i64 n)/\w'=w:=by
 go_enter Tryz.func71,Tryz.ntmps71
 go_wp2
 go_ret
 exact⟨rfl,rfl⟩
theorem bld{b:Nat}{w W:World}{n:Nat}(h:Below b w W):Below b w (W.drewN n):=⟨h.1,h.2,h.3,h.4,h.5⟩
theorem abv{b:Nat}{w W:World}(h:Below b w W):Below b w W.drew:=⟨h.1,h.2,h.3,h.4,h.5⟩
theorem aeh{a b c d:Int}(h:a≠b):lt (a,c) (b,d)=decide (a<b):=by
 unfold lt;simp only;congr 1;exact propext (by omega)
theorem aei{a b c d:Int}(h:a=b):lt (a,c) (b,d)=decide (c<d):=by
 unfold lt;simp only;congr 1;exact propext (by omega)
set_option maxRecDepth 100000 in
set_option maxHeartbeats 1000000 in
theorem LU(a:Option Addr)(c:Nat)(hs:List Hd)(i k base:Nat)(w:World)(hr:RdH w a hs)(hg:Good w base hs)(hz:base<=w.heap.size)(hi:i<hs.length)(hk:k<hs.length)(hl:hs.length<=100000):
  Calls Tryz.prog 122 #[.slice a hs.length c,.int .i64 i,.int .i64 k] w λe w'=>e= .returned (.bool (lt (at_ hs i).key (at_ hs k).key))/\Below w.heap.size w w':=by
 obtain⟨b,rfl,hb,i0,i1⟩:=hr i hi;obtain⟨b',e',hb',k0,k1⟩:=hr k hk;cases e';have hi':((i:Nat):Int)<hs.length:=by omega
 have hk':((k:Nat):Int)<hs.length:=by omega
 have mi:at_ hs i∈hs:=by rw [at_lt hi];exact List.getElem_mem hi
 have mk:at_ hs k∈hs:=by rw [at_lt hk];exact List.getElem_mem hk
 obtain⟨ni,ri⟩:=hg _ mi;obtain⟨nk,rk⟩:=hg _ mk;clear hg mi mk hr;generalize at_ hs i=H at i0 i1 ni ri ⊢;generalize at_ hs k=G at k0 k1 nk rk ⊢;obtain⟨hk1,ha,hc,hl1⟩:=H;obtain⟨gk1,ga,gc,gl1⟩:=G;simp only at i0 i1 k0 k1 ni nk ri rk ⊢
 cases hl1 with
 |nil=>exact absurd rfl ni
 |cons x xs=>
 cases gl1 with
 |nil=>exact absurd rfl nk
 |cons y ys=>
 obtain⟨bx,rfl,lx,x0,_⟩:=ri 0 (by simp);obtain⟨by',rfl,ly,y0,_⟩:=rk 0 (by simp);have x0:w.cell? bx=some (.int .i64 x.1):=by simpa [Addr.add]using x0
 have y0:w.cell? by'=some (.int .i64 y.1):=by simpa [Addr.add]using y0
 have hx:=Has.of (show bx.block<w.heap.size by omega);have hy:=Has.of (show by'.block<w.heap.size by omega);have hK:∀(p q:Int),Hd.key ⟨p,some bx,hc,x::xs⟩=(x.1,p):=λ_ _=>rfl;clear ri rk ni nk
 go_enter Tryz.func122,Tryz.ntmps122
 go_wp2
 go_region
 all_goals go_wp2
 all_goals go_quiet (fail)
 all_goals go_wp2
 all_goals first
  |(go_quiet (fail)
    go_wp2
    go_ret
    refine⟨?_,?_⟩)
  |(go_ret
    refine⟨?_,?_⟩)
 all_goals first
  |exact bld (bld (abv (bla (bla (Below.refl _ _) _) _)))
  |exact bld (bla (bla (Below.refl _ _) _) _)
  |(have h:=‹(x.fst !=y.fst)=true›
    show Ending.returned (.bool (decide (x.fst<y.fst)))=Ending.returned (.bool (lt (x.1,hk1) (y.1,gk1)))
    rw [aeh (by simpa using h)])
  |(have h:=‹(x.fst !=y.fst)=false›
    show Ending.returned (.bool (decide (hk1<gk1)))=Ending.returned (.bool (lt (x.1,hk1) (y.1,gk1)))
    rw [aei (by simpa using h)])
end Hp
end
noncomputable section
open Go.RowKit Go.Lib
namespace Hp
theorem Em(g i:Nat):((⟨g,0,none⟩:Addr).add i)=⟨g,i,none⟩:=by
 unfold Addr.add;by_cases h:i=0
 .subst h;simp
 .simp [h]
theorem Ao:∀(l:List Hd) (i:Nat) (x:Hd),((eB l).set (i*2) (.int .i64 x.k)).set (i*2+1) (.slice x.a x.l.length x.c)=eB (l.set i x)
 | [],i,x=>by simp [eB]
 |y::l,0,x=>rfl
 |y::l,i+1,x=>by
  have ih:=Ao l i x;rw [List.set_cons_succ,jy,jy,<-ih,show(i+1)*2=i*2+2 by omega];rfl
theorem En{cur:Array Value}{hs:List Hd}{n:Nat}(h:cur.toList.take (n*2)=eB hs)(i:Nat)(x:Hd):((cur.setIfInBounds (i*2) (.int .i64 x.k)).setIfInBounds (i*2+1) (.slice x.a x.l.length x.c)).toList.take (n*2)=eB (hs.set i x):=by
 rw [Array.toList_setIfInBounds,Array.toList_setIfInBounds,List.take_set,List.take_set,h,Ao]
set_option maxRecDepth 100000 in
set_option maxHeartbeats 1000000 in
theorem LV(base g n c:Nat)(hs:List Hd)(i k:Nat)(w:World)(hown:w.ownsRow base 134 2 (.slice (some ⟨g,0,none⟩) n c) n (eB hs))(hn:n=hs.length)(hi:i<n)(hk:k<n)(hl:n<=100000):
  Calls Tryz.prog 125 #[.slice (some ⟨g,0,none⟩) n c,.int .i64 i,.int .i64 k] w λe w'=>e= .returned (.tuple #[])/\w'.ownsRow base 134 2 (.slice (some ⟨g,0,none⟩) n c) n (eB (sN hs i k))/\w.grownBy w' (some g):=by
 have hr:=Gl hown hn;rcases hown.2 with⟨e,h0⟩|⟨g',cap,cur,e,hbg,hg,hnc,hcm,hcs,htake⟩
 .omega
 cases e;obtain⟨b,e,hb,i0,i1⟩:=hr i (by omega);cases e;obtain⟨b',e',hb',k0,k1⟩:=hr k (by omega);cases e';have hC:CellsAt w g 134 cur:=hg;have hi':((i:Nat):Int)<n:=by omega
 have hk':((k:Nat):Int)<n:=by omega
 rw [Em]at i0 i1 k0 k1;have f0:=hC.frozen (i*2);have f1:=hC.frozen (i*2+1);have f2:=hC.frozen (k*2);have f3:=hC.frozen (k*2+1);have hC1:=(hC.set (i*2) (.int .i64 (at_ hs k).k)).set (i*2+1) (.slice (at_ hs k).a (at_ hs k).l.length (at_ hs k).c)
 have hz:∀j,j<cur.size->∃u,((w.setCell ⟨g,i*2,none⟩ (.int .i64 (at_ hs k).k)).setCell ⟨g,i*2+1,none⟩ (.slice (at_ hs k).a (at_ hs k).l.length (at_ hs k).c)).cell? ⟨g,j,none⟩=some u:=λj hj=>by
  rw [hC1.cell];exact⟨_,Array.getElem?_eq_getElem (by rw [Array.size_setIfInBounds,Array.size_setIfInBounds];exact hj)⟩
 obtain⟨u0,z0⟩:=hz (k*2) (by omega);obtain⟨u1,z1⟩:=hz (k*2+1) (by omega);have h0:=hC1.frozen (k*2);have h1:=hC1.frozen (k*2+1);clear hz;clear hr
 go_enter Tryz.func125,Tryz.ntmps125
 go_wp2
 go_region
 go_wp2
 go_end0
 refine⟨rfl,⟨by rw [ue,oD,hn],.inr ⟨g,c,_,rfl,hbg,((hC1.set (k*2) (.int .i64 (at_ hs i).k)).set (k*2+1) (.slice (at_ hs i).a (at_ hs i).l.length (at_ hs i).c)),hnc,hcm,by simp only [Array.size_setIfInBounds];exact hcs,?_⟩⟩,?_⟩
 .exact En (En htake i (at_ hs k)) k (at_ hs i)
 .have hG:=(((bV w g (i*2) (.int .i64 (at_ hs k).k)).trans (bV _ g (i*2+1) (.slice (at_ hs k).a (at_ hs k).l.length (at_ hs k).c))).trans (bV _ g (k*2) (.int .i64 (at_ hs i).k))).trans (bV _ g (k*2+1) (.slice (at_ hs i).a (at_ hs i).l.length (at_ hs i).c));exact⟨hG.1,hG.2,hG.3,hG.4,hG.5⟩
end Hp
end
noncomputable section
open Go.RowKit Go.Lib Go.Sort
namespace Hp
theorem aej:(Tryz.prog.info? 134).map (λi=>(i.zero,i.size,i.bytes))=some (some (.agg #[.int .i64 0,.slice none 0 0]),2,32):=by kernel_rfl
theorem xY{P:Program}{e:TypeId}{z:Value}{s b:Nat}(h:(P.info? e).map (λi=>(i.zero,i.size,i.bytes))=some (some z,s,b)):∃i,P.info? e=some i/\i.zero=some z/\i.size=s/\i.bytes=b:=by
 obtain⟨i,hi,he⟩:=Option.map_eq_some_iff.1 h;simp at he;exact⟨i,hi,he.1,he.2.1,he.2.2⟩
theorem LW(l:List Hd):∀u∈eB l,u.oneCell'=true:=by
 induction l with
 |nil=>intro u hu;simp [eB]at hu
 |cons h l ih=>
  intro u hu;rw [jy]at hu;rcases List.mem_append.1 hu with hu|hu
  .simp only [enc,List.mem_cons,List.not_mem_nil,or_false]at hu;rcases hu with rfl|rfl<;>rfl
  .exact ih u hu
theorem wX{w:World}{base n:Nat}{e:TypeId}{s:Nat}{v:Value}{xs:List Value}(h:w.ownsRow base e s v n xs):∃a c,v= .slice a n c/\(a=none->n=0/\c=0):=by
 rcases h.2 with⟨e,h0⟩|⟨g,cap,cur,e,_⟩
 .subst h0;exact⟨none,0,e,λ_=>⟨rfl,rfl⟩⟩
 .exact⟨some ⟨g,0,none⟩,cap,e,λh=>by cases h⟩
structure OkF(F:Nat->Prop)(base:Nat)(w:World):Prop where
 lo:∀k,k<base->F k
 hi:∀k,F k->k<w.heap.size
theorem OkF.le{F:Nat->Prop}{base:Nat}{w:World}(h:OkF F base w):base<=w.heap.size:=by
 rcases Nat.eq_zero_or_pos base with e|e
 .omega
 .have:=h.hi _ (h.lo (base - 1) (by omega));omega
def Kp(F:Nat->Prop)(w w':World):Prop:=Below 0 w w'/\∀k,F k->k<w.heap.size->w'.heap[k]? =w.heap[k]?
theorem Kp.refl(F:Nat->Prop)(w:World):Kp F w w:=⟨Below.refl _ _,λ_ _ _=>rfl⟩
theorem Kp.size{F:Nat->Prop}{w w':World}(h:Kp F w w'):w.heap.size<=w'.heap.size:=h.1.size
theorem Kp.trans{F:Nat->Prop}{w w' w2:World}(h:Kp F w w')(h2:Kp F w' w2):Kp F w w2:=⟨h.1.trans h2.1,λk hf hk=>(h2.2 k hf (Nat.lt_of_lt_of_le hk h.size)).trans (h.2 k hf hk)⟩
theorem Kp.of_below{F:Nat->Prop}{w w':World}(h:Below w.heap.size w w'):Kp F w w':=⟨⟨h.os,h.tape,h.output,h.size,λk hk=>by omega⟩,λk _ hk=>h.block k hk⟩
theorem Kp.of_grown{F:Nat->Prop}{w w':World}{row:Option Nat}(hg:w.grownBy w' row)(hr:∀k,row=some k->¬F k):Kp F w w':=⟨⟨hg.os,hg.tape,hg.output,hg.size,λk hk=>by omega⟩,λk hf hk=>hg.block k hk (λe=>hr k e.symm hf)⟩
theorem OkF.mono{F:Nat->Prop}{base:Nat}{w w':World}(h:OkF F base w)(hb:w.heap.size<=w'.heap.size):OkF F base w':=⟨h.lo,λk hf=>Nat.lt_of_lt_of_le (h.hi k hf) hb⟩
theorem Kp.bel{F:Nat->Prop}{base:Nat}{w w':World}(h:Kp F w w')(hz:OkF F base w):Below base w w':=⟨h.1.os,h.1.tape,h.1.output,h.1.size,λk hk=>h.2 k (hz.lo k hk) (by have:=hz.le;omega)⟩
theorem Good.kp{F:Nat->Prop}{w w':World}{base:Nat}{hs:List Hd}(h:Good w base hs)(hz:OkF F base w)(hb:Kp F w w'):Good w' base hs:=h.below hz.le (hb.bel hz)
def QH(F:Nat->Prop)(w:World)(base Q:Nat)(hs:List Hd):Prop:=¬F Q/\∃a c,CellsAt w Q 130 #[.slice a hs.length c]/\w.ownsRow base 134 2 (.slice a hs.length c) hs.length (eB hs)/\∀g,(Value.slice a hs.length c).ownBlock=some g->g≠Q/\¬F g
theorem afF{base:Nat}{w W W':World}{row:Option Nat}(h:Below base w W)(hg:W.grownBy W' row)(hr:∀k,row=some k->base<=k)(hb:base<=W.heap.size):Below base w W':=h.trans ⟨hg.os,hg.tape,hg.output,hg.size,λk hk=>hg.block k (by omega) (λe=>by have:=hr k e.symm;omega)⟩
theorem gN{α:Type}(l:List α)(x:α):(l++ [x]).length=l.length+1:=by simp
theorem kw{w w':World}{base n:Nat}{e:TypeId}{s:Nat}{v:Value}{xs:List Value}(h:w.ownsRow base e s v n xs)(hb:Below w.heap.size w w'):w'.ownsRow base e s v n xs:=h.kept (iv hb none) (Classical.em _)
theorem ze{P:Program}{ops:Array Oper}{o:Oper}{a:Act}{w:World}{K:Act->World->Prop}{Q:Exit->Act->World->Prop}{E:Prop}
  (hg:o.guard=none) (d x:Operand) (dT sT:TypeId) (hop:o.op=Op.call {callee:=Callee.builtin Builtin.append,args:=#[d,x],argTypes:=#[dT,sT]})
  (v u:Value) (hd:a.eval d=v) (hx:a.eval x=u) {v':Value} {w':World} (hr:(Builtin.append_ #[dT,sT] o.type #[v,u]).run P w= .ok v' w') (hK:K (a.put o.dst v') w'):
  if Region.wanted o (yielded ops a.tmps)=true then Oper.wp P o a w K Q else E:=by
 have hw:Region.wanted o (yielded ops a.tmps)=true:=by simp [Region.wanted,hg]
 rw [if_pos hw];unfold Oper.wp;simp [execOp,hop,resolve,invoke,builtin,hd,hx,hr,Result.andThen];exact hK
set_option maxRecDepth 100000 in
set_option maxHeartbeats 1000000 in
theorem IT(F:Nat->Prop)(base Q:Nat)(hs:List Hd)(x:Hd)(w:World)(h:QH F w base Q hs)(hzF:OkF F base w)(hl:hs.length<=100000):
  Calls Tryz.prog 124 #[.pointer (some ⟨Q,0,none⟩),.iface 134 (HV x)] w λe w'=>e= .returned (.tuple #[])/\QH F w' base Q (hs++ [x])/\Kp F w w':=by
 have hz:=hzF.le;obtain⟨hbQ,a,c,hC,hown,hne⟩:=h;have q0:w.cell? ⟨Q,0,none⟩=some (.slice a hs.length c):=hC.cell 0;have kQ:=Has.of hC.lt;have hQlt:=hC.lt;obtain⟨i0,hi0,hz0,hz1,hz2⟩:=xY aej
 have hAP:∀W,(W=w.drew.alloc (.cells #[.int .i64 x.k,.slice x.a x.l.length x.c] 134)∨W=(w.alloc (.cells #[.int .i64 x.k,.slice x.a x.l.length x.c] 134)).drew)->∃a' c' w',(Builtin.append_ #[128,128] 128 #[.slice a hs.length c,.slice (some ⟨w.heap.size,0,none⟩) 1 1]).run Tryz.prog W= .ok (.slice a' (hs.length+1) c') w'/\w'.ownsRow base 134 2 (.slice a' (hs.length+1) c') (hs.length+1) (eB (hs++ [x]))/\(∀g,(Value.slice a' (hs.length+1) c').ownBlock=some g->g≠Q/\¬F g)/\CellsAt w' Q 130 #[.slice a hs.length c]/\Kp F w w':=λW hW=>by
  have hB:Below w.heap.size w W:=by
   rcases hW with rfl|rfl
   .exact bla (abv (Below.refl _ _)) _
   .exact abv (bla (Below.refl _ _) _)
  have hX:CellsAt W w.heap.size 134 #[.int .i64 x.k,.slice x.a x.l.length x.c]:=by
   have h0:CellsAt (w.alloc (.cells #[.int .i64 x.k,.slice x.a x.l.length x.c] 134)) w.heap.size 134 #[.int .i64 x.k,.slice x.a x.l.length x.c]:=World.alloc_heap_new w _;rcases hW with rfl|rfl
   .exact h0
   .exact h0
  have hzW:base<=W.heap.size:=Nat.le_trans hz hB.size
  obtain⟨v',w',h1,h2,h3,_,h5⟩:=run_append_own_at (P:=Tryz.prog) (w:=W) base 128 128 134 i0 (.agg #[.int .i64 0,.slice none 0 0]) 2 32 Tryz.underlying128 hi0 hz0 hz1 hz2 rfl (by decide) _ hs.length (eB hs) (kw hown hB) ⟨w.heap.size,0,none⟩ 1 1 (eB [x]) rfl (λj u hj=>by
   rw [Em,hX.cell];have hj2:j<2:=by have:=(List.getElem?_eq_some_iff.1 hj).1;simpa [eB,enc]using this
   rcases(show j=0∨j=1 by omega)with rfl|rfl
   .exact hj
   .exact hj) (LW [x]) (by unfold maxLen;omega) (by omega) hzW
  obtain⟨a',c',rfl,_⟩:=wX h2;have hoW:∀k,(Value.slice a hs.length c).ownBlock=some k->base<=k/\k<W.heap.size:=(kw hown hB).lt;refine⟨a',c',w',h1,by rw [Al];exact h2,λg hg=> ?_,(hC.below hB).grown h3 (λe=>(hne Q e.symm).1 rfl),?_⟩
  .rcases h5 with h5|h5
   .exact hne g (h5.symm.trans hg)
   .rw [h5]at hg
    have:W.heap.size=g:=Option.some.inj hg
    have hsz:=hB.size;refine⟨by omega,λhf=> ?_⟩
    have:=hzF.hi g hf
    omega
  .exact(Kp.of_below hB).trans (Kp.of_grown h3 (λk hk=>(hne k hk).2))
 have hTA:∀W:World,(Instr.typeAssert (.iface 134 (.agg #[.int .i64 x.k,.slice x.a x.l.length x.c])) 20 134 false).run Tryz.prog W= .ok (.agg #[.int .i64 x.k,.slice x.a x.l.length x.c]) W:=λ_=>by kernel_rfl
 go_enter Tryz.func124,Tryz.ntmps124
 go_wp2
 go_region_law (obtain⟨a',c',w3,hrun,hown3,hne3,hC3,hB3⟩:=hAP _ (by first|exact .inl rfl|exact .inr rfl);have t0:=hC3.cell 0;have tf:=hC3.frozen 0;have tk:=Has.of hC3.lt;refine ze rfl (.tmp 8) (.tmp 11) 128 128 rfl _ _ (by simp [Act.eval,Act.put]) (by simp [Act.eval,Act.put]) hrun ?_)
 all_goals go_wp2
 all_goals go_end0
 all_goals (
  refine⟨rfl,⟨hbQ,a',c',?_,?_,?_⟩,hB3.trans (Kp.of_grown (bV w3 Q 0 _) (λk e=>by cases e;exact hbQ))⟩
  .rw [gN];simpa using hC3.set 0 (.slice a' (hs.length+1) c')
  .rw [gN];exact hown3.kept (bV w3 Q 0 _) (.inr (λe=>(hne3 Q e).1 rfl))
  .rw [gN]
   exact hne3)
end Hp
end
noncomputable section
open Go.RowKit Go.Lib Go.Sort
namespace Hp
theorem TF{w:World}{base g n c:Nat}{hs:List Hd}{x:Hd}(h:w.ownsRow base 134 2 (.slice (some ⟨g,0,none⟩) (n+1) c) (n+1) (eB (hs++ [x])))(hn:hs.length=n):w.ownsRow base 134 2 (.slice (some ⟨g,0,none⟩) n c) n (eB hs):=by
 rcases h.2 with⟨e,h0⟩|⟨g',cap,cur,e,hbg,hg,hnc,hcm,hcs,htake⟩
 .omega
 .cases e;refine⟨by rw [ue,hn],.inr ⟨g,c,cur,rfl,hbg,hg,by omega,hcm,hcs,?_⟩⟩
  have:=congrArg (List.take (n*2)) htake
  rw [List.take_take,show min (n*2) ((n+1)*2)=n*2 by omega,Al]at this;rw [this,List.take_left' (by rw [ue,hn])]
set_option maxRecDepth 100000 in
set_option maxHeartbeats 1000000 in
theorem LX(F:Nat->Prop)(base Q:Nat)(hs:List Hd)(x:Hd)(w:World)(h:QH F w base Q (hs++ [x]))(hzF:OkF F base w)(hl:hs.length<=100000):
  Calls Tryz.prog 123 #[.pointer (some ⟨Q,0,none⟩)] w λe w'=>e= .returned (.iface 134 (HV x))/\QH F w' base Q hs/\Kp F w w':=by
 have hz:=hzF.le;obtain⟨hbQ,a,c,hC,hown,hne⟩:=h;rw [gN]at hC hown hne;obtain⟨n,hn⟩:∃n,n=hs.length:=⟨_,rfl⟩;rw [<-hn]at hC hown hne hl;have hr:=Gl hown (by rw [gN,hn])
 have hgo:∃g,a=some ⟨g,0,none⟩/\n+1<=c:=by
  rcases hown.2 with⟨e,h0⟩|⟨g',cap,cur,e,hbg,hg,hnc,hcm,hcs,htake⟩
  .omega
  .cases e;exact⟨g',rfl,hnc⟩
 obtain⟨g,rfl,hnc⟩:=hgo;obtain⟨b,e,hb,x0,x1⟩:=hr n (by rw [gN];omega);cases e;rw [Em]at x0 x1;rw [hn,Qj,<-hn]at x0 x1;have q0:w.cell? ⟨Q,0,none⟩=some (.slice (some ⟨g,0,none⟩) (n+1) c):=hC.cell 0;have qf:=hC.frozen 0;have kQ:=Has.of hC.lt;have kg:=Has.of hb;have hlt:((n:Nat):Int)<((n:Nat):Int)+1:=by omega
 have HN:=Lib.hid hn;have hQlt:=hC.lt;clear hn hr
 go_enter Tryz.func123,Tryz.ntmps123
 go_wp2
 go_ret
 have hnn:=HN.out;have hC1:CellsAt (w.setCell ⟨Q,0,none⟩ (.slice (some ⟨g,0,none⟩) n c)) Q 130 #[.slice (some ⟨g,0,none⟩) n c]:=by simpa using hC.set 0 (.slice (some ⟨g,0,none⟩) n c)
 have hB1:Kp F w (w.setCell ⟨Q,0,none⟩ (.slice (some ⟨g,0,none⟩) n c)):=Kp.of_grown (bV w Q 0 _) (λk e=>by cases e;exact hbQ);have ho1:=(TF hown hnn.symm).kept (bV w Q 0 (.slice (some ⟨g,0,none⟩) n c)) (.inr (λe=>(hne Q e).1 rfl));generalize w.setCell ⟨Q,0,none⟩ (.slice (some ⟨g,0,none⟩) n c)=W at hC1 hB1 ho1 ⊢;have hA:Below W.heap.size W (W.alloc (.cells #[.int .i64 x.k,.slice x.a x.l.length x.c] 134)):=bla (Below.refl _ _) _;refine⟨rfl,⟨hbQ,some ⟨g,0,none⟩,c,?_,?_,?_⟩,hB1.trans (Kp.of_below hA)⟩
 .rw [<-hnn];exact hC1.below hA
 .rw [<-hnn];exact ho1.alloc _
 .rw [<-hnn];exact hne
end Hp
end
end Go.Proofs.YtjjbpdldbdmoeaaGreatDoor
