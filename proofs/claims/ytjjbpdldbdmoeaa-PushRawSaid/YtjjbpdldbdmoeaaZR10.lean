/- Texts of a claim, joined. -/
import Derived.Test.YtjjbpdldbdmoeaaZR9
import Derived.Test.YtjjbpdldbdmoeaaProg
import Derived.WalkKit
import Derived.BigQuiet
import Derived.Lib.QuietBelow
import Derived.WalkSpells
import Derived.WalkLawsBesides
import Derived.IntWalk
import Derived.Lib.Hide
import Derived.Outline
import Derived.StillTail
import Derived.Laws.IdiomRangeMap
import Derived.RangeFuncBox
import Derived.Laws.OwnMore
import Derived.Maps.AppendAt
import Derived.Defers
import Derived.Recover
import Derived.KernelRfl
import Derived.Deep.RegionHeld3
import Derived.BigRegion
import Derived.RegionTactic
import Derived.Laws.AppendOwnNone
import Derived.Deep.RegionLaw
set_option linter.unusedVariables false
set_option linter.unusedSimpArgs false
namespace Go.Proofs.Ytjjbpdldbdmoeaa
noncomputable section
namespace Ev
namespace K
open Go Go.RowKit
set_option maxRecDepth 100000
set_option maxHeartbeats 1000000
def i1:TI:=(⟨.func #[] #[] false,[.nilFunc],1,8⟩:TI)
def i4:TI:=(⟨.bool,[.bool false],1,1⟩:TI)
def i7:TI:=(⟨.struct (bq Try.prog 7),[.int .i64 0,.int .i64 0,.bool false,.int .u8 0],4,24⟩:TI)
def i8:TI:=(⟨.struct (bq Try.prog 8),[.int .i64 0,.int .i64 0,.bool false,.int .u8 0],4,24⟩:TI)
def i15:TI:=(⟨.pointer 166,[.pointer none],1,8⟩:TI)
def i16:TI:=(⟨.pointer 169,[.pointer none],1,8⟩:TI)
def i17:TI:=(⟨.pointer 178,[.pointer none],1,8⟩:TI)
def i18:TI:=(⟨.struct (bq Try.prog 18),[.pointer none],1,8⟩:TI)
def i19:TI:=(⟨.struct (bq Try.prog 19),[.pointer none],1,8⟩:TI)
def i23:TI:=(⟨.slice 3,[.slice none 0 0],1,24⟩:TI)
def i24:TI:=(⟨.slice 2,[.slice none 0 0],1,24⟩:TI)
def i25:TI:=(⟨.struct (bq Try.prog 25),[.int .i64 0,.int .i64 0,.slice none 0 0,.slice none 0 0,.slice none 0 0,.slice none 0 0],6,112⟩:TI)
def i26:TI:=(⟨.struct (bq Try.prog 26),[.int .i64 0,.int .i64 0,.slice none 0 0,.slice none 0 0,.slice none 0 0,.slice none 0 0],6,112⟩:TI)
def i27:TI:=(⟨.slice 62,[.slice none 0 0],1,24⟩:TI)
def i28:TI:=(⟨.struct (bq Try.prog 28),[.int .i64 0,.slice none 0 0],2,32⟩:TI)
def i29:TI:=(⟨.struct (bq Try.prog 29),[.int .i64 0,.slice none 0 0],2,32⟩:TI)
def i30:TI:=(⟨.func #[] #[4] false,[.nilFunc],1,8⟩:TI)
def i31:TI:=(⟨.func #[29] #[29] false,[.nilFunc],1,8⟩:TI)
def i32:TI:=(⟨.slice 69,[.slice none 0 0],1,24⟩:TI)
def i35:TI:=(⟨.func #[22,26,29,44,4] #[32,33] false,[.nilFunc],1,8⟩:TI)
def i36:TI:=(⟨.func #[32,32] #[4] false,[.nilFunc],1,8⟩:TI)
def i37:TI:=(⟨.func #[22,26,29] #[4] false,[.nilFunc],1,8⟩:TI)
def i38:TI:=(⟨.slice 32,[.slice none 0 0],1,24⟩:TI)
def i39:TI:=(⟨.func #[22,38] #[32,33] true,[.nilFunc],1,8⟩:TI)
def i40:TI:=(⟨.func #[22,38] #[32,33] false,[.nilFunc],1,8⟩:TI)
def i41:TI:=(⟨.func #[22,38] #[4] false,[.nilFunc],1,8⟩:TI)
def i42:TI:=(⟨.array 2 5,[.int .u8 0,.int .u8 0],2,2⟩:TI)
def i43:TI:=(⟨.slice 60,[.slice none 0 0],1,24⟩:TI)
def i44:TI:=(⟨.slice 65,[.slice none 0 0],1,24⟩:TI)
def i45:TI:=(⟨.struct (bq Try.prog 45),[.int .i64 0,.int .u8 0,.int .u8 0,.slice none 0 0,.slice none 0 0,.slice none 0 0,.slice none 0 0,.bool false],8,120⟩:TI)
def i46:TI:=(⟨.struct (bq Try.prog 46),[.int .i64 0,.int .u8 0,.int .u8 0,.slice none 0 0,.slice none 0 0,.slice none 0 0,.slice none 0 0,.bool false],8,120⟩:TI)
def i47:TI:=(⟨.func #[22] #[22] false,[.nilFunc],1,8⟩:TI)
def i48:TI:=(⟨.struct (bq Try.prog 48),[.int .i64 0,.int .i64 0,.slice none 0 0,.slice none 0 0,.slice none 0 0],5,88⟩:TI)
def i49:TI:=(⟨.struct (bq Try.prog 49),[.int .i64 0,.int .i64 0,.slice none 0 0,.slice none 0 0,.slice none 0 0],5,88⟩:TI)
def i50:TI:=(⟨.func #[] #[49] false,[.nilFunc],1,8⟩:TI)
def i51:TI:=(⟨.func #[27] #[29] false,[.nilFunc],1,8⟩:TI)
def i52:TI:=(⟨.func #[49] #[26] false,[.nilFunc],1,8⟩:TI)
def i53:TI:=(⟨.func #[49,54,54] #[49] false,[.nilFunc],1,8⟩:TI)
def i54:TI:=(⟨.array 2 3,[.int .i64 0,.int .i64 0],2,16⟩:TI)
def i55:TI:=(⟨.func #[29,3,3] #[29] false,[.nilFunc],1,8⟩:TI)
def i56:TI:=(⟨.func #[46,5] #[4] false,[.nilFunc],1,8⟩:TI)
def i58:TI:=(⟨.func #[22,3,3,43] #[49,33] false,[.nilFunc],1,8⟩:TI)
def i59:TI:=(⟨.struct (bq Try.prog 59),[.int .i64 0,.int .i64 0,.int .i64 0],3,24⟩:TI)
def i60:TI:=(⟨.struct (bq Try.prog 60),[.int .i64 0,.int .i64 0,.int .i64 0],3,24⟩:TI)
def i61:TI:=(⟨.struct (bq Try.prog 61),[.int .i64 0,.int .i64 0],2,16⟩:TI)
def i62:TI:=(⟨.struct (bq Try.prog 62),[.int .i64 0,.int .i64 0],2,16⟩:TI)
def i64:TI:=(⟨.func #[22,26,29,44,4] #[29,33] false,[.nilFunc],1,8⟩:TI)
def i66:TI:=(⟨.struct (bq Try.prog 66),[.int .i64 0,.int .u64 0],2,16⟩:TI)
def i67:TI:=(⟨.struct (bq Try.prog 67),[.int .i64 0,.int .u64 0],2,16⟩:TI)
def i68:TI:=(⟨.struct (bq Try.prog 68),[.int .i64 0,.int .i64 0,.int .u64 0],3,24⟩:TI)
def i69:TI:=(⟨.struct (bq Try.prog 69),[.int .i64 0,.int .i64 0,.int .u64 0],3,24⟩:TI)
def i70:TI:=(⟨.func #[26,29] #[3] false,[.nilFunc],1,8⟩:TI)
def i71:TI:=(⟨.func #[22] #[4] false,[.nilFunc],1,8⟩:TI)
def i72:TI:=(⟨.func #[26] #[26] false,[.nilFunc],1,8⟩:TI)
def i73:TI:=(⟨.func #[29] #[4] false,[.nilFunc],1,8⟩:TI)
def i74:TI:=(⟨.slice 80,[.slice none 0 0],1,24⟩:TI)
def i77:TI:=(⟨.func #[26,29] #[76] false,[.nilFunc],1,8⟩:TI)
def i78:TI:=(⟨.pointer 80,[.pointer none],1,8⟩:TI)
def i79:TI:=(⟨.struct (bq Try.prog 79),[.int .i64 0,.int .u64 0,.bool false],3,24⟩:TI)
def i80:TI:=(⟨.struct (bq Try.prog 80),[.int .i64 0,.int .u64 0,.bool false],3,24⟩:TI)
def i81:TI:=(⟨.func #[22,2,2] #[67] false,[.nilFunc],1,8⟩:TI)
def i82:TI:=(⟨.func #[22,67,67] #[67] false,[.nilFunc],1,8⟩:TI)
def i83:TI:=(⟨.func #[44,3] #[4] false,[.nilFunc],1,8⟩:TI)
def i84:TI:=(⟨.func #[22,49,87,44,4] #[32,33] false,[.nilFunc],1,8⟩:TI)
def i85:TI:=(⟨.func #[26] #[49] false,[.nilFunc],1,8⟩:TI)
def i86:TI:=(⟨.struct (bq Try.prog 86),[.int .i64 0,.slice none 0 0,.slice none 0 0],3,56⟩:TI)
def i87:TI:=(⟨.struct (bq Try.prog 87),[.int .i64 0,.slice none 0 0,.slice none 0 0],3,56⟩:TI)
def i88:TI:=(⟨.func #[29] #[87] false,[.nilFunc],1,8⟩:TI)
def i89:TI:=(⟨.pointer 93,[.pointer none],1,8⟩:TI)
def i92:TI:=(⟨.struct (bq Try.prog 92),[.slice none 0 0],1,24⟩:TI)
def i93:TI:=(⟨.struct (bq Try.prog 93),[.slice none 0 0],1,24⟩:TI)
def i94:TI:=(⟨.func #[32] #[4] false,[.nilFunc],1,8⟩:TI)
def i95:TI:=(⟨.func #[132,20] #[] false,[.nilFunc],1,8⟩:TI)
def i96:TI:=(⟨.struct (bq Try.prog 96),[.int .i64 0,.slice none 0 0],2,32⟩:TI)
def i97:TI:=(⟨.struct (bq Try.prog 97),[.int .i64 0,.slice none 0 0],2,32⟩:TI)
def i98:TI:=(⟨.func #[] #[3] false,[.nilFunc],1,8⟩:TI)
def i99:TI:=(⟨.func #[132] #[20] false,[.nilFunc],1,8⟩:TI)
def abz:TI:=(⟨.func #[22,32,69] #[32] false,[.nilFunc],1,8⟩:TI)
def abA:TI:=(⟨.func #[22,32,32] #[32] false,[.nilFunc],1,8⟩:TI)
def abB:TI:=(⟨.func #[42,43] #[49] false,[.nilFunc],1,8⟩:TI)
def abC:TI:=(⟨.func #[22,2] #[2] false,[.nilFunc],1,8⟩:TI)
def abD:TI:=(⟨.func #[5,27] #[29] false,[.nilFunc],1,8⟩:TI)
def abE:TI:=(⟨.func #[5] #[3] false,[.nilFunc],1,8⟩:TI)
def abF:TI:=(⟨.func #[49] #[49] false,[.nilFunc],1,8⟩:TI)
def abG:TI:=(⟨.func #[49,3] #[27] false,[.nilFunc],1,8⟩:TI)
def abH:TI:=(⟨.func #[49] #[43] false,[.nilFunc],1,8⟩:TI)
def abI:TI:=(⟨.func #[3,3,43] #[49] false,[.nilFunc],1,8⟩:TI)
def abJ:TI:=(⟨.slice 112,[.slice none 0 0],1,24⟩:TI)
def abK:TI:=(⟨.struct (bq Try.prog 111),[.int .i64 0,.int .i64 0,.int .i64 0],3,24⟩:TI)
def abL:TI:=(⟨.struct (bq Try.prog 112),[.int .i64 0,.int .i64 0,.int .i64 0],3,24⟩:TI)
def abM:TI:=(⟨.func #[22,110] #[110,33] false,[.nilFunc],1,8⟩:TI)
def abN:TI:=(⟨.func #[22,3,32] #[29,33] false,[.nilFunc],1,8⟩:TI)
def abO:TI:=(⟨.func #[26,23] #[3] false,[.nilFunc],1,8⟩:TI)
def abP:TI:=(⟨.func #[29] #[23] false,[.nilFunc],1,8⟩:TI)
def abQ:TI:=(⟨.func #[26] #[4] false,[.nilFunc],1,8⟩:TI)
def abR:TI:=(⟨.func #[3] #[4] false,[.nilFunc],1,8⟩:TI)
def abS:TI:=(⟨.func #[3,2] #[4] false,[.nilFunc],1,8⟩:TI)
def abT:TI:=(⟨.func #[2] #[67] false,[.nilFunc],1,8⟩:TI)
def abU:TI:=(⟨.func #[67,67] #[67] false,[.nilFunc],1,8⟩:TI)
def abV:TI:=(⟨.func #[4] #[67] false,[.nilFunc],1,8⟩:TI)
def abW:TI:=(⟨.func #[2,2] #[67] false,[.nilFunc],1,8⟩:TI)
def abX:TI:=(⟨.func #[3] #[65] false,[.nilFunc],1,8⟩:TI)
def abY:TI:=(⟨.func #[87] #[29] false,[.nilFunc],1,8⟩:TI)
def abZ:TI:=(⟨.func #[29,3] #[2,4] false,[.nilFunc],1,8⟩:TI)
def ac0:TI:=(⟨.func #[3] #[87] false,[.nilFunc],1,8⟩:TI)
def ac1:TI:=(⟨.func #[3,23] #[44] false,[.nilFunc],1,8⟩:TI)
def ac2:TI:=(⟨.func #[20] #[] false,[.nilFunc],1,8⟩:TI)
def ac3:TI:=(⟨.func #[132,3] #[] false,[.nilFunc],1,8⟩:TI)
def ac4:TI:=(⟨.func #[3,3] #[] false,[.nilFunc],1,8⟩:TI)
def ac5:TI:=(⟨.func #[132,3,3] #[4] false,[.nilFunc],1,8⟩:TI)
def ac6:TI:=(⟨.func #[] #[20] false,[.nilFunc],1,8⟩:TI)
def ac7:TI:=(⟨.func #[43] #[43] false,[.nilFunc],1,8⟩:TI)
def ac8:TI:=(⟨.func #[3,3] #[49] false,[.nilFunc],1,8⟩:TI)
def ac9:TI:=(⟨.func #[22,3,27] #[29,33] false,[.nilFunc],1,8⟩:TI)
def aca:TI:=(⟨.func #[49] #[4] false,[.nilFunc],1,8⟩:TI)
def acb:TI:=(⟨.slice 67,[.slice none 0 0],1,24⟩:TI)
def acd:TI:=(⟨.func #[112,112] #[4] false,[.nilFunc],1,8⟩:TI)
def ace:TI:=(⟨.func #[67] #[2,4] false,[.nilFunc],1,8⟩:TI)
def acf:TI:=(⟨.func #[22,3,32] #[33] false,[.nilFunc],1,8⟩:TI)
def acg:TI:=(⟨.func #[22,67] #[2,4] false,[.nilFunc],1,8⟩:TI)
def ach:TI:=(⟨.func #[22] #[2] false,[.nilFunc],1,8⟩:TI)
def aci:TI:=(⟨.func #[26,3] #[3,3] false,[.nilFunc],1,8⟩:TI)
def acj:TI:=(⟨.func #[23,3] #[4] false,[.nilFunc],1,8⟩:TI)
def ack:TI:=(⟨.func #[67,67] #[3] false,[.nilFunc],1,8⟩:TI)
def acl:TI:=(⟨.array 4 65,[.int .u64 0,.int .u64 0,.int .u64 0,.int .u64 0],4,32⟩:TI)
def acm:TI:=(⟨.func #[65,65] #[153] false,[.nilFunc],1,8⟩:TI)
def acn:TI:=(⟨.func #[67,3] #[67] false,[.nilFunc],1,8⟩:TI)
def aco:TI:=(⟨.func #[87] #[4] false,[.nilFunc],1,8⟩:TI)
def acp:TI:=(⟨.func #[44] #[23] false,[.nilFunc],1,8⟩:TI)
def acq:TI:=(⟨.func #[3] #[44] false,[.nilFunc],1,8⟩:TI)
def acr:TI:=(⟨.func #[44,3] #[44] false,[.nilFunc],1,8⟩:TI)
def acs:TI:=(⟨.func #[3,3] #[4] false,[.nilFunc],1,8⟩:TI)
def act:TI:=(⟨.func #[67] #[67] false,[.nilFunc],1,8⟩:TI)
def acu:TI:=(⟨.func #[3] #[3] false,[.nilFunc],1,8⟩:TI)
def acv:TI:=(⟨.func #[44,3,4] #[44] false,[.nilFunc],1,8⟩:TI)
def acw:TI:=(⟨.func #[] #[9] false,[.nilFunc],1,8⟩:TI)
def acx:TI:=(⟨.array 0 16,[],0,0⟩:TI)
def acy:TI:=(⟨.struct (bq Try.prog 168),[],0,0⟩:TI)
def acz:TI:=(⟨.struct (bq Try.prog 169),[],0,0⟩:TI)
def acA:TI:=(⟨.int .u32,[.int .u32 0],1,4⟩:TI)
def acB:TI:=(⟨.func #[179,179] #[4] false,[.nilFunc],1,8⟩:TI)
def acC:TI:=(⟨.pointer 5,[.pointer none],1,8⟩:TI)
def acD:TI:=(⟨.struct (bq Try.prog 177),[.int .u64 0,.int .u64 0,.int .u32 0,.int .u8 0,.int .u8 0,.int .u8 0,.int .u8 0,.nilFunc,.pointer none,.int .i32 0,.int .i32 0],11,48⟩:TI)
def acE:TI:=(⟨.struct (bq Try.prog 178),[.int .u64 0,.int .u64 0,.int .u32 0,.int .u8 0,.int .u8 0,.int .u8 0,.int .u8 0,.nilFunc,.pointer none,.int .i32 0,.int .i32 0],11,48⟩:TI)
def TT:List (Nat×TI):= [(1,i1),
 (2,(⟨.int .i64,[.int .i64 0],1,8⟩:TI)),
 (3,(⟨.int .i64,[.int .i64 0],1,8⟩:TI)),
 (4,i4),
 (5,(⟨.int .u8,[.int .u8 0],1,1⟩:TI)),
 (6,(⟨.int .u8,[.int .u8 0],1,1⟩:TI)),
 (7,i7),
 (8,i8),
 (12,(⟨.int .u64,[.int .u64 0],1,8⟩:TI)),
 (15,i15),
 (16,i16),
 (17,i17),
 (18,i18),
 (19,i19),
 (21,(⟨.int .i32,[.int .i32 0],1,4⟩:TI)),
 (22,(⟨.int .i64,[.int .i64 0],1,8⟩:TI)),
 (23,i23),
 (24,i24),
 (25,i25),
 (26,i26),
 (27,i27),
 (28,i28),
 (29,i29),
 (30,i30),
 (31,i31),
 (32,i32),
 (33,(⟨.int .i64,[.int .i64 0],1,8⟩:TI)),
 (35,i35),
 (36,i36),
 (37,i37),
 (38,i38),
 (39,i39),
 (40,i40),
 (41,i41),
 (42,i42),
 (43,i43),
 (44,i44),
 (45,i45),
 (46,i46),
 (47,i47),
 (48,i48),
 (49,i49),
 (50,i50),
 (51,i51),
 (52,i52),
 (53,i53),
 (54,i54),
 (55,i55),
 (56,i56),
 (58,i58),
 (59,i59),
 (60,i60),
 (61,i61),
 (62,i62),
 (64,i64),
 (65,(⟨.int .u64,[.int .u64 0],1,8⟩:TI)),
 (66,i66),
 (67,i67),
 (68,i68),
 (69,i69),
 (70,i70),
 (71,i71),
 (72,i72),
 (73,i73),
 (74,i74),
 (75,(⟨.func #[120] #[] false,[.nilFunc],1,8⟩:TI)),
 (76,(⟨.func #[120] #[] false,[.nilFunc],1,8⟩:TI)),
 (77,i77),
 (78,i78),
 (79,i79),
 (80,i80),
 (81,i81),
 (82,i82),
 (83,i83),
 (84,i84),
 (85,i85),
 (86,i86),
 (87,i87),
 (88,i88),
 (89,i89),
 (90,(⟨.slice 97,[.slice none 0 0],1,24⟩:TI)),
 (91,(⟨.slice 97,[.slice none 0 0],1,24⟩:TI)),
 (92,i92),
 (93,i93),
 (94,i94),
 (95,i95),
 (96,i96),
 (97,i97),
 (98,i98),
 (99,i99),
 (100,abz),
 (101,abA),
 (102,abB),
 (103,abC),
 (104,abD),
 (105,abE),
 (106,abF),
 (107,abG),
 (108,abH),
 (109,abI),
 (110,abJ),
 (111,abK),
 (112,abL),
 (114,abM),
 (115,abN),
 (116,abO),
 (117,abP),
 (118,abQ),
 (119,abR),
 (120,abS),
 (121,abT),
 (122,abU),
 (123,abV),
 (124,abW),
 (125,abX),
 (126,abY),
 (128,abZ),
 (129,ac0),
 (130,ac1),
 (133,ac2),
 (134,ac3),
 (135,ac4),
 (136,ac5),
 (137,ac6),
 (138,ac7),
 (139,ac8),
 (140,ac9),
 (141,aca),
 (142,acb),
 (143,acd),
 (144,ace),
 (145,acf),
 (146,acg),
 (147,ach),
 (149,aci),
 (150,acj),
 (151,(⟨.int .u64,[.int .u64 0],1,8⟩:TI)),
 (152,ack),
 (153,acl),
 (154,acm),
 (155,acn),
 (156,aco),
 (157,acp),
 (158,acq),
 (159,acr),
 (160,acs),
 (161,act),
 (162,acu),
 (163,acv),
 (164,acw),
 (167,acx),
 (168,acy),
 (169,acz),
 (170,acA),
 (171,(⟨.int .u8,[.int .u8 0],1,1⟩:TI)),
 (172,(⟨.int .u8,[.int .u8 0],1,1⟩:TI)),
 (173,acB),
 (174,acC),
 (175,(⟨.int .i32,[.int .i32 0],1,4⟩:TI)),
 (176,(⟨.int .i32,[.int .i32 0],1,4⟩:TI)),
 (177,acD),
 (178,acE)]
theorem tz1:ah Try.prog 1=some i1:=by kernel_rfl
theorem tz2:ah Try.prog 2=some (⟨.int .i64,[.int .i64 0],1,8⟩:TI):=by kernel_rfl
theorem tz3:ah Try.prog 3=some (⟨.int .i64,[.int .i64 0],1,8⟩:TI):=by kernel_rfl
theorem tz4:ah Try.prog 4=some i4:=by kernel_rfl
theorem tz5:ah Try.prog 5=some (⟨.int .u8,[.int .u8 0],1,1⟩:TI):=by kernel_rfl
theorem tz6:ah Try.prog 6=some (⟨.int .u8,[.int .u8 0],1,1⟩:TI):=by kernel_rfl
theorem tz7:ah Try.prog 7=some i7:=by kernel_rfl
theorem tz8:ah Try.prog 8=some i8:=by kernel_rfl
theorem Zd:ah Try.prog 12=some (⟨.int .u64,[.int .u64 0],1,8⟩:TI):=by kernel_rfl
theorem Ze:ah Try.prog 15=some i15:=by kernel_rfl
theorem Zf:ah Try.prog 16=some i16:=by kernel_rfl
theorem Zg:ah Try.prog 17=some i17:=by kernel_rfl
theorem Zh:ah Try.prog 18=some i18:=by kernel_rfl
theorem Zi:ah Try.prog 19=some i19:=by kernel_rfl
theorem Zj:ah Try.prog 21=some (⟨.int .i32,[.int .i32 0],1,4⟩:TI):=by kernel_rfl
theorem VV:ah Try.prog 22=some (⟨.int .i64,[.int .i64 0],1,8⟩:TI):=by kernel_rfl
theorem VW:ah Try.prog 23=some i23:=by kernel_rfl
theorem VX:ah Try.prog 24=some i24:=by kernel_rfl
theorem Zk:ah Try.prog 25=some i25:=by kernel_rfl
theorem VY:ah Try.prog 26=some i26:=by kernel_rfl
theorem VZ:ah Try.prog 27=some i27:=by kernel_rfl
theorem Zl:ah Try.prog 28=some i28:=by kernel_rfl
theorem Wa:ah Try.prog 29=some i29:=by kernel_rfl
theorem Zm:ah Try.prog 30=some i30:=by kernel_rfl
theorem Zn:ah Try.prog 31=some i31:=by kernel_rfl
theorem Wb:ah Try.prog 32=some i32:=by kernel_rfl
theorem Zo:ah Try.prog 33=some (⟨.int .i64,[.int .i64 0],1,8⟩:TI):=by kernel_rfl
theorem Zp:ah Try.prog 35=some i35:=by kernel_rfl
theorem Zq:ah Try.prog 36=some i36:=by kernel_rfl
theorem Zr:ah Try.prog 37=some i37:=by kernel_rfl
theorem Zs:ah Try.prog 38=some i38:=by kernel_rfl
theorem Zt:ah Try.prog 39=some i39:=by kernel_rfl
theorem Zu:ah Try.prog 40=some i40:=by kernel_rfl
theorem Zv:ah Try.prog 41=some i41:=by kernel_rfl
theorem Zw:ah Try.prog 42=some i42:=by kernel_rfl
theorem Zx:ah Try.prog 43=some i43:=by kernel_rfl
theorem Wc:ah Try.prog 44=some i44:=by kernel_rfl
theorem Zy:ah Try.prog 45=some i45:=by kernel_rfl
theorem Zz:ah Try.prog 46=some i46:=by kernel_rfl
theorem ZA:ah Try.prog 47=some i47:=by kernel_rfl
theorem ZB:ah Try.prog 48=some i48:=by kernel_rfl
theorem We:ah Try.prog 49=some i49:=by kernel_rfl
theorem ZC:ah Try.prog 50=some i50:=by kernel_rfl
theorem ZD:ah Try.prog 51=some i51:=by kernel_rfl
theorem ZE:ah Try.prog 52=some i52:=by kernel_rfl
theorem ZF:ah Try.prog 53=some i53:=by kernel_rfl
theorem ZG:ah Try.prog 54=some i54:=by kernel_rfl
theorem ZH:ah Try.prog 55=some i55:=by kernel_rfl
theorem ZI:ah Try.prog 56=some i56:=by kernel_rfl
theorem ZJ:ah Try.prog 58=some i58:=by kernel_rfl
theorem ZK:ah Try.prog 59=some i59:=by kernel_rfl
theorem ZL:ah Try.prog 60=some i60:=by kernel_rfl
theorem ZM:ah Try.prog 61=some i61:=by kernel_rfl
theorem Wf:ah Try.prog 62=some i62:=by kernel_rfl
theorem ZN:ah Try.prog 64=some i64:=by kernel_rfl
theorem Wg:ah Try.prog 65=some (⟨.int .u64,[.int .u64 0],1,8⟩:TI):=by kernel_rfl
theorem ZO:ah Try.prog 66=some i66:=by kernel_rfl
theorem Wh:ah Try.prog 67=some i67:=by kernel_rfl
theorem ZP:ah Try.prog 68=some i68:=by kernel_rfl
theorem Wi:ah Try.prog 69=some i69:=by kernel_rfl
theorem ZQ:ah Try.prog 70=some i70:=by kernel_rfl
theorem ZR:ah Try.prog 71=some i71:=by kernel_rfl
theorem ZS:ah Try.prog 72=some i72:=by kernel_rfl
theorem ZT:ah Try.prog 73=some i73:=by kernel_rfl
theorem Wj:ah Try.prog 74=some i74:=by kernel_rfl
theorem ZU:ah Try.prog 75=some (⟨.func #[120] #[] false,[.nilFunc],1,8⟩:TI):=by kernel_rfl
theorem ZV:ah Try.prog 76=some (⟨.func #[120] #[] false,[.nilFunc],1,8⟩:TI):=by kernel_rfl
theorem ZW:ah Try.prog 77=some i77:=by kernel_rfl
theorem ZX:ah Try.prog 78=some i78:=by kernel_rfl
theorem ZY:ah Try.prog 79=some i79:=by kernel_rfl
theorem Wk:ah Try.prog 80=some i80:=by kernel_rfl
theorem ZZ:ah Try.prog 81=some i81:=by kernel_rfl
theorem aa0:ah Try.prog 82=some i82:=by kernel_rfl
theorem aa1:ah Try.prog 83=some i83:=by kernel_rfl
theorem aa2:ah Try.prog 84=some i84:=by kernel_rfl
theorem aa3:ah Try.prog 85=some i85:=by kernel_rfl
theorem aa4:ah Try.prog 86=some i86:=by kernel_rfl
theorem Wl:ah Try.prog 87=some i87:=by kernel_rfl
theorem aa5:ah Try.prog 88=some i88:=by kernel_rfl
theorem aa6:ah Try.prog 89=some i89:=by kernel_rfl
theorem aa7:ah Try.prog 90=some (⟨.slice 97,[.slice none 0 0],1,24⟩:TI):=by kernel_rfl
theorem aa8:ah Try.prog 91=some (⟨.slice 97,[.slice none 0 0],1,24⟩:TI):=by kernel_rfl
theorem aa9:ah Try.prog 92=some i92:=by kernel_rfl
theorem aaa:ah Try.prog 93=some i93:=by kernel_rfl
theorem aab:ah Try.prog 94=some i94:=by kernel_rfl
theorem aac:ah Try.prog 95=some i95:=by kernel_rfl
theorem aad:ah Try.prog 96=some i96:=by kernel_rfl
theorem aae:ah Try.prog 97=some i97:=by kernel_rfl
theorem aaf:ah Try.prog 98=some i98:=by kernel_rfl
theorem aag:ah Try.prog 99=some i99:=by kernel_rfl
theorem QY:ah Try.prog 100=some abz:=by kernel_rfl
theorem QZ:ah Try.prog 101=some abA:=by kernel_rfl
theorem Ra:ah Try.prog 102=some abB:=by kernel_rfl
theorem Rb:ah Try.prog 103=some abC:=by kernel_rfl
theorem Rc:ah Try.prog 104=some abD:=by kernel_rfl
theorem Rd:ah Try.prog 105=some abE:=by kernel_rfl
theorem Re:ah Try.prog 106=some abF:=by kernel_rfl
theorem Rf:ah Try.prog 107=some abG:=by kernel_rfl
theorem Rh:ah Try.prog 108=some abH:=by kernel_rfl
theorem Ri:ah Try.prog 109=some abI:=by kernel_rfl
theorem Rj:ah Try.prog 110=some abJ:=by kernel_rfl
theorem Rk:ah Try.prog 111=some abK:=by kernel_rfl
theorem Rm:ah Try.prog 112=some abL:=by kernel_rfl
theorem Rn:ah Try.prog 114=some abM:=by kernel_rfl
theorem Ro:ah Try.prog 115=some abN:=by kernel_rfl
theorem Rp:ah Try.prog 116=some abO:=by kernel_rfl
theorem Rq:ah Try.prog 117=some abP:=by kernel_rfl
theorem Rr:ah Try.prog 118=some abQ:=by kernel_rfl
theorem Rs:ah Try.prog 119=some abR:=by kernel_rfl
theorem Rt:ah Try.prog 120=some abS:=by kernel_rfl
theorem Ru:ah Try.prog 121=some abT:=by kernel_rfl
theorem Rv:ah Try.prog 122=some abU:=by kernel_rfl
theorem Rw:ah Try.prog 123=some abV:=by kernel_rfl
theorem Rx:ah Try.prog 124=some abW:=by kernel_rfl
theorem Ry:ah Try.prog 125=some abX:=by kernel_rfl
theorem Rz:ah Try.prog 126=some abY:=by kernel_rfl
theorem RA:ah Try.prog 128=some abZ:=by kernel_rfl
theorem RE:ah Try.prog 129=some ac0:=by kernel_rfl
theorem RF:ah Try.prog 130=some ac1:=by kernel_rfl
theorem RH:ah Try.prog 133=some ac2:=by kernel_rfl
theorem RI:ah Try.prog 134=some ac3:=by kernel_rfl
theorem RJ:ah Try.prog 135=some ac4:=by kernel_rfl
theorem RK:ah Try.prog 136=some ac5:=by kernel_rfl
theorem RL:ah Try.prog 137=some ac6:=by kernel_rfl
theorem RM:ah Try.prog 138=some ac7:=by kernel_rfl
theorem RN:ah Try.prog 139=some ac8:=by kernel_rfl
theorem RO:ah Try.prog 140=some ac9:=by kernel_rfl
theorem RP:ah Try.prog 141=some aca:=by kernel_rfl
theorem RQ:ah Try.prog 142=some acb:=by kernel_rfl
theorem RT:ah Try.prog 143=some acd:=by kernel_rfl
theorem RU:ah Try.prog 144=some ace:=by kernel_rfl
theorem RV:ah Try.prog 145=some acf:=by kernel_rfl
theorem RW:ah Try.prog 146=some acg:=by kernel_rfl
theorem RX:ah Try.prog 147=some ach:=by kernel_rfl
theorem RY:ah Try.prog 149=some aci:=by kernel_rfl
theorem RZ:ah Try.prog 150=some acj:=by kernel_rfl
theorem Sa:ah Try.prog 151=some (⟨.int .u64,[.int .u64 0],1,8⟩:TI):=by kernel_rfl
theorem Sb:ah Try.prog 152=some ack:=by kernel_rfl
theorem NV:ah Try.prog 153=some acl:=by kernel_rfl
theorem Sd:ah Try.prog 154=some acm:=by kernel_rfl
theorem Se:ah Try.prog 155=some acn:=by kernel_rfl
theorem Sf:ah Try.prog 156=some aco:=by kernel_rfl
theorem Sg:ah Try.prog 157=some acp:=by kernel_rfl
theorem Si:ah Try.prog 158=some acq:=by kernel_rfl
theorem Sj:ah Try.prog 159=some acr:=by kernel_rfl
theorem Sk:ah Try.prog 160=some acs:=by kernel_rfl
theorem Sn:ah Try.prog 161=some act:=by kernel_rfl
theorem So:ah Try.prog 162=some acu:=by kernel_rfl
theorem Sp:ah Try.prog 163=some acv:=by kernel_rfl
theorem Sq:ah Try.prog 164=some acw:=by kernel_rfl
theorem Sr:ah Try.prog 167=some acx:=by kernel_rfl
theorem Ss:ah Try.prog 168=some acy:=by kernel_rfl
theorem Su:ah Try.prog 169=some acz:=by kernel_rfl
theorem Sv:ah Try.prog 170=some acA:=by kernel_rfl
theorem Sw:ah Try.prog 171=some (⟨.int .u8,[.int .u8 0],1,1⟩:TI):=by kernel_rfl
theorem Sx:ah Try.prog 172=some (⟨.int .u8,[.int .u8 0],1,1⟩:TI):=by kernel_rfl
theorem Sy:ah Try.prog 173=some acB:=by kernel_rfl
theorem Sz:ah Try.prog 174=some acC:=by kernel_rfl
theorem SA:ah Try.prog 175=some (⟨.int .i32,[.int .i32 0],1,4⟩:TI):=by kernel_rfl
theorem SC:ah Try.prog 176=some (⟨.int .i32,[.int .i32 0],1,4⟩:TI):=by kernel_rfl
theorem SD:ah Try.prog 177=some acD:=by kernel_rfl
theorem SE:ah Try.prog 178=some acE:=by kernel_rfl
theorem tz:Try.prog.follows .mixedOrders=true:=by kernel_rfl
theorem tA:He Try.prog=true:=by kernel_rfl
def pd:List TD→Option (Kind×List TD):=fun _=>none
theorem NW(x y:Operand)(a0 b0 a1 b1:Int):aw Try.prog (do eqGuard .eql 67 x y (.agg #[.int .i64 a0,.int .u64 a1]) (.agg #[.int .i64 b0,.int .u64 b1]);binOp .eql 67 (.agg #[.int .i64 a0,.int .u64 a1]) (.agg #[.int .i64 b0,.int .u64 b1]))=some (.bool ((a0==b0 &&(a1==b1 && true)))):=by
 refine UV (by kernel_rfl) ((pM 9999 67 #[.int .i64 a0,.int .u64 a1] #[.int .i64 b0,.int .u64 b1] (fs:=bq Try.prog 66) (by kernel_rfl) (by kernel_rfl)).trans ?_);rw [show(bq Try.prog 66).toList= [fld Try.prog 66 0,fld Try.prog 66 1]by kernel_rfl];exact((kY (k:= .i64) (k':= .i64) (by kernel_rfl) (by kernel_rfl) (by kernel_rfl) (by kernel_rfl)).trans (rl ((kY (k:= .u64) (k':= .u64) (by kernel_rfl) (by kernel_rfl) (by kernel_rfl) (by kernel_rfl)).trans (rl nL))))
theorem NX(x y:Operand)(a0 b0 a1 b1:Int):aw Try.prog (do eqGuard .neq 67 x y (.agg #[.int .i64 a0,.int .u64 a1]) (.agg #[.int .i64 b0,.int .u64 b1]);binOp .neq 67 (.agg #[.int .i64 a0,.int .u64 a1]) (.agg #[.int .i64 b0,.int .u64 b1]))=some (.bool (!(a0==b0 &&(a1==b1 && true)))):=by
 refine KW (by kernel_rfl) ((pM 9999 67 #[.int .i64 a0,.int .u64 a1] #[.int .i64 b0,.int .u64 b1] (fs:=bq Try.prog 66) (by kernel_rfl) (by kernel_rfl)).trans ?_);rw [show(bq Try.prog 66).toList= [fld Try.prog 66 0,fld Try.prog 66 1]by kernel_rfl];exact((kY (k:= .i64) (k':= .i64) (by kernel_rfl) (by kernel_rfl) (by kernel_rfl) (by kernel_rfl)).trans (rl ((kY (k:= .u64) (k':= .u64) (by kernel_rfl) (by kernel_rfl) (by kernel_rfl) (by kernel_rfl)).trans (rl nL))))
def EQS:List (Nat×List IntKind):= [(67,[.i64,.u64])]
def fi7:FI:=fiF Try.f7
def ae7:FI:=fiF Try.f10
def acF:FI:=fiF Try.f19
def acG:FI:=fiF Try.f22
def ae8:FI:=fiF Try.f23
def ae9:FI:=fiF Try.f24
def aea:FI:=fiF Try.f26
def aah:FI:=fiF Try.f27
def aeb:FI:=fiF Try.f28
def aec:FI:=fiF Try.f29
def acH:FI:=fiF Try.f30
def acI:FI:=fiF Try.f32
def acJ:FI:=fiF Try.f37
def aed:FI:=fiF Try.f46
def acK:FI:=fiF Try.f48
def aee:FI:=fiF Try.f49
def acL:FI:=fiF Try.f50
def acM:FI:=fiF Try.f54
def aef:FI:=fiF Try.f55
def aai:FI:=fiF Try.f57
def aaj:FI:=fiF Try.f58
def aak:FI:=fiF Try.f59
def aal:FI:=fiF Try.f60
def aeg:FI:=fiF Try.f61
def aeh:FI:=fiF Try.f62
def acN:FI:=fiF Try.f63
def aei:FI:=fiF Try.f64
def aej:FI:=fiF Try.f65
def aek:FI:=fiF Try.f66
def ael:FI:=fiF Try.f67
def acO:FI:=fiF Try.f68
def acP:FI:=fiF Try.f69
def aem:FI:=fiF Try.f71
def aam:FI:=fiF Try.f75
def acQ:FI:=fiF Try.f77
def aen:FI:=fiF Try.f78
def acR:FI:=fiF Try.f79
def acS:FI:=fiF Try.f80
def acT:FI:=fiF Try.f81
def aeo:FI:=fiF Try.f85
def acU:FI:=fiF Try.f88
def acV:FI:=fiF Try.f89
def aan:FI:=fiF Try.f90
def acW:FI:=fiF Try.f91
def acX:FI:=fiF Try.f92
def aep:FI:=fiF Try.f93
def aeq:FI:=fiF Try.f94
def acY:FI:=fiF Try.f95
def acZ:FI:=fiF Try.f96
def ad0:FI:=fiF Try.f97
def aer:FI:=fiF Try.f98
def ad1:FI:=fiF Try.f99
def ad2:FI:=fiF Try.f100
def ad3:FI:=fiF Try.f101
def ad4:FI:=fiF Try.f103
def ad5:FI:=fiF Try.f104
def ad6:FI:=fiF Try.f105
def ad7:FI:=fiF Try.f106
abbrev yD8:TyD:=(true,.C (.I .i64) (.I .u64))
abbrev yD7:TyD:=(true,.C (.I .i64) (.C (.I .i64) (.I .i64)))
abbrev yD6:TyD:=(true,.C (.I .i64) (.S (.C (.I .i64) (.I .i64))))
abbrev yD5:TyD:=(false,.S (.C (.I .i64) (.C (.I .i64) (.I .i64))))
abbrev yD4:TyD:=(false,.S (.C (.I .i64) (.C (.I .i64) (.I .u64))))
abbrev yD3:TyD:=(true,.C (.I .i64) (.C (.S (.I .u64)) (.S (.I .i64))))
abbrev yD2:TyD:=(true,.C (.I .u64) (.C (.I .u64) (.C (.I .u64) (.I .u64))))
abbrev yD1:TyD:=(true,.C (.I .i64) (.C (.I .i64) (.C (.S (.I .i64)) (.C (.S (.I .i64)) (.S (.I .i64))))))
abbrev yD0:TyD:=(true,.C (.I .i64) (.C (.I .i64) (.C (.S (.I .i64)) (.C (.S (.I .i64)) (.C (.S (.I .i64)) (.S (.I .i64)))))))
end K
end Ev
end
noncomputable section
namespace Ev
namespace K
open Go Go.RowKit
set_option maxRecDepth 100000
set_option maxHeartbeats 1000000
def Pq:cY:= []
def ww:KG:=⟨TT,EQS,[],[]⟩
def ci:vals [(false,.I .i64)]→Option (OutK.val (.data true [yD8])):=dz ww Pq aai 57 0 [(false,.I .i64)] (.data true [yD8])
def rC:bL:=⟨57,[(false,.I .i64)],.data true [yD8],ci,1⟩
def zP:cY:= []
def mG:KG:=⟨TT,EQS,[],[]⟩
def ee:vals [yD8,yD8]→Option (OutK.val (.data true [(false,.I .i64)])):=dz mG zP aan 90 0 [yD8,yD8] (.data true [(false,.I .i64)])
def mH:bL:=⟨90,[yD8,yD8],.data true [(false,.I .i64)],ee,1⟩
def CC:cY:= []
def nQ:KG:=⟨TT,EQS,[mH],[]⟩
def cR:vals [yD8,yD8]→Option (OutK.val (.data true [yD8])):=dz nQ CC aaj 58 0 [yD8,yD8] (.data true [yD8])
def lk:bL:=⟨58,[yD8,yD8],.data true [yD8],cR,2⟩
def LA:cY:= []
def tB:KG:=⟨TT,EQS,[],[]⟩
def dC:vals [yD8,yD8]→Option (OutK.val (.data true [yD8])):=dz tB LA aak 59 0 [yD8,yD8] (.data true [yD8])
def mI:bL:=⟨59,[yD8,yD8],.data true [yD8],dC,1⟩
def FC:cY:= []
def pf:KG:=⟨TT,EQS,[rC],[]⟩
def cz:vals [(false,.B)]→Option (OutK.val (.data true [yD8])):=dz pf FC aal 60 0 [(false,.B)] (.data true [yD8])
def mv:bL:=⟨60,[(false,.B)],.data true [yD8],cz,2⟩
def LB:cY:= [(27,⟨[⟨true,2,9,[4,5,6,7],⟨[],[],[]⟩,[(.normal,⟨[(8,false,[.d true .B])],[],[]⟩)]⟩],[]⟩)]
def tC:KG:=⟨TT,EQS,[lk,mI,mv],[]⟩
def jd:vals [(false,.I .i64),yD8,yD8]→Option (OutK.val (.data true [yD8])):=dz tC LB aah 27 0 [(false,.I .i64),yD8,yD8] (.data true [yD8])
def zQ:bL:=⟨27,[(false,.I .i64),yD8,yD8],.data true [yD8],jd,3⟩
def Pr:cY:= []
def DT:KG:=⟨TT,EQS,[],[]⟩
def jV:vals [(false,.I .i64)]→Option (OutK.val (.data true [(false,.B)])):=dz DT Pr acG 22 0 [(false,.I .i64)] (.data true [(false,.B)])
def Ps:bL:=⟨22,[(false,.I .i64)],.data true [(false,.B)],jV,1⟩
def FD:cY:= []
def FE:KG:=⟨TT,EQS,[],[]⟩
def fH:vals [(false,.I .i64)]→Option (OutK.val (.data true [(false,.B)])):=dz FE FD aef 55 0 [(false,.I .i64)] (.data true [(false,.B)])
def FF:bL:=⟨55,[(false,.I .i64)],.data true [(false,.B)],fH,1⟩
def CD:cY:= [(24,⟨[⟨false,5,0,[1,11,12],⟨[(3,false,[.d true (.I .i64)]),(13,false,[.d true (.I .i64)])],[],[]⟩,[(.exit 0,⟨[],[],[]⟩),(.ret,⟨[(2,false,[.d true .B])],[],[]⟩)]⟩],[]⟩)]
def CF:KG:=⟨TT,EQS,[FF],[]⟩
def fU:vals [yD6]→Option (OutK.val (.data true [(false,.B)])):=dz CF CD ae9 24 0 [yD6] (.data true [(false,.B)])
def FG:cY:= [(32,⟨[⟨false,2,0,[0],⟨[(3,false,[.d true (.I .i64)])],[],[]⟩,[(.exit 0,⟨[],[],[]⟩),(.ret,⟨[(2,false,[.d true .B])],[],[]⟩)]⟩],[]⟩)]
def uB:KG:=⟨TT,EQS,[],[]⟩
def kL:vals [yD4]→Option (OutK.val (.data true [(false,.B)])):=dz uB FG acI 32 0 [yD4] (.data true [(false,.B)])
def FH:bL:=⟨32,[yD4],.data true [(false,.B)],kL,1⟩
end K
end Ev
end
noncomputable section
namespace Ev
namespace KM
open Go Go.RowKit
def ci(x:Int):Option (Int×Int):=K.ci x
def ee(x:Int×Int)(y:Int×Int):Option (Int):=K.ee (x,y)
def cR(x:Int×Int)(y:Int×Int):Option (Int×Int):=K.cR (x,y)
def dC(x:Int×Int)(y:Int×Int):Option (Int×Int):=K.dC (x,y)
def cz(x:Bool):Option (Int×Int):=K.cz x
def jd(x:Int)(y:Int×Int)(z:Int×Int):Option (Int×Int):=K.jd (x,y,z)
def jV(x:Int):Option (Bool):=K.jV x
def fH(x:Int):Option (Bool):=K.fH x
def fU(x:Int×(Sl (Int×Int))):Option (Bool):=K.fU x
def kL(x:Sl (Int×(Int×Int))):Option (Bool):=K.kL x
end KM
end Ev
end
noncomputable section
namespace Ev
namespace K
open Go Go.RowKit
def Iu{α:Type}(f:List T→Option α):List (List T)→Option (List α)
 | []=>some []
 |a::r=>(f a).bind fun x=>(Iu f r).map (x::·)
theorem zR{α:Type}{f:List T→Option α}{g:α→List T}(h:∀a x,f a=some x→a=g x):∀{l:List (List T)} {r:List α},Iu f l=some r→l=r.map g
 | [],r,hr=>by simp [Iu]at hr;subst hr;rfl
 |a::l,r,hr=>by
  simp only [Iu,zbE,Option.map_eq_some_iff]at hr;obtain⟨x,hx,r',hr',rfl⟩:=hr;rw [List.map_cons,←h a x hx,←zR h hr']
def yK:(e:Ty)→List T→Option e.val
 | .I k,l=>match l with
  | [.v (.int k' n)]=>if k'=k then some n else none
  |_=>none
 | .B,l=>match l with
  | [.v (.bool b)]=>some b
  |_=>none
 | .S e,l=>match l with
  | [.s nn sz rows]=>(Iu (yK e) rows).map fun r=>⟨nn,sz,r⟩
  |_=>none
 | .U,l=>match l with
  | []=>some ()
  |_=>none
 | .C a b,l=>(yK a (l.take a.size)).bind fun x=>(yK b (l.drop a.size)).bind fun y=>some (x,y)
theorem mB:∀(e:Ty) (l:List T) (x:e.val),yK e l=some x→l=e.row x
 | .I k,l,x,h=>by
  simp only [yK]at h;split at h
  ·split at h
   ·rename_i hk;cases h;subst hk;rfl
   ·simp at h
  ·simp at h
 | .B,l,x,h=>by
  simp only [yK]at h;split at h
  ·cases h;rfl
  ·simp at h
 | .S e,l,x,h=>by
  simp only [yK]at h;split at h
  ·rw [Option.map_eq_some_iff]at h;obtain⟨r,hr,rfl⟩:=h;rw [zR (mB e) hr];rfl
  ·simp at h
 | .U,l,x,h=>by
  simp only [yK]at h;split at h
  ·rfl
  ·simp at h
 | .C a b,l,x,h=>by
  simp only [yK,zbE]at h;obtain⟨x1,h1,x2,h2,h3⟩:=h;cases h3;show l=a.row x1++b.row x2;rw [←mB a _ _ h1,←mB b _ _ h2,List.take_append_drop]
def Iv(t:TyD)(d:TD):Option t.2.val:=
 match t,d with
 |(true,e),.agg l=>yK e l
 |(false,e),.one y=>yK e [y]
 |(false,e),.agg l=>if l.length=1 then none else yK e l
 |_,_=>none
def Yy:List T→TD
 | [y]=> .one y
 |ys=> .agg ys
theorem Iw(e:Ty)(x:e.val):tX (false,e) x=Yy (e.row x):=by
 unfold tX Yy;rfl
theorem zS(t:TyD)(d:TD)(x:t.2.val)(h:Iv t d=some x):d=tX t x:=by
 obtain⟨b,e⟩:=t
 cases b with
 |true=>
  cases d with
  |one y=>simp [Iv]at h
  |agg l=>exact congrArg TD.agg (mB e l x h)
 |false=>
  change e.val at x
  cases d with
  |one y=>rw [show tX (false,e) x=_ from Iw e x,←mB e [y] x h];rfl
  |agg l=>
   simp only [Iv]at h;split at h
   ·simp at h
   ·rename_i hl
    have:=mB e l x h
    rw [show tX (false,e) x=_ from Iw e x,←this]
    match l,hl with
    | [],_=>rfl
    | [y],hl=>simp at hl
    |a::b::r,_=>rfl
def wx:(ts:List TyD)→List TD→Option (vals ts)
 | [],l=>match l with
  | []=>some ()
  |_=>none
 | [t],l=>match l with
  | [d]=>Iv t d
  |_=>none
 |t::t'::r,l=>match l with
  |d::ds=>(Iv t d).bind fun x=>(wx (t'::r) ds).bind fun y=>some (x,y)
  | []=>none
theorem xJ:∀(ts:List TyD) (l:List TD) (x:vals ts),wx ts l=some x→l=jM ts x
 | [],l,x,h=>by
  simp only [wx]at h;split at h
  ·rfl
  ·simp at h
 | [t],l,x,h=>by
  simp only [wx]at h;split at h
  ·exact congrArg (·:: []) (zS t _ x h)
  ·simp at h
 |t::t'::r,l,x,h=>by
  simp only [wx]at h;split at h
  ·simp only [zbE]at h;obtain⟨y,h1,z,h2,h3⟩:=h;cases h3;show _=tX t y::jM (t'::r) z;rw [←zS t _ y h1,←xJ (t'::r) _ z h2]
  ·simp at h
def SF(ins:List TyD)(kind:Kind)(ts:List TyD)(g:vals ins→Option (vals ts))(vs:List TD):Option (Kind×List TD):=(wx ins vs).bind fun a=>(g a).bind fun x=>some (kind,jM ts x)
theorem Wm{P:Program}{k:FuncId}{ins:List TyD}{kind:Kind}{ts:List TyD}{g:vals ins→Option (vals ts)}(he:Enters P k)(h:∀a x,g a=some x→bP P k (jM ins a) kind (jM ts x)):∀vs kind' rs,SF ins kind ts g vs=some (kind',rs)→bP P k vs kind' rs∧Enters P k:=by
 intro vs kind' rs hf;simp only [SF,zbE]at hf;obtain⟨a,h1,x,h2,h3⟩:=hf;cases h3;rw [xJ ins vs a h1];exact⟨h a x h2,he⟩
end K
end Ev
end
noncomputable section
namespace Ev
namespace KM
open Go Go.RowKit
set_option maxRecDepth 100000
set_option maxHeartbeats 1000000
theorem dD(x:Int):ci x=(rh IntKind.i64 x 63).bind fun(z:Int)=>some (z,IntKind.u64.wrap x):=by kernel_rfl
theorem yL(x:Int×Int)(y:Int×Int):ee x y=if x.fst=y.fst∧x.snd=y.snd then some 0
else if x.fst<y.fst then some (-1)else if x.fst=y.fst then if x.snd<y.snd then some (-1)else some 1 else some 1:=by kernel_rfl
theorem mJ(x:Int×Int)(y:Int×Int):cR x y=(ee y x).bind fun(out:Int)=>if out<0 then some y else some x:=by kernel_rfl
def qr(x:Int×Int)(y:Int×Int):Int→Int→Option (Int×Int):=fun(d d_1:Int)=>some (IntKind.i64.wrap (d+d_1),IntKind.u64.wrap (x.snd+y.snd))
theorem qt(x:Int×Int)(y:Int×Int):dC x y=if IntKind.u64.wrap (x.snd+y.snd)<x.snd then qr x y (IntKind.i64.wrap (x.fst+y.fst)) 1
else qr x y x.fst y.fst:=by kernel_rfl
theorem je(x:Bool):cz x=if x=true then(ci 1).bind fun(out:Int×Int)=>some out else some (0,0):=by kernel_rfl
theorem qu(x:Int)(y:Int×Int)(z:Int×Int):jd x y z=(if x=1 then some (Sum.inl true)else if x=3 then some (Sum.inl true)else some (Sum.inl (decide (x=4)))).bind fun(y_1:Bool ⊕ Empty)=>Sum.elim (fun(val:Bool)=>if val=true then(cR y z).bind fun(out:Int×Int)=>some out else if x=2 then if¬(y.fst=0∧y.snd=0)then(cz true).bind fun(out:Int×Int)=>some out else(cz (decide ¬(z.fst=0∧z.snd=0))).bind fun(out:Int×Int)=>some out else if x=5 then(dC y z).bind fun(out:Int×Int)=>some out else some (0,0)) (fun(val:Empty)=>nE val) y_1:=by kernel_rfl
theorem tD(x:Int):jV x=if x ≥ 1 then some (decide (x≤5))else some false:=by kernel_rfl
theorem sm(x:Int):fH x=if x ≥ 0 then some (decide (x≤4096))else some false:=by kernel_rfl
def ew(x:Int×Sl (Int×Int)):Int×Int→Option (Int×Int ⊕ PUnit ⊕ Bool ⊕ Empty):=fun(x_1:Int×Int)=>if x_1.snd<(↑x.snd.l.length:Int)then(atS 2 x.snd x_1.snd).bind fun(y:Int×Int)=>if y.fst≤x_1.fst then some (Sum.inr (Sum.inr (Sum.inl false)))else if y.fst ≥ x.fst then some (Sum.inr (Sum.inr (Sum.inl false)))else some (Sum.inl (y.fst,IntKind.i64.wrap (x_1.snd+1)))else some (Sum.inr (Sum.inl ()))
theorem qv(x:Int×Sl (Int×Int)):fU x=(fH x.fst).bind fun(out:Bool)=>if¬out=true then some false else(aM (ew x) (-1,0)).bind fun(y:PUnit ⊕ Bool ⊕ Empty)=>Sum.elim (fun(val:PUnit)=>some true) (fun(val:Bool ⊕ Empty)=>Sum.elim (fun(val:Bool)=>some val) (fun(val:Empty)=>nE val) val) y:=by kernel_rfl
def gR(x:Sl (Int×Int×Int)):Int→Option (Int ⊕ PUnit ⊕ Bool ⊕ Empty):=fun(x_1:Int)=>if x_1<(↑x.l.length:Int)then(atS 3 x x_1).bind fun(y:Int×Int×Int)=>(atS 3 x (IntKind.i64.wrap (x_1 - 1))).bind fun(y_1:Int×Int×Int)=>if y.fst≤y_1.fst then some (Sum.inr (Sum.inr (Sum.inl false)))else some (Sum.inl (IntKind.i64.wrap (x_1+1)))else some (Sum.inr (Sum.inl ()))
theorem CG(x:Sl (Int×Int×Int)):kL x=(aM (gR x) 1).bind fun(y:PUnit ⊕ Bool ⊕ Empty)=>Sum.elim (fun(val:PUnit)=>some true) (fun(val:Bool ⊕ Empty)=>Sum.elim (fun(val:Bool)=>some val) (fun(val:Empty)=>nE val) val) y:=by kernel_rfl
end KM
end Ev
end
noncomputable section
namespace Ev
namespace KM
open Go
def cH(n:Int):Prop:= -9223372036854775808≤n∧n≤9223372036854775807
def eY(n:Int):Prop:=0≤n∧n≤18446744073709551615
theorem FJ{n:Int}(h:inK .i64 n):cH n:=by simpa [inK,cH,Lit.wf,IntKind.min,IntKind.max,IntKind.signed,IntKind.bits]using h
theorem bY(n:Int):IntKind.u64.wrap n=n % 18446744073709551616:=by
 simp [IntKind.wrap,IntKind.signed,IntKind.bits]
theorem mK(n:Int):eY (IntKind.u64.wrap n):=by rw [bY];unfold eY;omega
theorem SG{n:Int}(h:eY n):IntKind.u64.wrap (IntKind.i64.wrap n)=n:=by rw [bY,IntKind.wrap_i64];unfold eY at h;omega
theorem Ix(n:Int):cH (IntKind.i64.wrap n):=by rw [IntKind.wrap_i64];unfold cH;omega
theorem SH{n:Int}(h:cH n):IntKind.i64.wrap n=n:=by rw [IntKind.wrap_i64];unfold cH at h;omega
def ofW(n:Int):Int×Int:=(if n<0 then -1 else 0,IntKind.u64.wrap n)
theorem FK(n:Int):eY (ofW n).2:=mK n
def kJ(a b:Int×Int):Bool:=decide (a.1<b.1)||(decide (a.1=b.1)&& decide (a.2<b.2))
def kM(a b:Int×Int):Int×Int:=if kJ b a=true then b else a
def jx(b:Bool):Int×Int:=if b=true then(0,1)else(0,0)
def sb(a b:Int×Int):Int×Int:=if IntKind.u64.wrap (a.2+b.2)<a.2 then(IntKind.i64.wrap (IntKind.i64.wrap (a.1+b.1)+1),IntKind.u64.wrap (a.2+b.2))else(IntKind.i64.wrap (a.1+b.1),IntKind.u64.wrap (a.2+b.2))
def fj(r:Int)(a b:Int×Int):Int×Int:=
 if r=1∨r=3∨r=4 then kM a b else if r=2 then jx (!(decide (a.1=0∧a.2=0)&& decide (b.1=0∧b.2=0)))else if r=5 then sb a b else(0,0)
def fQ(a:Int×Int):Int×Bool:=if a=ofW (IntKind.i64.wrap a.2)then(IntKind.i64.wrap a.2,true)else(0,false)
def lY(r:Int):Bool:=decide (1≤r)&& decide (r≤5)
theorem zT{r:Int}{a b:Int×Int}(ha:eY a.2)(hb:eY b.2):eY (fj r a b).2:=by
 have h0:eY 0:=by unfold eY;omega
 have h1:eY 1:=by unfold eY;omega
 unfold fj kM jx sb;split
 ·split<;>assumption
 ·split
  ·split<;>assumption
  ·split
   ·split<;>exact mK _
   ·exact h0
theorem Pu{n:Int}(h:cH n):ci n=some (ofW n):=by
 rw [dD];unfold rh ofW QD;rw [if_pos (by omega)];have e:(2:Int)^(min (63:Int).toNat IntKind.i64.bits)=9223372036854775808:=by decide
 rw [e];unfold cH at h
 have:n.fdiv 9223372036854775808=if n<0 then -1 else 0:=by
  rw [Int.fdiv_eq_ediv_of_nonneg _ (by omega)];split<;>omega
 rw [this];rfl
theorem lZ(a b:Int×Int):∃c,ee a b=some c∧(c<0↔kJ a b=true):=by
 obtain⟨a1,a2⟩:=a;obtain⟨b1,b2⟩:=b;rw [yL];unfold kJ;simp only;by_cases h1:a1=b1∧a2=b2
 ·rw [if_pos h1];exact⟨0,rfl,by simp;omega⟩
 rw [if_neg h1];by_cases h2:a1<b1
 ·rw [if_pos h2];exact⟨-1,rfl,by simp [h2]⟩
 rw [if_neg h2];by_cases h3:a1=b1
 ·rw [if_pos h3];by_cases h4:a2<b2
  ·rw [if_pos h4];exact⟨-1,rfl,by simp [h3,h4]⟩
  ·rw [if_neg h4];exact⟨1,rfl,by simp [h3];omega⟩
 ·rw [if_neg h3];exact⟨1,rfl,by simp [h3];omega⟩
theorem CH(a b:Int×Int):cR a b=some (kM a b):=by
 obtain⟨c,h1,h2⟩:=lZ b a;rw [mJ,h1];unfold kM;simp only [zbS];by_cases hc:c<0
 ·rw [if_pos hc,if_pos (h2.1 hc)]
 ·rw [if_neg hc,if_neg (fun h=>hc (h2.2 h))]
theorem FM(b:Bool):cz b=some (jx b):=by
 rw [je];unfold jx;cases b
 ·rfl
 ·simp only [if_true,Pu (show cH 1 by unfold cH;omega),zbS];rfl
theorem LC(a b:Int×Int):dC a b=some (sb a b):=by
 rw [qt];unfold sb qr;split
 ·rfl
 ·obtain⟨a1,a2⟩:=a;obtain⟨b1,b2⟩:=b;rfl
theorem zU(r:Int)(a b:Int×Int):jd r a b=some (fj r a b):=by
 rw [qu];unfold fj;simp only [CH,FM,LC,zbS];by_cases h1:r=1
 ·simp [h1]
 by_cases h3:r=3
 ·simp [h3]
 by_cases h4:r=4
 ·simp [h4]
 simp only [if_neg h1,if_neg h3,if_neg (show¬(r=1∨r=3∨r=4)by omega),decide_eq_false h4,zbS,Sum.elim_inl,Bool.false_eq_true,if_false];by_cases h2:r=2
 ·simp only [if_pos h2];by_cases ha:a.1=0∧a.2=0
  ·by_cases hb:b.1=0∧b.2=0
   ·simp [ha,hb]
   ·simp [ha,hb]
  ·simp [ha]
 ·simp only [if_neg h2];split<;>rfl
theorem Pv(r:Int):jV r=some (lY r):=by
 rw [tD];unfold lY;by_cases h1:r ≥ 1
 ·rw [if_pos h1,decide_eq_true (show 1≤r from h1)];simp
 ·rw [if_neg h1,decide_eq_false (show¬1≤r from h1)];rfl
end KM
end Ev
end
noncomputable section
open Go.RowKit Go.Sort
def Has(w:World)(b:Nat):Prop:=b<w.heap.size
def ad8(w:World)(os:Array Obj)(b:Nat):Prop:=w.heap.size≤b∧b<w.heap.size+os.size
theorem Has.of{w:World}{b:Nat}(h:b<w.heap.size):Has w b:=h
@[go_sem] theorem abu (w:World) (o:Obj) (b:Nat):Has (w.alloc o) b=(b=w.heap.size∨Has w b):=by
 unfold Has;simp;omega
@[go_sem] theorem ad9 (w:World) (d:Nat) (os:Array Obj) (b:Nat):Has (grow (redrawn w d) os) b=(Has w b∨ad8 w os b):=by
 unfold Has ad8;simp [grow,redrawn];omega
@[go_sem] theorem Yz (w:World) (a:Addr) (v:Value) (b:Nat):Has (w.setCell a v) b=Has w b:=by
 unfold Has;simp [World.setCell]
@[go_sem] theorem ada (w:World) (b:Nat):Has w.drew b=Has w b:=rfl
@[go_sem] theorem ae4 {w:World} {d:Nat} {os:Array Obj} {a:Addr} (h:Has w a.block):(grow (redrawn w d) os).cell? a=w.cell? a:=
 (below_regrown w d os).cell h
@[go_sem] theorem abv {w:World} {d:Nat} {os:Array Obj} {a:Addr} (h:Has w a.block):(grow (redrawn w d) os).frozen? a=w.frozen? a:=
 (below_regrown w d os).frozen h
@[go_sem] theorem ae5 {w:World} {o:Obj} {a:Addr} (h:Has w a.block):(w.alloc o).cell? a=w.cell? a:=
 ((Below.refl w.heap.size w).alloc (Nat.le_refl _) o).cell h
@[go_sem] theorem abw {w:World} {o:Obj} {a:Addr} (h:Has w a.block):(w.alloc o).frozen? a=w.frozen? a:=
 ((Below.refl w.heap.size w).alloc (Nat.le_refl _) o).frozen h
@[go_sem] theorem aao {w:World} {o:Obj} {a:Addr} {v:Value} (h:Has w a.block):(w.alloc o).setCell a v=(w.setCell a v).alloc o:=by
 unfold Has at h;simp only [World.setCell,World.alloc];congr 1;apply Array.ext_getElem?;intro k;simp only [Array.getElem?_modify,Array.getElem?_push,Array.size_modify];by_cases hk:k=w.heap.size
 ·subst hk;simp;omega
 ·simp [hk]
@[go_sem] theorem aes {α:Type} (p:Prop) [Decidable p] (x y:α) (w:World):(if p then Result.ok x w else Result.ok y w)=Result.ok (if p then x else y) w:=by
 split<;>rfl
@[go_sem] theorem abx (p:Prop) [Decidable p] (x y:Value):(if p then Next.value x else Next.value y)=Next.value (if p then x else y):=by
 split<;>rfl
@[go_sem] theorem afs (w:World) (d d2:Nat) (os os2:Array Obj):grow (redrawn (grow (redrawn w d) os) d2) os2=grow (redrawn w d2) (os++os2):=by
 simp [grow,redrawn,Array.append_assoc]
@[go_sem] theorem ae6 (w:World) (d:Nat) (os:Array Obj):(grow (redrawn w d) os).heap.size=w.heap.size+os.size:=by simp [grow,redrawn]
@[go_sem] theorem aap {w:World} {d:Nat} {os:Array Obj} {a:Addr} {v:Value} (h:Has w a.block):(grow (redrawn w d) os).setCell a v=grow (redrawn (w.setCell a v) d) os:=by
 unfold Has at h;simp only [grow,redrawn,World.setCell];congr 1;apply Array.ext_getElem?;intro k;rw [Array.getElem?_modify];by_cases hk:k<w.heap.size
 ·rw [Array.getElem?_append_left hk,Array.getElem?_append_left (by simpa using hk),Array.getElem?_modify]
 ·rw [if_neg (by omega),Array.getElem?_append_right (by omega),Array.getElem?_append_right (by simpa using by omega)];simp
@[go_sem] theorem Wn (w:World) (d:Nat):(redrawn w d).heap=w.heap:=rfl
theorem bla{w w1:World}(h:Below w.heap.size w w1)(o:Obj):Below w.heap.size w (w1.alloc o):=h.alloc h.size o
theorem bls{w w1:World}(h:Below w.heap.size w w1){p:Addr}(hp:w.heap.size≤p.block)(v:Value):Below w.heap.size w (w1.setCell p v):=h.setCell hp v
theorem bld{w w1:World}(h:Below w.heap.size w w1):Below w.heap.size w w1.drew:=h.drew
@[go_sem] theorem aet:IntKind.u64.signed=false:=rfl
@[go_sem] theorem aeu:IntKind.i64.signed=true:=rfl
@[go_sem] theorem aft:IntKind.u8.signed=false:=rfl
@[go_sem] theorem aev:IntKind.u32.signed=false:=rfl
end
noncomputable section
open Go Go.RowKit Go.Sort
section
variable {P : Program} {ops : Array Oper} {md : Region.Mode} {C : World → Prop}
end
end
noncomputable section
open Go Go.RowKit Go.Sort
section
variable {P : Program} {ops : Array Oper} {md : Region.Mode} {W : World}
def aew(w w':World):Prop:=Below w.heap.size w w'
def Iy(P:Program)(w:World)(v:Value):Result Next→Prop
 | .ok (.value u) w'=>w'=w∧u=v
 | .ok .skip w'=>w'=w∧v=undef
 | .ok (.enter f args) w'=>w'=w∧Calls P f args w (fun e w''=>e= .returned v∧aew w w'')
 |_=>False
def SI(P:Program)(o:Oper)(a:Act)(w:World)(v:Value):Prop:=Iy P w v ((execOp a.eval o).run P w)
def aex(P:Program)(o:Oper)(a:Act)(W:World)(next:Act→Prop):Prop:=∃v,(∀p:Regrown,SI P o a (grow (redrawn W p.d) p.os) v)∧next (a.put o.dst v)
attribute [go_sem] Iy SI aex
def Lz(ops:Array Oper)(ok:Oper)(n k:Nat):Bool:=(List.range n).all fun j=>j==k||(match ops[j]? with|some oj=>ok.apart ops oj|none=>true)
end
end
noncomputable section
open Go Go.RowKit Go.Sort
section
variable {P : Program} {ops : Array Oper} {md : Region.Mode} {W : World}
def cnt(n k:Nat)(s:Array Bool):Nat:=((List.range n).filter fun j=>j !=k && !s.getD j true).length
theorem zV{n k:Nat}{s:Array Bool}(h:cnt n k s=0){j:Nat}(hj:j<n)(hjk:j≠k):s.getD j true=true:=by
 have h2:=List.length_eq_zero_iff.1 h;rw [List.filter_eq_nil_iff]at h2
 have:=h2 j (List.mem_range.2 hj)
 simpa [hjk]using this
end
end
noncomputable section
open Go.RowKit Go.Sort
def CellsAt(W:World)(B:Nat)(t:TypeId)(cs:Array Value):Prop:=W.heap[B]? =some (.cells cs t (0,0))
theorem CellsAt.lt{W:World}{B:Nat}{t:TypeId}{cs:Array Value}(h:CellsAt W B t cs):B<W.heap.size:=(Array.getElem?_eq_some_iff.1 h).1
theorem CellsAt.cell{W:World}{B:Nat}{t:TypeId}{cs:Array Value}(h:CellsAt W B t cs)(i:Nat):W.cell? ⟨B,i,none⟩=cs[i]? :=by
 simp [World.cell?,show W.heap[B]? =_ from h]
theorem CellsAt.frozen{W:World}{B:Nat}{t:TypeId}{cs:Array Value}(h:CellsAt W B t cs)(i:Nat):W.frozen? ⟨B,i,none⟩=false:=by simp [World.frozen?,show W.heap[B]? =_ from h]
theorem CellsAt.set{W:World}{B:Nat}{t:TypeId}{cs:Array Value}(h:CellsAt W B t cs)(i:Nat)(v:Value):CellsAt (W.setCell ⟨B,i,none⟩ v) B t (cs.setIfInBounds i v):=by
 obtain⟨hlt,hk⟩:=Array.getElem?_eq_some_iff.1 h;show(W.heap.modify B _)[B]? =_;rw [Array.getElem?_eq_getElem (by rw [Array.size_modify];exact hlt),Array.getElem_modify_self,hk];rfl
theorem CellsAt.kept{W W':World}{B:Nat}{t:TypeId}{cs:Array Value}(h:CellsAt W B t cs)(hb:W'.heap[B]? =W.heap[B]?):CellsAt W' B t cs:=hb.trans h
theorem CellsAt.below{W W':World}{B:Nat}{t:TypeId}{cs:Array Value}(h:CellsAt W B t cs)(hb:Below W.heap.size W W'):CellsAt W' B t cs:=h.kept (hb.block B h.lt)
theorem CellsAt.grown{W W':World}{B:Nat}{t:TypeId}{cs:Array Value}{row:Option Nat}(h:CellsAt W B t cs)(hg:W.grownBy W' row)(hne:some B≠row):CellsAt W' B t cs:=h.kept (hg.block B h.lt hne)
@[go_sem] theorem uC (b:Addr) (k:Nat):(b.add k).block=b.block:=by unfold Addr.add;split<;>rfl
theorem iz{w w':World}(h:Below w.heap.size w w')(row:Option Nat):w.grownBy w' row:=⟨h.os,h.tape,h.output,h.size,fun k hk _=>h.block k hk⟩
theorem cj(W:World)(b i:Nat)(v:Value):W.grownBy (W.setCell ⟨b,i,none⟩ v) (some b):=
 ⟨rfl,rfl,rfl,(KeepsWalks.setCell W _ v).size,fun k _ hk=>Below.heap_setCell _ _ _ k (fun e=>hk (by rw [e]))⟩
end
noncomputable section
namespace Hp
def lt(a b:Int×Int):Bool:=decide (a.1<b.1∨a.1=b.1∧a.2<b.2)
def le(a b:Int×Int):Prop:=lt b a=false
theorem le_iff{a b:Int×Int}:le a b↔a.1<b.1∨a.1=b.1∧a.2≤b.2:=by
 unfold le lt;rw [decide_eq_false_iff_not];omega
theorem aaq{a b:Int×Int}:lt a b=true↔a.1<b.1∨a.1=b.1∧a.2<b.2:=by unfold lt;rw [decide_eq_true_eq]
theorem le_refl(a:Int×Int):le a a:=le_iff.2 (.inr ⟨rfl,Int.le_refl _⟩)
theorem le_trans{a b c:Int×Int}(h1:le a b)(h2:le b c):le a c:=by
 rw [le_iff]at*;omega
theorem le_of_lt{a b:Int×Int}(h:lt a b=true):le a b:=by
 rw [aaq]at h;rw [le_iff];omega
theorem wy{a b:Int×Int}(h:lt a b=false):le b a:=h
def par(k:Nat):Nat:=(k - 1)/ 2
theorem mL{k:Nat}(h:0<k):par k<k:=by unfold par;omega
theorem FN{k i:Nat}(h:0<k):par k=i↔k=2*i+1∨k=2*i+2:=by unfold par;omega
section
variable {α : Type} {key : α → Int × Int}
def swp(f:Nat→α)(i j:Nat):Nat→α:=fun k=>if k=i then f j else if k=j then f i else f k
def Heap(key:α→Int×Int)(n:Nat)(f:Nat→α):Prop:=∀k,0<k→k<n→le (key (f (par k))) (key (f k))
structure Up(key:α→Int×Int)(n:Nat)(f:Nat→α)(j:Nat):Prop where
 a:∀k,0<k→k<n→k≠j→le (key (f (par k))) (key (f k))
 b:∀k,0<k→k<n→par k=j→0<j→le (key (f (par j))) (key (f k))
theorem Up.step{n:Nat}{f:Nat→α}{j:Nat}(h:Up key n f j)(h0:0<j)(hn:j<n)(hl:lt (key (f j)) (key (f (par j)))=true):Up key n (swp f (par j) j) (par j):=by
 have hi:=mL h0;refine⟨fun k k0 kn ki=> ?_,fun k k0 kn kp i0=> ?_⟩
 ·unfold swp;by_cases hk:k=j
  ·subst hk;rw [if_pos rfl,if_neg (by omega),if_pos rfl];exact le_of_lt hl
  ·rw [if_neg ki,if_neg hk];by_cases p1:par k=par j
   ·rw [if_pos p1]
    have:=h.a k k0 kn hk
    rw [p1]at this;exact le_trans (le_of_lt hl) this
   ·rw [if_neg p1];by_cases p2:par k=j
    ·rw [if_pos p2];exact h.b k k0 kn p2 h0
    ·rw [if_neg p2];exact h.a k k0 kn hk
 ·have hpi:=mL i0;have hkk:=mL k0;have hii:=h.a (par j) i0 (by omega) (by omega);unfold swp;rw [if_neg (by omega),if_neg (by omega),if_neg (by omega)];by_cases hk:k=j
  ·rw [if_pos hk];exact hii
  ·rw [if_neg hk]
   have:=h.a k k0 kn hk
   rw [kp]at this;exact le_trans hii this
theorem Up.done{n:Nat}{f:Nat→α}{j:Nat}(h:Up key n f j)(hj:j=0∨lt (key (f j)) (key (f (par j)))=false):Heap key n f:=fun k k0 kn=>by
 by_cases hk:k=j
 ·subst hk;rcases hj with hj|hj
  ·omega
  ·exact hj
 ·exact h.a k k0 kn hk
theorem Heap.up{n:Nat}{f:Nat→α}(h:Heap key n f):Up key (n+1) f n:=
 ⟨fun k k0 kn kj=>h k k0 (by omega),fun k k0 kn kp j0=>by have:=mL k0;omega⟩
structure Down(key:α→Int×Int)(n:Nat)(f:Nat→α)(i:Nat):Prop where
 a:∀k,0<k→k<n→par k≠i→le (key (f (par k))) (key (f k))
 b:∀k,0<k→k<n→par k=i→0<i→le (key (f (par i))) (key (f k))
theorem Down.step{n:Nat}{f:Nat→α}{i j:Nat}(h:Down key n f i)(j0:0<j)(hn:j<n)(hp:par j=i)(hm:∀k,0<k→k<n→par k=i→le (key (f j)) (key (f k)))(hl:lt (key (f j)) (key (f i))=true):Down key n (swp f i j) j:=by
 have hi:=mL j0;refine⟨fun k k0 kn kp=> ?_,fun k k0 kn kp _=> ?_⟩
 ·have hkk:=mL k0;unfold swp;by_cases hk:k=j
  ·subst hk;rw [if_pos hp,if_neg (by omega),if_pos rfl];exact le_of_lt hl
  ·by_cases p1:par k=i
   ·rw [if_pos p1,if_neg (by omega),if_neg hk];exact hm k k0 kn p1
   ·rw [if_neg p1,if_neg kp];by_cases ki:k=i
    ·subst ki;rw [if_pos rfl];exact h.b j j0 hn hp k0
    ·rw [if_neg ki,if_neg hk];exact h.a k k0 kn p1
 ·have hkk:=mL k0;unfold swp;rw [if_pos hp,if_neg (by omega),if_neg (by omega)]
  have:=h.a k k0 kn (by omega)
  rw [kp]at this;exact this
theorem Down.done{n:Nat}{f:Nat→α}{i:Nat}(h:Down key n f i)(hj:∀k,0<k→k<n→par k=i→le (key (f i)) (key (f k))):Heap key n f:=fun k k0 kn=>by
 by_cases hk:par k=i
 ·rw [hk];exact hj k k0 kn hk
 ·exact h.a k k0 kn hk
theorem Heap.down{n m:Nat}{f:Nat→α}(h:Heap key (n+1) f)(hm:m=n):Down key n (swp f 0 m) 0:=by
 subst hm;refine⟨fun k k0 kn kp=> ?_,fun k k0 kn kp i0=>by omega⟩;have hkk:=mL k0;unfold swp;rw [if_neg kp,if_neg (by omega),if_neg (by omega),if_neg (by omega)];exact h k k0 (by omega)
theorem Heap.root{n:Nat}{f:Nat→α}(h:Heap key n f):∀k,k<n→le (key (f 0)) (key (f k)):=by
 intro k
 induction k using Nat.strongRecOn with
 |ind k ih=>
  intro hk;by_cases k0:k=0
  ·rw [k0];exact le_refl _
  ·have hp:=mL (show 0<k by omega);exact le_trans (ih _ hp (by omega)) (h k (by omega) hk)
end
section
variable {α : Type} [Inhabited α]
def at_(l:List α)(k:Nat):α:=l.getD k default
theorem at_lt{l:List α}{k:Nat}(h:k<l.length):at_ l k=l[k]:=by simp [at_,List.getD_eq_getElem?_getD,h]
def sd(l:List α)(i j:Nat):List α:=(l.set i (at_ l j)).set j (at_ l i)
theorem oc(l:List α)(i j:Nat):(sd l i j).length=l.length:=by unfold sd;rw [List.length_set,List.length_set]
theorem SJ{l:List α}{i k:Nat}{x:α}(hi:i<l.length):at_ (l.set i x) k=if k=i then x else at_ l k:=by
 unfold at_;rw [List.getD_eq_getElem?_getD,List.getElem?_set,List.getD_eq_getElem?_getD];by_cases h:i=k
 ·subst h;rw [if_pos rfl,if_pos rfl,if_pos hi];rfl
 ·rw [if_neg h,if_neg (Ne.symm h)]
theorem mw{l:List α}{i j:Nat}(hi:i<l.length)(hj:j<l.length):at_ (sd l i j)=swp (at_ l) i j:=by
 funext k;unfold sd swp;rw [SJ (by rw [List.length_set];exact hj),SJ hi];by_cases h1:k=i
 ·by_cases h2:k=j
  ·rw [if_pos h2,if_pos h1,←h1,h2]
  ·rw [if_neg h2,if_pos h1,if_pos h1]
 ·by_cases h2:k=j
  ·rw [if_pos h2,if_neg h1,if_pos h2]
  ·rw [if_neg h2,if_neg h1,if_neg h1,if_neg h2]
theorem od{l:List α}{i j:Nat}(hi:i<l.length)(hj:j<l.length):(sd l i j).Perm l:=by
 unfold sd;rw [at_lt hi,at_lt hj];exact List.set_set_perm hi hj
theorem DU{l m:List α}{k:Nat}(h:k<l.length):at_ (l++m) k=at_ l k:=by
 unfold at_;rw [List.getD_eq_getElem?_getD,List.getD_eq_getElem?_getD,List.getElem?_append_left h]
theorem Pw{l:List α}{x:α}:at_ (l++ [x]) l.length=x:=by
 unfold at_;rw [List.getD_eq_getElem?_getD];simp
end
theorem Heap.congr{α:Type}{key:α→Int×Int}{n:Nat}{f g:Nat→α}(h:Heap key n f)(e:∀k,k<n→f k=g k):Heap key n g:=fun k k0 kn=>by
 have hp:=mL k0;rw [←e k kn,←e (par k) (by omega)];exact h k k0 kn
end Hp
end
noncomputable section
open Go.RowKit Go.Lib
namespace Hp
abbrev Sm3:=Int×Int×Int
structure Hd where
 k:Int
 a:Option Addr
 c:Nat
 l:List Sm3
instance:Inhabited Hd:=⟨⟨0,none,0,[]⟩⟩
def Hd.key(h:Hd):Int×Int:=((h.l.headD (0,0,0)).1,h.k)
@[go_sem] abbrev HV (h:Hd):Value:= .agg #[.int .i64 h.k,.slice h.a h.l.length h.c]
def enc(h:Hd):List Value:= [.int .i64 h.k,.slice h.a h.l.length h.c]
def ez(l:List Hd):List Value:=l.flatMap enc
theorem jD(h:Hd)(l:List Hd):ez (h::l)=enc h++ez l:=rfl
theorem zW(l m:List Hd):ez (l++m)=ez l++ez m:=by simp [ez]
theorem tE(l:List Hd):(ez l).length=l.length*2:=by
 induction l with
 |nil=>rfl
 |cons h l ih=>rw [jD,List.length_append,ih];simp [enc];omega
theorem zX:∀(l:List Hd) (i:Nat),i<l.length→(ez l)[i*2]? =some (.int .i64 (at_ l i).k)
 | [],i,h=>by simp at h
 |x::l,0,h=>rfl
 |x::l,i+1,h=>by
  rw [jD,List.getElem?_append_right (by simp [enc];omega)]
  have:=zX l i (by simpa using h)
  rw [show(i+1)*2 - (enc x).length=i*2 by simp [enc];omega,this];rfl
theorem zY:∀(l:List Hd) (i:Nat),i<l.length→(ez l)[i*2+1]? =some (.slice (at_ l i).a (at_ l i).l.length (at_ l i).c)
 | [],i,h=>by simp at h
 |x::l,0,h=>rfl
 |x::l,i+1,h=>by
  rw [jD,List.getElem?_append_right (by simp [enc];omega)]
  have:=zY l i (by simpa using h)
  rw [show(i+1)*2+1 - (enc x).length=i*2+1 by simp [enc];omega,this];rfl
def RdS(w:World)(base:Nat)(a:Option Addr)(l:List Sm3):Prop:=∀i,(h:i<l.length)→∃b,a=some b∧b.block<base∧w.cell? (b.add (i*3))=some (.int .i64 l[i].1)∧w.cell? (b.add (i*3+1))=some (.int .i64 l[i].2.1)∧w.cell? (b.add (i*3+2))=some (.int .u64 l[i].2.2)
theorem RdS.below{w w':World}{base:Nat}{a:Option Addr}{l:List Sm3}(h:RdS w base a l)(hs:base≤w.heap.size)(hb:Below base w w'):RdS w' base a l:=by
 intro i hi;obtain⟨b,e,hl,h0,h1,h2⟩:=h i hi;exact⟨b,e,hl,(hb.cell (by rw [uC];exact hl)).trans h0,(hb.cell (by rw [uC];exact hl)).trans h1,(hb.cell (by rw [uC];exact hl)).trans h2⟩
def Good(w:World)(base:Nat)(hs:List Hd):Prop:=∀h∈hs,h.l≠[]∧RdS w base h.a h.l
theorem Good.below{w w':World}{base:Nat}{hs:List Hd}(h:Good w base hs)(hz:base≤w.heap.size)(hb:Below base w w'):Good w' base hs:=fun x hx=>⟨(h x hx).1,(h x hx).2.below hz hb⟩
def RdH(w:World)(a:Option Addr)(hs:List Hd):Prop:=∀i,i<hs.length→∃b,a=some b∧b.block<w.heap.size∧w.cell? (b.add (i*2))=some (.int .i64 (at_ hs i).k)∧w.cell? ⟨b.block,(b.add (i*2)).off+1,none⟩=some (.slice (at_ hs i).a (at_ hs i).l.length (at_ hs i).c)
theorem Iz(a:Addr)(k:Nat):a.add (k+1)=⟨a.block,(a.add k).off+1,none⟩:=by
 unfold Addr.add;by_cases h:k=0
 ·subst h;simp
 ·simp [h];omega
theorem FO{w:World}{base:Nat}{a:Option Addr}{n c:Nat}{hs:List Hd}(h:w.ownsRow base 97 2 (.slice a n c) n (ez hs))(hn:n=hs.length):RdH w a hs:=by
 intro i hi;rcases h.2 with⟨e,h0⟩|⟨g,cap,cur,e,hbg,hg,hnc,hcm,hcs,htake⟩
 ·omega
 ·cases e;have hl:=h.lt g rfl;have h0:=h.cells (g:=g) rfl (i*2) _ (zX hs i hi);have h1:=h.cells (g:=g) rfl (i*2+1) _ (zY hs i hi);refine⟨⟨g,0,none⟩,rfl,hl.2,h0,?_⟩;rw [Iz]at h1;exact h1
set_option maxRecDepth 100000 in
theorem rD(a:Option Addr)(n c:Nat)(w:World):Calls Try.prog 34 #[.slice a n c] w fun e w'=>e= .returned (.int .i64 n)∧w'=w:=by
 go_enter Try.func34,Try.ntmps34
 go_wp2
 go_ret
 exact⟨rfl,rfl⟩
theorem bld{b:Nat}{w W:World}{n:Nat}(h:Below b w W):Below b w (W.drewN n):=⟨h.1,h.2,h.3,h.4,h.5⟩
theorem aar{b:Nat}{w W:World}(h:Below b w W):Below b w W.drew:=⟨h.1,h.2,h.3,h.4,h.5⟩
theorem adb{a b c d:Int}(h:a≠b):lt (a,c) (b,d)=decide (a<b):=by
 unfold lt;simp only;congr 1;exact propext (by omega)
theorem adc{a b c d:Int}(h:a=b):lt (a,c) (b,d)=decide (c<d):=by
 unfold lt;simp only;congr 1;exact propext (by omega)
set_option maxRecDepth 100000 in
set_option maxHeartbeats 1000000 in
theorem LE(a:Option Addr)(c:Nat)(hs:List Hd)(i k base:Nat)(w:World)(hr:RdH w a hs)(hg:Good w base hs)(hz:base≤w.heap.size)(hi:i<hs.length)(hk:k<hs.length)(hl:hs.length≤100000):
  Calls Try.prog 123 #[.slice a hs.length c,.int .i64 i,.int .i64 k] w fun e w'=>e= .returned (.bool (lt (at_ hs i).key (at_ hs k).key))∧Below w.heap.size w w':=by
 obtain⟨b,rfl,hb,i0,i1⟩:=hr i hi;obtain⟨b',e',hb',k0,k1⟩:=hr k hk;cases e';have hi':((i:Nat):Int)<hs.length:=by omega
 have hk':((k:Nat):Int)<hs.length:=by omega
 have mi:at_ hs i∈hs:=by rw [at_lt hi];exact List.getElem_mem hi
 have mk:at_ hs k∈hs:=by rw [at_lt hk];exact List.getElem_mem hk
 obtain⟨ni,ri⟩:=hg _ mi;obtain⟨nk,rk⟩:=hg _ mk;clear hg mi mk hr;generalize at_ hs i=H at i0 i1 ni ri ⊢;generalize at_ hs k=G at k0 k1 nk rk ⊢;obtain⟨hk1,ha,hc,hl1⟩:=H;obtain⟨gk1,ga,gc,gl1⟩:=G;simp only at i0 i1 k0 k1 ni nk ri rk ⊢
 cases hl1 with
 |nil=>exact absurd rfl ni
 |cons x xs=>
 cases gl1 with
 |nil=>exact absurd rfl nk
 |cons y ys=>
 obtain⟨bx,rfl,lx,x0,_⟩:=ri 0 (by simp);obtain⟨by',rfl,ly,y0,_⟩:=rk 0 (by simp);have x0:w.cell? bx=some (.int .i64 x.1):=by simpa [Addr.add]using x0
 have y0:w.cell? by'=some (.int .i64 y.1):=by simpa [Addr.add]using y0
 have hx:=Has.of (show bx.block<w.heap.size by omega);have hy:=Has.of (show by'.block<w.heap.size by omega);have hK:∀(p q:Int),Hd.key ⟨p,some bx,hc,x::xs⟩=(x.1,p):=fun _ _=>rfl;clear ri rk ni nk
 go_enter Try.func123,Try.ntmps123
 go_wp2
 go_region
 all_goals go_wp2
 all_goals go_quiet (fail)
 all_goals go_wp2
 all_goals first
  |(go_quiet (fail)
    go_wp2
    go_ret
    refine⟨?_,?_⟩)
  |(go_ret
    refine⟨?_,?_⟩)
 all_goals first
  |exact bld (bld (aar (bla (bla (Below.refl _ _) _) _)))
  |exact bld (bla (bla (Below.refl _ _) _) _)
  |(have h:=‹(x.fst !=y.fst)=true›
    show Ending.returned (.bool (decide (x.fst<y.fst)))=Ending.returned (.bool (lt (x.1,hk1) (y.1,gk1)))
    rw [adb (by simpa using h)])
  |(have h:=‹(x.fst !=y.fst)=false›
    show Ending.returned (.bool (decide (hk1<gk1)))=Ending.returned (.bool (lt (x.1,hk1) (y.1,gk1)))
    rw [adc (by simpa using h)])
end Hp
end
noncomputable section
open Go.RowKit Go.Lib
namespace Hp
theorem DW(g i:Nat):((⟨g,0,none⟩:Addr).add i)=⟨g,i,none⟩:=by
 unfold Addr.add;by_cases h:i=0
 ·subst h;simp
 ·simp [h]
theorem zZ:∀(l:List Hd) (i:Nat) (x:Hd),((ez l).set (i*2) (.int .i64 x.k)).set (i*2+1) (.slice x.a x.l.length x.c)=ez (l.set i x)
 | [],i,x=>by simp [ez]
 |y::l,0,x=>rfl
 |y::l,i+1,x=>by
  have ih:=zZ l i x;rw [List.set_cons_succ,jD,jD,←ih,show(i+1)*2=i*2+2 by omega];rfl
theorem DX{cur:Array Value}{hs:List Hd}{n:Nat}(h:cur.toList.take (n*2)=ez hs)(i:Nat)(x:Hd):((cur.setIfInBounds (i*2) (.int .i64 x.k)).setIfInBounds (i*2+1) (.slice x.a x.l.length x.c)).toList.take (n*2)=ez (hs.set i x):=by
 rw [Array.toList_setIfInBounds,Array.toList_setIfInBounds,List.take_set,List.take_set,h,zZ]
set_option maxRecDepth 100000 in
set_option maxHeartbeats 1000000 in
theorem LF(base g n c:Nat)(hs:List Hd)(i k:Nat)(w:World)(hown:w.ownsRow base 97 2 (.slice (some ⟨g,0,none⟩) n c) n (ez hs))(hn:n=hs.length)(hi:i<n)(hk:k<n)(hl:n≤100000):
  Calls Try.prog 126 #[.slice (some ⟨g,0,none⟩) n c,.int .i64 i,.int .i64 k] w fun e w'=>e= .returned (.tuple #[])∧w'.ownsRow base 97 2 (.slice (some ⟨g,0,none⟩) n c) n (ez (sd hs i k))∧w.grownBy w' (some g):=by
 have hr:=FO hown hn;rcases hown.2 with⟨e,h0⟩|⟨g',cap,cur,e,hbg,hg,hnc,hcm,hcs,htake⟩
 ·omega
 cases e;obtain⟨b,e,hb,i0,i1⟩:=hr i (by omega);cases e;obtain⟨b',e',hb',k0,k1⟩:=hr k (by omega);cases e';have hC:CellsAt w g 97 cur:=hg;have hi':((i:Nat):Int)<n:=by omega
 have hk':((k:Nat):Int)<n:=by omega
 rw [DW]at i0 i1 k0 k1;have f0:=hC.frozen (i*2);have f1:=hC.frozen (i*2+1);have f2:=hC.frozen (k*2);have f3:=hC.frozen (k*2+1);have hC1:=(hC.set (i*2) (.int .i64 (at_ hs k).k)).set (i*2+1) (.slice (at_ hs k).a (at_ hs k).l.length (at_ hs k).c)
 have hz:∀j,j<cur.size→∃u,((w.setCell ⟨g,i*2,none⟩ (.int .i64 (at_ hs k).k)).setCell ⟨g,i*2+1,none⟩ (.slice (at_ hs k).a (at_ hs k).l.length (at_ hs k).c)).cell? ⟨g,j,none⟩=some u:=fun j hj=>by
  rw [hC1.cell];exact⟨_,Array.getElem?_eq_getElem (by rw [Array.size_setIfInBounds,Array.size_setIfInBounds];exact hj)⟩
 obtain⟨u0,z0⟩:=hz (k*2) (by omega);obtain⟨u1,z1⟩:=hz (k*2+1) (by omega);have h0:=hC1.frozen (k*2);have h1:=hC1.frozen (k*2+1);clear hz;clear hr
 go_enter Try.func126,Try.ntmps126
 go_wp2
 go_region
 go_wp2
 go_end0
 refine⟨rfl,⟨by rw [tE,oc,hn],.inr ⟨g,c,_,rfl,hbg,((hC1.set (k*2) (.int .i64 (at_ hs i).k)).set (k*2+1) (.slice (at_ hs i).a (at_ hs i).l.length (at_ hs i).c)),hnc,hcm,by simp only [Array.size_setIfInBounds];exact hcs,?_⟩⟩,?_⟩
 ·exact DX (DX htake i (at_ hs k)) k (at_ hs i)
 ·have hG:=(((cj w g (i*2) (.int .i64 (at_ hs k).k)).trans (cj _ g (i*2+1) (.slice (at_ hs k).a (at_ hs k).l.length (at_ hs k).c))).trans (cj _ g (k*2) (.int .i64 (at_ hs i).k))).trans (cj _ g (k*2+1) (.slice (at_ hs i).a (at_ hs i).l.length (at_ hs i).c));exact⟨hG.1,hG.2,hG.3,hG.4,hG.5⟩
end Hp
end
noncomputable section
open Go.RowKit Go.Lib Go.Sort
namespace Hp
theorem ade:(Try.prog.info? 97).map (fun i=>(i.zero,i.size,i.bytes))=some (some (.agg #[.int .i64 0,.slice none 0 0]),2,32):=by kernel_rfl
theorem xK{P:Program}{e:TypeId}{z:Value}{s b:Nat}(h:(P.info? e).map (fun i=>(i.zero,i.size,i.bytes))=some (some z,s,b)):∃i,P.info? e=some i∧i.zero=some z∧i.size=s∧i.bytes=b:=by
 obtain⟨i,hi,he⟩:=Option.map_eq_some_iff.1 h;simp at he;exact⟨i,hi,he.1,he.2.1,he.2.2⟩
theorem LG(l:List Hd):∀u∈ez l,u.oneCell'=true:=by
 induction l with
 |nil=>intro u hu;simp [ez]at hu
 |cons h l ih=>
  intro u hu;rw [jD]at hu;rcases List.mem_append.1 hu with hu|hu
  ·simp only [enc,List.mem_cons,List.not_mem_nil,or_false]at hu;rcases hu with rfl|rfl<;>rfl
  ·exact ih u hu
theorem wz{w:World}{base n:Nat}{e:TypeId}{s:Nat}{v:Value}{xs:List Value}(h:w.ownsRow base e s v n xs):∃a c,v= .slice a n c∧(a=none→n=0∧c=0):=by
 rcases h.2 with⟨e,h0⟩|⟨g,cap,cur,e,_⟩
 ·subst h0;exact⟨none,0,e,fun _=>⟨rfl,rfl⟩⟩
 ·exact⟨some ⟨g,0,none⟩,cap,e,fun h=>by cases h⟩
structure OkF(F:Nat→Prop)(base:Nat)(w:World):Prop where
 lo:∀k,k<base→F k
 hi:∀k,F k→k<w.heap.size
theorem OkF.le{F:Nat→Prop}{base:Nat}{w:World}(h:OkF F base w):base≤w.heap.size:=by
 rcases Nat.eq_zero_or_pos base with e|e
 ·omega
 ·have:=h.hi _ (h.lo (base - 1) (by omega));omega
def Kp(F:Nat→Prop)(w w':World):Prop:=Below 0 w w'∧∀k,F k→k<w.heap.size→w'.heap[k]? =w.heap[k]?
theorem Kp.refl(F:Nat→Prop)(w:World):Kp F w w:=⟨Below.refl _ _,fun _ _ _=>rfl⟩
theorem Kp.size{F:Nat→Prop}{w w':World}(h:Kp F w w'):w.heap.size≤w'.heap.size:=h.1.size
theorem Kp.trans{F:Nat→Prop}{w w' w2:World}(h:Kp F w w')(h2:Kp F w' w2):Kp F w w2:=⟨h.1.trans h2.1,fun k hf hk=>(h2.2 k hf (Nat.lt_of_lt_of_le hk h.size)).trans (h.2 k hf hk)⟩
theorem Kp.of_below{F:Nat→Prop}{w w':World}(h:Below w.heap.size w w'):Kp F w w':=⟨⟨h.os,h.tape,h.output,h.size,fun k hk=>by omega⟩,fun k _ hk=>h.block k hk⟩
theorem Kp.of_grown{F:Nat→Prop}{w w':World}{row:Option Nat}(hg:w.grownBy w' row)(hr:∀k,row=some k→¬F k):Kp F w w':=⟨⟨hg.os,hg.tape,hg.output,hg.size,fun k hk=>by omega⟩,fun k hf hk=>hg.block k hk (fun e=>hr k e.symm hf)⟩
theorem OkF.mono{F:Nat→Prop}{base:Nat}{w w':World}(h:OkF F base w)(hb:w.heap.size≤w'.heap.size):OkF F base w':=⟨h.lo,fun k hf=>Nat.lt_of_lt_of_le (h.hi k hf) hb⟩
theorem Kp.bel{F:Nat→Prop}{base:Nat}{w w':World}(h:Kp F w w')(hz:OkF F base w):Below base w w':=⟨h.1.os,h.1.tape,h.1.output,h.1.size,fun k hk=>h.2 k (hz.lo k hk) (by have:=hz.le;omega)⟩
theorem Good.kp{F:Nat→Prop}{w w':World}{base:Nat}{hs:List Hd}(h:Good w base hs)(hz:OkF F base w)(hb:Kp F w w'):Good w' base hs:=h.below hz.le (hb.bel hz)
def QH(F:Nat→Prop)(w:World)(base Q:Nat)(hs:List Hd):Prop:=¬F Q∧∃a c,CellsAt w Q 93 #[.slice a hs.length c]∧w.ownsRow base 97 2 (.slice a hs.length c) hs.length (ez hs)∧∀g,(Value.slice a hs.length c).ownBlock=some g→g≠Q∧¬F g
theorem aey{base:Nat}{w W W':World}{row:Option Nat}(h:Below base w W)(hg:W.grownBy W' row)(hr:∀k,row=some k→base≤k)(hb:base≤W.heap.size):Below base w W':=h.trans ⟨hg.os,hg.tape,hg.output,hg.size,fun k hk=>hg.block k (by omega) (fun e=>by have:=hr k e.symm;omega)⟩
theorem gO{α:Type}(l:List α)(x:α):(l++ [x]).length=l.length+1:=by simp
theorem kN{w w':World}{base n:Nat}{e:TypeId}{s:Nat}{v:Value}{xs:List Value}(h:w.ownsRow base e s v n xs)(hb:Below w.heap.size w w'):w'.ownsRow base e s v n xs:=h.kept (iz hb none) (Classical.em _)
theorem yN{P:Program}{ops:Array Oper}{o:Oper}{a:Act}{w:World}{K:Act→World→Prop}{Q:Exit→Act→World→Prop}{E:Prop}
  (hg:o.guard=none) (d x:Operand) (dT sT:TypeId) (hop:o.op=Op.call {callee:=Callee.builtin Builtin.append,args:=#[d,x],argTypes:=#[dT,sT]})
  (v u:Value) (hd:a.eval d=v) (hx:a.eval x=u) {v':Value} {w':World} (hr:(Builtin.append_ #[dT,sT] o.type #[v,u]).run P w= .ok v' w') (hK:K (a.put o.dst v') w'):
  if Region.wanted o (yielded ops a.tmps)=true then Oper.wp P o a w K Q else E:=by
 have hw:Region.wanted o (yielded ops a.tmps)=true:=by simp [Region.wanted,hg]
 rw [if_pos hw];unfold Oper.wp;simp [execOp,hop,resolve,invoke,builtin,hd,hx,hr,Result.andThen];exact hK
set_option maxRecDepth 100000 in
set_option maxHeartbeats 1000000 in
theorem IA(F:Nat→Prop)(base Q:Nat)(hs:List Hd)(x:Hd)(w:World)(h:QH F w base Q hs)(hzF:OkF F base w)(hl:hs.length≤100000):
  Calls Try.prog 125 #[.pointer (some ⟨Q,0,none⟩),.iface 97 (HV x)] w fun e w'=>e= .returned (.tuple #[])∧QH F w' base Q (hs++ [x])∧Kp F w w':=by
 have hz:=hzF.le;obtain⟨hbQ,a,c,hC,hown,hne⟩:=h;have q0:w.cell? ⟨Q,0,none⟩=some (.slice a hs.length c):=hC.cell 0;have kQ:=Has.of hC.lt;have hQlt:=hC.lt;obtain⟨i0,hi0,hz0,hz1,hz2⟩:=xK ade
 have hAP:∀W,(W=w.drew.alloc (.cells #[.int .i64 x.k,.slice x.a x.l.length x.c] 97)∨W=(w.alloc (.cells #[.int .i64 x.k,.slice x.a x.l.length x.c] 97)).drew)→∃a' c' w',(Builtin.append_ #[91,91] 91 #[.slice a hs.length c,.slice (some ⟨w.heap.size,0,none⟩) 1 1]).run Try.prog W= .ok (.slice a' (hs.length+1) c') w'∧w'.ownsRow base 97 2 (.slice a' (hs.length+1) c') (hs.length+1) (ez (hs++ [x]))∧(∀g,(Value.slice a' (hs.length+1) c').ownBlock=some g→g≠Q∧¬F g)∧CellsAt w' Q 93 #[.slice a hs.length c]∧Kp F w w':=fun W hW=>by
  have hB:Below w.heap.size w W:=by
   rcases hW with rfl|rfl
   ·exact bla (aar (Below.refl _ _)) _
   ·exact aar (bla (Below.refl _ _) _)
  have hX:CellsAt W w.heap.size 97 #[.int .i64 x.k,.slice x.a x.l.length x.c]:=by
   have h0:CellsAt (w.alloc (.cells #[.int .i64 x.k,.slice x.a x.l.length x.c] 97)) w.heap.size 97 #[.int .i64 x.k,.slice x.a x.l.length x.c]:=World.alloc_heap_new w _;rcases hW with rfl|rfl
   ·exact h0
   ·exact h0
  have hzW:base≤W.heap.size:=Nat.le_trans hz hB.size
  obtain⟨v',w',h1,h2,h3,_,h5⟩:=run_append_own_at (P:=Try.prog) (w:=W) base 91 91 97 i0 (.agg #[.int .i64 0,.slice none 0 0]) 2 32 Try.underlying91 hi0 hz0 hz1 hz2 rfl (by decide) _ hs.length (ez hs) (kN hown hB) ⟨w.heap.size,0,none⟩ 1 1 (ez [x]) rfl (fun j u hj=>by
   rw [DW,hX.cell];have hj2:j<2:=by have:=(List.getElem?_eq_some_iff.1 hj).1;simpa [ez,enc]using this
   rcases(show j=0∨j=1 by omega)with rfl|rfl
   ·exact hj
   ·exact hj) (LG [x]) (by unfold maxLen;omega) (by omega) hzW
  obtain⟨a',c',rfl,_⟩:=wz h2;have hoW:∀k,(Value.slice a hs.length c).ownBlock=some k→base≤k∧k<W.heap.size:=(kN hown hB).lt;refine⟨a',c',w',h1,by rw [zW];exact h2,fun g hg=> ?_,(hC.below hB).grown h3 (fun e=>(hne Q e.symm).1 rfl),?_⟩
  ·rcases h5 with h5|h5
   ·exact hne g (h5.symm.trans hg)
   ·rw [h5]at hg
    have:W.heap.size=g:=Option.some.inj hg
    have hsz:=hB.size;refine⟨by omega,fun hf=> ?_⟩
    have:=hzF.hi g hf
    omega
  ·exact(Kp.of_below hB).trans (Kp.of_grown h3 (fun k hk=>(hne k hk).2))
 have hTA:∀W:World,(Instr.typeAssert (.iface 97 (.agg #[.int .i64 x.k,.slice x.a x.l.length x.c])) 20 97 false).run Try.prog W= .ok (.agg #[.int .i64 x.k,.slice x.a x.l.length x.c]) W:=fun _=>by kernel_rfl
 go_enter Try.func125,Try.ntmps125
 go_wp2
 go_region_law (obtain⟨a',c',w3,hrun,hown3,hne3,hC3,hB3⟩:=hAP _ (by first|exact .inl rfl|exact .inr rfl);have t0:=hC3.cell 0;have tf:=hC3.frozen 0;have tk:=Has.of hC3.lt;refine yN rfl (.tmp 8) (.tmp 11) 91 91 rfl _ _ (by simp [Act.eval,Act.put]) (by simp [Act.eval,Act.put]) hrun ?_)
 all_goals go_wp2
 all_goals go_end0
 all_goals (
  refine⟨rfl,⟨hbQ,a',c',?_,?_,?_⟩,hB3.trans (Kp.of_grown (cj w3 Q 0 _) (fun k e=>by cases e;exact hbQ))⟩
  ·rw [gO];simpa using hC3.set 0 (.slice a' (hs.length+1) c')
  ·rw [gO];exact hown3.kept (cj w3 Q 0 _) (.inr (fun e=>(hne3 Q e).1 rfl))
  ·rw [gO]
   exact hne3)
end Hp
end
noncomputable section
open Go.RowKit Go.Lib Go.Sort
namespace Hp
theorem SK{w:World}{base g n c:Nat}{hs:List Hd}{x:Hd}(h:w.ownsRow base 97 2 (.slice (some ⟨g,0,none⟩) (n+1) c) (n+1) (ez (hs++ [x])))(hn:hs.length=n):w.ownsRow base 97 2 (.slice (some ⟨g,0,none⟩) n c) n (ez hs):=by
 rcases h.2 with⟨e,h0⟩|⟨g',cap,cur,e,hbg,hg,hnc,hcm,hcs,htake⟩
 ·omega
 ·cases e;refine⟨by rw [tE,hn],.inr ⟨g,c,cur,rfl,hbg,hg,by omega,hcm,hcs,?_⟩⟩
  have:=congrArg (List.take (n*2)) htake
  rw [List.take_take,show min (n*2) ((n+1)*2)=n*2 by omega,zW]at this;rw [this,List.take_left' (by rw [tE,hn])]
set_option maxRecDepth 100000 in
set_option maxHeartbeats 1000000 in
theorem LH(F:Nat→Prop)(base Q:Nat)(hs:List Hd)(x:Hd)(w:World)(h:QH F w base Q (hs++ [x]))(hzF:OkF F base w)(hl:hs.length≤100000):
  Calls Try.prog 124 #[.pointer (some ⟨Q,0,none⟩)] w fun e w'=>e= .returned (.iface 97 (HV x))∧QH F w' base Q hs∧Kp F w w':=by
 have hz:=hzF.le;obtain⟨hbQ,a,c,hC,hown,hne⟩:=h;rw [gO]at hC hown hne;obtain⟨n,hn⟩:∃n,n=hs.length:=⟨_,rfl⟩;rw [←hn]at hC hown hne hl;have hr:=FO hown (by rw [gO,hn])
 have hgo:∃g,a=some ⟨g,0,none⟩∧n+1≤c:=by
  rcases hown.2 with⟨e,h0⟩|⟨g',cap,cur,e,hbg,hg,hnc,hcm,hcs,htake⟩
  ·omega
  ·cases e;exact⟨g',rfl,hnc⟩
 obtain⟨g,rfl,hnc⟩:=hgo;obtain⟨b,e,hb,x0,x1⟩:=hr n (by rw [gO];omega);cases e;rw [DW]at x0 x1;rw [hn,Pw,←hn]at x0 x1;have q0:w.cell? ⟨Q,0,none⟩=some (.slice (some ⟨g,0,none⟩) (n+1) c):=hC.cell 0;have qf:=hC.frozen 0;have kQ:=Has.of hC.lt;have kg:=Has.of hb;have hlt:((n:Nat):Int)<((n:Nat):Int)+1:=by omega
 have HN:=Lib.hid hn;have hQlt:=hC.lt;clear hn hr
 go_enter Try.func124,Try.ntmps124
 go_wp2
 go_ret
 have hnn:=HN.out;have hC1:CellsAt (w.setCell ⟨Q,0,none⟩ (.slice (some ⟨g,0,none⟩) n c)) Q 93 #[.slice (some ⟨g,0,none⟩) n c]:=by simpa using hC.set 0 (.slice (some ⟨g,0,none⟩) n c)
 have hB1:Kp F w (w.setCell ⟨Q,0,none⟩ (.slice (some ⟨g,0,none⟩) n c)):=Kp.of_grown (cj w Q 0 _) (fun k e=>by cases e;exact hbQ);have ho1:=(SK hown hnn.symm).kept (cj w Q 0 (.slice (some ⟨g,0,none⟩) n c)) (.inr (fun e=>(hne Q e).1 rfl));generalize w.setCell ⟨Q,0,none⟩ (.slice (some ⟨g,0,none⟩) n c)=W at hC1 hB1 ho1 ⊢;have hA:Below W.heap.size W (W.alloc (.cells #[.int .i64 x.k,.slice x.a x.l.length x.c] 97)):=bla (Below.refl _ _) _;refine⟨rfl,⟨hbQ,some ⟨g,0,none⟩,c,?_,?_,?_⟩,hB1.trans (Kp.of_below hA)⟩
 ·rw [←hnn];exact hC1.below hA
 ·rw [←hnn];exact ho1.alloc _
 ·rw [←hnn];exact hne
end Hp
end
noncomputable section
open Go.RowKit Go.Lib Go.Sort
namespace Hp
theorem aas(n Q:Nat)(w:World):(method (n+1) 89 (.pointer (some ⟨Q,0,none⟩)) "Push").run Try.prog w= .ok (125,.pointer (some ⟨Q,0,none⟩)) w:=by kernel_rfl
theorem adf(n Q:Nat)(w:World):(method (n+1) 89 (.pointer (some ⟨Q,0,none⟩)) "Pop").run Try.prog w= .ok (124,.pointer (some ⟨Q,0,none⟩)) w:=by kernel_rfl
theorem FP{l:List FieldStep}{a b:Nat}{c:Bool}(h:l.map (fun s=>(s.struct,s.index,s.deref))= [(a,b,c)]):l= [⟨a,b,c⟩]:=by
 match l,h with
 | [⟨x,y,z⟩],h=>
  simp only [List.map_cons,List.map_nil,List.cons.injEq,Prod.mk.injEq,and_true]at h;obtain⟨rfl,rfl,rfl⟩:=h;rfl
theorem SM:(Array.find? (fun x=>x.name== "Len") Try.t89.methods).map (fun m=>(m.path.toList.map (fun s=>(s.struct,s.index,s.deref)),m.func))=some ([(93,0,true)],some (34,false)):=by kernel_rfl
theorem YA{Q:Nat}{w:World}{a:Option Addr}{k c:Nat}(h:w.cell? ⟨Q,0,none⟩=some (.slice a k c))(n:Nat):(method (n+1) 89 (.pointer (some ⟨Q,0,none⟩)) "Len").run Try.prog w= .ok (34,.slice a k c) w:=by
 obtain⟨m,h1,h2⟩:=Option.map_eq_some_iff.1 SM;obtain⟨h3,h4⟩:=Prod.mk.inj h2;have h5:=FP h3;unfold method
 go_simp
 unfold follow
 go_simp
 unfold Place.get
 go_simp
 unfold follow receiverAt Place.get
 go_simp
theorem Px:(Array.find? (fun x=>x.name== "Less") Try.t89.methods).map (fun m=>(m.path.toList.map (fun s=>(s.struct,s.index,s.deref)),m.func))=some ([(93,0,true)],some (123,false)):=by kernel_rfl
theorem LI{Q:Nat}{w:World}{a:Option Addr}{k c:Nat}(h:w.cell? ⟨Q,0,none⟩=some (.slice a k c))(n:Nat):(method (n+1) 89 (.pointer (some ⟨Q,0,none⟩)) "Less").run Try.prog w= .ok (123,.slice a k c) w:=by
 obtain⟨m,h1,h2⟩:=Option.map_eq_some_iff.1 Px;obtain⟨h3,h4⟩:=Prod.mk.inj h2;have h5:=FP h3;unfold method
 go_simp
 unfold follow
 go_simp
 unfold Place.get
 go_simp
 unfold follow receiverAt Place.get
 go_simp
theorem Py:(Array.find? (fun x=>x.name== "Swap") Try.t89.methods).map (fun m=>(m.path.toList.map (fun s=>(s.struct,s.index,s.deref)),m.func))=some ([(93,0,true)],some (126,false)):=by kernel_rfl
theorem Aa{Q:Nat}{w:World}{a:Option Addr}{k c:Nat}(h:w.cell? ⟨Q,0,none⟩=some (.slice a k c))(n:Nat):(method (n+1) 89 (.pointer (some ⟨Q,0,none⟩)) "Swap").run Try.prog w= .ok (126,.slice a k c) w:=by
 obtain⟨m,h1,h2⟩:=Option.map_eq_some_iff.1 Py;obtain⟨h3,h4⟩:=Prod.mk.inj h2;have h5:=FP h3;unfold method
 go_simp
 unfold follow
 go_simp
 unfold Place.get
 go_simp
 unfold follow receiverAt Place.get
 go_simp
theorem QH.cell{F:Nat→Prop}{w:World}{base Q:Nat}{hs:List Hd}(h:QH F w base Q hs):∃a c,w.cell? ⟨Q,0,none⟩=some (.slice a hs.length c):=by
 obtain⟨_,a,c,hC,_⟩:=h;exact⟨a,c,hC.cell 0⟩
theorem QH.below{F:Nat→Prop}{w w':World}{base Q:Nat}{hs:List Hd}(h:QH F w base Q hs)(hb:Below w.heap.size w w'):QH F w' base Q hs:=by
 obtain⟨h1,a,c,hC,ho,hn⟩:=h;exact⟨h1,a,c,hC.below hb,kN ho hb,hn⟩
theorem IB{F:Nat→Prop}{w:World}{base Q:Nat}{hs:List Hd}{a:Option Addr}{c:Nat}(h:QH F w base Q hs)(hq:w.cell? ⟨Q,0,none⟩=some (.slice a hs.length c))(hg:Good w base hs)(hz:OkF F base w){i k:Nat}(hi:i<hs.length)(hk:k<hs.length)(hl:hs.length≤100000):Calls Try.prog 123 #[.slice a hs.length c,.int .i64 i,.int .i64 k] w fun e w'=>e= .returned (.bool (lt (at_ hs i).key (at_ hs k).key))∧QH F w' base Q hs∧Kp F w w'∧Below w.heap.size w w':=by
 obtain⟨h1,a',c',hC,ho,hn⟩:=h;have e:=(hC.cell 0).symm.trans hq;cases e;refine(LE a c hs i k base w (FO ho rfl) hg hz.le hi hk hl).mono ?_;rintro e w' ⟨rfl,hb⟩;exact⟨rfl,⟨h1,a,c,hC.below hb,kN ho hb,hn⟩,Kp.of_below hb,hb⟩
theorem IC{F:Nat→Prop}{w:World}{base Q:Nat}{hs:List Hd}{a:Option Addr}{c:Nat}(h:QH F w base Q hs)(hq:w.cell? ⟨Q,0,none⟩=some (.slice a hs.length c))(hz:OkF F base w){i k:Nat}(hi:i<hs.length)(hk:k<hs.length)(hl:hs.length≤100000):Calls Try.prog 126 #[.slice a hs.length c,.int .i64 i,.int .i64 k] w fun e w'=>e= .returned (.tuple #[])∧QH F w' base Q (sd hs i k)∧Kp F w w':=by
 obtain⟨h1,a',c',hC,ho,hn⟩:=h;have e:=(hC.cell 0).symm.trans hq;cases e
 have hgo:∃g,a=some ⟨g,0,none⟩∧base≤g:=by
  rcases ho.2 with⟨e,h0⟩|⟨g',cap,cur,e,hbg,hg,hnc,hcm,hcs,htake⟩
  ·omega
  ·cases e;exact⟨g',rfl,hbg⟩
 obtain⟨g,rfl,hbg⟩:=hgo;refine(LF base g hs.length c hs i k w ho rfl hi hk hl).mono ?_;rintro e w' ⟨rfl,ho2,hg2⟩;refine⟨rfl,⟨h1,some ⟨g,0,none⟩,c,?_,?_,?_⟩,Kp.of_grown hg2 (fun k e=>by cases e;exact(hn g rfl).2)⟩
 ·rw [oc];exact hC.grown hg2 (fun e=>(hn Q e.symm).1 rfl)
 ·rw [oc];exact ho2
 ·rw [oc];exact hn
theorem rE{w:World}{base:Nat}{hs ks:List Hd}(h:Good w base hs)(hp:ks.Perm hs):Good w base ks:=fun x hx=>h x (hp.mem_iff.1 hx)
end Hp
end
end Go.Proofs.Ytjjbpdldbdmoeaa
