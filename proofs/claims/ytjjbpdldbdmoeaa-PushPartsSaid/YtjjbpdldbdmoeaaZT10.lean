/- Texts of a claim, joined. -/
import Derived.Test.YtjjbpdldbdmoeaaZT9
import Derived.Test.YtjjbpdldbdmoeaaProg
import Derived.WalkKit
import Derived.BigQuiet
import Derived.Lib.QuietBelow
import Derived.WalkSpells
import Derived.WalkLawsBesides
import Derived.IntWalk
import Derived.Lib.Hide
import Derived.Outline
import Derived.StillTail
import Derived.Laws.IdiomRangeMap
import Derived.RangeFuncBox
import Derived.Laws.OwnMore
import Derived.Maps.AppendAt
import Derived.Defers
import Derived.Recover
import Derived.KernelRfl
import Derived.Deep.RegionHeld3
import Derived.BigRegion
import Derived.RegionTactic
import Derived.Laws.AppendOwnNone
import Derived.Deep.RegionLaw
set_option linter.unusedVariables false
set_option linter.unusedSimpArgs false
namespace Go.Proofs.Ytjjbpdldbdmoeaa
noncomputable section
namespace Ev
namespace K
open Go Go.RowKit
set_option maxRecDepth 100000
set_option maxHeartbeats 1000000
def i1:TI:=(⟨.func #[] #[] false,[.nilFunc],1,8⟩:TI)
def i4:TI:=(⟨.bool,[.bool false],1,1⟩:TI)
def i7:TI:=(⟨.struct (aZ Try.prog 7),[.int .i64 0,.int .i64 0,.bool false,.int .u8 0],4,24⟩:TI)
def i8:TI:=(⟨.struct (aZ Try.prog 8),[.int .i64 0,.int .i64 0,.bool false,.int .u8 0],4,24⟩:TI)
def i15:TI:=(⟨.pointer 166,[.pointer none],1,8⟩:TI)
def i16:TI:=(⟨.pointer 169,[.pointer none],1,8⟩:TI)
def i17:TI:=(⟨.pointer 178,[.pointer none],1,8⟩:TI)
def i18:TI:=(⟨.struct (aZ Try.prog 18),[.pointer none],1,8⟩:TI)
def i19:TI:=(⟨.struct (aZ Try.prog 19),[.pointer none],1,8⟩:TI)
def i23:TI:=(⟨.slice 3,[.slice none 0 0],1,24⟩:TI)
def i24:TI:=(⟨.slice 2,[.slice none 0 0],1,24⟩:TI)
def i25:TI:=(⟨.struct (aZ Try.prog 25),[.int .i64 0,.int .i64 0,.slice none 0 0,.slice none 0 0,.slice none 0 0,.slice none 0 0],6,112⟩:TI)
def i26:TI:=(⟨.struct (aZ Try.prog 26),[.int .i64 0,.int .i64 0,.slice none 0 0,.slice none 0 0,.slice none 0 0,.slice none 0 0],6,112⟩:TI)
def i27:TI:=(⟨.slice 62,[.slice none 0 0],1,24⟩:TI)
def i28:TI:=(⟨.struct (aZ Try.prog 28),[.int .i64 0,.slice none 0 0],2,32⟩:TI)
def i29:TI:=(⟨.struct (aZ Try.prog 29),[.int .i64 0,.slice none 0 0],2,32⟩:TI)
def i30:TI:=(⟨.func #[] #[4] false,[.nilFunc],1,8⟩:TI)
def i31:TI:=(⟨.func #[29] #[29] false,[.nilFunc],1,8⟩:TI)
def i32:TI:=(⟨.slice 69,[.slice none 0 0],1,24⟩:TI)
def i35:TI:=(⟨.func #[22,26,29,44,4] #[32,33] false,[.nilFunc],1,8⟩:TI)
def i36:TI:=(⟨.func #[32,32] #[4] false,[.nilFunc],1,8⟩:TI)
def i37:TI:=(⟨.func #[22,26,29] #[4] false,[.nilFunc],1,8⟩:TI)
def i38:TI:=(⟨.slice 32,[.slice none 0 0],1,24⟩:TI)
def i39:TI:=(⟨.func #[22,38] #[32,33] true,[.nilFunc],1,8⟩:TI)
def i40:TI:=(⟨.func #[22,38] #[32,33] false,[.nilFunc],1,8⟩:TI)
def i41:TI:=(⟨.func #[22,38] #[4] false,[.nilFunc],1,8⟩:TI)
def i42:TI:=(⟨.array 2 5,[.int .u8 0,.int .u8 0],2,2⟩:TI)
def i43:TI:=(⟨.slice 60,[.slice none 0 0],1,24⟩:TI)
def i44:TI:=(⟨.slice 65,[.slice none 0 0],1,24⟩:TI)
def i45:TI:=(⟨.struct (aZ Try.prog 45),[.int .i64 0,.int .u8 0,.int .u8 0,.slice none 0 0,.slice none 0 0,.slice none 0 0,.slice none 0 0,.bool false],8,120⟩:TI)
def i46:TI:=(⟨.struct (aZ Try.prog 46),[.int .i64 0,.int .u8 0,.int .u8 0,.slice none 0 0,.slice none 0 0,.slice none 0 0,.slice none 0 0,.bool false],8,120⟩:TI)
def i47:TI:=(⟨.func #[22] #[22] false,[.nilFunc],1,8⟩:TI)
def i48:TI:=(⟨.struct (aZ Try.prog 48),[.int .i64 0,.int .i64 0,.slice none 0 0,.slice none 0 0,.slice none 0 0],5,88⟩:TI)
def i49:TI:=(⟨.struct (aZ Try.prog 49),[.int .i64 0,.int .i64 0,.slice none 0 0,.slice none 0 0,.slice none 0 0],5,88⟩:TI)
def i50:TI:=(⟨.func #[] #[49] false,[.nilFunc],1,8⟩:TI)
def i51:TI:=(⟨.func #[27] #[29] false,[.nilFunc],1,8⟩:TI)
def i52:TI:=(⟨.func #[49] #[26] false,[.nilFunc],1,8⟩:TI)
def i53:TI:=(⟨.func #[49,54,54] #[49] false,[.nilFunc],1,8⟩:TI)
def i54:TI:=(⟨.array 2 3,[.int .i64 0,.int .i64 0],2,16⟩:TI)
def i55:TI:=(⟨.func #[29,3,3] #[29] false,[.nilFunc],1,8⟩:TI)
def i56:TI:=(⟨.func #[46,5] #[4] false,[.nilFunc],1,8⟩:TI)
def i58:TI:=(⟨.func #[22,3,3,43] #[49,33] false,[.nilFunc],1,8⟩:TI)
def i59:TI:=(⟨.struct (aZ Try.prog 59),[.int .i64 0,.int .i64 0,.int .i64 0],3,24⟩:TI)
def i60:TI:=(⟨.struct (aZ Try.prog 60),[.int .i64 0,.int .i64 0,.int .i64 0],3,24⟩:TI)
def i61:TI:=(⟨.struct (aZ Try.prog 61),[.int .i64 0,.int .i64 0],2,16⟩:TI)
def i62:TI:=(⟨.struct (aZ Try.prog 62),[.int .i64 0,.int .i64 0],2,16⟩:TI)
def i64:TI:=(⟨.func #[22,26,29,44,4] #[29,33] false,[.nilFunc],1,8⟩:TI)
def i66:TI:=(⟨.struct (aZ Try.prog 66),[.int .i64 0,.int .u64 0],2,16⟩:TI)
def i67:TI:=(⟨.struct (aZ Try.prog 67),[.int .i64 0,.int .u64 0],2,16⟩:TI)
def i68:TI:=(⟨.struct (aZ Try.prog 68),[.int .i64 0,.int .i64 0,.int .u64 0],3,24⟩:TI)
def i69:TI:=(⟨.struct (aZ Try.prog 69),[.int .i64 0,.int .i64 0,.int .u64 0],3,24⟩:TI)
def i70:TI:=(⟨.func #[26,29] #[3] false,[.nilFunc],1,8⟩:TI)
def i71:TI:=(⟨.func #[22] #[4] false,[.nilFunc],1,8⟩:TI)
def i72:TI:=(⟨.func #[26] #[26] false,[.nilFunc],1,8⟩:TI)
def i73:TI:=(⟨.func #[29] #[4] false,[.nilFunc],1,8⟩:TI)
def i74:TI:=(⟨.slice 80,[.slice none 0 0],1,24⟩:TI)
def i77:TI:=(⟨.func #[26,29] #[76] false,[.nilFunc],1,8⟩:TI)
def i78:TI:=(⟨.pointer 80,[.pointer none],1,8⟩:TI)
def i79:TI:=(⟨.struct (aZ Try.prog 79),[.int .i64 0,.int .u64 0,.bool false],3,24⟩:TI)
def i80:TI:=(⟨.struct (aZ Try.prog 80),[.int .i64 0,.int .u64 0,.bool false],3,24⟩:TI)
def i81:TI:=(⟨.func #[22,2,2] #[67] false,[.nilFunc],1,8⟩:TI)
def i82:TI:=(⟨.func #[22,67,67] #[67] false,[.nilFunc],1,8⟩:TI)
def i83:TI:=(⟨.func #[44,3] #[4] false,[.nilFunc],1,8⟩:TI)
def i84:TI:=(⟨.func #[22,49,87,44,4] #[32,33] false,[.nilFunc],1,8⟩:TI)
def i85:TI:=(⟨.func #[26] #[49] false,[.nilFunc],1,8⟩:TI)
def i86:TI:=(⟨.struct (aZ Try.prog 86),[.int .i64 0,.slice none 0 0,.slice none 0 0],3,56⟩:TI)
def i87:TI:=(⟨.struct (aZ Try.prog 87),[.int .i64 0,.slice none 0 0,.slice none 0 0],3,56⟩:TI)
def i88:TI:=(⟨.func #[29] #[87] false,[.nilFunc],1,8⟩:TI)
def i89:TI:=(⟨.pointer 93,[.pointer none],1,8⟩:TI)
def i92:TI:=(⟨.struct (aZ Try.prog 92),[.slice none 0 0],1,24⟩:TI)
def i93:TI:=(⟨.struct (aZ Try.prog 93),[.slice none 0 0],1,24⟩:TI)
def i94:TI:=(⟨.func #[32] #[4] false,[.nilFunc],1,8⟩:TI)
def i95:TI:=(⟨.func #[132,20] #[] false,[.nilFunc],1,8⟩:TI)
def i96:TI:=(⟨.struct (aZ Try.prog 96),[.int .i64 0,.slice none 0 0],2,32⟩:TI)
def i97:TI:=(⟨.struct (aZ Try.prog 97),[.int .i64 0,.slice none 0 0],2,32⟩:TI)
def i98:TI:=(⟨.func #[] #[3] false,[.nilFunc],1,8⟩:TI)
def i99:TI:=(⟨.func #[132] #[20] false,[.nilFunc],1,8⟩:TI)
def aaw:TI:=(⟨.func #[22,32,69] #[32] false,[.nilFunc],1,8⟩:TI)
def aax:TI:=(⟨.func #[22,32,32] #[32] false,[.nilFunc],1,8⟩:TI)
def aay:TI:=(⟨.func #[42,43] #[49] false,[.nilFunc],1,8⟩:TI)
def aaz:TI:=(⟨.func #[22,2] #[2] false,[.nilFunc],1,8⟩:TI)
def aaA:TI:=(⟨.func #[5,27] #[29] false,[.nilFunc],1,8⟩:TI)
def aaB:TI:=(⟨.func #[5] #[3] false,[.nilFunc],1,8⟩:TI)
def aaC:TI:=(⟨.func #[49] #[49] false,[.nilFunc],1,8⟩:TI)
def aaD:TI:=(⟨.func #[49,3] #[27] false,[.nilFunc],1,8⟩:TI)
def aaE:TI:=(⟨.func #[49] #[43] false,[.nilFunc],1,8⟩:TI)
def aaF:TI:=(⟨.func #[3,3,43] #[49] false,[.nilFunc],1,8⟩:TI)
def aaG:TI:=(⟨.slice 112,[.slice none 0 0],1,24⟩:TI)
def aaH:TI:=(⟨.struct (aZ Try.prog 111),[.int .i64 0,.int .i64 0,.int .i64 0],3,24⟩:TI)
def aaI:TI:=(⟨.struct (aZ Try.prog 112),[.int .i64 0,.int .i64 0,.int .i64 0],3,24⟩:TI)
def aaJ:TI:=(⟨.func #[22,110] #[110,33] false,[.nilFunc],1,8⟩:TI)
def aaK:TI:=(⟨.func #[22,3,32] #[29,33] false,[.nilFunc],1,8⟩:TI)
def aaL:TI:=(⟨.func #[26,23] #[3] false,[.nilFunc],1,8⟩:TI)
def aaM:TI:=(⟨.func #[29] #[23] false,[.nilFunc],1,8⟩:TI)
def aaN:TI:=(⟨.func #[26] #[4] false,[.nilFunc],1,8⟩:TI)
def aaO:TI:=(⟨.func #[3] #[4] false,[.nilFunc],1,8⟩:TI)
def aaP:TI:=(⟨.func #[3,2] #[4] false,[.nilFunc],1,8⟩:TI)
def aaQ:TI:=(⟨.func #[2] #[67] false,[.nilFunc],1,8⟩:TI)
def aaR:TI:=(⟨.func #[67,67] #[67] false,[.nilFunc],1,8⟩:TI)
def aaS:TI:=(⟨.func #[4] #[67] false,[.nilFunc],1,8⟩:TI)
def aaT:TI:=(⟨.func #[2,2] #[67] false,[.nilFunc],1,8⟩:TI)
def aaU:TI:=(⟨.func #[3] #[65] false,[.nilFunc],1,8⟩:TI)
def aaV:TI:=(⟨.func #[87] #[29] false,[.nilFunc],1,8⟩:TI)
def aaW:TI:=(⟨.func #[29,3] #[2,4] false,[.nilFunc],1,8⟩:TI)
def aaX:TI:=(⟨.func #[3] #[87] false,[.nilFunc],1,8⟩:TI)
def aaY:TI:=(⟨.func #[3,23] #[44] false,[.nilFunc],1,8⟩:TI)
def aaZ:TI:=(⟨.func #[20] #[] false,[.nilFunc],1,8⟩:TI)
def ab0:TI:=(⟨.func #[132,3] #[] false,[.nilFunc],1,8⟩:TI)
def ab1:TI:=(⟨.func #[3,3] #[] false,[.nilFunc],1,8⟩:TI)
def ab2:TI:=(⟨.func #[132,3,3] #[4] false,[.nilFunc],1,8⟩:TI)
def ab3:TI:=(⟨.func #[] #[20] false,[.nilFunc],1,8⟩:TI)
def ab4:TI:=(⟨.func #[43] #[43] false,[.nilFunc],1,8⟩:TI)
def ab5:TI:=(⟨.func #[3,3] #[49] false,[.nilFunc],1,8⟩:TI)
def ab6:TI:=(⟨.func #[22,3,27] #[29,33] false,[.nilFunc],1,8⟩:TI)
def ab7:TI:=(⟨.func #[49] #[4] false,[.nilFunc],1,8⟩:TI)
def ab8:TI:=(⟨.slice 67,[.slice none 0 0],1,24⟩:TI)
def ab9:TI:=(⟨.func #[112,112] #[4] false,[.nilFunc],1,8⟩:TI)
def aba:TI:=(⟨.func #[67] #[2,4] false,[.nilFunc],1,8⟩:TI)
def abb:TI:=(⟨.func #[22,3,32] #[33] false,[.nilFunc],1,8⟩:TI)
def abc:TI:=(⟨.func #[22,67] #[2,4] false,[.nilFunc],1,8⟩:TI)
def abd:TI:=(⟨.func #[22] #[2] false,[.nilFunc],1,8⟩:TI)
def abe:TI:=(⟨.func #[26,3] #[3,3] false,[.nilFunc],1,8⟩:TI)
def abf:TI:=(⟨.func #[23,3] #[4] false,[.nilFunc],1,8⟩:TI)
def abg:TI:=(⟨.func #[67,67] #[3] false,[.nilFunc],1,8⟩:TI)
def abh:TI:=(⟨.array 4 65,[.int .u64 0,.int .u64 0,.int .u64 0,.int .u64 0],4,32⟩:TI)
def abi:TI:=(⟨.func #[65,65] #[153] false,[.nilFunc],1,8⟩:TI)
def abj:TI:=(⟨.func #[67,3] #[67] false,[.nilFunc],1,8⟩:TI)
def abk:TI:=(⟨.func #[87] #[4] false,[.nilFunc],1,8⟩:TI)
def abl:TI:=(⟨.func #[44] #[23] false,[.nilFunc],1,8⟩:TI)
def abm:TI:=(⟨.func #[3] #[44] false,[.nilFunc],1,8⟩:TI)
def abn:TI:=(⟨.func #[44,3] #[44] false,[.nilFunc],1,8⟩:TI)
def abo:TI:=(⟨.func #[3,3] #[4] false,[.nilFunc],1,8⟩:TI)
def abp:TI:=(⟨.func #[67] #[67] false,[.nilFunc],1,8⟩:TI)
def abq:TI:=(⟨.func #[3] #[3] false,[.nilFunc],1,8⟩:TI)
def abr:TI:=(⟨.func #[44,3,4] #[44] false,[.nilFunc],1,8⟩:TI)
def abs:TI:=(⟨.func #[] #[9] false,[.nilFunc],1,8⟩:TI)
def abt:TI:=(⟨.array 0 16,[],0,0⟩:TI)
def abu:TI:=(⟨.struct (aZ Try.prog 168),[],0,0⟩:TI)
def abv:TI:=(⟨.struct (aZ Try.prog 169),[],0,0⟩:TI)
def abw:TI:=(⟨.int .u32,[.int .u32 0],1,4⟩:TI)
def abx:TI:=(⟨.func #[179,179] #[4] false,[.nilFunc],1,8⟩:TI)
def aby:TI:=(⟨.pointer 5,[.pointer none],1,8⟩:TI)
def abz:TI:=(⟨.struct (aZ Try.prog 177),[.int .u64 0,.int .u64 0,.int .u32 0,.int .u8 0,.int .u8 0,.int .u8 0,.int .u8 0,.nilFunc,.pointer none,.int .i32 0,.int .i32 0],11,48⟩:TI)
def abA:TI:=(⟨.struct (aZ Try.prog 178),[.int .u64 0,.int .u64 0,.int .u32 0,.int .u8 0,.int .u8 0,.int .u8 0,.int .u8 0,.nilFunc,.pointer none,.int .i32 0,.int .i32 0],11,48⟩:TI)
def TT:List (Nat×TI):= [(1,i1),
 (2,(⟨.int .i64,[.int .i64 0],1,8⟩:TI)),
 (3,(⟨.int .i64,[.int .i64 0],1,8⟩:TI)),
 (4,i4),
 (5,(⟨.int .u8,[.int .u8 0],1,1⟩:TI)),
 (6,(⟨.int .u8,[.int .u8 0],1,1⟩:TI)),
 (7,i7),
 (8,i8),
 (12,(⟨.int .u64,[.int .u64 0],1,8⟩:TI)),
 (15,i15),
 (16,i16),
 (17,i17),
 (18,i18),
 (19,i19),
 (21,(⟨.int .i32,[.int .i32 0],1,4⟩:TI)),
 (22,(⟨.int .i64,[.int .i64 0],1,8⟩:TI)),
 (23,i23),
 (24,i24),
 (25,i25),
 (26,i26),
 (27,i27),
 (28,i28),
 (29,i29),
 (30,i30),
 (31,i31),
 (32,i32),
 (33,(⟨.int .i64,[.int .i64 0],1,8⟩:TI)),
 (35,i35),
 (36,i36),
 (37,i37),
 (38,i38),
 (39,i39),
 (40,i40),
 (41,i41),
 (42,i42),
 (43,i43),
 (44,i44),
 (45,i45),
 (46,i46),
 (47,i47),
 (48,i48),
 (49,i49),
 (50,i50),
 (51,i51),
 (52,i52),
 (53,i53),
 (54,i54),
 (55,i55),
 (56,i56),
 (58,i58),
 (59,i59),
 (60,i60),
 (61,i61),
 (62,i62),
 (64,i64),
 (65,(⟨.int .u64,[.int .u64 0],1,8⟩:TI)),
 (66,i66),
 (67,i67),
 (68,i68),
 (69,i69),
 (70,i70),
 (71,i71),
 (72,i72),
 (73,i73),
 (74,i74),
 (75,(⟨.func #[120] #[] false,[.nilFunc],1,8⟩:TI)),
 (76,(⟨.func #[120] #[] false,[.nilFunc],1,8⟩:TI)),
 (77,i77),
 (78,i78),
 (79,i79),
 (80,i80),
 (81,i81),
 (82,i82),
 (83,i83),
 (84,i84),
 (85,i85),
 (86,i86),
 (87,i87),
 (88,i88),
 (89,i89),
 (90,(⟨.slice 97,[.slice none 0 0],1,24⟩:TI)),
 (91,(⟨.slice 97,[.slice none 0 0],1,24⟩:TI)),
 (92,i92),
 (93,i93),
 (94,i94),
 (95,i95),
 (96,i96),
 (97,i97),
 (98,i98),
 (99,i99),
 (100,aaw),
 (101,aax),
 (102,aay),
 (103,aaz),
 (104,aaA),
 (105,aaB),
 (106,aaC),
 (107,aaD),
 (108,aaE),
 (109,aaF),
 (110,aaG),
 (111,aaH),
 (112,aaI),
 (114,aaJ),
 (115,aaK),
 (116,aaL),
 (117,aaM),
 (118,aaN),
 (119,aaO),
 (120,aaP),
 (121,aaQ),
 (122,aaR),
 (123,aaS),
 (124,aaT),
 (125,aaU),
 (126,aaV),
 (128,aaW),
 (129,aaX),
 (130,aaY),
 (133,aaZ),
 (134,ab0),
 (135,ab1),
 (136,ab2),
 (137,ab3),
 (138,ab4),
 (139,ab5),
 (140,ab6),
 (141,ab7),
 (142,ab8),
 (143,ab9),
 (144,aba),
 (145,abb),
 (146,abc),
 (147,abd),
 (149,abe),
 (150,abf),
 (151,(⟨.int .u64,[.int .u64 0],1,8⟩:TI)),
 (152,abg),
 (153,abh),
 (154,abi),
 (155,abj),
 (156,abk),
 (157,abl),
 (158,abm),
 (159,abn),
 (160,abo),
 (161,abp),
 (162,abq),
 (163,abr),
 (164,abs),
 (167,abt),
 (168,abu),
 (169,abv),
 (170,abw),
 (171,(⟨.int .u8,[.int .u8 0],1,1⟩:TI)),
 (172,(⟨.int .u8,[.int .u8 0],1,1⟩:TI)),
 (173,abx),
 (174,aby),
 (175,(⟨.int .i32,[.int .i32 0],1,4⟩:TI)),
 (176,(⟨.int .i32,[.int .i32 0],1,4⟩:TI)),
 (177,abz),
 (178,abA)]
theorem tz1:ah Try.prog 1=some i1:=by kernel_rfl
theorem tz2:ah Try.prog 2=some (⟨.int .i64,[.int .i64 0],1,8⟩:TI):=by kernel_rfl
theorem tz3:ah Try.prog 3=some (⟨.int .i64,[.int .i64 0],1,8⟩:TI):=by kernel_rfl
theorem tz4:ah Try.prog 4=some i4:=by kernel_rfl
theorem tz5:ah Try.prog 5=some (⟨.int .u8,[.int .u8 0],1,1⟩:TI):=by kernel_rfl
theorem tz6:ah Try.prog 6=some (⟨.int .u8,[.int .u8 0],1,1⟩:TI):=by kernel_rfl
theorem tz7:ah Try.prog 7=some i7:=by kernel_rfl
theorem tz8:ah Try.prog 8=some i8:=by kernel_rfl
theorem XZ:ah Try.prog 12=some (⟨.int .u64,[.int .u64 0],1,8⟩:TI):=by kernel_rfl
theorem Ya:ah Try.prog 15=some i15:=by kernel_rfl
theorem Yb:ah Try.prog 16=some i16:=by kernel_rfl
theorem Yc:ah Try.prog 17=some i17:=by kernel_rfl
theorem Yd:ah Try.prog 18=some i18:=by kernel_rfl
theorem Ye:ah Try.prog 19=some i19:=by kernel_rfl
theorem Yf:ah Try.prog 21=some (⟨.int .i32,[.int .i32 0],1,4⟩:TI):=by kernel_rfl
theorem UX:ah Try.prog 22=some (⟨.int .i64,[.int .i64 0],1,8⟩:TI):=by kernel_rfl
theorem UY:ah Try.prog 23=some i23:=by kernel_rfl
theorem UZ:ah Try.prog 24=some i24:=by kernel_rfl
theorem Yg:ah Try.prog 25=some i25:=by kernel_rfl
theorem Vc:ah Try.prog 26=some i26:=by kernel_rfl
theorem Vd:ah Try.prog 27=some i27:=by kernel_rfl
theorem Yh:ah Try.prog 28=some i28:=by kernel_rfl
theorem Ve:ah Try.prog 29=some i29:=by kernel_rfl
theorem Yi:ah Try.prog 30=some i30:=by kernel_rfl
theorem Yj:ah Try.prog 31=some i31:=by kernel_rfl
theorem Vf:ah Try.prog 32=some i32:=by kernel_rfl
theorem Yk:ah Try.prog 33=some (⟨.int .i64,[.int .i64 0],1,8⟩:TI):=by kernel_rfl
theorem Yl:ah Try.prog 35=some i35:=by kernel_rfl
theorem Ym:ah Try.prog 36=some i36:=by kernel_rfl
theorem Yn:ah Try.prog 37=some i37:=by kernel_rfl
theorem Vg:ah Try.prog 38=some i38:=by kernel_rfl
theorem Yo:ah Try.prog 39=some i39:=by kernel_rfl
theorem Yp:ah Try.prog 40=some i40:=by kernel_rfl
theorem Yq:ah Try.prog 41=some i41:=by kernel_rfl
theorem Vh:ah Try.prog 42=some i42:=by kernel_rfl
theorem Yr:ah Try.prog 43=some i43:=by kernel_rfl
theorem Vi:ah Try.prog 44=some i44:=by kernel_rfl
theorem Ys:ah Try.prog 45=some i45:=by kernel_rfl
theorem Vj:ah Try.prog 46=some i46:=by kernel_rfl
theorem Yt:ah Try.prog 47=some i47:=by kernel_rfl
theorem Yu:ah Try.prog 48=some i48:=by kernel_rfl
theorem Vk:ah Try.prog 49=some i49:=by kernel_rfl
theorem Yv:ah Try.prog 50=some i50:=by kernel_rfl
theorem Yw:ah Try.prog 51=some i51:=by kernel_rfl
theorem Yx:ah Try.prog 52=some i52:=by kernel_rfl
theorem Yy:ah Try.prog 53=some i53:=by kernel_rfl
theorem Vm:ah Try.prog 54=some i54:=by kernel_rfl
theorem Yz:ah Try.prog 55=some i55:=by kernel_rfl
theorem YA:ah Try.prog 56=some i56:=by kernel_rfl
theorem YB:ah Try.prog 58=some i58:=by kernel_rfl
theorem YC:ah Try.prog 59=some i59:=by kernel_rfl
theorem YD:ah Try.prog 60=some i60:=by kernel_rfl
theorem YE:ah Try.prog 61=some i61:=by kernel_rfl
theorem Vn:ah Try.prog 62=some i62:=by kernel_rfl
theorem YF:ah Try.prog 64=some i64:=by kernel_rfl
theorem Vo:ah Try.prog 65=some (⟨.int .u64,[.int .u64 0],1,8⟩:TI):=by kernel_rfl
theorem YG:ah Try.prog 66=some i66:=by kernel_rfl
theorem Vp:ah Try.prog 67=some i67:=by kernel_rfl
theorem YH:ah Try.prog 68=some i68:=by kernel_rfl
theorem Vq:ah Try.prog 69=some i69:=by kernel_rfl
theorem YI:ah Try.prog 70=some i70:=by kernel_rfl
theorem YJ:ah Try.prog 71=some i71:=by kernel_rfl
theorem YK:ah Try.prog 72=some i72:=by kernel_rfl
theorem YL:ah Try.prog 73=some i73:=by kernel_rfl
theorem Vr:ah Try.prog 74=some i74:=by kernel_rfl
theorem YM:ah Try.prog 75=some (⟨.func #[120] #[] false,[.nilFunc],1,8⟩:TI):=by kernel_rfl
theorem YN:ah Try.prog 76=some (⟨.func #[120] #[] false,[.nilFunc],1,8⟩:TI):=by kernel_rfl
theorem YO:ah Try.prog 77=some i77:=by kernel_rfl
theorem YP:ah Try.prog 78=some i78:=by kernel_rfl
theorem YQ:ah Try.prog 79=some i79:=by kernel_rfl
theorem Vs:ah Try.prog 80=some i80:=by kernel_rfl
theorem YR:ah Try.prog 81=some i81:=by kernel_rfl
theorem YS:ah Try.prog 82=some i82:=by kernel_rfl
theorem YT:ah Try.prog 83=some i83:=by kernel_rfl
theorem YU:ah Try.prog 84=some i84:=by kernel_rfl
theorem YV:ah Try.prog 85=some i85:=by kernel_rfl
theorem YW:ah Try.prog 86=some i86:=by kernel_rfl
theorem YX:ah Try.prog 87=some i87:=by kernel_rfl
theorem YY:ah Try.prog 88=some i88:=by kernel_rfl
theorem YZ:ah Try.prog 89=some i89:=by kernel_rfl
theorem Za:ah Try.prog 90=some (⟨.slice 97,[.slice none 0 0],1,24⟩:TI):=by kernel_rfl
theorem Zb:ah Try.prog 91=some (⟨.slice 97,[.slice none 0 0],1,24⟩:TI):=by kernel_rfl
theorem Zc:ah Try.prog 92=some i92:=by kernel_rfl
theorem Zd:ah Try.prog 93=some i93:=by kernel_rfl
theorem Ze:ah Try.prog 94=some i94:=by kernel_rfl
theorem Zf:ah Try.prog 95=some i95:=by kernel_rfl
theorem Zg:ah Try.prog 96=some i96:=by kernel_rfl
theorem Zh:ah Try.prog 97=some i97:=by kernel_rfl
theorem Zi:ah Try.prog 98=some i98:=by kernel_rfl
theorem Zj:ah Try.prog 99=some i99:=by kernel_rfl
theorem Qp:ah Try.prog 100=some aaw:=by kernel_rfl
theorem Qq:ah Try.prog 101=some aax:=by kernel_rfl
theorem Qr:ah Try.prog 102=some aay:=by kernel_rfl
theorem Qs:ah Try.prog 103=some aaz:=by kernel_rfl
theorem Qt:ah Try.prog 104=some aaA:=by kernel_rfl
theorem Qu:ah Try.prog 105=some aaB:=by kernel_rfl
theorem Qv:ah Try.prog 106=some aaC:=by kernel_rfl
theorem Qw:ah Try.prog 107=some aaD:=by kernel_rfl
theorem Qx:ah Try.prog 108=some aaE:=by kernel_rfl
theorem Qy:ah Try.prog 109=some aaF:=by kernel_rfl
theorem Nc:ah Try.prog 110=some aaG:=by kernel_rfl
theorem Qz:ah Try.prog 111=some aaH:=by kernel_rfl
theorem Nd:ah Try.prog 112=some aaI:=by kernel_rfl
theorem QA:ah Try.prog 114=some aaJ:=by kernel_rfl
theorem QB:ah Try.prog 115=some aaK:=by kernel_rfl
theorem QC:ah Try.prog 116=some aaL:=by kernel_rfl
theorem QD:ah Try.prog 117=some aaM:=by kernel_rfl
theorem QE:ah Try.prog 118=some aaN:=by kernel_rfl
theorem QF:ah Try.prog 119=some aaO:=by kernel_rfl
theorem QG:ah Try.prog 120=some aaP:=by kernel_rfl
theorem QI:ah Try.prog 121=some aaQ:=by kernel_rfl
theorem QJ:ah Try.prog 122=some aaR:=by kernel_rfl
theorem QK:ah Try.prog 123=some aaS:=by kernel_rfl
theorem QL:ah Try.prog 124=some aaT:=by kernel_rfl
theorem QM:ah Try.prog 125=some aaU:=by kernel_rfl
theorem QN:ah Try.prog 126=some aaV:=by kernel_rfl
theorem QO:ah Try.prog 128=some aaW:=by kernel_rfl
theorem QP:ah Try.prog 129=some aaX:=by kernel_rfl
theorem QQ:ah Try.prog 130=some aaY:=by kernel_rfl
theorem QR:ah Try.prog 133=some aaZ:=by kernel_rfl
theorem QS:ah Try.prog 134=some ab0:=by kernel_rfl
theorem QU:ah Try.prog 135=some ab1:=by kernel_rfl
theorem QV:ah Try.prog 136=some ab2:=by kernel_rfl
theorem QW:ah Try.prog 137=some ab3:=by kernel_rfl
theorem QX:ah Try.prog 138=some ab4:=by kernel_rfl
theorem QY:ah Try.prog 139=some ab5:=by kernel_rfl
theorem QZ:ah Try.prog 140=some ab6:=by kernel_rfl
theorem Ra:ah Try.prog 141=some ab7:=by kernel_rfl
theorem Rb:ah Try.prog 142=some ab8:=by kernel_rfl
theorem Rc:ah Try.prog 143=some ab9:=by kernel_rfl
theorem Rd:ah Try.prog 144=some aba:=by kernel_rfl
theorem Re:ah Try.prog 145=some abb:=by kernel_rfl
theorem Rf:ah Try.prog 146=some abc:=by kernel_rfl
theorem Rh:ah Try.prog 147=some abd:=by kernel_rfl
theorem Ri:ah Try.prog 149=some abe:=by kernel_rfl
theorem Rj:ah Try.prog 150=some abf:=by kernel_rfl
theorem Rk:ah Try.prog 151=some (⟨.int .u64,[.int .u64 0],1,8⟩:TI):=by kernel_rfl
theorem Rm:ah Try.prog 152=some abg:=by kernel_rfl
theorem Nf:ah Try.prog 153=some abh:=by kernel_rfl
theorem Rn:ah Try.prog 154=some abi:=by kernel_rfl
theorem Ro:ah Try.prog 155=some abj:=by kernel_rfl
theorem Rp:ah Try.prog 156=some abk:=by kernel_rfl
theorem Rq:ah Try.prog 157=some abl:=by kernel_rfl
theorem Rr:ah Try.prog 158=some abm:=by kernel_rfl
theorem Rs:ah Try.prog 159=some abn:=by kernel_rfl
theorem Rt:ah Try.prog 160=some abo:=by kernel_rfl
theorem Ru:ah Try.prog 161=some abp:=by kernel_rfl
theorem Rv:ah Try.prog 162=some abq:=by kernel_rfl
theorem Rw:ah Try.prog 163=some abr:=by kernel_rfl
theorem Rx:ah Try.prog 164=some abs:=by kernel_rfl
theorem Ry:ah Try.prog 167=some abt:=by kernel_rfl
theorem Rz:ah Try.prog 168=some abu:=by kernel_rfl
theorem RA:ah Try.prog 169=some abv:=by kernel_rfl
theorem RE:ah Try.prog 170=some abw:=by kernel_rfl
theorem RF:ah Try.prog 171=some (⟨.int .u8,[.int .u8 0],1,1⟩:TI):=by kernel_rfl
theorem RH:ah Try.prog 172=some (⟨.int .u8,[.int .u8 0],1,1⟩:TI):=by kernel_rfl
theorem RI:ah Try.prog 173=some abx:=by kernel_rfl
theorem RJ:ah Try.prog 174=some aby:=by kernel_rfl
theorem RK:ah Try.prog 175=some (⟨.int .i32,[.int .i32 0],1,4⟩:TI):=by kernel_rfl
theorem RL:ah Try.prog 176=some (⟨.int .i32,[.int .i32 0],1,4⟩:TI):=by kernel_rfl
theorem RM:ah Try.prog 177=some abz:=by kernel_rfl
theorem RN:ah Try.prog 178=some abA:=by kernel_rfl
theorem sJ:Try.prog.follows .mixedOrders=true:=by kernel_rfl
theorem sK:GC Try.prog=true:=by kernel_rfl
def oQ:List TD→Option (Kind×List TD):=fun _=>none
theorem Ng(x y:Operand)(a0 b0 a1 b1:Int):ak Try.prog (do eqGuard .eql 67 x y (.agg #[.int .i64 a0,.int .u64 a1]) (.agg #[.int .i64 b0,.int .u64 b1]);binOp .eql 67 (.agg #[.int .i64 a0,.int .u64 a1]) (.agg #[.int .i64 b0,.int .u64 b1]))=some (.bool ((a0==b0 &&(a1==b1 && true)))):=by
 refine JP (by kernel_rfl) ((kI 9999 67 #[.int .i64 a0,.int .u64 a1] #[.int .i64 b0,.int .u64 b1] (fs:=aZ Try.prog 66) (by kernel_rfl) (by kernel_rfl)).trans ?_);rw [show(aZ Try.prog 66).toList= [fld Try.prog 66 0,fld Try.prog 66 1]by kernel_rfl];exact((gb (k:= .i64) (k':= .i64) (by kernel_rfl) (by kernel_rfl) (by kernel_rfl) (by kernel_rfl)).trans (lT ((gb (k:= .u64) (k':= .u64) (by kernel_rfl) (by kernel_rfl) (by kernel_rfl) (by kernel_rfl)).trans (lT jB))))
theorem Nh(x y:Operand)(a0 b0 a1 b1:Int):ak Try.prog (do eqGuard .neq 67 x y (.agg #[.int .i64 a0,.int .u64 a1]) (.agg #[.int .i64 b0,.int .u64 b1]);binOp .neq 67 (.agg #[.int .i64 a0,.int .u64 a1]) (.agg #[.int .i64 b0,.int .u64 b1]))=some (.bool (!(a0==b0 &&(a1==b1 && true)))):=by
 refine Bj (by kernel_rfl) ((kI 9999 67 #[.int .i64 a0,.int .u64 a1] #[.int .i64 b0,.int .u64 b1] (fs:=aZ Try.prog 66) (by kernel_rfl) (by kernel_rfl)).trans ?_);rw [show(aZ Try.prog 66).toList= [fld Try.prog 66 0,fld Try.prog 66 1]by kernel_rfl];exact((gb (k:= .i64) (k':= .i64) (by kernel_rfl) (by kernel_rfl) (by kernel_rfl) (by kernel_rfl)).trans (lT ((gb (k:= .u64) (k':= .u64) (by kernel_rfl) (by kernel_rfl) (by kernel_rfl) (by kernel_rfl)).trans (lT jB))))
def EQS:List (Nat×List IntKind):= [(67,[.i64,.u64])]
def ad7:FI:=fiF Try.f10
def ad8:FI:=fiF Try.f13
def ad9:FI:=fiF Try.f14
def ada:FI:=fiF Try.f15
def abB:FI:=fiF Try.f16
def abC:FI:=fiF Try.f17
def adb:FI:=fiF Try.f18
def abD:FI:=fiF Try.f19
def abE:FI:=fiF Try.f22
def adc:FI:=fiF Try.f23
def ade:FI:=fiF Try.f24
def adf:FI:=fiF Try.f26
def abF:FI:=fiF Try.f27
def adg:FI:=fiF Try.f28
def abG:FI:=fiF Try.f32
def abH:FI:=fiF Try.f37
def abI:FI:=fiF Try.f39
def adh:FI:=fiF Try.f40
def adi:FI:=fiF Try.f41
def abJ:FI:=fiF Try.f42
def adj:FI:=fiF Try.f43
def abK:FI:=fiF Try.f44
def abL:FI:=fiF Try.f45
def abM:FI:=fiF Try.f46
def abN:FI:=fiF Try.f47
def abO:FI:=fiF Try.f48
def adk:FI:=fiF Try.f49
def abP:FI:=fiF Try.f50
def abQ:FI:=fiF Try.f54
def adl:FI:=fiF Try.f55
def abR:FI:=fiF Try.f57
def abS:FI:=fiF Try.f58
def abT:FI:=fiF Try.f59
def abU:FI:=fiF Try.f60
def adm:FI:=fiF Try.f61
def adn:FI:=fiF Try.f62
def ado:FI:=fiF Try.f63
def abV:FI:=fiF Try.f68
def abW:FI:=fiF Try.f74
def Vt:FI:=fiF Try.f75
def adp:FI:=fiF Try.f76
def abX:FI:=fiF Try.f77
def adq:FI:=fiF Try.f78
def abY:FI:=fiF Try.f79
def abZ:FI:=fiF Try.f80
def ac0:FI:=fiF Try.f81
def ac1:FI:=fiF Try.f88
def ac2:FI:=fiF Try.f89
def ac3:FI:=fiF Try.f90
def adr:FI:=fiF Try.f91
def ads:FI:=fiF Try.f92
def ac4:FI:=fiF Try.f95
def ac5:FI:=fiF Try.f96
def ac6:FI:=fiF Try.f97
abbrev Zk:TyD:=(true,.C (.I .u8) (.I .u8))
abbrev OC:TyD:=(true,.C (.I .i64) (.I .i64))
abbrev yD9:TyD:=(true,.C (.I .i64) (.I .u64))
abbrev yD8:TyD:=(false,.S (.C (.I .i64) (.I .i64)))
abbrev yD7:TyD:=(true,.C (.I .i64) (.C (.I .i64) (.I .i64)))
abbrev yD6:TyD:=(true,.C (.I .i64) (.S (.C (.I .i64) (.I .i64))))
abbrev yD5:TyD:=(false,.S (.C (.I .i64) (.C (.I .i64) (.I .i64))))
abbrev yD4:TyD:=(false,.S (.C (.I .i64) (.C (.I .i64) (.I .u64))))
abbrev yD3:TyD:=(true,.C (.I .u64) (.C (.I .u64) (.C (.I .u64) (.I .u64))))
abbrev yD2:TyD:=(true,.C (.I .i64) (.C (.I .i64) (.C (.S (.I .i64)) (.C (.S (.I .i64)) (.S (.I .i64))))))
abbrev yD1:TyD:=(true,.C (.I .i64) (.C (.I .i64) (.C (.S (.I .i64)) (.C (.S (.I .i64)) (.C (.S (.I .i64)) (.S (.I .i64)))))))
abbrev yD0:TyD:=(true,.C (.I .i64) (.C (.C (.I .u8) (.I .u8)) (.C (.S (.C (.I .i64) (.C (.I .i64) (.I .i64)))) (.C (.S (.C (.I .i64) (.I .i64))) (.C (.S (.C (.I .i64) (.I .i64))) (.C (.S (.I .u64)) .B))))))
end K
end Ev
end
noncomputable section
namespace Ev
namespace K
open Go Go.RowKit
set_option maxRecDepth 100000
set_option maxHeartbeats 1000000
def OD:dt:= []
def Dh:KG:=⟨TT,EQS,[],[]⟩
def bU:vals [(false,.I .i64)]→Option (OutK.val (.data true [yD9])):=dJ Dh OD abR 57 0 [(false,.I .i64)] (.data true [yD9])
def vL:bA:=⟨57,[(false,.I .i64)],.data true [yD9],bU,1⟩
def yY:dt:= []
def qd:KG:=⟨TT,EQS,[],[]⟩
def cR:vals [yD9,yD9]→Option (OutK.val (.data true [(false,.I .i64)])):=dJ qd yY ac3 90 0 [yD9,yD9] (.data true [(false,.I .i64)])
def qe:bA:=⟨90,[yD9,yD9],.data true [(false,.I .i64)],cR,1⟩
def Ca:dt:= []
def rQ:KG:=⟨TT,EQS,[qe],[]⟩
def cg:vals [yD9,yD9]→Option (OutK.val (.data true [yD9])):=dJ rQ Ca abS 58 0 [yD9,yD9] (.data true [yD9])
def nF:bA:=⟨58,[yD9,yD9],.data true [yD9],cg,2⟩
def Kr:dt:= []
def yZ:KG:=⟨TT,EQS,[],[]⟩
def dw:vals [yD9,yD9]→Option (OutK.val (.data true [yD9])):=dJ yZ Kr abT 59 0 [yD9,yD9] (.data true [yD9])
def oS:bA:=⟨59,[yD9,yD9],.data true [yD9],dw,1⟩
def EZ:dt:= []
def tZ:KG:=⟨TT,EQS,[vL],[]⟩
def bV:vals [(false,.B)]→Option (OutK.val (.data true [yD9])):=dJ tZ EZ abU 60 0 [(false,.B)] (.data true [yD9])
def oT:bA:=⟨60,[(false,.B)],.data true [yD9],bV,2⟩
def Ks:dt:= [(27,⟨[⟨true,2,9,[4,5,6,7],⟨[],[],[]⟩,[(.normal,⟨[(8,false,[.d true .B])],[],[]⟩)]⟩],[]⟩)]
def za:KG:=⟨TT,EQS,[nF,oS,oT],[]⟩
def gZ:vals [(false,.I .i64),yD9,yD9]→Option (OutK.val (.data true [yD9])):=dJ za Ks abF 27 0 [(false,.I .i64),yD9,yD9] (.data true [yD9])
def Kt:bA:=⟨27,[(false,.I .i64),yD9,yD9],.data true [yD9],gZ,3⟩
def OE:dt:= []
def Di:KG:=⟨TT,EQS,[],[]⟩
def jN:vals [(false,.I .i64)]→Option (OutK.val (.data true [(false,.B)])):=dJ Di OE abE 22 0 [(false,.I .i64)] (.data true [(false,.B)])
def OF:bA:=⟨22,[(false,.I .i64)],.data true [(false,.B)],jN,1⟩
def Fc:dt:= []
def Fd:KG:=⟨TT,EQS,[],[]⟩
def eQ:vals [(false,.I .i64)]→Option (OutK.val (.data true [(false,.B)])):=dJ Fd Fc adl 55 0 [(false,.I .i64)] (.data true [(false,.B)])
def Fe:bA:=⟨55,[(false,.I .i64)],.data true [(false,.B)],eQ,1⟩
def Cb:dt:= [(24,⟨[⟨false,5,0,[1,11,12],⟨[(3,false,[.d true (.I .i64)]),(13,false,[.d true (.I .i64)])],[],[]⟩,[(.exit 0,⟨[],[],[]⟩),(.ret,⟨[(2,false,[.d true .B])],[],[]⟩)]⟩],[]⟩)]
def Cc:KG:=⟨TT,EQS,[Fe],[]⟩
def fv:vals [yD6]→Option (OutK.val (.data true [(false,.B)])):=dJ Cc Cb ade 24 0 [yD6] (.data true [(false,.B)])
def Ff:dt:= [(32,⟨[⟨false,2,0,[0],⟨[(3,false,[.d true (.I .i64)])],[],[]⟩,[(.exit 0,⟨[],[],[]⟩),(.ret,⟨[(2,false,[.d true .B])],[],[]⟩)]⟩],[]⟩)]
def ua:KG:=⟨TT,EQS,[],[]⟩
def ko:vals [yD4]→Option (OutK.val (.data true [(false,.B)])):=dJ ua Ff abG 32 0 [yD4] (.data true [(false,.B)])
def Fg:bA:=⟨32,[yD4],.data true [(false,.B)],ko,1⟩
end K
end Ev
end
noncomputable section
namespace Ev
namespace KM
open Go Go.RowKit
def bU(x:Int):Option (Int×Int):=K.bU x
def cR(x:Int×Int)(y:Int×Int):Option (Int):=K.cR (x,y)
def cg(x:Int×Int)(y:Int×Int):Option (Int×Int):=K.cg (x,y)
def dw(x:Int×Int)(y:Int×Int):Option (Int×Int):=K.dw (x,y)
def bV(x:Bool):Option (Int×Int):=K.bV x
def gZ(x:Int)(y:Int×Int)(z:Int×Int):Option (Int×Int):=K.gZ (x,y,z)
def jN(x:Int):Option (Bool):=K.jN x
def eQ(x:Int):Option (Bool):=K.eQ x
def fv(x:Int×(Sl (Int×Int))):Option (Bool):=K.fv x
def ko(x:Sl (Int×(Int×Int))):Option (Bool):=K.ko x
end KM
end Ev
end
noncomputable section
namespace Ev
namespace K
open Go Go.RowKit
def zb{α:Type}(f:List T→Option α):List (List T)→Option (List α)
 | []=>some []
 |a::r=>(f a).bind fun x=>(zb f r).map (x::·)
theorem Dj{α:Type}{f:List T→Option α}{g:α→List T}(h:∀x,f (g x)=some x):∀l:List α,zb f (l.map g)=some l
 | []=>rfl
 |x::l=>by simp only [List.map_cons,zb,h,zbS,Dj h l,Option.map_some]
theorem zc{α:Type}{f:List T→Option α}{g:α→List T}(h:∀a x,f a=some x→a=g x):∀{l:List (List T)} {r:List α},zb f l=some r→l=r.map g
 | [],r,hr=>by simp [zb]at hr;subst hr;rfl
 |a::l,r,hr=>by
  simp only [zb,zbE,Option.map_eq_some_iff]at hr;obtain⟨x,hx,r',hr',rfl⟩:=hr;rw [List.map_cons,←h a x hx,←zc h hr']
def oU:(e:Ty)→List T→Option e.val
 | .I k,l=>match l with
  | [.v (.int k' n)]=>if k'=k then some n else none
  |_=>none
 | .B,l=>match l with
  | [.v (.bool b)]=>some b
  |_=>none
 | .S e,l=>match l with
  | [.s nn sz rows]=>(zb (oU e) rows).map fun r=>⟨nn,sz,r⟩
  |_=>none
 | .U,l=>match l with
  | []=>some ()
  |_=>none
 | .C a b,l=>(oU a (l.take a.size)).bind fun x=>(oU b (l.drop a.size)).bind fun y=>some (x,y)
theorem ub:∀(e:Ty) (x:e.val),oU e (e.row x)=some x
 | .I k,x=>by simp [oU,Ty.row,iT]
 | .B,x=>by simp [oU,Ty.row,bT]
 | .S e,x=>by
  simp only [oU,Ty.row,Sl.t];rw [Dj (ub e)];rfl
 | .U,x=>rfl
 | .C a b,x=>by
  show((oU a ((a.row x.1++b.row x.2).take a.size)).bind fun x1=>(oU b ((a.row x.1++b.row x.2).drop a.size)).bind fun y=>some (x1,y))=some x;have e1:(a.row x.1++b.row x.2).take a.size=a.row x.1:=by rw [List.take_append_of_le_length (by rw [pH];exact Nat.le_refl _),List.take_of_length_le (by rw [pH];exact Nat.le_refl _)]
  have e2:(a.row x.1++b.row x.2).drop a.size=b.row x.2:=by rw [←pH a x.1,List.drop_left]
  rw [e1,ub a,zbS,e2,ub b];rfl
theorem mq:∀(e:Ty) (l:List T) (x:e.val),oU e l=some x→l=e.row x
 | .I k,l,x,h=>by
  simp only [oU]at h;split at h
  ·split at h
   ·rename_i hk;cases h;subst hk;rfl
   ·simp at h
  ·simp at h
 | .B,l,x,h=>by
  simp only [oU]at h;split at h
  ·cases h;rfl
  ·simp at h
 | .S e,l,x,h=>by
  simp only [oU]at h;split at h
  ·rw [Option.map_eq_some_iff]at h;obtain⟨r,hr,rfl⟩:=h;rw [zc (mq e) hr];rfl
  ·simp at h
 | .U,l,x,h=>by
  simp only [oU]at h;split at h
  ·rfl
  ·simp at h
 | .C a b,l,x,h=>by
  simp only [oU,zbE]at h;obtain⟨x1,h1,x2,h2,h3⟩:=h;cases h3;show l=a.row x1++b.row x2;rw [←mq a _ _ h1,←mq b _ _ h2,List.take_append_drop]
def zd(t:TyD)(d:TD):Option t.2.val:=
 match t,d with
 |(true,e),.agg l=>oU e l
 |(false,e),.one y=>oU e [y]
 |(false,e),.agg l=>if l.length=1 then none else oU e l
 |_,_=>none
def Xw:List T→TD
 | [y]=> .one y
 |ys=> .agg ys
theorem ze(e:Ty)(x:e.val):pX (false,e) x=Xw (e.row x):=by
 unfold pX Xw;rfl
theorem Hz(t:TyD)(x:t.2.val):zd t (pX t x)=some x:=by
 obtain⟨b,e⟩:=t;have h:=ub e x
 cases b with
 |true=>exact h
 |false=>
  change e.val at x;rw [show pX (false,e) x=_ from ze e x];generalize e.row x=l at h
  match l,h with
  | [],h=>exact h
  | [y],h=>exact h
  |a::b::r,h=>
   show(if(a::b::r).length=1 then none else oU e (a::b::r))=some x;rw [if_neg (by simp)];exact h
theorem zf(t:TyD)(d:TD)(x:t.2.val)(h:zd t d=some x):d=pX t x:=by
 obtain⟨b,e⟩:=t
 cases b with
 |true=>
  cases d with
  |one y=>simp [zd]at h
  |agg l=>exact congrArg TD.agg (mq e l x h)
 |false=>
  change e.val at x
  cases d with
  |one y=>rw [show pX (false,e) x=_ from ze e x,←mq e [y] x h];rfl
  |agg l=>
   simp only [zd]at h;split at h
   ·simp at h
   ·rename_i hl
    have:=mq e l x h
    rw [show pX (false,e) x=_ from ze e x,←this]
    match l,hl with
    | [],_=>rfl
    | [y],hl=>simp at hl
    |a::b::r,_=>rfl
def sL:(ts:List TyD)→List TD→Option (vals ts)
 | [],l=>match l with
  | []=>some ()
  |_=>none
 | [t],l=>match l with
  | [d]=>zd t d
  |_=>none
 |t::t'::r,l=>match l with
  |d::ds=>(zd t d).bind fun x=>(sL (t'::r) ds).bind fun y=>some (x,y)
  | []=>none
theorem Dk:∀(ts:List TyD) (x:vals ts),sL ts (im ts x)=some x
 | [],_=>rfl
 | [t],x=>Hz t x
 |t::t'::r,x=>by
  show(zd t (pX t x.1)).bind _=_;rw [Hz t x.1,zbS,Dk (t'::r) x.2];rfl
theorem wS:∀(ts:List TyD) (l:List TD) (x:vals ts),sL ts l=some x→l=im ts x
 | [],l,x,h=>by
  simp only [sL]at h;split at h
  ·rfl
  ·simp at h
 | [t],l,x,h=>by
  simp only [sL]at h;split at h
  ·exact congrArg (·:: []) (zf t _ x h)
  ·simp at h
 |t::t'::r,l,x,h=>by
  simp only [sL]at h;split at h
  ·simp only [zbE]at h;obtain⟨y,h1,z,h2,h3⟩:=h;cases h3;show _=pX t y::im (t'::r) z;rw [←zf t _ y h1,←wS (t'::r) _ z h2]
  ·simp at h
def Dl(ins:List TyD)(kind:Kind)(ts:List TyD)(g:vals ins→Option (vals ts))(vs:List TD):Option (Kind×List TD):=(sL ins vs).bind fun a=>(g a).bind fun x=>some (kind,im ts x)
theorem Vu{P:Program}{k:FuncId}{ins:List TyD}{kind:Kind}{ts:List TyD}{g:vals ins→Option (vals ts)}(he:Enters P k)(h:∀a x,g a=some x→eo P k (im ins a) kind (im ts x)):∀vs kind' rs,Dl ins kind ts g vs=some (kind',rs)→eo P k vs kind' rs∧Enters P k:=by
 intro vs kind' rs hf;simp only [Dl,zbE]at hf;obtain⟨a,h1,x,h2,h3⟩:=hf;cases h3;rw [wS ins vs a h1];exact⟨h a x h2,he⟩
theorem OG{E:Env}{k:FuncId}{ins:List TyD}{kind:Kind}{ts:List TyD}{g:vals ins→Option (vals ts)}(hx:E.ax k=some (Dl ins kind ts g))(n:Nat)(a:vals ins)(x:vals ts)(h:g a=some x):RunsP E (n+1) k (im ins a) (kind,im ts x):=
 jZ hx (by simp only [Dl,Dk,zbS,h])
theorem Ku{E:Env}{k:FuncId}{ins:List TyD}{ts:List TyD}{g:vals ins→Option (vals ts)}(hx:E.ax k=some (Dl ins .fresh ts g)):bj E ⟨k,ins,.data true ts,g,1⟩:=fun m a x h=>OG hx m a x h
end K
end Ev
end
noncomputable section
namespace Ev
namespace KM
open Go Go.RowKit
set_option maxRecDepth 100000
set_option maxHeartbeats 1000000
theorem dz(x:Int):bU x=(uX IntKind.i64 x 63).bind fun(z:Int)=>some (z,IntKind.u64.wrap x):=by kernel_rfl
theorem xS(x:Int×Int)(y:Int×Int):cR x y=if x.fst=y.fst∧x.snd=y.snd then some 0
else if x.fst<y.fst then some (-1)else if x.fst=y.fst then if x.snd<y.snd then some (-1)else some 1 else some 1:=by kernel_rfl
theorem jO(x:Int×Int)(y:Int×Int):cg x y=(cR y x).bind fun(out:Int)=>if out<0 then some y else some x:=by kernel_rfl
def qg(x:Int×Int)(y:Int×Int):Int→Int→Option (Int×Int):=fun(d d_1:Int)=>some (IntKind.i64.wrap (d+d_1),IntKind.u64.wrap (x.snd+y.snd))
theorem nf(x:Int×Int)(y:Int×Int):dw x y=if IntKind.u64.wrap (x.snd+y.snd)<x.snd then qg x y (IntKind.i64.wrap (x.fst+y.fst)) 1
else qg x y x.fst y.fst:=by kernel_rfl
theorem gI(x:Bool):bV x=if x=true then(bU 1).bind fun(out:Int×Int)=>some out else some (0,0):=by kernel_rfl
theorem qh(x:Int)(y:Int×Int)(z:Int×Int):gZ x y z=(if x=1 then some (Sum.inl true)else if x=3 then some (Sum.inl true)else some (Sum.inl (decide (x=4)))).bind fun(y_1:Bool ⊕ Empty)=>Sum.elim (fun(val:Bool)=>if val=true then(cg y z).bind fun(out:Int×Int)=>some out else if x=2 then if¬(y.fst=0∧y.snd=0)then(bV true).bind fun(out:Int×Int)=>some out else(bV (decide ¬(z.fst=0∧z.snd=0))).bind fun(out:Int×Int)=>some out else if x=5 then(dw y z).bind fun(out:Int×Int)=>some out else some (0,0)) (fun(val:Empty)=>nE val) y_1:=by kernel_rfl
theorem sM(x:Int):jN x=if x ≥ 1 then some (decide (x≤5))else some false:=by kernel_rfl
theorem rR(x:Int):eQ x=if x ≥ 0 then some (decide (x≤4096))else some false:=by kernel_rfl
def dS(x:Int×Sl (Int×Int)):Int×Int→Option (Int×Int ⊕ PUnit ⊕ Bool ⊕ Empty):=fun(x_1:Int×Int)=>if x_1.snd<(↑x.snd.l.length:Int)then(atS 2 x.snd x_1.snd).bind fun(y:Int×Int)=>if y.fst≤x_1.fst then some (Sum.inr (Sum.inr (Sum.inl false)))else if y.fst ≥ x.fst then some (Sum.inr (Sum.inr (Sum.inl false)))else some (Sum.inl (y.fst,IntKind.i64.wrap (x_1.snd+1)))else some (Sum.inr (Sum.inl ()))
theorem qi(x:Int×Sl (Int×Int)):fv x=(eQ x.fst).bind fun(out:Bool)=>if¬out=true then some false else(aN (dS x) (-1,0)).bind fun(y:PUnit ⊕ Bool ⊕ Empty)=>Sum.elim (fun(val:PUnit)=>some true) (fun(val:Bool ⊕ Empty)=>Sum.elim (fun(val:Bool)=>some val) (fun(val:Empty)=>nE val) val) y:=by kernel_rfl
def gJ(x:Sl (Int×Int×Int)):Int→Option (Int ⊕ PUnit ⊕ Bool ⊕ Empty):=fun(x_1:Int)=>if x_1<(↑x.l.length:Int)then(atS 3 x x_1).bind fun(y:Int×Int×Int)=>(atS 3 x (IntKind.i64.wrap (x_1 - 1))).bind fun(y_1:Int×Int×Int)=>if y.fst≤y_1.fst then some (Sum.inr (Sum.inr (Sum.inl false)))else some (Sum.inl (IntKind.i64.wrap (x_1+1)))else some (Sum.inr (Sum.inl ()))
theorem Cd(x:Sl (Int×Int×Int)):ko x=(aN (gJ x) 1).bind fun(y:PUnit ⊕ Bool ⊕ Empty)=>Sum.elim (fun(val:PUnit)=>some true) (fun(val:Bool ⊕ Empty)=>Sum.elim (fun(val:Bool)=>some val) (fun(val:Empty)=>nE val) val) y:=by kernel_rfl
end KM
end Ev
end
noncomputable section
namespace Ev
namespace KM
open Go
def bu(n:Int):Prop:= -9223372036854775808≤n∧n≤9223372036854775807
def ce(n:Int):Prop:=0≤n∧n≤18446744073709551615
theorem qZ{n:Int}(h:inK .i64 n):bu n:=by simpa [inK,bu,Lit.wf,IntKind.min,IntKind.max,IntKind.signed,IntKind.bits]using h
theorem dU(n:Int):IntKind.u64.wrap n=n % 18446744073709551616:=by
 simp [IntKind.wrap,IntKind.signed,IntKind.bits]
theorem lk(n:Int):ce (IntKind.u64.wrap n):=by rw [dU];unfold ce;omega
theorem RO{n:Int}(h:ce n):IntKind.u64.wrap (IntKind.i64.wrap n)=n:=by rw [dU,IntKind.wrap_i64];unfold ce at h;omega
theorem zg(n:Int):bu (IntKind.i64.wrap n):=by rw [IntKind.wrap_i64];unfold bu;omega
def ofW(n:Int):Int×Int:=(if n<0 then -1 else 0,IntKind.u64.wrap n)
theorem oV(n:Int):ce (ofW n).2:=lk n
def jP(a b:Int×Int):Bool:=decide (a.1<b.1)||(decide (a.1=b.1)&& decide (a.2<b.2))
def eF(a b:Int×Int):Int×Int:=if jP b a=true then b else a
def gO(b:Bool):Int×Int:=if b=true then(0,1)else(0,0)
def mY(a b:Int×Int):Int×Int:=if IntKind.u64.wrap (a.2+b.2)<a.2 then(IntKind.i64.wrap (IntKind.i64.wrap (a.1+b.1)+1),IntKind.u64.wrap (a.2+b.2))else(IntKind.i64.wrap (a.1+b.1),IntKind.u64.wrap (a.2+b.2))
def aI(r:Int)(a b:Int×Int):Int×Int:=
 if r=1∨r=3∨r=4 then eF a b else if r=2 then gO (!(decide (a.1=0∧a.2=0)&& decide (b.1=0∧b.2=0)))else if r=5 then mY a b else(0,0)
def gk(a:Int×Int):Int×Bool:=if a=ofW (IntKind.i64.wrap a.2)then(IntKind.i64.wrap a.2,true)else(0,false)
def lJ(r:Int):Bool:=decide (1≤r)&& decide (r≤5)
theorem oX{r:Int}{a b:Int×Int}(ha:ce a.2)(hb:ce b.2):ce (aI r a b).2:=by
 have h0:ce 0:=by unfold ce;omega
 have h1:ce 1:=by unfold ce;omega
 unfold aI eF gO mY;split
 ·split<;>assumption
 ·split
  ·split<;>assumption
  ·split
   ·split<;>exact lk _
   ·exact h0
theorem OH{n:Int}(h:bu n):bU n=some (ofW n):=by
 rw [dz];unfold uX ofW TQ;rw [if_pos (by omega)];have e:(2:Int)^(min (63:Int).toNat IntKind.i64.bits)=9223372036854775808:=by decide
 rw [e];unfold bu at h
 have:n.fdiv 9223372036854775808=if n<0 then -1 else 0:=by
  rw [Int.fdiv_eq_ediv_of_nonneg _ (by omega)];split<;>omega
 rw [this];rfl
theorem lL(a b:Int×Int):∃c,cR a b=some c∧(c<0↔jP a b=true):=by
 obtain⟨a1,a2⟩:=a;obtain⟨b1,b2⟩:=b;rw [xS];unfold jP;simp only;by_cases h1:a1=b1∧a2=b2
 ·rw [if_pos h1];exact⟨0,rfl,by simp;omega⟩
 rw [if_neg h1];by_cases h2:a1<b1
 ·rw [if_pos h2];exact⟨-1,rfl,by simp [h2]⟩
 rw [if_neg h2];by_cases h3:a1=b1
 ·rw [if_pos h3];by_cases h4:a2<b2
  ·rw [if_pos h4];exact⟨-1,rfl,by simp [h3,h4]⟩
  ·rw [if_neg h4];exact⟨1,rfl,by simp [h3];omega⟩
 ·rw [if_neg h3];exact⟨1,rfl,by simp [h3];omega⟩
theorem Ce(a b:Int×Int):cg a b=some (eF a b):=by
 obtain⟨c,h1,h2⟩:=lL b a;rw [jO,h1];unfold eF;simp only [zbS];by_cases hc:c<0
 ·rw [if_pos hc,if_pos (h2.1 hc)]
 ·rw [if_neg hc,if_neg (fun h=>hc (h2.2 h))]
theorem Fh(b:Bool):bV b=some (gO b):=by
 rw [gI];unfold gO;cases b
 ·rfl
 ·simp only [if_true,OH (show bu 1 by unfold bu;omega),zbS];rfl
theorem Kv(a b:Int×Int):dw a b=some (mY a b):=by
 rw [nf];unfold mY qg;split
 ·rfl
 ·obtain⟨a1,a2⟩:=a;obtain⟨b1,b2⟩:=b;rfl
theorem Kw(r:Int)(a b:Int×Int):gZ r a b=some (aI r a b):=by
 rw [qh];unfold aI;simp only [Ce,Fh,Kv,zbS];by_cases h1:r=1
 ·simp [h1]
 by_cases h3:r=3
 ·simp [h3]
 by_cases h4:r=4
 ·simp [h4]
 simp only [if_neg h1,if_neg h3,if_neg (show¬(r=1∨r=3∨r=4)by omega),decide_eq_false h4,zbS,Sum.elim_inl,Bool.false_eq_true,if_false];by_cases h2:r=2
 ·simp only [if_pos h2];by_cases ha:a.1=0∧a.2=0
  ·by_cases hb:b.1=0∧b.2=0
   ·simp [ha,hb]
   ·simp [ha,hb]
  ·simp [ha]
 ·simp only [if_neg h2];split<;>rfl
theorem OI(r:Int):jN r=some (lJ r):=by
 rw [sM];unfold lJ;by_cases h1:r ≥ 1
 ·rw [if_pos h1,decide_eq_true (show 1≤r from h1)];simp
 ·rw [if_neg h1,decide_eq_false (show¬1≤r from h1)];rfl
end KM
end Ev
end
noncomputable section
open Go.RowKit Go.Sort
def Has(w:World)(b:Nat):Prop:=b<w.heap.size
def ac7(w:World)(os:Array Obj)(b:Nat):Prop:=w.heap.size≤b∧b<w.heap.size+os.size
theorem Has.of{w:World}{b:Nat}(h:b<w.heap.size):Has w b:=h
@[go_sem] theorem aar (w:World) (o:Obj) (b:Nat):Has (w.alloc o) b=(b=w.heap.size∨Has w b):=by
 unfold Has;simp;omega
@[go_sem] theorem ac8 (w:World) (d:Nat) (os:Array Obj) (b:Nat):Has (grow (redrawn w d) os) b=(Has w b∨ac7 w os b):=by
 unfold Has ac7;simp [grow,redrawn];omega
@[go_sem] theorem Xx (w:World) (a:Addr) (v:Value) (b:Nat):Has (w.setCell a v) b=Has w b:=by
 unfold Has;simp [World.setCell]
@[go_sem] theorem ac9 (w:World) (b:Nat):Has w.drew b=Has w b:=rfl
@[go_sem] theorem ad4 {w:World} {d:Nat} {os:Array Obj} {a:Addr} (h:Has w a.block):(grow (redrawn w d) os).cell? a=w.cell? a:=
 (below_regrown w d os).cell h
@[go_sem] theorem aas {w:World} {d:Nat} {os:Array Obj} {a:Addr} (h:Has w a.block):(grow (redrawn w d) os).frozen? a=w.frozen? a:=
 (below_regrown w d os).frozen h
@[go_sem] theorem ad5 {w:World} {o:Obj} {a:Addr} (h:Has w a.block):(w.alloc o).cell? a=w.cell? a:=
 ((Below.refl w.heap.size w).alloc (Nat.le_refl _) o).cell h
@[go_sem] theorem aat {w:World} {o:Obj} {a:Addr} (h:Has w a.block):(w.alloc o).frozen? a=w.frozen? a:=
 ((Below.refl w.heap.size w).alloc (Nat.le_refl _) o).frozen h
@[go_sem] theorem Zl {w:World} {o:Obj} {a:Addr} {v:Value} (h:Has w a.block):(w.alloc o).setCell a v=(w.setCell a v).alloc o:=by
 unfold Has at h;simp only [World.setCell,World.alloc];congr 1;apply Array.ext_getElem?;intro k;simp only [Array.getElem?_modify,Array.getElem?_push,Array.size_modify];by_cases hk:k=w.heap.size
 ·subst hk;simp;omega
 ·simp [hk]
@[go_sem] theorem adt {α:Type} (p:Prop) [Decidable p] (x y:α) (w:World):(if p then Result.ok x w else Result.ok y w)=Result.ok (if p then x else y) w:=by
 split<;>rfl
@[go_sem] theorem aau (p:Prop) [Decidable p] (x y:Value):(if p then Next.value x else Next.value y)=Next.value (if p then x else y):=by
 split<;>rfl
@[go_sem] theorem aeu (w:World) (d d2:Nat) (os os2:Array Obj):grow (redrawn (grow (redrawn w d) os) d2) os2=grow (redrawn w d2) (os++os2):=by
 simp [grow,redrawn,Array.append_assoc]
@[go_sem] theorem ad6 (w:World) (d:Nat) (os:Array Obj):(grow (redrawn w d) os).heap.size=w.heap.size+os.size:=by simp [grow,redrawn]
@[go_sem] theorem Zm {w:World} {d:Nat} {os:Array Obj} {a:Addr} {v:Value} (h:Has w a.block):(grow (redrawn w d) os).setCell a v=grow (redrawn (w.setCell a v) d) os:=by
 unfold Has at h;simp only [grow,redrawn,World.setCell];congr 1;apply Array.ext_getElem?;intro k;rw [Array.getElem?_modify];by_cases hk:k<w.heap.size
 ·rw [Array.getElem?_append_left hk,Array.getElem?_append_left (by simpa using hk),Array.getElem?_modify]
 ·rw [if_neg (by omega),Array.getElem?_append_right (by omega),Array.getElem?_append_right (by simpa using by omega)];simp
@[go_sem] theorem Vv (w:World) (d:Nat):(redrawn w d).heap=w.heap:=rfl
theorem bla{w w1:World}(h:Below w.heap.size w w1)(o:Obj):Below w.heap.size w (w1.alloc o):=h.alloc h.size o
theorem bls{w w1:World}(h:Below w.heap.size w w1){p:Addr}(hp:w.heap.size≤p.block)(v:Value):Below w.heap.size w (w1.setCell p v):=h.setCell hp v
theorem bld{w w1:World}(h:Below w.heap.size w w1):Below w.heap.size w w1.drew:=h.drew
@[go_sem] theorem adu:IntKind.u64.signed=false:=rfl
@[go_sem] theorem adv:IntKind.i64.signed=true:=rfl
@[go_sem] theorem aev:IntKind.u8.signed=false:=rfl
@[go_sem] theorem adw:IntKind.u32.signed=false:=rfl
end
noncomputable section
open Go Go.RowKit Go.Sort
section
variable {P : Program} {ops : Array Oper} {md : Region.Mode} {C : World → Prop}
end
end
noncomputable section
open Go Go.RowKit Go.Sort
section
variable {P : Program} {ops : Array Oper} {md : Region.Mode} {W : World}
def adx(w w':World):Prop:=Below w.heap.size w w'
def HD(P:Program)(w:World)(v:Value):Result Next→Prop
 | .ok (.value u) w'=>w'=w∧u=v
 | .ok .skip w'=>w'=w∧v=undef
 | .ok (.enter f args) w'=>w'=w∧Calls P f args w (fun e w''=>e= .returned v∧adx w w'')
 |_=>False
def RP(P:Program)(o:Oper)(a:Act)(w:World)(v:Value):Prop:=HD P w v ((execOp a.eval o).run P w)
def ady(P:Program)(o:Oper)(a:Act)(W:World)(next:Act→Prop):Prop:=∃v,(∀p:Regrown,RP P o a (grow (redrawn W p.d) p.os) v)∧next (a.put o.dst v)
attribute [go_sem] HD RP ady
def Kq(ops:Array Oper)(ok:Oper)(n k:Nat):Bool:=(List.range n).all fun j=>j==k||(match ops[j]? with|some oj=>ok.apart ops oj|none=>true)
end
end
noncomputable section
open Go Go.RowKit Go.Sort
section
variable {P : Program} {ops : Array Oper} {md : Region.Mode} {W : World}
def cnt(n k:Nat)(s:Array Bool):Nat:=((List.range n).filter fun j=>j !=k && !s.getD j true).length
theorem zh{n k:Nat}{s:Array Bool}(h:cnt n k s=0){j:Nat}(hj:j<n)(hjk:j≠k):s.getD j true=true:=by
 have h2:=List.length_eq_zero_iff.1 h;rw [List.filter_eq_nil_iff]at h2
 have:=h2 j (List.mem_range.2 hj)
 simpa [hjk]using this
end
end
noncomputable section
open Go.RowKit Go.Sort
def CellsAt(W:World)(B:Nat)(t:TypeId)(cs:Array Value):Prop:=W.heap[B]? =some (.cells cs t (0,0))
theorem CellsAt.lt{W:World}{B:Nat}{t:TypeId}{cs:Array Value}(h:CellsAt W B t cs):B<W.heap.size:=(Array.getElem?_eq_some_iff.1 h).1
theorem CellsAt.cell{W:World}{B:Nat}{t:TypeId}{cs:Array Value}(h:CellsAt W B t cs)(i:Nat):W.cell? ⟨B,i,none⟩=cs[i]? :=by
 simp [World.cell?,show W.heap[B]? =_ from h]
theorem CellsAt.frozen{W:World}{B:Nat}{t:TypeId}{cs:Array Value}(h:CellsAt W B t cs)(i:Nat):W.frozen? ⟨B,i,none⟩=false:=by simp [World.frozen?,show W.heap[B]? =_ from h]
theorem CellsAt.set{W:World}{B:Nat}{t:TypeId}{cs:Array Value}(h:CellsAt W B t cs)(i:Nat)(v:Value):CellsAt (W.setCell ⟨B,i,none⟩ v) B t (cs.setIfInBounds i v):=by
 obtain⟨hlt,hk⟩:=Array.getElem?_eq_some_iff.1 h;show(W.heap.modify B _)[B]? =_;rw [Array.getElem?_eq_getElem (by rw [Array.size_modify];exact hlt),Array.getElem_modify_self,hk];rfl
theorem CellsAt.kept{W W':World}{B:Nat}{t:TypeId}{cs:Array Value}(h:CellsAt W B t cs)(hb:W'.heap[B]? =W.heap[B]?):CellsAt W' B t cs:=hb.trans h
theorem CellsAt.below{W W':World}{B:Nat}{t:TypeId}{cs:Array Value}(h:CellsAt W B t cs)(hb:Below W.heap.size W W'):CellsAt W' B t cs:=h.kept (hb.block B h.lt)
theorem CellsAt.grown{W W':World}{B:Nat}{t:TypeId}{cs:Array Value}{row:Option Nat}(h:CellsAt W B t cs)(hg:W.grownBy W' row)(hne:some B≠row):CellsAt W' B t cs:=h.kept (hg.block B h.lt hne)
@[go_sem] theorem uc (b:Addr) (k:Nat):(b.add k).block=b.block:=by unfold Addr.add;split<;>rfl
theorem iy{w w':World}(h:Below w.heap.size w w')(row:Option Nat):w.grownBy w' row:=⟨h.os,h.tape,h.output,h.size,fun k hk _=>h.block k hk⟩
theorem bJ(W:World)(b i:Nat)(v:Value):W.grownBy (W.setCell ⟨b,i,none⟩ v) (some b):=
 ⟨rfl,rfl,rfl,(KeepsWalks.setCell W _ v).size,fun k _ hk=>Below.heap_setCell _ _ _ k (fun e=>hk (by rw [e]))⟩
end
noncomputable section
namespace Hp
def lt(a b:Int×Int):Bool:=decide (a.1<b.1∨a.1=b.1∧a.2<b.2)
def le(a b:Int×Int):Prop:=lt b a=false
theorem le_iff{a b:Int×Int}:le a b↔a.1<b.1∨a.1=b.1∧a.2≤b.2:=by
 unfold le lt;rw [decide_eq_false_iff_not];omega
theorem Zn{a b:Int×Int}:lt a b=true↔a.1<b.1∨a.1=b.1∧a.2<b.2:=by unfold lt;rw [decide_eq_true_eq]
theorem le_refl(a:Int×Int):le a a:=le_iff.2 (.inr ⟨rfl,Int.le_refl _⟩)
theorem le_trans{a b c:Int×Int}(h1:le a b)(h2:le b c):le a c:=by
 rw [le_iff]at*;omega
theorem le_of_lt{a b:Int×Int}(h:lt a b=true):le a b:=by
 rw [Zn]at h;rw [le_iff];omega
theorem vM{a b:Int×Int}(h:lt a b=false):le b a:=h
def par(k:Nat):Nat:=(k - 1)/ 2
theorem my{k:Nat}(h:0<k):par k<k:=by unfold par;omega
theorem Fi{k i:Nat}(h:0<k):par k=i↔k=2*i+1∨k=2*i+2:=by unfold par;omega
section
variable {α : Type} {key : α → Int × Int}
def swp(f:Nat→α)(i j:Nat):Nat→α:=fun k=>if k=i then f j else if k=j then f i else f k
def Heap(key:α→Int×Int)(n:Nat)(f:Nat→α):Prop:=∀k,0<k→k<n→le (key (f (par k))) (key (f k))
structure Up(key:α→Int×Int)(n:Nat)(f:Nat→α)(j:Nat):Prop where
 a:∀k,0<k→k<n→k≠j→le (key (f (par k))) (key (f k))
 b:∀k,0<k→k<n→par k=j→0<j→le (key (f (par j))) (key (f k))
theorem Up.step{n:Nat}{f:Nat→α}{j:Nat}(h:Up key n f j)(h0:0<j)(hn:j<n)(hl:lt (key (f j)) (key (f (par j)))=true):Up key n (swp f (par j) j) (par j):=by
 have hi:=my h0;refine⟨fun k k0 kn ki=> ?_,fun k k0 kn kp i0=> ?_⟩
 ·unfold swp;by_cases hk:k=j
  ·subst hk;rw [if_pos rfl,if_neg (by omega),if_pos rfl];exact le_of_lt hl
  ·rw [if_neg ki,if_neg hk];by_cases p1:par k=par j
   ·rw [if_pos p1]
    have:=h.a k k0 kn hk
    rw [p1]at this;exact le_trans (le_of_lt hl) this
   ·rw [if_neg p1];by_cases p2:par k=j
    ·rw [if_pos p2];exact h.b k k0 kn p2 h0
    ·rw [if_neg p2];exact h.a k k0 kn hk
 ·have hpi:=my i0;have hkk:=my k0;have hii:=h.a (par j) i0 (by omega) (by omega);unfold swp;rw [if_neg (by omega),if_neg (by omega),if_neg (by omega)];by_cases hk:k=j
  ·rw [if_pos hk];exact hii
  ·rw [if_neg hk]
   have:=h.a k k0 kn hk
   rw [kp]at this;exact le_trans hii this
theorem Up.done{n:Nat}{f:Nat→α}{j:Nat}(h:Up key n f j)(hj:j=0∨lt (key (f j)) (key (f (par j)))=false):Heap key n f:=fun k k0 kn=>by
 by_cases hk:k=j
 ·subst hk;rcases hj with hj|hj
  ·omega
  ·exact hj
 ·exact h.a k k0 kn hk
theorem Heap.up{n:Nat}{f:Nat→α}(h:Heap key n f):Up key (n+1) f n:=
 ⟨fun k k0 kn kj=>h k k0 (by omega),fun k k0 kn kp j0=>by have:=my k0;omega⟩
structure Down(key:α→Int×Int)(n:Nat)(f:Nat→α)(i:Nat):Prop where
 a:∀k,0<k→k<n→par k≠i→le (key (f (par k))) (key (f k))
 b:∀k,0<k→k<n→par k=i→0<i→le (key (f (par i))) (key (f k))
theorem Down.step{n:Nat}{f:Nat→α}{i j:Nat}(h:Down key n f i)(j0:0<j)(hn:j<n)(hp:par j=i)(hm:∀k,0<k→k<n→par k=i→le (key (f j)) (key (f k)))(hl:lt (key (f j)) (key (f i))=true):Down key n (swp f i j) j:=by
 have hi:=my j0;refine⟨fun k k0 kn kp=> ?_,fun k k0 kn kp _=> ?_⟩
 ·have hkk:=my k0;unfold swp;by_cases hk:k=j
  ·subst hk;rw [if_pos hp,if_neg (by omega),if_pos rfl];exact le_of_lt hl
  ·by_cases p1:par k=i
   ·rw [if_pos p1,if_neg (by omega),if_neg hk];exact hm k k0 kn p1
   ·rw [if_neg p1,if_neg kp];by_cases ki:k=i
    ·subst ki;rw [if_pos rfl];exact h.b j j0 hn hp k0
    ·rw [if_neg ki,if_neg hk];exact h.a k k0 kn p1
 ·have hkk:=my k0;unfold swp;rw [if_pos hp,if_neg (by omega),if_neg (by omega)]
  have:=h.a k k0 kn (by omega)
  rw [kp]at this;exact this
theorem Down.done{n:Nat}{f:Nat→α}{i:Nat}(h:Down key n f i)(hj:∀k,0<k→k<n→par k=i→le (key (f i)) (key (f k))):Heap key n f:=fun k k0 kn=>by
 by_cases hk:par k=i
 ·rw [hk];exact hj k k0 kn hk
 ·exact h.a k k0 kn hk
theorem Heap.down{n m:Nat}{f:Nat→α}(h:Heap key (n+1) f)(hm:m=n):Down key n (swp f 0 m) 0:=by
 subst hm;refine⟨fun k k0 kn kp=> ?_,fun k k0 kn kp i0=>by omega⟩;have hkk:=my k0;unfold swp;rw [if_neg kp,if_neg (by omega),if_neg (by omega),if_neg (by omega)];exact h k k0 (by omega)
theorem Heap.root{n:Nat}{f:Nat→α}(h:Heap key n f):∀k,k<n→le (key (f 0)) (key (f k)):=by
 intro k
 induction k using Nat.strongRecOn with
 |ind k ih=>
  intro hk;by_cases k0:k=0
  ·rw [k0];exact le_refl _
  ·have hp:=my (show 0<k by omega);exact le_trans (ih _ hp (by omega)) (h k (by omega) hk)
end
section
variable {α : Type} [Inhabited α]
def at_(l:List α)(k:Nat):α:=l.getD k default
theorem at_lt{l:List α}{k:Nat}(h:k<l.length):at_ l k=l[k]:=by simp [at_,List.getD_eq_getElem?_getD,h]
def rF(l:List α)(i j:Nat):List α:=(l.set i (at_ l j)).set j (at_ l i)
theorem ob(l:List α)(i j:Nat):(rF l i j).length=l.length:=by unfold rF;rw [List.length_set,List.length_set]
theorem RQ{l:List α}{i k:Nat}{x:α}(hi:i<l.length):at_ (l.set i x) k=if k=i then x else at_ l k:=by
 unfold at_;rw [List.getD_eq_getElem?_getD,List.getElem?_set,List.getD_eq_getElem?_getD];by_cases h:i=k
 ·subst h;rw [if_pos rfl,if_pos rfl,if_pos hi];rfl
 ·rw [if_neg h,if_neg (Ne.symm h)]
theorem lZ{l:List α}{i j:Nat}(hi:i<l.length)(hj:j<l.length):at_ (rF l i j)=swp (at_ l) i j:=by
 funext k;unfold rF swp;rw [RQ (by rw [List.length_set];exact hj),RQ hi];by_cases h1:k=i
 ·by_cases h2:k=j
  ·rw [if_pos h2,if_pos h1,←h1,h2]
  ·rw [if_neg h2,if_pos h1,if_pos h1]
 ·by_cases h2:k=j
  ·rw [if_pos h2,if_neg h1,if_pos h2]
  ·rw [if_neg h2,if_neg h1,if_neg h1,if_neg h2]
theorem oc{l:List α}{i j:Nat}(hi:i<l.length)(hj:j<l.length):(rF l i j).Perm l:=by
 unfold rF;rw [at_lt hi,at_lt hj];exact List.set_set_perm hi hj
theorem Dm{l m:List α}{k:Nat}(h:k<l.length):at_ (l++m) k=at_ l k:=by
 unfold at_;rw [List.getD_eq_getElem?_getD,List.getD_eq_getElem?_getD,List.getElem?_append_left h]
theorem OJ{l:List α}{x:α}:at_ (l++ [x]) l.length=x:=by
 unfold at_;rw [List.getD_eq_getElem?_getD];simp
end
theorem Heap.congr{α:Type}{key:α→Int×Int}{n:Nat}{f g:Nat→α}(h:Heap key n f)(e:∀k,k<n→f k=g k):Heap key n g:=fun k k0 kn=>by
 have hp:=my k0;rw [←e k kn,←e (par k) (by omega)];exact h k k0 kn
end Hp
end
noncomputable section
open Go.RowKit Go.Lib
namespace Hp
abbrev Sm3:=Int×Int×Int
structure Hd where
 k:Int
 a:Option Addr
 c:Nat
 l:List Sm3
instance:Inhabited Hd:=⟨⟨0,none,0,[]⟩⟩
def Hd.key(h:Hd):Int×Int:=((h.l.headD (0,0,0)).1,h.k)
@[go_sem] abbrev HV (h:Hd):Value:= .agg #[.int .i64 h.k,.slice h.a h.l.length h.c]
def enc(h:Hd):List Value:= [.int .i64 h.k,.slice h.a h.l.length h.c]
def dV(l:List Hd):List Value:=l.flatMap enc
theorem jt(h:Hd)(l:List Hd):dV (h::l)=enc h++dV l:=rfl
theorem zi(l m:List Hd):dV (l++m)=dV l++dV m:=by simp [dV]
theorem sN(l:List Hd):(dV l).length=l.length*2:=by
 induction l with
 |nil=>rfl
 |cons h l ih=>rw [jt,List.length_append,ih];simp [enc];omega
theorem zj:∀(l:List Hd) (i:Nat),i<l.length→(dV l)[i*2]? =some (.int .i64 (at_ l i).k)
 | [],i,h=>by simp at h
 |x::l,0,h=>rfl
 |x::l,i+1,h=>by
  rw [jt,List.getElem?_append_right (by simp [enc];omega)]
  have:=zj l i (by simpa using h)
  rw [show(i+1)*2 - (enc x).length=i*2 by simp [enc];omega,this];rfl
theorem zk:∀(l:List Hd) (i:Nat),i<l.length→(dV l)[i*2+1]? =some (.slice (at_ l i).a (at_ l i).l.length (at_ l i).c)
 | [],i,h=>by simp at h
 |x::l,0,h=>rfl
 |x::l,i+1,h=>by
  rw [jt,List.getElem?_append_right (by simp [enc];omega)]
  have:=zk l i (by simpa using h)
  rw [show(i+1)*2+1 - (enc x).length=i*2+1 by simp [enc];omega,this];rfl
def RdS(w:World)(base:Nat)(a:Option Addr)(l:List Sm3):Prop:=∀i,(h:i<l.length)→∃b,a=some b∧b.block<base∧w.cell? (b.add (i*3))=some (.int .i64 l[i].1)∧w.cell? (b.add (i*3+1))=some (.int .i64 l[i].2.1)∧w.cell? (b.add (i*3+2))=some (.int .u64 l[i].2.2)
theorem RdS.below{w w':World}{base:Nat}{a:Option Addr}{l:List Sm3}(h:RdS w base a l)(hs:base≤w.heap.size)(hb:Below base w w'):RdS w' base a l:=by
 intro i hi;obtain⟨b,e,hl,h0,h1,h2⟩:=h i hi;exact⟨b,e,hl,(hb.cell (by rw [uc];exact hl)).trans h0,(hb.cell (by rw [uc];exact hl)).trans h1,(hb.cell (by rw [uc];exact hl)).trans h2⟩
def Good(w:World)(base:Nat)(hs:List Hd):Prop:=∀h∈hs,h.l≠[]∧RdS w base h.a h.l
theorem Good.below{w w':World}{base:Nat}{hs:List Hd}(h:Good w base hs)(hz:base≤w.heap.size)(hb:Below base w w'):Good w' base hs:=fun x hx=>⟨(h x hx).1,(h x hx).2.below hz hb⟩
def RdH(w:World)(a:Option Addr)(hs:List Hd):Prop:=∀i,i<hs.length→∃b,a=some b∧b.block<w.heap.size∧w.cell? (b.add (i*2))=some (.int .i64 (at_ hs i).k)∧w.cell? ⟨b.block,(b.add (i*2)).off+1,none⟩=some (.slice (at_ hs i).a (at_ hs i).l.length (at_ hs i).c)
theorem HE(a:Addr)(k:Nat):a.add (k+1)=⟨a.block,(a.add k).off+1,none⟩:=by
 unfold Addr.add;by_cases h:k=0
 ·subst h;simp
 ·simp [h];omega
theorem Fj{w:World}{base:Nat}{a:Option Addr}{n c:Nat}{hs:List Hd}(h:w.ownsRow base 97 2 (.slice a n c) n (dV hs))(hn:n=hs.length):RdH w a hs:=by
 intro i hi;rcases h.2 with⟨e,h0⟩|⟨g,cap,cur,e,hbg,hg,hnc,hcm,hcs,htake⟩
 ·omega
 ·cases e;have hl:=h.lt g rfl;have h0:=h.cells (g:=g) rfl (i*2) _ (zj hs i hi);have h1:=h.cells (g:=g) rfl (i*2+1) _ (zk hs i hi);refine⟨⟨g,0,none⟩,rfl,hl.2,h0,?_⟩;rw [HE]at h1;exact h1
set_option maxRecDepth 100000 in
theorem ra(a:Option Addr)(n c:Nat)(w:World):Calls Try.prog 34 #[.slice a n c] w fun e w'=>e= .returned (.int .i64 n)∧w'=w:=by
 go_enter Try.func34,Try.ntmps34
 go_wp2
 go_ret
 exact⟨rfl,rfl⟩
theorem bld{b:Nat}{w W:World}{n:Nat}(h:Below b w W):Below b w (W.drewN n):=⟨h.1,h.2,h.3,h.4,h.5⟩
theorem Zo{b:Nat}{w W:World}(h:Below b w W):Below b w W.drew:=⟨h.1,h.2,h.3,h.4,h.5⟩
theorem aca{a b c d:Int}(h:a≠b):lt (a,c) (b,d)=decide (a<b):=by
 unfold lt;simp only;congr 1;exact propext (by omega)
theorem acb{a b c d:Int}(h:a=b):lt (a,c) (b,d)=decide (c<d):=by
 unfold lt;simp only;congr 1;exact propext (by omega)
set_option maxRecDepth 100000 in
set_option maxHeartbeats 1000000 in
theorem Kx(a:Option Addr)(c:Nat)(hs:List Hd)(i k base:Nat)(w:World)(hr:RdH w a hs)(hg:Good w base hs)(hz:base≤w.heap.size)(hi:i<hs.length)(hk:k<hs.length)(hl:hs.length≤100000):
  Calls Try.prog 123 #[.slice a hs.length c,.int .i64 i,.int .i64 k] w fun e w'=>e= .returned (.bool (lt (at_ hs i).key (at_ hs k).key))∧Below w.heap.size w w':=by
 obtain⟨b,rfl,hb,i0,i1⟩:=hr i hi;obtain⟨b',e',hb',k0,k1⟩:=hr k hk;cases e';have hi':((i:Nat):Int)<hs.length:=by omega
 have hk':((k:Nat):Int)<hs.length:=by omega
 have mi:at_ hs i∈hs:=by rw [at_lt hi];exact List.getElem_mem hi
 have mk:at_ hs k∈hs:=by rw [at_lt hk];exact List.getElem_mem hk
 obtain⟨ni,ri⟩:=hg _ mi;obtain⟨nk,rk⟩:=hg _ mk;clear hg mi mk hr;generalize at_ hs i=H at i0 i1 ni ri ⊢;generalize at_ hs k=G at k0 k1 nk rk ⊢;obtain⟨hk1,ha,hc,hl1⟩:=H;obtain⟨gk1,ga,gc,gl1⟩:=G;simp only at i0 i1 k0 k1 ni nk ri rk ⊢
 cases hl1 with
 |nil=>exact absurd rfl ni
 |cons x xs=>
 cases gl1 with
 |nil=>exact absurd rfl nk
 |cons y ys=>
 obtain⟨bx,rfl,lx,x0,_⟩:=ri 0 (by simp);obtain⟨by',rfl,ly,y0,_⟩:=rk 0 (by simp);have x0:w.cell? bx=some (.int .i64 x.1):=by simpa [Addr.add]using x0
 have y0:w.cell? by'=some (.int .i64 y.1):=by simpa [Addr.add]using y0
 have hx:=Has.of (show bx.block<w.heap.size by omega);have hy:=Has.of (show by'.block<w.heap.size by omega);have hK:∀(p q:Int),Hd.key ⟨p,some bx,hc,x::xs⟩=(x.1,p):=fun _ _=>rfl;clear ri rk ni nk
 go_enter Try.func123,Try.ntmps123
 go_wp2
 go_region
 all_goals go_wp2
 all_goals go_quiet (fail)
 all_goals go_wp2
 all_goals first
  |(go_quiet (fail)
    go_wp2
    go_ret
    refine⟨?_,?_⟩)
  |(go_ret
    refine⟨?_,?_⟩)
 all_goals first
  |exact bld (bld (Zo (bla (bla (Below.refl _ _) _) _)))
  |exact bld (bla (bla (Below.refl _ _) _) _)
  |(have h:=‹(x.fst !=y.fst)=true›
    show Ending.returned (.bool (decide (x.fst<y.fst)))=Ending.returned (.bool (lt (x.1,hk1) (y.1,gk1)))
    rw [aca (by simpa using h)])
  |(have h:=‹(x.fst !=y.fst)=false›
    show Ending.returned (.bool (decide (hk1<gk1)))=Ending.returned (.bool (lt (x.1,hk1) (y.1,gk1)))
    rw [acb (by simpa using h)])
end Hp
end
noncomputable section
open Go.RowKit Go.Lib
namespace Hp
theorem Dn(g i:Nat):((⟨g,0,none⟩:Addr).add i)=⟨g,i,none⟩:=by
 unfold Addr.add;by_cases h:i=0
 ·subst h;simp
 ·simp [h]
theorem zl:∀(l:List Hd) (i:Nat) (x:Hd),((dV l).set (i*2) (.int .i64 x.k)).set (i*2+1) (.slice x.a x.l.length x.c)=dV (l.set i x)
 | [],i,x=>by simp [dV]
 |y::l,0,x=>rfl
 |y::l,i+1,x=>by
  have ih:=zl l i x;rw [List.set_cons_succ,jt,jt,←ih,show(i+1)*2=i*2+2 by omega];rfl
theorem Do{cur:Array Value}{hs:List Hd}{n:Nat}(h:cur.toList.take (n*2)=dV hs)(i:Nat)(x:Hd):((cur.setIfInBounds (i*2) (.int .i64 x.k)).setIfInBounds (i*2+1) (.slice x.a x.l.length x.c)).toList.take (n*2)=dV (hs.set i x):=by
 rw [Array.toList_setIfInBounds,Array.toList_setIfInBounds,List.take_set,List.take_set,h,zl]
set_option maxRecDepth 100000 in
set_option maxHeartbeats 1000000 in
theorem Kz(base g n c:Nat)(hs:List Hd)(i k:Nat)(w:World)(hown:w.ownsRow base 97 2 (.slice (some ⟨g,0,none⟩) n c) n (dV hs))(hn:n=hs.length)(hi:i<n)(hk:k<n)(hl:n≤100000):
  Calls Try.prog 126 #[.slice (some ⟨g,0,none⟩) n c,.int .i64 i,.int .i64 k] w fun e w'=>e= .returned (.tuple #[])∧w'.ownsRow base 97 2 (.slice (some ⟨g,0,none⟩) n c) n (dV (rF hs i k))∧w.grownBy w' (some g):=by
 have hr:=Fj hown hn;rcases hown.2 with⟨e,h0⟩|⟨g',cap,cur,e,hbg,hg,hnc,hcm,hcs,htake⟩
 ·omega
 cases e;obtain⟨b,e,hb,i0,i1⟩:=hr i (by omega);cases e;obtain⟨b',e',hb',k0,k1⟩:=hr k (by omega);cases e';have hC:CellsAt w g 97 cur:=hg;have hi':((i:Nat):Int)<n:=by omega
 have hk':((k:Nat):Int)<n:=by omega
 rw [Dn]at i0 i1 k0 k1;have f0:=hC.frozen (i*2);have f1:=hC.frozen (i*2+1);have f2:=hC.frozen (k*2);have f3:=hC.frozen (k*2+1);have hC1:=(hC.set (i*2) (.int .i64 (at_ hs k).k)).set (i*2+1) (.slice (at_ hs k).a (at_ hs k).l.length (at_ hs k).c)
 have hz:∀j,j<cur.size→∃u,((w.setCell ⟨g,i*2,none⟩ (.int .i64 (at_ hs k).k)).setCell ⟨g,i*2+1,none⟩ (.slice (at_ hs k).a (at_ hs k).l.length (at_ hs k).c)).cell? ⟨g,j,none⟩=some u:=fun j hj=>by
  rw [hC1.cell];exact⟨_,Array.getElem?_eq_getElem (by rw [Array.size_setIfInBounds,Array.size_setIfInBounds];exact hj)⟩
 obtain⟨u0,z0⟩:=hz (k*2) (by omega);obtain⟨u1,z1⟩:=hz (k*2+1) (by omega);have h0:=hC1.frozen (k*2);have h1:=hC1.frozen (k*2+1);clear hz;clear hr
 go_enter Try.func126,Try.ntmps126
 go_wp2
 go_region
 go_wp2
 go_end0
 refine⟨rfl,⟨by rw [sN,ob,hn],.inr ⟨g,c,_,rfl,hbg,((hC1.set (k*2) (.int .i64 (at_ hs i).k)).set (k*2+1) (.slice (at_ hs i).a (at_ hs i).l.length (at_ hs i).c)),hnc,hcm,by simp only [Array.size_setIfInBounds];exact hcs,?_⟩⟩,?_⟩
 ·exact Do (Do htake i (at_ hs k)) k (at_ hs i)
 ·have hG:=(((bJ w g (i*2) (.int .i64 (at_ hs k).k)).trans (bJ _ g (i*2+1) (.slice (at_ hs k).a (at_ hs k).l.length (at_ hs k).c))).trans (bJ _ g (k*2) (.int .i64 (at_ hs i).k))).trans (bJ _ g (k*2+1) (.slice (at_ hs i).a (at_ hs i).l.length (at_ hs i).c));exact⟨hG.1,hG.2,hG.3,hG.4,hG.5⟩
end Hp
end
noncomputable section
open Go.RowKit Go.Lib Go.Sort
namespace Hp
theorem acd:(Try.prog.info? 97).map (fun i=>(i.zero,i.size,i.bytes))=some (some (.agg #[.int .i64 0,.slice none 0 0]),2,32):=by kernel_rfl
theorem wU{P:Program}{e:TypeId}{z:Value}{s b:Nat}(h:(P.info? e).map (fun i=>(i.zero,i.size,i.bytes))=some (some z,s,b)):∃i,P.info? e=some i∧i.zero=some z∧i.size=s∧i.bytes=b:=by
 obtain⟨i,hi,he⟩:=Option.map_eq_some_iff.1 h;simp at he;exact⟨i,hi,he.1,he.2.1,he.2.2⟩
theorem KA(l:List Hd):∀u∈dV l,u.oneCell'=true:=by
 induction l with
 |nil=>intro u hu;simp [dV]at hu
 |cons h l ih=>
  intro u hu;rw [jt]at hu;rcases List.mem_append.1 hu with hu|hu
  ·simp only [enc,List.mem_cons,List.not_mem_nil,or_false]at hu;rcases hu with rfl|rfl<;>rfl
  ·exact ih u hu
theorem vN{w:World}{base n:Nat}{e:TypeId}{s:Nat}{v:Value}{xs:List Value}(h:w.ownsRow base e s v n xs):∃a c,v= .slice a n c∧(a=none→n=0∧c=0):=by
 rcases h.2 with⟨e,h0⟩|⟨g,cap,cur,e,_⟩
 ·subst h0;exact⟨none,0,e,fun _=>⟨rfl,rfl⟩⟩
 ·exact⟨some ⟨g,0,none⟩,cap,e,fun h=>by cases h⟩
structure OkF(F:Nat→Prop)(base:Nat)(w:World):Prop where
 lo:∀k,k<base→F k
 hi:∀k,F k→k<w.heap.size
theorem OkF.le{F:Nat→Prop}{base:Nat}{w:World}(h:OkF F base w):base≤w.heap.size:=by
 rcases Nat.eq_zero_or_pos base with e|e
 ·omega
 ·have:=h.hi _ (h.lo (base - 1) (by omega));omega
def Kp(F:Nat→Prop)(w w':World):Prop:=Below 0 w w'∧∀k,F k→k<w.heap.size→w'.heap[k]? =w.heap[k]?
theorem Kp.refl(F:Nat→Prop)(w:World):Kp F w w:=⟨Below.refl _ _,fun _ _ _=>rfl⟩
theorem Kp.size{F:Nat→Prop}{w w':World}(h:Kp F w w'):w.heap.size≤w'.heap.size:=h.1.size
theorem Kp.trans{F:Nat→Prop}{w w' w2:World}(h:Kp F w w')(h2:Kp F w' w2):Kp F w w2:=⟨h.1.trans h2.1,fun k hf hk=>(h2.2 k hf (Nat.lt_of_lt_of_le hk h.size)).trans (h.2 k hf hk)⟩
theorem Kp.of_below{F:Nat→Prop}{w w':World}(h:Below w.heap.size w w'):Kp F w w':=⟨⟨h.os,h.tape,h.output,h.size,fun k hk=>by omega⟩,fun k _ hk=>h.block k hk⟩
theorem Kp.of_grown{F:Nat→Prop}{w w':World}{row:Option Nat}(hg:w.grownBy w' row)(hr:∀k,row=some k→¬F k):Kp F w w':=⟨⟨hg.os,hg.tape,hg.output,hg.size,fun k hk=>by omega⟩,fun k hf hk=>hg.block k hk (fun e=>hr k e.symm hf)⟩
theorem OkF.mono{F:Nat→Prop}{base:Nat}{w w':World}(h:OkF F base w)(hb:w.heap.size≤w'.heap.size):OkF F base w':=⟨h.lo,fun k hf=>Nat.lt_of_lt_of_le (h.hi k hf) hb⟩
theorem Kp.bel{F:Nat→Prop}{base:Nat}{w w':World}(h:Kp F w w')(hz:OkF F base w):Below base w w':=⟨h.1.os,h.1.tape,h.1.output,h.1.size,fun k hk=>h.2 k (hz.lo k hk) (by have:=hz.le;omega)⟩
theorem Good.kp{F:Nat→Prop}{w w':World}{base:Nat}{hs:List Hd}(h:Good w base hs)(hz:OkF F base w)(hb:Kp F w w'):Good w' base hs:=h.below hz.le (hb.bel hz)
def QH(F:Nat→Prop)(w:World)(base Q:Nat)(hs:List Hd):Prop:=¬F Q∧∃a c,CellsAt w Q 93 #[.slice a hs.length c]∧w.ownsRow base 97 2 (.slice a hs.length c) hs.length (dV hs)∧∀g,(Value.slice a hs.length c).ownBlock=some g→g≠Q∧¬F g
theorem adz{base:Nat}{w W W':World}{row:Option Nat}(h:Below base w W)(hg:W.grownBy W' row)(hr:∀k,row=some k→base≤k)(hb:base≤W.heap.size):Below base w W':=h.trans ⟨hg.os,hg.tape,hg.output,hg.size,fun k hk=>hg.block k (by omega) (fun e=>by have:=hr k e.symm;omega)⟩
theorem gC{α:Type}(l:List α)(x:α):(l++ [x]).length=l.length+1:=by simp
theorem kq{w w':World}{base n:Nat}{e:TypeId}{s:Nat}{v:Value}{xs:List Value}(h:w.ownsRow base e s v n xs)(hb:Below w.heap.size w w'):w'.ownsRow base e s v n xs:=h.kept (iy hb none) (Classical.em _)
theorem xT{P:Program}{ops:Array Oper}{o:Oper}{a:Act}{w:World}{K:Act→World→Prop}{Q:Exit→Act→World→Prop}{E:Prop}
  (hg:o.guard=none) (d x:Operand) (dT sT:TypeId) (hop:o.op=Op.call {callee:=Callee.builtin Builtin.append,args:=#[d,x],argTypes:=#[dT,sT]})
  (v u:Value) (hd:a.eval d=v) (hx:a.eval x=u) {v':Value} {w':World} (hr:(Builtin.append_ #[dT,sT] o.type #[v,u]).run P w= .ok v' w') (hK:K (a.put o.dst v') w'):
  if Region.wanted o (yielded ops a.tmps)=true then Oper.wp P o a w K Q else E:=by
 have hw:Region.wanted o (yielded ops a.tmps)=true:=by simp [Region.wanted,hg]
 rw [if_pos hw];unfold Oper.wp;simp [execOp,hop,resolve,invoke,builtin,hd,hx,hr,Result.andThen];exact hK
set_option maxRecDepth 100000 in
set_option maxHeartbeats 1000000 in
theorem HF(F:Nat→Prop)(base Q:Nat)(hs:List Hd)(x:Hd)(w:World)(h:QH F w base Q hs)(hzF:OkF F base w)(hl:hs.length≤100000):
  Calls Try.prog 125 #[.pointer (some ⟨Q,0,none⟩),.iface 97 (HV x)] w fun e w'=>e= .returned (.tuple #[])∧QH F w' base Q (hs++ [x])∧Kp F w w':=by
 have hz:=hzF.le;obtain⟨hbQ,a,c,hC,hown,hne⟩:=h;have q0:w.cell? ⟨Q,0,none⟩=some (.slice a hs.length c):=hC.cell 0;have kQ:=Has.of hC.lt;have hQlt:=hC.lt;obtain⟨i0,hi0,hz0,hz1,hz2⟩:=wU acd
 have hAP:∀W,(W=w.drew.alloc (.cells #[.int .i64 x.k,.slice x.a x.l.length x.c] 97)∨W=(w.alloc (.cells #[.int .i64 x.k,.slice x.a x.l.length x.c] 97)).drew)→∃a' c' w',(Builtin.append_ #[91,91] 91 #[.slice a hs.length c,.slice (some ⟨w.heap.size,0,none⟩) 1 1]).run Try.prog W= .ok (.slice a' (hs.length+1) c') w'∧w'.ownsRow base 97 2 (.slice a' (hs.length+1) c') (hs.length+1) (dV (hs++ [x]))∧(∀g,(Value.slice a' (hs.length+1) c').ownBlock=some g→g≠Q∧¬F g)∧CellsAt w' Q 93 #[.slice a hs.length c]∧Kp F w w':=fun W hW=>by
  have hB:Below w.heap.size w W:=by
   rcases hW with rfl|rfl
   ·exact bla (Zo (Below.refl _ _)) _
   ·exact Zo (bla (Below.refl _ _) _)
  have hX:CellsAt W w.heap.size 97 #[.int .i64 x.k,.slice x.a x.l.length x.c]:=by
   have h0:CellsAt (w.alloc (.cells #[.int .i64 x.k,.slice x.a x.l.length x.c] 97)) w.heap.size 97 #[.int .i64 x.k,.slice x.a x.l.length x.c]:=World.alloc_heap_new w _;rcases hW with rfl|rfl
   ·exact h0
   ·exact h0
  have hzW:base≤W.heap.size:=Nat.le_trans hz hB.size
  obtain⟨v',w',h1,h2,h3,_,h5⟩:=run_append_own_at (P:=Try.prog) (w:=W) base 91 91 97 i0 (.agg #[.int .i64 0,.slice none 0 0]) 2 32 Try.underlying91 hi0 hz0 hz1 hz2 rfl (by decide) _ hs.length (dV hs) (kq hown hB) ⟨w.heap.size,0,none⟩ 1 1 (dV [x]) rfl (fun j u hj=>by
   rw [Dn,hX.cell];have hj2:j<2:=by have:=(List.getElem?_eq_some_iff.1 hj).1;simpa [dV,enc]using this
   rcases(show j=0∨j=1 by omega)with rfl|rfl
   ·exact hj
   ·exact hj) (KA [x]) (by unfold maxLen;omega) (by omega) hzW
  obtain⟨a',c',rfl,_⟩:=vN h2;have hoW:∀k,(Value.slice a hs.length c).ownBlock=some k→base≤k∧k<W.heap.size:=(kq hown hB).lt;refine⟨a',c',w',h1,by rw [zi];exact h2,fun g hg=> ?_,(hC.below hB).grown h3 (fun e=>(hne Q e.symm).1 rfl),?_⟩
  ·rcases h5 with h5|h5
   ·exact hne g (h5.symm.trans hg)
   ·rw [h5]at hg
    have:W.heap.size=g:=Option.some.inj hg
    have hsz:=hB.size;refine⟨by omega,fun hf=> ?_⟩
    have:=hzF.hi g hf
    omega
  ·exact(Kp.of_below hB).trans (Kp.of_grown h3 (fun k hk=>(hne k hk).2))
 have hTA:∀W:World,(Instr.typeAssert (.iface 97 (.agg #[.int .i64 x.k,.slice x.a x.l.length x.c])) 20 97 false).run Try.prog W= .ok (.agg #[.int .i64 x.k,.slice x.a x.l.length x.c]) W:=fun _=>by kernel_rfl
 go_enter Try.func125,Try.ntmps125
 go_wp2
 go_region_law (obtain⟨a',c',w3,hrun,hown3,hne3,hC3,hB3⟩:=hAP _ (by first|exact .inl rfl|exact .inr rfl);have t0:=hC3.cell 0;have tf:=hC3.frozen 0;have tk:=Has.of hC3.lt;refine xT rfl (.tmp 8) (.tmp 11) 91 91 rfl _ _ (by simp [Act.eval,Act.put]) (by simp [Act.eval,Act.put]) hrun ?_)
 all_goals go_wp2
 all_goals go_end0
 all_goals (
  refine⟨rfl,⟨hbQ,a',c',?_,?_,?_⟩,hB3.trans (Kp.of_grown (bJ w3 Q 0 _) (fun k e=>by cases e;exact hbQ))⟩
  ·rw [gC];simpa using hC3.set 0 (.slice a' (hs.length+1) c')
  ·rw [gC];exact hown3.kept (bJ w3 Q 0 _) (.inr (fun e=>(hne3 Q e).1 rfl))
  ·rw [gC]
   exact hne3)
end Hp
end
noncomputable section
open Go.RowKit Go.Lib Go.Sort
namespace Hp
theorem RS{w:World}{base g n c:Nat}{hs:List Hd}{x:Hd}(h:w.ownsRow base 97 2 (.slice (some ⟨g,0,none⟩) (n+1) c) (n+1) (dV (hs++ [x])))(hn:hs.length=n):w.ownsRow base 97 2 (.slice (some ⟨g,0,none⟩) n c) n (dV hs):=by
 rcases h.2 with⟨e,h0⟩|⟨g',cap,cur,e,hbg,hg,hnc,hcm,hcs,htake⟩
 ·omega
 ·cases e;refine⟨by rw [sN,hn],.inr ⟨g,c,cur,rfl,hbg,hg,by omega,hcm,hcs,?_⟩⟩
  have:=congrArg (List.take (n*2)) htake
  rw [List.take_take,show min (n*2) ((n+1)*2)=n*2 by omega,zi]at this;rw [this,List.take_left' (by rw [sN,hn])]
set_option maxRecDepth 100000 in
set_option maxHeartbeats 1000000 in
theorem KH(F:Nat→Prop)(base Q:Nat)(hs:List Hd)(x:Hd)(w:World)(h:QH F w base Q (hs++ [x]))(hzF:OkF F base w)(hl:hs.length≤100000):
  Calls Try.prog 124 #[.pointer (some ⟨Q,0,none⟩)] w fun e w'=>e= .returned (.iface 97 (HV x))∧QH F w' base Q hs∧Kp F w w':=by
 have hz:=hzF.le;obtain⟨hbQ,a,c,hC,hown,hne⟩:=h;rw [gC]at hC hown hne;obtain⟨n,hn⟩:∃n,n=hs.length:=⟨_,rfl⟩;rw [←hn]at hC hown hne hl;have hr:=Fj hown (by rw [gC,hn])
 have hgo:∃g,a=some ⟨g,0,none⟩∧n+1≤c:=by
  rcases hown.2 with⟨e,h0⟩|⟨g',cap,cur,e,hbg,hg,hnc,hcm,hcs,htake⟩
  ·omega
  ·cases e;exact⟨g',rfl,hnc⟩
 obtain⟨g,rfl,hnc⟩:=hgo;obtain⟨b,e,hb,x0,x1⟩:=hr n (by rw [gC];omega);cases e;rw [Dn]at x0 x1;rw [hn,OJ,←hn]at x0 x1;have q0:w.cell? ⟨Q,0,none⟩=some (.slice (some ⟨g,0,none⟩) (n+1) c):=hC.cell 0;have qf:=hC.frozen 0;have kQ:=Has.of hC.lt;have kg:=Has.of hb;have hlt:((n:Nat):Int)<((n:Nat):Int)+1:=by omega
 have HN:=Lib.hid hn;have hQlt:=hC.lt;clear hn hr
 go_enter Try.func124,Try.ntmps124
 go_wp2
 go_ret
 have hnn:=HN.out;have hC1:CellsAt (w.setCell ⟨Q,0,none⟩ (.slice (some ⟨g,0,none⟩) n c)) Q 93 #[.slice (some ⟨g,0,none⟩) n c]:=by simpa using hC.set 0 (.slice (some ⟨g,0,none⟩) n c)
 have hB1:Kp F w (w.setCell ⟨Q,0,none⟩ (.slice (some ⟨g,0,none⟩) n c)):=Kp.of_grown (bJ w Q 0 _) (fun k e=>by cases e;exact hbQ);have ho1:=(RS hown hnn.symm).kept (bJ w Q 0 (.slice (some ⟨g,0,none⟩) n c)) (.inr (fun e=>(hne Q e).1 rfl));generalize w.setCell ⟨Q,0,none⟩ (.slice (some ⟨g,0,none⟩) n c)=W at hC1 hB1 ho1 ⊢;have hA:Below W.heap.size W (W.alloc (.cells #[.int .i64 x.k,.slice x.a x.l.length x.c] 97)):=bla (Below.refl _ _) _;refine⟨rfl,⟨hbQ,some ⟨g,0,none⟩,c,?_,?_,?_⟩,hB1.trans (Kp.of_below hA)⟩
 ·rw [←hnn];exact hC1.below hA
 ·rw [←hnn];exact ho1.alloc _
 ·rw [←hnn];exact hne
end Hp
end
end Go.Proofs.Ytjjbpdldbdmoeaa
