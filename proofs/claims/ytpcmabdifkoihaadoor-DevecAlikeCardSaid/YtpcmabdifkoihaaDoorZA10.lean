/- Texts of a claim, joined. -/
import Derived.Test.YtpcmabdifkoihaaDoorZA9
import Derived.Lib.QuietBelow
import Derived.Lib.Hide
import Derived.Outline
import Derived.StillTail
import Derived.Laws.OwnMore
import Derived.Maps.AppendAt
import Derived.RangeFuncBox
import Derived.Defers
import Derived.Recover
import Derived.Shelf.SlSortCmp.WholeK
import Derived.Laws.AppendOwnNone
set_option linter.unusedVariables false
set_option linter.unusedSimpArgs false
namespace Go.Proofs.YtpcmabdifkoihaaDoor
noncomputable section
namespace Ev
namespace K
open Go Go.RowKit
set_option maxRecDepth 100000
set_option maxHeartbeats 1000000
def i1:TI:=(⟨.func #[] #[] false,[.nilFunc],1,8⟩:TI)
def i4:TI:=(⟨.bool,[.bool false],1,1⟩:TI)
def i7:TI:=(⟨.struct (cI Tryd.prog 7),[.int .i64 0,.int .i64 0,.bool false,.int .u8 0],4,24⟩:TI)
def i8:TI:=(⟨.struct (cI Tryd.prog 8),[.int .i64 0,.int .i64 0,.bool false,.int .u8 0],4,24⟩:TI)
def i15:TI:=(⟨.pointer 116,[.pointer none],1,8⟩:TI)
def i16:TI:=(⟨.pointer 119,[.pointer none],1,8⟩:TI)
def i17:TI:=(⟨.pointer 129,[.pointer none],1,8⟩:TI)
def i18:TI:=(⟨.struct (cI Tryd.prog 18),[.pointer none],1,8⟩:TI)
def i19:TI:=(⟨.struct (cI Tryd.prog 19),[.pointer none],1,8⟩:TI)
def i22:TI:=(⟨.slice 46,[.slice none 0 0],1,24⟩:TI)
def i23:TI:=(⟨.array 3 3,[.int .i64 0,.int .i64 0,.int .i64 0],3,24⟩:TI)
def i24:TI:=(⟨.struct (cI Tryd.prog 24),[.int .i64 0,.slice none 0 0],2,32⟩:TI)
def i25:TI:=(⟨.struct (cI Tryd.prog 25),[.int .i64 0,.slice none 0 0],2,32⟩:TI)
def i26:TI:=(⟨.func #[5,22] #[25] false,[.nilFunc],1,8⟩:TI)
def i27:TI:=(⟨.slice 83,[.slice none 0 0],1,24⟩:TI)
def i28:TI:=(⟨.slice 2,[.slice none 0 0],1,24⟩:TI)
def i29:TI:=(⟨.struct (cI Tryd.prog 29),[.int .i64 0,.slice none 0 0,.slice none 0 0],3,56⟩:TI)
def i30:TI:=(⟨.struct (cI Tryd.prog 30),[.int .i64 0,.slice none 0 0,.slice none 0 0],3,56⟩:TI)
def i31:TI:=(⟨.func #[25] #[30] false,[.nilFunc],1,8⟩:TI)
def i33:TI:=(⟨.func #[30,3] #[2,4] false,[.nilFunc],1,8⟩:TI)
def i34:TI:=(⟨.func #[25,3] #[2,4] false,[.nilFunc],1,8⟩:TI)
def i35:TI:=(⟨.func #[] #[4] false,[.nilFunc],1,8⟩:TI)
def i36:TI:=(⟨.func #[25,25] #[4] false,[.nilFunc],1,8⟩:TI)
def i37:TI:=(⟨.func #[30] #[25] false,[.nilFunc],1,8⟩:TI)
def i38:TI:=(⟨.func #[30,3,2] #[30] false,[.nilFunc],1,8⟩:TI)
def i39:TI:=(⟨.func #[25,3,2] #[25] false,[.nilFunc],1,8⟩:TI)
def i40:TI:=(⟨.func #[30,3] #[30] false,[.nilFunc],1,8⟩:TI)
def i41:TI:=(⟨.func #[25,3] #[25] false,[.nilFunc],1,8⟩:TI)
def i42:TI:=(⟨.func #[30,3,3] #[30] false,[.nilFunc],1,8⟩:TI)
def i43:TI:=(⟨.func #[25,3,3] #[25] false,[.nilFunc],1,8⟩:TI)
def i44:TI:=(⟨.func #[5,22,23] #[4] false,[.nilFunc],1,8⟩:TI)
def i45:TI:=(⟨.struct (cI Tryd.prog 45),[.int .i64 0,.int .i64 0],2,16⟩:TI)
def i46:TI:=(⟨.struct (cI Tryd.prog 46),[.int .i64 0,.int .i64 0],2,16⟩:TI)
def i49:TI:=(⟨.func #[50,3,22] #[25,47] false,[.nilFunc],1,8⟩:TI)
def i51:TI:=(⟨.func #[25] #[4] false,[.nilFunc],1,8⟩:TI)
def i52:TI:=(⟨.func #[3] #[30] false,[.nilFunc],1,8⟩:TI)
def i53:TI:=(⟨.func #[3,54] #[27] true,[.nilFunc],1,8⟩:TI)
def i54:TI:=(⟨.slice 3,[.slice none 0 0],1,24⟩:TI)
def i55:TI:=(⟨.func #[25] #[54] false,[.nilFunc],1,8⟩:TI)
def i56:TI:=(⟨.func #[30] #[30] false,[.nilFunc],1,8⟩:TI)
def i57:TI:=(⟨.func #[27,3] #[4] false,[.nilFunc],1,8⟩:TI)
def i58:TI:=(⟨.func #[25] #[25] false,[.nilFunc],1,8⟩:TI)
def i60:TI:=(⟨.func #[25,3] #[3,4] false,[.nilFunc],1,8⟩:TI)
def i61:TI:=(⟨.func #[30] #[3] false,[.nilFunc],1,8⟩:TI)
def i62:TI:=(⟨.func #[30,30] #[4] false,[.nilFunc],1,8⟩:TI)
def i63:TI:=(⟨.func #[30] #[4] false,[.nilFunc],1,8⟩:TI)
def i64:TI:=(⟨.func #[30,27] #[30] false,[.nilFunc],1,8⟩:TI)
def i65:TI:=(⟨.func #[22,22] #[4] false,[.nilFunc],1,8⟩:TI)
def i68:TI:=(⟨.func #[30] #[67] false,[.nilFunc],1,8⟩:TI)
def i69:TI:=(⟨.func #[27,3] #[27] false,[.nilFunc],1,8⟩:TI)
def i70:TI:=(⟨.func #[22] #[22] false,[.nilFunc],1,8⟩:TI)
def i71:TI:=(⟨.func #[22,3,22] #[22] true,[.nilFunc],1,8⟩:TI)
def i72:TI:=(⟨.func #[22,3,3] #[22] false,[.nilFunc],1,8⟩:TI)
def i73:TI:=(⟨.func #[27,3,3] #[27] false,[.nilFunc],1,8⟩:TI)
def i74:TI:=(⟨.func #[22,3] #[22] false,[.nilFunc],1,8⟩:TI)
def i75:TI:=(⟨.func #[50] #[4] false,[.nilFunc],1,8⟩:TI)
def i76:TI:=(⟨.slice 78,[.slice none 0 0],1,24⟩:TI)
def i77:TI:=(⟨.struct (cI Tryd.prog 77),[.int .i64 0,.int .i64 0,.int .i64 0],3,24⟩:TI)
def i78:TI:=(⟨.struct (cI Tryd.prog 78),[.int .i64 0,.int .i64 0,.int .i64 0],3,24⟩:TI)
def i80:TI:=(⟨.func #[50,76] #[76,47] false,[.nilFunc],1,8⟩:TI)
def i81:TI:=(⟨.func #[3] #[4] false,[.nilFunc],1,8⟩:TI)
def i82:TI:=(⟨.func #[3] #[27] false,[.nilFunc],1,8⟩:TI)
def i84:TI:=(⟨.func #[3] #[83] false,[.nilFunc],1,8⟩:TI)
def i85:TI:=(⟨.func #[3,81] #[3] false,[.nilFunc],1,8⟩:TI)
def i86:TI:=(⟨.func #[27] #[3] false,[.nilFunc],1,8⟩:TI)
def i87:TI:=(⟨.func #[27,27] #[4] false,[.nilFunc],1,8⟩:TI)
def i88:TI:=(⟨.func #[28,28] #[4] false,[.nilFunc],1,8⟩:TI)
def i89:TI:=(⟨.func #[27,27] #[27] false,[.nilFunc],1,8⟩:TI)
def i90:TI:=(⟨.func #[3,2] #[4] false,[.nilFunc],1,8⟩:TI)
def i91:TI:=(⟨.func #[27] #[27] false,[.nilFunc],1,8⟩:TI)
def i92:TI:=(⟨.func #[22,3] #[] false,[.nilFunc],1,8⟩:TI)
def i95:TI:=(⟨.func #[27] #[94] false,[.nilFunc],1,8⟩:TI)
def i96:TI:=(⟨.slice 99,[.slice none 0 0],1,24⟩:TI)
def i97:TI:=(⟨.func #[78,78] #[4] false,[.nilFunc],1,8⟩:TI)
def i98:TI:=(⟨.struct (cI Tryd.prog 98),[.int .i64 0,.int .u64 0],2,16⟩:TI)
def i99:TI:=(⟨.struct (cI Tryd.prog 99),[.int .i64 0,.int .u64 0],2,16⟩:TI)
def PB:TI:=(⟨.func #[2] #[99] false,[.nilFunc],1,8⟩:TI)
def PC:TI:=(⟨.func #[50,99,99] #[99] false,[.nilFunc],1,8⟩:TI)
def PE:TI:=(⟨.func #[99] #[2,4] false,[.nilFunc],1,8⟩:TI)
def PF:TI:=(⟨.func #[3] #[3] false,[.nilFunc],1,8⟩:TI)
def PG:TI:=(⟨.func #[83] #[3] false,[.nilFunc],1,8⟩:TI)
def PH:TI:=(⟨.func #[27,3] #[3] false,[.nilFunc],1,8⟩:TI)
def PI:TI:=(⟨.func #[27,27,3,108] #[27] false,[.nilFunc],1,8⟩:TI)
def PJ:TI:=(⟨.func #[83,83] #[83] false,[.nilFunc],1,8⟩:TI)
def PK:TI:=(⟨.func #[99,99] #[3] false,[.nilFunc],1,8⟩:TI)
def PL:TI:=(⟨.func #[4] #[99] false,[.nilFunc],1,8⟩:TI)
def PM:TI:=(⟨.func #[99,99] #[99] false,[.nilFunc],1,8⟩:TI)
def PO:TI:=(⟨.func #[22] #[] false,[.nilFunc],1,8⟩:TI)
def PP:TI:=(⟨.array 64 5,[.int .u8 0,.int .u8 0,.int .u8 0,.int .u8 0,.int .u8 0,.int .u8 0,.int .u8 0,.int .u8 0,.int .u8 0,.int .u8 0,.int .u8 0,.int .u8 0,.int .u8 0,.int .u8 0,.int .u8 0,.int .u8 0,.int .u8 0,.int .u8 0,.int .u8 0,.int .u8 0,.int .u8 0,.int .u8 0,.int .u8 0,.int .u8 0,.int .u8 0,.int .u8 0,.int .u8 0,.int .u8 0,.int .u8 0,.int .u8 0,.int .u8 0,.int .u8 0,.int .u8 0,.int .u8 0,.int .u8 0,.int .u8 0,.int .u8 0,.int .u8 0,.int .u8 0,.int .u8 0,.int .u8 0,.int .u8 0,.int .u8 0,.int .u8 0,.int .u8 0,.int .u8 0,.int .u8 0,.int .u8 0,.int .u8 0,.int .u8 0,.int .u8 0,.int .u8 0,.int .u8 0,.int .u8 0,.int .u8 0,.int .u8 0,.int .u8 0,.int .u8 0,.int .u8 0,.int .u8 0,.int .u8 0,.int .u8 0,.int .u8 0,.int .u8 0],64,64⟩:TI)
def PQ:TI:=(⟨.func #[] #[9] false,[.nilFunc],1,8⟩:TI)
def PU:TI:=(⟨.array 0 16,[],0,0⟩:TI)
def PV:TI:=(⟨.struct (cI Tryd.prog 118),[],0,0⟩:TI)
def PX:TI:=(⟨.struct (cI Tryd.prog 119),[],0,0⟩:TI)
def PY:TI:=(⟨.func #[] #[3] false,[.nilFunc],1,8⟩:TI)
def PZ:TI:=(⟨.int .u32,[.int .u32 0],1,4⟩:TI)
def Qa:TI:=(⟨.func #[130,130] #[4] false,[.nilFunc],1,8⟩:TI)
def Qb:TI:=(⟨.pointer 5,[.pointer none],1,8⟩:TI)
def Qc:TI:=(⟨.struct (cI Tryd.prog 128),[.int .u64 0,.int .u64 0,.int .u32 0,.int .u8 0,.int .u8 0,.int .u8 0,.int .u8 0,.nilFunc,.pointer none,.int .i32 0,.int .i32 0],11,48⟩:TI)
def Qd:TI:=(⟨.struct (cI Tryd.prog 129),[.int .u64 0,.int .u64 0,.int .u32 0,.int .u8 0,.int .u8 0,.int .u8 0,.int .u8 0,.nilFunc,.pointer none,.int .i32 0,.int .i32 0],11,48⟩:TI)
def TT:List (Nat×TI):= [(1,i1),
 (2,(⟨.int .i64,[.int .i64 0],1,8⟩:TI)),
 (3,(⟨.int .i64,[.int .i64 0],1,8⟩:TI)),
 (4,i4),
 (5,(⟨.int .u8,[.int .u8 0],1,1⟩:TI)),
 (6,(⟨.int .u8,[.int .u8 0],1,1⟩:TI)),
 (7,i7),
 (8,i8),
 (12,(⟨.int .u64,[.int .u64 0],1,8⟩:TI)),
 (15,i15),
 (16,i16),
 (17,i17),
 (18,i18),
 (19,i19),
 (21,(⟨.int .i32,[.int .i32 0],1,4⟩:TI)),
 (22,i22),
 (23,i23),
 (24,i24),
 (25,i25),
 (26,i26),
 (27,i27),
 (28,i28),
 (29,i29),
 (30,i30),
 (31,i31),
 (33,i33),
 (34,i34),
 (35,i35),
 (36,i36),
 (37,i37),
 (38,i38),
 (39,i39),
 (40,i40),
 (41,i41),
 (42,i42),
 (43,i43),
 (44,i44),
 (45,i45),
 (46,i46),
 (47,(⟨.int .i64,[.int .i64 0],1,8⟩:TI)),
 (49,i49),
 (50,(⟨.int .i64,[.int .i64 0],1,8⟩:TI)),
 (51,i51),
 (52,i52),
 (53,i53),
 (54,i54),
 (55,i55),
 (56,i56),
 (57,i57),
 (58,i58),
 (60,i60),
 (61,i61),
 (62,i62),
 (63,i63),
 (64,i64),
 (65,i65),
 (66,(⟨.func #[90] #[] false,[.nilFunc],1,8⟩:TI)),
 (67,(⟨.func #[90] #[] false,[.nilFunc],1,8⟩:TI)),
 (68,i68),
 (69,i69),
 (70,i70),
 (71,i71),
 (72,i72),
 (73,i73),
 (74,i74),
 (75,i75),
 (76,i76),
 (77,i77),
 (78,i78),
 (80,i80),
 (81,i81),
 (82,i82),
 (83,(⟨.int .u64,[.int .u64 0],1,8⟩:TI)),
 (84,i84),
 (85,i85),
 (86,i86),
 (87,i87),
 (88,i88),
 (89,i89),
 (90,i90),
 (91,i91),
 (92,i92),
 (93,(⟨.func #[81] #[] false,[.nilFunc],1,8⟩:TI)),
 (94,(⟨.func #[81] #[] false,[.nilFunc],1,8⟩:TI)),
 (95,i95),
 (96,i96),
 (97,i97),
 (98,i98),
 (99,i99),
 (100,PB),
 (101,PC),
 (102,PE),
 (103,PF),
 (104,(⟨.int .u64,[.int .u64 0],1,8⟩:TI)),
 (105,PG),
 (106,PH),
 (107,PI),
 (108,PJ),
 (109,PK),
 (110,PL),
 (111,PM),
 (112,PO),
 (113,PP),
 (114,PQ),
 (117,PU),
 (118,PV),
 (119,PX),
 (120,PY),
 (121,PZ),
 (122,(⟨.int .u8,[.int .u8 0],1,1⟩:TI)),
 (123,(⟨.int .u8,[.int .u8 0],1,1⟩:TI)),
 (124,Qa),
 (125,Qb),
 (126,(⟨.int .i32,[.int .i32 0],1,4⟩:TI)),
 (127,(⟨.int .i32,[.int .i32 0],1,4⟩:TI)),
 (128,Qc),
 (129,Qd)]
theorem tz1:an Tryd.prog 1=some i1:=by kernel_rfl
theorem tz2:an Tryd.prog 2=some (⟨.int .i64,[.int .i64 0],1,8⟩:TI):=by kernel_rfl
theorem tz3:an Tryd.prog 3=some (⟨.int .i64,[.int .i64 0],1,8⟩:TI):=by kernel_rfl
theorem tz4:an Tryd.prog 4=some i4:=by kernel_rfl
theorem tz5:an Tryd.prog 5=some (⟨.int .u8,[.int .u8 0],1,1⟩:TI):=by kernel_rfl
theorem tz6:an Tryd.prog 6=some (⟨.int .u8,[.int .u8 0],1,1⟩:TI):=by kernel_rfl
theorem tz7:an Tryd.prog 7=some i7:=by kernel_rfl
theorem tz8:an Tryd.prog 8=some i8:=by kernel_rfl
theorem Qe:an Tryd.prog 12=some (⟨.int .u64,[.int .u64 0],1,8⟩:TI):=by kernel_rfl
theorem Qf:an Tryd.prog 15=some i15:=by kernel_rfl
theorem Qg:an Tryd.prog 16=some i16:=by kernel_rfl
theorem Qh:an Tryd.prog 17=some i17:=by kernel_rfl
theorem Qi:an Tryd.prog 18=some i18:=by kernel_rfl
theorem Qj:an Tryd.prog 19=some i19:=by kernel_rfl
theorem Qk:an Tryd.prog 21=some (⟨.int .i32,[.int .i32 0],1,4⟩:TI):=by kernel_rfl
theorem Oe:an Tryd.prog 22=some i22:=by kernel_rfl
theorem Of:an Tryd.prog 23=some i23:=by kernel_rfl
theorem Ql:an Tryd.prog 24=some i24:=by kernel_rfl
theorem Og:an Tryd.prog 25=some i25:=by kernel_rfl
theorem Qm:an Tryd.prog 26=some i26:=by kernel_rfl
theorem Oh:an Tryd.prog 27=some i27:=by kernel_rfl
theorem Oi:an Tryd.prog 28=some i28:=by kernel_rfl
theorem Qn:an Tryd.prog 29=some i29:=by kernel_rfl
theorem Oj:an Tryd.prog 30=some i30:=by kernel_rfl
theorem Qo:an Tryd.prog 31=some i31:=by kernel_rfl
theorem Qp:an Tryd.prog 33=some i33:=by kernel_rfl
theorem Qq:an Tryd.prog 34=some i34:=by kernel_rfl
theorem Qr:an Tryd.prog 35=some i35:=by kernel_rfl
theorem Qs:an Tryd.prog 36=some i36:=by kernel_rfl
theorem Qt:an Tryd.prog 37=some i37:=by kernel_rfl
theorem Qu:an Tryd.prog 38=some i38:=by kernel_rfl
theorem Qv:an Tryd.prog 39=some i39:=by kernel_rfl
theorem Qw:an Tryd.prog 40=some i40:=by kernel_rfl
theorem Qx:an Tryd.prog 41=some i41:=by kernel_rfl
theorem Qy:an Tryd.prog 42=some i42:=by kernel_rfl
theorem Qz:an Tryd.prog 43=some i43:=by kernel_rfl
theorem QA:an Tryd.prog 44=some i44:=by kernel_rfl
theorem QB:an Tryd.prog 45=some i45:=by kernel_rfl
theorem Ol:an Tryd.prog 46=some i46:=by kernel_rfl
theorem QC:an Tryd.prog 47=some (⟨.int .i64,[.int .i64 0],1,8⟩:TI):=by kernel_rfl
theorem QD:an Tryd.prog 49=some i49:=by kernel_rfl
theorem QE:an Tryd.prog 50=some (⟨.int .i64,[.int .i64 0],1,8⟩:TI):=by kernel_rfl
theorem QF:an Tryd.prog 51=some i51:=by kernel_rfl
theorem QG:an Tryd.prog 52=some i52:=by kernel_rfl
theorem QH:an Tryd.prog 53=some i53:=by kernel_rfl
theorem Om:an Tryd.prog 54=some i54:=by kernel_rfl
theorem QI:an Tryd.prog 55=some i55:=by kernel_rfl
theorem QJ:an Tryd.prog 56=some i56:=by kernel_rfl
theorem QK:an Tryd.prog 57=some i57:=by kernel_rfl
theorem QL:an Tryd.prog 58=some i58:=by kernel_rfl
theorem QM:an Tryd.prog 60=some i60:=by kernel_rfl
theorem QN:an Tryd.prog 61=some i61:=by kernel_rfl
theorem QO:an Tryd.prog 62=some i62:=by kernel_rfl
theorem QP:an Tryd.prog 63=some i63:=by kernel_rfl
theorem QQ:an Tryd.prog 64=some i64:=by kernel_rfl
theorem QR:an Tryd.prog 65=some i65:=by kernel_rfl
theorem QS:an Tryd.prog 66=some (⟨.func #[90] #[] false,[.nilFunc],1,8⟩:TI):=by kernel_rfl
theorem QU:an Tryd.prog 67=some (⟨.func #[90] #[] false,[.nilFunc],1,8⟩:TI):=by kernel_rfl
theorem QV:an Tryd.prog 68=some i68:=by kernel_rfl
theorem QW:an Tryd.prog 69=some i69:=by kernel_rfl
theorem QX:an Tryd.prog 70=some i70:=by kernel_rfl
theorem QY:an Tryd.prog 71=some i71:=by kernel_rfl
theorem QZ:an Tryd.prog 72=some i72:=by kernel_rfl
theorem Ra:an Tryd.prog 73=some i73:=by kernel_rfl
theorem Rb:an Tryd.prog 74=some i74:=by kernel_rfl
theorem Rc:an Tryd.prog 75=some i75:=by kernel_rfl
theorem On:an Tryd.prog 76=some i76:=by kernel_rfl
theorem Rd:an Tryd.prog 77=some i77:=by kernel_rfl
theorem Oo:an Tryd.prog 78=some i78:=by kernel_rfl
theorem Re:an Tryd.prog 80=some i80:=by kernel_rfl
theorem Rf:an Tryd.prog 81=some i81:=by kernel_rfl
theorem Rh:an Tryd.prog 82=some i82:=by kernel_rfl
theorem Oq:an Tryd.prog 83=some (⟨.int .u64,[.int .u64 0],1,8⟩:TI):=by kernel_rfl
theorem Ri:an Tryd.prog 84=some i84:=by kernel_rfl
theorem Rj:an Tryd.prog 85=some i85:=by kernel_rfl
theorem Rk:an Tryd.prog 86=some i86:=by kernel_rfl
theorem Rm:an Tryd.prog 87=some i87:=by kernel_rfl
theorem Rn:an Tryd.prog 88=some i88:=by kernel_rfl
theorem Ro:an Tryd.prog 89=some i89:=by kernel_rfl
theorem Rp:an Tryd.prog 90=some i90:=by kernel_rfl
theorem Rq:an Tryd.prog 91=some i91:=by kernel_rfl
theorem Rr:an Tryd.prog 92=some i92:=by kernel_rfl
theorem Rs:an Tryd.prog 93=some (⟨.func #[81] #[] false,[.nilFunc],1,8⟩:TI):=by kernel_rfl
theorem Rt:an Tryd.prog 94=some (⟨.func #[81] #[] false,[.nilFunc],1,8⟩:TI):=by kernel_rfl
theorem Ru:an Tryd.prog 95=some i95:=by kernel_rfl
theorem Ot:an Tryd.prog 96=some i96:=by kernel_rfl
theorem Rv:an Tryd.prog 97=some i97:=by kernel_rfl
theorem Rw:an Tryd.prog 98=some i98:=by kernel_rfl
theorem Ou:an Tryd.prog 99=some i99:=by kernel_rfl
theorem Na:an Tryd.prog 100=some PB:=by kernel_rfl
theorem Nb:an Tryd.prog 101=some PC:=by kernel_rfl
theorem Nc:an Tryd.prog 102=some PE:=by kernel_rfl
theorem Nd:an Tryd.prog 103=some PF:=by kernel_rfl
theorem Nf:an Tryd.prog 104=some (⟨.int .u64,[.int .u64 0],1,8⟩:TI):=by kernel_rfl
theorem Ng:an Tryd.prog 105=some PG:=by kernel_rfl
theorem Nh:an Tryd.prog 106=some PH:=by kernel_rfl
theorem Ni:an Tryd.prog 107=some PI:=by kernel_rfl
theorem Nj:an Tryd.prog 108=some PJ:=by kernel_rfl
theorem Nk:an Tryd.prog 109=some PK:=by kernel_rfl
theorem Nl:an Tryd.prog 110=some PL:=by kernel_rfl
theorem Nm:an Tryd.prog 111=some PM:=by kernel_rfl
theorem Nn:an Tryd.prog 112=some PO:=by kernel_rfl
theorem No:an Tryd.prog 113=some PP:=by kernel_rfl
theorem Np:an Tryd.prog 114=some PQ:=by kernel_rfl
theorem Nq:an Tryd.prog 117=some PU:=by kernel_rfl
theorem Nr:an Tryd.prog 118=some PV:=by kernel_rfl
theorem Ns:an Tryd.prog 119=some PX:=by kernel_rfl
theorem Nt:an Tryd.prog 120=some PY:=by kernel_rfl
theorem Nu:an Tryd.prog 121=some PZ:=by kernel_rfl
theorem Nv:an Tryd.prog 122=some (⟨.int .u8,[.int .u8 0],1,1⟩:TI):=by kernel_rfl
theorem Nw:an Tryd.prog 123=some (⟨.int .u8,[.int .u8 0],1,1⟩:TI):=by kernel_rfl
theorem Nx:an Tryd.prog 124=some Qa:=by kernel_rfl
theorem Ny:an Tryd.prog 125=some Qb:=by kernel_rfl
theorem Nz:an Tryd.prog 126=some (⟨.int .i32,[.int .i32 0],1,4⟩:TI):=by kernel_rfl
theorem NA:an Tryd.prog 127=some (⟨.int .i32,[.int .i32 0],1,4⟩:TI):=by kernel_rfl
theorem NB:an Tryd.prog 128=some Qc:=by kernel_rfl
theorem NC:an Tryd.prog 129=some Qd:=by kernel_rfl
theorem nI:Tryd.prog.follows .mixedOrders=true:=by kernel_rfl
theorem nJ:Aw Tryd.prog=true:=by kernel_rfl
def eT:List TD->Option (Kind×List TD):=λ_=>none
theorem Lp(x y:Operand)(a0 b0 a1 b1:Int):aq Tryd.prog (do eqGuard .eql 46 x y (.agg #[.int .i64 a0,.int .i64 a1]) (.agg #[.int .i64 b0,.int .i64 b1]);binOp .eql 46 (.agg #[.int .i64 a0,.int .i64 a1]) (.agg #[.int .i64 b0,.int .i64 b1]))=some (.bool ((a0==b0 &&(a1==b1 && true)))):=by
 refine wy (by kernel_rfl) ((iu 9999 46 #[.int .i64 a0,.int .i64 a1] #[.int .i64 b0,.int .i64 b1] (fs:=cI Tryd.prog 45) (by kernel_rfl) (by kernel_rfl)).trans ?_);rw [show(cI Tryd.prog 45).toList= [fld Tryd.prog 45 0,fld Tryd.prog 45 1]by kernel_rfl];exact((dP (k:= .i64) (k':= .i64) (by kernel_rfl) (by kernel_rfl) (by kernel_rfl) (by kernel_rfl)).trans (jb ((dP (k:= .i64) (k':= .i64) (by kernel_rfl) (by kernel_rfl) (by kernel_rfl) (by kernel_rfl)).trans (jb gC))))
theorem Lq(x y:Operand)(a0 b0 a1 b1:Int):aq Tryd.prog (do eqGuard .neq 46 x y (.agg #[.int .i64 a0,.int .i64 a1]) (.agg #[.int .i64 b0,.int .i64 b1]);binOp .neq 46 (.agg #[.int .i64 a0,.int .i64 a1]) (.agg #[.int .i64 b0,.int .i64 b1]))=some (.bool (!(a0==b0 &&(a1==b1 && true)))):=by
 refine rp (by kernel_rfl) ((iu 9999 46 #[.int .i64 a0,.int .i64 a1] #[.int .i64 b0,.int .i64 b1] (fs:=cI Tryd.prog 45) (by kernel_rfl) (by kernel_rfl)).trans ?_);rw [show(cI Tryd.prog 45).toList= [fld Tryd.prog 45 0,fld Tryd.prog 45 1]by kernel_rfl];exact((dP (k:= .i64) (k':= .i64) (by kernel_rfl) (by kernel_rfl) (by kernel_rfl) (by kernel_rfl)).trans (jb ((dP (k:= .i64) (k':= .i64) (by kernel_rfl) (by kernel_rfl) (by kernel_rfl) (by kernel_rfl)).trans (jb gC))))
theorem Lr(x y:Operand)(a0 b0 a1 b1:Int):aq Tryd.prog (do eqGuard .eql 99 x y (.agg #[.int .i64 a0,.int .u64 a1]) (.agg #[.int .i64 b0,.int .u64 b1]);binOp .eql 99 (.agg #[.int .i64 a0,.int .u64 a1]) (.agg #[.int .i64 b0,.int .u64 b1]))=some (.bool ((a0==b0 &&(a1==b1 && true)))):=by
 refine wy (by kernel_rfl) ((iu 9999 99 #[.int .i64 a0,.int .u64 a1] #[.int .i64 b0,.int .u64 b1] (fs:=cI Tryd.prog 98) (by kernel_rfl) (by kernel_rfl)).trans ?_);rw [show(cI Tryd.prog 98).toList= [fld Tryd.prog 98 0,fld Tryd.prog 98 1]by kernel_rfl];exact((dP (k:= .i64) (k':= .i64) (by kernel_rfl) (by kernel_rfl) (by kernel_rfl) (by kernel_rfl)).trans (jb ((dP (k:= .u64) (k':= .u64) (by kernel_rfl) (by kernel_rfl) (by kernel_rfl) (by kernel_rfl)).trans (jb gC))))
theorem Ls(x y:Operand)(a0 b0 a1 b1:Int):aq Tryd.prog (do eqGuard .neq 99 x y (.agg #[.int .i64 a0,.int .u64 a1]) (.agg #[.int .i64 b0,.int .u64 b1]);binOp .neq 99 (.agg #[.int .i64 a0,.int .u64 a1]) (.agg #[.int .i64 b0,.int .u64 b1]))=some (.bool (!(a0==b0 &&(a1==b1 && true)))):=by
 refine rp (by kernel_rfl) ((iu 9999 99 #[.int .i64 a0,.int .u64 a1] #[.int .i64 b0,.int .u64 b1] (fs:=cI Tryd.prog 98) (by kernel_rfl) (by kernel_rfl)).trans ?_);rw [show(cI Tryd.prog 98).toList= [fld Tryd.prog 98 0,fld Tryd.prog 98 1]by kernel_rfl];exact((dP (k:= .i64) (k':= .i64) (by kernel_rfl) (by kernel_rfl) (by kernel_rfl) (by kernel_rfl)).trans (jb ((dP (k:= .u64) (k':= .u64) (by kernel_rfl) (by kernel_rfl) (by kernel_rfl) (by kernel_rfl)).trans (jb gC))))
def EQS:List (Nat×List IntKind):= [(46,[.i64,.i64]),(99,[.i64,.u64])]
def fi4:FI:=fiF Tryd.f4
def fi7:FI:=fiF Tryd.f7
def fi9:FI:=fiF Tryd.f9
def Sv:FI:=fiF Tryd.f16
def Sw:FI:=fiF Tryd.f17
def Rx:FI:=fiF Tryd.f18
def Sx:FI:=fiF Tryd.f20
def Sy:FI:=fiF Tryd.f21
def Sz:FI:=fiF Tryd.f23
def Ry:FI:=fiF Tryd.f24
def Rz:FI:=fiF Tryd.f25
def SA:FI:=fiF Tryd.f30
def SB:FI:=fiF Tryd.f33
def SC:FI:=fiF Tryd.f36
def SD:FI:=fiF Tryd.f39
def SE:FI:=fiF Tryd.f40
def SF:FI:=fiF Tryd.f41
def RA:FI:=fiF Tryd.f42
def SG:FI:=fiF Tryd.f43
def SH:FI:=fiF Tryd.f44
def SI:FI:=fiF Tryd.f45
def RE:FI:=fiF Tryd.f46
def RF:FI:=fiF Tryd.f47
def SJ:FI:=fiF Tryd.f54
def SK:FI:=fiF Tryd.f58
def SM:FI:=fiF Tryd.f59
def SN:FI:=fiF Tryd.f60
def SO:FI:=fiF Tryd.f61
def SP:FI:=fiF Tryd.f62
def SQ:FI:=fiF Tryd.f70
def SR:FI:=fiF Tryd.f71
def SS:FI:=fiF Tryd.f72
abbrev yD4:TyD:=(true,.C (.I .i64) (.I .u64))
abbrev yD3:TyD:=(false,.S (.C (.I .i64) (.I .i64)))
abbrev yD2:TyD:=(true,.C (.I .i64) (.C (.I .i64) (.I .i64)))
abbrev yD1:TyD:=(true,.C (.I .i64) (.S (.C (.I .i64) (.I .i64))))
abbrev yD0:TyD:=(false,.S (.C (.I .i64) (.C (.I .i64) (.I .i64))))
end K
end Ev
end
noncomputable section
namespace Ev
namespace K
open Go Go.RowKit
set_option maxRecDepth 100000
set_option maxHeartbeats 1000000
def zJ:gh:= []
def qK:KG:=⟨TT,EQS,[],[]⟩
def dV:vals [(false,.I .i64)]->Option (OutK.val (.data true [(false,.B)])):=gX qK zJ RA 42 0 [(false,.I .i64)] (.data true [(false,.B)])
def qL:eh:=⟨42,[(false,.I .i64)],.data true [(false,.B)],dV,1⟩
def xu:gh:= [(18,⟨[⟨false,5,0,[1,11,12],⟨[(3,false,[.d true (.I .i64)]),(13,false,[.d true (.I .i64)])],[],[]⟩,[(.exit 0,⟨[],[],[]⟩),(.ret,⟨[(2,false,[.d true .B])],[],[]⟩)]⟩],[]⟩)]
def pj:KG:=⟨TT,EQS,[qL],[]⟩
def cL:vals [yD1]->Option (OutK.val (.data true [(false,.B)])):=gX pj xu Rx 18 0 [yD1] (.data true [(false,.B)])
def pk:eh:=⟨18,[yD1],.data true [(false,.B)],cL,2⟩
def zK:gh:= []
def qM:KG:=⟨TT,EQS,[pk],[]⟩
def cj:vals [yD1]->Option (OutK.val (.data false [yD1])):=gX qM zK Ry 24 0 [yD1] (.data false [yD1])
def kF:eh:=⟨24,[yD1],.data false [yD1],cj,3⟩
def zL:gh:= [(46,⟨[⟨false,2,0,[1],⟨[(5,false,[.d true (.I .i64)]),(6,false,[.d true (.I .i64)])],[],[]⟩,[(.exit 0,⟨[(5,false,[.d true (.I .i64)])],[],[]⟩)]⟩],[]⟩)]
def qN:KG:=⟨TT,EQS,[],[(46,RE),(47,RF)]⟩
def bY:vals [yD1,(false,.I .i64)]->Option (OutK.val (.data true [(false,.I .i64),(false,.B)])):=gX qN zL Rz 25 6 [yD1,(false,.I .i64)] (.data true [(false,.I .i64),(false,.B)])
def mP:eh:=⟨25,[yD1,(false,.I .i64)],.data true [(false,.I .i64),(false,.B)],bY,7⟩
end K
end Ev
end
noncomputable section
namespace Ev
namespace K
open Go Go.RowKit
def uM{α:Type}(f:List T->Option α):List (List T)->Option (List α)
 | []=>some []
 |a::r=>(f a).bind λx=>(uM f r).map (x::·)
theorem yk{α:Type}{f:List T->Option α}{g:α->List T}(h:∀x,f (g x)=some x):∀l:List α,uM f (l.map g)=some l
 | []=>rfl
 |x::l=>by simp only [List.map_cons,uM,h,zbS,yk h l,Option.map_some]
theorem uN{α:Type}{f:List T->Option α}{g:α->List T}(h:∀a x,f a=some x->a=g x):∀{l:List (List T)} {r:List α},uM f l=some r->l=r.map g
 | [],r,hr=>by simp [uM]at hr;subst hr;rfl
 |a::l,r,hr=>by
  simp only [uM,zbE,Option.map_eq_some_iff]at hr;obtain⟨x,hx,r',hr',rfl⟩:=hr;rw [List.map_cons,<-h a x hx,<-uN h hr']
def mQ:(e:Ty)->List T->Option e.val
 | .I k,l=>match l with
  | [.v (.int k' n)]=>if k'=k then some n else none
  |_=>none
 | .B,l=>match l with
  | [.v (.bool b)]=>some b
  |_=>none
 | .S e,l=>match l with
  | [.s nn sz rows]=>(uM (mQ e) rows).map λr=>⟨nn,sz,r⟩
  |_=>none
 | .U,l=>match l with
  | []=>some ()
  |_=>none
 | .C a b,l=>(mQ a (l.take a.size)).bind λx=>(mQ b (l.drop a.size)).bind λy=>some (x,y)
theorem qO:∀(e:Ty) (x:e.val),mQ e (e.row x)=some x
 | .I k,x=>by simp [mQ,Ty.row,iT]
 | .B,x=>by simp [mQ,Ty.row,bT]
 | .S e,x=>by
  simp only [mQ,Ty.row,Sl.t];rw [yk (qO e)];rfl
 | .U,x=>rfl
 | .C a b,x=>by
  show((mQ a ((a.row x.1++b.row x.2).take a.size)).bind λx1=>(mQ b ((a.row x.1++b.row x.2).drop a.size)).bind λy=>some (x1,y))=some x;have e1:(a.row x.1++b.row x.2).take a.size=a.row x.1:=by rw [List.take_append_of_le_length (by rw [nj];exact Nat.le_refl _),List.take_of_length_le (by rw [nj];exact Nat.le_refl _)]
  have e2:(a.row x.1++b.row x.2).drop a.size=b.row x.2:=by rw [<-nj a x.1,List.drop_left]
  rw [e1,qO a,zbS,e2,qO b];rfl
theorem kN:∀(e:Ty) (l:List T) (x:e.val),mQ e l=some x->l=e.row x
 | .I k,l,x,h=>by
  simp only [mQ]at h;split at h
  .split at h
   .rename_i hk;cases h;subst hk;rfl
   .simp at h
  .simp at h
 | .B,l,x,h=>by
  simp only [mQ]at h;split at h
  .cases h;rfl
  .simp at h
 | .S e,l,x,h=>by
  simp only [mQ]at h;split at h
  .rw [Option.map_eq_some_iff]at h;obtain⟨r,hr,rfl⟩:=h;rw [uN (kN e) hr];rfl
  .simp at h
 | .U,l,x,h=>by
  simp only [mQ]at h;split at h
  .rfl
  .simp at h
 | .C a b,l,x,h=>by
  simp only [mQ,zbE]at h;obtain⟨x1,h1,x2,h2,h3⟩:=h;cases h3;show l=a.row x1++b.row x2;rw [<-kN a _ _ h1,<-kN b _ _ h2,List.take_append_drop]
def uO(t:TyD)(d:TD):Option t.2.val:=
 match t,d with
 |(true,e),.agg l=>mQ e l
 |(false,e),.one y=>mQ e [y]
 |(false,e),.agg l=>if l.length=1 then none else mQ e l
 |_,_=>none
def ND:List T->TD
 | [y]=> .one y
 |ys=> .agg ys
theorem uP(e:Ty)(x:e.val):nD (false,e) x=ND (e.row x):=by
 unfold nD ND;rfl
theorem Bv(t:TyD)(x:t.2.val):uO t (nD t x)=some x:=by
 obtain⟨b,e⟩:=t;have h:=qO e x
 cases b with
 |true=>exact h
 |false=>
  change e.val at x;rw [show nD (false,e) x=_ from uP e x];generalize e.row x=l at h
  match l,h with
  | [],h=>exact h
  | [y],h=>exact h
  |a::b::r,h=>
   show(if(a::b::r).length=1 then none else mQ e (a::b::r))=some x;rw [if_neg (by simp)];exact h
theorem uQ(t:TyD)(d:TD)(x:t.2.val)(h:uO t d=some x):d=nD t x:=by
 obtain⟨b,e⟩:=t
 cases b with
 |true=>
  cases d with
  |one y=>simp [uO]at h
  |agg l=>exact congrArg TD.agg (kN e l x h)
 |false=>
  change e.val at x
  cases d with
  |one y=>rw [show nD (false,e) x=_ from uP e x,<-kN e [y] x h];rfl
  |agg l=>
   simp only [uO]at h;split at h
   .simp at h
   .rename_i hl
    have:=kN e l x h
    rw [show nD (false,e) x=_ from uP e x,<-this]
    match l,hl with
    | [],_=>rfl
    | [y],hl=>simp at hl
    |a::b::r,_=>rfl
def pP:(ts:List TyD)->List TD->Option (vals ts)
 | [],l=>match l with
  | []=>some ()
  |_=>none
 | [t],l=>match l with
  | [d]=>uO t d
  |_=>none
 |t::t'::r,l=>match l with
  |d::ds=>(uO t d).bind λx=>(pP (t'::r) ds).bind λy=>some (x,y)
  | []=>none
theorem yl:∀(ts:List TyD) (x:vals ts),pP ts (fp ts x)=some x
 | [],_=>rfl
 | [t],x=>Bv t x
 |t::t'::r,x=>by
  show(uO t (nD t x.1)).bind _=_;rw [Bv t x.1,zbS,yl (t'::r) x.2];rfl
theorem tl:∀(ts:List TyD) (l:List TD) (x:vals ts),pP ts l=some x->l=fp ts x
 | [],l,x,h=>by
  simp only [pP]at h;split at h
  .rfl
  .simp at h
 | [t],l,x,h=>by
  simp only [pP]at h;split at h
  .exact congrArg (·:: []) (uQ t _ x h)
  .simp at h
 |t::t'::r,l,x,h=>by
  simp only [pP]at h;split at h
  .simp only [zbE]at h;obtain⟨y,h1,z,h2,h3⟩:=h;cases h3;show _=nD t y::fp (t'::r) z;rw [<-uQ t _ y h1,<-tl (t'::r) _ z h2]
  .simp at h
def uR(ins:List TyD)(kind:Kind)(ts:List TyD)(g:vals ins->Option (vals ts))(vs:List TD):Option (Kind×List TD):=(pP ins vs).bind λa=>(g a).bind λx=>some (kind,fp ts x)
theorem FC{P:Program}{k:FuncId}{ins:List TyD}{kind:Kind}{ts:List TyD}{g:vals ins->Option (vals ts)}(he:Enters P k)(h:∀a x,g a=some x->cY P k (fp ins a) kind (fp ts x)):∀vs kind' rs,uR ins kind ts g vs=some (kind',rs)->cY P k vs kind' rs/\Enters P k:=by
 intro vs kind' rs hf;simp only [uR,zbE]at hf;obtain⟨a,h1,x,h2,h3⟩:=hf;cases h3;rw [tl ins vs a h1];exact⟨h a x h2,he⟩
theorem GL{E:Env}{k:FuncId}{ins:List TyD}{kind:Kind}{ts:List TyD}{g:vals ins->Option (vals ts)}(hx:E.ax k=some (uR ins kind ts g))(n:Nat)(a:vals ins)(x:vals ts)(h:g a=some x):RunsP E (n+1) k (fp ins a) (kind,fp ts x):=
 ob hx (by simp only [uR,yl,zbS,h])
theorem uS{E:Env}{k:FuncId}{ins:List TyD}{ts:List TyD}{g:vals ins->Option (vals ts)}(hx:E.ax k=some (uR ins .fresh ts g)):je E ⟨k,ins,.data true ts,g,1⟩:=λm a x h=>GL hx m a x h
end K
end Ev
end
noncomputable section
open Go.RowKit Go.Sort
def Has(w:World)(b:Nat):Prop:=b<w.heap.size
def RG(w:World)(os:Array Obj)(b:Nat):Prop:=w.heap.size<=b/\b<w.heap.size+os.size
theorem Has.of{w:World}{b:Nat}(h:b<w.heap.size):Has w b:=h
@[go_sem] theorem Pv (w:World) (o:Obj) (b:Nat):Has (w.alloc o) b=(b=w.heap.size∨Has w b):=by
 unfold Has;simp;omega
@[go_sem] theorem RH (w:World) (d:Nat) (os:Array Obj) (b:Nat):Has (grow (redrawn w d) os) b=(Has w b∨RG w os b):=by
 unfold Has RG;simp [grow,redrawn];omega
@[go_sem] theorem NE (w:World) (a:Addr) (v:Value) (b:Nat):Has (w.setCell a v) b=Has w b:=by
 unfold Has;simp [World.setCell]
@[go_sem] theorem RI (w:World) (b:Nat):Has w.drew b=Has w b:=rfl
@[go_sem] theorem Sr {w:World} {d:Nat} {os:Array Obj} {a:Addr} (h:Has w a.block):(grow (redrawn w d) os).cell? a=w.cell? a:=
 (below_regrown w d os).cell h
@[go_sem] theorem Pw {w:World} {d:Nat} {os:Array Obj} {a:Addr} (h:Has w a.block):(grow (redrawn w d) os).frozen? a=w.frozen? a:=
 (below_regrown w d os).frozen h
@[go_sem] theorem Ss {w:World} {o:Obj} {a:Addr} (h:Has w a.block):(w.alloc o).cell? a=w.cell? a:=
 ((Below.refl w.heap.size w).alloc (Nat.le_refl _) o).cell h
@[go_sem] theorem Px {w:World} {o:Obj} {a:Addr} (h:Has w a.block):(w.alloc o).frozen? a=w.frozen? a:=
 ((Below.refl w.heap.size w).alloc (Nat.le_refl _) o).frozen h
@[go_sem] theorem Ov {w:World} {o:Obj} {a:Addr} {v:Value} (h:Has w a.block):(w.alloc o).setCell a v=(w.setCell a v).alloc o:=by
 unfold Has at h;simp only [World.setCell,World.alloc];congr 1;apply Array.ext_getElem?;intro k;simp only [Array.getElem?_modify,Array.getElem?_push,Array.size_modify];by_cases hk:k=w.heap.size
 .subst hk;simp;omega
 .simp [hk]
@[go_sem] theorem ST {α:Type} (p:Prop) [Decidable p] (x y:α) (w:World):(if p then Result.ok x w else Result.ok y w)=Result.ok (if p then x else y) w:=by
 split<;>rfl
@[go_sem] theorem Py (p:Prop) [Decidable p] (x y:Value):(if p then Next.value x else Next.value y)=Next.value (if p then x else y):=by
 split<;>rfl
theorem bl1(w:World)(a:Obj):Below w.heap.size w (w.alloc a):=(Below.refl _ _).alloc (Nat.le_refl _) _
theorem bl2(w:World)(a b:Obj):Below w.heap.size w ((w.alloc a).alloc b):=(bl1 w a).alloc (by simp) _
theorem blg{w w1:World}(h:Below w.heap.size w w1)(d:Nat)(os:Array Obj):Below w.heap.size w (grow (redrawn w1 d) os):=
 h.trans ((below_regrown w1 d os).mono h.size)
@[go_sem] theorem Tr (w:World) (d d2:Nat) (os os2:Array Obj):grow (redrawn (grow (redrawn w d) os) d2) os2=grow (redrawn w d2) (os++os2):=by
 simp [grow,redrawn,Array.append_assoc]
@[go_sem] theorem Su (w:World) (d:Nat) (os:Array Obj):(grow (redrawn w d) os).heap.size=w.heap.size+os.size:=by simp [grow,redrawn]
@[go_sem] theorem Ow {w:World} {d:Nat} {os:Array Obj} {a:Addr} {v:Value} (h:Has w a.block):(grow (redrawn w d) os).setCell a v=grow (redrawn (w.setCell a v) d) os:=by
 unfold Has at h;simp only [grow,redrawn,World.setCell];congr 1;apply Array.ext_getElem?;intro k;rw [Array.getElem?_modify];by_cases hk:k<w.heap.size
 .rw [Array.getElem?_append_left hk,Array.getElem?_append_left (by simpa using hk),Array.getElem?_modify]
 .rw [if_neg (by omega),Array.getElem?_append_right (by omega),Array.getElem?_append_right (by simpa using by omega)];simp
@[go_sem] theorem Lt (w:World) (d:Nat):(redrawn w d).heap=w.heap:=rfl
theorem bla{w w1:World}(h:Below w.heap.size w w1)(o:Obj):Below w.heap.size w (w1.alloc o):=h.alloc h.size o
theorem bls{w w1:World}(h:Below w.heap.size w w1){p:Addr}(hp:w.heap.size<=p.block)(v:Value):Below w.heap.size w (w1.setCell p v):=h.setCell hp v
@[go_sem] theorem SU:IntKind.u64.signed=false:=rfl
@[go_sem] theorem SV:IntKind.i64.signed=true:=rfl
@[go_sem] theorem Ts:IntKind.u8.signed=false:=rfl
@[go_sem] theorem SW:IntKind.u32.signed=false:=rfl
end
noncomputable section
open Go Go.RowKit Go.Sort
section
variable {P : Program} {ops : Array Oper} {md : Region.Mode} {C : World → Prop}
end
end
noncomputable section
open Go.RowKit Go.Sort
def CellsAt(W:World)(B:Nat)(t:TypeId)(cs:Array Value):Prop:=W.heap[B]? =some (.cells cs t (0,0))
theorem CellsAt.lt{W:World}{B:Nat}{t:TypeId}{cs:Array Value}(h:CellsAt W B t cs):B<W.heap.size:=(Array.getElem?_eq_some_iff.1 h).1
theorem CellsAt.cell{W:World}{B:Nat}{t:TypeId}{cs:Array Value}(h:CellsAt W B t cs)(i:Nat):W.cell? ⟨B,i,none⟩=cs[i]? :=by
 simp [World.cell?,show W.heap[B]? =_ from h]
theorem CellsAt.frozen{W:World}{B:Nat}{t:TypeId}{cs:Array Value}(h:CellsAt W B t cs)(i:Nat):W.frozen? ⟨B,i,none⟩=false:=by simp [World.frozen?,show W.heap[B]? =_ from h]
theorem CellsAt.set{W:World}{B:Nat}{t:TypeId}{cs:Array Value}(h:CellsAt W B t cs)(i:Nat)(v:Value):CellsAt (W.setCell ⟨B,i,none⟩ v) B t (cs.setIfInBounds i v):=by
 obtain⟨hlt,hk⟩:=Array.getElem?_eq_some_iff.1 h;show(W.heap.modify B _)[B]? =_;rw [Array.getElem?_eq_getElem (by rw [Array.size_modify];exact hlt),Array.getElem_modify_self,hk];rfl
theorem CellsAt.kept{W W':World}{B:Nat}{t:TypeId}{cs:Array Value}(h:CellsAt W B t cs)(hb:W'.heap[B]? =W.heap[B]?):CellsAt W' B t cs:=hb.trans h
theorem CellsAt.below{W W':World}{B:Nat}{t:TypeId}{cs:Array Value}(h:CellsAt W B t cs)(hb:Below W.heap.size W W'):CellsAt W' B t cs:=h.kept (hb.block B h.lt)
theorem CellsAt.grown{W W':World}{B:Nat}{t:TypeId}{cs:Array Value}{row:Option Nat}(h:CellsAt W B t cs)(hg:W.grownBy W' row)(hne:some B≠row):CellsAt W' B t cs:=h.kept (hg.block B h.lt hne)
theorem iw{W:World}{B B':Nat}{t:TypeId}{cs:Array Value}(h:CellsAt W B t cs)(hne:B≠B')(v:Value)(i:Nat):CellsAt (W.setCell ⟨B',i,none⟩ v) B t cs:=
 (Below.heap_setCell W ⟨B',i,none⟩ v B hne).trans h
@[go_sem] theorem FD (b:Addr) (k:Nat):(b.add k).block=b.block:=by unfold Addr.add;split<;>rfl
theorem mt{w w':World}(h:Below w.heap.size w w')(row:Option Nat):w.grownBy w' row:=⟨h.os,h.tape,h.output,h.size,λk hk _=>h.block k hk⟩
theorem aH(W:World)(b i:Nat)(v:Value):W.grownBy (W.setCell ⟨b,i,none⟩ v) (some b):=
 ⟨rfl,rfl,rfl,(KeepsWalks.setCell W _ v).size,λk _ hk=>Below.heap_setCell _ _ _ k (λe=>hk (by rw [e]))⟩
end
noncomputable section
namespace Sm
abbrev V:=Int×Int
structure Rg where
 o:Int->V
 ad:V->V->V
 na:V->Int×Bool
abbrev Ky:=Int×Int
def key(e:Int×Int×Int):Ky:=(e.1,e.2.1)
def klt(a b:Ky):Bool:=decide (a.1<b.1∨a.1=b.1/\a.2<b.2)
def upd(R:Rg)(f:Ky->Option V)(e:Int×Int×Int):Ky->Option V:=λk=>if k=key e then some (match f (key e)with|some s=>R.ad s (R.o e.2.2)|none=>R.o e.2.2)else f k
def ins(R:Rg):List (Ky×V)->(Int×Int×Int)->List (Ky×V)
 | [],e=> [(key e,R.o e.2.2)]
 |p::S,e=>if klt p.1 (key e)=true then p::ins R S e else if klt (key e) p.1=true then(key e,R.o e.2.2)::p::S else(p.1,R.ad p.2 (R.o e.2.2))::S
end Sm
end
noncomputable section
open Go.RowKit Go.Sort
namespace Sm
open Ev
@[go_sem] abbrev WV (p:V):Value:= .agg #[.int .i64 p.1,.int .u64 p.2]
abbrev Ed:=Int×Int×Int
def orI(x y:Int):Int:=if x=0 then y else x
def el(l:List Ed)(i:Nat):Ed:=l.getD i (0,0,0)
theorem FE(g i:Nat):((⟨g,0,none⟩:Addr).add i)=⟨g,i,none⟩:=by unfold Addr.add;split<;>simp_all
theorem uT(a:Addr)(k:Nat):a.add (k+1)=⟨a.block,(a.add k).off+1,none⟩:=by
 unfold Addr.add;by_cases h:k=0
 .subst h;simp
 .simp [h];omega
def PT:T->Option Value
 | .v x=>if x.oneCell' then some x else none
 | .s _ _ _=>none
def PTs:List T->Option (List Value)
 | []=>some []
 |t::r=>(PT t).bind λx=>(PTs r).map (x::·)
def PD:TD->Option Value
 | .one t=>PT t
 | .agg ts=>(PTs ts).map λl=> .agg l.toArray
theorem Iy{t:T}{x:Value}(h:PT t=some x)(w:World)(F:Nat->Prop):RepT w F t x/\∀y,RepT w F t y->y=x:=by
 cases t with
 |s=>simp [PT]at h
 |v z=>
  simp only [PT]at h;split at h
  .rename_i hz;cases h;exact⟨.v _ hz,λy hy=>by cases hy;rfl⟩
  .simp at h
theorem FF:∀{ts:List T} {l:List Value},PTs ts=some l->∀(w:World) (F:Nat->Prop),RepTs w F ts l/\∀ys,RepTs w F ts ys->ys=l
 | [],l,h,w,F=>by
  simp [PTs]at h;subst h;exact⟨⟨rfl,by simp⟩,λys hy=>by have:=hy.1;simpa using this.symm⟩
 |t::r,l,h,w,F=>by
  simp only [PTs,zbE,Option.map_eq_some_iff]at h;obtain⟨x,hx,l',hl,rfl⟩:=h;obtain⟨h1,h2⟩:=Iy hx w F;obtain⟨h3,h4⟩:=FF hl w F;refine⟨⟨by simp [h3.1],λi t' hi=> ?_⟩,λys hy=> ?_⟩
  .cases i with
   |zero=>simp at hi;subst hi;exact⟨x,rfl,h1⟩
   |succ i=>obtain⟨y,e1,e2⟩:=h3.2 i t' (by simpa using hi);exact⟨y,by simpa using e1,e2⟩
  .obtain⟨hl,hy⟩:=hy
   cases ys with
   |nil=>simp at hl
   |cons y ys=>
    obtain⟨y',e1,e2⟩:=hy 0 t rfl;simp at e1;subst e1
    rw [h2 _ e2,h4 ys ⟨by simpa using hl,λi t' hi=>by
     obtain⟨z,f1,f2⟩:=hy (i+1) t' (by simpa using hi)
     exact⟨z,by simpa using f1,f2⟩⟩]
theorem Iz{t:TD}{x:Value}(h:PD t=some x)(w:World)(F:Nat->Prop):RepTD w F t x/\∀y,RepTD w F t y->y=x:=by
 cases t with
 |one t=>
  obtain⟨h1,h2⟩:=Iy h w F;exact⟨.one _ _ h1,λy hy=>by cases hy with|one _ _ hy=>exact h2 _ hy⟩
 |agg ts=>
  simp only [PD,Option.map_eq_some_iff]at h;obtain⟨l,hl,rfl⟩:=h;obtain⟨h1,h2⟩:=FF hl w F;exact⟨.agg _ _ h1,λy hy=>by cases hy with|agg _ ys hy=>rw [h2 _ hy]⟩
def PDs:List TD->Option (List Value)
 | []=>some []
 |t::r=>(PD t).bind λx=>(PDs r).map (x::·)
theorem zM:∀{ts:List TD} {l:List Value},PDs ts=some l->∀(w:World) (F:Nat->Prop),lZ w F ts l/\∀ys,lZ w F ts ys->ys=l
 | [],l,h,w,F=>by
  simp [PDs]at h;subst h;exact⟨⟨rfl,by simp⟩,λys hy=>by have:=hy.1;simpa using this.symm⟩
 |t::r,l,h,w,F=>by
  simp only [PDs,zbE,Option.map_eq_some_iff]at h;obtain⟨x,hx,l',hl,rfl⟩:=h;obtain⟨h1,h2⟩:=Iz hx w F;obtain⟨h3,h4⟩:=zM hl w F;refine⟨⟨by simp [h3.1],λi t' hi=> ?_⟩,λys hy=> ?_⟩
  .cases i with
   |zero=>simp at hi;subst hi;exact⟨x,rfl,h1⟩
   |succ i=>obtain⟨y,e1,e2⟩:=h3.2 i t' (by simpa using hi);exact⟨y,by simpa using e1,e2⟩
  .obtain⟨hl,hy⟩:=hy
   cases ys with
   |nil=>simp at hl
   |cons y ys=>
    obtain⟨y',e1,e2⟩:=hy 0 t rfl;simp at e1;subst e1
    rw [h2 _ e2,h4 ys ⟨by simpa using hl,λi t' hi=>by
     obtain⟨z,f1,f2⟩:=hy (i+1) t' (by simpa using hi)
     exact⟨z,by simpa using f1,f2⟩⟩]
def PR:List TD->Option Value
 | [r]=>PD r
 |rs=>(PDs rs).map λl=> .tuple l.toArray
theorem Ox{rs:List TD}{x:Value}(h:PR rs=some x)(w:World)(F:Nat->Prop){y:Value}(hy:uK w F rs y):y=x:=by
 match rs,h,hy with
 | [],h,⟨ys,e,hy⟩=>
  simp [PR,PDs]at h;subst h;rw [e,(zM (ts:= []) (l:= []) rfl w F).2 _ hy]
 | [r],h,hy=>exact(Iz h w F).2 _ hy
 |r::r'::rs,h,⟨ys,e,hy⟩=>
  simp only [PR,Option.map_eq_some_iff]at h;obtain⟨l,hl,rfl⟩:=h;rw [e,(zM hl w F).2 _ hy]
end Sm
end
noncomputable section
open Go.Shelf Go.RowKit Go.Lib Go.Sort
namespace Sm
namespace It
abbrev Ed:=Int×Int
def el(l:List Ed)(i:Nat):Ed:=l.getD i (0,0)
def key(e:Ed):Int:=e.1
def enc(e:Ed):List Value:= [.int .i64 e.1,.int .i64 e.2]
def RdE(w:World)(a:Option Addr)(l:List Ed):Prop:=∀i,i<l.length->∃b,a=some b/\b.block<w.heap.size/\w.cell? (b.add (i*2))=some (.int .i64 (el l i).1)/\w.cell? ⟨b.block,(b.add (i*2)).off+1,none⟩=some (.int .i64 (el l i).2)
theorem RdE.below{w w':World}{a:Option Addr}{l:List Ed}(h:RdE w a l)(hb:Below w.heap.size w w'):RdE w' a l:=by
 intro i hi;obtain⟨b,e,hl,h0,h1⟩:=h i hi;exact⟨b,e,Nat.lt_of_lt_of_le hl hb.size,(hb.cell (by rw [FD];exact hl)).trans h0,(hb.cell (p:=⟨b.block,_,none⟩) hl).trans h1⟩
def au(l:List Ed):List Value:=l.flatMap enc
theorem gr(e:Ed)(l:List Ed):au (e::l)=enc e++au l:=rfl
theorem fS(l m:List Ed):au (l++m)=au l++au m:=by simp [au]
theorem bG(l:List Ed):(au l).length=l.length*2:=by
 induction l with
 |nil=>rfl
 |cons e l ih=>rw [gr,List.length_append,ih];simp [enc];omega
theorem oA:∀(l:List Ed) (i k:Nat),i<l.length->k<2->(au l)[i*2+k]? =(enc (el l i))[k]?
 | [],i,k,h,_=>by simp at h
 |e::l,0,k,h,hk=>by
  rw [gr,List.getElem?_append_left (by simp [enc];omega)];simp [el]
 |e::l,i+1,k,h,hk=>by
  rw [gr,List.getElem?_append_right (by simp [enc];omega)]
  have:(i+1)*2+k - (enc e).length=i*2+k:=by simp [enc];omega
  rw [this,oA l i k (by simpa using h) hk];simp [el]
theorem mR(l:List Ed):∀u∈au l,u.oneCell'=true:=by
 intro u hu;obtain⟨e,_,he⟩:=List.mem_flatMap.1 hu;simp [enc]at he;rcases he with rfl|rfl<;>rfl
theorem ym{w:World}{g:Nat}{l:List Ed}(hg:g<w.heap.size)(hc:∀i,i<l.length->∀k,k<2->w.cell? ⟨g,i*2+k,none⟩=(enc (el l i))[k]?):RdE w (some ⟨g,0,none⟩) l:=by
 intro i hi;have e:(⟨g,0,none⟩:Addr).add (i*2)=⟨g,i*2,none⟩:=FE _ _;refine⟨⟨g,0,none⟩,rfl,hg,?_,?_⟩
 .rw [e];simpa [enc]using hc i hi 0 (by omega)
 .rw [e];simpa [enc]using hc i hi 1 (by omega)
theorem row_rdE{w:World}{base n:Nat}{v:Value}{l:List Ed}(h:w.ownsRow base 46 2 v n (au l)):n=l.length/\∃a c,v= .slice a n c/\n<=c/\RdE w a l/\(a=none->c=0/\n=0):=by
 have hn:n=l.length:=by have:=h.1;rw [bG]at this;omega
 refine⟨hn,?_⟩;rcases h.2 with⟨rfl,h0⟩|⟨g,cap,cur,rfl,hb,hg,hcap,_⟩
 .obtain rfl:n=0:=h0;exact⟨none,0,rfl,by omega,λi hi=>by omega,λ_=>⟨rfl,rfl⟩⟩
 .refine⟨some ⟨g,0,none⟩,cap,rfl,hcap,?_,by simp⟩;refine ym (Array.getElem?_eq_some_iff.1 hg).1 (λi hi k hk=> ?_);rw [h.cellAt (i*2+k) (by omega),oA l i k hi hk]
theorem FG:(Tryd.prog.info? 46).map (λi=>(i.zero,i.size,i.bytes))=some (some (.agg #[.int .i64 0,.int .i64 0]),2,16):=by kernel_rfl
theorem lD{P:Program}{e:TypeId}{z:Value}{s b:Nat}(h:(P.info? e).map (λi=>(i.zero,i.size,i.bytes))=some (some z,s,b)):∃i,P.info? e=some i/\i.zero=some z/\i.size=s/\i.bytes=b:=by
 obtain⟨i,hi,he⟩:=Option.map_eq_some_iff.1 h;simp at he;exact⟨i,hi,he.1,he.2.1,he.2.2⟩
theorem IA{w:World}{b:Addr}{M:List Ed}(hr:RdE w (some b) M):∀j u,(au M)[j]? =some u->w.cell? (b.add j)=some u:=by
 intro j u hj;have hj':j<M.length*2:=by have:=(List.getElem?_eq_some_iff.1 hj).1;rwa [bG]at this
 have hc:=oA M (j / 2) (j % 2) (by omega) (by omega);rw [show j / 2*2+j % 2=j by omega,hj]at hc;obtain⟨b',hb',_,h0,h1⟩:=hr (j / 2) (by omega);cases hb';have h3:j % 2=0∨j % 2=1:=by omega
 rcases h3 with h3|h3
 .rw [h3]at hc;simp [enc]at hc;rw [hc,show j=j / 2*2 by omega];rw [show(j / 2*2)/ 2=j / 2 by omega];exact h0
 .rw [h3]at hc;simp [enc]at hc;rw [hc]
  have e:b.add j=⟨b.block,(b.add (j / 2*2)).off+1,none⟩:=by
   rw [show j=j / 2*2+1 by omega,uT];rw [show(j / 2*2+1)/ 2=j / 2 by omega]
  rw [e];exact h1
theorem lE{w:World}{ops:Array Oper}{rest:List Oper}{o:Oper}{a:Act}{Q:Exit->Act->World->Prop}(hgd:o.guard=none)(s x:Operand)
  (ho:o.op= .call {callee:= .builtin .append,args:=#[s,x],argTypes:=#[22,22]}) (base:Nat) (v:Value) (n:Nat) (L:List Ed) (hs:a.eval s=v) (hown:w.ownsRow base 46 2 v n (au L))
  (ad:Option Addr) (m c:Nat) (M:List Ed) (hx:a.eval x= .slice ad m c) (hm:m=M.length) (hr:RdE w ad M) (hz:ad=none->c=0/\m=0) (hnm:n+m<=100000) (hbase:base<=w.heap.size)
  (h:∀v' w',w'.ownsRow base 46 2 v' (n+m) (au (L++M))->w.grownBy w' v.ownBlock->(v'.ownBlock=v.ownBlock∨v'.ownBlock=some w.heap.size)->wpList Tryd.prog ops Q rest (a.put o.dst v') w'):wpList Tryd.prog ops Q (o::rest) a w:=by
 obtain⟨i0,hi0,hz0,hz1,hz2⟩:=lD FG;subst hm
 match ad,hr,hz,hx with
 |none,hr,hz,hx=>
  obtain⟨rfl,h0⟩:=hz rfl;obtain rfl:M= []:=List.eq_nil_of_length_eq_zero h0;refine wpList_append_own_none hgd s x 22 ho base 46 i0 2 Tryd.underlying22 hi0 v n _ hs hown hx (h v w ?_ ⟨rfl,rfl,rfl,Nat.le_refl _,λ_ _ _=>rfl⟩ (.inl rfl));simpa using hown
 |some b,hr,hz,hx=>
  have hnews:=IA hr
  exact wpList_append_own_at w hgd s x 22 ho base 46 i0 (.agg #[.int .i64 0,.int .i64 0]) 2 16 Tryd.underlying22 hi0 hz0 hz1 hz2 rfl (by decide) v n (au L) hs hown b M.length c (au M) hx (bG M) hnews (mR M) (by unfold maxLen;omega) (by omega) hbase
   λv' w' hown' hg _ hat=>h v' w' (by rw [fS];exact hown') hg hat
theorem rW{W w':World}{base:Nat}{v:Value}(hg:W.grownBy w' v.ownBlock)(hv:∀k,v.ownBlock=some k->base<=k)(hb:base<=W.heap.size):Below base W w':=
 ⟨hg.os,hg.tape,hg.output,hg.size,λk hk=>hg.block k (by omega) (λe=>by have:=hv k e.symm;omega)⟩
def Out(base:Nat)(w:World)(a:Option Addr)(c:Nat)(l:List Ed):Prop:=RdE w a l/\(a=none->c=0/\l.length=0)/\l.length<=c/\∀b,a=some b->base<=b.block
theorem gZ{w:World}{base base' n:Nat}{e:TypeId}{v:Value}{s:Nat}{xs:List Value}(h:w.ownsRow base e s v n xs)(hb:base'<=base):w.ownsRow base' e s v n xs:=by
 refine⟨h.1,?_⟩;rcases h.2 with h2|⟨g,cap,cur,h1,h2,h3⟩
 .exact .inl h2
 .exact .inr ⟨g,cap,cur,h1,Nat.le_trans hb h2,h3⟩
theorem rX{w:World}{base n:Nat}{e:TypeId}{s:Nat}{v:Value}{xs:List Value}(h:w.ownsRow base e s v n xs):∃a cap,v= .slice a n cap/\(a=none∨∃g,a=some ⟨g,0,none⟩):=by
 rcases h.2 with⟨rfl,rfl⟩|⟨g,cap,cur,rfl,_⟩
 .exact⟨none,0,rfl,.inl rfl⟩
 .exact⟨_,cap,rfl,.inr ⟨g,rfl⟩⟩
theorem FH{w:World}{base n:Nat}{e:TypeId}{s:Nat}{v:Value}{xs:List Value}(h:w.ownsRow base e s v n xs)(hn:0<n):∃g cap,v= .slice (some ⟨g,0,none⟩) n cap/\base<=g/\g<w.heap.size:=by
 rcases h.2 with⟨_,h0⟩|⟨g,cap,cur,rfl,hb,hg,_⟩
 .omega
 .exact⟨g,cap,rfl,hb,(Array.getElem?_eq_some_iff.1 hg).1⟩
end It
end Sm
end
noncomputable section
namespace Ev
namespace KM
open Go Go.RowKit
def dV(x:Int):Option (Bool):=K.dV x
def cL(x:Int×(Sl (Int×Int))):Option (Bool):=K.cL x
def cj(x:Int×(Sl (Int×Int))):Option (Int×(Sl (Int×Int))):=K.cj x
def bY(x:Int×(Sl (Int×Int)))(y:Int):Option (Int×Bool):=K.bY (x,y)
end KM
end Ev
end
noncomputable section
namespace Ev
namespace KM
open Go Go.RowKit
set_option maxRecDepth 100000
set_option maxHeartbeats 1000000
theorem ma(x:Int):dV x=if x >= 0 then some (decide (x<=4096))else some false:=by kernel_rfl
def ck(x:Int×Sl (Int×Int)):Int×Int->Option (Int×Int ⊕ PUnit ⊕ Bool ⊕ Empty):=λ(x_1:Int×Int)=>if x_1.snd<(↑x.snd.l.length:Int)then(atS 2 x.snd x_1.snd).bind λ(y:Int×Int)=>if y.fst<=x_1.fst then some (Sum.inr (Sum.inr (Sum.inl false)))else if y.fst >= x.fst then some (Sum.inr (Sum.inr (Sum.inl false)))else some (Sum.inl (y.fst,IntKind.i64.wrap (x_1.snd+1)))else some (Sum.inr (Sum.inl ()))
theorem iN(x:Int×Sl (Int×Int)):cL x=(dV x.fst).bind λ(out:Bool)=>if¬out=true then some false else(bF (ck x) (-1,0)).bind λ(y:PUnit ⊕ Bool ⊕ Empty)=>Sum.elim (λ(val:PUnit)=>some true) (λ(val:Bool ⊕ Empty)=>Sum.elim (λ(val:Bool)=>some val) (λ(val:Empty)=>nE val) val) y:=by kernel_rfl
theorem jB(x:Int×Sl (Int×Int)):cj x=(cL x).bind λ(out:Bool)=>if out=true then some x else some (0,{nn:=false,sz:=0,l:= []}):=by kernel_rfl
def bu(x:Int×Sl (Int×Int))(y:Int):Int×Int->Option (Int×Int ⊕ Int ⊕ Empty):=λ(x_1:Int×Int)=>if x_1.fst<x_1.snd then(uh IntKind.u64 (IntKind.u64.wrap (IntKind.i64.wrap (x_1.fst+x_1.snd))) 1).bind λ(z:Int)=>(atS 2 x.snd (IntKind.i64.wrap z)).bind λ(y_1:Int×Int)=>if¬y_1.fst >= y then some (Sum.inl (IntKind.i64.wrap (IntKind.i64.wrap z+1),x_1.snd))else some (Sum.inl (x_1.fst,IntKind.i64.wrap z))else some (Sum.inr (Sum.inl x_1.fst))
theorem xv(x:Int×Sl (Int×Int))(y:Int):bY x y=(bF (bu x y) (0,(↑x.snd.l.length:Int))).bind λ(y_1:Int ⊕ Empty)=>Sum.elim (λ(val:Int)=>if val<(↑x.snd.l.length:Int)then(atS 2 x.snd val).bind λ(y_2:Int×Int)=>some (val,decide (y_2.fst=y))else some (val,false)) (λ(val:Empty)=>nE val) y_1:=by kernel_rfl
end KM
end Ev
end
noncomputable section
namespace Ev
namespace KM
open Go
def iP(n:Int):Prop:= -9223372036854775808<=n/\n<=9223372036854775807
def gu(n:Int):Prop:=0<=n/\n<=18446744073709551615
theorem FJ{n:Int}(h:inK .i64 n):iP n:=by simpa [inK,iP,Lit.wf,IntKind.min,IntKind.max,IntKind.signed,IntKind.bits]using h
theorem wrap_u64(n:Int):IntKind.u64.wrap n=n % 18446744073709551616:=by
 simp [IntKind.wrap,IntKind.signed,IntKind.bits]
theorem nK(n:Int):gu (IntKind.u64.wrap n):=by rw [wrap_u64];unfold gu;omega
theorem IB{n:Int}(h:gu n):IntKind.u64.wrap (IntKind.i64.wrap n)=n:=by rw [wrap_u64,IntKind.wrap_i64];unfold gu at h;omega
theorem Bw(n:Int):iP (IntKind.i64.wrap n):=by rw [IntKind.wrap_i64];unfold iP;omega
def ofW(n:Int):Int×Int:=(if n<0 then -1 else 0,IntKind.u64.wrap n)
theorem IC(n:Int):gu (ofW n).2:=nK n
def Bx(a b:Int×Int):Bool:=decide (a.1<b.1)||(decide (a.1=b.1)&& decide (a.2<b.2))
def pQ(a b:Int×Int):Int×Int:=if Bx b a=true then b else a
def pR(b:Bool):Int×Int:=if b=true then(0,1)else(0,0)
def DA(a b:Int×Int):Int×Int:=if IntKind.u64.wrap (a.2+b.2)<a.2 then(IntKind.i64.wrap (IntKind.i64.wrap (a.1+b.1)+1),IntKind.u64.wrap (a.2+b.2))else(IntKind.i64.wrap (a.1+b.1),IntKind.u64.wrap (a.2+b.2))
def lF(r:Int)(a b:Int×Int):Int×Int:=
 if r=1∨r=3∨r=4 then pQ a b else if r=2 then pR (!(decide (a.1=0/\a.2=0)&& decide (b.1=0/\b.2=0)))else if r=5 then DA a b else(0,0)
def gk(a:Int×Int):Int×Bool:=if a=ofW (IntKind.i64.wrap a.2)then(IntKind.i64.wrap a.2,true)else(0,false)
theorem uU{r:Int}{a b:Int×Int}(ha:gu a.2)(hb:gu b.2):gu (lF r a b).2:=by
 have h0:gu 0:=by unfold gu;omega
 have h1:gu 1:=by unfold gu;omega
 unfold lF pQ pR DA;split
 .split<;>assumption
 .split
  .split<;>assumption
  .split
   .split<;>exact nK _
   .exact h0
end KM
end Ev
end
noncomputable section
namespace Ev
namespace K
open Go Go.RowKit
set_option maxRecDepth 100000
set_option maxHeartbeats 1000000
def ID:Ax:=(λ_=>none)
theorem GM:ya Tryd.prog ID:=(sA _)
def IE:Ax:=(cO (cO (cO (cO (cO (cO (cO (cO ID 31 eT) 46 eT) 47 eT) 53 eT) 57 eT) 65 eT) 66 eT) 68 eT)
theorem GN:ya Tryd.prog IE:=(aW (aW (aW (aW (aW (aW (aW (aW GM λvs kind rs h=>by simp [eT]at h) λvs kind rs h=>by simp [eT]at h) λvs kind rs h=>by simp [eT]at h) λvs kind rs h=>by simp [eT]at h) λvs kind rs h=>by simp [eT]at h) λvs kind rs h=>by simp [eT]at h) λvs kind rs h=>by simp [eT]at h) λvs kind rs h=>by simp [eT]at h)
def E1B:Env:=py Tryd.prog IE
theorem rY:E1B.Ok:=ll nI nJ GN
theorem zN:MY E1B TT:=⟨tz1,⟨tz2,⟨tz3,⟨tz4,⟨tz5,⟨tz6,⟨tz7,⟨tz8,⟨Qe,⟨Qf,⟨Qg,⟨Qh,⟨Qi,⟨Qj,⟨Qk,⟨Oe,⟨Of,⟨Ql,⟨Og,⟨Qm,⟨Oh,⟨Oi,⟨Qn,⟨Oj,⟨Qo,⟨Qp,⟨Qq,⟨Qr,⟨Qs,⟨Qt,⟨Qu,⟨Qv,⟨Qw,⟨Qx,⟨Qy,⟨Qz,⟨QA,⟨QB,⟨Ol,⟨QC,⟨QD,⟨QE,⟨QF,⟨QG,⟨QH,⟨Om,⟨QI,⟨QJ,⟨QK,⟨QL,⟨QM,⟨QN,⟨QO,⟨QP,⟨QQ,⟨QR,⟨QS,⟨QU,⟨QV,⟨QW,⟨QX,⟨QY,⟨QZ,⟨Ra,⟨Rb,⟨Rc,⟨On,⟨Rd,⟨Oo,⟨Re,⟨Rf,⟨Rh,⟨Oq,⟨Ri,⟨Rj,⟨Rk,⟨Rm,⟨Rn,⟨Ro,⟨Rp,⟨Rq,⟨Rr,⟨Rs,⟨Rt,⟨Ru,⟨Ot,⟨Rv,⟨Rw,⟨Ou,⟨Na,⟨Nb,⟨Nc,⟨Nd,⟨Nf,⟨Ng,⟨Nh,⟨Ni,⟨Nj,⟨Nk,⟨Nl,⟨Nm,⟨Nn,⟨No,⟨Np,⟨Nq,⟨Nr,⟨Ns,⟨Nt,⟨Nu,⟨Nv,⟨Nw,⟨Nx,⟨Ny,⟨Nz,⟨NA,⟨NB,⟨NC,trivial⟩⟩⟩⟩⟩⟩⟩⟩⟩⟩⟩⟩⟩⟩⟩⟩⟩⟩⟩⟩⟩⟩⟩⟩⟩⟩⟩⟩⟩⟩⟩⟩⟩⟩⟩⟩⟩⟩⟩⟩⟩⟩⟩⟩⟩⟩⟩⟩⟩⟩⟩⟩⟩⟩⟩⟩⟩⟩⟩⟩⟩⟩⟩⟩⟩⟩⟩⟩⟩⟩⟩⟩⟩⟩⟩⟩⟩⟩⟩⟩⟩⟩⟩⟩⟩⟩⟩⟩⟩⟩⟩⟩⟩⟩⟩⟩⟩⟩⟩⟩⟩⟩⟩⟩⟩⟩⟩⟩⟩⟩⟩⟩⟩⟩⟩⟩⟩
theorem uj:MZ E1B.P EQS:=⟨NZ Lp Lq,⟨NZ Lr Ls,trivial⟩⟩
theorem RJ:E1B.fn 18=some Rx:=zw Tryd.func18 rfl
theorem RK:E1B.fn 24=some Ry:=zw Tryd.func24 rfl
theorem RL:E1B.fn 25=some Rz:=zw Tryd.func25 rfl
theorem RM:E1B.fn 42=some RA:=zw Tryd.func42 rfl
theorem RN:E1B.fn 46=some RE:=zw Tryd.func46 rfl
theorem RO:E1B.fn 47=some RF:=zw Tryd.func47 rfl
end K
end Ev
end
noncomputable section
namespace Ev
namespace K
open Go Go.RowKit
set_option maxRecDepth 100000
set_option maxHeartbeats 1000000
theorem tU:GOk qK E1B 0:=gok rY zN uj trivial trivial
theorem uV:je E1B qL:=Bl tU (by kernel_rfl) RM (by kernel_rfl) rfl
theorem rZ:GOk pj E1B 1:=gok rY zN uj ⟨⟨by decide,uV⟩,trivial⟩ trivial
theorem tV:je E1B pk:=Bl rZ (by kernel_rfl) RJ (by kernel_rfl) rfl
theorem tW:GOk qM E1B 2:=gok rY zN uj ⟨⟨by decide,tV⟩,trivial⟩ trivial
theorem uW:je E1B kF:=Bl tW (by kernel_rfl) RK (by kernel_rfl) rfl
theorem tX:GOk qN E1B 0:=gok rY zN uj trivial ⟨⟨RN,rfl⟩,⟨⟨RO,rfl⟩,trivial⟩⟩
theorem uX:je E1B mP:=Bl tX (by kernel_rfl) RL (by kernel_rfl) rfl
end K
end Ev
end
noncomputable section
open Go.RowKit Go.Sort
namespace Sm
namespace It
open Ev Ev.KM
abbrev ety:K.Ty:= .C (.I .i64) (.I .i64)
theorem rep_of{base:Nat}{w:World}{F:Nat->Prop}{a:Option Addr}{c:Nat}{l:List (Int×Int)}(h:Out base w a c l)(hF:∀b,F b->b<base)(hne:l≠[]∨a≠none):RepT w F (Sl.t ety.row ⟨true,2,l⟩) (.slice a l.length c):=by
 obtain⟨h1,h2,h3,h4⟩:=h
 obtain⟨b0,rfl⟩:∃b0,a=some b0:=by
  cases a with
  |some b=>exact⟨b,rfl⟩
  |none=>exact absurd (List.eq_nil_of_length_eq_zero (h2 rfl).2) (hne.resolve_right (by simp))
 have key:=RepT.s (w:=w) (F:=F) true 2 (l.map ety.row) (some b0) c (λi j=>match j with
  |0=> .int .i64 (el l i).1
  |_=> .int .i64 (el l i).2) rfl (by simpa using h3) (by simp) (λi e hi=>by
   rw [List.getElem?_map,Option.map_eq_some_iff]at hi;obtain⟨x,_,rfl⟩:=hi
   rfl) ?_ ?_
 .rw [List.length_map]at key;exact key
 .intro i e j t hi hj;rw [List.getElem?_map,Option.map_eq_some_iff]at hi;obtain⟨x,hx,rfl⟩:=hi;have hil:i<l.length:=(List.getElem?_eq_some_iff.1 hx).1;obtain⟨b,e0,g1,c0,c1⟩:=h1 i hil;cases e0;refine⟨b0,rfl,g1,λhf=>by have:=h4 b0 rfl;have:=hF _ hf;omega,?_⟩;have hj3:j<2:=(List.getElem?_eq_some_iff.1 hj).1;rcases(show j=0∨j=1 by omega)with rfl|rfl
  .simpa using c0
  .rw [uT];exact c1
 .intro i e j t hi hj;rw [List.getElem?_map,Option.map_eq_some_iff]at hi;obtain⟨x,hx,rfl⟩:=hi;have hx2:el l i=x:=by simp [el,List.getD_eq_getElem?_getD,hx]
  have hj3:j<2:=(List.getElem?_eq_some_iff.1 hj).1;rcases(show j=0∨j=1 by omega)with rfl|rfl
  .cases hj;simp only [hx2];exact .v _ rfl
  .cases hj;simp only [hx2];exact .v _ rfl
theorem LD.below{w W:World}(hL:LD w.heap.size w)(hb:Below w.heap.size w W):LD W.heap.size W:=(hL.keep (λ_ hs=>hb.block 0 hs) hb.size).up hb.size
theorem vec{w:World}{F:Nat->Prop}{n:Int}{t:T}{y:Value}(h:RepT w F t y):RepTD w F (.agg [iT .i64 n,t]) (.agg #[.int .i64 n,y]):=by
 refine .agg [iT .i64 n,t] [.int .i64 n,y] ⟨rfl,λi t' hi=> ?_⟩
 match i,hi with
 |0,hi=>cases hi;exact⟨_,rfl,.v _ rfl⟩
 |1,hi=>cases hi;exact⟨y,rfl,h⟩
 |i+2,hi=>simp at hi
end It
end Sm
end
end Go.Proofs.YtpcmabdifkoihaaDoor
