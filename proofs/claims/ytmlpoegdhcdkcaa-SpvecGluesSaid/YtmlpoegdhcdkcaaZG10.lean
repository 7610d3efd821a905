/- Texts of a claim, joined. -/
import Derived.Test.YtmlpoegdhcdkcaaZG9
import Derived.Test.YtmlpoegdhcdkcaaProg
import Derived.BigQuiet
import Derived.Lib.QuietBelow
import Derived.WalkSpells
import Derived.WalkLawsBesides
import Derived.Lib.Hide
import Derived.Outline
import Derived.StillTail
import Derived.Laws.OwnMore
import Derived.Maps.AppendAt
import Derived.RangeFuncBox
import Derived.Defers
import Derived.Recover
import Derived.Shelf.SlSortCmp.WholeK
import Derived.Laws.AppendOwnNone
import Derived.Maps.RangeWalk
import Derived.Maps.Ext
import Derived.WideKeyArr
set_option linter.unusedVariables false
set_option linter.unusedSimpArgs false
namespace Go.Proofs.Ytmlpoegdhcdkcaa
noncomputable section
namespace Ev
namespace K
open Go Go.RowKit
set_option maxRecDepth 100000
set_option maxHeartbeats 1000000
def i1:TI:=(⟨.func #[] #[] false,[.nilFunc],1,8⟩:TI)
def i4:TI:=(⟨.bool,[.bool false],1,1⟩:TI)
def i7:TI:=(⟨.struct (cA Try.prog 7),[.int .i64 0,.int .i64 0,.bool false,.int .u8 0],4,24⟩:TI)
def i8:TI:=(⟨.struct (cA Try.prog 8),[.int .i64 0,.int .i64 0,.bool false,.int .u8 0],4,24⟩:TI)
def i15:TI:=(⟨.pointer 102,[.pointer none],1,8⟩:TI)
def i16:TI:=(⟨.pointer 105,[.pointer none],1,8⟩:TI)
def i17:TI:=(⟨.pointer 114,[.pointer none],1,8⟩:TI)
def i18:TI:=(⟨.struct (cA Try.prog 18),[.pointer none],1,8⟩:TI)
def i19:TI:=(⟨.struct (cA Try.prog 19),[.pointer none],1,8⟩:TI)
def i22:TI:=(⟨.slice 25,[.slice none 0 0],1,24⟩:TI)
def i23:TI:=(⟨.slice 36,[.slice none 0 0],1,24⟩:TI)
def i24:TI:=(⟨.struct (cA Try.prog 24),[.int .i64 0,.slice none 0 0],2,32⟩:TI)
def i25:TI:=(⟨.struct (cA Try.prog 25),[.int .i64 0,.slice none 0 0],2,32⟩:TI)
def i26:TI:=(⟨.func #[25] #[25] false,[.nilFunc],1,8⟩:TI)
def i29:TI:=(⟨.func #[22] #[25,27] true,[.nilFunc],1,8⟩:TI)
def i30:TI:=(⟨.func #[22] #[25,27] false,[.nilFunc],1,8⟩:TI)
def i31:TI:=(⟨.func #[] #[4] false,[.nilFunc],1,8⟩:TI)
def i32:TI:=(⟨.func #[25,25] #[4] false,[.nilFunc],1,8⟩:TI)
def i33:TI:=(⟨.func #[22] #[4] false,[.nilFunc],1,8⟩:TI)
def i34:TI:=(⟨.func #[23,3] #[23] false,[.nilFunc],1,8⟩:TI)
def i35:TI:=(⟨.struct (cA Try.prog 35),[.int .i64 0,.int .i64 0],2,16⟩:TI)
def i36:TI:=(⟨.struct (cA Try.prog 36),[.int .i64 0,.int .i64 0],2,16⟩:TI)
def i37:TI:=(⟨.func #[38,3,23] #[25,27] false,[.nilFunc],1,8⟩:TI)
def i40:TI:=(⟨.func #[25,3] #[2,4] false,[.nilFunc],1,8⟩:TI)
def i41:TI:=(⟨.func #[25,3,3] #[25] false,[.nilFunc],1,8⟩:TI)
def i42:TI:=(⟨.func #[43,43] #[4] false,[.nilFunc],1,8⟩:TI)
def i43:TI:=(⟨.slice 3,[.slice none 0 0],1,24⟩:TI)
def i44:TI:=(⟨.func #[25] #[43] false,[.nilFunc],1,8⟩:TI)
def i45:TI:=(⟨.func #[25,3,2] #[25] false,[.nilFunc],1,8⟩:TI)
def i46:TI:=(⟨.func #[25,3] #[25] false,[.nilFunc],1,8⟩:TI)
def i47:TI:=(⟨.func #[3,2] #[25] false,[.nilFunc],1,8⟩:TI)
def i48:TI:=(⟨.func #[25] #[4] false,[.nilFunc],1,8⟩:TI)
def i49:TI:=(⟨.func #[23,23] #[4] false,[.nilFunc],1,8⟩:TI)
def i50:TI:=(⟨.func #[38] #[4] false,[.nilFunc],1,8⟩:TI)
def i51:TI:=(⟨.func #[3] #[4] false,[.nilFunc],1,8⟩:TI)
def i52:TI:=(⟨.func #[23,53] #[4] false,[.nilFunc],1,8⟩:TI)
def i53:TI:=(⟨.func #[36] #[4] false,[.nilFunc],1,8⟩:TI)
def i56:TI:=(⟨.struct (cA Try.prog 56),[.int .i64 0,.int .u64 0],2,16⟩:TI)
def i57:TI:=(⟨.struct (cA Try.prog 57),[.int .i64 0,.int .u64 0],2,16⟩:TI)
def i59:TI:=(⟨.func #[38,57,57] #[57] false,[.nilFunc],1,8⟩:TI)
def i60:TI:=(⟨.func #[2] #[57] false,[.nilFunc],1,8⟩:TI)
def i61:TI:=(⟨.func #[38,57] #[2,4] false,[.nilFunc],1,8⟩:TI)
def i62:TI:=(⟨.func #[23,64] #[] false,[.nilFunc],1,8⟩:TI)
def i63:TI:=(⟨.func #[3,3] #[3] false,[.nilFunc],1,8⟩:TI)
def i64:TI:=(⟨.func #[36,36] #[3] false,[.nilFunc],1,8⟩:TI)
def i66:TI:=(⟨.func #[25,3] #[3,4] false,[.nilFunc],1,8⟩:TI)
def i67:TI:=(⟨.func #[23] #[23] false,[.nilFunc],1,8⟩:TI)
def i68:TI:=(⟨.func #[23,3,23] #[23] true,[.nilFunc],1,8⟩:TI)
def i69:TI:=(⟨.func #[23,3,3] #[23] false,[.nilFunc],1,8⟩:TI)
def i70:TI:=(⟨.func #[23,53] #[3] false,[.nilFunc],1,8⟩:TI)
def i71:TI:=(⟨.func #[57,57] #[57] false,[.nilFunc],1,8⟩:TI)
def i72:TI:=(⟨.func #[4] #[57] false,[.nilFunc],1,8⟩:TI)
def i74:TI:=(⟨.func #[57] #[2,4] false,[.nilFunc],1,8⟩:TI)
def i75:TI:=(⟨.func #[23,3,3,3,64] #[] false,[.nilFunc],1,8⟩:TI)
def i76:TI:=(⟨.func #[73] #[3] false,[.nilFunc],1,8⟩:TI)
def i77:TI:=(⟨.func #[3,51] #[3] false,[.nilFunc],1,8⟩:TI)
def i78:TI:=(⟨.func #[23,3] #[] false,[.nilFunc],1,8⟩:TI)
def i79:TI:=(⟨.func #[57,57] #[3] false,[.nilFunc],1,8⟩:TI)
def i80:TI:=(⟨.func #[23,3,3,64] #[] false,[.nilFunc],1,8⟩:TI)
def i83:TI:=(⟨.func #[23,3,3,64] #[3,81] false,[.nilFunc],1,8⟩:TI)
def i84:TI:=(⟨.func #[23,3,3,64] #[4] false,[.nilFunc],1,8⟩:TI)
def i85:TI:=(⟨.func #[23,3,3,3,64] #[3] false,[.nilFunc],1,8⟩:TI)
def i86:TI:=(⟨.func #[23,3,3,3,64] #[3,4] false,[.nilFunc],1,8⟩:TI)
def i87:TI:=(⟨.func #[88] #[3] false,[.nilFunc],1,8⟩:TI)
def i88:TI:=(⟨.int .u32,[.int .u32 0],1,4⟩:TI)
def i89:TI:=(⟨.func #[55] #[3] false,[.nilFunc],1,8⟩:TI)
def i91:TI:=(⟨.func #[3] #[73] false,[.nilFunc],1,8⟩:TI)
def i92:TI:=(⟨.func #[] #[55] false,[.nilFunc],1,8⟩:TI)
def i93:TI:=(⟨.func #[23,3,94,64] #[3] false,[.nilFunc],1,8⟩:TI)
def i94:TI:=(⟨.pointer 3,[.pointer none],1,8⟩:TI)
def i95:TI:=(⟨.func #[23,3,3,3,94,64] #[3] false,[.nilFunc],1,8⟩:TI)
def i96:TI:=(⟨.func #[23] #[] false,[.nilFunc],1,8⟩:TI)
def i97:TI:=(⟨.pointer 90,[.pointer none],1,8⟩:TI)
def i99:TI:=(⟨.func #[23,3,3,94,64] #[3,3] false,[.nilFunc],1,8⟩:TI)
def Jl:TI:=(⟨.func #[] #[9] false,[.nilFunc],1,8⟩:TI)
def Jm:TI:=(⟨.array 0 16,[],0,0⟩:TI)
def Jn:TI:=(⟨.struct (cA Try.prog 104),[],0,0⟩:TI)
def Jo:TI:=(⟨.struct (cA Try.prog 105),[],0,0⟩:TI)
def Jp:TI:=(⟨.func #[] #[3] false,[.nilFunc],1,8⟩:TI)
def Jq:TI:=(⟨.func #[115,115] #[4] false,[.nilFunc],1,8⟩:TI)
def Jr:TI:=(⟨.pointer 5,[.pointer none],1,8⟩:TI)
def Js:TI:=(⟨.struct (cA Try.prog 113),[.int .u64 0,.int .u64 0,.int .u32 0,.int .u8 0,.int .u8 0,.int .u8 0,.int .u8 0,.nilFunc,.pointer none,.int .i32 0,.int .i32 0],11,48⟩:TI)
def Jt:TI:=(⟨.struct (cA Try.prog 114),[.int .u64 0,.int .u64 0,.int .u32 0,.int .u8 0,.int .u8 0,.int .u8 0,.int .u8 0,.nilFunc,.pointer none,.int .i32 0,.int .i32 0],11,48⟩:TI)
def TT:List (Nat×TI):= [(1,i1),
 (2,(⟨.int .i64,[.int .i64 0],1,8⟩:TI)),
 (3,(⟨.int .i64,[.int .i64 0],1,8⟩:TI)),
 (4,i4),
 (5,(⟨.int .u8,[.int .u8 0],1,1⟩:TI)),
 (6,(⟨.int .u8,[.int .u8 0],1,1⟩:TI)),
 (7,i7),
 (8,i8),
 (12,(⟨.int .u64,[.int .u64 0],1,8⟩:TI)),
 (15,i15),
 (16,i16),
 (17,i17),
 (18,i18),
 (19,i19),
 (21,(⟨.int .i32,[.int .i32 0],1,4⟩:TI)),
 (22,i22),
 (23,i23),
 (24,i24),
 (25,i25),
 (26,i26),
 (27,(⟨.int .i64,[.int .i64 0],1,8⟩:TI)),
 (29,i29),
 (30,i30),
 (31,i31),
 (32,i32),
 (33,i33),
 (34,i34),
 (35,i35),
 (36,i36),
 (37,i37),
 (38,(⟨.int .i64,[.int .i64 0],1,8⟩:TI)),
 (40,i40),
 (41,i41),
 (42,i42),
 (43,i43),
 (44,i44),
 (45,i45),
 (46,i46),
 (47,i47),
 (48,i48),
 (49,i49),
 (50,i50),
 (51,i51),
 (52,i52),
 (53,i53),
 (55,(⟨.int .u64,[.int .u64 0],1,8⟩:TI)),
 (56,i56),
 (57,i57),
 (59,i59),
 (60,i60),
 (61,i61),
 (62,i62),
 (63,i63),
 (64,i64),
 (66,i66),
 (67,i67),
 (68,i68),
 (69,i69),
 (70,i70),
 (71,i71),
 (72,i72),
 (73,(⟨.int .u64,[.int .u64 0],1,8⟩:TI)),
 (74,i74),
 (75,i75),
 (76,i76),
 (77,i77),
 (78,i78),
 (79,i79),
 (80,i80),
 (81,(⟨.int .i64,[.int .i64 0],1,8⟩:TI)),
 (83,i83),
 (84,i84),
 (85,i85),
 (86,i86),
 (87,i87),
 (88,i88),
 (89,i89),
 (90,(⟨.int .u64,[.int .u64 0],1,8⟩:TI)),
 (91,i91),
 (92,i92),
 (93,i93),
 (94,i94),
 (95,i95),
 (96,i96),
 (97,i97),
 (99,i99),
 (100,Jl),
 (103,Jm),
 (104,Jn),
 (105,Jo),
 (106,Jp),
 (107,(⟨.int .u8,[.int .u8 0],1,1⟩:TI)),
 (108,(⟨.int .u8,[.int .u8 0],1,1⟩:TI)),
 (109,Jq),
 (110,Jr),
 (111,(⟨.int .i32,[.int .i32 0],1,4⟩:TI)),
 (112,(⟨.int .i32,[.int .i32 0],1,4⟩:TI)),
 (113,Js),
 (114,Jt)]
theorem tz1:ak Try.prog 1=some i1:=by kernel_rfl
theorem tz2:ak Try.prog 2=some (⟨.int .i64,[.int .i64 0],1,8⟩:TI):=by kernel_rfl
theorem tz3:ak Try.prog 3=some (⟨.int .i64,[.int .i64 0],1,8⟩:TI):=by kernel_rfl
theorem tz4:ak Try.prog 4=some i4:=by kernel_rfl
theorem tz5:ak Try.prog 5=some (⟨.int .u8,[.int .u8 0],1,1⟩:TI):=by kernel_rfl
theorem tz6:ak Try.prog 6=some (⟨.int .u8,[.int .u8 0],1,1⟩:TI):=by kernel_rfl
theorem tz7:ak Try.prog 7=some i7:=by kernel_rfl
theorem tz8:ak Try.prog 8=some i8:=by kernel_rfl
theorem Ju:ak Try.prog 12=some (⟨.int .u64,[.int .u64 0],1,8⟩:TI):=by kernel_rfl
theorem Jv:ak Try.prog 15=some i15:=by kernel_rfl
theorem Jw:ak Try.prog 16=some i16:=by kernel_rfl
theorem Jx:ak Try.prog 17=some i17:=by kernel_rfl
theorem Jy:ak Try.prog 18=some i18:=by kernel_rfl
theorem Jz:ak Try.prog 19=some i19:=by kernel_rfl
theorem JA:ak Try.prog 21=some (⟨.int .i32,[.int .i32 0],1,4⟩:TI):=by kernel_rfl
theorem Ib:ak Try.prog 22=some i22:=by kernel_rfl
theorem Ic:ak Try.prog 23=some i23:=by kernel_rfl
theorem JB:ak Try.prog 24=some i24:=by kernel_rfl
theorem Id:ak Try.prog 25=some i25:=by kernel_rfl
theorem JC:ak Try.prog 26=some i26:=by kernel_rfl
theorem JD:ak Try.prog 27=some (⟨.int .i64,[.int .i64 0],1,8⟩:TI):=by kernel_rfl
theorem JE:ak Try.prog 29=some i29:=by kernel_rfl
theorem JF:ak Try.prog 30=some i30:=by kernel_rfl
theorem JG:ak Try.prog 31=some i31:=by kernel_rfl
theorem JH:ak Try.prog 32=some i32:=by kernel_rfl
theorem JI:ak Try.prog 33=some i33:=by kernel_rfl
theorem JJ:ak Try.prog 34=some i34:=by kernel_rfl
theorem JK:ak Try.prog 35=some i35:=by kernel_rfl
theorem Ie:ak Try.prog 36=some i36:=by kernel_rfl
theorem JL:ak Try.prog 37=some i37:=by kernel_rfl
theorem JM:ak Try.prog 38=some (⟨.int .i64,[.int .i64 0],1,8⟩:TI):=by kernel_rfl
theorem JN:ak Try.prog 40=some i40:=by kernel_rfl
theorem JO:ak Try.prog 41=some i41:=by kernel_rfl
theorem JP:ak Try.prog 42=some i42:=by kernel_rfl
theorem JQ:ak Try.prog 43=some i43:=by kernel_rfl
theorem JR:ak Try.prog 44=some i44:=by kernel_rfl
theorem JS:ak Try.prog 45=some i45:=by kernel_rfl
theorem JT:ak Try.prog 46=some i46:=by kernel_rfl
theorem JU:ak Try.prog 47=some i47:=by kernel_rfl
theorem JV:ak Try.prog 48=some i48:=by kernel_rfl
theorem JW:ak Try.prog 49=some i49:=by kernel_rfl
theorem JY:ak Try.prog 50=some i50:=by kernel_rfl
theorem JZ:ak Try.prog 51=some i51:=by kernel_rfl
theorem Ka:ak Try.prog 52=some i52:=by kernel_rfl
theorem Kb:ak Try.prog 53=some i53:=by kernel_rfl
theorem Kc:ak Try.prog 55=some (⟨.int .u64,[.int .u64 0],1,8⟩:TI):=by kernel_rfl
theorem Kd:ak Try.prog 56=some i56:=by kernel_rfl
theorem Ke:ak Try.prog 57=some i57:=by kernel_rfl
theorem Kf:ak Try.prog 59=some i59:=by kernel_rfl
theorem Kg:ak Try.prog 60=some i60:=by kernel_rfl
theorem Kh:ak Try.prog 61=some i61:=by kernel_rfl
theorem Ki:ak Try.prog 62=some i62:=by kernel_rfl
theorem Kj:ak Try.prog 63=some i63:=by kernel_rfl
theorem Kk:ak Try.prog 64=some i64:=by kernel_rfl
theorem Kl:ak Try.prog 66=some i66:=by kernel_rfl
theorem Km:ak Try.prog 67=some i67:=by kernel_rfl
theorem Kn:ak Try.prog 68=some i68:=by kernel_rfl
theorem Ko:ak Try.prog 69=some i69:=by kernel_rfl
theorem Kp:ak Try.prog 70=some i70:=by kernel_rfl
theorem Kq:ak Try.prog 71=some i71:=by kernel_rfl
theorem Kr:ak Try.prog 72=some i72:=by kernel_rfl
theorem Ks:ak Try.prog 73=some (⟨.int .u64,[.int .u64 0],1,8⟩:TI):=by kernel_rfl
theorem Kt:ak Try.prog 74=some i74:=by kernel_rfl
theorem Ku:ak Try.prog 75=some i75:=by kernel_rfl
theorem Kv:ak Try.prog 76=some i76:=by kernel_rfl
theorem Kw:ak Try.prog 77=some i77:=by kernel_rfl
theorem Kx:ak Try.prog 78=some i78:=by kernel_rfl
theorem Kz:ak Try.prog 79=some i79:=by kernel_rfl
theorem KA:ak Try.prog 80=some i80:=by kernel_rfl
theorem KH:ak Try.prog 81=some (⟨.int .i64,[.int .i64 0],1,8⟩:TI):=by kernel_rfl
theorem KI:ak Try.prog 83=some i83:=by kernel_rfl
theorem KJ:ak Try.prog 84=some i84:=by kernel_rfl
theorem KL:ak Try.prog 85=some i85:=by kernel_rfl
theorem KN:ak Try.prog 86=some i86:=by kernel_rfl
theorem KO:ak Try.prog 87=some i87:=by kernel_rfl
theorem KP:ak Try.prog 88=some i88:=by kernel_rfl
theorem KQ:ak Try.prog 89=some i89:=by kernel_rfl
theorem KR:ak Try.prog 90=some (⟨.int .u64,[.int .u64 0],1,8⟩:TI):=by kernel_rfl
theorem KU:ak Try.prog 91=some i91:=by kernel_rfl
theorem KX:ak Try.prog 92=some i92:=by kernel_rfl
theorem KY:ak Try.prog 93=some i93:=by kernel_rfl
theorem KZ:ak Try.prog 94=some i94:=by kernel_rfl
theorem La:ak Try.prog 95=some i95:=by kernel_rfl
theorem Lb:ak Try.prog 96=some i96:=by kernel_rfl
theorem Lc:ak Try.prog 97=some i97:=by kernel_rfl
theorem Ld:ak Try.prog 99=some i99:=by kernel_rfl
theorem Hh:ak Try.prog 100=some Jl:=by kernel_rfl
theorem Hi:ak Try.prog 103=some Jm:=by kernel_rfl
theorem Hj:ak Try.prog 104=some Jn:=by kernel_rfl
theorem Hk:ak Try.prog 105=some Jo:=by kernel_rfl
theorem Hl:ak Try.prog 106=some Jp:=by kernel_rfl
theorem Hm:ak Try.prog 107=some (⟨.int .u8,[.int .u8 0],1,1⟩:TI):=by kernel_rfl
theorem Hn:ak Try.prog 108=some (⟨.int .u8,[.int .u8 0],1,1⟩:TI):=by kernel_rfl
theorem Ho:ak Try.prog 109=some Jq:=by kernel_rfl
theorem Hp:ak Try.prog 110=some Jr:=by kernel_rfl
theorem Hq:ak Try.prog 111=some (⟨.int .i32,[.int .i32 0],1,4⟩:TI):=by kernel_rfl
theorem Hr:ak Try.prog 112=some (⟨.int .i32,[.int .i32 0],1,4⟩:TI):=by kernel_rfl
theorem Hs:ak Try.prog 113=some Js:=by kernel_rfl
theorem Ht:ak Try.prog 114=some Jt:=by kernel_rfl
theorem nr:Try.prog.follows .mixedOrders=true:=by kernel_rfl
theorem ns:vU Try.prog=true:=by kernel_rfl
def ay:List TD->Option (Kind×List TD):=λ_=>none
theorem Fx(x y:Operand)(a0 b0 a1 b1:Int):ae Try.prog (do eqGuard .eql 36 x y (.agg #[.int .i64 a0,.int .i64 a1]) (.agg #[.int .i64 b0,.int .i64 b1]);binOp .eql 36 (.agg #[.int .i64 a0,.int .i64 a1]) (.agg #[.int .i64 b0,.int .i64 b1]))=some (.bool ((a0==b0 &&(a1==b1 && true)))):=by
 refine yc (by kernel_rfl) ((gE 9999 36 #[.int .i64 a0,.int .i64 a1] #[.int .i64 b0,.int .i64 b1] (fs:=cA Try.prog 35) (by kernel_rfl) (by kernel_rfl)).trans ?_);rw [show(cA Try.prog 35).toList= [fld Try.prog 35 0,fld Try.prog 35 1]by kernel_rfl];exact((dA (k:= .i64) (k':= .i64) (by kernel_rfl) (by kernel_rfl) (by kernel_rfl) (by kernel_rfl)).trans (ia ((dA (k:= .i64) (k':= .i64) (by kernel_rfl) (by kernel_rfl) (by kernel_rfl) (by kernel_rfl)).trans (ia fW))))
theorem Fy(x y:Operand)(a0 b0 a1 b1:Int):ae Try.prog (do eqGuard .neq 36 x y (.agg #[.int .i64 a0,.int .i64 a1]) (.agg #[.int .i64 b0,.int .i64 b1]);binOp .neq 36 (.agg #[.int .i64 a0,.int .i64 a1]) (.agg #[.int .i64 b0,.int .i64 b1]))=some (.bool (!(a0==b0 &&(a1==b1 && true)))):=by
 refine rj (by kernel_rfl) ((gE 9999 36 #[.int .i64 a0,.int .i64 a1] #[.int .i64 b0,.int .i64 b1] (fs:=cA Try.prog 35) (by kernel_rfl) (by kernel_rfl)).trans ?_);rw [show(cA Try.prog 35).toList= [fld Try.prog 35 0,fld Try.prog 35 1]by kernel_rfl];exact((dA (k:= .i64) (k':= .i64) (by kernel_rfl) (by kernel_rfl) (by kernel_rfl) (by kernel_rfl)).trans (ia ((dA (k:= .i64) (k':= .i64) (by kernel_rfl) (by kernel_rfl) (by kernel_rfl) (by kernel_rfl)).trans (ia fW))))
theorem Fz(x y:Operand)(a0 b0 a1 b1:Int):ae Try.prog (do eqGuard .eql 57 x y (.agg #[.int .i64 a0,.int .u64 a1]) (.agg #[.int .i64 b0,.int .u64 b1]);binOp .eql 57 (.agg #[.int .i64 a0,.int .u64 a1]) (.agg #[.int .i64 b0,.int .u64 b1]))=some (.bool ((a0==b0 &&(a1==b1 && true)))):=by
 refine yc (by kernel_rfl) ((gE 9999 57 #[.int .i64 a0,.int .u64 a1] #[.int .i64 b0,.int .u64 b1] (fs:=cA Try.prog 56) (by kernel_rfl) (by kernel_rfl)).trans ?_);rw [show(cA Try.prog 56).toList= [fld Try.prog 56 0,fld Try.prog 56 1]by kernel_rfl];exact((dA (k:= .i64) (k':= .i64) (by kernel_rfl) (by kernel_rfl) (by kernel_rfl) (by kernel_rfl)).trans (ia ((dA (k:= .u64) (k':= .u64) (by kernel_rfl) (by kernel_rfl) (by kernel_rfl) (by kernel_rfl)).trans (ia fW))))
theorem FA(x y:Operand)(a0 b0 a1 b1:Int):ae Try.prog (do eqGuard .neq 57 x y (.agg #[.int .i64 a0,.int .u64 a1]) (.agg #[.int .i64 b0,.int .u64 b1]);binOp .neq 57 (.agg #[.int .i64 a0,.int .u64 a1]) (.agg #[.int .i64 b0,.int .u64 b1]))=some (.bool (!(a0==b0 &&(a1==b1 && true)))):=by
 refine rj (by kernel_rfl) ((gE 9999 57 #[.int .i64 a0,.int .u64 a1] #[.int .i64 b0,.int .u64 b1] (fs:=cA Try.prog 56) (by kernel_rfl) (by kernel_rfl)).trans ?_);rw [show(cA Try.prog 56).toList= [fld Try.prog 56 0,fld Try.prog 56 1]by kernel_rfl];exact((dA (k:= .i64) (k':= .i64) (by kernel_rfl) (by kernel_rfl) (by kernel_rfl) (by kernel_rfl)).trans (ia ((dA (k:= .u64) (k':= .u64) (by kernel_rfl) (by kernel_rfl) (by kernel_rfl) (by kernel_rfl)).trans (ia fW))))
def EQS:List (Nat×List IntKind):= [(36,[.i64,.i64]),(57,[.i64,.u64])]
def fi3:FI:=fiF Try.f3
def fi4:FI:=fiF Try.f4
def fi5:FI:=fiF Try.f5
def fi6:FI:=fiF Try.f6
def fi8:FI:=fiF Try.f8
def fi9:FI:=fiF Try.f9
def MC:FI:=fiF Try.f10
def MD:FI:=fiF Try.f11
def Lf:FI:=fiF Try.f21
def ME:FI:=fiF Try.f23
def MF:FI:=fiF Try.f24
def Lg:FI:=fiF Try.f25
def Lh:FI:=fiF Try.f26
def Li:FI:=fiF Try.f29
def Lj:FI:=fiF Try.f30
def Lk:FI:=fiF Try.f31
def Ll:FI:=fiF Try.f35
def Lm:FI:=fiF Try.f41
def Ln:FI:=fiF Try.f42
def Lo:FI:=fiF Try.f43
def Lp:FI:=fiF Try.f44
def Lr:FI:=fiF Try.f48
def Ls:FI:=fiF Try.f49
def Lt:FI:=fiF Try.f52
abbrev yD3:TyD:=(true,.C (.I .i64) (.I .u64))
abbrev yD2:TyD:=(false,.S (.C (.I .i64) (.I .i64)))
abbrev yD1:TyD:=(true,.C (.I .i64) (.S (.C (.I .i64) (.I .i64))))
abbrev yD0:TyD:=(false,.S (.C (.I .i64) (.S (.C (.I .i64) (.I .i64)))))
end K
end Ev
end
noncomputable section
namespace Ev
namespace K
open Go Go.RowKit
set_option maxRecDepth 100000
set_option maxHeartbeats 1000000
def BC:fw:= []
def tw:KG:=⟨TT,EQS,[],[]⟩
def iB:bW [(false,.I .i64)]->Option (OutK.val (.data true [yD3])):=gl tw BC Lj 30 0 [(false,.I .i64)] (.data true [yD3])
def nu:ct:=⟨30,[(false,.I .i64)],.data true [yD3],iB,1⟩
def qe:fw:= []
def jk:KG:=⟨TT,EQS,[],[]⟩
def ee:bW [yD3,yD3]->Option (OutK.val (.data true [(false,.I .i64)])):=gl jk qe Lt 52 0 [yD3,yD3] (.data true [(false,.I .i64)])
def jm:ct:=⟨52,[yD3,yD3],.data true [(false,.I .i64)],ee,1⟩
def so:fw:= []
def kv:KG:=⟨TT,EQS,[jm],[]⟩
def eT:bW [yD3,yD3]->Option (OutK.val (.data true [yD3])):=gl kv so Lm 41 0 [yD3,yD3] (.data true [yD3])
def kw:ct:=⟨41,[yD3,yD3],.data true [yD3],eT,2⟩
def uU:fw:= []
def lZ:KG:=⟨TT,EQS,[nu],[]⟩
def eM:bW [(false,.B)]->Option (OutK.val (.data true [yD3])):=gl lZ uU Ln 42 0 [(false,.B)] (.data true [yD3])
def ma:ct:=⟨42,[(false,.B)],.data true [yD3],eM,2⟩
def yH:fw:= []
def qf:KG:=⟨TT,EQS,[],[]⟩
def ig:bW [yD3,yD3]->Option (OutK.val (.data true [yD3])):=gl qf yH Lo 43 0 [yD3,yD3] (.data true [yD3])
def qg:ct:=⟨43,[yD3,yD3],.data true [yD3],ig,1⟩
def yI:fw:= [(29,⟨[⟨true,2,9,[4,5,6,7],⟨[],[],[]⟩,[(.normal,⟨[(8,false,[.d true .B])],[],[]⟩)]⟩],[]⟩)]
def qh:KG:=⟨TT,EQS,[kw,ma,qg],[]⟩
def jn:bW [(false,.I .i64),yD3,yD3]->Option (OutK.val (.data true [yD3])):=gl qh yI Li 29 0 [(false,.I .i64),yD3,yD3] (.data true [yD3])
def yJ:ct:=⟨29,[(false,.I .i64),yD3,yD3],.data true [yD3],jn,3⟩
def sr:fw:= []
def ky:KG:=⟨TT,EQS,[nu],[]⟩
def fQ:bW [yD3]->Option (OutK.val (.data true [(false,.I .i64),(false,.B)])):=gl ky sr Lp 44 0 [yD3] (.data true [(false,.I .i64),(false,.B)])
def kz:ct:=⟨44,[yD3],.data true [(false,.I .i64),(false,.B)],fQ,2⟩
def su:fw:= []
def kA:KG:=⟨TT,EQS,[kz],[]⟩
def fR:bW [(false,.I .i64),yD3]->Option (OutK.val (.data true [(false,.I .i64),(false,.B)])):=gl kA su Lk 31 0 [(false,.I .i64),yD3] (.data true [(false,.I .i64),(false,.B)])
def sv:ct:=⟨31,[(false,.I .i64),yD3],.data true [(false,.I .i64),(false,.B)],fR,3⟩
def BD:fw:= []
def tz:KG:=⟨TT,EQS,[],[]⟩
def mb:bW [(false,.I .i64)]->Option (OutK.val (.data true [(false,.B)])):=gl tz BD Lg 25 0 [(false,.I .i64)] (.data true [(false,.B)])
def BE:ct:=⟨25,[(false,.I .i64)],.data true [(false,.B)],mb,1⟩
def uV:fw:= []
def mc:KG:=⟨TT,EQS,[],[]⟩
def bL:bW [(false,.I .i64)]->Option (OutK.val (.data true [(false,.B)])):=gl mc uV Lh 26 0 [(false,.I .i64)] (.data true [(false,.B)])
def me:ct:=⟨26,[(false,.I .i64)],.data true [(false,.B)],bL,1⟩
def sw:fw:= [(21,⟨[⟨false,5,0,[1,11,12],⟨[(3,false,[.d true (.I .i64)]),(13,false,[.d true (.I .i64)])],[],[]⟩,[(.exit 0,⟨[],[],[]⟩),(.ret,⟨[(2,false,[.d true .B])],[],[]⟩)]⟩],[]⟩)]
def kB:KG:=⟨TT,EQS,[me],[]⟩
def bG:bW [yD1]->Option (OutK.val (.data true [(false,.B)])):=gl kB sw Lf 21 0 [yD1] (.data true [(false,.B)])
def kD:ct:=⟨21,[yD1],.data true [(false,.B)],bG,2⟩
def uW:fw:= []
def mf:KG:=⟨TT,EQS,[kD],[]⟩
def bE:bW [yD1]->Option (OutK.val (.data false [yD1])):=gl mf uW fi9 9 0 [yD1] (.data false [yD1])
def mg:ct:=⟨9,[yD1],.data false [yD1],bE,3⟩
def uX:fw:= [(48,⟨[⟨false,2,0,[1],⟨[(5,false,[.d true (.I .i64)]),(6,false,[.d true (.I .i64)])],[],[]⟩,[(.exit 0,⟨[(5,false,[.d true (.I .i64)])],[],[]⟩)]⟩],[]⟩)]
def mh:KG:=⟨TT,EQS,[],[(48,Lr),(49,Ls)]⟩
def dj:bW [yD1,(false,.I .i64)]->Option (OutK.val (.data true [(false,.I .i64),(false,.B)])):=gl mh uX Ll 35 6 [yD1,(false,.I .i64)] (.data true [(false,.I .i64),(false,.B)])
def uY:ct:=⟨35,[yD1,(false,.I .i64)],.data true [(false,.I .i64),(false,.B)],dj,7⟩
end K
end Ev
end
noncomputable section
namespace Ev
namespace K
open Go Go.RowKit
def xc{α:Type}(f:List T->Option α):List (List T)->Option (List α)
 | []=>some []
 |a::r=>(f a).bind λx=>(xc f r).map (x::·)
theorem qi{α:Type}{f:List T->Option α}{g:α->List T}(h:∀a x,f a=some x->a=g x):∀{l:List (List T)} {r:List α},xc f l=some r->l=r.map g
 | [],r,hr=>by simp [xc]at hr;subst hr;rfl
 |a::l,r,hr=>by
  simp only [xc,zbE,Option.map_eq_some_iff]at hr;obtain⟨x,hx,r',hr',rfl⟩:=hr;rw [List.map_cons,<-h a x hx,<-qi h hr']
def oZ:(e:Ty)->List T->Option e.val
 | .I k,l=>match l with
  | [.v (.int k' n)]=>if k'=k then some n else none
  |_=>none
 | .B,l=>match l with
  | [.v (.bool b)]=>some b
  |_=>none
 | .S e,l=>match l with
  | [.s nn sz rows]=>(xc (oZ e) rows).map λr=>⟨nn,sz,r⟩
  |_=>none
 | .U,l=>match l with
  | []=>some ()
  |_=>none
 | .C a b,l=>(oZ a (l.take a.size)).bind λx=>(oZ b (l.drop a.size)).bind λy=>some (x,y)
theorem gx:∀(e:Ty) (l:List T) (x:e.val),oZ e l=some x->l=e.row x
 | .I k,l,x,h=>by
  simp only [oZ]at h;split at h
  .split at h
   .rename_i hk;cases h;subst hk;rfl
   .simp at h
  .simp at h
 | .B,l,x,h=>by
  simp only [oZ]at h;split at h
  .cases h;rfl
  .simp at h
 | .S e,l,x,h=>by
  simp only [oZ]at h;split at h
  .rw [Option.map_eq_some_iff]at h;obtain⟨r,hr,rfl⟩:=h;rw [qi (gx e) hr];rfl
  .simp at h
 | .U,l,x,h=>by
  simp only [oZ]at h;split at h
  .rfl
  .simp at h
 | .C a b,l,x,h=>by
  simp only [oZ,zbE]at h;obtain⟨x1,h1,x2,h2,h3⟩:=h;cases h3;show l=a.row x1++b.row x2;rw [<-gx a _ _ h1,<-gx b _ _ h2,List.take_append_drop]
def xd(t:TyD)(d:TD):Option t.2.val:=
 match t,d with
 |(true,e),.agg l=>oZ e l
 |(false,e),.one y=>oZ e [y]
 |(false,e),.agg l=>if l.length=1 then none else oZ e l
 |_,_=>none
def Hu:List T->TD
 | [y]=> .one y
 |ys=> .agg ys
theorem xe(e:Ty)(x:e.val):lv (false,e) x=Hu (e.row x):=by
 unfold lv Hu;rfl
theorem qj(t:TyD)(d:TD)(x:t.2.val)(h:xd t d=some x):d=lv t x:=by
 obtain⟨b,e⟩:=t
 cases b with
 |true=>
  cases d with
  |one y=>simp [xd]at h
  |agg l=>exact congrArg TD.agg (gx e l x h)
 |false=>
  change e.val at x
  cases d with
  |one y=>rw [show lv (false,e) x=_ from xe e x,<-gx e [y] x h];rfl
  |agg l=>
   simp only [xd]at h;split at h
   .simp at h
   .rename_i hl
    have:=gx e l x h
    rw [show lv (false,e) x=_ from xe e x,<-this]
    match l,hl with
    | [],_=>rfl
    | [y],hl=>simp at hl
    |a::b::r,_=>rfl
def nv:(ts:List TyD)->List TD->Option (bW ts)
 | [],l=>match l with
  | []=>some ()
  |_=>none
 | [t],l=>match l with
  | [d]=>xd t d
  |_=>none
 |t::t'::r,l=>match l with
  |d::ds=>(xd t d).bind λx=>(nv (t'::r) ds).bind λy=>some (x,y)
  | []=>none
theorem om:∀(ts:List TyD) (l:List TD) (x:bW ts),nv ts l=some x->l=cO ts x
 | [],l,x,h=>by
  simp only [nv]at h;split at h
  .rfl
  .simp at h
 | [t],l,x,h=>by
  simp only [nv]at h;split at h
  .exact congrArg (·:: []) (qj t _ x h)
  .simp at h
 |t::t'::r,l,x,h=>by
  simp only [nv]at h;split at h
  .simp only [zbE]at h;obtain⟨y,h1,z,h2,h3⟩:=h;cases h3;show _=lv t y::cO (t'::r) z;rw [<-qj t _ y h1,<-om (t'::r) _ z h2]
  .simp at h
def xf(ins:List TyD)(kind:Kind)(ts:List TyD)(g:bW ins->Option (bW ts))(vs:List TD):Option (Kind×List TD):=(nv ins vs).bind λa=>(g a).bind λx=>some (kind,cO ts x)
theorem uZ{P:Program}{k:FuncId}{ins:List TyD}{kind:Kind}{ts:List TyD}{g:bW ins->Option (bW ts)}(he:Enters P k)(h:∀a x,g a=some x->dK P k (cO ins a) kind (cO ts x)):∀vs kind' rs,xf ins kind ts g vs=some (kind',rs)->dK P k vs kind' rs/\Enters P k:=by
 intro vs kind' rs hf;simp only [xf,zbE]at hf;obtain⟨a,h1,x,h2,h3⟩:=hf;cases h3;rw [om ins vs a h1];exact⟨h a x h2,he⟩
end K
end Ev
end
noncomputable section
open Go.RowKit Go.Sort
def Has(w:World)(b:Nat):Prop:=b<w.heap.size
def Lu(w:World)(os:Array Obj)(b:Nat):Prop:=w.heap.size<=b/\b<w.heap.size+os.size
theorem Has.of{w:World}{b:Nat}(h:b<w.heap.size):Has w b:=h
@[go_sem] theorem Jg (w:World) (o:Obj) (b:Nat):Has (w.alloc o) b=(b=w.heap.size∨Has w b):=by
 unfold Has;simp;omega
@[go_sem] theorem Lv (w:World) (d:Nat) (os:Array Obj) (b:Nat):Has (grow (redrawn w d) os) b=(Has w b∨Lu w os b):=by
 unfold Has Lu;simp [grow,redrawn];omega
@[go_sem] theorem Hv (w:World) (a:Addr) (v:Value) (b:Nat):Has (w.setCell a v) b=Has w b:=by
 unfold Has;simp [World.setCell]
@[go_sem] theorem Lw (w:World) (b:Nat):Has w.drew b=Has w b:=rfl
@[go_sem] theorem Mz {w:World} {d:Nat} {os:Array Obj} {a:Addr} (h:Has w a.block):(grow (redrawn w d) os).cell? a=w.cell? a:=
 (below_regrown w d os).cell h
@[go_sem] theorem Jh {w:World} {d:Nat} {os:Array Obj} {a:Addr} (h:Has w a.block):(grow (redrawn w d) os).frozen? a=w.frozen? a:=
 (below_regrown w d os).frozen h
@[go_sem] theorem MA {w:World} {o:Obj} {a:Addr} (h:Has w a.block):(w.alloc o).cell? a=w.cell? a:=
 ((Below.refl w.heap.size w).alloc (Nat.le_refl _) o).cell h
@[go_sem] theorem Ji {w:World} {o:Obj} {a:Addr} (h:Has w a.block):(w.alloc o).frozen? a=w.frozen? a:=
 ((Below.refl w.heap.size w).alloc (Nat.le_refl _) o).frozen h
@[go_sem] theorem If {w:World} {o:Obj} {a:Addr} {v:Value} (h:Has w a.block):(w.alloc o).setCell a v=(w.setCell a v).alloc o:=by
 unfold Has at h;simp only [World.setCell,World.alloc];congr 1;apply Array.ext_getElem?;intro k;simp only [Array.getElem?_modify,Array.getElem?_push,Array.size_modify];by_cases hk:k=w.heap.size
 .subst hk;simp;omega
 .simp [hk]
@[go_sem] theorem MG {α:Type} (p:Prop) [Decidable p] (x y:α) (w:World):(if p then Result.ok x w else Result.ok y w)=Result.ok (if p then x else y) w:=by
 split<;>rfl
@[go_sem] theorem Jj (p:Prop) [Decidable p] (x y:Value):(if p then Next.value x else Next.value y)=Next.value (if p then x else y):=by
 split<;>rfl
theorem bl1(w:World)(a:Obj):Below w.heap.size w (w.alloc a):=(Below.refl _ _).alloc (Nat.le_refl _) _
theorem bl2(w:World)(a b:Obj):Below w.heap.size w ((w.alloc a).alloc b):=(bl1 w a).alloc (by simp) _
theorem blg{w w1:World}(h:Below w.heap.size w w1)(d:Nat)(os:Array Obj):Below w.heap.size w (grow (redrawn w1 d) os):=
 h.trans ((below_regrown w1 d os).mono h.size)
theorem BF(w:World)(a b:Array Obj):grow (grow w a) b=grow w (a++b):=by simp [grow,Array.append_assoc]
@[go_sem] theorem MX (w:World) (d d2:Nat) (os os2:Array Obj):grow (redrawn (grow (redrawn w d) os) d2) os2=grow (redrawn w d2) (os++os2):=by
 simp [grow,redrawn,Array.append_assoc]
@[go_sem] theorem MB (w:World) (d:Nat) (os:Array Obj):(grow (redrawn w d) os).heap.size=w.heap.size+os.size:=by simp [grow,redrawn]
@[go_sem] theorem Ig {w:World} {d:Nat} {os:Array Obj} {a:Addr} {v:Value} (h:Has w a.block):(grow (redrawn w d) os).setCell a v=grow (redrawn (w.setCell a v) d) os:=by
 unfold Has at h;simp only [grow,redrawn,World.setCell];congr 1;apply Array.ext_getElem?;intro k;rw [Array.getElem?_modify];by_cases hk:k<w.heap.size
 .rw [Array.getElem?_append_left hk,Array.getElem?_append_left (by simpa using hk),Array.getElem?_modify]
 .rw [if_neg (by omega),Array.getElem?_append_right (by omega),Array.getElem?_append_right (by simpa using by omega)];simp
@[go_sem] theorem FB (w:World) (d:Nat):(redrawn w d).heap=w.heap:=rfl
theorem bla{w w1:World}(h:Below w.heap.size w w1)(o:Obj):Below w.heap.size w (w1.alloc o):=h.alloc h.size o
theorem bls{w w1:World}(h:Below w.heap.size w w1){p:Addr}(hp:w.heap.size<=p.block)(v:Value):Below w.heap.size w (w1.setCell p v):=h.setCell hp v
@[go_sem] theorem MH:IntKind.u64.signed=false:=rfl
@[go_sem] theorem MI:IntKind.i64.signed=true:=rfl
@[go_sem] theorem MY:IntKind.u8.signed=false:=rfl
@[go_sem] theorem MJ:IntKind.u32.signed=false:=rfl
end
noncomputable section
open Go Go.RowKit Go.Sort
section
variable {P : Program} {ops : Array Oper} {md : Region.Mode} {C : World → Prop}
def CQ(P:Program)(md:Region.Mode)(ops:Array Oper)(C:World->Prop)(n:Nat)(L:Array Bool->Act->Prop):Nat->Array Bool->Act->Prop
 |0,s,a=>L s a
 |f+1,s,a=>(∃i,i∈Region.ready md ops s)/\∀i∈Region.ready md ops s,i<n/\qOp P ops C i (CQ P md ops C n L f (s.setIfInBounds i true)) a
theorem sx{n g:Nat}{L:Array Bool->Act->Prop}{Q':Exit->Act->World->Prop}(hL:∀s a w,C w->L s a->wpAny P md ops Q' g s a w):
  ∀(f:Nat) (s:Array Bool) (a:Act) (w:World),C w->CQ P md ops C n L f s a->wpAny P md ops Q' (f+g) s a w:=by
 intro f
 induction f with
 |zero=>intro s a w hw h;rw [Nat.zero_add];exact hL s a w hw h
 |succ f ih=>
  intro s a w hw h;obtain⟨⟨i0,hi0⟩,hall⟩:=h;rw [Nat.add_right_comm];refine⟨λh0=> ?_,λi hi=>wpOp_of_qOp hw (λa' w' hw' h'=>ih _ a' w' hw' h') (hall i hi).2⟩;rw [h0]at hi0;cases hi0
theorem yK{n i:Nat}{oi:Oper}{v:Value}{L:Array Bool->Act->Prop}(hi:ops[i]? =some oi)(hsel:Region.noSelect ops=true)
  (hs:Region.sinkB md ops n=true) (hc:Region.chainB md ops n=true) (hn:n<ops.size) (hin:i<n) (hdone:∀s a,L s a->∀j∈Region.ready md ops s,n<=j) (f:Nat):
  ∀(s:Array Bool) (a:Act),HeadInv md ops n s->
   (∀j oj,ops[j]? =some oj->j≠i->s.getD j true=false->(∀e∈oj.after,Region.binds md e=true->e.on≠i)->oi.apart ops oj=true)->
   i∈Region.ready md ops s->YieldsIn P ops C oi v a->
   CQ P md ops C n L f (s.setIfInBounds i true) (a.put oi.dst v)->CQ P md ops C n L (f+1) s a:=by
 have sel:=Region.noSelect_spec hsel
 induction f with
 |zero=>
  intro s a inv _ hr hy H;refine⟨⟨i,hr⟩,λj hj=> ?_⟩;have hjn:j<n:=Nat.lt_of_not_le λh=>tail_waits hs hc hn inv _ i rfl hin (mem_ready.1 hr).1 j h hj;refine⟨hjn,?_⟩;by_cases hji:j=i
  .rw [hji];exact hy.qOp hi H
  .have:=hdone _ _ H j (ready_mono hj hji)
   omega
 |succ f ih=>
  intro s a inv hfree hr hy H;refine⟨⟨i,hr⟩,λj hj=> ?_⟩;have hun:=(mem_ready.1 hr).1;have hjn:j<n:=Nat.lt_of_not_le λh=>tail_waits hs hc hn inv _ i rfl hin hun j h hj;refine⟨hjn,?_⟩;by_cases hji:j=i
  .rw [hji];exact hy.qOp hi H
  .obtain⟨hjun,oj,hoj,hall⟩:=mem_ready.1 hj
   have hnot:∀e∈oj.after,Region.binds md e=true->e.on≠i:=by
    intro e he hb heq;have hd:=hall e he hb;rw [heq,getD_both hun]at hd;cases hd
   have hp:=qOp_put hoj (hfree j oj hoj hji hjun hnot) (λcs b=>sel i oi cs b hi) (λcs b=>sel j oj cs b hoj) hy (H.2 j (ready_mono hj hji)).2;refine qOp_mono (λa' h3=>ih _ a' (inv.set hj hjn) ?_ (ready_mono hr (Ne.symm hji)) h3.1 ?_) hp
   .intro k ok hk hki hkun hno;refine hfree k ok hk hki ?_ hno;by_cases hjk:j=k
    .rw [<-hjk];exact hjun
    .rwa [getD_set_ne true hjk]at hkun
   .rw [Array.setIfInBounds_comm _ _ hji];exact h3.2
theorem CR{n g:Nat}{Lq:Act->Prop}(hsel:Region.noSelect ops=true)(hs:Region.sinkB md ops n=true)(hc:Region.chainB md ops n=true)(hn:n<ops.size)(l:List Oper):
  ∀(k:Nat) (s:Array Bool) (a:Act),(∀j,j<l.length->l[j]? =ops[k+j]?)->k+l.length=n->HeadInv md ops n s->
  Region.lexHead md ops g l.length k s=true->wpQuiet P ops C Lq l a->
  CQ P md ops C n (λs' a'=>Region.seqB md ops g n s'=true/\Lq a') l.length s a:=by
 induction l with
 |nil=>
  intro k s a _ hk _ hB h;have hk':k=n:=by simpa using hk
  rw [<-hk'];exact⟨by simpa [Region.lexHead]using hB,h⟩
 |cons o l ih=>
  intro k s a hl hk inv hB h;have h0:ops[k]? =some o:=by simpa using (hl 0 (by simp)).symm
  simp only [List.length_cons]at hk hB;simp only [Region.lexHead,Bool.and_eq_true]at hB;have hkn:k<n:=by omega
  have hr:k∈Region.ready md ops s:=by simpa using hB.1.1
  have hq:qOp P ops C k (wpQuiet P ops C Lq l) a:=by unfold qOp;simp only [h0];exact h
  obtain⟨v,hy,hK⟩:=yieldsIn_of_qOp h0 hq;refine yK h0 hsel hs hc hn hkn (λs' a' hL=>seqB_ready hL.1) l.length s a inv (Region.free_spec h0 hB.1.2) hr hy (ih (k+1) _ _ (λj hj=> ?_) (by omega) (inv.set hr hkn) hB.2 hK)
  have:=hl (j+1) (by simp;omega)
  simpa [Nat.add_assoc,Nat.add_comm 1 j]using this
theorem jo{id:Nat}{Q:Exit->Act->World->Prop}{a:Act}{w:World}{l:List Oper}(n:Nat)(hm:P.follows .mixedOrders=true)(hB:Region.lexTailB .any l.toArray n=true)
  (hC:C {w with drawn:=w.drawn+1}) (h:wpQuiet P l.toArray C (λa'=>∀w',C w'->wpList P l.toArray Q (l.drop n) a' w') (l.take n) a):(Code.region id l.toArray true).wp P Q a w:=by
 simp only [Region.lexTailB,Bool.and_eq_true,decide_eq_true_eq]at hB;obtain⟨⟨⟨⟨hsel,hn⟩,hs⟩,hc⟩,hlex⟩:=hB;have hn':n<l.length:=by simpa using hn
 have htl:(l.take n).length=n:=by simp;omega
 have hdl:(l.drop n).length=l.toArray.size - n:=by simp
 have H:=CR (C:=C) (md:= .any) (g:=l.toArray.size - n) hsel hs hc hn (l.take n) 0 (Array.replicate l.toArray.size false) a (λj hj=>by
  have hj':j<n:=by rw [htl]at hj;exact hj
  simp [hj']) (by simpa using htl) ⟨by simp,λj oj _ hl=>(by rw [getD_replicate_false]at hl;cases hl),λt _ ht=>getD_in (by simpa using ht) (getD_replicate_false _ _)⟩ (by rw [htl];exact hlex) h
 refine wp_region_any hm ?_
 have R:=sx (Q':=Q) (g:=l.toArray.size - n) (λs a' w' hw hL=>by
  have:=wpAny_of_seq (md:= .any) (Q':=Q) (l.drop n) n s a' w' (λj=>by simp [List.getElem?_drop]) (by rw [hdl];exact hL.1) (hL.2 w' hw)
  rwa [hdl]at this) _ _ _ _ hC H
 rw [htl,show n+(l.toArray.size - n)=l.toArray.size by omega]at R;exact R
theorem fS{id:Nat}{Q:Exit->Act->World->Prop}{a:Act}{w:World}{l:List Oper}(n:Nat)(hm:P.follows .mixedOrders=true)(hB:Region.lexTailB .any l.toArray n=true)
  (h:wpQuiet P l.toArray (λw'=>∃p:Regrown,w'=grow (redrawn w p.d) p.os) (λa'=>∀w',(∃p:Regrown,w'=grow (redrawn w p.d) p.os)->wpList P l.toArray Q (l.drop n) a' w') (l.take n) a):(Code.region id l.toArray true).wp P Q a w:=
 jo (C:=λw'=>∃p:Regrown,w'=grow (redrawn w p.d) p.os) n hm hB ⟨⟨w.drawn+1,#[]⟩,by rw [grow_empty];rfl⟩ h
end
end
noncomputable section
open Go.RowKit Go.Sort
def CellsAt(W:World)(B:Nat)(t:TypeId)(cs:Array Value):Prop:=W.heap[B]? =some (.cells cs t (0,0))
theorem CellsAt.lt{W:World}{B:Nat}{t:TypeId}{cs:Array Value}(h:CellsAt W B t cs):B<W.heap.size:=(Array.getElem?_eq_some_iff.1 h).1
theorem CellsAt.cell{W:World}{B:Nat}{t:TypeId}{cs:Array Value}(h:CellsAt W B t cs)(i:Nat):W.cell? ⟨B,i,none⟩=cs[i]? :=by
 simp [World.cell?,show W.heap[B]? =_ from h]
theorem CellsAt.frozen{W:World}{B:Nat}{t:TypeId}{cs:Array Value}(h:CellsAt W B t cs)(i:Nat):W.frozen? ⟨B,i,none⟩=false:=by simp [World.frozen?,show W.heap[B]? =_ from h]
theorem CellsAt.set{W:World}{B:Nat}{t:TypeId}{cs:Array Value}(h:CellsAt W B t cs)(i:Nat)(v:Value):CellsAt (W.setCell ⟨B,i,none⟩ v) B t (cs.setIfInBounds i v):=by
 obtain⟨hlt,hk⟩:=Array.getElem?_eq_some_iff.1 h;show(W.heap.modify B _)[B]? =_;rw [Array.getElem?_eq_getElem (by rw [Array.size_modify];exact hlt),Array.getElem_modify_self,hk];rfl
theorem CellsAt.kept{W W':World}{B:Nat}{t:TypeId}{cs:Array Value}(h:CellsAt W B t cs)(hb:W'.heap[B]? =W.heap[B]?):CellsAt W' B t cs:=hb.trans h
theorem CellsAt.below{W W':World}{B:Nat}{t:TypeId}{cs:Array Value}(h:CellsAt W B t cs)(hb:Below W.heap.size W W'):CellsAt W' B t cs:=h.kept (hb.block B h.lt)
theorem CellsAt.grown{W W':World}{B:Nat}{t:TypeId}{cs:Array Value}{row:Option Nat}(h:CellsAt W B t cs)(hg:W.grownBy W' row)(hne:some B≠row):CellsAt W' B t cs:=h.kept (hg.block B h.lt hne)
theorem dL{W:World}{B B':Nat}{t:TypeId}{cs:Array Value}(h:CellsAt W B t cs)(hne:B≠B')(v:Value)(i:Nat):CellsAt (W.setCell ⟨B',i,none⟩ v) B t cs:=
 (Below.heap_setCell W ⟨B',i,none⟩ v B hne).trans h
@[go_sem] theorem vc (b:Addr) (k:Nat):(b.add k).block=b.block:=by unfold Addr.add;split<;>rfl
theorem bM{w w':World}(h:Below w.heap.size w w')(row:Option Nat):w.grownBy w' row:=⟨h.os,h.tape,h.output,h.size,λk hk _=>h.block k hk⟩
theorem al(W:World)(b i:Nat)(v:Value):W.grownBy (W.setCell ⟨b,i,none⟩ v) (some b):=
 ⟨rfl,rfl,rfl,(KeepsWalks.setCell W _ v).size,λk _ hk=>Below.heap_setCell _ _ _ k (λe=>hk (by rw [e]))⟩
theorem fB{A B:World}{n r:Nat}(h:A.grownBy B (some r))(hn:n<=A.heap.size)(hr:n<=r):Below n A B:=⟨h.os,h.tape,h.output,h.size,λk hk=>h.block k (by omega) (by simp;omega)⟩
theorem kX{A B:World}(h:A.grownBy B none):Below A.heap.size A B:=⟨h.os,h.tape,h.output,h.size,λk hk=>h.block k hk (by simp)⟩
end
noncomputable section
namespace Sm
abbrev V:=Int×Int
structure Rg where
 o:Int->V
 ad:V->V->V
 na:V->Int×Bool
abbrev Ky:=Int×Int
def key(e:Int×Int×Int):Ky:=(e.1,e.2.1)
def klt(a b:Ky):Bool:=decide (a.1<b.1∨a.1=b.1/\a.2<b.2)
theorem ml(a:Ky):klt a a=false:=by simp [klt]
theorem tA{a b c:Ky}(h1:klt a b=true)(h2:klt b c=true):klt a c=true:=by simp [klt]at*;omega
theorem vd{a b:Ky}(h1:klt a b=false)(h2:klt b a=false):a=b:=by
 simp [klt]at*;refine Prod.ext ?_ ?_<;>omega
theorem CS{a b:Ky}(h:klt a b=true):a≠b:=by rintro rfl;rw [ml]at h;cases h
theorem CT{a b:Ky}(h:klt a b=true):klt b a=false:=by simp [klt]at*;omega
def toE(R:Rg)(p:Ky×V):Int×Int×Int:=(p.1.1,p.1.2,(R.na p.2).1)
def upd(R:Rg)(f:Ky->Option V)(e:Int×Int×Int):Ky->Option V:=λk=>if k=key e then some (match f (key e)with|some s=>R.ad s (R.o e.2.2)|none=>R.o e.2.2)else f k
def fm(R:Rg)(l:List (Int×Int×Int)):Ky->Option V:=l.foldl (upd R) (λ_=>none)
theorem FC(R:Rg)(l:List (Int×Int×Int))(e:Int×Int×Int):fm R (l++ [e])=upd R (fm R l) e:=by simp [fm]
def ins(R:Rg):List (Ky×V)->(Int×Int×Int)->List (Ky×V)
 | [],e=> [(key e,R.o e.2.2)]
 |p::S,e=>if klt p.1 (key e)=true then p::ins R S e else if klt (key e) p.1=true then(key e,R.o e.2.2)::p::S else(p.1,R.ad p.2 (R.o e.2.2))::S
def ko(R:Rg)(l:List (Int×Int×Int)):List (Ky×V):=l.foldl (ins R) []
def Rep(S:List (Ky×V))(f:Ky->Option V):Prop:=S.Pairwise (λp q=>klt p.1 q.1=true)/\∀k z,(k,z)∈S↔f k=some z
theorem Rep.nil:Rep [] (λ_=>none):=⟨List.Pairwise.nil,by simp⟩
theorem An(R:Rg)(e:Int×Int×Int):∀(S:List (Ky×V)) (q:Ky×V),q∈ins R S e->q.1=key e∨q∈S
 | [],q,h=>by simp [ins]at h;subst h;exact .inl rfl
 |p::S,q,h=>by
  unfold ins at h;split at h
  .rcases List.mem_cons.1 h with rfl|h
   .exact .inr (by simp)
   .rcases An R e S q h with h|h
    .exact .inl h
    .exact .inr (by simp [h])
  .split at h
   .rcases List.mem_cons.1 h with rfl|h
    .exact .inl rfl
    .exact .inr h
   .rename_i h1 h2;rcases List.mem_cons.1 h with rfl|h
    .exact .inl (vd (by simpa using h1) (by simpa using h2))
    .exact .inr (by simp [h])
theorem qk(R:Rg)(e:Int×Int×Int):∀(S:List (Ky×V)),S.Pairwise (λp q=>klt p.1 q.1=true)->(ins R S e).Pairwise (λp q=>klt p.1 q.1=true)
 | [],_=>by simp [ins]
 |p::S,h=>by
  obtain⟨h1,h2⟩:=List.pairwise_cons.1 h;unfold ins;split
  .rename_i hp;refine List.pairwise_cons.2 ⟨λq hq=> ?_,qk R e S h2⟩;rcases An R e S q hq with h|h
   .rw [h];exact hp
   .exact h1 q h
  .split
   .rename_i hp;refine List.pairwise_cons.2 ⟨λq hq=> ?_,h⟩;rcases List.mem_cons.1 hq with rfl|hq
    .exact hp
    .exact tA hp (h1 q hq)
   .exact List.pairwise_cons.2 ⟨h1,h2⟩
theorem Ih(R:Rg)(e:Int×Int×Int):∀(S:List (Ky×V)) (f:Ky->Option V),Rep S f->Rep (ins R S e) (upd R f e)
 |S,f,h=>⟨qk R e S h.1,by
  intro k z
  have hmem:∀(S:List (Ky×V)),S.Pairwise (λp q=>klt p.1 q.1=true)->((k,z)∈ins R S e↔if k=key e then(∃s,(k,s)∈S/\z=R.ad s (R.o e.2.2))∨((∀s,(k,s)∉ S)/\z=R.o e.2.2)else(k,z)∈S):=by
   intro S
   induction S with
   |nil=>intro _;simp [ins,key]
   |cons p S ih=>
    intro hs;obtain⟨h1,h2⟩:=List.pairwise_cons.1 hs;unfold ins;split
    .rename_i hp;rw [List.mem_cons,ih h2];by_cases hk:k=key e
     .have hne:∀s,(k,s)≠p:=λs hs=>CS hp (by rw [<-hs];exact hk);simp [hk];rw [<-hk];simp [hne]
     .simp [hk]
    .split
     .rename_i hp0 hp
      have hno:∀s,(key e,s)∉ p::S:=by
       intro s hs;rcases List.mem_cons.1 hs with rfl|hs
       .rw [ml]at hp;cases hp
       .have:=tA hp (h1 _ hs)
        rw [ml]at this;cases this
      by_cases hk:k=key e
      .subst hk;rw [List.mem_cons];simp only [if_true];constructor
       .rintro(h|h)
        .exact .inr ⟨hno,by cases h;rfl⟩
        .exact absurd h (hno _)
       .rintro(⟨s,h,_⟩|⟨_,rfl⟩)
        .exact absurd h (hno _)
        .exact .inl rfl
      .rw [List.mem_cons,if_neg hk];constructor
       .rintro(h|h)
        .cases h;exact absurd rfl hk
        .exact h
       .exact .inr
     .rename_i hp0 hp;have he:p.1=key e:=vd (by simpa using hp0) (by simpa using hp)
      have hno:∀s,(key e,s)∉ S:=by
       intro s hs
       have:=h1 _ hs
       rw [he,ml]at this;cases this
      by_cases hk:k=key e
      .subst hk;simp only [if_true];rw [List.mem_cons];constructor
       .rintro(h|h)
        .exact .inl ⟨p.2,by rw [<-he];simp,by have:=congrArg Prod.snd h;exact this⟩
        .exact absurd h (hno _)
       .rintro(⟨s,h,rfl⟩|⟨h,_⟩)
        .rcases List.mem_cons.1 h with h|h
         .left
          rw [<-h]
         .exact absurd h (hno _)
        .exact absurd (show(key e,p.2)∈p::S by rw [<-he];simp) (h _)
      .rw [List.mem_cons,if_neg hk,List.mem_cons];constructor
       .rintro(h|h)
        .exact absurd (by rw [<-he];exact congrArg Prod.fst h) hk
        .exact .inr h
       .rintro(h|h)
        .exact absurd (by rw [<-he,<-h]) hk
        .exact .inr h
  rw [hmem S h.1];unfold upd;by_cases hk:k=key e
  .subst hk;simp only [if_true]
   cases hf:f (key e)with
   |none=>
    have hno:∀s,(key e,s)∉ S:=λs hs=>by rw [h.2,hf]at hs;cases hs
    simp [hno,eq_comm]
   |some s=>
    have hs:=(h.2 (key e) s).2 hf;simp only [zsI];constructor
    .rintro(⟨s',h',rfl⟩|⟨h',_⟩)
     .rw [h.2,hf]at h';cases h';rfl
     .exact absurd hs (h' _)
    .rintro rfl;exact .inl ⟨s,hs,rfl⟩
  .simp [hk,h.2]⟩
theorem pA(R:Rg)(l:List (Int×Int×Int)):Rep (ko R l) (fm R l):=by
 have:∀(l:List (Int×Int×Int)) (S:List (Ky×V)) (f:Ky->Option V),Rep S f->Rep (l.foldl (ins R) S) (l.foldl (upd R) f):=by
  intro l
  induction l with
  |nil=>intro S f h;exact h
  |cons e l ih=>intro S f h;exact ih _ _ (Ih R e S f h)
 exact this l [] _ Rep.nil
theorem Rep.nodup{S:List (Ky×V)}{f:Ky->Option V}(h:Rep S f):S.Nodup:=h.1.imp λ{a b} h e=>by rw [e,ml]at h;cases h
theorem Rep.perm{S T:List (Ky×V)}{f:Ky->Option V}(h:Rep S f)(hT:(T.map (·.1)).Nodup)(h1:∀p∈T,f p.1=some p.2)(h2:∀k z,f k=some z->(k,z)∈T):T.Perm S:=by
 have hTn:T.Nodup:=by
  have:=List.pairwise_map.1 hT
  exact this.imp λ{a b} h e=>h (by rw [e])
 refine(List.perm_ext_iff_of_nodup hTn h.nodup).2 λp=>⟨λhp=>(h.2 p.1 p.2).2 (h1 p hp),λhp=>h2 p.1 p.2 ((h.2 p.1 p.2).1 hp)⟩
theorem FD{R:Rg}:∀{l:List (Int×Int×Int)} {k:Ky} {z:V},fm R l k=some z->∃e∈l,key e=k:=by
 intro l
 have:∀(l:List (Int×Int×Int)) (f:Ky->Option V) (k:Ky) (z:V),l.foldl (upd R) f k=some z->(∃e∈l,key e=k)∨∃z,f k=some z:=by
  intro l
  induction l with
  |nil=>intro f k z h;exact .inr ⟨z,h⟩
  |cons e l ih=>
   intro f k z h;rcases ih _ _ _ h with⟨e',h1,h2⟩|⟨z',h2⟩
   .exact .inl ⟨e',by simp [h1],h2⟩
   .unfold upd at h2;split at h2
    .rename_i hk;exact .inl ⟨e,by simp,hk.symm⟩
    .exact .inr ⟨z',h2⟩
 intro k z h;rcases this l _ k z h with h|⟨z,h⟩
 .exact h
 .cases h
def sy(R:Rg)(l:List (Int×Int×Int)):List (Int×Int×Int)×Int:=if(ko R l).all (λp=>(R.na p.2).2)=true then((ko R l).map (toE R),0)else([],12)
theorem BG{R:Rg}{l:List (Int×Int×Int)}{k:Ky}{z:V}(hk:fm R l k=some z)(hz:(R.na z).2=false):sy R l=([],12):=by
 have hm:=((pA R l).2 k z).2 hk
 have:¬(ko R l).all (λp=>(R.na p.2).2)=true:=by
  intro ha
  have:=List.all_eq_true.1 ha _ hm
  rw [hz]at this;cases this
 simp only [sy,if_neg this]
theorem BH(R:Rg)(l l':List (Int×Int×Int))(T:List (Ky×V))(hT:T.Perm (ko R l))(hp:l'.Perm (T.map (toE R)))(hs:l'.Pairwise (λa b=>klt (key b) (key a)=false)):l'=(ko R l).map (toE R):=by
 have hp2:l'.Perm ((ko R l).map (toE R)):=hp.trans (hT.map (toE R));have hc:=(pA R l).1
 have hs2:((ko R l).map (toE R)).Pairwise (λa b=>klt (key b) (key a)=false):=by
  rw [List.pairwise_map];exact hc.imp λ{a b} h=>CT h
 have hn:((ko R l).map (toE R)).Pairwise (λa b=>key a≠key b):=by
  rw [List.pairwise_map];exact hc.imp λ{a b} h=>CS h
 refine hp2.eq_of_pairwise (le:=λa b=>klt (key b) (key a)=false) (λa b ha hb h1 h2=> ?_) hs hs2;have hk:key a=key b:=vd h2 h1;have ha':=hp2.mem_iff.1 ha;have hb':=hb;obtain⟨i,hi,rfl⟩:=List.mem_iff_getElem.1 ha';obtain⟨j,hj,rfl⟩:=List.mem_iff_getElem.1 hb';have hpw:=List.pairwise_iff_getElem.1 hn;rcases Nat.lt_trichotomy i j with h|h|h
 .exact absurd hk (hpw i j hi hj h)
 .subst h;rfl
 .exact absurd hk.symm (hpw j i hj hi h)
theorem CU{R:Rg}{l:List (Int×Int×Int)}(ha:∀k z,fm R l k=some z->(R.na z).2=true):sy R l=((ko R l).map (toE R),0):=by
 have:(ko R l).all (λp=>(R.na p.2).2)=true:=List.all_eq_true.2 λp hp=>ha p.1 p.2 (((pA R l).2 p.1 p.2).1 hp)
 simp only [sy,if_pos this]
end Sm
end
noncomputable section
open Go.RowKit Go.Sort
namespace Sm
open Ev
@[go_sem] abbrev WV (p:V):Value:= .agg #[.int .i64 p.1,.int .u64 p.2]
abbrev Ed:=Int×Int×Int
def ve(n:Int):Prop:= -9223372036854775808<=n/\n<=9223372036854775807
def BI(x y:Int):Int:=if x<y then -1 else if y<x then 1 else 0
def orI(x y:Int):Int:=if x=0 then y else x
def el(l:List Ed)(i:Nat):Ed:=l.getD i (0,0,0)
theorem yL{l:List Ed}{i:Nat}(h:i<l.length):el l i∈l:=by
 simp [el,List.getD_eq_getElem?_getD,h]
theorem vh(l:List Ed)(i:Nat)(h:i<l.length):(l.toArray)[i]! =el l i:=by
 simp [el,List.getD_eq_getElem?_getD,h]
theorem Ao{l:List Ed}{j:Nat}(h:j<l.length):l.take (j+1)=l.take j++ [el l j]:=by
 rw [List.take_succ_eq_append_getElem h];simp [el,List.getD_eq_getElem?_getD,h]
theorem Ap(g i:Nat):((⟨g,0,none⟩:Addr).add i)=⟨g,i,none⟩:=by unfold Addr.add;split<;>simp_all
theorem mm(a:Addr)(k:Nat):a.add (k+1)=⟨a.block,(a.add k).off+1,none⟩:=by
 unfold Addr.add;by_cases h:k=0
 .subst h;simp
 .simp [h];omega
def PT:T->Option Value
 | .v x=>if x.oneCell' then some x else none
 | .s _ _ _=>none
def PTs:List T->Option (List Value)
 | []=>some []
 |t::r=>(PT t).bind λx=>(PTs r).map (x::·)
def PD:TD->Option Value
 | .one t=>PT t
 | .agg ts=>(PTs ts).map λl=> .agg l.toArray
theorem CV{t:T}{x:Value}(h:PT t=some x)(w:World)(F:Nat->Prop):RepT w F t x/\∀y,RepT w F t y->y=x:=by
 cases t with
 |s=>simp [PT]at h
 |v z=>
  simp only [PT]at h;split at h
  .rename_i hz;cases h;exact⟨.v _ hz,λy hy=>by cases hy;rfl⟩
  .simp at h
theorem Aq:∀{ts:List T} {l:List Value},PTs ts=some l->∀(w:World) (F:Nat->Prop),RepTs w F ts l/\∀ys,RepTs w F ts ys->ys=l
 | [],l,h,w,F=>by
  simp [PTs]at h;subst h;exact⟨⟨rfl,by simp⟩,λys hy=>by have:=hy.1;simpa using this.symm⟩
 |t::r,l,h,w,F=>by
  simp only [PTs,zbE,Option.map_eq_some_iff]at h;obtain⟨x,hx,l',hl,rfl⟩:=h;obtain⟨h1,h2⟩:=CV hx w F;obtain⟨h3,h4⟩:=Aq hl w F;refine⟨⟨by simp [h3.1],λi t' hi=> ?_⟩,λys hy=> ?_⟩
  .cases i with
   |zero=>simp at hi;subst hi;exact⟨x,rfl,h1⟩
   |succ i=>obtain⟨y,e1,e2⟩:=h3.2 i t' (by simpa using hi);exact⟨y,by simpa using e1,e2⟩
  .obtain⟨hl,hy⟩:=hy
   cases ys with
   |nil=>simp at hl
   |cons y ys=>
    obtain⟨y',e1,e2⟩:=hy 0 t rfl;simp at e1;subst e1
    rw [h2 _ e2,h4 ys ⟨by simpa using hl,λi t' hi=>by
     obtain⟨z,f1,f2⟩:=hy (i+1) t' (by simpa using hi)
     exact⟨z,by simpa using f1,f2⟩⟩]
theorem CW{t:TD}{x:Value}(h:PD t=some x)(w:World)(F:Nat->Prop):RepTD w F t x/\∀y,RepTD w F t y->y=x:=by
 cases t with
 |one t=>
  obtain⟨h1,h2⟩:=CV h w F;exact⟨.one _ _ h1,λy hy=>by cases hy with|one _ _ hy=>exact h2 _ hy⟩
 |agg ts=>
  simp only [PD,Option.map_eq_some_iff]at h;obtain⟨l,hl,rfl⟩:=h;obtain⟨h1,h2⟩:=Aq hl w F;exact⟨.agg _ _ h1,λy hy=>by cases hy with|agg _ ys hy=>rw [h2 _ hy]⟩
def PDs:List TD->Option (List Value)
 | []=>some []
 |t::r=>(PD t).bind λx=>(PDs r).map (x::·)
theorem pB:∀{ts:List TD} {l:List Value},PDs ts=some l->∀(w:World) (F:Nat->Prop),gY w F ts l/\∀ys,gY w F ts ys->ys=l
 | [],l,h,w,F=>by
  simp [PDs]at h;subst h;exact⟨⟨rfl,by simp⟩,λys hy=>by have:=hy.1;simpa using this.symm⟩
 |t::r,l,h,w,F=>by
  simp only [PDs,zbE,Option.map_eq_some_iff]at h;obtain⟨x,hx,l',hl,rfl⟩:=h;obtain⟨h1,h2⟩:=CW hx w F;obtain⟨h3,h4⟩:=pB hl w F;refine⟨⟨by simp [h3.1],λi t' hi=> ?_⟩,λys hy=> ?_⟩
  .cases i with
   |zero=>simp at hi;subst hi;exact⟨x,rfl,h1⟩
   |succ i=>obtain⟨y,e1,e2⟩:=h3.2 i t' (by simpa using hi);exact⟨y,by simpa using e1,e2⟩
  .obtain⟨hl,hy⟩:=hy
   cases ys with
   |nil=>simp at hl
   |cons y ys=>
    obtain⟨y',e1,e2⟩:=hy 0 t rfl;simp at e1;subst e1
    rw [h2 _ e2,h4 ys ⟨by simpa using hl,λi t' hi=>by
     obtain⟨z,f1,f2⟩:=hy (i+1) t' (by simpa using hi)
     exact⟨z,by simpa using f1,f2⟩⟩]
def PR:List TD->Option Value
 | [r]=>PD r
 |rs=>(PDs rs).map λl=> .tuple l.toArray
theorem CX{rs:List TD}{x:Value}(h:PR rs=some x)(w:World)(F:Nat->Prop){y:Value}(hy:np w F rs y):y=x:=by
 match rs,h,hy with
 | [],h,⟨ys,e,hy⟩=>
  simp [PR,PDs]at h;subst h;rw [e,(pB (ts:= []) (l:= []) rfl w F).2 _ hy]
 | [r],h,hy=>exact(CW h w F).2 _ hy
 |r::r'::rs,h,⟨ys,e,hy⟩=>
  simp only [PR,Option.map_eq_some_iff]at h;obtain⟨l,hl,rfl⟩:=h;rw [e,(pB hl w F).2 _ hy]
theorem fT{P:Program}{k:FuncId}{vs:List TD}{kind:Kind}{rs:List TD}(h:dK P k vs kind rs){ys:List Value}{y:Value}(h1:PDs vs=some ys)(h2:PR rs=some y)(w:World)(hL:LD w.heap.size w):Calls P k ys.toArray w λe w'=>e= .returned y/\Below w.heap.size w w':=by
 refine(h w (λ_=>False) ys hL (λ_ h=>h.elim) (pB h1 w _).1).mono λe w' ⟨y',e1,e2,_,e3⟩=>⟨?_,e3⟩;rw [e1,CX h2 w' _ e2]
end Sm
end
noncomputable section
open Go.Shelf Go.RowKit Go.Lib Go.Sort
namespace Sm
namespace It
abbrev Ed:=Int×Int
def el(l:List Ed)(i:Nat):Ed:=l.getD i (0,0)
theorem yL{l:List Ed}{i:Nat}(h:i<l.length):el l i∈l:=by
 simp [el,List.getD_eq_getElem?_getD,h]
theorem vh(l:List Ed)(i:Nat)(h:i<l.length):(l.toArray)[i]! =el l i:=by
 simp [el,List.getD_eq_getElem?_getD,h]
theorem Ao{l:List Ed}{j:Nat}(h:j<l.length):l.take (j+1)=l.take j++ [el l j]:=by
 rw [List.take_succ_eq_append_getElem h];simp [el,List.getD_eq_getElem?_getD,h]
def key(e:Ed):Int:=e.1
def klt(a b:Int):Bool:=decide (a<b)
def yM(a b:Ed):Int:=BI a.1 b.1
theorem FE(a b:Ed):yM a b<0↔klt (key a) (key b)=true:=by
 unfold yM BI klt key;simp only [decide_eq_true_eq];split<;>(try split)<;>omega
def BJ:Go.Shelf.Ren:=⟨λ|6=>32|15=>46|14=>45|28=>61|29=>62|20=>53|21=>54|22=>55|23=>56|24=>57|25=>58|26=>59|27=>60|46=>64|47=>65|48=>66|49=>67|50=>68|57=>70|n=>n,λ|22=>23|24=>36|25=>64|3=>3|39=>73|0=>0|53=>88|55=>55|4=>4|46=>82|45=>81|50=>65|5=>5|9=>9|66=>90|70=>94|76=>97|77=>98|n=>n,λ|n=>n⟩
theorem Hw:Go.Proofs.SlLaysF0.n6 Try.prog BJ:=
 {
  mixed:=by kernel_rfl,
  f6:=⟨Try.f32.name,by decide,Try.func32.trans (congrArg some (by kernel_rfl))⟩,
  f14:=⟨Try.f45.name,by decide,Try.func45.trans (congrArg some (by kernel_rfl))⟩,
  f15:=Try.func46.trans (congrArg some (by kernel_rfl)),
  f20:=⟨Try.f53.name,by decide,Try.func53.trans (congrArg some (by kernel_rfl))⟩,
  f21:=⟨Try.f54.name,by decide,Try.func54.trans (congrArg some (by kernel_rfl))⟩,
  f22:=⟨Try.f55.name,by decide,Try.func55.trans (congrArg some (by kernel_rfl))⟩,
  f23:=⟨Try.f56.name,by decide,Try.func56.trans (congrArg some (by kernel_rfl))⟩,
  f24:=⟨Try.f57.name,by decide,Try.func57.trans (congrArg some (by kernel_rfl))⟩,
  f25:=⟨Try.f58.name,by decide,Try.func58.trans (congrArg some (by kernel_rfl))⟩,
  f26:=⟨Try.f59.name,by decide,Try.func59.trans (congrArg some (by kernel_rfl))⟩,
  f27:=⟨Try.f60.name,by decide,Try.func60.trans (congrArg some (by kernel_rfl))⟩,
  f28:=Try.func61.trans (congrArg some (by kernel_rfl)),
  f29:=Try.func62.trans (congrArg some (by kernel_rfl)),
  f46:=⟨Try.f64.name,by decide,Try.func64.trans (congrArg some (by kernel_rfl))⟩,
  f47:=Try.func65.trans (congrArg some (by kernel_rfl)),
  f48:=Try.func66.trans (congrArg some (by kernel_rfl)),
  f49:=⟨Try.f67.name,by decide,Try.func67.trans (congrArg some (by kernel_rfl))⟩,
  f50:=⟨Try.f68.name,by decide,Try.func68.trans (congrArg some (by kernel_rfl))⟩,
  f57:=⟨Try.f70.name,by decide,Try.func70.trans (congrArg some (by kernel_rfl))⟩,
  t0:=Try.underlying0,
  a0:=Try.isAgg0,
  z0:=Try.sizeOf0,
  v0:=Try.zeroValue0,
  t3:=Try.underlying3,
  a3:=Try.isAgg3,
  z3:=Try.sizeOf3,
  v3:=Try.zeroValue3,
  t4:=Try.underlying4,
  a4:=Try.isAgg4,
  z4:=Try.sizeOf4,
  v4:=Try.zeroValue4,
  t5:=Try.underlying5,
  a5:=Try.isAgg5,
  z5:=Try.sizeOf5,
  v5:=Try.zeroValue5,
  t9:=Try.underlying9,
  a9:=Try.isAgg9,
  z9:=Try.sizeOf9,
  v9:=Try.zeroValue9,
  t22:=Try.underlying23,
  a22:=Try.isAgg23,
  z22:=Try.sizeOf23,
  v22:=Try.zeroValue23,
  t25:=Try.underlying64,
  a25:=Try.isAgg64,
  z25:=Try.sizeOf64,
  v25:=Try.zeroValue64,
  t39:=Try.underlying73,
  a39:=Try.isAgg73,
  z39:=Try.sizeOf73,
  v39:=Try.zeroValue73,
  t45:=Try.underlying81,
  a45:=Try.isAgg81,
  z45:=Try.sizeOf81,
  v45:=Try.zeroValue81,
  t46:=Try.underlying82,
  a46:=Try.isAgg82,
  z46:=Try.sizeOf82,
  v46:=Try.zeroValue82,
  t50:=Try.underlying65,
  a50:=Try.isAgg65,
  z50:=Try.sizeOf65,
  v50:=Try.zeroValue65,
  t53:=Try.underlying88,
  a53:=Try.isAgg88,
  z53:=Try.sizeOf88,
  v53:=Try.zeroValue88,
  t55:=Try.underlying55,
  a55:=Try.isAgg55,
  z55:=Try.sizeOf55,
  v55:=Try.zeroValue55,
  t66:=Try.underlying90,
  a66:=Try.isAgg90,
  z66:=Try.sizeOf90,
  v66:=Try.zeroValue90,
  t70:=Try.underlying94,
  a70:=Try.isAgg94,
  z70:=Try.sizeOf94,
  v70:=Try.zeroValue94,
  t76:=Try.underlying97,
  a76:=Try.isAgg97,
  z76:=Try.sizeOf97,
  v76:=Try.zeroValue97,
  t77:=Try.underlying98,
  a77:=Try.isAgg98,
  z77:=Try.sizeOf98,
  v77:=Try.zeroValue98}
@[go_sem] abbrev EV (e:Ed):Value:= .agg #[.int .i64 e.1,.int .i64 e.2]
def enc(e:Ed):List Value:= [.int .i64 e.1,.int .i64 e.2]
def RdE(w:World)(a:Option Addr)(l:List Ed):Prop:=∀i,i<l.length->∃b,a=some b/\b.block<w.heap.size/\w.cell? (b.add (i*2))=some (.int .i64 (el l i).1)/\w.cell? ⟨b.block,(b.add (i*2)).off+1,none⟩=some (.int .i64 (el l i).2)
theorem RdE.below{w w':World}{a:Option Addr}{l:List Ed}(h:RdE w a l)(hb:Below w.heap.size w w'):RdE w' a l:=by
 intro i hi;obtain⟨b,e,hl,h0,h1⟩:=h i hi;exact⟨b,e,Nat.lt_of_lt_of_le hl hb.size,(hb.cell (by rw [vc];exact hl)).trans h0,(hb.cell (p:=⟨b.block,_,none⟩) hl).trans h1⟩
theorem yN(x:Int)(w:World):Calls Try.prog 47 #[.int .i64 x] w λe w'=>e= .returned (.bool false)/\w'=w:=by
 go_enter Try.func47,Try.ntmps47
 go_wp2
 go_ret
 exact⟨by simp,rfl⟩
set_option maxRecDepth 100000 in
theorem sA(x y:Int)(w:World):Calls Try.prog 34 #[.int .i64 x,.int .i64 y] w λe w'=>e= .returned (.int .i64 (BI x y))/\w'=w:=by
 go_enter Try.func34,Try.ntmps34
 go_wp2_with (go_at_call 47;refine(yN _ _).mono ?_;rintro e w1 ⟨rfl,rfl⟩)
 all_goals go_ret
 .refine⟨by unfold BI;rw [if_pos (by assumption)];rfl,rfl⟩
 .refine⟨by unfold BI;rw [if_neg (by omega),if_pos (by assumption)];rfl,rfl⟩
 .refine⟨by unfold BI;rw [if_neg (by omega),if_neg (by omega)];rfl,rfl⟩
theorem Lx(w:World)(a b:Obj):∃q os',((w.alloc a).alloc b)=grow (w.drewN q) os':=⟨0,#[a]++ #[b],by
 rw [alloc_eq_grow _ b,alloc_eq_grow _ a];show grow (grow w #[a]) #[b]=_
 rw [BF];rfl⟩
theorem BM(a b:Ed)(w:World):Calls Try.prog 33 #[EV a,EV b] w λe w'=>e= .returned (.int .i64 (yM a b))/\∃q os',w'=grow (w.drewN q) os':=by
 go_enter Try.func33,Try.ntmps33
 go_wp2_with (go_at_call 34;refine(sA _ _ _).mono ?_;rintro e w1 ⟨rfl,rfl⟩)
 go_ret
 exact⟨rfl,Lx _ _ _⟩
def ab(l:List Ed):List Value:=l.flatMap enc
theorem dM(e:Ed)(l:List Ed):ab (e::l)=enc e++ab l:=rfl
theorem dm(l m:List Ed):ab (l++m)=ab l++ab m:=by simp [ab]
theorem aO(l:List Ed):(ab l).length=l.length*2:=by
 induction l with
 |nil=>rfl
 |cons e l ih=>rw [dM,List.length_append,ih];simp [enc];omega
theorem ij:∀(l:List Ed) (i k:Nat),i<l.length->k<2->(ab l)[i*2+k]? =(enc (el l i))[k]?
 | [],i,k,h,_=>by simp at h
 |e::l,0,k,h,hk=>by
  rw [dM,List.getElem?_append_left (by simp [enc];omega)];simp [el]
 |e::l,i+1,k,h,hk=>by
  rw [dM,List.getElem?_append_right (by simp [enc];omega)]
  have:(i+1)*2+k - (enc e).length=i*2+k:=by simp [enc];omega
  rw [this,ij l i k (by simpa using h) hk];simp [el]
theorem iE(l:List Ed):∀u∈ab l,u.oneCell'=true:=by
 intro u hu;obtain⟨e,_,he⟩:=List.mem_flatMap.1 hu;simp [enc]at he;rcases he with rfl|rfl<;>rfl
theorem jN{w:World}{g:Nat}{l:List Ed}(hg:g<w.heap.size)(hc:∀i,i<l.length->∀k,k<2->w.cell? ⟨g,i*2+k,none⟩=(enc (el l i))[k]?):RdE w (some ⟨g,0,none⟩) l:=by
 intro i hi;have e:(⟨g,0,none⟩:Addr).add (i*2)=⟨g,i*2,none⟩:=Ap _ _;refine⟨⟨g,0,none⟩,rfl,hg,?_,?_⟩
 .rw [e];simpa [enc]using hc i hi 0 (by omega)
 .rw [e];simpa [enc]using hc i hi 1 (by omega)
theorem row_rdE{w:World}{base n:Nat}{v:Value}{l:List Ed}(h:w.ownsRow base 36 2 v n (ab l)):n=l.length/\∃a c,v= .slice a n c/\n<=c/\RdE w a l/\(a=none->c=0/\n=0):=by
 have hn:n=l.length:=by have:=h.1;rw [aO]at this;omega
 refine⟨hn,?_⟩;rcases h.2 with⟨rfl,h0⟩|⟨g,cap,cur,rfl,hb,hg,hcap,_⟩
 .obtain rfl:n=0:=h0;exact⟨none,0,rfl,by omega,λi hi=>by omega,λ_=>⟨rfl,rfl⟩⟩
 .refine⟨some ⟨g,0,none⟩,cap,rfl,hcap,?_,by simp⟩;refine jN (Array.getElem?_eq_some_iff.1 hg).1 (λi hi k hk=> ?_);rw [h.cellAt (i*2+k) (by omega),ij l i k hi hk]
theorem Ar(l:List Ed)(i k:Nat)(h:i<l.length)(hk:k<2):some (flatK enc 2 l.toArray)[i*2+k]! =(enc (el l i))[k]? :=by
 rw [get_flatK _ _ _ _ (by simp;omega),show(i*2+k)/ 2=i by omega,show(i*2+k)% 2=k by omega,vh l i h]
 have:k<(enc (el l i)).length:=by simp [enc];omega
 rw [getElem!_pos (enc (el l i)) k this,List.getElem?_eq_getElem this]
theorem pc{w:World}{g n:Nat}{os:Array Obj}(F:Array Value):w.grownBy (grow (putRow id (Sort.ahead w n) g 0 F) os) (some g):=by
 refine⟨rfl,rfl,rfl,by simp,λk hk hne=> ?_⟩;rw [heap_grow_old _ _ (by simpa using hk)]
 have:g≠k:=λe=>hne (by rw [e])
 simp [putRow,mapBlock,Sort.ahead,Array.getElem?_modify,this]
def bl(a b:Ed):Bool:=klt (key a) (key b)
theorem As:ltOf yM=bl:=by
 funext a b;unfold ltOf bl
 have:=FE a b
 cases h:klt (key a) (key b)<;>rw [h]at this<;>simp at this ⊢<;>exact this
theorem Ii:SWO bl where
 irrefl x:=by simp [bl,klt]
 trans x y z h1 h2:=by simp [bl,klt]at*;omega
 ntrans x y z h1 h2:=by simp [bl,klt]at*;omega
theorem xg{l:List Ed}(h:SortedIn bl 0 l.length l.toArray):l.Pairwise (λa b=>bl b a=false):=by
 rw [List.pairwise_iff_getElem];intro i j hi hj hij
 have:=h i j (by omega) hij hj
 rw [vh l i hi,vh l j hj]at this;simpa [el,List.getD_eq_getElem?_getD,hi,hj]using this
set_option maxHeartbeats 1000000 in
theorem BN(g c:Nat)(l:List Ed)(w:World)(hg:g<w.heap.size)(hc:∀i,i<l.length->∀k,k<2->w.cell? ⟨g,i*2+k,none⟩=(enc (el l i))[k]?)(hf:∀j,w.frozen? ⟨g,j,none⟩=false)(hl:l.length<4611686018427387904):
  Calls Try.prog 32 #[.slice (some ⟨g,0,none⟩) l.length c,.func (.func 33) #[] #[]] w λe w'=>e= .returned (.tuple #[])/\∃l':List Ed,l'.Perm l/\l'.Pairwise (λa b=>bl b a=false)/\RdE w' (some ⟨g,0,none⟩) l'/\w.grownBy w' (some g):=by
 have eg:∀args w,(callFunc 33 args).run Try.prog w= .ok (.enter 33 args) w:=enters_of Try.func33 (by kernel_rfl) rfl;have hcmp:CmpLays Try.prog 33 #[] enc 2 yM g 0 l.toArray.size w:=λm os dk _ x y=>BM x y _
 have hH:HoldsK enc 2 w g 0 l.toArray:=by
  intro j hj;have hj':j<l.length*2:=by simpa using hj
  refine⟨?_,hf _⟩
  have:=hc (j / 2) (by omega) (j % 2) (by omega)
  rw [Nat.zero_add,show j=j / 2*2+j % 2 by omega,this,<-Ar l _ _ (by omega) (by omega)];rfl
 have hO:SWO (ltOf yM):=by rw [As];exact Ii
 have hcon:=AnyQ.slices_SortFunc Hw 2 Try.isAgg36 Try.sizeOf36 enc (λ_=>rfl) (λx v hv=>by simp [enc]at hv;rcases hv with rfl|rfl<;>rfl) yM hO 33 #[] g 0 c l.toArray w eg hcmp hH hg (by simpa using hl);refine hcon.mono ?_;rintro e w' ⟨rfl,d',n,os,hp,hs,rfl⟩;obtain⟨l',rfl⟩:∃l':List Ed,d'=l'.toArray:=⟨d'.toList,by simp⟩;have hsz:l'.length=l.length:=by simpa using hp.1
 refine⟨rfl,l',?_,?_,?_,?_⟩
 .have:=hp.2.2
  rw [show l.toArray.size=l'.toArray.size by simpa using hsz.symm]at this;rw [Array.extract_size]at this;have h2:=hp.2.2;rw [show l.toArray.size=l'.toArray.size by simpa using hsz.symm]at h2;rw [Array.extract_size]at h2;refine h2.trans ?_;rw [show l'.toArray.size=l.toArray.size by simpa using hsz,Array.extract_size]
 .rw [As]at hs;exact xg (by rw [hsz];simpa using hs)
 .refine jN ?_ (λi hi k hk=> ?_)
  .simp [sortWorldK,putRowK];omega
  .have hH2:=holds_putRow id (Sort.ahead w n) g 0 _ (flatK enc 2 l'.toArray) (show Holds id (Sort.ahead w n) g 0 (flatK enc 2 l.toArray)from hH) (by simp [hsz]) (i*2+k) (by simp;omega);rw [Nat.zero_add]at hH2;unfold sortWorldK;rw [cell?_grow _ _ _ (by simpa [putRowK]using hg)];exact hH2.1.trans (Ar l' i k hi hk)
 .exact pc _
theorem At:(Try.prog.info? 36).map (λi=>(i.zero,i.size,i.bytes))=some (some (.agg #[.int .i64 0,.int .i64 0]),2,16):=by kernel_rfl
theorem gQ{P:Program}{e:TypeId}{z:Value}{s b:Nat}(h:(P.info? e).map (λi=>(i.zero,i.size,i.bytes))=some (some z,s,b)):∃i,P.info? e=some i/\i.zero=some z/\i.size=s/\i.bytes=b:=by
 obtain⟨i,hi,he⟩:=Option.map_eq_some_iff.1 h;simp at he;exact⟨i,hi,he.1,he.2.1,he.2.2⟩
theorem CY{w:World}{b:Addr}{M:List Ed}(hr:RdE w (some b) M):∀j u,(ab M)[j]? =some u->w.cell? (b.add j)=some u:=by
 intro j u hj;have hj':j<M.length*2:=by have:=(List.getElem?_eq_some_iff.1 hj).1;rwa [aO]at this
 have hc:=ij M (j / 2) (j % 2) (by omega) (by omega);rw [show j / 2*2+j % 2=j by omega,hj]at hc;obtain⟨b',hb',_,h0,h1⟩:=hr (j / 2) (by omega);cases hb';have h3:j % 2=0∨j % 2=1:=by omega
 rcases h3 with h3|h3
 .rw [h3]at hc;simp [enc]at hc;rw [hc,show j=j / 2*2 by omega];rw [show(j / 2*2)/ 2=j / 2 by omega];exact h0
 .rw [h3]at hc;simp [enc]at hc;rw [hc]
  have e:b.add j=⟨b.block,(b.add (j / 2*2)).off+1,none⟩:=by
   rw [show j=j / 2*2+1 by omega,mm];rw [show(j / 2*2+1)/ 2=j / 2 by omega]
  rw [e];exact h1
theorem fj{w:World}{ops:Array Oper}{rest:List Oper}{o:Oper}{a:Act}{Q:Exit->Act->World->Prop}(hgd:o.guard=none)(s x:Operand)
  (ho:o.op= .call {callee:= .builtin .append,args:=#[s,x],argTypes:=#[23,23]}) (base:Nat) (v:Value) (n:Nat) (L:List Ed) (hs:a.eval s=v) (hown:w.ownsRow base 36 2 v n (ab L))
  (ad:Option Addr) (m c:Nat) (M:List Ed) (hx:a.eval x= .slice ad m c) (hm:m=M.length) (hr:RdE w ad M) (hz:ad=none->c=0/\m=0) (hnm:n+m<=100000) (hbase:base<=w.heap.size)
  (h:∀v' w',w'.ownsRow base 36 2 v' (n+m) (ab (L++M))->w.grownBy w' v.ownBlock->(v'.ownBlock=v.ownBlock∨v'.ownBlock=some w.heap.size)->wpList Try.prog ops Q rest (a.put o.dst v') w'):wpList Try.prog ops Q (o::rest) a w:=by
 obtain⟨i0,hi0,hz0,hz1,hz2⟩:=gQ At;subst hm
 match ad,hr,hz,hx with
 |none,hr,hz,hx=>
  obtain⟨rfl,h0⟩:=hz rfl;obtain rfl:M= []:=List.eq_nil_of_length_eq_zero h0;refine wpList_append_own_none hgd s x 23 ho base 36 i0 2 Try.underlying23 hi0 v n _ hs hown hx (h v w ?_ ⟨rfl,rfl,rfl,Nat.le_refl _,λ_ _ _=>rfl⟩ (.inl rfl));simpa using hown
 |some b,hr,hz,hx=>
  have hnews:=CY hr
  exact wpList_append_own_at w hgd s x 23 ho base 36 i0 (.agg #[.int .i64 0,.int .i64 0]) 2 16 Try.underlying23 hi0 hz0 hz1 hz2 rfl (by decide) v n (ab L) hs hown b M.length c (ab M) hx (aO M) hnews (iE M) (by unfold maxLen;omega) (by omega) hbase
   λv' w' hown' hg _ hat=>h v' w' (by rw [dm];exact hown') hg hat
theorem ik{W w':World}{base:Nat}{v:Value}(hg:W.grownBy w' v.ownBlock)(hv:∀k,v.ownBlock=some k->base<=k)(hb:base<=W.heap.size):Below base W w':=
 ⟨hg.os,hg.tape,hg.output,hg.size,λk hk=>hg.block k (by omega) (λe=>by have:=hv k e.symm;omega)⟩
def Out(base:Nat)(w:World)(a:Option Addr)(c:Nat)(l:List Ed):Prop:=RdE w a l/\(a=none->c=0/\l.length=0)/\l.length<=c/\∀b,a=some b->base<=b.block
theorem FF(base:Nat)(w:World):Out base w none 0 []:=⟨λi hi=>by simp at hi,λ_=>⟨rfl,rfl⟩,by simp,by simp⟩
theorem eE{w:World}{base base' n:Nat}{e:TypeId}{v:Value}{s:Nat}{xs:List Value}(h:w.ownsRow base e s v n xs)(hb:base'<=base):w.ownsRow base' e s v n xs:=by
 refine⟨h.1,?_⟩;rcases h.2 with h2|⟨g,cap,cur,h1,h2,h3⟩
 .exact .inl h2
 .exact .inr ⟨g,cap,cur,h1,Nat.le_trans hb h2,h3⟩
theorem FG(W:World)(x y:Int):RdE (W.alloc (.cells #[.int .i64 x,.int .i64 y] 36)) (some ⟨W.heap.size,0,none⟩) [(x,y)]:=by
 have h:CellsAt (W.alloc (.cells #[.int .i64 x,.int .i64 y] 36)) W.heap.size 36 #[.int .i64 x,.int .i64 y]:=World.alloc_heap_new W _;refine jN h.lt (λi hi k hk=> ?_);obtain rfl:i=0:=by simpa using hi
 rw [h.cell];have h3:k=0∨k=1:=by omega
 rcases h3 with rfl|rfl<;>rfl
end It
end Sm
end
noncomputable section
open Go.RowKit Go.Sort
namespace Sm
namespace It
def NAt(w:World)(g:Nat)(n:Int):Prop:=w.cell? ⟨g,0,none⟩=some (.int .i64 n)/\g<w.heap.size
theorem NAt.below{w w':World}{g:Nat}{n:Int}(h:NAt w g n)(hb:Below w.heap.size w w'):NAt w' g n:=
 ⟨(hb.cell (p:=⟨g,0,none⟩) h.2).trans h.1,Nat.lt_of_lt_of_le h.2 hb.size⟩
def pd(n:Int)(e:Ed):Bool:=decide (e.1<0∨n<=e.1)
theorem Ly{l:List Ed}{p:Ed->Bool}{i:Nat}(h:i<l.length)(hp:p (el l i)=true):l.any p=true:=List.any_eq_true.2 ⟨_,yL h,hp⟩
theorem Lz{l:List Ed}{p:Ed->Bool}(h:∀i,i<l.length->p (el l i)=false):l.any p=false:=by
 rw [Bool.eq_false_iff];intro ha;obtain⟨e,he,hp⟩:=List.any_eq_true.1 ha;obtain⟨i,hi,rfl⟩:=List.mem_iff_getElem.1 he
 have:=h i hi
 simp [el,List.getD_eq_getElem?_getD,hi]at this;rw [this]at hp;cases hp
theorem FH(n:Int)(e:Ed)(g:Nat)(w:World)(hg:NAt w g n):Calls Try.prog 28 #[EV e,.pointer (some ⟨g,0,none⟩)] w λe' w'=>e'= .returned (.bool (pd n e))/\Below w.heap.size w w':=by
 obtain⟨c0,hl⟩:=hg;have kg:=Has.of hl;unfold pd;by_cases h:e.1<0
 .go_enter Try.func28,Try.ntmps28
  go_wp2
  go_ret
  exact⟨by simp [h],(by repeat (first|with_reducible refine blg ?_ _ _|with_reducible refine bla ?_ _|with_reducible exact Below.refl _ _))⟩
 .go_enter Try.func28,Try.ntmps28
  go_wp2
  go_ret
  exact⟨by simp;omega,(by repeat (first|with_reducible refine blg ?_ _ _|with_reducible refine bla ?_ _|with_reducible exact Below.refl _ _))⟩
set_option maxRecDepth 100000 in
set_option maxHeartbeats 1000000 in
theorem LA(a:Option Addr)(l:List Ed)(c:Nat)(n0:Int)(g:Nat)(w:World)(hr:RdE w a l)(hl:l.length<9223372036854775807)(hg:NAt w g n0):Calls Try.prog 40 #[.slice a l.length c,.func (.func 28) #[] #[.pointer (some ⟨g,0,none⟩)]] w λe w'=>∃k,e= .returned (.int .i64 k)/\decide (0<=k)=l.any (pd n0)/\Below w.heap.size w w':=by
 obtain⟨n,hn⟩:∃n,n=l.length:=⟨_,rfl⟩;rw [<-hn]at hl ⊢;have HN:=Lib.hid hn;clear hn
 go_enter Try.func40,Try.ntmps40
 go_wp2
 go_loopw [8] (λy wr=>∃j:Nat,y= .int .i64 (j:Int)/\j<=n/\(∀i,i<j->(pd n0) (el l i)=false)/\Below w.heap.size w wr) (λy _=>n - (intOf y).toNat)
 case atStart=>exact⟨0,rfl,by omega,by omega,Below.refl _ _⟩
 case round=>
  obtain⟨j,rfl,hj,hall,hB⟩:=hrel;by_cases hlt:(j:Int)<(n:Int)
  .obtain⟨b,rfl,hbl,c0,c1⟩:=hr.below hB j (by rw [<-HN.out];omega);have j0:(0:Int)<=(j:Int):=by omega
   have kb:=Has.of hbl;have HC:=Lib.hid (λW (h:Below wr.heap.size wr W)=>FH n0 (el l j) g W ((hg.below hB).below h));cases hb:(pd n0) (el l j)
   all_goals simp only [hb]at HC
   all_goals go_wp2_with fail
   all_goals refine(HC.out _ (Below.refl _ _)).mono ?_
   all_goals rintro x w1 ⟨rfl,hb1⟩
   all_goals go_wp2_with fail
   .refine⟨?_,by simp [intOf];omega⟩;refine⟨j+1,by simp,by omega,λi hi=> ?_,hB.trans (hb1.mono hB.size)⟩;by_cases e:i=j
    .subst e;exact hb
    .exact hall i (by omega)
   .go_ret
    refine⟨j,rfl,?_,hB.trans (hb1.mono hB.size)⟩;rw [Ly (by rw [<-HN.out];omega) hb];simp
  .go_wp2_with fail
   go_ret
   refine⟨-1,rfl,?_,hB⟩;rw [Lz (λi hi=>hall i (by rw [<-HN.out]at hi;omega))];rfl
set_option maxRecDepth 100000 in
theorem Hx(a:Option Addr)(l:List Ed)(c:Nat)(n0:Int)(g:Nat)(w:World)(hr:RdE w a l)(hl:l.length<9223372036854775807)(hg:NAt w g n0):Calls Try.prog 27 #[.slice a l.length c,.func (.func 28) #[] #[.pointer (some ⟨g,0,none⟩)]] w λe w'=>e= .returned (.bool (l.any (pd n0)))/\Below w.heap.size w w':=by
 go_enter Try.func27,Try.ntmps27
 go_wp2_with fail
 refine(LA a l c n0 g w hr hl hg).mono ?_;rintro x w1 ⟨k,rfl,hk,hb1⟩
 go_wp2_with fail
 go_ret
 exact⟨by rw [<-hk];rfl,hb1⟩
end It
end Sm
end
noncomputable section
open Go.RowKit Go.Sort Go.WideMaps
namespace Sm
namespace It
def kl(k:Int×Int):Lit:= .int .i64 k.2
abbrev KV(k:Int×Int):Value:= .int .i64 k.2
def In2(k:Int×Int):Prop:=k.1=0/\ve k.2
theorem Ij{x:Int}(h:ve x):(Lit.int .i64 x).wf=true:=by
 obtain⟨h1,h2⟩:=h;simp [Lit.wf,IntKind.min,IntKind.max,IntKind.signed,IntKind.bits];omega
theorem FJ{x:Int}(h:(Lit.int .i64 x).wf=true):ve x:=by
 simp [Lit.wf,IntKind.min,IntKind.max,IntKind.signed,IntKind.bits]at h;exact⟨by omega,by omega⟩
theorem keyedK:Maps.Keyed Try.prog 3:=Maps.int_keyed Try.underlying3
theorem yO(k:Int×Int)(h:In2 k):keyOf Try.prog 3 (KV k)=some (kl k):=by
 unfold keyOf mapKey;simp [Try.underlying3,Ij h.2,kl]
theorem qn{v:Value}{l:Lit}(h:keyOf Try.prog 3 v=some l):∃k,v=KV k/\In2 k/\l=kl k:=by
 unfold keyOf mapKey at h;simp only [Try.underlying3]at h
 cases v with
 |int q n=>
  by_cases hq:q=IntKind.i64/\(Lit.int IntKind.i64 n).wf=true
  .obtain⟨rfl,hw⟩:=hq;simp [hw]at h;exact⟨(0,n),rfl,⟨rfl,FJ hw⟩,h.symm⟩
  .simp [hq]at h
 |_=>simp at h
theorem CZ{a b:Int×Int}(ha:In2 a)(hb:In2 b)(h:kl a=kl b):a=b:=by
 have h2:a.2=b.2:=by simpa [kl]using h
 exact Prod.ext (by rw [ha.1,hb.1]) h2
abbrev KW:=(Int×Int)->Option V
def RW(v:Value):Option (DataW Unit×List MemPlace):=
 match v with
 | .agg cs=>match cs.toList with
  | [.int .i64 h,.int .u64 l]=>some (.agg [.lit (.int .i64 h),.lit (.int .u64 l)],[])
  |_=>none
 |_=>none
def dW(z:V):DataW Unit:= .agg [.lit (.int .i64 z.1),.lit (.int .u64 z.2)]
theorem LB(z:V):RW (WV z)=some (dW z,[]):=rfl
theorem yP{v:Value}{y:DataW Unit×List MemPlace}(h:RW v=some y):∃c:Int×Int,v= .agg #[.int .i64 c.1,.int .u64 c.2]/\y=(.agg [.lit (.int .i64 c.1),.lit (.int .u64 c.2)],[]):=by
 unfold RW at h;split at h
 .rename_i cs;obtain⟨cs⟩:=cs;split at h
  .rename_i h2;cases h;simp at h2;subst h2;exact⟨(_,_),rfl,rfl⟩
  .cases h
 .cases h
theorem qo{v:Value}{ps:List MemPlace}{z:V}(h:RW v=some (dW z,ps)):v=WV z:=by
 obtain⟨c,rfl,hc⟩:=yP h;simp [dW]at hc;simp [hc.1.1,hc.1.2]
def FitF(D:DataW Unit)(f:KW):Prop:=∀k,In2 k->(Maps.has D (kl k)=(f k).isSome)/\(∀z,f k=some z->∀zd,D.atKey (kl k) zd=dW z)
def MapF(w:World)(b n:Nat)(f:KW):Prop:=∃D,w.ownsMap Try.prog 3 RW b n D/\FitF D f
def pf(f:KW)(k:Int×Int)(z:V):KW:=λk'=>if k'=k then some z else f k'
theorem MapF.lt{w:World}{b n:Nat}{f:KW}(h:MapF w b n f):b<w.heap.size:=by obtain⟨D,h,_⟩:=h;exact h.lt
theorem MapF.kept{w w':World}{b n:Nat}{f:KW}{row:Option Nat}(h:MapF w b n f)(hg:w.grownBy w' row)(hne:some b≠row):MapF w' b n f:=by
 obtain⟨D,h,hF⟩:=h;exact⟨D,h.kept hg hne,hF⟩
theorem MapF.new(w:World):MapF (w.alloc (.map #[] 0)) w.heap.size 0 (λ_=>none):=
 ⟨_,World.ownsMap_made w _ _ _,λk hk=>⟨rfl,λz hz=>by cases hz⟩⟩
theorem vi{k:Int×Int}(h:In2 k):WideAt.IsKeyLit (kl k):=keyedK.key (yO k h)
theorem FitF.put{D:DataW Unit}{f:KW}(hm:Maps.IsMap D)(h:FitF D f){k:Int×Int}(hk:In2 k)(z:V):FitF (D.put (kl k) (dW z)) (pf f k z):=by
 intro k' hk';by_cases e:k'=k
 .subst e;refine⟨by rw [Maps.has_put_same hm (vi hk)];simp [pf],λz' hz' zd=> ?_⟩;simp [pf]at hz';rw [Maps.atKey_put_same hm (vi hk),hz']
 .have hne:kl k'≠kl k:=λh=>e (CZ hk' hk h);refine⟨by rw [Maps.has_put_other hne];simp [pf,e,(h k' hk').1],λz' hz' zd=> ?_⟩;simp [pf,e]at hz';rw [Maps.atKey_put_other hne,(h k' hk').2 z' hz']
section
variable (w : World) {ops : Array Oper} {rest : List Oper} {o : Oper} {a : Act} {Q : Exit → Act → World → Prop}
theorem qp(hg:o.guard=none)(m x:Operand)(hop:o.op=Op.lookup 54 m x true)(b n:Nat)(f:KW)(k:Int×Int)
  (hm:a.eval m= .map (some b)) (hown:MapF w b n f) (hx:a.eval x=KV k) (hk:In2 k)
  (h0:f k=none->wpList Try.prog ops Q rest (a.put o.dst (.tuple #[.agg #[.int .i64 0,.int .u64 0],.bool false])) w)
  (h1:∀z,f k=some z->wpList Try.prog ops Q rest (a.put o.dst (.tuple #[WV z,.bool true])) w):
  wpList Try.prog ops Q (o::rest) a w:=by
 obtain⟨D,hown,hF⟩:=hown;refine wpList_lookup_own_ok w hg m x _ hop 3 57 keyedK Try.underlying54 RW (z:=WV (0,0)) ?_ (dW (0,0)) [] (LB (0,0)) b n D hm hown (KV k) (kl k) hx (yO k hk) ?_
 .exact Try.zeroValue57 w
 .intro v ps hv
  cases hf:f k with
  |none=>
   have:=(hF k hk).1
   rw [hf]at this;have ha:=Maps.atKey_of_not_has (D:=D) (k:=kl k) (by simpa using this) (dW (0,0));rw [ha]at hv;rw [qo hv,this];exact h0 hf
  |some z=>
   have:=(hF k hk).1
   rw [hf]at this;rw [(hF k hk).2 z hf]at hv;rw [qo hv,this];exact h1 z hf
theorem jp(hg:o.guard=none)(m x v:Operand)(hop:o.op=Op.mapUpdate 54 m x v)(b n:Nat)(f:KW)(k:Int×Int)(z:V)(hn:n<maxLen)
  (hm:a.eval m= .map (some b)) (hown:MapF w b n f) (hx:a.eval x=KV k) (hv:a.eval v=WV z) (hk:In2 k)
  (hK:∀w',MapF w' b (n+1) (pf f k z)->w.grownBy w' (some b)->wpList Try.prog ops Q rest (a.put o.dst undef) w'):
  wpList Try.prog ops Q (o::rest) a w:=by
 obtain⟨D,hown,hF⟩:=hown;refine wpList_mapUpdate_in w hg m x v _ hop 3 57 keyedK Try.underlying54 RW b n D hm hown hn (KV k) (WV z) (kl k) hx hv (yO k hk) (dW z) [] (LB z) ?_;intro w' hown' ht;exact hK w' ⟨_,hown',hF.put hown.isMap hk z⟩ ht.grown
def RangF(w:World)(b r n:Nat)(f:KW)(done:List ((Int×Int)×V)):Prop:=
 ∃D left cnt,w.ranges Try.prog 3 RW b r n D left cnt/\FitF D f/\(∀k,In2 k->(left (kl k)=true↔(f k).isSome=true/\k ∉ done.map (·.1)))/\(done.map (·.1)).Nodup/\(∀p∈done,In2 p.1/\f p.1=some p.2)/\done.length+cnt<=n
theorem RangF.kept{w w':World}{b r n:Nat}{f:KW}{done:List ((Int×Int)×V)}{row:Option Nat}(h:RangF w b r n f done)(hg:w.grownBy w' row)(hb:some b≠row)(hr:some r≠row):RangF w' b r n f done:=by
 obtain⟨D,left,cnt,h,h2⟩:=h;exact⟨D,left,cnt,h.kept hg hb hr,h2⟩
theorem RangF.left{w w':World}{b r n:Nat}{f:KW}{done:List ((Int×Int)×V)}{row:Option Nat}(h:RangF w b r n f done)(hg:w.grownBy w' row)(hb:some b≠row)(hr:some r≠row):w'.rangeLeft b r=w.rangeLeft b r:=by
 obtain⟨D,left,cnt,h,h2⟩:=h;rw [(h.kept hg hb hr).left_eq,h.left_eq]
theorem RangF.facts{w:World}{b r n:Nat}{f:KW}{done:List ((Int×Int)×V)}(h:RangF w b r n f done):(done.map (·.1)).Nodup/\(∀p∈done,In2 p.1/\f p.1=some p.2)/\done.length<=n:=by
 obtain⟨D,left,cnt,h,_,_,h2,h3,h4⟩:=h;exact⟨h2,h3,by omega⟩
theorem RangF.lt{w:World}{b r n:Nat}{f:KW}{done:List ((Int×Int)×V)}(h:RangF w b r n f done):r<w.heap.size/\b<w.heap.size:=by
 obtain⟨D,left,cnt,h,h2⟩:=h;exact⟨h.lt,h.owns.lt⟩
theorem sB(hg:o.guard=none)(m:Operand)(hop:o.op=Op.range 54 m)(b n:Nat)(f:KW)(hm:a.eval m= .map (some b))(hown:MapF w b n f)
  (hK:∀w',RangF w' b w.heap.size n f []->w.grownBy w' none->w'.heap.size=w.heap.size+1->wpList Try.prog ops Q rest (a.put o.dst (.pointer (some ⟨w.heap.size,0,none⟩))) w'):
  wpList Try.prog ops Q (o::rest) a w:=by
 obtain⟨D,hown,hF⟩:=hown;refine wpList_range_own w hg m _ hop 3 57 keyedK Try.underlying54 RW b n D hm hown ?_;intro w' hr hgr hs;refine hK w' ⟨D,_,_,hr,hF,λk hk=> ?_,by simp,by simp,by simpa using hown.size_le⟩ hgr hs;rw [(hF k hk).1];simp
theorem vj(hg:o.guard=none)(it:Operand)(hop:o.op=Op.next it false)(b r n:Nat)(f:KW)(done:List ((Int×Int)×V))(hit:a.eval it= .pointer (some ⟨r,0,none⟩))(h:RangF w b r n f done)
  (hDone:(∀k,In2 k->∀z,f k=some z->(k,z)∈done)->wpList Try.prog ops Q rest (a.put o.dst (.tuple #[.bool false])) w)
  (hMore:∀(k:Int×Int) (z:V) (w':World),RangF w' b r n f (done++ [(k,z)])->w'.rangeLeft b r<w.rangeLeft b r->w.grownBy w' (some r)->w'.heap.size=w.heap.size->(Instr.entry (.pointer (some ⟨r,0,none⟩))).run Try.prog w'= .ok (.tuple #[KV k,WV z]) w'->wpList Try.prog ops Q rest (a.put o.dst (.tuple #[.bool true,KV k,WV z])) w'):
  wpList Try.prog ops Q (o::rest) a w:=by
 obtain⟨D,left,cnt,hr,hF,hl,hnd,hdn,hcn⟩:=h;refine wpList_next_ranges w hg it hop 3 keyedK RW (λn:Int=>(.int .i64 n:Value)) (λc:Int×Int=> .agg #[.int .i64 c.1,.int .u64 c.2]) (λkey l hkey=>by obtain⟨k,e,_⟩:=qn hkey;exact⟨k.2,e⟩) (λv y hv=>by obtain⟨c,e,_⟩:=yP hv;exact⟨c,e⟩) b r n D left cnt hit hr ?_ ?_
 .intro _ hno;refine hDone λk hk z hz=> ?_;have h1:=hl k hk;rw [hno]at h1
  have h2:k∈done.map (·.1):=Decidable.byContradiction λhn=>by
   have:=h1.2 ⟨by rw [hz];rfl,hn⟩
   cases this
  obtain⟨p,hp,rfl⟩:=List.mem_map.1 h2;have h3:=(hdn p hp).2;rw [hz]at h3;cases h3;exact hp
 .intro k0 c l y w' cnt' hkey hlk hy hat hrg hlt hgr hsz hen;obtain⟨k,e1,hk,rfl⟩:=qn hkey;obtain rfl:k0=k.2:=by simpa using e1
  have hk1:=(hl k hk).1 hlk;obtain⟨z,hz⟩:=Option.isSome_iff_exists.1 hk1.1;have h4:=(hF k hk).2 z hz (dW z);rw [hat]at h4;obtain⟨c',e2,e3⟩:=yP hy;have e4:(.agg #[.int .i64 c.1,.int .u64 c.2]:Value)=WV z:=qo (ps:=y.2) (by rw [hy,<-h4]);rw [e4]at hen ⊢;refine hMore k z w' ⟨D,_,cnt',hrg,hF,λk' hk'=> ?_,?_,?_,by simp;omega⟩ (by rw [hrg.left_eq,hr.left_eq];exact hlt) hgr hsz hen
  .by_cases e:k'=k
   .subst e;rw [WideAt.sameKey_self (vi hk)];simp
   .rw [Maps.sameKey_ne (λh=>e (CZ hk' hk h))]
    have:=hl k' hk'
    simp [e]at this ⊢;exact this
  .rw [List.map_append,List.nodup_append];refine⟨hnd,by simp,?_⟩;intro x hx y hy e;simp at hy;subst hy;subst e;exact hk1.2 hx
  .intro p hp;rcases List.mem_append.1 hp with hp|hp
   .exact hdn p hp
   .simp at hp;subst hp;exact⟨hk,hz⟩
end
theorem MapF.alloc{w:World}{b n:Nat}{f:KW}(h:MapF w b n f)(o:Obj):MapF (w.alloc o) b n f:=h.kept (World.grownBy_alloc w o none) (by simp)
theorem Da{R:Rg}{f:KW}{e:Sm.Ed}(h:f (Sm.key e)=none):upd R f e=pf f (Sm.key e) (R.o e.2.2):=by
 funext k;simp [upd,pf,h]
theorem Db{R:Rg}{f:KW}{e:Sm.Ed}{s:V}(h:f (Sm.key e)=some s):upd R f e=pf f (Sm.key e) (R.ad s (R.o e.2.2)):=by
 funext k;simp [upd,pf,h]
end It
end Sm
end
end Go.Proofs.Ytmlpoegdhcdkcaa
