/- Texts of a claim, joined. -/
import Derived.Test.YtgefmokmjdeecaaDoorZT9
import Derived.Test.YtgefmokmjdeecaaDoorZT5
import Derived.Test.YtgefmokmjdeecaaDoorZT3
import Derived.Test.YtgefmokmjdeecaaDoorProg
import Derived.Test.YtgefmokmjdeecaaDoorZT6
set_option linter.unusedVariables false
set_option linter.unusedSimpArgs false
namespace Go.Proofs.YtgefmokmjdeecaaDoor
noncomputable section
namespace Ev
namespace K
open Go Go.RowKit
set_option maxRecDepth 100000
set_option maxHeartbeats 1000000
def Gh:Ax:=(fun _=>none)
theorem yB:HO Tryd.prog Gh:=(CD _)
def Gi:Ax:=(fR (fR (fR (fR (fR (fR (fR (fR (fR (fR (fR (fR Gh 23 gn) 40 gn) 42 gn) 43 gn) 45 gn) 47 gn) 53 gn) 54 gn) 67 gn) 77 gn) 93 gn) 94 gn)
theorem yD:HO Tryd.prog Gi:=(bY (bY (bY (bY (bY (bY (bY (bY (bY (bY (bY (bY yB fun vs kind rs h=>by simp [gn]at h) fun vs kind rs h=>by simp [gn]at h) fun vs kind rs h=>by simp [gn]at h) fun vs kind rs h=>by simp [gn]at h) fun vs kind rs h=>by simp [gn]at h) fun vs kind rs h=>by simp [gn]at h) fun vs kind rs h=>by simp [gn]at h) fun vs kind rs h=>by simp [gn]at h) fun vs kind rs h=>by simp [gn]at h) fun vs kind rs h=>by simp [gn]at h) fun vs kind rs h=>by simp [gn]at h) fun vs kind rs h=>by simp [gn]at h)
def E1:Env:=HN Tryd.prog Gi
theorem dR:E1.Ok:=HP IU IV yD
theorem fQ:SD E1 TT:=⟨tz1,⟨tz2,⟨tz3,⟨tz4,⟨tz5,⟨tz6,⟨tz7,⟨tz8,⟨VP,⟨VQ,⟨VR,⟨VS,⟨VT,⟨VU,⟨VV,⟨Un,⟨Uo,⟨VW,⟨Uq,⟨Ur,⟨VX,⟨Us,⟨VY,⟨Ut,⟨Uu,⟨VZ,⟨Uv,⟨Wa,⟨Wb,⟨Uw,⟨Wc,⟨We,⟨Wf,⟨Ux,⟨Wh,⟨Wi,⟨Wj,⟨Wk,⟨Wl,⟨Uy,⟨Wm,⟨Wn,⟨Uz,⟨Wo,⟨UA,⟨Wp,⟨UB,⟨UC,⟨Wq,⟨Wr,⟨Ws,⟨Wt,⟨Wu,⟨Wv,⟨Ww,⟨Wx,⟨Wy,⟨Wz,⟨UD,⟨WA,⟨WB,⟨WC,⟨WD,⟨WE,⟨WF,⟨WG,⟨WH,⟨WI,⟨WJ,⟨WK,⟨WL,⟨WM,⟨WN,⟨WO,⟨WP,⟨WQ,⟨WR,⟨WS,⟨WT,⟨WU,⟨WV,⟨WW,⟨WX,⟨WY,⟨WZ,⟨Xa,⟨UE,⟨Xc,⟨SH,⟨SI,⟨SJ,⟨SK,⟨ND,⟨SN,⟨SO,⟨SP,⟨SQ,⟨SR,⟨NE,⟨SS,⟨ST,⟨SU,⟨SV,⟨SW,⟨SX,⟨SY,⟨SZ,⟨Ta,⟨Tb,⟨Tc,⟨NF,⟨Td,⟨NG,⟨Te,⟨Tf,⟨Tg,⟨Ti,⟨Tj,⟨Tl,⟨Tm,⟨Tn,⟨To,⟨Tp,⟨Tq,⟨Tr,⟨NH,⟨Ts,⟨Tt,⟨Tu,⟨Tv,⟨Tw,⟨Tx,⟨Tz,⟨TA,⟨TB,⟨TC,⟨TE,⟨TF,⟨TG,⟨TH,⟨TJ,⟨TK,⟨TL,trivial⟩⟩⟩⟩⟩⟩⟩⟩⟩⟩⟩⟩⟩⟩⟩⟩⟩⟩⟩⟩⟩⟩⟩⟩⟩⟩⟩⟩⟩⟩⟩⟩⟩⟩⟩⟩⟩⟩⟩⟩⟩⟩⟩⟩⟩⟩⟩⟩⟩⟩⟩⟩⟩⟩⟩⟩⟩⟩⟩⟩⟩⟩⟩⟩⟩⟩⟩⟩⟩⟩⟩⟩⟩⟩⟩⟩⟩⟩⟩⟩⟩⟩⟩⟩⟩⟩⟩⟩⟩⟩⟩⟩⟩⟩⟩⟩⟩⟩⟩⟩⟩⟩⟩⟩⟩⟩⟩⟩⟩⟩⟩⟩⟩⟩⟩⟩⟩⟩⟩⟩⟩⟩⟩⟩⟩⟩⟩⟩⟩⟩⟩⟩⟩⟩⟩⟩⟩⟩⟩⟩⟩⟩⟩
theorem dw:SE E1.P EQS:=⟨XJ SF SG,trivial⟩
theorem Zj:E1.fn 16=some YG:=eO Tryd.func16 rfl
theorem Zk:E1.fn 17=some YH:=eO Tryd.func17 rfl
theorem Zl:E1.fn 20=some YI:=eO Tryd.func20 rfl
theorem Zm:E1.fn 22=some YJ:=eO Tryd.func22 rfl
theorem Zn:E1.fn 36=some YK:=eO Tryd.func36 rfl
theorem Zo:E1.fn 37=some YL:=eO Tryd.func37 rfl
theorem Zp:E1.fn 38=some YM:=eO Tryd.func38 rfl
theorem Zq:E1.fn 39=some YN:=eO Tryd.func39 rfl
theorem VN:E1.fn 40=some VK:=eO Tryd.func40 rfl
theorem VO:E1.fn 42=some VL:=eO Tryd.func42 rfl
theorem Zr:E1.fn 43=some YO:=eO Tryd.func43 rfl
theorem Zs:E1.fn 44=some YP:=eO Tryd.func44 rfl
theorem Zt:E1.fn 51=some YQ:=eO Tryd.func51 rfl
theorem Zu:E1.fn 55=some YR:=eO Tryd.func55 rfl
theorem Zv:E1.fn 61=some YS:=eO Tryd.func61 rfl
theorem Zw:E1.fn 62=some YT:=eO Tryd.func62 rfl
theorem Zx:E1.fn 63=some YU:=eO Tryd.func63 rfl
theorem Zy:E1.fn 64=some YV:=eO Tryd.func64 rfl
theorem Zz:E1.fn 65=some YW:=eO Tryd.func65 rfl
theorem ZA:E1.fn 66=some YX:=eO Tryd.func66 rfl
theorem ZB:E1.fn 74=some YY:=eO Tryd.func74 rfl
theorem ZC:E1.fn 75=some YZ:=eO Tryd.func75 rfl
theorem ZD:E1.fn 78=some Za:=eO Tryd.func78 rfl
theorem ZE:E1.fn 79=some Zb:=eO Tryd.func79 rfl
theorem ZF:E1.fn 81=some Zc:=eO Tryd.func81 rfl
theorem ZG:E1.fn 82=some Zd:=eO Tryd.func82 rfl
theorem ZH:E1.fn 83=some Ze:=eO Tryd.func83 rfl
theorem ZI:E1.fn 84=some Zf:=eO Tryd.func84 rfl
theorem ZJ:E1.fn 89=some Zg:=eO Tryd.func89 rfl
theorem ZK:E1.fn 90=some Zh:=eO Tryd.func90 rfl
theorem ZL:E1.fn 91=some Zi:=eO Tryd.func91 rfl
end K
end Ev
end
noncomputable section
namespace Ev
namespace K
open Go Go.RowKit
set_option maxRecDepth 100000
set_option maxHeartbeats 1000000
def DQ:iy:= []
def uf:KG:=⟨TT,EQS,[],[]⟩
def dI:vals [(false,.I .u8)]→Option (OutK.val (.data true [(false,.I .i64)])):=jy uf DQ YI 20 0 [(false,.I .u8)] (.data true [(false,.I .i64)])
def ug:dv:=⟨20,[(false,.I .u8)],.data true [(false,.I .i64)],dI,1⟩
def Gj:iy:= []
def wE:KG:=⟨TT,EQS,[],[]⟩
def mn:vals [yD2]→Option (OutK.val (.data false [yD2])):=jy wE Gj YM 38 0 [yD2] (.data false [yD2])
def wG:dv:=⟨38,[yD2],.data false [yD2],mn,1⟩
def IH:iy:= []
def yE:KG:=⟨TT,EQS,[],[]⟩
def fU:vals [(false,.I .i64)]→Option (OutK.val (.data true [(false,.B)])):=jy yE IH YV 64 0 [(false,.I .i64)] (.data true [(false,.B)])
def sQ:dv:=⟨64,[(false,.I .i64)],.data true [(false,.B)],fU,1⟩
def Bf:iy:= []
def sf:KG:=⟨TT,EQS,[],[]⟩
def gY:vals [yD3,yD3]→Option (OutK.val (.data true [(false,.B)])):=jy sf Bf Zc 81 0 [yD3,yD3] (.data true [(false,.B)])
def sg:dv:=⟨81,[yD3,yD3],.data true [(false,.B)],gY,1⟩
def II:iy:= []
def yF:KG:=⟨TT,EQS,[],[]⟩
def ol:vals [(false,.I .i64)]→Option (OutK.val (.data true [yD4])):=jy yF II Zd 82 0 [(false,.I .i64)] (.data true [yD4])
def yG:dv:=⟨82,[(false,.I .i64)],.data true [yD4],ol,1⟩
def xL:iy:= []
def qn:KG:=⟨TT,EQS,[],[]⟩
def fI:vals [yD4,yD4]→Option (OutK.val (.data true [(false,.I .i64)])):=jy qn xL Zg 89 0 [yD4,yD4] (.data true [(false,.I .i64)])
def qo:dv:=⟨89,[yD4,yD4],.data true [(false,.I .i64)],fI,1⟩
def Bg:iy:= []
def sk:KG:=⟨TT,EQS,[],[]⟩
def gZ:vals [(false,.B)]→Option (OutK.val (.data true [yD4])):=jy sk Bg Zh 90 0 [(false,.B)] (.data true [yD4])
def sm:dv:=⟨90,[(false,.B)],.data true [yD4],gZ,1⟩
def Gk:iy:= [(91,⟨[⟨true,3,5,[2,4,5],⟨[(6,false,[.d true (.I .i64)])],[],[]⟩,[(.normal,⟨[(6,false,[.d true (.I .i64)])],[],[]⟩)]⟩],[]⟩)]
def wH:KG:=⟨TT,EQS,[],[]⟩
def mq:vals [yD4,yD4]→Option (OutK.val (.data true [yD4])):=jy wH Gk Zi 91 0 [yD4,yD4] (.data true [yD4])
def wI:dv:=⟨91,[yD4,yD4],.data true [yD4],mq,1⟩
def Gl:iy:= [(83,⟨[⟨true,3,9,[4,5,6,7],⟨[],[],[]⟩,[(.normal,⟨[(9,false,[.d true .B])],[],[]⟩)]⟩],[]⟩)]
def wJ:KG:=⟨TT,EQS,[qo,sm,wI],[]⟩
def mr:vals [(false,.I .i64),yD4,yD4]→Option (OutK.val (.data true [yD4])):=jy wJ Gl Ze 83 0 [(false,.I .i64),yD4,yD4] (.data true [yD4])
def wK:dv:=⟨83,[(false,.I .i64),yD4,yD4],.data true [yD4],mr,2⟩
def yH:iy:= []
def qH:KG:=⟨TT,EQS,[],[]⟩
def gm:vals [yD4]→Option (OutK.val (.data true [(false,.I .i64),(false,.B)])):=jy qH yH Zf 84 0 [yD4] (.data true [(false,.I .i64),(false,.B)])
def qI:dv:=⟨84,[yD4],.data true [(false,.I .i64),(false,.B)],gm,1⟩
def xM:iy:= [(65,⟨[⟨false,6,0,[0,1],⟨[(6,false,[.m (.C (.I .i64) (.C (.I .i64) (.I .i64)))]),(7,false,[.m (.C (.I .i64) (.I .u64))]),(8,false,[.d true (.I .i64)])],[],[]⟩,[(.exit 0,⟨[(6,false,[.m (.C (.I .i64) (.C (.I .i64) (.I .i64)))]),(7,false,[.m (.C (.I .i64) (.I .u64))])],[],[]⟩)]⟩,⟨false,9,0,[0,1,6,7,8],⟨[(9,false,[.d true (.I .i64)])],[],[]⟩,[(.exit 2,⟨[(9,false,[.d true (.I .i64)])],[],[]⟩)]⟩,⟨false,17,0,[0,1,6,7,8,9,10],⟨[(11,false,[.d true (.I .i64)])],[],[(.sl 6 0,.C (.I .i64) (.C (.I .i64) (.I .i64))),(.sl 7 0,.C (.I .i64) (.I .u64))]⟩,[(.exit 4,⟨[],[],[(.sl 6 0,.C (.I .i64) (.C (.I .i64) (.I .i64))),(.sl 7 0,.C (.I .i64) (.I .u64))]⟩)]⟩,⟨false,24,0,[7],⟨[(6,false,[.m (.C (.I .i64) (.C (.I .i64) (.I .i64)))]),(12,false,[.d true (.I .i64)])],[],[]⟩,[(.exit 6,⟨[(6,false,[.m (.C (.I .i64) (.C (.I .i64) (.I .i64)))])],[],[]⟩),(.ret,⟨[(4,false,[.m (.C (.I .i64) (.C (.I .i64) (.I .i64)))]),(5,false,[.d true (.I .i64)])],[],[]⟩)]⟩],[(13,⟨[[],[],[],[],[],[],[],[],[],[],[.sl 7 0]],[(false,[]),(false,[]),(false,[]),(false,[]),(false,[]),(false,[]),(false,[]),(false,[]),(false,[]),(false,[]),(false,[])]⟩),(21,⟨[[],[],[],[],[],[],[],[],[],[],[],[],[],[],[.sl 6 0]],[(false,[]),(false,[]),(false,[]),(false,[]),(false,[]),(false,[]),(false,[]),(false,[]),(false,[]),(false,[]),(false,[]),(false,[]),(false,[]),(false,[]),(false,[])]⟩)]⟩)]
def qp:KG:=⟨TT,EQS,[sQ,sg,yG,wK,qI],[]⟩
def cE:vals [(false,.I .i64),yD2]→Option (OutK.val (.data true [yD2,(false,.I .i64)])):=jy qp xM YW 65 0 [(false,.I .i64),yD2] (.data true [yD2,(false,.I .i64)])
def qq:dv:=⟨65,[(false,.I .i64),yD2],.data true [yD2,(false,.I .i64)],cE,3⟩
def Bh:iy:= [(66,⟨[⟨false,3,0,[0,2,6,7],⟨[(8,false,[.d true (.I .i64)])],[(7,[.d true (.I .i64),.d true (.I .i64),.o (.I .i64),.m (.I .i64),.m (.I .i64)])],[]⟩,[(.exit 0,⟨[],[(7,[.d true (.I .i64),.d true (.I .i64),.o (.I .i64),.m (.I .i64),.m (.I .i64)])],[]⟩)]⟩,⟨false,8,0,[0,2,6,7,8],⟨[(9,false,[.d true (.I .i64)])],[],[(.bx 7 2,.I .i64)]⟩,[(.exit 2,⟨[],[],[(.bx 7 2,.I .i64)]⟩)]⟩],[(5,⟨[[],[],[],[],[],[],[],[],[.bx 7 3],[],[.sl 7 0]],[(false,[]),(false,[]),(false,[]),(false,[]),(false,[]),(false,[]),(false,[]),(true,[]),(true,[]),(false,[]),(false,[])]⟩),(6,⟨[[],[],[],[],[],[],[],[],[.bx 7 4],[],[.sl 7 0]],[(false,[]),(false,[]),(false,[]),(false,[]),(false,[]),(false,[]),(false,[]),(true,[]),(true,[]),(false,[]),(false,[])]⟩)]⟩)]
def sn:KG:=⟨TT,EQS,[],[(40,VK)]⟩
def jA:vals [(false,.I .i64),(false,.I .i64),yD2]→Option (OutK.val (.data true [yD1])):=jy sn Bh YX 66 6 [(false,.I .i64),(false,.I .i64),yD2] (.data true [yD1])
def so:dv:=⟨66,[(false,.I .i64),(false,.I .i64),yD2],.data true [yD1],jA,7⟩
def IJ:iy:= [(39,⟨[⟨false,9,0,[0,1,2,3,8],⟨[(10,false,[.m (.C (.I .i64) (.C (.I .i64) (.I .i64)))]),(11,false,[.d true (.I .i64)])],[(8,[.d true (.I .i64),.d true (.I .i64),.m (.I .i64),.m (.I .i64),.m (.I .i64)])],[]⟩,[(.exit 0,⟨[(10,false,[.m (.C (.I .i64) (.C (.I .i64) (.I .i64)))])],[(8,[.d true (.I .i64),.d true (.I .i64),.m (.I .i64),.m (.I .i64),.m (.I .i64)])],[]⟩),(.ret,⟨[(9,false,[.d true (.I .i64)])],[(8,[.d true (.I .i64),.d true (.I .i64),.m (.I .i64),.m (.I .i64),.m (.I .i64)])],[]⟩)]⟩,⟨false,19,0,[1,2,8,10],⟨[(13,false,[.m (.C (.I .i64) (.C (.I .i64) (.I .i64)))]),(14,false,[.d true (.I .i64)])],[],[]⟩,[(.exit 2,⟨[(13,false,[.m (.C (.I .i64) (.C (.I .i64) (.I .i64)))])],[],[]⟩)]⟩],[(13,⟨[[],[],[],[],[],[],[],[],[],[],[],[],[],[],[],[],[],[],[.sl 10 0],[]],[(false,[]),(false,[]),(false,[]),(false,[]),(false,[]),(false,[]),(false,[]),(false,[]),(false,[]),(false,[]),(false,[]),(false,[]),(false,[]),(false,[]),(false,[]),(false,[]),(false,[]),(true,[]),(true,[]),(false,[])]⟩),(21,⟨[[],[],[],[],[],[],[],[],[],[],[],[],[],[],[],[],[],[],[.sl 13 0],[]],[(false,[]),(false,[]),(false,[]),(false,[]),(false,[]),(false,[]),(false,[]),(false,[]),(false,[]),(false,[]),(false,[]),(false,[]),(false,[]),(false,[]),(false,[]),(false,[]),(false,[]),(true,[]),(true,[]),(false,[])]⟩)]⟩)]
def yI:KG:=⟨TT,EQS,[sQ,qq,so],[]⟩
def om:vals [(false,.I .i64),(false,.I .i64),(false,.I .i64),yD2]→Option (OutK.val (.data true [yD1,(false,.I .i64)])):=jy yI IJ YN 39 0 [(false,.I .i64),(false,.I .i64),(false,.I .i64),yD2] (.data true [yD1,(false,.I .i64)])
def yJ:dv:=⟨39,[(false,.I .i64),(false,.I .i64),(false,.I .i64),yD2],.data true [yD1,(false,.I .i64)],om,8⟩
def DR:iy:= [(17,⟨[⟨false,5,0,[1,4,5,6],⟨[(7,false,[.m (.C (.I .i64) (.C (.I .i64) (.I .i64)))]),(8,false,[.d true (.I .i64)])],[],[]⟩,[(.exit 0,⟨[(7,false,[.m (.C (.I .i64) (.C (.I .i64) (.I .i64)))])],[],[]⟩)]⟩],[]⟩)]
def uh:KG:=⟨TT,EQS,[ug,wG,yJ],[(40,VK)]⟩
def fJ:vals [yD5,yD2]→Option (OutK.val (.data true [yD1])):=jy uh DR YH 17 6 [yD5,yD2] (.data true [yD1])
def DS:dv:=⟨17,[yD5,yD2],.data true [yD1],fJ,15⟩
def IK:iy:= []
def yK:KG:=⟨TT,EQS,[],[]⟩
def fh:vals [(false,.I .i64)]→Option (OutK.val (.data true [(false,.B)])):=jy yK IK Za 78 0 [(false,.I .i64)] (.data true [(false,.B)])
def yL:dv:=⟨78,[(false,.I .i64)],.data true [(false,.B)],fh,1⟩
def Gm:iy:= [(79,⟨[⟨false,3,0,[1,8,9],⟨[(5,false,[.d true (.I .i64)]),(10,false,[.d true (.I .i64)])],[],[]⟩,[(.exit 0,⟨[],[],[]⟩),(.ret,⟨[(4,false,[.d true .B])],[],[]⟩)]⟩],[]⟩)]
def wL:KG:=⟨TT,EQS,[],[]⟩
def fe:vals [(false,.S (.I .i64)),(false,.I .i64)]→Option (OutK.val (.data true [(false,.B)])):=jy wL Gm Zb 79 0 [(false,.S (.I .i64)),(false,.I .i64)] (.data true [(false,.B)])
def wM:dv:=⟨79,[(false,.S (.I .i64)),(false,.I .i64)],.data true [(false,.B)],fe,1⟩
def Gn:iy:= [(55,⟨[⟨false,7,0,[1,3,56],⟨[(57,false,[.d true (.I .i64)])],[],[]⟩,[(.exit 0,⟨[],[],[]⟩),(.ret,⟨[(2,false,[.d true .B])],[],[]⟩)]⟩],[]⟩)]
def wN:KG:=⟨TT,EQS,[yL,wM],[]⟩
def eE:vals [yD1]→Option (OutK.val (.data true [(false,.B)])):=jy wN Gn YR 55 0 [yD1] (.data true [(false,.B)])
def wO:dv:=⟨55,[yD1],.data true [(false,.B)],eE,2⟩
def Gp:iy:= [(42,⟨[⟨false,1,0,[0],⟨[(2,false,[.d true (.I .i64)])],[],[(.sl 0 0,.I .i64)]⟩,[(.exit 0,⟨[],[],[(.sl 0 0,.I .i64)]⟩)]⟩],[(3,⟨[[],[],[],[],[],[],[],[],[],[],[],[.sl 0 0]],[(false,[]),(false,[]),(false,[]),(false,[]),(false,[]),(false,[]),(false,[]),(false,[]),(false,[]),(false,[]),(false,[]),(false,[])]⟩)]⟩),(63,⟨[⟨false,3,0,[6,7,16,17],⟨[(18,false,[.d true (.I .i64)])],[(7,[.d true (.I .i64),.d true (.I .i64),.o (.I .i64),.m (.I .i64),.m (.I .i64)])],[]⟩,[(.exit 0,⟨[],[(7,[.d true (.I .i64),.d true (.I .i64),.o (.I .i64),.m (.I .i64),.m (.I .i64)])],[]⟩)]⟩],[]⟩)]
def wP:KG:=⟨TT,EQS,[],[(42,VL)]⟩
def rA:vals [(false,.I .i64),(false,.I .i64),yD2]→Option (OutK.val (.data true [yD1])):=jy wP Gp YU 63 6 [(false,.I .i64),(false,.I .i64),yD2] (.data true [yD1])
def wQ:dv:=⟨63,[(false,.I .i64),(false,.I .i64),yD2],.data true [yD1],rA,7⟩
def IL:iy:= []
def yN:KG:=⟨TT,EQS,[wO,wQ],[]⟩
def mC:vals [yD1]→Option (OutK.val (.data false [yD1])):=jy yN IL YL 37 0 [yD1] (.data false [yD1])
def sR:dv:=⟨37,[yD1],.data false [yD1],mC,8⟩
def Ml:iy:= []
def Cc:KG:=⟨TT,EQS,[],[]⟩
def rB:vals [yD1,(false,.I .i64)]→Option (OutK.val (.data false [(false,.S (.I .i64)),(false,.S (.I .i64))])):=jy Cc Ml YP 44 0 [yD1,(false,.I .i64)] (.data false [(false,.S (.I .i64)),(false,.S (.I .i64))])
def Cd:dv:=⟨44,[yD1,(false,.I .i64)],.data false [(false,.S (.I .i64)),(false,.S (.I .i64))],rB,1⟩
def IM:iy:= [(22,⟨[⟨false,4,0,[1,2,3,32,33],⟨[(34,false,[.d true (.I .i64)])],[],[(.bx 3 2,.I .i64)]⟩,[(.exit 0,⟨[],[],[(.bx 3 2,.I .i64)]⟩)]⟩,⟨false,11,0,[1,2,3,6,54],⟨[(55,false,[.d true (.I .i64)])],[],[(.bx 3 3,.I .i64),(.bx 3 4,.I .i64),(.sl 6 0,.I .i64)]⟩,[(.exit 2,⟨[],[],[(.bx 3 3,.I .i64),(.bx 3 4,.I .i64)]⟩)]⟩,⟨false,15,0,[1,2,3,6,7,9,54,55,64,65],⟨[(66,false,[.d true (.I .i64)])],[],[(.bx 3 3,.I .i64),(.bx 3 4,.I .i64),(.sl 6 0,.I .i64)]⟩,[(.exit 4,⟨[],[],[(.bx 3 3,.I .i64),(.bx 3 4,.I .i64),(.sl 6 0,.I .i64)]⟩)]⟩],[(2,⟨[[],[],[],[],[],[],[],[],[],[],[],[],[],[],[],[],[],[],[]],[(false,[]),(false,[]),(false,[]),(false,[]),(false,[]),(false,[]),(false,[]),(true,[]),(false,[]),(false,[]),(false,[]),(true,[]),(false,[]),(false,[]),(false,[]),(true,[]),(false,[]),(true,[]),(false,[17])]⟩),(17,⟨[[],[],[],[],[],[],[],[],[],[],[],[],[],[],[],[],[],[],[.bx 3 3],[],[.bx 3 4]],[(false,[]),(false,[]),(false,[]),(false,[]),(false,[]),(false,[]),(false,[]),(false,[]),(false,[]),(false,[]),(false,[]),(false,[]),(false,[]),(false,[]),(false,[]),(false,[]),(false,[]),(false,[]),(false,[]),(false,[]),(false,[])]⟩)]⟩),(42,⟨[⟨false,1,0,[0],⟨[(2,false,[.d true (.I .i64)])],[],[(.sl 0 0,.I .i64)]⟩,[(.exit 0,⟨[],[],[(.sl 0 0,.I .i64)]⟩)]⟩],[(3,⟨[[],[],[],[],[],[],[],[],[],[],[],[.sl 0 0]],[(false,[]),(false,[]),(false,[]),(false,[]),(false,[]),(false,[]),(false,[]),(false,[]),(false,[]),(false,[]),(false,[]),(false,[])]⟩)]⟩)]
def yO:KG:=⟨TT,EQS,[sR,Cd],[(42,VL),(43,YO)]⟩
def jb:vals [yD1]→Option (OutK.val (.data true [yD1])):=jy yO IM YJ 22 6 [yD1] (.data true [yD1])
def IN:dv:=⟨22,[yD1],.data true [yD1],jb,15⟩
def Gq:iy:= []
def wR:KG:=⟨TT,EQS,[],[]⟩
def ky:vals [(false,.I .i64)]→Option (OutK.val (.data true [(false,.B)])):=jy wR Gq YY 74 0 [(false,.I .i64)] (.data true [(false,.B)])
def wS:dv:=⟨74,[(false,.I .i64)],.data true [(false,.B)],ky,1⟩
def DT:iy:= [(75,⟨[⟨false,3,0,[1,8,9],⟨[(5,false,[.d true (.I .i64)]),(10,false,[.d true (.I .i64)])],[],[]⟩,[(.exit 0,⟨[],[],[]⟩),(.ret,⟨[(4,false,[.d true .B])],[],[]⟩)]⟩],[]⟩)]
def ui:KG:=⟨TT,EQS,[],[]⟩
def js:vals [(false,.S (.I .i64)),(false,.I .i64)]→Option (OutK.val (.data true [(false,.B)])):=jy ui DT YZ 75 0 [(false,.S (.I .i64)),(false,.I .i64)] (.data true [(false,.B)])
def uj:dv:=⟨75,[(false,.S (.I .i64)),(false,.I .i64)],.data true [(false,.B)],js,1⟩
def DU:iy:= [(51,⟨[⟨false,7,0,[1,3,67],⟨[(68,false,[.d true (.I .i64)])],[],[]⟩,[(.exit 0,⟨[],[],[]⟩),(.ret,⟨[(2,false,[.d true .B])],[],[]⟩)]⟩],[]⟩)]
def uk:KG:=⟨TT,EQS,[wS,uj],[]⟩
def dJ:vals [yD0]→Option (OutK.val (.data true [(false,.B)])):=jy uk DU YQ 51 0 [yD0] (.data true [(false,.B)])
def um:dv:=⟨51,[yD0],.data true [(false,.B)],dJ,2⟩
def Gr:iy:= []
def wU:KG:=⟨TT,EQS,[um],[]⟩
def mt:vals [yD0]→Option (OutK.val (.data false [yD0])):=jy wU Gr YS 61 0 [yD0] (.data false [yD0])
def wV:dv:=⟨61,[yD0],.data false [yD0],mt,3⟩
def Gs:iy:= [(62,⟨[⟨false,2,0,[1,2],⟨[(4,false,[.d true (.I .i64)]),(5,false,[.d true (.I .i64)]),(6,false,[.d true (.I .i64)]),(7,false,[.d true (.I .i64)])],[],[]⟩,[(.exit 0,⟨[(4,false,[.d true (.I .i64)]),(5,false,[.d true (.I .i64)])],[],[]⟩)]⟩],[]⟩)]
def wW:KG:=⟨TT,EQS,[],[]⟩
def jB:vals [yD0,(false,.I .i64)]→Option (OutK.val (.data true [(false,.I .i64),(false,.I .i64)])):=jy wW Gs YT 62 0 [yD0,(false,.I .i64)] (.data true [(false,.I .i64),(false,.I .i64)])
def wX:dv:=⟨62,[yD0,(false,.I .i64)],.data true [(false,.I .i64),(false,.I .i64)],jB,1⟩
def Gt:iy:= [(36,⟨[⟨false,4,0,[2,12,13],⟨[(5,false,[.d true (.I .i64)]),(14,false,[.d true (.I .i64)])],[],[]⟩,[(.exit 0,⟨[(5,false,[.d true (.I .i64)])],[],[]⟩)]⟩],[]⟩)]
def wY:KG:=⟨TT,EQS,[wV,wX],[]⟩
def fV:vals [yD0,(false,.S (.I .i64))]→Option (OutK.val (.data true [(false,.I .i64)])):=jy wY Gt YK 36 0 [yD0,(false,.S (.I .i64))] (.data true [(false,.I .i64)])
def Gu:dv:=⟨36,[yD0,(false,.S (.I .i64))],.data true [(false,.I .i64)],fV,4⟩
def Gv:iy:= []
def wZ:KG:=⟨TT,EQS,[sR],[]⟩
def gK:vals [yD1]→Option (OutK.val (.data true [(false,.I .i64)])):=jy wZ Gv YG 16 0 [yD1] (.data true [(false,.I .i64)])
def Gw:dv:=⟨16,[yD1],.data true [(false,.I .i64)],gK,9⟩
end K
end Ev
end
noncomputable section
namespace Ev
namespace K
open Go Go.RowKit
set_option maxRecDepth 100000
set_option maxHeartbeats 1000000
theorem yP:GOk uf E1 0:=gok dR fQ dw trivial trivial
theorem Bi:bV E1 ug:=dB yP (by kernel_rfl) Zl (by kernel_rfl) rfl
theorem Bj:GOk wE E1 0:=gok dR fQ dw trivial trivial
theorem DW:bV E1 wG:=dB Bj (by kernel_rfl) Zp (by kernel_rfl) rfl
theorem DX:GOk yE E1 0:=gok dR fQ dw trivial trivial
theorem xa:bV E1 sQ:=dB DX (by kernel_rfl) Zy (by kernel_rfl) rfl
theorem xN:GOk sf E1 0:=gok dR fQ dw trivial trivial
theorem yQ:bV E1 sg:=dB xN (by kernel_rfl) ZF (by kernel_rfl) rfl
theorem DY:GOk yF E1 0:=gok dR fQ dw trivial trivial
theorem Gx:bV E1 yG:=dB DY (by kernel_rfl) ZG (by kernel_rfl) rfl
theorem uq:GOk qn E1 0:=gok dR fQ dw trivial trivial
theorem vM:bV E1 qo:=dB uq (by kernel_rfl) ZJ (by kernel_rfl) rfl
theorem xO:GOk sk E1 0:=gok dR fQ dw trivial trivial
theorem yR:bV E1 sm:=dB xO (by kernel_rfl) ZK (by kernel_rfl) rfl
theorem Bk:GOk wH E1 0:=gok dR fQ dw trivial trivial
theorem DZ:bV E1 wI:=dB Bk (by kernel_rfl) ZL (by kernel_rfl) rfl
theorem Bl:GOk wJ E1 1:=gok dR fQ dw ⟨⟨by decide,vM⟩,⟨⟨by decide,yR⟩,⟨⟨by decide,DZ⟩,trivial⟩⟩⟩ trivial
theorem Ea:bV E1 wK:=dB Bl (by kernel_rfl) ZH (by kernel_rfl) rfl
theorem vN:GOk qH E1 0:=gok dR fQ dw trivial trivial
theorem xP:bV E1 qI:=dB vN (by kernel_rfl) ZI (by kernel_rfl) rfl
theorem ur:GOk qp E1 2:=gok dR fQ dw ⟨⟨by decide,xa⟩,⟨⟨by decide,yQ⟩,⟨⟨by decide,Gx⟩,⟨⟨by decide,Ea⟩,⟨⟨by decide,xP⟩,trivial⟩⟩⟩⟩⟩ trivial
theorem oo:bV E1 qq:=dB ur (by kernel_rfl) Zz (by kernel_rfl) rfl
theorem xQ:GOk sn E1 0:=gok dR fQ dw trivial ⟨⟨VN,rfl⟩,trivial⟩
theorem yS:bV E1 so:=dB xQ (by kernel_rfl) ZA (by kernel_rfl) rfl
theorem Eb:GOk yI E1 7:=gok dR fQ dw ⟨⟨by decide,xa⟩,⟨⟨by decide,oo⟩,⟨⟨by decide,yS⟩,trivial⟩⟩⟩ trivial
theorem Gy:bV E1 yJ:=dB Eb (by kernel_rfl) Zq (by kernel_rfl) rfl
theorem yU:GOk uh E1 8:=gok dR fQ dw ⟨⟨by decide,Bi⟩,⟨⟨by decide,DW⟩,⟨⟨by decide,Gy⟩,trivial⟩⟩⟩ ⟨⟨VN,rfl⟩,trivial⟩
theorem Bm:bV E1 DS:=dB yU (by kernel_rfl) Zk (by kernel_rfl) rfl
theorem Ec:GOk yK E1 0:=gok dR fQ dw trivial trivial
theorem Gz:bV E1 yL:=dB Ec (by kernel_rfl) ZD (by kernel_rfl) rfl
theorem Bn:GOk wL E1 0:=gok dR fQ dw trivial trivial
theorem Ee:bV E1 wM:=dB Bn (by kernel_rfl) ZE (by kernel_rfl) rfl
theorem Bo:GOk wN E1 1:=gok dR fQ dw ⟨⟨by decide,Gz⟩,⟨⟨by decide,Ee⟩,trivial⟩⟩ trivial
theorem Ef:bV E1 wO:=dB Bo (by kernel_rfl) Zu (by kernel_rfl) rfl
theorem Bp:GOk wP E1 0:=gok dR fQ dw trivial ⟨⟨VO,rfl⟩,trivial⟩
theorem Eg:bV E1 wQ:=dB Bp (by kernel_rfl) Zx (by kernel_rfl) rfl
theorem Eh:GOk yN E1 7:=gok dR fQ dw ⟨⟨by decide,Ef⟩,⟨⟨by decide,Eg⟩,trivial⟩⟩ trivial
theorem xb:bV E1 sR:=dB Eh (by kernel_rfl) Zo (by kernel_rfl) rfl
theorem GA:GOk Cc E1 0:=gok dR fQ dw trivial trivial
theorem IP:bV E1 Cd:=dB GA (by kernel_rfl) Zs (by kernel_rfl) rfl
theorem Ei:GOk yO E1 8:=gok dR fQ dw ⟨⟨by decide,xb⟩,⟨⟨by decide,IP⟩,trivial⟩⟩ ⟨⟨VO,rfl⟩,⟨⟨Zr,rfl⟩,trivial⟩⟩
theorem GB:bV E1 IN:=dB Ei (by kernel_rfl) Zm (by kernel_rfl) rfl
theorem Bq:GOk wR E1 0:=gok dR fQ dw trivial trivial
theorem Ej:bV E1 wS:=dB Bq (by kernel_rfl) ZB (by kernel_rfl) rfl
theorem yV:GOk ui E1 0:=gok dR fQ dw trivial trivial
theorem Br:bV E1 uj:=dB yV (by kernel_rfl) ZC (by kernel_rfl) rfl
theorem yW:GOk uk E1 1:=gok dR fQ dw ⟨⟨by decide,Ej⟩,⟨⟨by decide,Br⟩,trivial⟩⟩ trivial
theorem sr:bV E1 um:=dB yW (by kernel_rfl) Zt (by kernel_rfl) rfl
theorem Bs:GOk wU E1 2:=gok dR fQ dw ⟨⟨by decide,sr⟩,trivial⟩ trivial
theorem Ek:bV E1 wV:=dB Bs (by kernel_rfl) Zv (by kernel_rfl) rfl
theorem Bt:GOk wW E1 0:=gok dR fQ dw trivial trivial
theorem El:bV E1 wX:=dB Bt (by kernel_rfl) Zw (by kernel_rfl) rfl
theorem Bu:GOk wY E1 3:=gok dR fQ dw ⟨⟨by decide,Ek⟩,⟨⟨by decide,El⟩,trivial⟩⟩ trivial
theorem Em:bV E1 Gu:=dB Bu (by kernel_rfl) Zn (by kernel_rfl) rfl
theorem Bv:GOk wZ E1 8:=gok dR fQ dw ⟨⟨by decide,xb⟩,trivial⟩ trivial
theorem En:bV E1 Gw:=dB Bv (by kernel_rfl) Zj (by kernel_rfl) rfl
end K
end Ev
end
noncomputable section
namespace Ev
open Go
set_option maxRecDepth 100000
set_option maxHeartbeats 1000000
attribute [local irreducible] el StL TnL WpL dz
def qF(k:FuncId):List TD→Option (Kind×List TD):=fun vs=>cpR K.E1 60 k vs
theorem QI(vs:List TD)(kind:Kind)(rs:List TD)(h:qF 22 vs=some (kind,rs)):jU Tryd.prog 22 vs kind rs∧iZ Tryd.prog 22:=⟨(mT h).pure K.dR,⟨_,_,Tryd.func22,by kernel_rfl,by unfold Tryd.f22;rfl⟩⟩
theorem QJ(vs:List TD)(kind:Kind)(rs:List TD)(h:qF 16 vs=some (kind,rs)):jU Tryd.prog 16 vs kind rs∧iZ Tryd.prog 16:=⟨(mT h).pure K.dR,⟨_,_,Tryd.func16,by kernel_rfl,by unfold Tryd.f16;rfl⟩⟩
theorem QK(vs:List TD)(kind:Kind)(rs:List TD)(h:qF 51 vs=some (kind,rs)):jU Tryd.prog 51 vs kind rs∧iZ Tryd.prog 51:=⟨(mT h).pure K.dR,⟨_,_,Tryd.func51,by kernel_rfl,by unfold Tryd.f51;rfl⟩⟩
theorem QL(vs:List TD)(kind:Kind)(rs:List TD)(h:qF 36 vs=some (kind,rs)):jU Tryd.prog 36 vs kind rs∧iZ Tryd.prog 36:=⟨(mT h).pure K.dR,⟨_,_,Tryd.func36,by kernel_rfl,by unfold Tryd.f36;rfl⟩⟩
theorem QM(vs:List TD)(kind:Kind)(rs:List TD)(h:qF 17 vs=some (kind,rs)):jU Tryd.prog 17 vs kind rs∧iZ Tryd.prog 17:=⟨(mT h).pure K.dR,⟨_,_,Tryd.func17,by kernel_rfl,by unfold Tryd.f17;rfl⟩⟩
theorem QN(vs:List TD)(kind:Kind)(rs:List TD)(h:qF 65 vs=some (kind,rs)):jU Tryd.prog 65 vs kind rs∧iZ Tryd.prog 65:=⟨(mT h).pure K.dR,⟨_,_,Tryd.func65,by kernel_rfl,by unfold Tryd.f65;rfl⟩⟩
end Ev
end
noncomputable section
namespace Ev
open Go
set_option maxRecDepth 100000
set_option maxHeartbeats 1000000
attribute [local irreducible] el StL TnL WpL dz
theorem tz1:ao Tryd.prog 1=some (⟨.func #[] #[] false,[.nilFunc],1,8⟩:TI):=by kernel_rfl
theorem tz2:ao Tryd.prog 2=some (⟨.int .i64,[.int .i64 0],1,8⟩:TI):=by kernel_rfl
theorem tz3:ao Tryd.prog 3=some (⟨.int .i64,[.int .i64 0],1,8⟩:TI):=by kernel_rfl
theorem tz4:ao Tryd.prog 4=some (⟨.bool,[.bool false],1,1⟩:TI):=by kernel_rfl
theorem tz5:ao Tryd.prog 5=some (⟨.int .u8,[.int .u8 0],1,1⟩:TI):=by kernel_rfl
theorem tz6:ao Tryd.prog 6=some (⟨.int .u8,[.int .u8 0],1,1⟩:TI):=by kernel_rfl
theorem tz7:ao Tryd.prog 7=some (⟨.struct (bE Tryd.prog 7),[.int .i64 0,.int .i64 0,.bool false,.int .u8 0],4,24⟩:TI):=by kernel_rfl
theorem tz8:ao Tryd.prog 8=some (⟨.struct (bE Tryd.prog 8),[.int .i64 0,.int .i64 0,.bool false,.int .u8 0],4,24⟩:TI):=by kernel_rfl
theorem VP:ao Tryd.prog 12=some (⟨.int .u64,[.int .u64 0],1,8⟩:TI):=by kernel_rfl
theorem VQ:ao Tryd.prog 15=some (⟨.pointer 149,[.pointer none],1,8⟩:TI):=by kernel_rfl
theorem VR:ao Tryd.prog 16=some (⟨.pointer 152,[.pointer none],1,8⟩:TI):=by kernel_rfl
theorem VS:ao Tryd.prog 17=some (⟨.pointer 162,[.pointer none],1,8⟩:TI):=by kernel_rfl
theorem VT:ao Tryd.prog 18=some (⟨.struct (bE Tryd.prog 18),[.pointer none],1,8⟩:TI):=by kernel_rfl
theorem VU:ao Tryd.prog 19=some (⟨.struct (bE Tryd.prog 19),[.pointer none],1,8⟩:TI):=by kernel_rfl
theorem VV:ao Tryd.prog 21=some (⟨.int .i32,[.int .i32 0],1,4⟩:TI):=by kernel_rfl
theorem Un:ao Tryd.prog 22=some (⟨.int .i64,[.int .i64 0],1,8⟩:TI):=by kernel_rfl
theorem Uo:ao Tryd.prog 23=some (⟨.array 2 5,[.int .u8 0,.int .u8 0],2,2⟩:TI):=by kernel_rfl
theorem VW:ao Tryd.prog 24=some (⟨.slice 87,[.slice none 0 0],1,24⟩:TI):=by kernel_rfl
theorem Uq:ao Tryd.prog 25=some (⟨.slice 66,[.slice none 0 0],1,24⟩:TI):=by kernel_rfl
theorem Ur:ao Tryd.prog 26=some (⟨.slice 50,[.slice none 0 0],1,24⟩:TI):=by kernel_rfl
theorem VX:ao Tryd.prog 27=some (⟨.struct (bE Tryd.prog 27),[.int .i64 0,.int .u8 0,.int .u8 0,.slice none 0 0,.slice none 0 0,.slice none 0 0,.slice none 0 0,.bool false],8,120⟩:TI):=by kernel_rfl
theorem Us:ao Tryd.prog 28=some (⟨.struct (bE Tryd.prog 28),[.int .i64 0,.int .u8 0,.int .u8 0,.slice none 0 0,.slice none 0 0,.slice none 0 0,.slice none 0 0,.bool false],8,120⟩:TI):=by kernel_rfl
theorem VY:ao Tryd.prog 29=some (⟨.func #[22] #[22] false,[.nilFunc],1,8⟩:TI):=by kernel_rfl
theorem Ut:ao Tryd.prog 30=some (⟨.slice 3,[.slice none 0 0],1,24⟩:TI):=by kernel_rfl
theorem Uu:ao Tryd.prog 31=some (⟨.slice 2,[.slice none 0 0],1,24⟩:TI):=by kernel_rfl
theorem VZ:ao Tryd.prog 32=some (⟨.struct (bE Tryd.prog 32),[.int .i64 0,.int .i64 0,.slice none 0 0,.slice none 0 0,.slice none 0 0],5,88⟩:TI):=by kernel_rfl
theorem Uv:ao Tryd.prog 33=some (⟨.struct (bE Tryd.prog 33),[.int .i64 0,.int .i64 0,.slice none 0 0,.slice none 0 0,.slice none 0 0],5,88⟩:TI):=by kernel_rfl
theorem ZM:iX (ao Tryd.prog) (⟨.struct (bE Tryd.prog 33),[.int .i64 0,.int .i64 0,.slice none 0 0,.slice none 0 0,.slice none 0 0],5,88⟩:TI)=some fun i=>([(0,1),(1,1),(2,1),(3,1),(4,1)]:List (Nat×Nat))[i]? :=by kernel_rfl
theorem Wa:ao Tryd.prog 34=some (⟨.func #[] #[33] false,[.nilFunc],1,8⟩:TI):=by kernel_rfl
theorem Wb:ao Tryd.prog 35=some (⟨.struct (bE Tryd.prog 35),[.int .i64 0,.slice none 0 0],2,32⟩:TI):=by kernel_rfl
theorem Uw:ao Tryd.prog 36=some (⟨.struct (bE Tryd.prog 36),[.int .i64 0,.slice none 0 0],2,32⟩:TI):=by kernel_rfl
theorem qy:iX (ao Tryd.prog) (⟨.struct (bE Tryd.prog 36),[.int .i64 0,.slice none 0 0],2,32⟩:TI)=some fun i=>([(0,1),(1,1)]:List (Nat×Nat))[i]? :=by kernel_rfl
theorem Wc:ao Tryd.prog 37=some (⟨.func #[25] #[36] false,[.nilFunc],1,8⟩:TI):=by kernel_rfl
theorem We:ao Tryd.prog 38=some (⟨.func #[] #[26] false,[.nilFunc],1,8⟩:TI):=by kernel_rfl
theorem Wf:ao Tryd.prog 39=some (⟨.struct (bE Tryd.prog 39),[.int .i64 0,.int .i64 0,.slice none 0 0,.slice none 0 0,.slice none 0 0,.slice none 0 0],6,112⟩:TI):=by kernel_rfl
theorem Ux:ao Tryd.prog 40=some (⟨.struct (bE Tryd.prog 40),[.int .i64 0,.int .i64 0,.slice none 0 0,.slice none 0 0,.slice none 0 0,.slice none 0 0],6,112⟩:TI):=by kernel_rfl
theorem Wg:iX (ao Tryd.prog) (⟨.struct (bE Tryd.prog 40),[.int .i64 0,.int .i64 0,.slice none 0 0,.slice none 0 0,.slice none 0 0,.slice none 0 0],6,112⟩:TI)=some fun i=>([(0,1),(1,1),(2,1),(3,1),(4,1),(5,1)]:List (Nat×Nat))[i]? :=by kernel_rfl
theorem Wh:ao Tryd.prog 41=some (⟨.func #[33] #[40] false,[.nilFunc],1,8⟩:TI):=by kernel_rfl
theorem Wi:ao Tryd.prog 42=some (⟨.int .i64,[.int .i64 0],1,8⟩:TI):=by kernel_rfl
theorem Wj:ao Tryd.prog 44=some (⟨.func #[22,40,36,26,4] #[36,42] false,[.nilFunc],1,8⟩:TI):=by kernel_rfl
theorem Wk:ao Tryd.prog 45=some (⟨.func #[22,33,47,26,4] #[36,42] false,[.nilFunc],1,8⟩:TI):=by kernel_rfl
theorem Wl:ao Tryd.prog 46=some (⟨.struct (bE Tryd.prog 46),[.int .i64 0,.slice none 0 0,.slice none 0 0],3,56⟩:TI):=by kernel_rfl
theorem Uy:ao Tryd.prog 47=some (⟨.struct (bE Tryd.prog 47),[.int .i64 0,.slice none 0 0,.slice none 0 0],3,56⟩:TI):=by kernel_rfl
theorem NB:iX (ao Tryd.prog) (⟨.struct (bE Tryd.prog 47),[.int .i64 0,.slice none 0 0,.slice none 0 0],3,56⟩:TI)=some fun i=>([(0,1),(1,1),(2,1)]:List (Nat×Nat))[i]? :=by kernel_rfl
theorem Wm:ao Tryd.prog 48=some (⟨.func #[36] #[47] false,[.nilFunc],1,8⟩:TI):=by kernel_rfl
theorem Wn:ao Tryd.prog 49=some (⟨.func #[22,3,55] #[36,42] false,[.nilFunc],1,8⟩:TI):=by kernel_rfl
theorem Uz:ao Tryd.prog 50=some (⟨.int .u64,[.int .u64 0],1,8⟩:TI):=by kernel_rfl
theorem Wo:ao Tryd.prog 51=some (⟨.struct (bE Tryd.prog 51),[.int .i64 0,.int .u64 0],2,16⟩:TI):=by kernel_rfl
theorem UA:ao Tryd.prog 52=some (⟨.struct (bE Tryd.prog 52),[.int .i64 0,.int .u64 0],2,16⟩:TI):=by kernel_rfl
theorem us:iX (ao Tryd.prog) (⟨.struct (bE Tryd.prog 52),[.int .i64 0,.int .u64 0],2,16⟩:TI)=some fun i=>([(0,1),(1,1)]:List (Nat×Nat))[i]? :=by kernel_rfl
theorem Wp:ao Tryd.prog 53=some (⟨.struct (bE Tryd.prog 53),[.int .i64 0,.int .i64 0,.int .u64 0],3,24⟩:TI):=by kernel_rfl
theorem UB:ao Tryd.prog 54=some (⟨.struct (bE Tryd.prog 54),[.int .i64 0,.int .i64 0,.int .u64 0],3,24⟩:TI):=by kernel_rfl
theorem IQ:iX (ao Tryd.prog) (⟨.struct (bE Tryd.prog 54),[.int .i64 0,.int .i64 0,.int .u64 0],3,24⟩:TI)=some fun i=>([(0,1),(1,2)]:List (Nat×Nat))[i]? :=by kernel_rfl
theorem UC:ao Tryd.prog 55=some (⟨.slice 54,[.slice none 0 0],1,24⟩:TI):=by kernel_rfl
theorem Wq:ao Tryd.prog 56=some (⟨.func #[36,36] #[4] false,[.nilFunc],1,8⟩:TI):=by kernel_rfl
theorem Wr:ao Tryd.prog 57=some (⟨.func #[40,36] #[3] false,[.nilFunc],1,8⟩:TI):=by kernel_rfl
theorem Ws:ao Tryd.prog 58=some (⟨.func #[3,2] #[36] false,[.nilFunc],1,8⟩:TI):=by kernel_rfl
theorem Wt:ao Tryd.prog 59=some (⟨.func #[33] #[3] false,[.nilFunc],1,8⟩:TI):=by kernel_rfl
theorem Wu:ao Tryd.prog 60=some (⟨.func #[28] #[4] false,[.nilFunc],1,8⟩:TI):=by kernel_rfl
theorem Wv:ao Tryd.prog 61=some (⟨.func #[23,24] #[33] false,[.nilFunc],1,8⟩:TI):=by kernel_rfl
theorem Ww:ao Tryd.prog 62=some (⟨.func #[22,2] #[2] false,[.nilFunc],1,8⟩:TI):=by kernel_rfl
theorem Wx:ao Tryd.prog 63=some (⟨.func #[5,25] #[36] false,[.nilFunc],1,8⟩:TI):=by kernel_rfl
theorem Wy:ao Tryd.prog 64=some (⟨.func #[5] #[3] false,[.nilFunc],1,8⟩:TI):=by kernel_rfl
theorem Wz:ao Tryd.prog 65=some (⟨.struct (bE Tryd.prog 65),[.int .i64 0,.int .i64 0],2,16⟩:TI):=by kernel_rfl
theorem UD:ao Tryd.prog 66=some (⟨.struct (bE Tryd.prog 66),[.int .i64 0,.int .i64 0],2,16⟩:TI):=by kernel_rfl
theorem NC:iX (ao Tryd.prog) (⟨.struct (bE Tryd.prog 66),[.int .i64 0,.int .i64 0],2,16⟩:TI)=some fun i=>([(0,1),(1,1)]:List (Nat×Nat))[i]? :=by kernel_rfl
theorem WA:ao Tryd.prog 67=some (⟨.func #[33] #[33] false,[.nilFunc],1,8⟩:TI):=by kernel_rfl
theorem WB:ao Tryd.prog 68=some (⟨.func #[96] #[] false,[.nilFunc],1,8⟩:TI):=by kernel_rfl
theorem WC:ao Tryd.prog 69=some (⟨.func #[96] #[] false,[.nilFunc],1,8⟩:TI):=by kernel_rfl
theorem WD:ao Tryd.prog 70=some (⟨.func #[30] #[69] false,[.nilFunc],1,8⟩:TI):=by kernel_rfl
theorem WE:ao Tryd.prog 72=some (⟨.func #[22,40,36,26,4] #[55,42] false,[.nilFunc],1,8⟩:TI):=by kernel_rfl
theorem WF:ao Tryd.prog 73=some (⟨.func #[40] #[40] false,[.nilFunc],1,8⟩:TI):=by kernel_rfl
theorem WG:ao Tryd.prog 74=some (⟨.func #[22,33,47,26,4] #[55,42] false,[.nilFunc],1,8⟩:TI):=by kernel_rfl
theorem WH:ao Tryd.prog 75=some (⟨.func #[36] #[4] false,[.nilFunc],1,8⟩:TI):=by kernel_rfl
theorem WI:ao Tryd.prog 76=some (⟨.func #[3] #[47] false,[.nilFunc],1,8⟩:TI):=by kernel_rfl
theorem WJ:ao Tryd.prog 77=some (⟨.func #[3,30] #[26] true,[.nilFunc],1,8⟩:TI):=by kernel_rfl
theorem WK:ao Tryd.prog 78=some (⟨.func #[36] #[30] false,[.nilFunc],1,8⟩:TI):=by kernel_rfl
theorem WL:ao Tryd.prog 79=some (⟨.func #[22,3,55] #[42] false,[.nilFunc],1,8⟩:TI):=by kernel_rfl
theorem WM:ao Tryd.prog 81=some (⟨.func #[22,52] #[2,4] false,[.nilFunc],1,8⟩:TI):=by kernel_rfl
theorem WN:ao Tryd.prog 82=some (⟨.func #[22] #[2] false,[.nilFunc],1,8⟩:TI):=by kernel_rfl
theorem WO:ao Tryd.prog 83=some (⟨.func #[25,25] #[4] false,[.nilFunc],1,8⟩:TI):=by kernel_rfl
theorem WP:ao Tryd.prog 84=some (⟨.func #[40,30] #[3] false,[.nilFunc],1,8⟩:TI):=by kernel_rfl
theorem WQ:ao Tryd.prog 85=some (⟨.func #[24] #[24] false,[.nilFunc],1,8⟩:TI):=by kernel_rfl
theorem WR:ao Tryd.prog 86=some (⟨.struct (bE Tryd.prog 86),[.int .i64 0,.int .i64 0,.int .i64 0],3,24⟩:TI):=by kernel_rfl
theorem WS:ao Tryd.prog 87=some (⟨.struct (bE Tryd.prog 87),[.int .i64 0,.int .i64 0,.int .i64 0],3,24⟩:TI):=by kernel_rfl
theorem WT:ao Tryd.prog 89=some (⟨.func #[22,3,3,24] #[33,42] false,[.nilFunc],1,8⟩:TI):=by kernel_rfl
theorem WU:ao Tryd.prog 90=some (⟨.func #[3,3] #[33] false,[.nilFunc],1,8⟩:TI):=by kernel_rfl
theorem WV:ao Tryd.prog 91=some (⟨.func #[22,3,25] #[36,42] false,[.nilFunc],1,8⟩:TI):=by kernel_rfl
theorem WW:ao Tryd.prog 92=some (⟨.func #[30] #[] false,[.nilFunc],1,8⟩:TI):=by kernel_rfl
theorem WX:ao Tryd.prog 93=some (⟨.func #[30] #[30] false,[.nilFunc],1,8⟩:TI):=by kernel_rfl
theorem WY:ao Tryd.prog 95=some (⟨.func #[33,3] #[30,31] false,[.nilFunc],1,8⟩:TI):=by kernel_rfl
theorem WZ:ao Tryd.prog 96=some (⟨.func #[3,3] #[4] false,[.nilFunc],1,8⟩:TI):=by kernel_rfl
theorem Xa:ao Tryd.prog 97=some (⟨.func #[22] #[4] false,[.nilFunc],1,8⟩:TI):=by kernel_rfl
theorem UE:ao Tryd.prog 98=some (⟨.slice 104,[.slice none 0 0],1,24⟩:TI):=by kernel_rfl
theorem Xc:ao Tryd.prog 99=some (⟨.func #[129] #[] false,[.nilFunc],1,8⟩:TI):=by kernel_rfl
theorem SH:ao Tryd.prog 100=some (⟨.func #[129] #[] false,[.nilFunc],1,8⟩:TI):=by kernel_rfl
theorem SI:ao Tryd.prog 101=some (⟨.func #[40,36] #[100] false,[.nilFunc],1,8⟩:TI):=by kernel_rfl
theorem SJ:ao Tryd.prog 102=some (⟨.pointer 104,[.pointer none],1,8⟩:TI):=by kernel_rfl
theorem SK:ao Tryd.prog 103=some (⟨.struct (bE Tryd.prog 103),[.int .i64 0,.int .u64 0,.bool false],3,24⟩:TI):=by kernel_rfl
theorem ND:ao Tryd.prog 104=some (⟨.struct (bE Tryd.prog 104),[.int .i64 0,.int .u64 0,.bool false],3,24⟩:TI):=by kernel_rfl
theorem SM:iX (ao Tryd.prog) (⟨.struct (bE Tryd.prog 104),[.int .i64 0,.int .u64 0,.bool false],3,24⟩:TI)=some fun i=>([(0,2),(2,1)]:List (Nat×Nat))[i]? :=by kernel_rfl
theorem SN:ao Tryd.prog 105=some (⟨.func #[22,2,2] #[52] false,[.nilFunc],1,8⟩:TI):=by kernel_rfl
theorem SO:ao Tryd.prog 106=some (⟨.func #[22,52,52] #[52] false,[.nilFunc],1,8⟩:TI):=by kernel_rfl
theorem SP:ao Tryd.prog 107=some (⟨.func #[26,3] #[4] false,[.nilFunc],1,8⟩:TI):=by kernel_rfl
theorem SQ:ao Tryd.prog 108=some (⟨.func #[40] #[4] false,[.nilFunc],1,8⟩:TI):=by kernel_rfl
theorem SR:ao Tryd.prog 109=some (⟨.func #[47] #[4] false,[.nilFunc],1,8⟩:TI):=by kernel_rfl
theorem NE:ao Tryd.prog 110=some (⟨.func #[3] #[52,4] false,[.nilFunc],1,8⟩:TI):=by kernel_rfl
theorem SS:ao Tryd.prog 111=some (⟨.func #[116] #[] false,[.nilFunc],1,8⟩:TI):=by kernel_rfl
theorem ST:ao Tryd.prog 112=some (⟨.func #[116] #[] false,[.nilFunc],1,8⟩:TI):=by kernel_rfl
theorem SU:ao Tryd.prog 113=some (⟨.func #[3,26,4] #[112] false,[.nilFunc],1,8⟩:TI):=by kernel_rfl
theorem SV:ao Tryd.prog 115=some (⟨.func #[33] #[4] false,[.nilFunc],1,8⟩:TI):=by kernel_rfl
theorem SW:ao Tryd.prog 116=some (⟨.func #[3] #[4] false,[.nilFunc],1,8⟩:TI):=by kernel_rfl
theorem SX:ao Tryd.prog 117=some (⟨.func #[3] #[26] false,[.nilFunc],1,8⟩:TI):=by kernel_rfl
theorem SY:ao Tryd.prog 118=some (⟨.func #[3] #[50] false,[.nilFunc],1,8⟩:TI):=by kernel_rfl
theorem SZ:ao Tryd.prog 119=some (⟨.func #[36] #[36] false,[.nilFunc],1,8⟩:TI):=by kernel_rfl
theorem Ta:ao Tryd.prog 120=some (⟨.func #[52] #[2,4] false,[.nilFunc],1,8⟩:TI):=by kernel_rfl
theorem Tb:ao Tryd.prog 122=some (⟨.func #[40,3] #[3,3] false,[.nilFunc],1,8⟩:TI):=by kernel_rfl
theorem Tc:ao Tryd.prog 123=some (⟨.func #[3,3,24] #[33] false,[.nilFunc],1,8⟩:TI):=by kernel_rfl
theorem NF:ao Tryd.prog 124=some (⟨.slice 126,[.slice none 0 0],1,24⟩:TI):=by kernel_rfl
theorem Td:ao Tryd.prog 125=some (⟨.struct (bE Tryd.prog 125),[.int .i64 0,.int .i64 0,.int .i64 0],3,24⟩:TI):=by kernel_rfl
theorem NG:ao Tryd.prog 126=some (⟨.struct (bE Tryd.prog 126),[.int .i64 0,.int .i64 0,.int .i64 0],3,24⟩:TI):=by kernel_rfl
theorem Xd:iX (ao Tryd.prog) (⟨.struct (bE Tryd.prog 126),[.int .i64 0,.int .i64 0,.int .i64 0],3,24⟩:TI)=some fun i=>([(0,1),(1,1),(2,1)]:List (Nat×Nat))[i]? :=by kernel_rfl
theorem Te:ao Tryd.prog 128=some (⟨.func #[22,124] #[124,42] false,[.nilFunc],1,8⟩:TI):=by kernel_rfl
theorem Tf:ao Tryd.prog 129=some (⟨.func #[3,2] #[4] false,[.nilFunc],1,8⟩:TI):=by kernel_rfl
theorem Tg:ao Tryd.prog 130=some (⟨.func #[2] #[52] false,[.nilFunc],1,8⟩:TI):=by kernel_rfl
theorem Ti:ao Tryd.prog 131=some (⟨.func #[52,52] #[52] false,[.nilFunc],1,8⟩:TI):=by kernel_rfl
theorem Tj:ao Tryd.prog 132=some (⟨.func #[4] #[52] false,[.nilFunc],1,8⟩:TI):=by kernel_rfl
theorem Tl:ao Tryd.prog 133=some (⟨.func #[2,2] #[52] false,[.nilFunc],1,8⟩:TI):=by kernel_rfl
theorem Tm:ao Tryd.prog 134=some (⟨.func #[30,3] #[4] false,[.nilFunc],1,8⟩:TI):=by kernel_rfl
theorem Tn:ao Tryd.prog 135=some (⟨.func #[3] #[3] false,[.nilFunc],1,8⟩:TI):=by kernel_rfl
theorem To:ao Tryd.prog 136=some (⟨.int .u64,[.int .u64 0],1,8⟩:TI):=by kernel_rfl
theorem Tp:ao Tryd.prog 137=some (⟨.slice 52,[.slice none 0 0],1,24⟩:TI):=by kernel_rfl
theorem Tq:ao Tryd.prog 138=some (⟨.func #[126,126] #[4] false,[.nilFunc],1,8⟩:TI):=by kernel_rfl
theorem Tr:ao Tryd.prog 139=some (⟨.func #[52,52] #[3] false,[.nilFunc],1,8⟩:TI):=by kernel_rfl
theorem NH:ao Tryd.prog 140=some (⟨.array 4 50,[.int .u64 0,.int .u64 0,.int .u64 0,.int .u64 0],4,32⟩:TI):=by kernel_rfl
theorem Ts:ao Tryd.prog 141=some (⟨.func #[50,50] #[140] false,[.nilFunc],1,8⟩:TI):=by kernel_rfl
theorem Tt:ao Tryd.prog 142=some (⟨.func #[52,3] #[52] false,[.nilFunc],1,8⟩:TI):=by kernel_rfl
theorem Tu:ao Tryd.prog 143=some (⟨.func #[26,3] #[3] false,[.nilFunc],1,8⟩:TI):=by kernel_rfl
theorem Tv:ao Tryd.prog 144=some (⟨.func #[50] #[3] false,[.nilFunc],1,8⟩:TI):=by kernel_rfl
theorem Tw:ao Tryd.prog 145=some (⟨.func #[26] #[112] false,[.nilFunc],1,8⟩:TI):=by kernel_rfl
theorem Tx:ao Tryd.prog 150=some (⟨.array 0 16,[],0,0⟩:TI):=by kernel_rfl
theorem Tz:ao Tryd.prog 151=some (⟨.struct (bE Tryd.prog 151),[],0,0⟩:TI):=by kernel_rfl
theorem TA:ao Tryd.prog 152=some (⟨.struct (bE Tryd.prog 152),[],0,0⟩:TI):=by kernel_rfl
theorem TB:ao Tryd.prog 154=some (⟨.int .u32,[.int .u32 0],1,4⟩:TI):=by kernel_rfl
theorem TC:ao Tryd.prog 155=some (⟨.int .u8,[.int .u8 0],1,1⟩:TI):=by kernel_rfl
theorem TE:ao Tryd.prog 156=some (⟨.int .u8,[.int .u8 0],1,1⟩:TI):=by kernel_rfl
theorem TF:ao Tryd.prog 157=some (⟨.func #[163,163] #[4] false,[.nilFunc],1,8⟩:TI):=by kernel_rfl
theorem TG:ao Tryd.prog 158=some (⟨.pointer 5,[.pointer none],1,8⟩:TI):=by kernel_rfl
theorem TH:ao Tryd.prog 159=some (⟨.int .i32,[.int .i32 0],1,4⟩:TI):=by kernel_rfl
theorem TJ:ao Tryd.prog 160=some (⟨.int .i32,[.int .i32 0],1,4⟩:TI):=by kernel_rfl
theorem TK:ao Tryd.prog 161=some (⟨.struct (bE Tryd.prog 161),[.int .u64 0,.int .u64 0,.int .u32 0,.int .u8 0,.int .u8 0,.int .u8 0,.int .u8 0,.nilFunc,.pointer none,.int .i32 0,.int .i32 0],11,48⟩:TI):=by kernel_rfl
theorem TL:ao Tryd.prog 162=some (⟨.struct (bE Tryd.prog 162),[.int .u64 0,.int .u64 0,.int .u32 0,.int .u8 0,.int .u8 0,.int .u8 0,.int .u8 0,.nilFunc,.pointer none,.int .i32 0,.int .i32 0],11,48⟩:TI):=by kernel_rfl
theorem sz1:bX (ao Tryd.prog) 1=some (1,false):=by kernel_rfl
theorem sz2:bX (ao Tryd.prog) 2=some (1,false):=by kernel_rfl
theorem sz3:bX (ao Tryd.prog) 3=some (1,false):=by kernel_rfl
theorem sz4:bX (ao Tryd.prog) 4=some (1,false):=by kernel_rfl
theorem sz5:bX (ao Tryd.prog) 5=some (1,false):=by kernel_rfl
theorem vO:bX (ao Tryd.prog) 22=some (1,false):=by kernel_rfl
theorem ZN:bX (ao Tryd.prog) 23=some (2,true):=by kernel_rfl
theorem ZO:bX (ao Tryd.prog) 24=some (1,false):=by kernel_rfl
theorem ni:bX (ao Tryd.prog) 25=some (1,false):=by kernel_rfl
theorem el25:dP (ao Tryd.prog) 25=some 2:=by kernel_rfl
theorem qz:bX (ao Tryd.prog) 26=some (1,false):=by kernel_rfl
theorem el26:dP (ao Tryd.prog) 26=some 1:=by kernel_rfl
theorem UF:bX (ao Tryd.prog) 28=some (8,true):=by kernel_rfl
theorem IR:fieldAt (ao Tryd.prog) 28 0=some (0,1,false):=by kernel_rfl
theorem NI:fieldAt (ao Tryd.prog) 28 1=some (1,2,true):=by kernel_rfl
theorem UG:fieldAt (ao Tryd.prog) 28 2=some (3,1,false):=by kernel_rfl
theorem UH:fieldAt (ao Tryd.prog) 28 3=some (4,1,false):=by kernel_rfl
theorem IS:fieldAt (ao Tryd.prog) 28 5=some (6,1,false):=by kernel_rfl
theorem NJ:fieldAt (ao Tryd.prog) 28 6=some (7,1,false):=by kernel_rfl
theorem hZ:bX (ao Tryd.prog) 30=some (1,false):=by kernel_rfl
theorem el30:dP (ao Tryd.prog) 30=some 1:=by kernel_rfl
theorem nj:bX (ao Tryd.prog) 31=some (1,false):=by kernel_rfl
theorem el31:dP (ao Tryd.prog) 31=some 1:=by kernel_rfl
theorem oq:bX (ao Tryd.prog) 33=some (5,true):=by kernel_rfl
theorem qJ:fieldAt (ao Tryd.prog) 33 0=some (0,1,false):=by kernel_rfl
theorem vP:fieldAt (ao Tryd.prog) 33 1=some (1,1,false):=by kernel_rfl
theorem jV:fieldAt (ao Tryd.prog) 33 2=some (2,1,false):=by kernel_rfl
theorem sS:fieldAt (ao Tryd.prog) 33 3=some (3,1,false):=by kernel_rfl
theorem pw:fieldAt (ao Tryd.prog) 33 4=some (4,1,false):=by kernel_rfl
theorem cj:bX (ao Tryd.prog) 36=some (2,true):=by kernel_rfl
theorem jW:fieldAt (ao Tryd.prog) 36 0=some (0,1,false):=by kernel_rfl
theorem eV:fieldAt (ao Tryd.prog) 36 1=some (1,1,false):=by kernel_rfl
theorem nQ:bX (ao Tryd.prog) 40=some (6,true):=by kernel_rfl
theorem IT:fieldAt (ao Tryd.prog) 40 0=some (0,1,false):=by kernel_rfl
theorem NK:fieldAt (ao Tryd.prog) 40 1=some (1,1,false):=by kernel_rfl
theorem vQ:fieldAt (ao Tryd.prog) 40 2=some (2,1,false):=by kernel_rfl
theorem Eo:fieldAt (ao Tryd.prog) 40 3=some (3,1,false):=by kernel_rfl
theorem UI:fieldAt (ao Tryd.prog) 40 4=some (4,1,false):=by kernel_rfl
theorem UJ:fieldAt (ao Tryd.prog) 40 5=some (5,1,false):=by kernel_rfl
theorem jc:bX (ao Tryd.prog) 47=some (3,true):=by kernel_rfl
theorem Ep:fieldAt (ao Tryd.prog) 47 0=some (0,1,false):=by kernel_rfl
theorem lJ:fieldAt (ao Tryd.prog) 47 1=some (1,1,false):=by kernel_rfl
theorem lL:fieldAt (ao Tryd.prog) 47 2=some (2,1,false):=by kernel_rfl
theorem px:bX (ao Tryd.prog) 50=some (1,false):=by kernel_rfl
theorem aV:bX (ao Tryd.prog) 52=some (2,true):=by kernel_rfl
theorem jt:fieldAt (ao Tryd.prog) 52 0=some (0,1,false):=by kernel_rfl
theorem nR:fieldAt (ao Tryd.prog) 52 1=some (1,1,false):=by kernel_rfl
theorem QO:bX (ao Tryd.prog) 54=some (3,true):=by kernel_rfl
theorem yX:fieldAt (ao Tryd.prog) 54 0=some (0,1,false):=by kernel_rfl
theorem UK:fieldAt (ao Tryd.prog) 54 1=some (1,2,true):=by kernel_rfl
theorem Mm:bX (ao Tryd.prog) 55=some (1,false):=by kernel_rfl
theorem el55:dP (ao Tryd.prog) 55=some 3:=by kernel_rfl
theorem ou:bX (ao Tryd.prog) 66=some (2,true):=by kernel_rfl
theorem gO:fieldAt (ao Tryd.prog) 66 0=some (0,1,false):=by kernel_rfl
theorem nS:fieldAt (ao Tryd.prog) 66 1=some (1,1,false):=by kernel_rfl
theorem NL:bX (ao Tryd.prog) 98=some (1,false):=by kernel_rfl
theorem UL:dP (ao Tryd.prog) 98=some 3:=by kernel_rfl
theorem Ce:bX (ao Tryd.prog) 104=some (3,true):=by kernel_rfl
theorem ut:fieldAt (ao Tryd.prog) 104 0=some (0,2,true):=by kernel_rfl
theorem Er:fieldAt (ao Tryd.prog) 104 1=some (2,1,false):=by kernel_rfl
theorem Cf:bX (ao Tryd.prog) 110=some (1,false):=by kernel_rfl
theorem el124:dP (ao Tryd.prog) 124=some 3:=by kernel_rfl
theorem QP:fieldAt (ao Tryd.prog) 126 1=some (1,1,false):=by kernel_rfl
theorem QQ:fieldAt (ao Tryd.prog) 126 2=some (2,1,false):=by kernel_rfl
theorem NM:bX (ao Tryd.prog) 140=some (4,true):=by kernel_rfl
theorem IU:Tryd.prog.follows .mixedOrders=true:=by kernel_rfl
theorem IV:Fl Tryd.prog=true:=by kernel_rfl
def Gh:Ax:=(fR (fR (fR (fR (fR (fR (fR (fun _=>none) 92 tzF) 22 (qF 22)) 16 (qF 16)) 51 (qF 51)) 36 (qF 36)) 17 (qF 17)) 65 (qF 65))
theorem yB:HO Tryd.prog Gh:=(bY (bY (bY (bY (bY (bY (bY (CD _) XE) QI) QJ) QK) QL) QM) QN)
def gn:List TD→Option (Kind×List TD):=fun _=>none
def Gi:Ax:=(fR (fR (fR (fR (fR (fR (fR Gh 23 gn) 29 gn) 40 gn) 42 gn) 47 gn) 54 gn) 93 gn)
theorem yD:HO Tryd.prog Gi:=(bY (bY (bY (bY (bY (bY (bY yB fun vs kind rs h=>by simp [gn]at h) fun vs kind rs h=>by simp [gn]at h) fun vs kind rs h=>by simp [gn]at h) fun vs kind rs h=>by simp [gn]at h) fun vs kind rs h=>by simp [gn]at h) fun vs kind rs h=>by simp [gn]at h) fun vs kind rs h=>by simp [gn]at h)
def E1:Env:=HN Tryd.prog Gi
theorem dR:E1.Ok:=HP IU IV yD
theorem bp:E1.fn=aU Tryd.prog:=OZ _ _
theorem Xe(m:Nat){n1:Int}{out:Int}(h:TZ n1=some out):RunsP E1 (m+1) 92 [.one (iT .u64 n1)] (.fresh,[.one (iT .i64 out)]):=by
 unfold TZ at h;split at h
 ·rename_i hx;obtain rfl:=Option.some.inj h;exact mU (F:=tzF) rfl (by show tzF [.one (.v (.int .u64 n1))]=_;unfold tzF;simp only;exact if_pos hx)
 ·simp at h
theorem ZP:E1.ax 23=some fun _=>none:=rfl
theorem ZQ:E1.ax 29=some fun _=>none:=rfl
theorem Xf:E1.ax 47=some fun _=>none:=rfl
theorem Xg:E1.ax 54=some fun _=>none:=rfl
theorem ZR:E1.ax 93=some fun _=>none:=rfl
theorem ty1:E1.ti 1=some (⟨.func #[] #[] false,[.nilFunc],1,8⟩:TI):=tz1
theorem ty2:E1.ti 2=some (⟨.int .i64,[.int .i64 0],1,8⟩:TI):=tz2
theorem ty3:E1.ti 3=some (⟨.int .i64,[.int .i64 0],1,8⟩:TI):=tz3
theorem ty4:E1.ti 4=some (⟨.bool,[.bool false],1,1⟩:TI):=tz4
theorem ty5:E1.ti 5=some (⟨.int .u8,[.int .u8 0],1,1⟩:TI):=tz5
theorem Xh:E1.ti 22=some (⟨.int .i64,[.int .i64 0],1,8⟩:TI):=Un
theorem ZS:E1.ti 23=some (⟨.array 2 5,[.int .u8 0,.int .u8 0],2,2⟩:TI):=Uo
theorem kA:E1.ti 25=some (⟨.slice 66,[.slice none 0 0],1,24⟩:TI):=Uq
theorem Bw:E1.ti 26=some (⟨.slice 50,[.slice none 0 0],1,24⟩:TI):=Ur
theorem QR:E1.ti 28=some (⟨.struct (bE Tryd.prog 28),[.int .i64 0,.int .u8 0,.int .u8 0,.slice none 0 0,.slice none 0 0,.slice none 0 0,.slice none 0 0,.bool false],8,120⟩:TI):=Us
theorem oy:E1.ti 30=some (⟨.slice 3,[.slice none 0 0],1,24⟩:TI):=Ut
theorem IW:E1.ti 31=some (⟨.slice 2,[.slice none 0 0],1,24⟩:TI):=Uu
theorem yY:E1.ti 33=some (⟨.struct (bE Tryd.prog 33),[.int .i64 0,.int .i64 0,.slice none 0 0,.slice none 0 0,.slice none 0 0],5,88⟩:TI):=Uv
theorem eT:E1.ti 36=some (⟨.struct (bE Tryd.prog 36),[.int .i64 0,.slice none 0 0],2,32⟩:TI):=Uw
theorem xR:E1.ti 40=some (⟨.struct (bE Tryd.prog 40),[.int .i64 0,.int .i64 0,.slice none 0 0,.slice none 0 0,.slice none 0 0,.slice none 0 0],6,112⟩:TI):=Ux
theorem vR:E1.ti 47=some (⟨.struct (bE Tryd.prog 47),[.int .i64 0,.slice none 0 0,.slice none 0 0],3,56⟩:TI):=Uy
theorem IX:E1.ti 50=some (⟨.int .u64,[.int .u64 0],1,8⟩:TI):=Uz
theorem eU:E1.ti 52=some (⟨.struct (bE Tryd.prog 52),[.int .i64 0,.int .u64 0],2,16⟩:TI):=UA
theorem rW:E1.ti 54=some (⟨.struct (bE Tryd.prog 54),[.int .i64 0,.int .i64 0,.int .u64 0],3,24⟩:TI):=UB
theorem qA:E1.ti 55=some (⟨.slice 54,[.slice none 0 0],1,24⟩:TI):=UC
theorem py:E1.ti 66=some (⟨.struct (bE Tryd.prog 66),[.int .i64 0,.int .i64 0],2,16⟩:TI):=UD
theorem Mn:E1.ti 98=some (⟨.slice 104,[.slice none 0 0],1,24⟩:TI):=UE
theorem Cg:E1.ti 104=some (⟨.struct (bE Tryd.prog 104),[.int .i64 0,.int .u64 0,.bool false],3,24⟩:TI):=ND
theorem TM:E1.ti 110=some (⟨.func #[3] #[52,4] false,[.nilFunc],1,8⟩:TI):=NE
theorem NN:E1.ti 124=some (⟨.slice 126,[.slice none 0 0],1,24⟩:TI):=NF
theorem TN:E1.ti 126=some (⟨.struct (bE Tryd.prog 126),[.int .i64 0,.int .i64 0,.int .i64 0],3,24⟩:TI):=NG
theorem yZ:E1.ti 140=some (⟨.array 4 50,[.int .u64 0,.int .u64 0,.int .u64 0,.int .u64 0],4,32⟩:TI):=NH
end Ev
end
noncomputable section
namespace Ev
open Go
set_option maxRecDepth 100000
set_option maxHeartbeats 1000000
attribute [local irreducible] el StL TnL WpL dz
def r3(x:Int):List T:= [iT .i64 x]
def r2(x:Int):List T:= [iT .i64 x]
def r32(x:Int×Int×Sl (Int)×Sl (Int)×Sl (Int)):List T:= [iT .i64 x.1,iT .i64 x.2.1,Sl.t r3 x.2.2.1,Sl.t r3 x.2.2.2.1,Sl.t r2 x.2.2.2.2]
def r86(x:Int×Int×Int):List T:= [iT .i64 x.1,iT .i64 x.2.1,iT .i64 x.2.2]
def r65(x:Int×Int):List T:= [iT .i64 x.1,iT .i64 x.2]
def r50(x:Int):List T:= [iT .u64 x]
def r27(x:Int×(Int×Int)×(Sl (Int×Int×Int))×(Sl (Int×Int))×(Sl (Int×Int))×Sl (Int)×Bool):List T:= [iT .i64 x.1,iT .u8 x.2.1.1,iT .u8 x.2.1.2,Sl.t r86 x.2.2.1,Sl.t r65 x.2.2.2.1,Sl.t r65 x.2.2.2.2.1,Sl.t r50 x.2.2.2.2.2.1,bT x.2.2.2.2.2.2]
def r35(x:Int×(Sl (Int×Int))):List T:= [iT .i64 x.1,Sl.t r65 x.2]
def nT(x:Int×Int×Int):List T:= [iT .i64 x.1,iT .i64 x.2.1,iT .i64 x.2.2]
def r39(x:Int×Int×Sl (Int)×Sl (Int)×Sl (Int)×Sl (Int)):List T:= [iT .i64 x.1,iT .i64 x.2.1,Sl.t r3 x.2.2.1,Sl.t r3 x.2.2.2.1,Sl.t r3 x.2.2.2.2.1,Sl.t r2 x.2.2.2.2.2]
def r51(x:Int×Int):List T:= [iT .i64 x.1,iT .u64 x.2]
def ZT(x:Int×Int×Int×Int):List T:= [iT .u64 x.1,iT .u64 x.2.1,iT .u64 x.2.2.1,iT .u64 x.2.2.2]
def r53(x:Int×(Int×Int)):List T:= [iT .i64 x.1,iT .i64 x.2.1,iT .u64 x.2.2]
def qB(x:(Int×Int)×Bool):List T:= [iT .i64 x.1.1,iT .u64 x.1.2,bT x.2]
def r46(x:Int×Sl (Int)×Sl (Int)):List T:= [iT .i64 x.1,Sl.t r50 x.2.1,Sl.t r2 x.2.2]
def r23(x:Int×Int):List T:= [iT .u8 x.1,iT .u8 x.2]
theorem pz(a:Int):az Tryd.prog (Go.convert 2 50 (.int .i64 a))=some (.int .u64 (IntKind.u64.wrap a)):=by kernel_rfl
theorem Mo(a:Int):az Tryd.prog (Go.convert 3 5 (.int .i64 a))=some (.int .u8 (IntKind.u8.wrap a)):=by kernel_rfl
theorem jC(a:Int):az Tryd.prog (Go.convert 3 136 (.int .i64 a))=some (.int .u64 (IntKind.u64.wrap a)):=by kernel_rfl
theorem GC(a:Int):az Tryd.prog (Go.convert 5 3 (.int .u8 a))=some (.int .i64 (IntKind.i64.wrap a)):=by kernel_rfl
theorem pA(a:Int):az Tryd.prog (Go.convert 50 2 (.int .u64 a))=some (.int .i64 (IntKind.i64.wrap a)):=by kernel_rfl
def jb(x0:Int×Int×Sl (Int)×Sl (Int)×Sl (Int)):Option (Int×Int×Sl (Int)×Sl (Int)×Sl (Int)):=K.jb (x0)
theorem IY(m:Nat){x0:Int×Int×Sl (Int)×Sl (Int)×Sl (Int)}{out:Int×Int×Sl (Int)×Sl (Int)×Sl (Int)}(h:jb x0=some out):RunsP E1 (m+1) 22 [.agg (r32 x0)] (.fresh,[.agg (r32 out)]):=mU (F:=qF 22) rfl (jv (K.GB 45 (x0) out h))
def gK(x0:Int×Int×Sl (Int)×Sl (Int)×Sl (Int)):Option (Int):=K.gK (x0)
theorem GD(m:Nat){x0:Int×Int×Sl (Int)×Sl (Int)×Sl (Int)}{out:Int}(h:gK x0=some out):RunsP E1 (m+1) 16 [.agg (r32 x0)] (.fresh,[.one (iT .i64 out)]):=mU (F:=qF 16) rfl (jv (K.En 51 (x0) out h))
def dJ(x0:Int×Int×Sl (Int)×Sl (Int)×Sl (Int)×Sl (Int)):Option (Bool):=K.dJ (x0)
theorem Es(m:Nat){x0:Int×Int×Sl (Int)×Sl (Int)×Sl (Int)×Sl (Int)}{out:Bool}(h:dJ x0=some out):RunsP E1 (m+1) 51 [.agg (r39 x0)] (.fresh,[.one (bT out)]):=mU (F:=qF 51) rfl (jv (K.sr 58 (x0) out h))
def fV(x0:Int×Int×Sl (Int)×Sl (Int)×Sl (Int)×Sl (Int))(x1:Sl (Int)):Option (Int):=K.fV (x0,x1)
theorem xc(m:Nat){x0:Int×Int×Sl (Int)×Sl (Int)×Sl (Int)×Sl (Int)}{x1:Sl (Int)}{out:Int}(h:fV x0 x1=some out):RunsP E1 (m+1) 36 [.agg (r39 x0),.one (Sl.t r3 x1)] (.fresh,[.one (iT .i64 out)]):=mU (F:=qF 36) rfl (jv (K.Em 56 (x0,x1) out h))
def fJ(x0:Int×Int)(x1:Sl (Int×Int×Int)):Option (Int×Int×Sl (Int)×Sl (Int)×Sl (Int)):=K.fJ (x0,x1)
theorem Et(m:Nat){x0:Int×Int}{x1:Sl (Int×Int×Int)}{out:Int×Int×Sl (Int)×Sl (Int)×Sl (Int)}(h:fJ x0 x1=some out):RunsP E1 (m+1) 17 [.agg (r23 x0),.one (Sl.t r86 x1)] (.fresh,[.agg (r32 out)]):=mU (F:=qF 17) rfl (jv (K.Bm 45 (x0,x1) out h))
def cE(x0:Int)(x1:Sl (Int×Int×Int)):Option ((Sl (Int×Int×Int))×(Int)):=K.cE (x0,x1)
theorem xS(m:Nat){x0:Int}{x1:Sl (Int×Int×Int)}{out:(Sl (Int×Int×Int))×(Int)}(h:cE x0 x1=some out):RunsP E1 (m+1) 65 [.one (iT .i64 x0),.one (Sl.t nT x1)] (.fresh,[.one (Sl.t nT out.1),.one (iT .i64 out.2)]):=mU (F:=qF 65) rfl (jv (K.oo 57 (x0,x1) out h))
end Ev
end
noncomputable section
namespace Ev
open Go
set_option maxRecDepth 100000
set_option maxHeartbeats 1000000
attribute [local irreducible] el StL TnL WpL dz
theorem GE(x y:Operand)(a0 b0 a1 b1:Int):az Tryd.prog (do eqGuard .eql 52 x y (.agg #[.int .i64 a0,.int .u64 a1]) (.agg #[.int .i64 b0,.int .u64 b1]);binOp .eql 52 (.agg #[.int .i64 a0,.int .u64 a1]) (.agg #[.int .i64 b0,.int .u64 b1]))=some (.bool ((a0==b0 &&(a1==b1 && true)))):=by
 refine Id (by kernel_rfl) ((mY 9999 52 #[.int .i64 a0,.int .u64 a1] #[.int .i64 b0,.int .u64 b1] (fs:=bE Tryd.prog 51) (by kernel_rfl) (by kernel_rfl)).trans ?_);rw [show(bE Tryd.prog 51).toList= [fld Tryd.prog 51 0,fld Tryd.prog 51 1]by kernel_rfl];exact((gM (k:= .i64) (k':= .i64) (by kernel_rfl) (by kernel_rfl) (by kernel_rfl) (by kernel_rfl)).trans (oc ((gM (k:= .u64) (k':= .u64) (by kernel_rfl) (by kernel_rfl) (by kernel_rfl) (by kernel_rfl)).trans (oc ly))))
theorem IZ(x y:Operand){a0 b0 a1 b1:Int}(h:a0=b0∧a1=b1):az Tryd.prog (do eqGuard .eql 52 x y (.agg #[.int .i64 a0,.int .u64 a1]) (.agg #[.int .i64 b0,.int .u64 b1]);binOp .eql 52 (.agg #[.int .i64 a0,.int .u64 a1]) (.agg #[.int .i64 b0,.int .u64 b1]))=some (.bool true):=by rw [GE];simp [h]
theorem Ja(x y:Operand){a0 b0 a1 b1:Int}(h:¬(a0=b0∧a1=b1)):az Tryd.prog (do eqGuard .eql 52 x y (.agg #[.int .i64 a0,.int .u64 a1]) (.agg #[.int .i64 b0,.int .u64 b1]);binOp .eql 52 (.agg #[.int .i64 a0,.int .u64 a1]) (.agg #[.int .i64 b0,.int .u64 b1]))=some (.bool false):=by rw [GE];congr 2;revert h;by_cases e0:a0=b0<;>by_cases e1:a1=b1<;>simp_all
theorem fS(x y:Operand)(a b:Bool):az Tryd.prog (do eqGuard .neq 4 x y (.bool a) (.bool b);binOp .neq 4 (.bool a) (.bool b))=some (.bool (a !=b)):=by cases a<;>cases b<;>kernel_rfl
theorem GF(x y:Operand)(a0 b0 a1 b1:Int):az Tryd.prog (do eqGuard .neq 52 x y (.agg #[.int .i64 a0,.int .u64 a1]) (.agg #[.int .i64 b0,.int .u64 b1]);binOp .neq 52 (.agg #[.int .i64 a0,.int .u64 a1]) (.agg #[.int .i64 b0,.int .u64 b1]))=some (.bool (!(a0==b0 &&(a1==b1 && true)))):=by
 refine Al (by kernel_rfl) ((mY 9999 52 #[.int .i64 a0,.int .u64 a1] #[.int .i64 b0,.int .u64 b1] (fs:=bE Tryd.prog 51) (by kernel_rfl) (by kernel_rfl)).trans ?_);rw [show(bE Tryd.prog 51).toList= [fld Tryd.prog 51 0,fld Tryd.prog 51 1]by kernel_rfl];exact((gM (k:= .i64) (k':= .i64) (by kernel_rfl) (by kernel_rfl) (by kernel_rfl) (by kernel_rfl)).trans (oc ((gM (k:= .u64) (k':= .u64) (by kernel_rfl) (by kernel_rfl) (by kernel_rfl) (by kernel_rfl)).trans (oc ly))))
theorem sT(x y:Operand){a0 b0 a1 b1:Int}(h:a0=b0∧a1=b1):az Tryd.prog (do eqGuard .neq 52 x y (.agg #[.int .i64 a0,.int .u64 a1]) (.agg #[.int .i64 b0,.int .u64 b1]);binOp .neq 52 (.agg #[.int .i64 a0,.int .u64 a1]) (.agg #[.int .i64 b0,.int .u64 b1]))=some (.bool false):=by rw [GF];simp [h]
theorem sU(x y:Operand){a0 b0 a1 b1:Int}(h:¬(a0=b0∧a1=b1)):az Tryd.prog (do eqGuard .neq 52 x y (.agg #[.int .i64 a0,.int .u64 a1]) (.agg #[.int .i64 b0,.int .u64 b1]);binOp .neq 52 (.agg #[.int .i64 a0,.int .u64 a1]) (.agg #[.int .i64 b0,.int .u64 b1]))=some (.bool true):=by rw [GF];congr 2;revert h;by_cases e0:a0=b0<;>by_cases e1:a1=b1<;>simp_all
theorem GG(x y:Operand)(a0 b0 a1 b1:Int):az Tryd.prog (do eqGuard .neq 66 x y (.agg #[.int .i64 a0,.int .i64 a1]) (.agg #[.int .i64 b0,.int .i64 b1]);binOp .neq 66 (.agg #[.int .i64 a0,.int .i64 a1]) (.agg #[.int .i64 b0,.int .i64 b1]))=some (.bool (!(a0==b0 &&(a1==b1 && true)))):=by
 refine Al (by kernel_rfl) ((mY 9999 66 #[.int .i64 a0,.int .i64 a1] #[.int .i64 b0,.int .i64 b1] (fs:=bE Tryd.prog 65) (by kernel_rfl) (by kernel_rfl)).trans ?_);rw [show(bE Tryd.prog 65).toList= [fld Tryd.prog 65 0,fld Tryd.prog 65 1]by kernel_rfl];exact((gM (k:= .i64) (k':= .i64) (by kernel_rfl) (by kernel_rfl) (by kernel_rfl) (by kernel_rfl)).trans (oc ((gM (k:= .i64) (k':= .i64) (by kernel_rfl) (by kernel_rfl) (by kernel_rfl) (by kernel_rfl)).trans (oc ly))))
theorem Jb(x y:Operand){a0 b0 a1 b1:Int}(h:a0=b0∧a1=b1):az Tryd.prog (do eqGuard .neq 66 x y (.agg #[.int .i64 a0,.int .i64 a1]) (.agg #[.int .i64 b0,.int .i64 b1]);binOp .neq 66 (.agg #[.int .i64 a0,.int .i64 a1]) (.agg #[.int .i64 b0,.int .i64 b1]))=some (.bool false):=by rw [GG];simp [h]
theorem Jc(x y:Operand){a0 b0 a1 b1:Int}(h:¬(a0=b0∧a1=b1)):az Tryd.prog (do eqGuard .neq 66 x y (.agg #[.int .i64 a0,.int .i64 a1]) (.agg #[.int .i64 b0,.int .i64 b1]);binOp .neq 66 (.agg #[.int .i64 a0,.int .i64 a1]) (.agg #[.int .i64 b0,.int .i64 b1]))=some (.bool true):=by rw [GG];congr 2;revert h;by_cases e0:a0=b0<;>by_cases e1:a1=b1<;>simp_all
end Ev
end
end Go.Proofs.YtgefmokmjdeecaaDoor
