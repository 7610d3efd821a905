/- Texts of a claim, joined. -/
import Derived.Test.YtoamaaicfjkmhaaZT13
set_option linter.unusedVariables false
set_option linter.unusedSimpArgs false
namespace Go.Proofs.Ytoamaaicfjkmhaa
noncomputable section
namespace Ev
namespace K
open Go Go.RowKit
set_option maxRecDepth 100000
set_option maxHeartbeats 1000000
def Ls:Ax:=(az (az (az (az (az (λ_=>none) 39 (mv Sm.Eg.ins .fresh Sm.Eg.outs Sm.Eg.fn)) 37 (mv Sm.Be.ins .fresh Sm.Be.outs Sm.Be.fn)) 14 (mv Sm.Dc.ins .fresh Sm.Dc.outs Sm.Dc.fn)) 8 (mv Sm.Dm.ins .fresh Sm.Dm.outs Sm.Dm.fn)) 12 (mv Sm.Bo.ins .fresh Sm.Bo.outs Sm.Bo.fn))
theorem Hb:Ao Try.prog Ls:=(ai (ai (ai (ai (ai (wE _) (pg Sm.Eg.enters Sm.Eg.pure_ok)) (pg Sm.Be.enters Sm.Be.pure_ok)) (pg Sm.Dc.enters Sm.Dc.pure_ok)) (pg Sm.Dm.enters Sm.Dm.pure_ok)) (pg Sm.Bo.enters Sm.Bo.pure_ok))
def Hc:Ax:=(az (az (az (az (az (az (az (az (az (az (az (az (az (az (az (az (az (az (az (az (az (az (az (az (az (az (az (az (az (az (az (az (az (az (az Ls 24 au) 32 au) 35 au) 44 au) 51 au) 52 au) 54 au) 55 au) 57 au) 59 au) 61 au) 62 au) 69 au) 76 au) 78 au) 79 au) 86 au) 88 au) 89 au) 91 au) 93 au) 95 au) 96 au) 97 au) 98 au) 99 au) 100 au) 101 au) 102 au) 105 au) 106 au) 107 au) 110 au) 111 au) 112 au)
theorem zR:Ao Try.prog Hc:=(ai (ai (ai (ai (ai (ai (ai (ai (ai (ai (ai (ai (ai (ai (ai (ai (ai (ai (ai (ai (ai (ai (ai (ai (ai (ai (ai (ai (ai (ai (ai (ai (ai (ai (ai Hb λvs kind rs h=>by simp [au]at h) λvs kind rs h=>by simp [au]at h) λvs kind rs h=>by simp [au]at h) λvs kind rs h=>by simp [au]at h) λvs kind rs h=>by simp [au]at h) λvs kind rs h=>by simp [au]at h) λvs kind rs h=>by simp [au]at h) λvs kind rs h=>by simp [au]at h) λvs kind rs h=>by simp [au]at h) λvs kind rs h=>by simp [au]at h) λvs kind rs h=>by simp [au]at h) λvs kind rs h=>by simp [au]at h) λvs kind rs h=>by simp [au]at h) λvs kind rs h=>by simp [au]at h) λvs kind rs h=>by simp [au]at h) λvs kind rs h=>by simp [au]at h) λvs kind rs h=>by simp [au]at h) λvs kind rs h=>by simp [au]at h) λvs kind rs h=>by simp [au]at h) λvs kind rs h=>by simp [au]at h) λvs kind rs h=>by simp [au]at h) λvs kind rs h=>by simp [au]at h) λvs kind rs h=>by simp [au]at h) λvs kind rs h=>by simp [au]at h) λvs kind rs h=>by simp [au]at h) λvs kind rs h=>by simp [au]at h) λvs kind rs h=>by simp [au]at h) λvs kind rs h=>by simp [au]at h) λvs kind rs h=>by simp [au]at h) λvs kind rs h=>by simp [au]at h) λvs kind rs h=>by simp [au]at h) λvs kind rs h=>by simp [au]at h) λvs kind rs h=>by simp [au]at h) λvs kind rs h=>by simp [au]at h) λvs kind rs h=>by simp [au]at h)
def E0:Env:=An Try.prog Hc
theorem OS:E0.Ok:=tO CS CT zR
def Hd:List TD->Option (Kind×List TD)
 | []=>some (.fresh,[.one (.v (.bool true))])
 |_=>none
theorem JV{k:FuncId}(h:(cj E0 300 60).1 k []=some (.fresh,[.one (.v (.bool true))])):∀vs kind rs,Hd vs=some (kind,rs)->dY Try.prog k vs kind rs/\Ev.Enters Try.prog k:=λvs kind rs hf=>by
 unfold Hd at hf;split at hf
 .simp only [zsI,Prod.mk.injEq]at hf;obtain⟨rfl,rfl⟩:=hf;exact(tK OS 300 60).1 _ _ _ _ h
 .simp at hf
theorem OT:(cj E0 300 60).1 6 []=some (.fresh,[.one (.v (.bool true))]):=by kernel_rfl
def E1:Env:=An Try.prog (az Hc 6 Hd)
theorem cV:E1.Ok:=tO CS CT (ai zR (JV OT))
def cA:aQ Sm.Eg.ins->Option (aQ Sm.Eg.outs):=Sm.Eg.fn
def jw:aX:=⟨39,Sm.Eg.ins,.data true Sm.Eg.outs,cA,1⟩
theorem pH:ay E1 jw:=jv rfl
def gg:aQ Sm.Be.ins->Option (aQ Sm.Be.outs):=Sm.Be.fn
def lV:aX:=⟨37,Sm.Be.ins,.data true Sm.Be.outs,gg,1⟩
theorem sK:ay E1 lV:=jv rfl
def bq:aQ Sm.Dc.ins->Option (aQ Sm.Dc.outs):=Sm.Dc.fn
def gp:aX:=⟨14,Sm.Dc.ins,.data true Sm.Dc.outs,bq,1⟩
theorem iK:ay E1 gp:=jv rfl
def gO:aQ Sm.Bo.ins->Option (aQ Sm.Bo.outs):=Sm.Bo.fn
def nR:aX:=⟨12,Sm.Bo.ins,.data true Sm.Bo.outs,gO,1⟩
theorem vp:ay E1 nR:=jv rfl
theorem dr:Ju E1 TT:=⟨tz1,⟨tz2,⟨tz3,⟨tz4,⟨tz5,⟨tz6,⟨tz7,⟨tz8,⟨QP,⟨QQ,⟨QR,⟨QS,⟨QU,⟨QV,⟨QW,⟨QX,⟨QY,⟨QZ,⟨Ra,⟨Rb,⟨Rc,⟨Rd,⟨Re,⟨Rf,⟨Rh,⟨Ri,⟨Rj,⟨Rk,⟨Rm,⟨Rn,⟨Ro,⟨Rp,⟨Rq,⟨Rr,⟨Rs,⟨Rt,⟨Ru,⟨Rv,⟨Rw,⟨Rx,⟨Ry,⟨Rz,⟨RA,⟨RE,⟨RF,⟨RH,⟨RI,⟨RJ,⟨RK,⟨RL,⟨RM,⟨RN,⟨RO,⟨RP,⟨RQ,⟨RT,⟨RU,⟨RV,⟨RY,⟨RZ,⟨Sa,⟨Sb,⟨Sd,⟨Se,⟨Sf,⟨Sg,⟨Si,⟨Sj,⟨Sk,⟨Sn,⟨So,⟨Sp,⟨Sq,⟨Sr,⟨Ss,⟨Su,⟨Sv,⟨Sw,⟨Sx,⟨Sy,⟨Sz,⟨SA,⟨SB,⟨SC,⟨SD,⟨SE,⟨SF,⟨LL,⟨LM,⟨LN,⟨LP,⟨LQ,⟨LR,⟨LS,⟨LT,⟨LU,⟨LV,⟨LW,⟨LY,⟨LZ,⟨Ma,⟨Mb,⟨Mc,⟨Md,⟨Me,⟨Mf,⟨Mg,⟨Mh,⟨Mi,⟨Mj,⟨Mk,⟨Ml,⟨Mm,⟨Mn,⟨Mo,⟨Mp,⟨Mq,⟨Mr,⟨Ms,⟨Mt,⟨Mu,⟨Mv,⟨Mw,⟨My,⟨Mz,⟨MA,⟨MC,⟨MD,⟨ME,⟨MF,⟨MG,⟨MH,⟨MI,⟨MJ,⟨MK,⟨ML,⟨MM,⟨MN,⟨MO,⟨MP,⟨MQ,⟨MR,⟨MS,⟨MT,⟨MU,⟨MV,⟨MW,⟨MX,⟨MY,trivial⟩⟩⟩⟩⟩⟩⟩⟩⟩⟩⟩⟩⟩⟩⟩⟩⟩⟩⟩⟩⟩⟩⟩⟩⟩⟩⟩⟩⟩⟩⟩⟩⟩⟩⟩⟩⟩⟩⟩⟩⟩⟩⟩⟩⟩⟩⟩⟩⟩⟩⟩⟩⟩⟩⟩⟩⟩⟩⟩⟩⟩⟩⟩⟩⟩⟩⟩⟩⟩⟩⟩⟩⟩⟩⟩⟩⟩⟩⟩⟩⟩⟩⟩⟩⟩⟩⟩⟩⟩⟩⟩⟩⟩⟩⟩⟩⟩⟩⟩⟩⟩⟩⟩⟩⟩⟩⟩⟩⟩⟩⟩⟩⟩⟩⟩⟩⟩⟩⟩⟩⟩⟩⟩⟩⟩⟩⟩⟩⟩⟩⟩⟩⟩⟩⟩⟩⟩⟩⟩⟩⟩⟩⟩⟩⟩⟩⟩⟩⟩
theorem bW:Jv E1.P EQS:=⟨Eb Ee Ef,⟨Ec Eh Ei,⟨Ec Ej Ek,⟨Eb AX AY,trivial⟩⟩⟩⟩
theorem fn4:E1.fn 4=some fi4:=bk Try.func4 rfl
theorem Tv:E1.fn 11=some SG:=bk Try.func11 rfl
theorem Tw:E1.fn 13=some SH:=bk Try.func13 rfl
theorem Tx:E1.fn 15=some SI:=bk Try.func15 rfl
theorem Tz:E1.fn 16=some SJ:=bk Try.func16 rfl
theorem TA:E1.fn 17=some SK:=bk Try.func17 rfl
theorem TB:E1.fn 18=some Oe:=bk Try.func18 rfl
theorem TC:E1.fn 19=some SM:=bk Try.func19 rfl
theorem TE:E1.fn 22=some SN:=bk Try.func22 rfl
theorem TF:E1.fn 26=some SO:=bk Try.func26 rfl
theorem TG:E1.fn 28=some SP:=bk Try.func28 rfl
theorem TH:E1.fn 29=some SQ:=bk Try.func29 rfl
theorem TJ:E1.fn 30=some SR:=bk Try.func30 rfl
theorem TK:E1.fn 31=some SS:=bk Try.func31 rfl
theorem TL:E1.fn 34=some ST:=bk Try.func34 rfl
theorem TM:E1.fn 35=some SU:=bk Try.func35 rfl
theorem TN:E1.fn 36=some SV:=bk Try.func36 rfl
theorem TO:E1.fn 38=some Of:=bk Try.func38 rfl
theorem TP:E1.fn 42=some SW:=bk Try.func42 rfl
theorem TQ:E1.fn 54=some SX:=bk Try.func54 rfl
theorem TR:E1.fn 55=some SY:=bk Try.func55 rfl
theorem TS:E1.fn 56=some SZ:=bk Try.func56 rfl
theorem TV:E1.fn 57=some Ta:=bk Try.func57 rfl
theorem TW:E1.fn 58=some Tb:=bk Try.func58 rfl
theorem TX:E1.fn 63=some Og:=bk Try.func63 rfl
theorem TY:E1.fn 64=some Oh:=bk Try.func64 rfl
theorem TZ:E1.fn 70=some Tg:=bk Try.func70 rfl
theorem Ua:E1.fn 78=some Ti:=bk Try.func78 rfl
theorem Ub:E1.fn 81=some Oi:=bk Try.func81 rfl
end K
end Ev
end
noncomputable section
namespace Ev
namespace K
open Go Go.RowKit
set_option maxRecDepth 100000
set_option maxHeartbeats 1000000
def sL:cH:= []
def jS:KG:=⟨TT,EQS,[],[]⟩
def cL:aQ [(false,.I .i64),(false,.I .i64)]->Option (OutK.val (.data true [(false,.B)])):=du jS sL SZ 56 0 [(false,.I .i64),(false,.I .i64)] (.data true [(false,.B)])
def jT:aX:=⟨56,[(false,.I .i64),(false,.I .i64)],.data true [(false,.B)],cL,1⟩
def vq:cH:= [(78,⟨[⟨false,2,0,[0,1,7],⟨[(8,false,[.d true (.I .i64)])],[],[]⟩,[(.exit 0,⟨[],[],[]⟩),(.ret,⟨[(4,false,[.d true (.I .i64)])],[],[]⟩)]⟩],[]⟩)]
def lW:KG:=⟨TT,EQS,[jT],[(54,SX),(55,SY),(57,Ta),(78,Ti)]⟩
def eJ:aQ [yD0]->Option (OutK.val (.data true [(false,.I .i64)])):=du lW vq SQ 29 6 [yD0] (.data true [(false,.I .i64)])
def lX:aX:=⟨29,[yD0],.data true [(false,.I .i64)],eJ,8⟩
def ra:cH:= [(30,⟨[⟨false,2,0,[5,6],⟨[(7,false,[.d true (.I .i64)])],[],[]⟩,[(.exit 0,⟨[],[],[]⟩),(.ret,⟨[(2,false,[.d true (.I .u8)])],[],[]⟩)]⟩],[]⟩)]
def jx:KG:=⟨TT,EQS,[],[]⟩
def de:aQ [yD1]->Option (OutK.val (.data true [(false,.I .u8)])):=du jx ra SR 30 0 [yD1] (.data true [(false,.I .u8)])
def jy:aX:=⟨30,[yD1],.data true [(false,.I .u8)],de,1⟩
def nS:cH:= [(58,⟨[⟨false,3,0,[0,5,10],⟨[(11,false,[.d true (.I .i64)])],[],[(.sl 5 0,.I .u8)]⟩,[(.exit 0,⟨[],[],[(.sl 5 0,.I .u8)]⟩)]⟩],[]⟩)]
def ik:KG:=⟨TT,EQS,[],[]⟩
def cY:aQ [(false,.I .u8),(false,.I .i64)]->Option (OutK.val (.own (.I .u8))):=du ik nS Tb 58 0 [(false,.I .u8),(false,.I .i64)] (.own (.I .u8))
def il:aX:=⟨58,[(false,.I .u8),(false,.I .i64)],.own (.I .u8),cY,1⟩
def yg:cH:= []
def nT:KG:=⟨TT,EQS,[il],[]⟩
def fJ:aQ [(false,.I .u8)]->Option (OutK.val (.own (.I .u8))):=du nT yg SS 31 0 [(false,.I .u8)] (.own (.I .u8))
def nU:aX:=⟨31,[(false,.I .u8)],.own (.I .u8),fJ,2⟩
def mO:cH:= [(70,⟨[⟨false,3,0,[0,5,10],⟨[(11,false,[.d true (.I .i64)])],[],[(.sl 5 0,.I .u8)]⟩,[(.exit 0,⟨[],[],[(.sl 5 0,.I .u8)]⟩)]⟩],[]⟩)]
def gP:KG:=⟨TT,EQS,[],[]⟩
def cE:aQ [(false,.I .u32),(false,.I .i64)]->Option (OutK.val (.own (.I .u8))):=du gP mO Tg 70 0 [(false,.I .u32),(false,.I .i64)] (.own (.I .u8))
def gQ:aX:=⟨70,[(false,.I .u32),(false,.I .i64)],.own (.I .u8),cE,1⟩
def vr:cH:= []
def lY:KG:=⟨TT,EQS,[gQ],[]⟩
def eK:aQ [(false,.I .u32)]->Option (OutK.val (.own (.I .u8))):=du lY vr SW 42 0 [(false,.I .u32)] (.own (.I .u8))
def lZ:aX:=⟨42,[(false,.I .u32)],.own (.I .u8),eK,2⟩
def yh:cH:= [(22,⟨[⟨false,3,0,[6,7],⟨[(3,false,[.m (.I .u8)]),(8,false,[.d true (.I .i64)])],[],[]⟩,[(.exit 0,⟨[(3,false,[.m (.I .u8)])],[],[]⟩)]⟩],[]⟩)]
def nV:KG:=⟨TT,EQS,[lZ],[]⟩
def dB:aQ [(false,.S (.I .i64))]->Option (OutK.val (.mown (.I .u8))):=du nV yh SN 22 0 [(false,.S (.I .i64))] (.mown (.I .u8))
def nX:aX:=⟨22,[(false,.S (.I .i64))],.mown (.I .u8),dB,3⟩
def rd:cH:= [(13,⟨[⟨false,10,0,[5,36,37],⟨[(6,false,[.o (.I .u8)]),(38,false,[.d true (.I .i64)])],[],[]⟩,[(.exit 0,⟨[(6,false,[.o (.I .u8)])],[],[]⟩)]⟩],[]⟩)]
def jz:KG:=⟨TT,EQS,[fW,nX,lX,jy,nU],[]⟩
def cB:aQ [yD0]->Option (OutK.val (.data true [(false,.S (.I .u8)),(false,.I .i64)])):=du jz rd SH 13 0 [yD0] (.data true [(false,.S (.I .u8)),(false,.I .i64)])
def gq:aX:=⟨13,[yD0],.data true [(false,.S (.I .u8)),(false,.I .i64)],cB,9⟩
def vt:cH:= []
def ma:KG:=⟨TT,EQS,[jw],[]⟩
def eL:aQ [yD0]->Option (OutK.val (.data true [yD0])):=du ma vt SM 19 0 [yD0] (.data true [yD0])
def mc:aX:=⟨19,[yD0],.data true [yD0],eL,2⟩
def sM:cH:= []
def jU:KG:=⟨TT,EQS,[gq,gp,lV],[]⟩
def dO:aQ [(false,.S (.I .u8))]->Option (OutK.val (.data true [(false,.B)])):=du jU sM SK 17 0 [(false,.S (.I .u8))] (.data true [(false,.B)])
def jV:aX:=⟨17,[(false,.S (.I .u8))],.data true [(false,.B)],dO,10⟩
def sN:cH:= []
def jW:KG:=⟨TT,EQS,[],[]⟩
def bK:aQ [(false,.I .i64),(false,.I .i64)]->Option (OutK.val (.data true [(false,.I .i64)])):=du jW sN SO 26 0 [(false,.I .i64),(false,.I .i64)] (.data true [(false,.I .i64)])
def jX:aX:=⟨26,[(false,.I .i64),(false,.I .i64)],.data true [(false,.I .i64)],bK,1⟩
def vu:cH:= [(11,⟨[⟨false,3,0,[1,2,3],⟨[(4,false,[.d true (.I .i64)])],[(3,[.d true (.I .i64),.m (.C (.I .i64) (.C (.I .i64) (.I .i64)))])],[]⟩,[(.exit 0,⟨[],[(3,[.d true (.I .i64),.m (.C (.I .i64) (.C (.I .i64) (.I .i64)))])],[]⟩)]⟩],[(6,⟨[[],[],[],[],[],[],[],[],[],[],[],[],[],[],[],[],[],[.bx 3 1],[],[.sl 3 0]],[(false,[]),(false,[]),(false,[]),(false,[]),(false,[]),(false,[]),(false,[]),(false,[]),(false,[]),(false,[]),(false,[]),(false,[]),(false,[]),(false,[]),(false,[]),(false,[]),(true,[]),(true,[]),(false,[]),(false,[])]⟩)]⟩)]
def me:KG:=⟨TT,EQS,[jX],[]⟩
def eM:aQ [yD0]->Option (OutK.val (.data true [yD0])):=du me vu SG 11 0 [yD0] (.data true [yD0])
def mf:aX:=⟨11,[yD0],.data true [yD0],eM,2⟩
def sO:cH:= []
def jY:KG:=⟨TT,EQS,[],[]⟩
def dP:aQ [yD2]->Option (OutK.val (.data true [yD2])):=du jY sO SP 28 0 [yD2] (.data true [yD2])
def jZ:aX:=⟨28,[yD2],.data true [yD2],dP,1⟩
def fq:cH:= [(34,⟨[⟨false,4,0,[0,1,12],⟨[(13,false,[.d true (.I .i64)])],[],[]⟩,[(.exit 0,⟨[],[],[]⟩),(.ret,⟨[(4,false,[.d true .B])],[],[]⟩)]⟩],[]⟩)]
def ct:KG:=⟨TT,EQS,[],[]⟩
def aI:aQ [yD1,yD1]->Option (OutK.val (.data true [(false,.B)])):=du ct fq ST 34 0 [yD1,yD1] (.data true [(false,.B)])
def cu:aX:=⟨34,[yD1,yD1],.data true [(false,.B)],aI,1⟩
def yi:cH:= []
def nZ:KG:=⟨TT,EQS,[cu],[]⟩
def eD:aQ [yD0,yD0]->Option (OutK.val (.data true [(false,.B)])):=du nZ yi SI 15 0 [yD0,yD0] (.data true [(false,.B)])
def ob:aX:=⟨15,[yD0,yD0],.data true [(false,.B)],eD,2⟩
def zS:cH:= []
def qr:KG:=⟨TT,EQS,[],[]⟩
def iL:aQ [yD2]->Option (OutK.val (.data true [(false,.B)])):=du qr zS SV 36 0 [yD2] (.data true [(false,.B)])
def qt:aX:=⟨36,[yD2],.data true [(false,.B)],iL,1⟩
def yj:cH:= [(35,⟨[⟨false,3,0,[1,2,6,7,14,15],⟨[(16,false,[.d true (.I .i64)])],[(7,[.d true (.I .i64),.m (.C (.I .i64) (.C (.I .i64) (.I .i64)))])],[]⟩,[(.exit 0,⟨[],[(7,[.d true (.I .i64),.m (.C (.I .i64) (.C (.I .i64) (.I .i64)))])],[]⟩)]⟩],[(6,⟨[[],[],[],[],[],[],[.bx 7 1],[],[.sl 7 0]],[(false,[]),(false,[]),(false,[]),(false,[]),(false,[]),(true,[]),(true,[]),(false,[]),(false,[])]⟩)]⟩)]
def oc:KG:=⟨TT,EQS,[mc,jZ,qt],[(35,SU)]⟩
def fK:aQ [yD0]->Option (OutK.val (.data true [yD0])):=du oc yj SJ 16 6 [yD0] (.data true [yD0])
def od:aX:=⟨16,[yD0],.data true [yD0],fK,9⟩
def sP:cH:= []
def kd:KG:=⟨TT,EQS,[mf,nR,gq,gp,ob,od,jV,fW],[]⟩
def fu:aQ [yD0]->Option (OutK.val (.data true [(false,.B)])):=du kd sP fi4 4 0 [yD0] (.data true [(false,.B)])
def ke:aX:=⟨4,[yD0],.data true [(false,.B)],fu,11⟩
end K
end Ev
end
noncomputable section
namespace Ev
namespace K
open Go Go.RowKit
set_option maxRecDepth 100000
set_option maxHeartbeats 1000000
theorem sQ:GOk js E1 0:=gok cV dr bW trivial trivial
theorem vw:ay E1 jt:=aS sQ (by kernel_rfl) TX (by kernel_rfl) rfl
theorem oe:GOk gu E1 0:=gok cV dr bW trivial trivial
theorem pI:ay E1 gv:=aS oe (by kernel_rfl) Ub (by kernel_rfl) rfl
theorem lI:GOk fF E1 1:=gok cV dr bW ⟨⟨by decide,pI⟩,trivial⟩ trivial
theorem mP:ay E1 fG:=aS lI (by kernel_rfl) TY (by kernel_rfl) rfl
theorem pJ:GOk hZ E1 2:=gok cV dr bW ⟨⟨by decide,vw⟩,⟨⟨by decide,mP⟩,trivial⟩⟩ trivial
theorem re:ay E1 ia:=aS pJ (by kernel_rfl) TO (by kernel_rfl) rfl
theorem rg:GOk iE E1 3:=gok cV dr bW ⟨⟨by decide,re⟩,trivial⟩ trivial
theorem kf:ay E1 fW:=aS rg (by kernel_rfl) TB (by kernel_rfl) rfl
theorem pK:GOk jS E1 0:=gok cV dr bW trivial trivial
theorem rh:ay E1 jT:=aS pK (by kernel_rfl) TS (by kernel_rfl) rfl
theorem rj:GOk lW E1 1:=gok cV dr bW ⟨⟨by decide,rh⟩,trivial⟩ ⟨⟨TQ,rfl⟩,⟨⟨TR,rfl⟩,⟨⟨TV,rfl⟩,⟨⟨Ua,rfl⟩,trivial⟩⟩⟩⟩
theorem sR:ay E1 lX:=aS rj (by kernel_rfl) TH (by kernel_rfl) rfl
theorem og:GOk jx E1 0:=gok cV dr bW trivial trivial
theorem pL:ay E1 jy:=aS og (by kernel_rfl) TJ (by kernel_rfl) rfl
theorem lJ:GOk ik E1 0:=gok cV dr bW trivial trivial
theorem mQ:ay E1 il:=aS lJ (by kernel_rfl) TW (by kernel_rfl) rfl
theorem sS:GOk nT E1 1:=gok cV dr bW ⟨⟨by decide,mQ⟩,trivial⟩ trivial
theorem vy:ay E1 nU:=aS sS (by kernel_rfl) TK (by kernel_rfl) rfl
theorem kn:GOk gP E1 0:=gok cV dr bW trivial trivial
theorem lK:ay E1 gQ:=aS kn (by kernel_rfl) TZ (by kernel_rfl) rfl
theorem rk:GOk lY E1 1:=gok cV dr bW ⟨⟨by decide,lK⟩,trivial⟩ trivial
theorem sT:ay E1 lZ:=aS rk (by kernel_rfl) TP (by kernel_rfl) rfl
theorem sU:GOk nV E1 2:=gok cV dr bW ⟨⟨by decide,sT⟩,trivial⟩ trivial
theorem vz:ay E1 nX:=aS sU (by kernel_rfl) TE (by kernel_rfl) rfl
theorem oh:GOk jz E1 8:=gok cV dr bW ⟨⟨by decide,kf⟩,⟨⟨by decide,vz⟩,⟨⟨by decide,sR⟩,⟨⟨by decide,pL⟩,⟨⟨by decide,vy⟩,trivial⟩⟩⟩⟩⟩ trivial
theorem iM:ay E1 gq:=aS oh (by kernel_rfl) Tw (by kernel_rfl) rfl
theorem rl:GOk ma E1 1:=gok cV dr bW ⟨⟨by decide,pH⟩,trivial⟩ trivial
theorem sV:ay E1 mc:=aS rl (by kernel_rfl) TC (by kernel_rfl) rfl
theorem pM:GOk jU E1 9:=gok cV dr bW ⟨⟨by decide,iM⟩,⟨⟨by decide,iK⟩,⟨⟨by decide,sK⟩,trivial⟩⟩⟩ trivial
theorem rm:ay E1 jV:=aS pM (by kernel_rfl) TA (by kernel_rfl) rfl
theorem pN:GOk jW E1 0:=gok cV dr bW trivial trivial
theorem rn:ay E1 jX:=aS pN (by kernel_rfl) TF (by kernel_rfl) rfl
theorem ro:GOk me E1 1:=gok cV dr bW ⟨⟨by decide,rn⟩,trivial⟩ trivial
theorem sW:ay E1 mf:=aS ro (by kernel_rfl) Tv (by kernel_rfl) rfl
theorem pO:GOk jY E1 0:=gok cV dr bW trivial trivial
theorem rp:ay E1 jZ:=aS pO (by kernel_rfl) TG (by kernel_rfl) rfl
theorem eE:GOk ct E1 0:=gok cV dr bW trivial trivial
theorem eS:ay E1 cu:=aS eE (by kernel_rfl) TL (by kernel_rfl) rfl
theorem sY:GOk nZ E1 1:=gok cV dr bW ⟨⟨by decide,eS⟩,trivial⟩ trivial
theorem vA:ay E1 ob:=aS sY (by kernel_rfl) Tx (by kernel_rfl) rfl
theorem vB:GOk qr E1 0:=gok cV dr bW trivial trivial
theorem yk:ay E1 qt:=aS vB (by kernel_rfl) TN (by kernel_rfl) rfl
theorem sZ:GOk oc E1 2:=gok cV dr bW ⟨⟨by decide,sV⟩,⟨⟨by decide,rp⟩,⟨⟨by decide,yk⟩,trivial⟩⟩⟩ ⟨⟨TM,rfl⟩,trivial⟩
theorem vC:ay E1 od:=aS sZ (by kernel_rfl) Tz (by kernel_rfl) rfl
theorem pP:GOk kd E1 10:=gok cV dr bW ⟨⟨by decide,sW⟩,⟨⟨by decide,vp⟩,⟨⟨by decide,iM⟩,⟨⟨by decide,iK⟩,⟨⟨by decide,vA⟩,⟨⟨by decide,vC⟩,⟨⟨by decide,rm⟩,⟨⟨by decide,kf⟩,trivial⟩⟩⟩⟩⟩⟩⟩⟩ trivial
theorem rq:ay E1 ke:=aS pP (by kernel_rfl) fn4 (by kernel_rfl) rfl
end K
end Ev
end
noncomputable section
namespace Ev
namespace K
open Go Go.RowKit
def W:(e:Ty)->e.val->Prop
 | .I k,x=>inK k x
 | .B,_=>True
 | .S e,x=>SlW e.size (λy=>W e y) x
 | .U,_=>True
 | .C a b,x=>W a x.1/\W b x.2
def Op(P:Program)(t:TypeId)(e:Ty):Prop:=∀ts,Typ P t ts->∃x:e.val,ts=e.row x/\W e x
def Ops(P:Program)(tl:List TypeId)(e:Ty):Prop:=∀tss:List (List T),tss.length=tl.length->(∀(i:Nat) t l,tl[i]? =some t->tss[i]? =some l->Typ P t l)->∃x:e.val,tss.flatten=e.row x/\W e x
section
variable {P : Program} {t : TypeId} {tl : List TypeId} {e a b : Ty}
theorem He{k:IntKind}(h:P.underlying t=some (.int k)):Op P t (.I k):=λts ht=>KK h ht
theorem Hg{t':TypeId}(h:P.underlying t=some (.slice t'))(hc:P.cellsOf t'=e.size)(ho:Op P t' e):Op P t (.S e):=λts ht=>FM (r:=e.row) (Q:=λy=>W e y) h hc ho ht
theorem Ds(h:Op P t e):Ops P [t] e:=λtss hl ht=>by
 obtain⟨l,rfl⟩:=List.length_eq_one_iff.1 hl;obtain⟨x,h1,h2⟩:=h l (ht 0 t l rfl rfl);exact⟨x,by simp [h1],h2⟩
theorem ta(h:Op P t a)(h':Ops P tl b):Ops P (t::tl) (.C a b):=λtss hl ht=>by
 match tss,hl with
 |l::tss,hl=>
  obtain⟨x,h1,h2⟩:=h l (ht 0 t l rfl rfl);obtain⟨y,h3,h4⟩:=h' tss (by simpa using hl) λi t' l' a b=>ht (i+1) t' l' a b;exact⟨(x,y),by rw [List.flatten_cons,h1,h3];rfl,h2,h4⟩
theorem wo{fs:Array Field}(h:P.underlying t=some (.struct fs))(hf:fs.toList.map (·.type)=tl)(ho:Ops P tl e):Op P t e:=λts ht=>by
 obtain⟨tss,rfl,h1,h2⟩:=Cv h ht;subst hf;refine ho tss (by simpa using h1) λi t' l hi hl=> ?_;rw [List.getElem?_map,Option.map_eq_some_iff]at hi;obtain⟨f,hf,rfl⟩:=hi;exact h2 i f l hf hl
theorem Hh{ts:List TypeId}{tds:List TD}{d:TypeDesc}(hu:P.underlying t=some d)(hd:aK d=true)(ho:Op P t e)(h:kt P (t::ts) tds):∃(x:e.val) (r:List TD),tds=ji (true,e) x::r/\W e x/\kt P ts r:=by
 obtain⟨y,r,rfl,h1,h2⟩:=IK hu hd h;obtain⟨x,h3,h4⟩:=ho _ h1;exact⟨x,r,by rw [h3];rfl,h4,h2⟩
end
theorem JW{E:Env}{en:aX}(ok:ay E en){a:aQ en.ins}{tds:List TD}(ht:tds=bP en.ins a)(ho:en.out= .data true [(false,.B)])(h:en.f a=some (cast (by rw [ho]) true)):∃m n kind,(cj E m n).1 en.k tds=some (kind,[.one (.v (.bool true))]):=by
 have h1:=ok 0 a _ h;subst ht;obtain⟨k,ins,out,f,d⟩:=en;dsimp only at ho;subst ho;exact NM h1
end K
end Ev
end
noncomputable section
namespace Ev
open Go Go.RowKit
def cA(x:Int)(y:Sl (Int×Int×Int)):Option ((Sl (Int×Int×Int))×Int):=K.cA (x,y)
def gg(x:Sl (Int))(y:Sl (Int)):Option (Bool):=K.gg (x,y)
def bq(x:Sl (Int)):Option ((Int×(Sl (Int×Int×Int)))×Int×Int):=K.bq x
def gO(x:Int×(Sl (Int×Int×Int))):Option (Int×(Sl (Int×Int×Int))):=K.gO x
def cL(x:Int)(y:Int):Option (Bool):=K.cL (x,y)
def eJ(x:Int×(Sl (Int×Int×Int))):Option (Int):=K.eJ x
def de(x:Sl (Int×Int×Int)):Option (Int):=K.de x
def cY(x:Int)(y:Int):Option (List (Int)):=K.cY (x,y)
def fJ(x:Int):Option (List (Int)):=K.fJ x
def cE(x:Int)(y:Int):Option (List (Int)):=K.cE (x,y)
def eK(x:Int):Option (List (Int)):=K.eK x
def dB(x:Sl (Int)):Option (List (Int)):=K.dB x
def cB(x:Int×(Sl (Int×Int×Int))):Option (Sl (Int)×Int):=K.cB x
def eL(x:Int×(Sl (Int×Int×Int))):Option (Int×(Sl (Int×Int×Int))):=K.eL x
def dO(x:Sl (Int)):Option (Bool):=K.dO x
def bK(x:Int)(y:Int):Option (Int):=K.bK (x,y)
def eM(x:Int×(Sl (Int×Int×Int))):Option (Int×(Sl (Int×Int×Int))):=K.eM x
def dP(x:Int×Int×Int):Option (Int×Int×Int):=K.dP x
def aI(x:Sl (Int×Int×Int))(y:Sl (Int×Int×Int)):Option (Bool):=K.aI (x,y)
def eD(x:Int×(Sl (Int×Int×Int)))(y:Int×(Sl (Int×Int×Int))):Option (Bool):=K.eD (x,y)
def iL(x:Int×Int×Int):Option (Bool):=K.iL x
def fK(x:Int×(Sl (Int×Int×Int))):Option (Int×(Sl (Int×Int×Int))):=K.fK x
def fu(x:Int×(Sl (Int×Int×Int))):Option (Bool):=K.fu x
end Ev
end
noncomputable section
namespace Ev
open Go Go.RowKit
set_option maxRecDepth 100000
set_option maxHeartbeats 1000000
abbrev yC:=Int×Int×Sl Int×Sl Int×Sl Int×Sl Int
abbrev yM:=Int×Int×Sl Int×Sl Int×Sl Int
abbrev yT:=Int×Int×Int
theorem rt(x:Int)(y:Int):cL x y=if y >= 0 then some (decide (y<x))else some false:=by kernel_rfl
def fv(x:Int×Sl yT):Int->Option (Int ⊕ PUnit ⊕ Int ⊕ Empty):=λ(x_1:Int)=>if x_1<(↑x.snd.l.length:Int)then(atS 3 x.snd x_1).bind λ(y:Int×Int×Int)=>(cL x.fst y.fst).bind λ(out:Bool)=>if¬out=true then some (Sum.inr (Sum.inr (Sum.inl x_1)))else(cL x.fst y.snd.fst).bind λ(out:Bool)=>if¬out=true then some (Sum.inr (Sum.inr (Sum.inl x_1)))else some (Sum.inl (IntKind.i64.wrap (x_1+1)))else some (Sum.inr (Sum.inl ()))
def fw(x:Int×Sl yT):Int->Option (Int ⊕ PUnit ⊕ Int ⊕ Empty):=λ(x_1:Int)=>if x_1<(↑x.snd.l.length:Int)then(atS 3 x.snd x_1).bind λ(y:Int×Int×Int)=>if y.snd.snd<0 then some (Sum.inr (Sum.inr (Sum.inl x_1)))else if y.snd.snd>2147483647 then some (Sum.inr (Sum.inr (Sum.inl x_1)))else some (Sum.inl (IntKind.i64.wrap (x_1+1)))else some (Sum.inr (Sum.inl ()))
def tc(x:Int×Sl yT):Int->Option (Int ⊕ PUnit ⊕ Int ⊕ Empty):=λ(x_1:Int)=>if x_1<(↑x.snd.l.length:Int)then(atS 3 x.snd x_1).bind λ(y:Int×Int×Int)=>if y.snd.snd<0 then some (Sum.inr (Sum.inr (Sum.inl x_1)))else if y.snd.snd>2147483647 then some (Sum.inr (Sum.inr (Sum.inl x_1)))else some (Sum.inl (IntKind.i64.wrap (x_1+1)))else some (Sum.inr (Sum.inl ()))
theorem tf(x:Int×Sl yT):eJ x=if x.fst<0 then some 3
else if x.fst>4096 then some 5 else if(↑x.snd.l.length:Int)>65536 then some 5 else(bu (fv x) 0).bind λ(y:PUnit ⊕ Int ⊕ Empty)=>Sum.elim (λ(val:PUnit)=>(bu (fw x) 0).bind λ(y:PUnit ⊕ Int ⊕ Empty)=>Sum.elim (λ(val:PUnit)=>some 0) (λ(val:Int ⊕ Empty)=>Sum.elim (λ(val:Int)=>if val >= 0 then some 7 else some 0) (λ(val:Empty)=>nE val) val) y) (λ(val:Int ⊕ Empty)=>Sum.elim (λ(val:Int)=>if val >= 0 then some 3 else(bu (tc x) 0).bind λ(y:PUnit ⊕ Int ⊕ Empty)=>Sum.elim (λ(val:PUnit)=>some 0) (λ(val:Int ⊕ Empty)=>Sum.elim (λ(val:Int)=>if val >= 0 then some 7 else some 0) (λ(val:Empty)=>nE val) val) y) (λ(val:Empty)=>nE val) val) y:=by kernel_rfl
def dQ(x:Sl yT):Int->Option (Int ⊕ PUnit ⊕ Int ⊕ Empty):=λ(x_1:Int)=>if x_1<(↑x.l.length:Int)then(atS 3 x x_1).bind λ(y:Int×Int×Int)=>if y.snd.snd≠1 then some (Sum.inr (Sum.inr (Sum.inl 1)))else some (Sum.inl (IntKind.i64.wrap (x_1+1)))else some (Sum.inr (Sum.inl ()))
theorem pQ(x:Sl yT):de x=(bu (dQ x) 0).bind λ(y:PUnit ⊕ Int ⊕ Empty)=>Sum.elim (λ(val:PUnit)=>some 0) (λ(val:Int ⊕ Empty)=>Sum.elim (λ(val:Int)=>some val) (λ(val:Empty)=>nE val) val) y:=by kernel_rfl
def cO(x:Int)(y:Int):Int×List Int->Option (Int×List Int ⊕ List Int ⊕ Empty):=λ(x_1:Int×List Int)=>if x_1.fst<(↑(List.replicate y.toNat (0:Int)).length:Int)then(yx IntKind.u8 x (IntKind.u64.wrap (IntKind.i64.wrap (8*x_1.fst)))).bind λ(z:Int)=>(atL x_1.snd x_1.fst).bind λ(x:Int)=>(atL x_1.snd x_1.fst).bind λ(y:Int)=>some (Sum.inl (IntKind.i64.wrap (x_1.fst+1),List.set x_1.snd (Int.toNat x_1.fst) z))else some (Sum.inr (Sum.inl x_1.snd))
theorem mR(x:Int)(y:Int):cY x y=(wM y y).bind λ(x_1:PUnit)=>(tU y).bind λ(x_2:PUnit)=>(bu (cO x y) (0,List.replicate y.toNat 0)).bind λ(y:List Int ⊕ Empty)=>Sum.elim (λ(val:List Int)=>some val) (λ(val:Empty)=>nE val) y:=by kernel_rfl
theorem vD(x:Int):fJ x=(cY x 1).bind λ(out:List Int)=>some out:=by kernel_rfl
def cD(x:Int)(y:Int):Int×List Int->Option (Int×List Int ⊕ List Int ⊕ Empty):=λ(x_1:Int×List Int)=>if x_1.fst<(↑(List.replicate y.toNat (0:Int)).length:Int)then(yx IntKind.u32 x (IntKind.u64.wrap (IntKind.i64.wrap (8*x_1.fst)))).bind λ(z:Int)=>(atL x_1.snd x_1.fst).bind λ(x:Int)=>(atL x_1.snd x_1.fst).bind λ(y:Int)=>some (Sum.inl (IntKind.i64.wrap (x_1.fst+1),List.set x_1.snd (Int.toNat x_1.fst) (IntKind.u8.wrap z)))else some (Sum.inr (Sum.inl x_1.snd))
theorem lL(x:Int)(y:Int):cE x y=(wM y y).bind λ(x_1:PUnit)=>(tU y).bind λ(x_2:PUnit)=>(bu (cD x y) (0,List.replicate y.toNat 0)).bind λ(y:List Int ⊕ Empty)=>Sum.elim (λ(val:List Int)=>some val) (λ(val:Empty)=>nE val) y:=by kernel_rfl
theorem tj(x:Int):eK x=(cE x 4).bind λ(out:List Int)=>some out:=by kernel_rfl
def fT(x:Sl Int):List Int×Int->Option (List Int×Int ⊕ List Int ⊕ Empty):=λ(x_1:List Int×Int)=>if x_1.snd<(↑x.l.length:Int)then(atS 1 x x_1.snd).bind λ(y:Int)=>(eK (IntKind.u32.wrap y)).bind λ(out:List Int)=>(app x_1.fst out).bind λ(lm:List Int)=>some (Sum.inl (lm,IntKind.i64.wrap (x_1.snd+1)))else some (Sum.inr (Sum.inl x_1.fst))
theorem vF(x:Sl Int):dB x=(bu (fT x) ([],0)).bind λ(y:List Int ⊕ Empty)=>Sum.elim (λ(val:List Int)=>some val) (λ(val:Empty)=>nE val) y:=by kernel_rfl
def dS(x:Int×Sl yT)(out:Int):List Int×Int->Option (List Int×Int ⊕ List Int ⊕ Empty):=λ(x_1:List Int×Int)=>if x_1.snd<(↑x.snd.l.length:Int)then(atS 3 x.snd x_1.snd).bind λ(y:Int×Int×Int)=>(dB {nn:=true,sz:=1,l:= [y.fst,y.snd.fst]}).bind λ(out_1:List Int)=>(app x_1.fst out_1).bind λ(lm:List Int)=>if out=1 then(dB {nn:=true,sz:=1,l:= [y.snd.snd]}).bind λ(out:List Int)=>(app lm out).bind λ(lm:List Int)=>some (Sum.inl (lm,IntKind.i64.wrap (x_1.snd+1)))else some (Sum.inl (lm,IntKind.i64.wrap (x_1.snd+1)))else some (Sum.inr (Sum.inl x_1.fst))
theorem pR(x:Int×Sl yT):cB x=(eJ x).bind λ(out:Int)=>if out≠0 then some ({nn:=false,sz:=0,l:= []},out)else(cr x.snd).bind λ(out:Bool)=>if¬out=true then some ({nn:=false,sz:=0,l:= []},6)else(de x.snd).bind λ(out:Int)=>(fJ out).bind λ(out_1:List Int)=>(app [70,82,84,49] out_1).bind λ(lm:List Int)=>(dB {nn:=true,sz:=1,l:= [x.fst,(↑x.snd.l.length:Int)]}).bind λ(out_2:List Int)=>(app lm out_2).bind λ(lm:List Int)=>(bu (dS x out) (lm,0)).bind λ(y:List Int ⊕ Empty)=>Sum.elim (λ(val:List Int)=>some ({nn:=true,sz:=1,l:=val},0)) (λ(val:Empty)=>nE val) y:=by kernel_rfl
theorem tk(x:Int×Sl yT):eL x=(cA 1 x.snd).bind λ(out:Sl yT×Int)=>some (x.fst,out.fst):=by kernel_rfl
theorem ru(x:Sl Int):dO x=(bq x).bind λ(out:(Int×Sl yT)×Int×Int)=>if out.snd.fst≠0 then some false else(cB out.fst).bind λ(out:Sl Int×Int)=>if out.snd=0 then(gg out.fst x).bind λ(out:Bool)=>some (decide (out=true))else some false:=by kernel_rfl
theorem rx(x:Int)(y:Int):bK x y=if y<1 then some 0 else if x<0 then some 0 else(IH x y).bind λ(z:Int)=>some z:=by kernel_rfl
def gR(x:Int×Sl yT):Int×Int×List yT->Option (Int×Int×List yT ⊕ Int×List yT ⊕ Empty):=λ(x_1:Int×Int×List yT)=>if x_1.fst<(↑x.snd.l.length:Int)then if x_1.fst<60 then if x_1.snd.fst>0 then(atS 3 x.snd x_1.fst).bind λ(y:Int×Int×Int)=>if List.length x_1.snd.snd=0 then(bK y.fst x_1.snd.fst).bind λ(out:Int)=>(bK y.snd.fst x_1.snd.fst).bind λ(out_1:Int)=>(app [] [(out,out_1,Cu IntKind.i64 y.snd.snd 2147483647)]).bind λ(lm:List yT)=>some (Sum.inl (IntKind.i64.wrap (x_1.fst+1),x_1.snd.fst,lm))else(bK y.fst x_1.snd.fst).bind λ(out:Int)=>(bK y.snd.fst x_1.snd.fst).bind λ(out_1:Int)=>(app x_1.snd.snd [(out,out_1,Cu IntKind.i64 y.snd.snd 2147483647)]).bind λ(lm:List yT)=>some (Sum.inl (IntKind.i64.wrap (x_1.fst+1),x_1.snd.fst,lm))else some (Sum.inr (Sum.inl x_1.snd))else some (Sum.inr (Sum.inl x_1.snd))else some (Sum.inr (Sum.inl x_1.snd))
theorem tr(x:Int×Sl yT):eM x=(bK x.fst 24).bind λ(out:Int)=>(bu (gR x) (0,out,[])).bind λ(y:Int×List yT ⊕ Empty)=>Sum.elim (λ(val:Int×List yT)=>some (val.fst,mo 3 val.snd)) (λ(val:Empty)=>nE val) y:=by kernel_rfl
theorem ry(x:Int×Int×Int):dP x=some (x.snd.fst,x.fst,x.snd.snd):=by kernel_rfl
def cm(x:Sl yT)(y:Sl yT):Int->Option (Int ⊕ PUnit ⊕ Bool ⊕ Empty):=λ(x_1:Int)=>if x_1<(↑x.l.length:Int)then(atS 3 x x_1).bind λ(y_1:Int×Int×Int)=>(atS 3 y x_1).bind λ(y:Int×Int×Int)=>if¬(y_1.fst=y.fst/\y_1.snd.fst=y.snd.fst/\y_1.snd.snd=y.snd.snd)then some (Sum.inr (Sum.inr (Sum.inl false)))else some (Sum.inl (IntKind.i64.wrap (x_1+1)))else some (Sum.inr (Sum.inl ()))
theorem eT(x:Sl yT)(y:Sl yT):aI x y=if(↑x.l.length:Int)≠(↑y.l.length:Int)then some false
else(bu (cm x y) 0).bind λ(y:PUnit ⊕ Bool ⊕ Empty)=>Sum.elim (λ(val:PUnit)=>some true) (λ(val:Bool ⊕ Empty)=>Sum.elim (λ(val:Bool)=>some val) (λ(val:Empty)=>nE val) val) y:=by kernel_rfl
theorem vG(x:Int×Sl yT)(y:Int×Sl yT):eD x y=if x.fst=y.fst then(aI x.snd y.snd).bind λ(out:Bool)=>some (decide (out=true))
else some false:=by kernel_rfl
theorem yl(x:Int×Int×Int):iL x=some true:=by kernel_rfl
def fU(x:Int×Sl yT):Int×Int×List yT->Option (Int×Int×List yT ⊕ Int×List yT ⊕ Empty):=λ(x_1:Int×Int×List yT)=>if x_1.fst<(↑x.snd.l.length:Int)then(atS 3 x.snd x_1.fst).bind λ(y:Int×Int×Int)=>(iL y).bind λ(out:Bool)=>if out=true then if List.length x_1.snd.snd=0 then(dP y).bind λ(out:Int×Int×Int)=>(app [] [out]).bind λ(lm:List yT)=>some (Sum.inl (IntKind.i64.wrap (x_1.fst+1),x_1.snd.fst,lm))else(dP y).bind λ(out:Int×Int×Int)=>(app x_1.snd.snd [out]).bind λ(lm:List yT)=>some (Sum.inl (IntKind.i64.wrap (x_1.fst+1),x_1.snd.fst,lm))else some (Sum.inl (IntKind.i64.wrap (x_1.fst+1),x_1.snd))else some (Sum.inr (Sum.inl x_1.snd))
theorem vH(x:Int×Sl yT):fK x=(bu (fU x) (0,x.fst,[])).bind λ(y:Int×List yT ⊕ Empty)=>Sum.elim (λ(val:Int×List yT)=>(eL (val.fst,mo 3 val.snd)).bind λ(out:Int×Sl yT)=>some out) (λ(val:Empty)=>nE val) y:=by kernel_rfl
def jA:Bool->Option Bool:=λ(d:Bool)=>some d
theorem rz(x:Int×Sl yT):fu x=(eM x).bind λ(out:Int×Sl yT)=>(gO out).bind λ(out:Int×Sl yT)=>(cB out).bind λ(out_1:Sl Int×Int)=>(bq out_1.fst).bind λ(out_2:(Int×Sl yT)×Int×Int)=>(bq {nn:=false,sz:=0,l:= []}).bind λ(out_3:(Int×Sl yT)×Int×Int)=>if out_1.snd=0 then if out_2.snd.fst=0/\out_2.snd.snd=0 then(eD out_2.fst out).bind λ(out:Bool)=>if out=true then(fK out_2.fst).bind λ(out:Int×Sl yT)=>(eD out out_2.fst).bind λ(out:Bool)=>if out=true then(dO out_1.fst).bind λ(out:Bool)=>if out=true then(cr out_2.fst.snd).bind λ(out:Bool)=>if out=true then if out_3.snd.fst=2 then jA (decide (out_3.fst.fst=0))else jA false else some false else some false else some false else some false else some false else some false:=by kernel_rfl
end Ev
end
noncomputable section
namespace Ev
section
open Go
def okS{α:Type}(w:Nat)(s:Sl α):Prop:=s.l= []∨s.sz=w
theorem Lt{α:Type}{w:Nat}(l:List α):okS w (mo w l):=by cases l with|nil=>exact .inl rfl|cons x l=>exact .inr rfl
theorem wq{α:Type}{l:List α}{j:Nat}{x:α}(h:l[j]? =some x):atL l (j:Int)=some x:=by
 have hj:=(List.getElem?_eq_some_iff.1 h);rw [KL hj.1,hj.2]
theorem wu{α:Type}{w:Nat}{s:Sl α}(hs:okS w s){j:Nat}{x:α}(h:s.l[j]? =some x):atS w s (j:Int)=some x:=by
 have hj:=(List.getElem?_eq_some_iff.1 h);rw [iA hs hj.1,hj.2]
theorem Hi{A R:Type}{b:A->Option (A ⊕ R)}(n:Nat)(st:Nat->A){r:R}(hs:∀j,j<n->b (st j)=some (.inl (st (j+1))))(he:b (st n)=some (.inr r)):bu b (st 0)=some r:=by
 obtain⟨q,h1,h2⟩:=oI (b:=b) n (λj a=>a=st j) (λq=>q=r) (λj a hj ha=> .inl ⟨st (j+1),by rw [ha];exact hs j hj,rfl⟩) (λa ha=>⟨r,by rw [ha];exact he,rfl⟩) 0 (Nat.zero_le _) (st 0) rfl;rw [h1,h2]
theorem lk{A R:Type}{b:A->Option (A ⊕ R)}(n:Nat)(st:Nat->A){a:A}(ha:a=st 0){r:R}(hs:∀j,j<n->b (st j)=some (.inl (st (j+1))))(he:b (st n)=some (.inr r)):bu b a=some r:=by rw [ha];exact Hi n st hs he
theorem Ff{α:Type}[DecidableEq α]{x y:List α}(hl:x.length=y.length){b:Int->Option (Int ⊕ PUnit ⊕ Bool ⊕ Empty)}(h1:∀j:Nat,(h:j<x.length)->b j=some (if x[j]=y[j]then .inl ((j+1:Nat):Int)else .inr (.inr (.inl false))))(h2:∀j:Nat,x.length<=j->b j=some (.inr (.inl ()))):
  bu b 0=some (if x=y then .inl ()else .inr (.inl false)):=by
 obtain⟨q,q1,q2⟩:=oI (b:=b) x.length (λj a=>a=(j:Int)/\x.take j=y.take j) (λq=>q=if x=y then .inl ()else .inr (.inl false))
  (by
   rintro j _ hj ⟨rfl,ht⟩;rw [h1 j hj];by_cases e:x[j]=y[j]
   .rw [if_pos e];refine .inl ⟨_,rfl,rfl,?_⟩;rw [List.take_succ_eq_append_getElem hj,List.take_succ_eq_append_getElem (by omega),ht,e]
   .rw [if_neg e];refine .inr ⟨_,rfl,?_⟩
    rw [if_neg (λh=>e (by simp [h]))])
  (by
   rintro _ ⟨rfl,ht⟩;refine⟨_,h2 _ (Nat.le_refl _),?_⟩;rw [List.take_of_length_le (Nat.le_refl _),List.take_of_length_le (by omega)]at ht
   rw [if_pos ht]) 0 (Nat.zero_le _) 0 ⟨rfl,by simp⟩
 rw [q1,q2]
end
section
open Go
abbrev Mx:=Int×Int×Sl Int×Sl Int×Sl Int
abbrev E3:=Int×Int×Int
end
section
open Go Sm
def bel(a b:E3):Bool:=klt (key a) (key b)
theorem bel_iff{a b:E3}:bel a b=true↔a.1<b.1∨a.1=b.1/\a.2.1<b.2.1:=by unfold bel klt key;simp
abbrev iN(l:List E3):Prop:=l.Pairwise λa b=>bel a b=true
def Uc(n:Nat)(f:Nat->Int):List Int:=(List.range (n+1)).map f
def Ud(l:List E3)(k:Nat):Nat:=l.countP λx=>decide (x.1<(k:Int))
end
section
open Go Sm
abbrev RG(r:Int):Rg:=⟨ofW,ld r,dn⟩
end
section
open Go Sm
def Hj{α:Type}(l:List α)(k:Nat)(y:α):List α:=l.take k++y::l.drop k
theorem Hk{α:Type}{l:List α}{k:Nat}(y:α):(Hj l k y).length=l.length+1:=by unfold Hj;simp;omega
def pos(S:List (Ky×V))(e:E3):Nat:=(S.takeWhile λp=>klt p.1 (key e)).length
theorem Hl(R:Rg)(e:E3):∀(S:List (Ky×V)),ins R S e=if h:pos S e<S.length then(if klt (key e) (S[pos S e]'h).1=true then Hj S (pos S e) (key e,R.o e.2.2)else S.set (pos S e) ((S[pos S e]'h).1,R.ad (S[pos S e]'h).2 (R.o e.2.2)))else S++ [(key e,R.o e.2.2)]
 | []=>by simp [ins,pos]
 |p::S=>by
  have ih:=Hl R e S;unfold ins;by_cases hp:klt p.1 (key e)=true
  .have hpos:pos (p::S) e=pos S e+1:=by unfold pos;simp [List.takeWhile_cons,hp]
   rw [if_pos hp,ih];simp only [hpos,List.length_cons,Nat.add_lt_add_iff_right,List.getElem_cons_succ];split
   .split
    .unfold Hj;simp
    .simp
   .simp
  .have hpos:pos (p::S) e=0:=by unfold pos;simp [List.takeWhile_cons,hp]
   rw [if_neg hp];simp only [hpos,List.length_cons,Nat.zero_lt_succ,dif_pos,List.getElem_cons_zero];split
   .unfold Hj;simp
   .simp
theorem JY(R:Rg)(l:List E3):(eR R l).length<=l.length:=by
 have key:∀(S:List (Ky×V)) e,(ins R S e).length<=S.length+1:=by
  intro S e;rw [Hl];split
  .split
   .rw [Hk];omega
   .simp
  .simp
 have:∀(l:List E3) (S:List (Ky×V)),(l.foldl (ins R) S).length<=S.length+l.length:=by
  intro l
  induction l with
  |nil=>intro S;simp
  |cons e l ih=>intro S;have h1:=ih (ins R S e);have h2:=key S e;simp only [List.foldl_cons,List.length_cons];omega
 simpa [eR]using this l []
end
section
open Go Sm
theorem risL_iff:∀{l:List E3},fg l=true↔iN l
 | []=>by simp [fg,iN]
 | [a]=>by simp [fg,iN]
 |a::b::r=>by
  rw [sv,Bool.and_eq_true,risL_iff];constructor
  .rintro⟨h1,h2⟩;refine List.pairwise_cons.2 ⟨λy hy=> ?_,h2⟩;rcases List.mem_cons.1 hy with rfl|hy
   .exact h1
   .exact pu h1 ((List.pairwise_cons.1 h2).1 y hy)
  .intro h;obtain⟨h1,h2⟩:=List.pairwise_cons.1 h;exact⟨h1 b (by simp),h2⟩
theorem pS{n:Int}(h:ga n):dn (ofW n)=(n,true):=by
 unfold dn
 have e:IntKind.i64.wrap (ofW n).2=n:=by
  unfold ofW;simp only;rw [wrap_u64,IntKind.wrap_i64];unfold ga at h;omega
 rw [e,if_pos rfl]
def w64(l:List E3):Prop:=∀x∈l,ga x.1/\ga x.2.1/\ga x.2.2
theorem tu{r:Int}{l:List E3}(h:iN l)(hw:∀x∈l,ga x.2.2):bJ (RG r) l=(l,0):=by
 have hc:=zr (RG r) l h
 have ha:(eR (RG r) l).all (λp=>((RG r).na p.2).2)=true:=by
  rw [hc,List.all_eq_true];intro p hp;obtain⟨e,he,rfl⟩:=List.mem_map.1 hp;show(dn (ofW e.2.2)).2=true;rw [pS (hw e he)]
 unfold bJ;rw [if_pos ha,hc,List.map_map]
 have:l.map (toE (RG r)∘ λe=>(key e,(RG r).o e.2.2))=l:=by
  refine(List.map_congr_left (g:=id) λe he=> ?_).trans (List.map_id l);show(e.1,e.2.1,(dn (ofW e.2.2)).1)=e;rw [pS (hw e he)]
 rw [this]
theorem ko{r:Int}{l:List E3}:iN (bJ (RG r) l).1/\(bJ (RG r) l).1.length<=l.length/\(∀x∈(bJ (RG r) l).1,ga x.2.2/\∃y∈l,y.1=x.1/\y.2.1=x.2.1)/\((bJ (RG r) l).2=0∨bJ (RG r) l=([],12)):=by
 unfold bJ;split
 .refine⟨?_,by rw [List.length_map];exact JY _ _,λx hx=> ?_,.inl rfl⟩
  .show((eR (RG r) l).map (toE (RG r))).Pairwise _;rw [List.pairwise_map];exact(eZ (RG r) l).1
  .obtain⟨p,hp,rfl⟩:=List.mem_map.1 hx;refine⟨?_,?_⟩
   .show ga (dn p.2).1;unfold dn;split
    .exact zx _
    .unfold ga;omega
   .obtain⟨e,he,hk⟩:=xM (((eZ (RG r) l).2 p.1 p.2).1 hp);have h1:=congrArg Prod.fst hk;have h2:=congrArg Prod.snd hk;exact⟨e,he,h1,h2⟩
 .exact⟨List.Pairwise.nil,Nat.zero_le _,by simp,.inr rfl⟩
theorem pT{n:Int}(h:ga n):Eg.inB n=true/\Eg.inB n=true:=by
 unfold ga at h;simp [Eg.inB,Eg.inB,h.1,h.2]
theorem Hm{x:Sl E3}(hs:okS 3 x)(hn:x.nn=false->x.l= [])(hl:x.l.length<=65536)(hw:w64 x.l):Eg.okB x=true/\Eg.okB x=true:=by
 have h1:x.l.length<=90000:=by omega
 have h2:x.sz=3∨x.l= []:=hs.symm
 have h3:x.nn=true∨x.l= []:=by
  cases h:x.nn with
  |true=>exact .inl rfl
  |false=>exact .inr (hn h)
 constructor
 .simp only [Eg.okB,Bool.and_eq_true,Bool.or_eq_true,decide_eq_true_eq,List.isEmpty_iff,List.all_eq_true];exact⟨⟨⟨h1,λe he=>⟨(pT (hw e he).1).1,(pT (hw e he).2.1).1,(pT (hw e he).2.2).1⟩⟩,h2⟩,h3⟩
 .simp only [Eg.okB,Bool.and_eq_true,Bool.or_eq_true,decide_eq_true_eq,List.isEmpty_iff,List.all_eq_true];exact⟨⟨⟨h1,λe he=>⟨(pT (hw e he).1).2,(pT (hw e he).2.1).2,(pT (hw e he).2.2).2⟩⟩,h2⟩,h3⟩
theorem jB{r:Int}{x:Sl E3}(hr:jO r=true)(hs:okS 3 x)(hn:x.nn=false->x.l= [])(hl:x.l.length<=65536)(hw:w64 x.l):∃s:Sl E3,cA r x=some (s,(bJ (RG r) x.l).2)/\okS 3 s/\(s.nn=false->s.l= [])/\s.l=(bJ (RG r) x.l).1:=by
 have h1:cA r x=Eg.fn (r,x):=rfl;rw [h1];unfold Eg.fn;rw [if_pos hr,if_pos (Hm hs hn hl hw).2];by_cases hr:fg x.l=true
 .simp only [if_pos hr];rw [tu (risL_iff.1 hr) λe he=>(hw e he).2.2];exact⟨_,rfl,.inr rfl,hn,rfl⟩
 .simp only [if_neg hr];have hR:Eg.RG r=RG r:=rfl;rw [hR];by_cases h0:(bJ (RG r) x.l).2=0
  .rw [if_pos h0,h0];exact⟨_,rfl,.inr rfl,(by simp),rfl⟩
  .rw [if_neg h0];have he:=(ko (r:=r) (l:=x.l)).2.2.2.resolve_left h0;rw [he];exact⟨_,rfl,.inl rfl,λ_=>rfl,rfl⟩
def inM(n c:Int)(x:E3):Bool:=decide (0<=x.1/\x.1<n/\0<=x.2.1/\x.2.1<c)
theorem OU{α:Type}{p:α->Bool}{l:List α}{j:Nat}(hj:j<l.length)(h:p l[j]=false):l.all p=false:=by
 rw [Bool.eq_false_iff];intro ha;rw [List.all_eq_true.1 ha _ (List.getElem_mem hj)]at h;cases h
end
section
open Go Sm
theorem BO{α:Type}[DecidableEq α]{x y:Sl α}(hl:x.l.length<=9223372036854775806){w:Nat}(hx:okS w x)(hy:okS w y){b:Int->Option (Int ⊕ PUnit ⊕ Bool ⊕ Empty)}
  (hb:∀a,b a=if a<(x.l.length:Int)then(atS w x a).bind λu=>(atS w y a).bind λv=>if u≠v then some (.inr (.inr (.inl false)))else some (.inl (IntKind.i64.wrap (a+1)))else some (.inr (.inl ()))):
  (if(x.l.length:Int)≠(y.l.length:Int)then some false else(bu b 0).bind λ(y:PUnit ⊕ Bool ⊕ Empty)=>Sum.elim (λ_=>some true) (λv=>Sum.elim (λv=>some v) (λv=>nE v) v) y)=some (decide (x.l=y.l)):=by
 by_cases h:x.l.length=y.l.length
 .rw [if_neg (by omega)]
  rw [Ff h (b:=b) (λj hj=>by
   rw [hb,if_pos (by omega),wu hx (List.getElem?_eq_getElem hj),wu hy (List.getElem?_eq_getElem (by omega))];simp only [zbS];by_cases he:x.l[j]=y.l[j]
   .rw [if_neg (by simp [he]),if_pos he,jg hj (by omega)]
   .rw [if_pos he,if_neg he]) (λj hj=>by rw [hb,if_neg (by omega)])]
  by_cases he:x.l=y.l
  .simp [he]
  .simp [he]
 .rw [if_pos (by omega),decide_eq_false];exact λhe=>h (by rw [he])
theorem Nr{x:Sl E3}(h:K.W (.S (.C (.I .i64) (.C (.I .i64) (.I .i64)))) x):okS 3 x/\(x.nn=false->x.l= [])/\w64 x.l:=⟨.inr h.1,h.2.1,λy hy=>⟨xP (h.2.2.2 y hy).1,xP (h.2.2.2 y hy).2.1,xP (h.2.2.2 y hy).2.2⟩⟩
end
section
open Go Sm
structure Is(m:Mx)(n c:Int)(l:List E3):Prop where
 hn:0<=n/\n<=4096
 hc:0<=c/\c<=4096
 len:l.length<=65536
 r:iN l
 p:∀x∈l,(0<=x.1/\x.1<n)/\0<=x.2.1/\x.2.1<c
 v:∀x∈l,ga x.2.2
 e1:m.1=n
 e2:m.2.1=c
 e3:m.2.2.1.l=Uc n.toNat λk=>((Ud l k:Nat):Int)
 e4:m.2.2.2.1.l=l.map (·.2.1)
 e5:m.2.2.2.2.l=l.map (·.2.2)
 o3:okS 1 m.2.2.1
 o4:okS 1 m.2.2.2.1
 o5:okS 1 m.2.2.2.2
section
variable {m : Mx} {n c : Int} {l : List E3}
theorem Fg(h:iN l){x y:E3}(hx:x∈l)(hy:y∈l)(h1:x.1=y.1)(h2:x.2.1=y.2.1):x=y:=by
 obtain⟨a,ha,rfl⟩:=List.mem_iff_getElem.1 hx;obtain⟨b,hb,rfl⟩:=List.mem_iff_getElem.1 hy;have hp:=List.pairwise_iff_getElem.1 h;by_cases hab:a=b
 .subst hab;rfl
 .rcases Nat.lt_or_gt_of_ne hab with hl|hl
  .have:=bel_iff.1 (hp a b ha hb hl);omega
  .have:=bel_iff.1 (hp b a hb ha hl);omega
end
end
section
open Go Sm
end
section
open Go Sm
def bL(x:E3):E3:=(x.2.1,x.1,x.2.2)
theorem wv(x:E3):bL (bL x)=x:=rfl
theorem tv{x y:E3}(h:bL x=bL y):x=y:=by rw [<-wv x,h,wv]
theorem mem_flip{l:List E3}{x:E3}:x∈l.map bL↔bL x∈l:=by
 constructor
 .intro h;obtain⟨y,hy,rfl⟩:=List.mem_map.1 h;exact hy
 .exact λh=>List.mem_map.2 ⟨_,h,rfl⟩
def leE(a b:E3):Bool:= !bel b a
theorem rI{a b:E3}:leE a b=true↔¬(b.1<a.1∨b.1=a.1/\b.2.1<a.2.1):=by
 unfold leE;rw [<-bel_iff];cases bel b a<;>simp
def iO(l:List E3):List E3:=(l.map bL).mergeSort leE
theorem ww(l:List E3):(iO l).Perm (l.map bL):=List.mergeSort_perm _ _
theorem turn_mem{l:List E3}{x:E3}:x∈iO l↔bL x∈l:=by rw [(ww l).mem_iff,mem_flip]
theorem kp{l:List E3}(h:iN l):l.Nodup:=h.imp λ{a b} hab he=>by
 subst he
 have:=bel_iff.1 hab
 omega
theorem BP{l:List E3}(h:iN l):iN (iO l):=by
 have h1:(iO l).Pairwise λa b=>leE a b=true:=List.pairwise_mergeSort (λa b c hab hbc=>by rw [rI]at*;omega) (λa b=>by
  rw [Bool.or_eq_true,rI,rI];omega) _
 have h2:(iO l).Nodup:=(ww l).nodup_iff.2 (List.pairwise_map.2 ((kp h).imp λ{a b} hab he=>hab (tv he)));rw [iN,List.pairwise_iff_getElem];intro i j hi hj hij;have p1:=List.pairwise_iff_getElem.1 h1 i j hi hj hij;have p2:=List.pairwise_iff_getElem.1 h2 i j hi hj hij;rw [rI]at p1;rw [bel_iff];by_cases hk:(iO l)[i].1=(iO l)[j].1/\(iO l)[i].2.1=(iO l)[j].2.1
 .have m1:=turn_mem.1 (List.getElem_mem hi);have m2:=turn_mem.1 (List.getElem_mem hj);exact absurd (tv (Fg h m1 m2 hk.2 hk.1)) p2
 .omega
theorem Fh{l l':List E3}(h:iN l)(h':iN l')(hm:∀x,x∈l↔x∈l'):l=l':=
 List.Perm.eq_of_pairwise (le:=λa b=>bel a b=true) (λa b _ _ h1 h2=>by rw [bel_iff]at h1 h2;omega) h h' ((List.perm_ext_iff_of_nodup (kp h) (kp h')).2 hm)
section
variable {m : Mx} {n c : Int} {l : List E3}
end
end
section
open Go Sm
section
variable {m : Mx}
end
end
section
open Go Sm
abbrev Cx:=Int×Int×Sl Int×Sl Int×Sl Int×Sl Int
section
variable {T : List E3}
end
section
variable {c : Cx} {n k : Int} {T : List E3}
end
section
variable {c : Cx}
end
end
section
open Go Sm
section
variable {m : Mx} {n c : Int} {l : List E3}
end
end
section
open Go Sm
section
variable {m : Mx} {n c : Int} {l : List E3}
end
end
section
open Go Sm
section
variable {c : Cx} {n k : Int} {T : List E3}
theorem getD_some{l:List Int}{i:Nat}{x:Int}(h:l[i]? =some x):l.getD i 0=x:=by rw [List.getD_eq_getElem?_getD,h];rfl
end
end
section
open Go Sm
section
variable {m : Mx} {n k : Int} {l T : List E3} {c : Cx}
end
end
section
open Go Sm
section
variable {m : Mx} {n c : Int} {l : List E3}
end
end
section
open Go Sm
theorem Fi{α:Type}[DecidableEq α]{x y:Sl α}(hl:x.l.length<=9223372036854775806){w:Nat}(hx:okS w x)(hy:okS w y){b:Int->Option (Int ⊕ PUnit ⊕ Bool ⊕ Empty)}{P:α->α->Prop}[∀u v,Decidable (P u v)](hP:∀u v,P u v↔u=v)
  (hb:∀a,b a=if a<(x.l.length:Int)then(atS w x a).bind λu=>(atS w y a).bind λv=>if¬P u v then some (.inr (.inr (.inl false)))else some (.inl (IntKind.i64.wrap (a+1)))else some (.inr (.inl ()))):
  (if(x.l.length:Int)≠(y.l.length:Int)then some false else(bu b 0).bind λ(y:PUnit ⊕ Bool ⊕ Empty)=>Sum.elim (λ_=>some true) (λv=>Sum.elim (λv=>some v) (λv=>nE v) v) y)=some (decide (x.l=y.l)):=by
 refine BO hl hx hy λa=> ?_;rw [hb];by_cases h:a<(x.l.length:Int)
 .rw [if_pos h,if_pos h]
  cases atS w x a with
  |none=>rfl
  |some u=>
   cases atS w y a with
   |none=>rfl
   |some v=>
    simp only [zbS];by_cases he:u=v
    .rw [if_neg (λhh=>hh ((hP u v).2 he)),if_neg (λhh=>hh he)]
    .rw [if_pos (λhh=>he ((hP u v).1 hh)),if_pos he]
 .rw [if_neg h,if_neg h]
section
variable {m m' : Mx} {n c : Int} {l : List E3}
end
end
section
open Go Sm
section
variable {m : Mx} {n k : Int} {l T : List E3} {c : Cx}
end
end
section
open Go Sm
section
variable {m a : Mx} {n k : Int} {l T : List E3} {c q : Cx}
end
end
section
open Go Sm
abbrev Gr:=Int×Sl E3
theorem tw{l:List E3}(p:E3->Bool)(v:Nat->Int){b:Int->Option (Int ⊕ PUnit ⊕ Int ⊕ Empty)}(h1:∀j:Nat,(h:j<l.length)->b j=some (if p l[j]=true then .inl ((j+1:Nat):Int)else .inr (.inr (.inl (v j)))))(h2:b (l.length:Nat)=some (.inr (.inl ()))):
  (l.all p=true/\bu b 0=some (.inl ()))∨(l.all p=false/\∃j,bu b 0=some (.inr (.inl (v j)))):=by
 obtain⟨q,q1,q2⟩:=oI (b:=b) l.length (λj a=>a=(j:Int)/\(l.take j).all p=true) (λq=>(l.all p=true/\q= .inl ())∨(l.all p=false/\∃j,q= .inr (.inl (v j))))
  (by
   rintro j _ hj ⟨rfl,g⟩;rw [h1 j hj];by_cases hp:p l[j]=true
   .refine .inl ⟨_,by rw [if_pos hp],rfl,?_⟩;rw [List.take_succ_eq_append_getElem hj,List.all_append,g];simp [hp]
   .refine .inr ⟨_,by rw [if_neg hp],.inr ⟨OU hj (by simpa using hp),j,rfl⟩⟩)
  (by
   rintro _ ⟨rfl,g⟩;rw [List.take_length]at g
   exact⟨_,h2,.inl ⟨g,rfl⟩⟩) 0 (Nat.zero_le _) 0 ⟨rfl,rfl⟩
 rw [q1];rcases q2 with⟨a,rfl⟩|⟨a,j,rfl⟩
 .exact .inl ⟨a,rfl⟩
 .exact .inr ⟨a,j,rfl⟩
def wOk(x:E3):Bool:=decide (0<=x.2.2/\x.2.2<=2147483647)
def eF(g:Gr):Int:=if g.1<0 then 3 else if g.1>4096 then 5 else if g.2.l.length>65536 then 5 else if g.2.l.all (inM g.1 g.1)=true then if g.2.l.all wOk=true then 0 else 7 else 3
theorem Hn(x y:Int):cL x y=some (decide (0<=y/\y<x)):=by
 rw [rt];by_cases h:y >= 0
 .rw [if_pos h];by_cases h2:y<x
  .rw [decide_eq_true h2,decide_eq_true ⟨h,h2⟩]
  .rw [decide_eq_false h2,decide_eq_false λhh=>h2 hh.2]
 .rw [if_neg h,decide_eq_false λhh=>h hh.1]
section
variable {g : Gr}
theorem Fj(hs:okS 3 g.2)(hl:g.2.l.length<=65536)(j:Nat)(hj:j<g.2.l.length):fv g (j:Int)=some (if inM g.1 g.1 g.2.l[j]=true then .inl ((j+1:Nat):Int)else .inr (.inr (.inl (j:Int)))):=by
 have e:=iA hs hj;simp only [fv,e,zbS,jg hj (by omega),Hn];rw [if_pos (by omega)];unfold inM;simp only [decide_eq_true_eq];by_cases h1:0<=g.2.l[j].1/\g.2.l[j].1<g.1
 .rw [if_neg (λh=>h h1)];by_cases h2:0<=g.2.l[j].2.1/\g.2.l[j].2.1<g.1
  .rw [if_neg (λh=>h h2),if_pos ⟨h1.1,h1.2,h2.1,h2.2⟩]
  .rw [if_pos h2,if_neg (λh=>h2 ⟨h.2.2.1,h.2.2.2⟩)]
 .rw [if_pos h1,if_neg (λh=>h1 ⟨h.1,h.2.1⟩)]
theorem JZ(hs:okS 3 g.2)(hl:g.2.l.length<=65536)(j:Nat)(hj:j<g.2.l.length):fw g (j:Int)=some (if wOk g.2.l[j]=true then .inl ((j+1:Nat):Int)else .inr (.inr (.inl (j:Int)))):=by
 have e:=iA hs hj;simp only [fw,e,zbS,jg hj (by omega)];rw [if_pos (by omega)];unfold wOk;simp only [decide_eq_true_eq];by_cases h1:g.2.l[j].2.2<0
 .rw [if_pos h1,if_neg (by omega)]
 .by_cases h2:g.2.l[j].2.2>2147483647
  .rw [if_neg h1,if_pos h2,if_neg (by omega)]
  .rw [if_neg h1,if_neg h2,if_pos (by omega)]
theorem vJ(hs:okS 3 g.2):eJ g=some (eF g):=by
 rw [tf];unfold eF;by_cases h1:g.1<0
 .rw [if_pos h1,if_pos h1]
 by_cases h2:g.1>4096
 .rw [if_neg h1,if_pos h2,if_neg h1,if_pos h2]
 by_cases h3:g.2.l.length>65536
 .rw [if_neg h1,if_neg h2,if_pos (by omega),if_neg h1,if_neg h2,if_pos h3]
 rw [if_neg h1,if_neg h2,if_neg (by omega),if_neg h1,if_neg h2,if_neg h3];rcases tw (l:=g.2.l) (inM g.1 g.1) (λj=>(j:Int)) (Fj hs (by omega)) (by simp only [fv];rw [if_neg (by omega)])with⟨a,q⟩|⟨a,j,q⟩
 .rw [q,if_pos a];simp only [zbS,Sum.elim_inl];rcases tw (l:=g.2.l) wOk (λj=>(j:Int)) (JZ hs (by omega)) (by simp only [fw];rw [if_neg (by omega)])with⟨a,q⟩|⟨a,j,q⟩
  .rw [q,if_pos a];rfl
  .rw [q,if_neg (by rw [a];simp)];simp only [zbS,Sum.elim_inl,Sum.elim_inr];rw [if_pos (by omega)]
 .rw [q,if_neg (by rw [a];simp)];simp only [zbS,Sum.elim_inl,Sum.elim_inr];rw [if_pos (by omega)]
end
end
section
open Go Sm
theorem OV(x:Int):0<=Cu .i64 x 2147483647/\Cu .i64 x 2147483647<=2147483647:=by
 have h:(BitVec.ofInt 64 x &&& BitVec.ofInt 64 2147483647).toNat<=2147483647:=by
  rw [BitVec.toNat_and];exact Nat.le_trans Nat.and_le_right (by decide)
 have e:Cu .i64 x 2147483647=IntKind.i64.wrap (((BitVec.ofInt 64 x &&& BitVec.ofInt 64 2147483647).toNat:Nat):Int):=rfl;rw [e,dC (by omega) (by omega)];omega
theorem tA(x:Int){n:Int}(h:0<n):∃u,bK x n=some u/\0<=u/\u<n:=by
 rw [rx,if_neg (by omega)];by_cases hx:x<0
 .rw [if_pos hx];exact⟨0,rfl,by omega,h⟩
 .rw [if_neg hx];unfold IH;rw [if_pos (by omega),Int.tmod_eq_emod_of_nonneg (by omega)];exact⟨_,rfl,Int.emod_nonneg _ (by omega),Int.emod_lt_of_pos _ h⟩
structure Gd(n:Int)(l:List E3):Prop where
 n0:0<=n/\n<24
 len:l.length<=60
 p:∀x∈l,(0<=x.1/\x.1<n)/\(0<=x.2.1/\x.2.1<n)/\0<=x.2.2/\x.2.2<=2147483647
theorem Ka{x:Gr}(hs:okS 3 x.2):∃n l,eM x=some (n,mo 3 l)/\Gd n l:=by
 obtain⟨n,e,h1,h2⟩:=tA x.1 (n:=24) (by omega);rw [tr,e];simp only [zbS]
 obtain⟨q,q1,l,rfl,q2⟩:=oI (b:=gR x) x.2.l.length (λj a=>∃l,a=((j:Int),n,l)/\l.length<=j/\l.length<=60/\Gd n l) (λq=>∃l,q= .inl (n,l)/\Gd n l)
  (by
   rintro j _ hj ⟨l,rfl,g0,g1,g2⟩;simp only [gR];rw [if_pos (by omega)];by_cases c1:(j:Int)<60
   .rw [if_pos c1];by_cases c2:n>0
    .rw [if_pos c2];have ej:=iA hs hj;generalize x.2.l[j]=y at ej;obtain⟨u,u1,u2,u3⟩:=tA y.1 c2;obtain⟨w,w1,w2,w3⟩:=tA y.2.1 c2;have ha:=OV y.2.2;rw [ej];simp only [zbS];by_cases c3:l.length=0
     .obtain rfl:=List.length_eq_zero_iff.1 c3
      (try rw [if_pos (show List.length ([]:List E3)=0 from rfl)])
      rw [u1];simp only [zbS];rw [w1];simp only [zbS];rw [jf (by simp;unfold ck;omega)];simp only [zbS];rw [dC (by omega) (by omega)];refine .inl ⟨_,rfl,_,rfl,by first|(simp;omega)|simp,by first|(simp;omega)|simp,g2.n0,by first|(simp;omega)|simp,λz hz=> ?_⟩;rcases List.mem_append.1 hz with hz|hz
      .exact g2.p z hz
      .simp only [List.mem_cons,List.not_mem_nil,or_false]at hz;subst hz;exact⟨⟨u2,u3⟩,⟨w2,w3⟩,ha⟩
     ·(try rw [if_neg c3])
      rw [u1];simp only [zbS];rw [w1];simp only [zbS];rw [jf (by simp;unfold ck;omega)];simp only [zbS];rw [dC (by omega) (by omega)];refine .inl ⟨_,rfl,_,rfl,by first|(simp;omega)|simp,by first|(simp;omega)|simp,g2.n0,by first|(simp;omega)|simp,λz hz=> ?_⟩;rcases List.mem_append.1 hz with hz|hz
      .exact g2.p z hz
      .simp only [List.mem_cons,List.not_mem_nil,or_false]at hz;subst hz;exact⟨⟨u2,u3⟩,⟨w2,w3⟩,ha⟩
    .rw [if_neg c2];exact .inr ⟨_,rfl,l,rfl,g2⟩
   .rw [if_neg c1];exact .inr ⟨_,rfl,l,rfl,g2⟩)
  (by
   rintro _ ⟨l,rfl,g0,g1,g2⟩
   exact⟨_,if_neg (show¬((x.2.l.length:Nat):Int)<((x.2.l.length:Nat):Int)by omega),l,rfl,g2⟩) 0 (Nat.zero_le _) (0,n,[]) ⟨[],rfl,by simp,by simp,⟨h1,h2⟩,by simp,by simp⟩
 rw [q1];exact⟨n,l,rfl,q2⟩
section
variable {n : Int} {l : List E3}
theorem Gd.w(h:Gd n l):w64 l:=λx hx=>by
 have:=h.p x hx
 have:=h.n0
 unfold ga;omega
theorem Lu{α:Type}{w:Nat}(l:List α):(mo w l).nn=false->(mo w l).l= []:=by
 cases l with
 |nil=>exact λ_=>rfl
 |cons a l=>exact λh=>by simp [mo]at h
theorem Ho{l:List E3}:∀{f:Ky->Option V} {k:Ky} {z:V},l.foldl (Sm.upd (RG 1)) f k=some z->(∃e∈l,key e=k/\z=ofW e.2.2)∨f k=some z:=by
 induction l with
 |nil=>exact λh=> .inr h
 |cons e l ih=>
  intro f k z h;rcases ih (f:=Sm.upd (RG 1) f e) h with⟨e',h1,h2⟩|h2
  .exact .inl ⟨e',List.mem_cons_of_mem _ h1,h2⟩
  .unfold Sm.upd at h2;by_cases hk:k=key e
   .rw [if_pos hk]at h2
    cases hf:f (key e)with
    |none=>
     rw [hf]at h2;exact .inl ⟨e,by simp,hk.symm,(Option.some.inj h2).symm⟩
    |some s=>
     rw [hf]at h2;have h3:iv s (ofW e.2.2)=z:=Option.some.inj h2;unfold iv at h3;split at h3
     .exact .inl ⟨e,by simp,hk.symm,h3.symm⟩
     .right;rw [hk,hf,h3]
   .rw [if_neg hk]at h2;exact .inr h2
theorem Hp{l:List E3}(hw:w64 l){x:E3}(hx:x∈(bJ (RG 1) l).1):x∈l:=by
 unfold bJ at hx;split at hx
 .obtain⟨p,hp,rfl⟩:=List.mem_map.1 hx;have h:=((eZ (RG 1) l).2 p.1 p.2).1 hp;rcases Ho h with⟨e,h1,h2,h3⟩|h1
  .have hv:=(hw e h1).2.2
   have:toE (RG 1) p=e:=by
    unfold toE;rw [<-h2,h3];show(e.1,e.2.1,(dn (ofW e.2.2)).1)=e;rw [pS hv]
   rw [this];exact h1
  .simp at h1
 .simp at hx
theorem Gd.flip(h:Gd n l):Gd n (l.map bL):=⟨h.n0,by rw [List.length_map];exact h.len,λx hx=>by
 have:=h.p _ (mem_flip.1 hx)
 exact⟨this.2.1,this.1,this.2.2⟩⟩
def sw(k:Ky):Ky:=(k.2,k.1)
theorem Dt{R:Rg}:∀{l:List E3} {f g:Ky->Option V},(∀k,f (sw k)=g k)->∀k,(l.map bL).foldl (Sm.upd R) f (sw k)=l.foldl (Sm.upd R) g k
 | [],f,g,h,k=>h k
 |e::l,f,g,h,k=>by
  rw [List.map_cons,List.foldl_cons,List.foldl_cons];refine Dt (λk'=> ?_) k;unfold Sm.upd;have hk:key (bL e)=sw (key e):=rfl;rw [hk,h];by_cases he:k'=key e
  .rw [if_pos he,if_pos (by rw [he])];rfl
  .rw [if_neg he,if_neg (λh'=>he (by have:=congrArg sw h';exact this)),h]
theorem zT(l:List E3):(bJ (RG 1) (l.map bL)).1=iO (bJ (RG 1) l).1:=by
 have hf:∀k,fm (RG 1) (l.map bL) (sw k)=fm (RG 1) l k:=Dt λk=>rfl;have hS:=eZ (RG 1) l;have hS':=eZ (RG 1) (l.map bL)
 have hnd:(((eR (RG 1) l).map λp=>(sw p.1,p.2)).map (·.1)).Nodup:=by
  rw [List.map_map];show List.Pairwise _ _;rw [List.pairwise_map];exact hS.1.imp λ{a b} h=>λ(e:sw a.1=sw b.1)=>Bd h (show a.1=b.1 from congrArg sw e)
 have hp:((eR (RG 1) l).map λp=>(sw p.1,p.2)).Perm (eR (RG 1) (l.map bL)):=hS'.perm hnd (λp hp=>by
  obtain⟨q,hq,rfl⟩:=List.mem_map.1 hp;show fm (RG 1) (l.map bL) (sw q.1)=some q.2;rw [hf]
  exact(hS.2 q.1 q.2).1 hq) (λk z h=>by
  have h2:fm (RG 1) l (sw k)=some z:=by rw [<-hf];exact h
  exact List.mem_map.2 ⟨(sw k,z),(hS.2 _ _).2 h2,rfl⟩)
 have hall:(eR (RG 1) (l.map bL)).all (λp=>((RG 1).na p.2).2)=(eR (RG 1) l).all (λp=>((RG 1).na p.2).2):=by
  rw [Bool.eq_iff_iff,List.all_eq_true,List.all_eq_true];constructor
  .intro h p hp';exact h (sw p.1,p.2) (hp.mem_iff.1 (List.mem_map.2 ⟨p,hp',rfl⟩))
  .intro h p hp';obtain⟨q,hq,rfl⟩:=List.mem_map.1 (hp.mem_iff.2 hp');exact h q hq
 refine Fh (ko (r:=1) (l:=l.map bL)).1 (BP (ko (r:=1) (l:=l)).1) λx=> ?_;rw [turn_mem];unfold bJ;rw [hall];split
 .simp only [List.mem_map];constructor
  .rintro⟨p,h1,rfl⟩;obtain⟨q,hq,rfl⟩:=List.mem_map.1 (hp.mem_iff.2 h1);exact⟨q,hq,rfl⟩
  .rintro⟨q,hq,he⟩;refine⟨(sw q.1,q.2),hp.mem_iff.1 (List.mem_map.2 ⟨q,hq,rfl⟩),?_⟩;exact tv he
 .simp
end
end
section
open Go Sm
theorem wx{a b:Int×Int}:dm a b=true↔a.1<b.1∨a.1=b.1/\a.2<b.2:=by unfold dm;simp
theorem eN{a b:Int×Int}:dm a b=false↔¬(a.1<b.1∨a.1=b.1/\a.2<b.2):=by rw [<-wx];cases dm a b<;>simp
theorem Hq(a b:Int×Int):dm a (iv a b)=false/\dm b (iv a b)=false:=by
 unfold iv;by_cases h:dm b a=true
 .rw [if_pos h];rw [wx]at h;rw [eN,eN];omega
 .rw [if_neg h];have h':dm b a=false:=by cases hb:dm b a<;>simp_all
  refine⟨?_,h'⟩;rw [eN];omega
theorem ll{a b c:Int×Int}(h1:dm b a=false)(h2:dm c b=false):dm c a=false:=by
 rw [eN]at*;omega
theorem ym{a b:Int×Int}(h1:dm a b=false)(h2:dm b a=false):a=b:=by
 rw [eN]at*;exact Prod.ext (by omega) (by omega)
theorem tB{l:List E3}:∀{f:Ky->Option V} {k:Ky} {z:V},l.foldl (Sm.upd (RG 1)) f k=some z->((∃e∈l,key e=k/\z=ofW e.2.2)∨f k=some z)/\(∀e∈l,key e=k->dm (ofW e.2.2) z=false)/\∀s,f k=some s->dm s z=false:=by
 induction l with
 |nil=>
  intro f k z h;refine⟨.inr h,by simp,λs hs=> ?_⟩;have h:f k=some z:=h;rw [hs]at h;cases h;rw [eN];omega
 |cons e l ih=>
  intro f k z h;obtain⟨h1,h2,h3⟩:=ih (f:=Sm.upd (RG 1) f e) h;by_cases hk:k=key e
  ·-- what stands there behind this one
   have ht:∃t,Sm.upd (RG 1) f e k=some t/\(t=ofW e.2.2∨f k=some t)/\dm (ofW e.2.2) t=false/\∀s,f k=some s->dm s t=false:=by
    unfold Sm.upd;rw [if_pos hk]
    cases hf:f (key e)with
    |none=>exact⟨ofW e.2.2,rfl,.inl rfl,by rw [eN];omega,λs hs=>by rw [hk,hf]at hs;cases hs⟩
    |some s=>
     have hl:=Hq s (ofW e.2.2);refine⟨iv s (ofW e.2.2),rfl,?_,hl.2,λs' hs=> ?_⟩
     .unfold iv;split
      .exact .inl rfl
      .rw [hk];exact .inr hf
     .rw [hk,hf]at hs;cases hs;exact hl.1
   obtain⟨t,t1,t2,t3,t4⟩:=ht;have t5:=h3 t t1;refine⟨?_,λe' he hk'=> ?_,λs hs=>ll t5 (t4 s hs)⟩
   .rcases h1 with⟨e',a1,a2⟩|h1
    .exact .inl ⟨e',List.mem_cons_of_mem _ a1,a2⟩
    .rw [t1]at h1;cases h1;rcases t2 with rfl|t2
     .exact .inl ⟨e,by simp,hk.symm,rfl⟩
     .exact .inr t2
   .rcases List.mem_cons.1 he with rfl|he
    .exact ll t5 t3
    .exact h2 e' he hk'
  .have hu:Sm.upd (RG 1) f e k=f k:=by unfold Sm.upd;rw [if_neg hk]
   rw [hu]at h1 h3;refine⟨?_,λe' he hk'=> ?_,h3⟩
   .rcases h1 with⟨e',a1,a2⟩|h1
    .exact .inl ⟨e',List.mem_cons_of_mem _ a1,a2⟩
    .exact .inr h1
   .rcases List.mem_cons.1 he with rfl|he
    .exact absurd hk'.symm hk
    .exact h2 e' he hk'
theorem BQ{l:List E3}:∀{f:Ky->Option V} {k:Ky},((∃e∈l,key e=k)∨∃s,f k=some s)->∃z,l.foldl (Sm.upd (RG 1)) f k=some z:=by
 induction l with
 |nil=>
  intro f k h;rcases h with⟨e,he,_⟩|h
  .simp at he
  .exact h
 |cons e l ih=>
  intro f k h;refine ih (f:=Sm.upd (RG 1) f e) ?_;by_cases hk:k=key e
  .right
   unfold Sm.upd;rw [if_pos hk];exact⟨_,rfl⟩
  .rcases h with⟨e',he,hk'⟩|⟨s,hs⟩
   .rcases List.mem_cons.1 he with rfl|he
    .exact absurd hk'.symm hk
    .exact .inl ⟨e',he,hk'⟩
   .right
    unfold Sm.upd;rw [if_neg hk];exact⟨s,hs⟩
end
section
open Go Sm
theorem Kb(n:Int){s:Sl E3}(hs:okS 3 s)(hn:s.nn=false->s.l= [])(hl:s.l.length<=65536)(hw:w64 s.l):∃s':Sl E3,eL (n,s)=some (n,s')/\okS 3 s'/\(s'.nn=false->s'.l= [])/\s'.l=(bJ (RG 1) s.l).1:=by
 obtain⟨s',e1,e2,e3,e4⟩:=jB (r:=1) (by decide) hs hn hl hw;rw [tk];simp only;rw [e1];exact⟨s',rfl,e2,e3,e4⟩
theorem Hr{n:Int}{x y:Sl E3}(hl:x.l.length<=65536)(hx:okS 3 x)(hy:okS 3 y)(h:x.l=y.l):eD (n,x) (n,y)=some true:=by
 rw [vG];simp only;rw [if_pos trivial]
 have e:aI x y=some (decide (x.l=y.l)):=by
  rw [eT];exact Fi (by omega) hx hy (P:=λu v=>u.fst=v.fst/\u.snd.fst=v.snd.fst/\u.snd.snd=v.snd.snd) (λu v=>by rw [Prod.ext_iff,Prod.ext_iff]) λa=>by unfold cm;rfl
 rw [e,decide_eq_true h];simp
end
section
open Go Sm
theorem zU{a b:Int}(ha:ga a)(hb:ga b)(h:a<=b):dm (ofW b) (ofW a)=false:=by
 unfold ga at ha hb;rw [eN];unfold ofW;simp only [wrap_u64];split<;>split<;>omega
def Dom(l l':List E3):Prop:=∀e∈l,∃x∈l',key x=key e/\x.2.2<=e.2.2
theorem Ns{l l':List E3}(hw:w64 l)(hw':w64 l')(h1:Dom l l')(h2:Dom l' l):fm (RG 1) l=fm (RG 1) l':=by
 have half:∀{l l':List E3},w64 l->w64 l'->Dom l l'->Dom l' l->∀k z,fm (RG 1) l k=some z->fm (RG 1) l' k=some z:=λ{l l'} hw hw' h1 h2 k z hz=>by
  obtain⟨a1,a2,_⟩:=tB hz;rcases a1 with⟨e,e1,e2,e3⟩|a1
  .obtain⟨x,x1,x2,x3⟩:=h1 e e1;obtain⟨z',hz'⟩:=BQ (l:=l') (f:=λ_=>none) (k:=k) (.inl ⟨x,x1,by rw [x2,e2]⟩);obtain⟨b1,b2,_⟩:=tB hz'
   have d2:dm z z'=false:=by
    rw [e3];exact ll (b2 x x1 (by rw [x2,e2])) (zU (hw' x x1).2.2 (hw e e1).2.2 x3)
   rcases b1 with⟨e',c1,c2,c3⟩|b1
   .obtain⟨y,y1,y2,y3⟩:=h2 e' c1
    have d1:dm z' z=false:=by
     rw [c3];exact ll (a2 y y1 (by rw [y2,c2])) (zU (hw y y1).2.2 (hw' e' c1).2.2 y3)
    rw [ym d2 d1];exact hz'
   .cases b1
  .cases a1
 funext k
 cases hk:fm (RG 1) l k with
 |some z=>exact(half hw hw' h1 h2 k z hk).symm
 |none=>
  cases hk':fm (RG 1) l' k with
  |none=>rfl
  |some z=>
   have:=half hw' hw h2 h1 k z hk'
   rw [hk]at this;cases this
theorem Kc{l l':List E3}(hw:w64 l)(hw':w64 l')(h1:Dom l l')(h2:Dom l' l):bJ (RG 1) l=bJ (RG 1) l':=by
 have hc:eR (RG 1) l=eR (RG 1) l':=(eZ (RG 1) l).uniq (by rw [Ns hw hw' h1 h2];exact eZ (RG 1) l');unfold bJ;rw [hc]
end
end Ev
end
noncomputable section
namespace Ev
open Go Sm
def bts(x:Int)(k:Nat):List Int:=(List.range k).map λi=>x / 256 ^ i % 256
theorem fx(x:Int)(k:Nat):(bts x k).length=k:=by simp [bts]
theorem Nt(x:Int)(k i:Nat)(h:i<k):(bts x k)[i]? =some (x / 256 ^ i % 256):=by simp [bts,h]
theorem Hs(x:Int)(k:Nat):bts x (k+1)=bts x k++ [x / 256 ^ k % 256]:=by simp [bts,List.range_succ]
theorem ol{x:Int}{k:Nat}{y:Int}(h:y∈bts x k):0<=y/\y<=255:=by
 simp only [bts,List.mem_map]at h;obtain⟨i,_,rfl⟩:=h;omega
theorem zV{b:Int×List Int->Option (Int×List Int ⊕ List Int ⊕ Empty)}{x:Int}{k:Nat}
  (hb:∀(i:Nat) (L:List Int),i<k->L.length=k->b ((i:Int),L)=some (.inl (((i+1:Nat):Int),L.set i (x / 256 ^ i % 256))))
  (he:∀L,b ((k:Int),L)=some (.inr (.inl L))):bu b (0,List.replicate k 0)=some (.inl (bts x k)):=by
 refine lk k (λi=>((i:Int),bts x i++List.replicate (k - i) 0)) (by simp [bts]) (λi hi=> ?_) ?_
 .rw [hb i _ hi (by simp [fx];omega)];congr 3;rw [Hs];obtain⟨d,rfl⟩:∃d,k=i+1+d:=⟨k - (i+1),by omega⟩;rw [show i+1+d - i=d+1 by omega,show i+1+d - (i+1)=d by omega,List.replicate_succ,List.set_append_right _ _ (by rw [fx];exact Nat.le_refl _),fx,Nat.sub_self,List.set_cons_zero,List.append_assoc];rfl
 .rw [Nat.sub_self,List.replicate_zero,List.append_nil,he]
theorem Ht(i:Nat)(h:i<8):IntKind.u64.wrap (IntKind.i64.wrap (8*(i:Int)))=((8*i:Nat):Int):=by
 rw [dC (by omega) (by omega),wrap_u64];omega
theorem zW{k:IntKind}{x:Int}{i:Nat}(h:8*i<=k.bits):yx k x ((8*i:Nat):Int)=some (x / 256 ^ i):=by
 unfold yx KA;rw [if_pos (by omega),Int.toNat_natCast,Nat.min_eq_left h,Int.fdiv_eq_ediv_of_nonneg _ (Int.le_of_lt (Int.pow_pos (by decide))),Int.pow_mul];rfl
theorem Kd(n:Int):IntKind.u8.wrap n=n % 256:=by
 simp [IntKind.wrap,IntKind.signed,IntKind.bits]
theorem Hu{n:Int}(h:0<=n/\n<4294967296):IntKind.u32.wrap n=n:=by
 have:IntKind.u32.wrap n=n % 4294967296:=by simp [IntKind.wrap,IntKind.signed,IntKind.bits]
 rw [this,Int.emod_eq_of_lt h.1 h.2]
theorem Ke(x:Int):eK x=some (bts x 4):=by
 rw [tj,lL,tV];have h1:tU 4=some ():=rfl;rw [h1];simp only [zbS]
 have q:=zV (b:=cD x 4) (x:=x) (k:=4) (λi L hi hL=>by
  simp only [cD];rw [if_pos (by simp;omega),Ht i (by omega),zW (by show 8*i<=32;omega),wq (List.getElem?_eq_getElem (by omega))];simp only [zbS];rw [dC (by omega) (by omega),Kd]
  rfl) (λL=>by
  simp only [cD]
  rw [if_neg (by simp)])
 rw [show Int.toNat 4=4 from rfl,q];rfl
theorem Nu{x:Int}(h:0<=x/\x<256):fJ x=some [x]:=by
 rw [vD,mR,tV];have h1:tU 1=some ():=rfl;rw [h1];simp only [zbS]
 have q:=zV (b:=cO x 1) (x:=x) (k:=1) (λi L hi hL=>by
  obtain rfl:i=0:=by omega
  simp only [cO];rw [if_pos (by simp),Ht 0 (by omega),zW (by show 8*0<=8;omega),wq (List.getElem?_eq_getElem (by omega))];simp only [zbS];rw [dC (by omega) (by omega)];rw [show x / 256 ^ 0 % 256=x / 256 ^ 0 by rw [Int.pow_zero,Int.ediv_one];omega]
  rfl) (λL=>by
  simp only [cO]
  rw [if_neg (by simp)])
 rw [show Int.toNat 1=1 from rfl,q];simp only [zbS,Sum.elim_inl];simp [bts];omega
def b4s(l:List Int):List Int:=l.flatMap λn=>bts n 4
theorem lq(l:List Int):(b4s l).length=4*l.length:=by
 induction l with
 |nil=>rfl
 |cons a r ih=>simp only [b4s,List.flatMap_cons,List.length_append,fx,List.length_cons]at*;omega
theorem Hv{s:Sl Int}(hs:okS 1 s)(hl:s.l.length<=1000)(h:∀y∈s.l,0<=y/\y<4294967296):dB s=some (b4s s.l):=by
 rw [vF]
 have q:bu (fT s) ([],0)=some (.inl (b4s s.l)):=by
  rw [show b4s s.l=b4s (s.l.take s.l.length)by rw [List.take_length]];refine lk s.l.length (λi=>(b4s (s.l.take i),(i:Int))) (by simp [b4s]) (λi hi=> ?_) ?_
  .simp only [fT];rw [if_pos (by omega),iA hs hi];simp only [zbS];rw [Hu (h _ (List.getElem_mem hi)),Ke];simp only [zbS];rw [jf (by rw [lq,fx];simp;unfold ck;omega),jg hi (by omega)];simp only [zbS];rw [List.take_succ_eq_append_getElem hi];simp only [b4s,List.flatMap_append,List.flatMap_cons,List.flatMap_nil,List.append_nil]
  .simp only [fT];rw [if_neg (by omega)]
 rw [q];rfl
end Ev
end
noncomputable section
namespace Ev
open Go Sm
theorem Hw{n:Int}{g:Nat->Int}:∀(k:Nat),(∀i,i<k->g i=n / 256 ^ i % 256)->le g k=n % 256 ^ k
 |0,_=>by simp [le,Int.emod_one]
 |k+1,h=>by
  rw [le,Hw k λi hi=>h i (by omega),h k (by omega)];have hp:(0:Int)<256 ^ k:=Int.pow_pos (by decide);have e1:(2:Int)^(8*k)=256 ^ k:=by rw [Int.pow_mul];rfl
  rw [e1];have e2:n /(256 ^ k*256)=n / 256 ^ k / 256:=(Int.ediv_ediv_of_nonneg (Int.le_of_lt hp)).symm;rw [Int.pow_succ];generalize (256:Int)^ k=M at hp e2 ⊢;rw [Int.emod_def n (M*256),e2,Int.emod_def n M,Int.emod_def (n / M) 256];generalize n / M / 256=q;generalize n / M=r;rw [Int.sub_mul,Int.mul_comm r M,Int.mul_comm 256 q,Int.mul_assoc q 256 M,Int.mul_comm 256 M,Int.mul_comm q (M*256)];omega
theorem om{f:Nat->Int}{m:Nat}{B pre post:List Int}{n most e:Int}(hB:B=pre++(bts n 4++post))(hf:∀i,i<m->f i=B.getD i 0)(h0:0<=n)(h1:n<=most)(h2:most<=2147483647):
  eB f m pre.length most e=if pre.length+4<=m then .ok (n,pre.length+4)else .error (2,(m:Int)):=by
 unfold eB;by_cases h:pre.length+4<=m
 .have hl:le (λi=>f (pre.length+i)) 4=n:=by
   rw [Hw (n:=n) 4 λi hi=>by
    rw [hf _ (by omega),hB,List.getD_eq_getElem?_getD,List.getElem?_append_right (by omega),Nat.add_sub_cancel_left,List.getElem?_append_left (by rw [fx];exact hi),Nt _ _ _ hi]
    rfl]
   omega
  rw [if_pos h,if_pos h,hl,if_neg (by omega)]
 .rw [if_neg h,if_neg h]
theorem Hx{f:Nat->Int}{m k:Nat}{B A post:List Int}(hB:B=A++post)(hf:∀i,i<m->f i=B.getD i 0)(hk:A.length=k)(hm:k<=m):gy f 0 k=A:=by
 unfold gy;apply List.ext_getElem?;intro i;simp only [List.getElem?_map];by_cases h:i<k
 .rw [List.getElem?_range h];simp only [Option.map_some,Nat.zero_add];rw [hf i (by omega),hB,List.getD_eq_getElem?_getD,List.getElem?_append_left (by omega)];rw [List.getElem?_eq_getElem (by omega)];rfl
 .rw [List.getElem?_eq_none (by simpa using h),List.getElem?_eq_none (by omega)];rfl
end Ev
end
noncomputable section
namespace Ev
open Go Sm
end Ev
end
noncomputable section
namespace Ev
open Go Sm
end Ev
end
noncomputable section
namespace Ev
open Go Sm
theorem Hy{α:Type}{g:α->List Int}(hg:∀a,∀e∈g a,0<=e/\e<=255)(l:List α):∀e∈l.flatMap g,0<=e/\e<=255:=λe he=>by
 obtain⟨a,_,h⟩:=List.mem_flatMap.1 he;exact hg a e h
theorem Hz{L:List Int}(h:∀e∈L,0<=e/\e<=255)(hl:L.length<=100000):Sm.Be.okY ⟨true,1,L⟩=true:=by
 simp only [Sm.Be.okY,Bool.and_eq_true,Bool.or_eq_true,decide_eq_true_eq,List.isEmpty_iff,List.all_eq_true];exact⟨hl,h,.inl trivial⟩
theorem tC(l:List E3):okS 3 (Sm.Dc.liS l):= .inr rfl
end Ev
end
end Go.Proofs.Ytoamaaicfjkmhaa
