/- Texts of a claim, joined. -/
import Derived.Test.YtpcmabdifkoihaaDoorZA11
set_option linter.unusedVariables false
set_option linter.unusedSimpArgs false
namespace Go.Proofs.YtpcmabdifkoihaaDoor
noncomputable section
namespace Ev
namespace K
open Go Go.RowKit
set_option maxRecDepth 100000
set_option maxHeartbeats 1000000
def yp:Ax:=(cO (cO (λ_=>none) 12 (uR Sm.Pu.ins .fresh Sm.Pu.outs Sm.Pu.fn)) 14 (uR Sm.Dr.ins .fresh Sm.Dr.outs Sm.Dr.fn))
theorem qS:ya Tryd.prog yp:=(aW (aW (sA _) (FC Sm.Pu.enters Sm.Pu.pure_ok)) (FC Sm.Dr.enters Sm.Dr.pure_ok))
def tu:Ax:=(cO (cO (cO (cO (cO (cO (cO (cO yp 31 eT) 46 eT) 47 eT) 53 eT) 57 eT) 65 eT) 66 eT) 68 eT)
theorem mv:ya Tryd.prog tu:=(aW (aW (aW (aW (aW (aW (aW (aW qS λvs kind rs h=>by simp [eT]at h) λvs kind rs h=>by simp [eT]at h) λvs kind rs h=>by simp [eT]at h) λvs kind rs h=>by simp [eT]at h) λvs kind rs h=>by simp [eT]at h) λvs kind rs h=>by simp [eT]at h) λvs kind rs h=>by simp [eT]at h) λvs kind rs h=>by simp [eT]at h)
def E0:Env:=py Tryd.prog tu
theorem nM:E0.Ok:=ll nI nJ mv
def E1:Env:=py Tryd.prog tu
theorem FP:E1.Ok:=ll nI nJ mv
def iy:vals Sm.Pu.ins->Option (vals Sm.Pu.outs):=Sm.Pu.fn
def Bz:eh:=⟨12,Sm.Pu.ins,.data true Sm.Pu.outs,iy,1⟩
theorem zT:je E1 Bz:=uS rfl
def gv:vals Sm.Dr.ins->Option (vals Sm.Dr.outs):=Sm.Dr.fn
def zU:eh:=⟨14,Sm.Dr.ins,.data true Sm.Dr.outs,gv,1⟩
theorem xx:je E1 zU:=uS rfl
end K
end Ev
end
noncomputable section
namespace Ev
namespace K
open Go Go.RowKit
set_option maxRecDepth 100000
set_option maxHeartbeats 1000000
def DF:gh:= []
def DG:KG:=⟨TT,EQS,[],[]⟩
def jJ:vals [(false,.I .i64)]->Option (OutK.val (.data true [(false,.B)])):=gX DG DF SE 40 0 [(false,.I .i64)] (.data true [(false,.B)])
def vj:eh:=⟨40,[(false,.I .i64)],.data true [(false,.B)],jJ,1⟩
def xy:gh:= []
def xz:KG:=⟨TT,EQS,[],[]⟩
def fO:vals [yD2,yD2]->Option (OutK.val (.data true [(false,.B)])):=gX xz xy SK 58 0 [yD2,yD2] (.data true [(false,.B)])
def xA:eh:=⟨58,[yD2,yD2],.data true [(false,.B)],fO,1⟩
def DH:gh:= []
def DI:KG:=⟨TT,EQS,[],[]⟩
def lf:vals [(false,.I .i64)]->Option (OutK.val (.data true [yD4])):=gX DI DH SM 59 0 [(false,.I .i64)] (.data true [yD4])
def DK:eh:=⟨59,[(false,.I .i64)],.data true [yD4],lf,1⟩
def tY:gh:= []
def tZ:KG:=⟨TT,EQS,[],[]⟩
def cX:vals [yD4,yD4]->Option (OutK.val (.data true [(false,.I .i64)])):=gX tZ tY SQ 70 0 [yD4,yD4] (.data true [(false,.I .i64)])
def ua:eh:=⟨70,[yD4,yD4],.data true [(false,.I .i64)],cX,1⟩
def xB:gh:= []
def xC:KG:=⟨TT,EQS,[],[]⟩
def eW:vals [(false,.B)]->Option (OutK.val (.data true [yD4])):=gX xC xB SR 71 0 [(false,.B)] (.data true [yD4])
def xD:eh:=⟨71,[(false,.B)],.data true [yD4],eW,1⟩
def BA:gh:= [(72,⟨[⟨true,3,5,[2,4,5],⟨[(6,false,[.d true (.I .i64)])],[],[]⟩,[(.normal,⟨[(6,false,[.d true (.I .i64)])],[],[]⟩)]⟩],[]⟩)]
def BB:KG:=⟨TT,EQS,[],[]⟩
def ji:vals [yD4,yD4]->Option (OutK.val (.data true [yD4])):=gX BB BA SS 72 0 [yD4,yD4] (.data true [yD4])
def BC:eh:=⟨72,[yD4,yD4],.data true [yD4],ji,1⟩
def BD:gh:= [(60,⟨[⟨true,3,9,[4,5,6,7],⟨[],[],[]⟩,[(.normal,⟨[(9,false,[.d true .B])],[],[]⟩)]⟩],[]⟩)]
def BE:KG:=⟨TT,EQS,[ua,xD,BC],[]⟩
def jk:vals [(false,.I .i64),yD4,yD4]->Option (OutK.val (.data true [yD4])):=gX BE BD SN 60 0 [(false,.I .i64),yD4,yD4] (.data true [yD4])
def BF:eh:=⟨60,[(false,.I .i64),yD4,yD4],.data true [yD4],jk,2⟩
def vk:gh:= []
def vm:KG:=⟨TT,EQS,[],[]⟩
def eX:vals [yD4]->Option (OutK.val (.data true [(false,.I .i64),(false,.B)])):=gX vm vk SO 61 0 [yD4] (.data true [(false,.I .i64),(false,.B)])
def vn:eh:=⟨61,[yD4],.data true [(false,.I .i64),(false,.B)],eX,1⟩
def ub:gh:= [(41,⟨[⟨false,6,0,[0,1],⟨[(6,false,[.m (.C (.I .i64) (.C (.I .i64) (.I .i64)))]),(7,false,[.m (.C (.I .i64) (.I .u64))]),(8,false,[.d true (.I .i64)])],[],[]⟩,[(.exit 0,⟨[(6,false,[.m (.C (.I .i64) (.C (.I .i64) (.I .i64)))]),(7,false,[.m (.C (.I .i64) (.I .u64))])],[],[]⟩)]⟩,⟨false,9,0,[0,1,6,7,8],⟨[(9,false,[.d true (.I .i64)])],[],[]⟩,[(.exit 2,⟨[(9,false,[.d true (.I .i64)])],[],[]⟩)]⟩,⟨false,17,0,[0,1,6,7,8,9,10],⟨[(11,false,[.d true (.I .i64)])],[],[(.sl 6 0,.C (.I .i64) (.C (.I .i64) (.I .i64))),(.sl 7 0,.C (.I .i64) (.I .u64))]⟩,[(.exit 4,⟨[],[],[(.sl 6 0,.C (.I .i64) (.C (.I .i64) (.I .i64))),(.sl 7 0,.C (.I .i64) (.I .u64))]⟩)]⟩,⟨false,24,0,[7],⟨[(6,false,[.m (.C (.I .i64) (.C (.I .i64) (.I .i64)))]),(12,false,[.d true (.I .i64)])],[],[]⟩,[(.exit 6,⟨[(6,false,[.m (.C (.I .i64) (.C (.I .i64) (.I .i64)))])],[],[]⟩),(.ret,⟨[(4,false,[.m (.C (.I .i64) (.C (.I .i64) (.I .i64)))]),(5,false,[.d true (.I .i64)])],[],[]⟩)]⟩],[(13,⟨[[],[],[],[],[],[],[],[],[],[],[.sl 7 0]],[(false,[]),(false,[]),(false,[]),(false,[]),(false,[]),(false,[]),(false,[]),(false,[]),(false,[]),(false,[]),(false,[])]⟩),(21,⟨[[],[],[],[],[],[],[],[],[],[],[],[],[],[],[.sl 6 0]],[(false,[]),(false,[]),(false,[]),(false,[]),(false,[]),(false,[]),(false,[]),(false,[]),(false,[]),(false,[]),(false,[]),(false,[]),(false,[]),(false,[]),(false,[])]⟩)]⟩)]
def uc:KG:=⟨TT,EQS,[vj,xA,DK,BF,vn],[]⟩
def fv:vals [(false,.I .i64),yD0]->Option (OutK.val (.data true [yD0,(false,.I .i64)])):=gX uc ub SF 41 0 [(false,.I .i64),yD0] (.data true [yD0,(false,.I .i64)])
def ud:eh:=⟨41,[(false,.I .i64),yD0],.data true [yD0,(false,.I .i64)],fv,3⟩
def DL:gh:= [(17,⟨[⟨false,7,0,[0,1,2,6],⟨[(8,false,[.m (.C (.I .i64) (.C (.I .i64) (.I .i64)))]),(9,false,[.d true (.I .i64)])],[(6,[.d true (.I .i64),.m (.C (.I .i64) (.I .i64))])],[]⟩,[(.exit 0,⟨[(8,false,[.m (.C (.I .i64) (.C (.I .i64) (.I .i64)))])],[(6,[.d true (.I .i64),.m (.C (.I .i64) (.I .i64))])],[]⟩),(.ret,⟨[(7,false,[.d true (.I .i64)])],[(6,[.d true (.I .i64),.m (.C (.I .i64) (.I .i64))])],[]⟩)]⟩,⟨false,17,0,[6,8,11],⟨[(12,false,[.d true (.I .i64)])],[(11,[.d true (.I .i64),.m (.C (.I .i64) (.I .i64))])],[]⟩,[(.exit 2,⟨[],[(11,[.d true (.I .i64),.m (.C (.I .i64) (.I .i64))])],[]⟩)]⟩],[(11,⟨[[],[],[],[],[],[],[],[],[],[],[],[],[],[.sl 8 0],[]],[(false,[]),(false,[]),(false,[]),(false,[]),(false,[]),(false,[]),(false,[]),(false,[]),(false,[]),(false,[]),(false,[]),(false,[]),(true,[]),(true,[]),(false,[])]⟩),(19,⟨[[],[],[],[],[],[],[],[],[],[],[],[],[],[],[.bx 11 1],[],[.sl 11 0]],[(false,[]),(false,[]),(false,[]),(false,[]),(false,[]),(false,[]),(false,[]),(false,[]),(false,[]),(false,[]),(false,[]),(false,[]),(false,[]),(true,[]),(true,[]),(false,[]),(false,[])]⟩)]⟩)]
def DM:KG:=⟨TT,EQS,[vj,ud],[]⟩
def jK:vals [(false,.I .i64),(false,.I .i64),yD3]->Option (OutK.val (.data true [yD1,(false,.I .i64)])):=gX DM DL Sw 17 0 [(false,.I .i64),(false,.I .i64),yD3] (.data true [yD1,(false,.I .i64)])
def DN:eh:=⟨17,[(false,.I .i64),(false,.I .i64),yD3],.data true [yD1,(false,.I .i64)],jK,4⟩
def zV:gh:= [(4,⟨[⟨false,4,0,[1,4,5],⟨[(6,false,[.m (.C (.I .i64) (.I .i64))]),(7,false,[.d true (.I .i64)])],[],[]⟩,[(.exit 0,⟨[(6,false,[.m (.C (.I .i64) (.I .i64))])],[],[]⟩)]⟩],[(7,⟨[[],[],[],[],[],[],[],[],[],[],[],[],[],[],[],[.sl 6 0],[]],[(false,[]),(false,[]),(false,[]),(false,[]),(false,[]),(false,[]),(false,[]),(false,[]),(false,[]),(false,[]),(false,[]),(false,[]),(false,[]),(false,[]),(true,[]),(true,[]),(false,[])]⟩)]⟩)]
def zW:KG:=⟨TT,EQS,[DN],[]⟩
def jm:vals [(false,.I .u8),yD3]->Option (OutK.val (.data true [yD1])):=gX zW zV fi4 4 0 [(false,.I .u8),yD3] (.data true [yD1])
def xE:gh:= []
def xF:KG:=⟨TT,EQS,[],[]⟩
def fP:vals [(false,.I .i64)]->Option (OutK.val (.data true [(false,.I .i64)])):=gX xF xE SP 62 0 [(false,.I .i64)] (.data true [(false,.I .i64)])
def xG:eh:=⟨62,[(false,.I .i64)],.data true [(false,.I .i64)],fP,1⟩
def BG:gh:= []
def BH:KG:=⟨TT,EQS,[xG],[]⟩
def fE:vals [(false,.I .i64)]->Option (OutK.val (.own (.I .u64))):=gX BH BG SG 43 0 [(false,.I .i64)] (.own (.I .u64))
def BI:eh:=⟨43,[(false,.I .i64)],.own (.I .u64),fE,2⟩
def vo:gh:= [(21,⟨[⟨false,3,0,[8,9],⟨[(3,false,[.m (.I .i64)]),(10,false,[.d true (.I .i64)])],[],[]⟩,[(.exit 0,⟨[(3,false,[.m (.I .i64)])],[],[]⟩)]⟩],[]⟩)]
def vp:KG:=⟨TT,EQS,[kF],[]⟩
def eY:vals [yD1]->Option (OutK.val (.mown (.I .i64))):=gX vp vo Sy 21 0 [yD1] (.mown (.I .i64))
def BJ:gh:= []
def BM:KG:=⟨TT,EQS,[],[]⟩
def eC:vals [(false,.I .i64)]->Option (OutK.val (.data true [(false,.I .u64)])):=gX BM BJ SH 44 0 [(false,.I .i64)] (.data true [(false,.I .u64)])
def lG:eh:=⟨44,[(false,.I .i64)],.data true [(false,.I .u64)],eC,1⟩
def DO:gh:= [(20,⟨[⟨false,3,0,[0,5,10,11],⟨[(12,false,[.d true (.I .i64)])],[],[(.sl 5 0,.I .u64)]⟩,[(.exit 0,⟨[],[],[(.sl 5 0,.I .u64)]⟩)]⟩],[(6,⟨[[],[],[],[],[],[],[],[],[],[.sl 5 0]],[(false,[]),(false,[]),(false,[]),(false,[]),(false,[]),(false,[]),(false,[]),(false,[]),(false,[]),(false,[])]⟩)]⟩)]
def DP:KG:=⟨TT,EQS,[BI,lG],[]⟩
def ga:vals [(false,.I .i64),(false,.S (.I .i64))]->Option (OutK.val (.own (.I .u64))):=gX DP DO Sx 20 0 [(false,.I .i64),(false,.S (.I .i64))] (.own (.I .u64))
def vq:gh:= []
def vr:KG:=⟨TT,EQS,[],[]⟩
def bJ:vals [(false,.S (.I .u64)),(false,.I .i64)]->Option (OutK.val (.data true [(false,.B)])):=gX vr vq SI 45 0 [(false,.S (.I .u64)),(false,.I .i64)] (.data true [(false,.B)])
def lg:eh:=⟨45,[(false,.S (.I .u64)),(false,.I .i64)],.data true [(false,.B)],bJ,1⟩
def BN:gh:= []
def BO:KG:=⟨TT,EQS,[lG,lg],[]⟩
def eU:vals [(false,.S (.I .u64)),(false,.I .i64)]->Option (OutK.val (.data true [(false,.B)])):=gX BO BN Sz 23 0 [(false,.S (.I .u64)),(false,.I .i64)] (.data true [(false,.B)])
def BP:gh:= []
def BQ:KG:=⟨TT,EQS,[kF,mP],[]⟩
def kP:vals [yD1,(false,.I .i64)]->Option (OutK.val (.data true [(false,.I .i64),(false,.B)])):=gX BQ BP fi7 7 0 [yD1,(false,.I .i64)] (.data true [(false,.I .i64),(false,.B)])
def xH:gh:= []
def xI:KG:=⟨TT,EQS,[],[]⟩
def fQ:vals [(false,.S (.I .u64))]->Option (OutK.val (.own (.I .u64))):=gX xI xH SJ 54 0 [(false,.S (.I .u64))] (.own (.I .u64))
def pm:eh:=⟨54,[(false,.S (.I .u64))],.own (.I .u64),fQ,1⟩
def BS:gh:= [(33,⟨[],[(3,⟨[[],[],[],[],[],[],[],[],[],[.sl 5 0]],[(false,[]),(false,[]),(false,[]),(false,[]),(false,[]),(false,[]),(false,[]),(false,[]),(false,[]),(false,[])]⟩)]⟩)]
def BT:KG:=⟨TT,EQS,[lG,lg,pm],[]⟩
def kQ:vals [(false,.S (.I .u64)),(false,.I .i64)]->Option (OutK.val (.own (.I .u64))):=gX BT BS SB 33 0 [(false,.S (.I .u64)),(false,.I .i64)] (.own (.I .u64))
def zX:gh:= [(36,⟨[],[(3,⟨[[],[],[],[],[],[],[],[],[],[.sl 5 0]],[(false,[]),(false,[]),(false,[]),(false,[]),(false,[]),(false,[]),(false,[]),(false,[]),(false,[]),(false,[])]⟩)]⟩)]
def zY:KG:=⟨TT,EQS,[lG,lg,pm],[]⟩
def jn:vals [(false,.S (.I .u64)),(false,.I .i64)]->Option (OutK.val (.own (.I .u64))):=gX zY zX SC 36 0 [(false,.S (.I .u64)),(false,.I .i64)] (.own (.I .u64))
def qT:gh:= [(30,⟨[⟨false,4,0,[0,1],⟨[(5,false,[.d true (.I .i64)])],[],[]⟩,[(.exit 0,⟨[],[],[]⟩),(.ret,⟨[(4,false,[.d true .B])],[],[]⟩)]⟩],[]⟩)]
def qU:KG:=⟨TT,EQS,[],[]⟩
def dW:vals [yD3,yD3]->Option (OutK.val (.data true [(false,.B)])):=gX qU qT SA 30 0 [yD3,yD3] (.data true [(false,.B)])
def qV:eh:=⟨30,[yD3,yD3],.data true [(false,.B)],dW,1⟩
def zZ:gh:= []
def Aa:KG:=⟨TT,EQS,[qV],[]⟩
def eD:vals [yD1,yD1]->Option (OutK.val (.data true [(false,.B)])):=gX Aa zZ fi9 9 0 [yD1,yD1] (.data true [(false,.B)])
def xJ:gh:= [(39,⟨[⟨false,3,0,[1,5,11,12],⟨[(13,false,[.d true (.I .i64)])],[],[(.sl 5 0,.C (.I .i64) (.I .i64))]⟩,[(.exit 0,⟨[],[],[(.sl 5 0,.C (.I .i64) (.I .i64))]⟩)]⟩],[]⟩)]
def xK:KG:=⟨TT,EQS,[],[]⟩
def gw:vals [yD3,(false,.I .i64)]->Option (OutK.val (.own (.C (.I .i64) (.I .i64)))):=gX xK xJ SD 39 0 [yD3,(false,.I .i64)] (.own (.C (.I .i64) (.I .i64)))
def xL:eh:=⟨39,[yD3,(false,.I .i64)],.own (.C (.I .i64) (.I .i64)),gw,1⟩
def Ab:gh:= []
def Ac:KG:=⟨TT,EQS,[kF,mP,xL],[]⟩
def dX:vals [yD1,(false,.I .i64),(false,.I .i64)]->Option (OutK.val (.data true [yD1])):=gX Ac Ab Sv 16 0 [yD1,(false,.I .i64),(false,.I .i64)] (.data true [yD1])
end K
end Ev
end
noncomputable section
namespace Ev
namespace K
open Go Go.RowKit
set_option maxRecDepth 100000
set_option maxHeartbeats 1000000
end K
end Ev
end
noncomputable section
namespace Ev
open Go
set_option maxRecDepth 100000
set_option maxHeartbeats 1000000
attribute [local irreducible] dp StL TnL WpL cP
def qF(k:FuncId):List TD->Option (Kind×List TD):=λvs=>cpR K.E1 60 k vs
theorem Lz(vs:List TD)(kind:Kind)(rs:List TD)(h:qF 12 vs=some (kind,rs)):cY Tryd.prog 12 vs kind rs/\Enters Tryd.prog 12:=⟨(wl h).pure K.FP,⟨_,_,Tryd.func12,by kernel_rfl,by unfold Tryd.f12;rfl⟩⟩
theorem LA(vs:List TD)(kind:Kind)(rs:List TD)(h:qF 14 vs=some (kind,rs)):cY Tryd.prog 14 vs kind rs/\Enters Tryd.prog 14:=⟨(wl h).pure K.FP,⟨_,_,Tryd.func14,by kernel_rfl,by unfold Tryd.f14;rfl⟩⟩
end Ev
end
noncomputable section
namespace Ev
open Go
set_option maxRecDepth 100000
set_option maxHeartbeats 1000000
attribute [local irreducible] dp StL TnL WpL cP
theorem tz1:an Tryd.prog 1=some (⟨.func #[] #[] false,[.nilFunc],1,8⟩:TI):=by kernel_rfl
theorem tz2:an Tryd.prog 2=some (⟨.int .i64,[.int .i64 0],1,8⟩:TI):=by kernel_rfl
theorem tz3:an Tryd.prog 3=some (⟨.int .i64,[.int .i64 0],1,8⟩:TI):=by kernel_rfl
theorem tz4:an Tryd.prog 4=some (⟨.bool,[.bool false],1,1⟩:TI):=by kernel_rfl
theorem tz5:an Tryd.prog 5=some (⟨.int .u8,[.int .u8 0],1,1⟩:TI):=by kernel_rfl
theorem tz6:an Tryd.prog 6=some (⟨.int .u8,[.int .u8 0],1,1⟩:TI):=by kernel_rfl
theorem tz7:an Tryd.prog 7=some (⟨.struct (cI Tryd.prog 7),[.int .i64 0,.int .i64 0,.bool false,.int .u8 0],4,24⟩:TI):=by kernel_rfl
theorem tz8:an Tryd.prog 8=some (⟨.struct (cI Tryd.prog 8),[.int .i64 0,.int .i64 0,.bool false,.int .u8 0],4,24⟩:TI):=by kernel_rfl
theorem Qe:an Tryd.prog 12=some (⟨.int .u64,[.int .u64 0],1,8⟩:TI):=by kernel_rfl
theorem Qf:an Tryd.prog 15=some (⟨.pointer 116,[.pointer none],1,8⟩:TI):=by kernel_rfl
theorem Qg:an Tryd.prog 16=some (⟨.pointer 119,[.pointer none],1,8⟩:TI):=by kernel_rfl
theorem Qh:an Tryd.prog 17=some (⟨.pointer 129,[.pointer none],1,8⟩:TI):=by kernel_rfl
theorem Qi:an Tryd.prog 18=some (⟨.struct (cI Tryd.prog 18),[.pointer none],1,8⟩:TI):=by kernel_rfl
theorem Qj:an Tryd.prog 19=some (⟨.struct (cI Tryd.prog 19),[.pointer none],1,8⟩:TI):=by kernel_rfl
theorem Qk:an Tryd.prog 21=some (⟨.int .i32,[.int .i32 0],1,4⟩:TI):=by kernel_rfl
theorem Oe:an Tryd.prog 22=some (⟨.slice 46,[.slice none 0 0],1,24⟩:TI):=by kernel_rfl
theorem Of:an Tryd.prog 23=some (⟨.array 3 3,[.int .i64 0,.int .i64 0,.int .i64 0],3,24⟩:TI):=by kernel_rfl
theorem Ql:an Tryd.prog 24=some (⟨.struct (cI Tryd.prog 24),[.int .i64 0,.slice none 0 0],2,32⟩:TI):=by kernel_rfl
theorem Og:an Tryd.prog 25=some (⟨.struct (cI Tryd.prog 25),[.int .i64 0,.slice none 0 0],2,32⟩:TI):=by kernel_rfl
theorem vt:jY (an Tryd.prog) (⟨.struct (cI Tryd.prog 25),[.int .i64 0,.slice none 0 0],2,32⟩:TI)=some λi=>([(0,1),(1,1)]:List (Nat×Nat))[i]? :=by kernel_rfl
theorem Qm:an Tryd.prog 26=some (⟨.func #[5,22] #[25] false,[.nilFunc],1,8⟩:TI):=by kernel_rfl
theorem Oh:an Tryd.prog 27=some (⟨.slice 83,[.slice none 0 0],1,24⟩:TI):=by kernel_rfl
theorem Oi:an Tryd.prog 28=some (⟨.slice 2,[.slice none 0 0],1,24⟩:TI):=by kernel_rfl
theorem Qn:an Tryd.prog 29=some (⟨.struct (cI Tryd.prog 29),[.int .i64 0,.slice none 0 0,.slice none 0 0],3,56⟩:TI):=by kernel_rfl
theorem Oj:an Tryd.prog 30=some (⟨.struct (cI Tryd.prog 30),[.int .i64 0,.slice none 0 0,.slice none 0 0],3,56⟩:TI):=by kernel_rfl
theorem vu:jY (an Tryd.prog) (⟨.struct (cI Tryd.prog 30),[.int .i64 0,.slice none 0 0,.slice none 0 0],3,56⟩:TI)=some λi=>([(0,1),(1,1),(2,1)]:List (Nat×Nat))[i]? :=by kernel_rfl
theorem Qo:an Tryd.prog 31=some (⟨.func #[25] #[30] false,[.nilFunc],1,8⟩:TI):=by kernel_rfl
theorem Qp:an Tryd.prog 33=some (⟨.func #[30,3] #[2,4] false,[.nilFunc],1,8⟩:TI):=by kernel_rfl
theorem Qq:an Tryd.prog 34=some (⟨.func #[25,3] #[2,4] false,[.nilFunc],1,8⟩:TI):=by kernel_rfl
theorem Qr:an Tryd.prog 35=some (⟨.func #[] #[4] false,[.nilFunc],1,8⟩:TI):=by kernel_rfl
theorem Qs:an Tryd.prog 36=some (⟨.func #[25,25] #[4] false,[.nilFunc],1,8⟩:TI):=by kernel_rfl
theorem Qt:an Tryd.prog 37=some (⟨.func #[30] #[25] false,[.nilFunc],1,8⟩:TI):=by kernel_rfl
theorem Qu:an Tryd.prog 38=some (⟨.func #[30,3,2] #[30] false,[.nilFunc],1,8⟩:TI):=by kernel_rfl
theorem Qv:an Tryd.prog 39=some (⟨.func #[25,3,2] #[25] false,[.nilFunc],1,8⟩:TI):=by kernel_rfl
theorem Qw:an Tryd.prog 40=some (⟨.func #[30,3] #[30] false,[.nilFunc],1,8⟩:TI):=by kernel_rfl
theorem Qx:an Tryd.prog 41=some (⟨.func #[25,3] #[25] false,[.nilFunc],1,8⟩:TI):=by kernel_rfl
theorem Qy:an Tryd.prog 42=some (⟨.func #[30,3,3] #[30] false,[.nilFunc],1,8⟩:TI):=by kernel_rfl
theorem Qz:an Tryd.prog 43=some (⟨.func #[25,3,3] #[25] false,[.nilFunc],1,8⟩:TI):=by kernel_rfl
theorem QA:an Tryd.prog 44=some (⟨.func #[5,22,23] #[4] false,[.nilFunc],1,8⟩:TI):=by kernel_rfl
theorem QB:an Tryd.prog 45=some (⟨.struct (cI Tryd.prog 45),[.int .i64 0,.int .i64 0],2,16⟩:TI):=by kernel_rfl
theorem Ol:an Tryd.prog 46=some (⟨.struct (cI Tryd.prog 46),[.int .i64 0,.int .i64 0],2,16⟩:TI):=by kernel_rfl
theorem LB:jY (an Tryd.prog) (⟨.struct (cI Tryd.prog 46),[.int .i64 0,.int .i64 0],2,16⟩:TI)=some λi=>([(0,1),(1,1)]:List (Nat×Nat))[i]? :=by kernel_rfl
theorem QC:an Tryd.prog 47=some (⟨.int .i64,[.int .i64 0],1,8⟩:TI):=by kernel_rfl
theorem QD:an Tryd.prog 49=some (⟨.func #[50,3,22] #[25,47] false,[.nilFunc],1,8⟩:TI):=by kernel_rfl
theorem QE:an Tryd.prog 50=some (⟨.int .i64,[.int .i64 0],1,8⟩:TI):=by kernel_rfl
theorem QF:an Tryd.prog 51=some (⟨.func #[25] #[4] false,[.nilFunc],1,8⟩:TI):=by kernel_rfl
theorem QG:an Tryd.prog 52=some (⟨.func #[3] #[30] false,[.nilFunc],1,8⟩:TI):=by kernel_rfl
theorem QH:an Tryd.prog 53=some (⟨.func #[3,54] #[27] true,[.nilFunc],1,8⟩:TI):=by kernel_rfl
theorem Om:an Tryd.prog 54=some (⟨.slice 3,[.slice none 0 0],1,24⟩:TI):=by kernel_rfl
theorem QI:an Tryd.prog 55=some (⟨.func #[25] #[54] false,[.nilFunc],1,8⟩:TI):=by kernel_rfl
theorem QJ:an Tryd.prog 56=some (⟨.func #[30] #[30] false,[.nilFunc],1,8⟩:TI):=by kernel_rfl
theorem QK:an Tryd.prog 57=some (⟨.func #[27,3] #[4] false,[.nilFunc],1,8⟩:TI):=by kernel_rfl
theorem QL:an Tryd.prog 58=some (⟨.func #[25] #[25] false,[.nilFunc],1,8⟩:TI):=by kernel_rfl
theorem QM:an Tryd.prog 60=some (⟨.func #[25,3] #[3,4] false,[.nilFunc],1,8⟩:TI):=by kernel_rfl
theorem QN:an Tryd.prog 61=some (⟨.func #[30] #[3] false,[.nilFunc],1,8⟩:TI):=by kernel_rfl
theorem QO:an Tryd.prog 62=some (⟨.func #[30,30] #[4] false,[.nilFunc],1,8⟩:TI):=by kernel_rfl
theorem QP:an Tryd.prog 63=some (⟨.func #[30] #[4] false,[.nilFunc],1,8⟩:TI):=by kernel_rfl
theorem QQ:an Tryd.prog 64=some (⟨.func #[30,27] #[30] false,[.nilFunc],1,8⟩:TI):=by kernel_rfl
theorem QR:an Tryd.prog 65=some (⟨.func #[22,22] #[4] false,[.nilFunc],1,8⟩:TI):=by kernel_rfl
theorem QS:an Tryd.prog 66=some (⟨.func #[90] #[] false,[.nilFunc],1,8⟩:TI):=by kernel_rfl
theorem QU:an Tryd.prog 67=some (⟨.func #[90] #[] false,[.nilFunc],1,8⟩:TI):=by kernel_rfl
theorem QV:an Tryd.prog 68=some (⟨.func #[30] #[67] false,[.nilFunc],1,8⟩:TI):=by kernel_rfl
theorem QW:an Tryd.prog 69=some (⟨.func #[27,3] #[27] false,[.nilFunc],1,8⟩:TI):=by kernel_rfl
theorem QX:an Tryd.prog 70=some (⟨.func #[22] #[22] false,[.nilFunc],1,8⟩:TI):=by kernel_rfl
theorem QY:an Tryd.prog 71=some (⟨.func #[22,3,22] #[22] true,[.nilFunc],1,8⟩:TI):=by kernel_rfl
theorem QZ:an Tryd.prog 72=some (⟨.func #[22,3,3] #[22] false,[.nilFunc],1,8⟩:TI):=by kernel_rfl
theorem Ra:an Tryd.prog 73=some (⟨.func #[27,3,3] #[27] false,[.nilFunc],1,8⟩:TI):=by kernel_rfl
theorem Rb:an Tryd.prog 74=some (⟨.func #[22,3] #[22] false,[.nilFunc],1,8⟩:TI):=by kernel_rfl
theorem Rc:an Tryd.prog 75=some (⟨.func #[50] #[4] false,[.nilFunc],1,8⟩:TI):=by kernel_rfl
theorem On:an Tryd.prog 76=some (⟨.slice 78,[.slice none 0 0],1,24⟩:TI):=by kernel_rfl
theorem Rd:an Tryd.prog 77=some (⟨.struct (cI Tryd.prog 77),[.int .i64 0,.int .i64 0,.int .i64 0],3,24⟩:TI):=by kernel_rfl
theorem Oo:an Tryd.prog 78=some (⟨.struct (cI Tryd.prog 78),[.int .i64 0,.int .i64 0,.int .i64 0],3,24⟩:TI):=by kernel_rfl
theorem IG:jY (an Tryd.prog) (⟨.struct (cI Tryd.prog 78),[.int .i64 0,.int .i64 0,.int .i64 0],3,24⟩:TI)=some λi=>([(0,1),(1,1),(2,1)]:List (Nat×Nat))[i]? :=by kernel_rfl
theorem Re:an Tryd.prog 80=some (⟨.func #[50,76] #[76,47] false,[.nilFunc],1,8⟩:TI):=by kernel_rfl
theorem Rf:an Tryd.prog 81=some (⟨.func #[3] #[4] false,[.nilFunc],1,8⟩:TI):=by kernel_rfl
theorem Rh:an Tryd.prog 82=some (⟨.func #[3] #[27] false,[.nilFunc],1,8⟩:TI):=by kernel_rfl
theorem Oq:an Tryd.prog 83=some (⟨.int .u64,[.int .u64 0],1,8⟩:TI):=by kernel_rfl
theorem Ri:an Tryd.prog 84=some (⟨.func #[3] #[83] false,[.nilFunc],1,8⟩:TI):=by kernel_rfl
theorem Rj:an Tryd.prog 85=some (⟨.func #[3,81] #[3] false,[.nilFunc],1,8⟩:TI):=by kernel_rfl
theorem Rk:an Tryd.prog 86=some (⟨.func #[27] #[3] false,[.nilFunc],1,8⟩:TI):=by kernel_rfl
theorem Rm:an Tryd.prog 87=some (⟨.func #[27,27] #[4] false,[.nilFunc],1,8⟩:TI):=by kernel_rfl
theorem Rn:an Tryd.prog 88=some (⟨.func #[28,28] #[4] false,[.nilFunc],1,8⟩:TI):=by kernel_rfl
theorem Ro:an Tryd.prog 89=some (⟨.func #[27,27] #[27] false,[.nilFunc],1,8⟩:TI):=by kernel_rfl
theorem Rp:an Tryd.prog 90=some (⟨.func #[3,2] #[4] false,[.nilFunc],1,8⟩:TI):=by kernel_rfl
theorem Rq:an Tryd.prog 91=some (⟨.func #[27] #[27] false,[.nilFunc],1,8⟩:TI):=by kernel_rfl
theorem Rr:an Tryd.prog 92=some (⟨.func #[22,3] #[] false,[.nilFunc],1,8⟩:TI):=by kernel_rfl
theorem Rs:an Tryd.prog 93=some (⟨.func #[81] #[] false,[.nilFunc],1,8⟩:TI):=by kernel_rfl
theorem Rt:an Tryd.prog 94=some (⟨.func #[81] #[] false,[.nilFunc],1,8⟩:TI):=by kernel_rfl
theorem Ru:an Tryd.prog 95=some (⟨.func #[27] #[94] false,[.nilFunc],1,8⟩:TI):=by kernel_rfl
theorem Ot:an Tryd.prog 96=some (⟨.slice 99,[.slice none 0 0],1,24⟩:TI):=by kernel_rfl
theorem Rv:an Tryd.prog 97=some (⟨.func #[78,78] #[4] false,[.nilFunc],1,8⟩:TI):=by kernel_rfl
theorem Rw:an Tryd.prog 98=some (⟨.struct (cI Tryd.prog 98),[.int .i64 0,.int .u64 0],2,16⟩:TI):=by kernel_rfl
theorem Ou:an Tryd.prog 99=some (⟨.struct (cI Tryd.prog 99),[.int .i64 0,.int .u64 0],2,16⟩:TI):=by kernel_rfl
theorem vw:jY (an Tryd.prog) (⟨.struct (cI Tryd.prog 99),[.int .i64 0,.int .u64 0],2,16⟩:TI)=some λi=>([(0,1),(1,1)]:List (Nat×Nat))[i]? :=by kernel_rfl
theorem Na:an Tryd.prog 100=some (⟨.func #[2] #[99] false,[.nilFunc],1,8⟩:TI):=by kernel_rfl
theorem Nb:an Tryd.prog 101=some (⟨.func #[50,99,99] #[99] false,[.nilFunc],1,8⟩:TI):=by kernel_rfl
theorem Nc:an Tryd.prog 102=some (⟨.func #[99] #[2,4] false,[.nilFunc],1,8⟩:TI):=by kernel_rfl
theorem Nd:an Tryd.prog 103=some (⟨.func #[3] #[3] false,[.nilFunc],1,8⟩:TI):=by kernel_rfl
theorem Nf:an Tryd.prog 104=some (⟨.int .u64,[.int .u64 0],1,8⟩:TI):=by kernel_rfl
theorem Ng:an Tryd.prog 105=some (⟨.func #[83] #[3] false,[.nilFunc],1,8⟩:TI):=by kernel_rfl
theorem Nh:an Tryd.prog 106=some (⟨.func #[27,3] #[3] false,[.nilFunc],1,8⟩:TI):=by kernel_rfl
theorem Ni:an Tryd.prog 107=some (⟨.func #[27,27,3,108] #[27] false,[.nilFunc],1,8⟩:TI):=by kernel_rfl
theorem Nj:an Tryd.prog 108=some (⟨.func #[83,83] #[83] false,[.nilFunc],1,8⟩:TI):=by kernel_rfl
theorem Nk:an Tryd.prog 109=some (⟨.func #[99,99] #[3] false,[.nilFunc],1,8⟩:TI):=by kernel_rfl
theorem Nl:an Tryd.prog 110=some (⟨.func #[4] #[99] false,[.nilFunc],1,8⟩:TI):=by kernel_rfl
theorem Nm:an Tryd.prog 111=some (⟨.func #[99,99] #[99] false,[.nilFunc],1,8⟩:TI):=by kernel_rfl
theorem Nn:an Tryd.prog 112=some (⟨.func #[22] #[] false,[.nilFunc],1,8⟩:TI):=by kernel_rfl
theorem No:an Tryd.prog 113=some (⟨.array 64 5,[.int .u8 0,.int .u8 0,.int .u8 0,.int .u8 0,.int .u8 0,.int .u8 0,.int .u8 0,.int .u8 0,.int .u8 0,.int .u8 0,.int .u8 0,.int .u8 0,.int .u8 0,.int .u8 0,.int .u8 0,.int .u8 0,.int .u8 0,.int .u8 0,.int .u8 0,.int .u8 0,.int .u8 0,.int .u8 0,.int .u8 0,.int .u8 0,.int .u8 0,.int .u8 0,.int .u8 0,.int .u8 0,.int .u8 0,.int .u8 0,.int .u8 0,.int .u8 0,.int .u8 0,.int .u8 0,.int .u8 0,.int .u8 0,.int .u8 0,.int .u8 0,.int .u8 0,.int .u8 0,.int .u8 0,.int .u8 0,.int .u8 0,.int .u8 0,.int .u8 0,.int .u8 0,.int .u8 0,.int .u8 0,.int .u8 0,.int .u8 0,.int .u8 0,.int .u8 0,.int .u8 0,.int .u8 0,.int .u8 0,.int .u8 0,.int .u8 0,.int .u8 0,.int .u8 0,.int .u8 0,.int .u8 0,.int .u8 0,.int .u8 0,.int .u8 0],64,64⟩:TI):=by kernel_rfl
theorem Np:an Tryd.prog 114=some (⟨.func #[] #[9] false,[.nilFunc],1,8⟩:TI):=by kernel_rfl
theorem Nq:an Tryd.prog 117=some (⟨.array 0 16,[],0,0⟩:TI):=by kernel_rfl
theorem Nr:an Tryd.prog 118=some (⟨.struct (cI Tryd.prog 118),[],0,0⟩:TI):=by kernel_rfl
theorem Ns:an Tryd.prog 119=some (⟨.struct (cI Tryd.prog 119),[],0,0⟩:TI):=by kernel_rfl
theorem Nt:an Tryd.prog 120=some (⟨.func #[] #[3] false,[.nilFunc],1,8⟩:TI):=by kernel_rfl
theorem Nu:an Tryd.prog 121=some (⟨.int .u32,[.int .u32 0],1,4⟩:TI):=by kernel_rfl
theorem Nv:an Tryd.prog 122=some (⟨.int .u8,[.int .u8 0],1,1⟩:TI):=by kernel_rfl
theorem Nw:an Tryd.prog 123=some (⟨.int .u8,[.int .u8 0],1,1⟩:TI):=by kernel_rfl
theorem Nx:an Tryd.prog 124=some (⟨.func #[130,130] #[4] false,[.nilFunc],1,8⟩:TI):=by kernel_rfl
theorem Ny:an Tryd.prog 125=some (⟨.pointer 5,[.pointer none],1,8⟩:TI):=by kernel_rfl
theorem Nz:an Tryd.prog 126=some (⟨.int .i32,[.int .i32 0],1,4⟩:TI):=by kernel_rfl
theorem NA:an Tryd.prog 127=some (⟨.int .i32,[.int .i32 0],1,4⟩:TI):=by kernel_rfl
theorem NB:an Tryd.prog 128=some (⟨.struct (cI Tryd.prog 128),[.int .u64 0,.int .u64 0,.int .u32 0,.int .u8 0,.int .u8 0,.int .u8 0,.int .u8 0,.nilFunc,.pointer none,.int .i32 0,.int .i32 0],11,48⟩:TI):=by kernel_rfl
theorem NC:an Tryd.prog 129=some (⟨.struct (cI Tryd.prog 129),[.int .u64 0,.int .u64 0,.int .u32 0,.int .u8 0,.int .u8 0,.int .u8 0,.int .u8 0,.nilFunc,.pointer none,.int .i32 0,.int .i32 0],11,48⟩:TI):=by kernel_rfl
theorem sz1:dM (an Tryd.prog) 1=some (1,false):=by kernel_rfl
theorem sz2:dM (an Tryd.prog) 2=some (1,false):=by kernel_rfl
theorem sz3:dM (an Tryd.prog) 3=some (1,false):=by kernel_rfl
theorem mS:dM (an Tryd.prog) 22=some (1,false):=by kernel_rfl
theorem el22:cZ (an Tryd.prog) 22=some 2:=by kernel_rfl
theorem dk:dM (an Tryd.prog) 25=some (2,true):=by kernel_rfl
theorem kd:fieldAt (an Tryd.prog) 25 0=some (0,1,false):=by kernel_rfl
theorem fF:fieldAt (an Tryd.prog) 25 1=some (1,1,false):=by kernel_rfl
theorem gW:dM (an Tryd.prog) 27=some (1,false):=by kernel_rfl
theorem el27:cZ (an Tryd.prog) 27=some 1:=by kernel_rfl
theorem kG:dM (an Tryd.prog) 28=some (1,false):=by kernel_rfl
theorem el28:cZ (an Tryd.prog) 28=some 1:=by kernel_rfl
theorem bp:dM (an Tryd.prog) 30=some (3,true):=by kernel_rfl
theorem nN:fieldAt (an Tryd.prog) 30 0=some (0,1,false):=by kernel_rfl
theorem dL:fieldAt (an Tryd.prog) 30 1=some (1,1,false):=by kernel_rfl
theorem eo:fieldAt (an Tryd.prog) 30 2=some (2,1,false):=by kernel_rfl
theorem mb:dM (an Tryd.prog) 46=some (2,true):=by kernel_rfl
theorem gf:fieldAt (an Tryd.prog) 46 0=some (0,1,false):=by kernel_rfl
theorem mc:fieldAt (an Tryd.prog) 46 1=some (1,1,false):=by kernel_rfl
theorem el54:cZ (an Tryd.prog) 54=some 1:=by kernel_rfl
theorem el76:cZ (an Tryd.prog) 76=some 3:=by kernel_rfl
theorem xM:dM (an Tryd.prog) 78=some (3,true):=by kernel_rfl
theorem se:fieldAt (an Tryd.prog) 78 0=some (0,1,false):=by kernel_rfl
theorem vy:fieldAt (an Tryd.prog) 78 1=some (1,1,false):=by kernel_rfl
theorem DQ:fieldAt (an Tryd.prog) 78 2=some (2,1,false):=by kernel_rfl
theorem nv:dM (an Tryd.prog) 83=some (1,false):=by kernel_rfl
theorem vz:cZ (an Tryd.prog) 96=some 2:=by kernel_rfl
theorem cq:dM (an Tryd.prog) 99=some (2,true):=by kernel_rfl
theorem mT:fieldAt (an Tryd.prog) 99 0=some (0,1,false):=by kernel_rfl
theorem sf:fieldAt (an Tryd.prog) 99 1=some (1,1,false):=by kernel_rfl
theorem nI:Tryd.prog.follows .mixedOrders=true:=by kernel_rfl
theorem nJ:Aw Tryd.prog=true:=by kernel_rfl
def yp:Ax:=(cO (cO (cO (λ_=>none) 69 tzF) 12 (qF 12)) 14 (qF 14))
theorem qS:ya Tryd.prog yp:=(aW (aW (aW (sA _) Sk) Lz) LA)
def eT:List TD->Option (Kind×List TD):=λ_=>none
def tu:Ax:=(cO (cO (cO (cO (cO (cO yp 19 eT) 31 eT) 32 eT) 46 eT) 57 eT) 65 eT)
theorem mv:ya Tryd.prog tu:=(aW (aW (aW (aW (aW (aW qS λvs kind rs h=>by simp [eT]at h) λvs kind rs h=>by simp [eT]at h) λvs kind rs h=>by simp [eT]at h) λvs kind rs h=>by simp [eT]at h) λvs kind rs h=>by simp [eT]at h) λvs kind rs h=>by simp [eT]at h)
def E0:Env:=py Tryd.prog tu
theorem nM:E0.Ok:=ll nI nJ mv
def E00:Env:=py Tryd.prog yp
theorem Oz:E00.Ok:=ll nI nJ qS
def z70(n:Nat):List (List T):=List.replicate n [iT .i64 0]
def SY(a b:Int):T:= .s true 1 [[iT .u64 a],[iT .u64 b]]
def dQ(b:Int)(l:List (List T)):TD:= .agg [iT .i64 70,SY 0 b,.s true 1 l]
def d70:TD:=dQ 2 (z70 65++ [iT .i64 9]::z70 4)
def n70:TD:=dQ 0 (z70 70)
def v70:TD:= .agg [iT .i64 70,.s true 2 [[iT .i64 65,iT .i64 9]]]
def p10:TD:= .agg [iT .i64 10,.s true 1 [[iT .u64 32]],.s true 1 (z70 5++ [iT .i64 9]::z70 4)]
end Ev
end
noncomputable section
namespace Ev
open Go
set_option maxRecDepth 100000
set_option maxHeartbeats 1000000
attribute [local irreducible] dp StL TnL WpL cP
theorem GT:(bS E00 300 60).1 19 [.one (iT .i64 (70))]=some (.fresh,[n70]):=by kernel_rfl
theorem GU:(bS E0 300 60).1 26 [d70]=some (.fresh,[.one (iT .i64 (1))]):=by kernel_rfl
theorem GV:(bS E0 300 60).1 28 [d70]=some (.fresh,[.one (.v (.bool true))]):=by kernel_rfl
end Ev
end
noncomputable section
namespace Ev
open Go
set_option maxRecDepth 100000
set_option maxHeartbeats 1000000
attribute [local irreducible] dp StL TnL WpL cP
theorem GW:(bS E0 300 60).1 11 [n70,.one (iT .i64 (65)),.one (iT .i64 (9))]=some (.fresh,[d70]):=by kernel_rfl
theorem GX:(bS E0 300 60).1 26 [n70]=some (.fresh,[.one (iT .i64 (0))]):=by kernel_rfl
theorem GY:(bS E0 300 60).1 28 [.agg [iT .i64 1,.s false 0 [],.s false 0 []]]=some (.fresh,[.one (.v (.bool false))]):=by kernel_rfl
end Ev
end
noncomputable section
namespace Ev
open Go
set_option maxRecDepth 100000
set_option maxHeartbeats 1000000
attribute [local irreducible] dp StL TnL WpL cP
theorem IH:(bS E0 300 60).1 6 [d70,.one (iT .i64 (65))]=some (.fresh,[.one (iT .i64 (9)),.one (.v (.bool true))]):=by kernel_rfl
theorem II:(bS E0 300 60).1 5 [v70]=some (.fresh,[d70]):=by kernel_rfl
theorem GZ:(bS E0 300 60).1 13 [d70,.one (iT .i64 (65))]=some (.fresh,[n70]):=by kernel_rfl
end Ev
end
noncomputable section
namespace Ev
open Go
set_option maxRecDepth 100000
set_option maxHeartbeats 1000000
attribute [local irreducible] dp StL TnL WpL cP
theorem IJ:(bS E0 300 60).1 6 [d70,.one (iT .i64 (1))]=some (.fresh,[.one (iT .i64 (0)),.one (.v (.bool false))]):=by kernel_rfl
theorem Ha:(bS E0 300 60).1 27 [d70,d70]=some (.fresh,[.one (.v (.bool true))]):=by kernel_rfl
theorem Hb:(bS E0 300 60).1 29 [d70,.one (.s false 0 [])]=some (.fresh,[n70]):=by kernel_rfl
end Ev
end
noncomputable section
namespace Ev
open Go
set_option maxRecDepth 100000
set_option maxHeartbeats 1000000
attribute [local irreducible] dp StL TnL WpL cP
theorem Hc:(bS E0 300 60).1 10 [d70]=some (.fresh,[v70]):=by kernel_rfl
theorem Hd:(bS E0 300 60).1 27 [d70,n70]=some (.fresh,[.one (.v (.bool false))]):=by kernel_rfl
theorem He:(bS E0 300 60).1 15 [d70,.one (iT .i64 (60)),.one (iT .i64 (70))]=some (.fresh,[p10]):=by kernel_rfl
end Ev
end
noncomputable section
namespace Ev
open Go
mutual
def Ad:T->T->Bool
 | .v (.int k a),.v (.int k' b)=>decide (k=k')&& decide (a=b)
 | .v (.bool a),.v (.bool b)=>a==b
 | .s n z l,.s n' z' l'=>(n==n')&&(Nat.beq z z' && Hg l l')
 |_,_=>false
def DR:List T->List T->Bool
 | [],[]=>true
 |a::l,b::m=>Ad a b && DR l m
 |_,_=>false
def Hg:List (List T)->List (List T)->Bool
 | [],[]=>true
 |a::l,b::m=>DR a b && Hg l m
 |_,_=>false
end
mutual
theorem FQ:∀(a b:T),Ad a b=true->a=b
 | .v x,.v y,h=>by
  cases x<;>cases y<;>first
   |(simp only [Ad,Bool.and_eq_true,decide_eq_true_eq]at h;obtain⟨rfl,rfl⟩:=h;rfl)
   |(simp only [Ad,beq_iff_eq]at h;subst h;rfl)
   |(simp [Ad]at h)
 | .v x,.s n z l,h=>by cases x<;>simp [Ad]at h
 | .s n z l,.v x,h=>by cases x<;>simp [Ad]at h
 | .s n z l,.s n' z' l',h=>by
  simp only [Ad,Bool.and_eq_true,beq_iff_eq]at h;obtain⟨rfl,h1,h2⟩:=h;obtain rfl:=Nat.eq_of_beq_eq_true h1;rw [FS l l' h2]
theorem Ae:∀(a b:List T),DR a b=true->a=b
 | [],[],_=>rfl
 | [],_::_,h=>by simp [DR]at h
 |_::_,[],h=>by simp [DR]at h
 |a::l,b::m,h=>by
  simp only [DR,Bool.and_eq_true]at h;rw [FQ a b h.1,Ae l m h.2]
theorem FS:∀(a b:List (List T)),Hg a b=true->a=b
 | [],[],_=>rfl
 | [],_::_,h=>by simp [Hg]at h
 |_::_,[],h=>by simp [Hg]at h
 |a::l,b::m,h=>by
  simp only [Hg,Bool.and_eq_true]at h;rw [Ae a b h.1,FS l m h.2]
end
def IK:TD->TD->Bool
 | .one a,.one b=>Ad a b
 | .agg a,.agg b=>DR a b
 |_,_=>false
theorem IL{a b:TD}(h:IK a b=true):a=b:=by
 cases a<;>cases b<;>simp only [IK,Bool.false_eq_true]at h
 .rw [FQ _ _ h]
 .rw [Ae _ _ h]
def pS:List TD->List TD->Bool
 | [],[]=>true
 |a::l,b::m=>IK a b && pS l m
 |_,_=>false
theorem yq:∀{a b:List TD},pS a b=true->a=b
 | [],[],_=>rfl
 | [],_::_,h=>by simp [pS]at h
 |_::_,[],h=>by simp [pS]at h
 |a::l,b::m,h=>by
  simp only [pS,Bool.and_eq_true]at h;rw [IL h.1,yq h.2]
def fR:List (List TD×Kind×List TD)->List TD->Option (Kind×List TD)
 | [],_=>none
 |e::r,vs=>cond (pS e.1 vs) (some e.2) (fR r vs)
theorem im{P:Program}{cp:cU}{k:FuncId}(hc:∀vs kind rs,cp k vs=some (kind,rs)->cY P k vs kind rs/\Enters P k):
  ∀(l:List (List TD×Kind×List TD)),(∀e∈l,cp k e.1=some e.2)->∀vs kind rs,fR l vs=some (kind,rs)->cY P k vs kind rs/\Enters P k
 | [],_,vs,kind,rs,h=>by simp [fR]at h
 |e::r,hl,vs,kind,rs,h=>by
  unfold fR at h
  cases hb:pS e.1 vs with
  |true=>
   rw [hb]at h;simp only [cond_true,zsI]at h;rw [<-yq hb];exact hc _ _ _ (by rw [hl e List.mem_cons_self,h])
  |false=>
   rw [hb]at h;exact im hc r (λx hx=>hl x (List.mem_cons_of_mem _ hx)) vs kind rs h
end Ev
end
noncomputable section
namespace Ev
open Go
set_option maxRecDepth 100000
set_option maxHeartbeats 1000000
attribute [local irreducible] dp StL TnL WpL cP
def IM:List (List TD×Kind×List TD):= [([.one (iT .i64 (70))],.fresh,[n70])]
theorem Hh:∀vs kind rs,fR IM vs=some (kind,rs)->cY Tryd.prog 19 vs kind rs/\Enters Tryd.prog 19:=im (λvs kind rs h=>(dE Oz 300 60).1 _ _ _ _ h) _ (List.forall_mem_cons.2 ⟨GT,λ_ h=>by cases h⟩)
def IN:List (List TD×Kind×List TD):= [([n70,.one (iT .i64 (65)),.one (iT .i64 (9))],.fresh,[d70])]
theorem Hi:∀vs kind rs,fR IN vs=some (kind,rs)->cY Tryd.prog 11 vs kind rs/\Enters Tryd.prog 11:=im (λvs kind rs h=>(dE nM 300 60).1 _ _ _ _ h) _ (List.forall_mem_cons.2 ⟨GW,λ_ h=>by cases h⟩)
def NF:List (List TD×Kind×List TD):= [([d70,.one (iT .i64 (65))],.fresh,[.one (iT .i64 (9)),.one (.v (.bool true))]),([d70,.one (iT .i64 (1))],.fresh,[.one (iT .i64 (0)),.one (.v (.bool false))])]
theorem IP:∀vs kind rs,fR NF vs=some (kind,rs)->cY Tryd.prog 6 vs kind rs/\Enters Tryd.prog 6:=im (λvs kind rs h=>(dE nM 300 60).1 _ _ _ _ h) _ (List.forall_mem_cons.2 ⟨IH,List.forall_mem_cons.2 ⟨IJ,λ_ h=>by cases h⟩⟩)
def IQ:List (List TD×Kind×List TD):= [([d70],.fresh,[v70])]
theorem Hj:∀vs kind rs,fR IQ vs=some (kind,rs)->cY Tryd.prog 10 vs kind rs/\Enters Tryd.prog 10:=im (λvs kind rs h=>(dE nM 300 60).1 _ _ _ _ h) _ (List.forall_mem_cons.2 ⟨Hc,λ_ h=>by cases h⟩)
def IR:List (List TD×Kind×List TD):= [([d70],.fresh,[.one (iT .i64 (1))]),([n70],.fresh,[.one (iT .i64 (0))])]
theorem Hk:∀vs kind rs,fR IR vs=some (kind,rs)->cY Tryd.prog 26 vs kind rs/\Enters Tryd.prog 26:=im (λvs kind rs h=>(dE nM 300 60).1 _ _ _ _ h) _ (List.forall_mem_cons.2 ⟨GU,List.forall_mem_cons.2 ⟨GX,λ_ h=>by cases h⟩⟩)
def NG:List (List TD×Kind×List TD):= [([v70],.fresh,[d70])]
theorem IS:∀vs kind rs,fR NG vs=some (kind,rs)->cY Tryd.prog 5 vs kind rs/\Enters Tryd.prog 5:=im (λvs kind rs h=>(dE nM 300 60).1 _ _ _ _ h) _ (List.forall_mem_cons.2 ⟨II,λ_ h=>by cases h⟩)
def IT:List (List TD×Kind×List TD):= [([d70,d70],.fresh,[.one (.v (.bool true))]),([d70,n70],.fresh,[.one (.v (.bool false))])]
theorem Hl:∀vs kind rs,fR IT vs=some (kind,rs)->cY Tryd.prog 27 vs kind rs/\Enters Tryd.prog 27:=im (λvs kind rs h=>(dE nM 300 60).1 _ _ _ _ h) _ (List.forall_mem_cons.2 ⟨Ha,List.forall_mem_cons.2 ⟨Hd,λ_ h=>by cases h⟩⟩)
def IU:List (List TD×Kind×List TD):= [([d70],.fresh,[.one (.v (.bool true))]),([.agg [iT .i64 1,.s false 0 [],.s false 0 []]],.fresh,[.one (.v (.bool false))])]
theorem Hm:∀vs kind rs,fR IU vs=some (kind,rs)->cY Tryd.prog 28 vs kind rs/\Enters Tryd.prog 28:=im (λvs kind rs h=>(dE nM 300 60).1 _ _ _ _ h) _ (List.forall_mem_cons.2 ⟨GV,List.forall_mem_cons.2 ⟨GY,λ_ h=>by cases h⟩⟩)
def IV:List (List TD×Kind×List TD):= [([d70,.one (iT .i64 (65))],.fresh,[n70])]
theorem Hn:∀vs kind rs,fR IV vs=some (kind,rs)->cY Tryd.prog 13 vs kind rs/\Enters Tryd.prog 13:=im (λvs kind rs h=>(dE nM 300 60).1 _ _ _ _ h) _ (List.forall_mem_cons.2 ⟨GZ,λ_ h=>by cases h⟩)
def IW:List (List TD×Kind×List TD):= [([d70,.one (.s false 0 [])],.fresh,[n70])]
theorem Ho:∀vs kind rs,fR IW vs=some (kind,rs)->cY Tryd.prog 29 vs kind rs/\Enters Tryd.prog 29:=im (λvs kind rs h=>(dE nM 300 60).1 _ _ _ _ h) _ (List.forall_mem_cons.2 ⟨Hb,λ_ h=>by cases h⟩)
def IX:List (List TD×Kind×List TD):= [([d70,.one (iT .i64 (60)),.one (iT .i64 (70))],.fresh,[p10])]
theorem Hp:∀vs kind rs,fR IX vs=some (kind,rs)->cY Tryd.prog 15 vs kind rs/\Enters Tryd.prog 15:=im (λvs kind rs h=>(dE nM 300 60).1 _ _ _ _ h) _ (List.forall_mem_cons.2 ⟨He,λ_ h=>by cases h⟩)
def RP:Ax:=(cO (cO (cO (cO (cO (cO (cO (cO (cO (cO (cO tu 19 (fR IM)) 11 (fR IN)) 6 (fR NF)) 10 (fR IQ)) 26 (fR IR)) 5 (fR NG)) 27 (fR IT)) 28 (fR IU)) 13 (fR IV)) 29 (fR IW)) 15 (fR IX))
def E0M:Env:=py Tryd.prog RP
theorem OA:E0M.Ok:=ll nI nJ (aW (aW (aW (aW (aW (aW (aW (aW (aW (aW (aW mv Hh) Hi) IP) Hj) Hk) IS) Hl) Hm) Hn) Ho) Hp)
theorem RQ:(bS E0M 300 60).1 8 []=some (.fresh,[.one (.v (.bool true))]):=by kernel_rfl
def IY:List TD->Option (Kind×List TD)
 | []=>some (.fresh,[.one (.v (.bool true))])
 |_=>none
def OC:Ax:=cO tu 8 IY
def E1:Env:=py Tryd.prog OC
theorem FP:E1.Ok:=ll nI nJ (aW mv λvs kind rs h=>by
 unfold IY at h;split at h
 .simp only [zsI,Prod.mk.injEq]at h;obtain⟨rfl,rfl⟩:=h;exact(dE OA 300 60).1 _ _ _ _ RQ
 .simp at h)
theorem bQ:E1.fn=aY Tryd.prog:=JA _ _
def FL:Option Bool:=some true
theorem SZ(m:Nat){out:Bool}(h:FL=some out):RunsP E1 (m+1) 8 [] (.fresh,[.one (bT out)]):=by
 obtain rfl:=Option.some.inj h;exact ob (F:=IY) rfl rfl
theorem OD(m:Nat){n1:Int}{out:Int}(h:TZ n1=some out):RunsP E1 (m+1) 69 [.one (iT .u64 n1)] (.fresh,[.one (iT .i64 out)]):=by
 unfold TZ at h;split at h
 .rename_i hx;obtain rfl:=Option.some.inj h;exact ob (F:=tzF) rfl (by show tzF [.one (.v (.int .u64 n1))]=_;unfold tzF;simp only;exact if_pos hx)
 .simp at h
theorem RS:E1.ax 19=some λ_=>none:=rfl
theorem Ta:E1.ax 31=some λ_=>none:=rfl
theorem RT:E1.ax 32=some λ_=>none:=rfl
theorem Tb:E1.ax 46=some λ_=>none:=rfl
theorem RU:E1.ax 57=some λ_=>none:=rfl
theorem ty1:E1.ti 1=some (⟨.func #[] #[] false,[.nilFunc],1,8⟩:TI):=tz1
theorem ty2:E1.ti 2=some (⟨.int .i64,[.int .i64 0],1,8⟩:TI):=tz2
theorem ty3:E1.ti 3=some (⟨.int .i64,[.int .i64 0],1,8⟩:TI):=tz3
theorem ke:E1.ti 22=some (⟨.slice 46,[.slice none 0 0],1,24⟩:TI):=Oe
theorem mU:E1.ti 23=some (⟨.array 3 3,[.int .i64 0,.int .i64 0,.int .i64 0],3,24⟩:TI):=Of
theorem iR:E1.ti 25=some (⟨.struct (cI Tryd.prog 25),[.int .i64 0,.slice none 0 0],2,32⟩:TI):=Og
theorem ny:E1.ti 27=some (⟨.slice 83,[.slice none 0 0],1,24⟩:TI):=Oh
theorem nO:E1.ti 28=some (⟨.slice 2,[.slice none 0 0],1,24⟩:TI):=Oi
theorem fG:E1.ti 30=some (⟨.struct (cI Tryd.prog 30),[.int .i64 0,.slice none 0 0,.slice none 0 0],3,56⟩:TI):=Oj
theorem nz:E1.ti 46=some (⟨.struct (cI Tryd.prog 46),[.int .i64 0,.int .i64 0],2,16⟩:TI):=Ol
theorem OE:E1.ti 54=some (⟨.slice 3,[.slice none 0 0],1,24⟩:TI):=Om
theorem sg:E1.ti 76=some (⟨.slice 78,[.slice none 0 0],1,24⟩:TI):=On
theorem xN:E1.ti 78=some (⟨.struct (cI Tryd.prog 78),[.int .i64 0,.int .i64 0,.int .i64 0],3,24⟩:TI):=Oo
theorem IZ:E1.ti 83=some (⟨.int .u64,[.int .u64 0],1,8⟩:TI):=Oq
theorem LC:E1.ti 96=some (⟨.slice 99,[.slice none 0 0],1,24⟩:TI):=Ot
theorem kf:E1.ti 99=some (⟨.struct (cI Tryd.prog 99),[.int .i64 0,.int .u64 0],2,16⟩:TI):=Ou
end Ev
end
noncomputable section
namespace Ev
open Go
set_option maxRecDepth 100000
set_option maxHeartbeats 1000000
attribute [local irreducible] dp StL TnL WpL cP
def r77(x:Int×Int×Int):List T:= [iT .i64 x.1,iT .i64 x.2.1,iT .i64 x.2.2]
def r98(x:Int×Int):List T:= [iT .i64 x.1,iT .u64 x.2]
def r45(x:Int×Int):List T:= [iT .i64 x.1,iT .i64 x.2]
def r24(x:Int×(Sl (Int×Int))):List T:= [iT .i64 x.1,Sl.t r45 x.2]
def r83(x:Int):List T:= [iT .u64 x]
def r3(x:Int):List T:= [iT .i64 x]
def r2(x:Int):List T:= [iT .i64 x]
def r29(x:Int×Sl (Int)×Sl (Int)):List T:= [iT .i64 x.1,Sl.t r83 x.2.1,Sl.t r2 x.2.2]
def r23(x:Int×Int×Int):List T:= [iT .i64 x.1,iT .i64 x.2.1,iT .i64 x.2.2]
theorem vA(a:Int):aq Tryd.prog (Go.convert 2 83 (.int .i64 a))=some (.int .u64 (IntKind.u64.wrap a)):=by kernel_rfl
theorem nP(a:Int):aq Tryd.prog (Go.convert 3 104 (.int .i64 a))=some (.int .u64 (IntKind.u64.wrap a)):=by kernel_rfl
theorem Ja(a:Int):aq Tryd.prog (Go.convert 5 3 (.int .u8 a))=some (.int .i64 (IntKind.i64.wrap a)):=by kernel_rfl
theorem DS(a:Int):aq Tryd.prog (Go.convert 83 2 (.int .u64 a))=some (.int .i64 (IntKind.i64.wrap a)):=by kernel_rfl
theorem BU(a:Int):aq Tryd.prog (Go.convert 104 3 (.int .u64 a))=some (.int .i64 (IntKind.i64.wrap a)):=by kernel_rfl
def iy(x0:Int×(Sl (Int×Int)))(x1:Int)(x2:Int):Option (Int×(Sl (Int×Int))):=K.iy (x0,x1,x2)
theorem tv(m:Nat){x0:Int×(Sl (Int×Int))}{x1:Int}{x2:Int}{out:Int×(Sl (Int×Int))}(h:iy x0 x1 x2=some out):RunsP E1 (m+1) 12 [.agg (r24 x0),.one (iT .i64 x1),.one (iT .i64 x2)] (.fresh,[.agg (r24 out)]):=ob (F:=qF 12) rfl (ln (K.zT 59 (x0,x1,x2) out h))
def gv(x0:Int×(Sl (Int×Int)))(x1:Int):Option (Int×(Sl (Int×Int))):=K.gv (x0,x1)
theorem qW(m:Nat){x0:Int×(Sl (Int×Int))}{x1:Int}{out:Int×(Sl (Int×Int))}(h:gv x0 x1=some out):RunsP E1 (m+1) 14 [.agg (r24 x0),.one (iT .i64 x1)] (.fresh,[.agg (r24 out)]):=ob (F:=qF 14) rfl (ln (K.xx 59 (x0,x1) out h))
end Ev
end
noncomputable section
namespace Ev
open Go
set_option maxRecDepth 100000
set_option maxHeartbeats 1000000
attribute [local irreducible] dp StL TnL WpL cP
theorem uk(x y:Operand)(a b:Bool):aq Tryd.prog (do eqGuard .eql 4 x y (.bool a) (.bool b);binOp .eql 4 (.bool a) (.bool b))=some (.bool (a==b)):=by cases a<;>cases b<;>kernel_rfl
theorem BV(x y:Operand)(a0 b0 a1 b1:Int):aq Tryd.prog (do eqGuard .eql 99 x y (.agg #[.int .i64 a0,.int .u64 a1]) (.agg #[.int .i64 b0,.int .u64 b1]);binOp .eql 99 (.agg #[.int .i64 a0,.int .u64 a1]) (.agg #[.int .i64 b0,.int .u64 b1]))=some (.bool ((a0==b0 &&(a1==b1 && true)))):=by
 refine wy (by kernel_rfl) ((iu 9999 99 #[.int .i64 a0,.int .u64 a1] #[.int .i64 b0,.int .u64 b1] (fs:=cI Tryd.prog 98) (by kernel_rfl) (by kernel_rfl)).trans ?_);rw [show(cI Tryd.prog 98).toList= [fld Tryd.prog 98 0,fld Tryd.prog 98 1]by kernel_rfl];exact((dP (k:= .i64) (k':= .i64) (by kernel_rfl) (by kernel_rfl) (by kernel_rfl) (by kernel_rfl)).trans (jb ((dP (k:= .u64) (k':= .u64) (by kernel_rfl) (by kernel_rfl) (by kernel_rfl) (by kernel_rfl)).trans (jb gC))))
theorem vB(x y:Operand){a0 b0 a1 b1:Int}(h:a0=b0/\a1=b1):aq Tryd.prog (do eqGuard .eql 99 x y (.agg #[.int .i64 a0,.int .u64 a1]) (.agg #[.int .i64 b0,.int .u64 b1]);binOp .eql 99 (.agg #[.int .i64 a0,.int .u64 a1]) (.agg #[.int .i64 b0,.int .u64 b1]))=some (.bool true):=by rw [BV];simp [h]
theorem vC(x y:Operand){a0 b0 a1 b1:Int}(h:¬(a0=b0/\a1=b1)):aq Tryd.prog (do eqGuard .eql 99 x y (.agg #[.int .i64 a0,.int .u64 a1]) (.agg #[.int .i64 b0,.int .u64 b1]);binOp .eql 99 (.agg #[.int .i64 a0,.int .u64 a1]) (.agg #[.int .i64 b0,.int .u64 b1]))=some (.bool false):=by rw [BV];congr 2;revert h;by_cases e0:a0=b0<;>by_cases e1:a1=b1<;>simp_all
theorem BW(x y:Operand)(a0 b0 a1 b1:Int):aq Tryd.prog (do eqGuard .neq 46 x y (.agg #[.int .i64 a0,.int .i64 a1]) (.agg #[.int .i64 b0,.int .i64 b1]);binOp .neq 46 (.agg #[.int .i64 a0,.int .i64 a1]) (.agg #[.int .i64 b0,.int .i64 b1]))=some (.bool (!(a0==b0 &&(a1==b1 && true)))):=by
 refine rp (by kernel_rfl) ((iu 9999 46 #[.int .i64 a0,.int .i64 a1] #[.int .i64 b0,.int .i64 b1] (fs:=cI Tryd.prog 45) (by kernel_rfl) (by kernel_rfl)).trans ?_);rw [show(cI Tryd.prog 45).toList= [fld Tryd.prog 45 0,fld Tryd.prog 45 1]by kernel_rfl];exact((dP (k:= .i64) (k':= .i64) (by kernel_rfl) (by kernel_rfl) (by kernel_rfl) (by kernel_rfl)).trans (jb ((dP (k:= .i64) (k':= .i64) (by kernel_rfl) (by kernel_rfl) (by kernel_rfl) (by kernel_rfl)).trans (jb gC))))
theorem DT(x y:Operand){a0 b0 a1 b1:Int}(h:a0=b0/\a1=b1):aq Tryd.prog (do eqGuard .neq 46 x y (.agg #[.int .i64 a0,.int .i64 a1]) (.agg #[.int .i64 b0,.int .i64 b1]);binOp .neq 46 (.agg #[.int .i64 a0,.int .i64 a1]) (.agg #[.int .i64 b0,.int .i64 b1]))=some (.bool false):=by rw [BW];simp [h]
theorem DU(x y:Operand){a0 b0 a1 b1:Int}(h:¬(a0=b0/\a1=b1)):aq Tryd.prog (do eqGuard .neq 46 x y (.agg #[.int .i64 a0,.int .i64 a1]) (.agg #[.int .i64 b0,.int .i64 b1]);binOp .neq 46 (.agg #[.int .i64 a0,.int .i64 a1]) (.agg #[.int .i64 b0,.int .i64 b1]))=some (.bool true):=by rw [BW];congr 2;revert h;by_cases e0:a0=b0<;>by_cases e1:a1=b1<;>simp_all
theorem BX(x y:Operand)(a0 b0 a1 b1:Int):aq Tryd.prog (do eqGuard .neq 99 x y (.agg #[.int .i64 a0,.int .u64 a1]) (.agg #[.int .i64 b0,.int .u64 b1]);binOp .neq 99 (.agg #[.int .i64 a0,.int .u64 a1]) (.agg #[.int .i64 b0,.int .u64 b1]))=some (.bool (!(a0==b0 &&(a1==b1 && true)))):=by
 refine rp (by kernel_rfl) ((iu 9999 99 #[.int .i64 a0,.int .u64 a1] #[.int .i64 b0,.int .u64 b1] (fs:=cI Tryd.prog 98) (by kernel_rfl) (by kernel_rfl)).trans ?_);rw [show(cI Tryd.prog 98).toList= [fld Tryd.prog 98 0,fld Tryd.prog 98 1]by kernel_rfl];exact((dP (k:= .i64) (k':= .i64) (by kernel_rfl) (by kernel_rfl) (by kernel_rfl) (by kernel_rfl)).trans (jb ((dP (k:= .u64) (k':= .u64) (by kernel_rfl) (by kernel_rfl) (by kernel_rfl) (by kernel_rfl)).trans (jb gC))))
theorem vD(x y:Operand){a0 b0 a1 b1:Int}(h:a0=b0/\a1=b1):aq Tryd.prog (do eqGuard .neq 99 x y (.agg #[.int .i64 a0,.int .u64 a1]) (.agg #[.int .i64 b0,.int .u64 b1]);binOp .neq 99 (.agg #[.int .i64 a0,.int .u64 a1]) (.agg #[.int .i64 b0,.int .u64 b1]))=some (.bool false):=by rw [BX];simp [h]
theorem vE(x y:Operand){a0 b0 a1 b1:Int}(h:¬(a0=b0/\a1=b1)):aq Tryd.prog (do eqGuard .neq 99 x y (.agg #[.int .i64 a0,.int .u64 a1]) (.agg #[.int .i64 b0,.int .u64 b1]);binOp .neq 99 (.agg #[.int .i64 a0,.int .u64 a1]) (.agg #[.int .i64 b0,.int .u64 b1]))=some (.bool true):=by rw [BX];congr 2;revert h;by_cases e0:a0=b0<;>by_cases e1:a1=b1<;>simp_all
end Ev
end
end Go.Proofs.YtpcmabdifkoihaaDoor
