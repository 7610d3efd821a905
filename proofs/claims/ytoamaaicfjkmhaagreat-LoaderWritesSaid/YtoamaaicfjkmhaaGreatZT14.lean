/- Texts of a claim, joined. -/
import Derived.Test.YtoamaaicfjkmhaaGreatZT13
set_option linter.unusedVariables false
set_option linter.unusedSimpArgs false
namespace Go.Proofs.YtoamaaicfjkmhaaGreat
noncomputable section
namespace Ev
namespace K
open Go Go.RowKit
set_option maxRecDepth 100000
set_option maxHeartbeats 1000000
def uh:cd:= []
def kJ:KG:=⟨TT,EQS,[],[]⟩
def cZ:aO [(false,.I .i64),(false,.I .i64)]->Option (OutK.val (.data true [(false,.B)])):=cr kJ uh VB 54 0 [(false,.I .i64),(false,.I .i64)] (.data true [(false,.B)])
def kK:aN:=⟨54,[(false,.I .i64),(false,.I .i64)],.data true [(false,.B)],cZ,1⟩
def wP:cd:= [(85,⟨[⟨false,2,0,[0,1,7],⟨[(8,false,[.d true (.I .i64)])],[],[]⟩,[(.exit 0,⟨[],[],[]⟩),(.ret,⟨[(4,false,[.d true (.I .i64)])],[],[]⟩)]⟩],[]⟩)]
def mM:KG:=⟨TT,EQS,[kK],[(52,Vz),(53,VA),(55,VC),(85,VK)]⟩
def eR:aO [yD0]->Option (OutK.val (.data true [(false,.I .i64)])):=cr mM wP Vr 25 6 [yD0] (.data true [(false,.I .i64)])
def mN:aN:=⟨25,[yD0],.data true [(false,.I .i64)],eR,8⟩
def sq:cd:= [(27,⟨[⟨false,2,0,[5,6],⟨[(7,false,[.d true (.I .i64)])],[],[]⟩,[(.exit 0,⟨[],[],[]⟩),(.ret,⟨[(2,false,[.d true (.I .u8)])],[],[]⟩)]⟩],[]⟩)]
def jR:KG:=⟨TT,EQS,[],[]⟩
def dv:aO [yD1]->Option (OutK.val (.data true [(false,.I .u8)])):=cr jR sq Vs 27 0 [yD1] (.data true [(false,.I .u8)])
def jS:aN:=⟨27,[yD1],.data true [(false,.I .u8)],dv,1⟩
def oW:cd:= [(57,⟨[⟨false,3,0,[0,5,10],⟨[(11,false,[.d true (.I .i64)])],[],[(.sl 5 0,.I .u8)]⟩,[(.exit 0,⟨[],[],[(.sl 5 0,.I .u8)]⟩)]⟩],[]⟩)]
def iH:KG:=⟨TT,EQS,[],[]⟩
def dt:aO [(false,.I .u8),(false,.I .i64)]->Option (OutK.val (.own (.I .u8))):=cr iH oW VD 57 0 [(false,.I .u8),(false,.I .i64)] (.own (.I .u8))
def iI:aN:=⟨57,[(false,.I .u8),(false,.I .i64)],.own (.I .u8),dt,1⟩
def zH:cd:= []
def oX:KG:=⟨TT,EQS,[iI],[]⟩
def fR:aO [(false,.I .u8)]->Option (OutK.val (.own (.I .u8))):=cr oX zH Vt 28 0 [(false,.I .u8)] (.own (.I .u8))
def oY:aN:=⟨28,[(false,.I .u8)],.own (.I .u8),fR,2⟩
def nM:cd:= [(88,⟨[⟨false,3,0,[0,5,10],⟨[(11,false,[.d true (.I .i64)])],[],[(.sl 5 0,.I .u8)]⟩,[(.exit 0,⟨[],[],[(.sl 5 0,.I .u8)]⟩)]⟩],[]⟩)]
def ic:KG:=⟨TT,EQS,[],[]⟩
def cJ:aO [(false,.I .u32),(false,.I .i64)]->Option (OutK.val (.own (.I .u8))):=cr ic nM VL 88 0 [(false,.I .u32),(false,.I .i64)] (.own (.I .u8))
def ie:aN:=⟨88,[(false,.I .u32),(false,.I .i64)],.own (.I .u8),cJ,1⟩
def wQ:cd:= []
def mO:KG:=⟨TT,EQS,[ie],[]⟩
def eS:aO [(false,.I .u32)]->Option (OutK.val (.own (.I .u8))):=cr mO wQ VE 58 0 [(false,.I .u32)] (.own (.I .u8))
def mP:aN:=⟨58,[(false,.I .u32)],.own (.I .u8),eS,2⟩
def zI:cd:= [(29,⟨[⟨false,3,0,[6,7],⟨[(3,false,[.m (.I .u8)]),(8,false,[.d true (.I .i64)])],[],[]⟩,[(.exit 0,⟨[(3,false,[.m (.I .u8)])],[],[]⟩)]⟩],[]⟩)]
def oZ:KG:=⟨TT,EQS,[mP],[]⟩
def dL:aO [(false,.S (.I .i64))]->Option (OutK.val (.mown (.I .u8))):=cr oZ zI Vu 29 0 [(false,.S (.I .i64))] (.mown (.I .u8))
def pc:aN:=⟨29,[(false,.S (.I .i64))],.mown (.I .u8),dL,3⟩
def sr:cd:= [(9,⟨[⟨false,10,0,[5,36,37],⟨[(6,false,[.o (.I .u8)]),(38,false,[.d true (.I .i64)])],[],[]⟩,[(.exit 0,⟨[(6,false,[.o (.I .u8)])],[],[]⟩)]⟩],[]⟩)]
def jT:KG:=⟨TT,EQS,[mN,iZ,jS,oY,pc],[]⟩
def bp:aO [yD0]->Option (OutK.val (.data true [(false,.S (.I .u8)),(false,.I .i64)])):=cr jT sr fi9 9 0 [yD0] (.data true [(false,.S (.I .u8)),(false,.I .i64)])
def eI:aN:=⟨9,[yD0],.data true [(false,.S (.I .u8)),(false,.I .i64)],bp,9⟩
def pd:cd:= [(41,⟨[⟨false,4,0,[0,1],⟨[(5,false,[.d true (.I .i64)])],[],[]⟩,[(.exit 0,⟨[],[],[]⟩),(.ret,⟨[(4,false,[.d true .B])],[],[]⟩)]⟩],[]⟩)]
def iJ:KG:=⟨TT,EQS,[],[]⟩
def cB:aO [yD1,yD1]->Option (OutK.val (.data true [(false,.B)])):=cr iJ pd Vw 41 0 [yD1,yD1] (.data true [(false,.B)])
def iK:aN:=⟨41,[yD1,yD1],.data true [(false,.B)],cB,1⟩
def zJ:cd:= []
def pf:KG:=⟨TT,EQS,[iK],[]⟩
def fS:aO [yD0,yD0]->Option (OutK.val (.data true [(false,.B)])):=cr pf zJ Vm 14 0 [yD0,yD0] (.data true [(false,.B)])
def pg:aN:=⟨14,[yD0,yD0],.data true [(false,.B)],fS,2⟩
def ui:cd:= []
def kP:KG:=⟨TT,EQS,[eI,gD,mL],[]⟩
def ci:aO [(false,.S (.I .u8))]->Option (OutK.val (.data true [(false,.B)])):=cr kP ui Vn 15 0 [(false,.S (.I .u8))] (.data true [(false,.B)])
def kQ:aN:=⟨15,[(false,.S (.I .u8))],.data true [(false,.B)],ci,10⟩
def wR:cd:= [(17,⟨[⟨false,6,0,[1],⟨[(3,false,[.d true (.I .i64)])],[],[]⟩,[(.exit 0,⟨[],[],[]⟩),(.ret,⟨[(2,false,[.d true (.I .i64)])],[],[]⟩)]⟩,⟨false,12,0,[1],⟨[(5,false,[.d true (.I .i64)])],[],[]⟩,[(.exit 2,⟨[],[],[]⟩),(.ret,⟨[(2,false,[.d true (.I .i64)])],[],[]⟩)]⟩],[]⟩)]
def mQ:KG:=⟨TT,EQS,[],[]⟩
def eT:aO [yD0]->Option (OutK.val (.data true [(false,.I .i64)])):=cr mQ wR Vo 17 0 [yD0] (.data true [(false,.I .i64)])
def mR:aN:=⟨17,[yD0],.data true [(false,.I .i64)],eT,1⟩
def wS:cd:= []
def mS:KG:=⟨TT,EQS,[],[]⟩
def cD:aO [yD2,yD2]->Option (OutK.val (.data true [(false,.B)])):=cr mS wS Vx 43 0 [yD2,yD2] (.data true [(false,.B)])
def iS:aN:=⟨43,[yD2,yD2],.data true [(false,.B)],cD,1⟩
def wT:cd:= [(18,⟨[⟨false,2,0,[0],⟨[(3,false,[.d true (.I .i64)])],[],[]⟩,[(.exit 0,⟨[],[],[]⟩),(.ret,⟨[(2,false,[.d true .B])],[],[]⟩)]⟩],[]⟩)]
def mT:KG:=⟨TT,EQS,[iS],[]⟩
def eU:aO [yD1]->Option (OutK.val (.data true [(false,.B)])):=cr mT wT Vp 18 0 [yD1] (.data true [(false,.B)])
def mU:aN:=⟨18,[yD1],.data true [(false,.B)],eU,2⟩
def Bx:cd:= [(59,⟨[⟨false,3,0,[1],⟨[(0,false,[.d true (.I .u64)]),(5,false,[.m (.I .u8)]),(6,false,[.d true (.I .i64)])],[],[]⟩,[(.exit 0,⟨[(5,false,[.m (.I .u8)])],[],[]⟩)]⟩],[]⟩)]
def ry:KG:=⟨TT,EQS,[],[]⟩
def gR:aO [(false,.I .u64),(false,.I .i64)]->Option (OutK.val (.mown (.I .u8))):=cr ry Bx VF 59 0 [(false,.I .u64),(false,.I .i64)] (.mown (.I .u8))
def rz:aN:=⟨59,[(false,.I .u64),(false,.I .i64)],.mown (.I .u8),gR,1⟩
def wU:cd:= []
def mV:KG:=⟨TT,EQS,[rz],[]⟩
def ck:aO [(false,.I .u32)]->Option (OutK.val (.mown (.I .u8))):=cr mV wU Vv 30 0 [(false,.I .u32)] (.mown (.I .u8))
def mW:aN:=⟨30,[(false,.I .u32)],.mown (.I .u8),ck,2⟩
def uj:cd:= [(10,⟨[⟨false,8,0,[1],⟨[(5,false,[.d true (.I .u8)]),(6,false,[.d true (.I .i64)])],[],[]⟩,[(.exit 0,⟨[(5,false,[.d true (.I .u8)])],[],[]⟩)]⟩,⟨false,17,0,[1,5],⟨[(7,false,[.o (.I .u8)]),(8,false,[.d true (.I .i64)])],[],[]⟩,[(.exit 2,⟨[(7,false,[.o (.I .u8)])],[],[]⟩)]⟩],[]⟩)]
def kS:KG:=⟨TT,EQS,[mR,mU,mW],[]⟩
def eb:aO [yD0]->Option (OutK.val (.data true [(false,.S (.I .u8)),(false,.I .i64)])):=cr kS uj Vj 10 0 [yD0] (.data true [(false,.S (.I .u8)),(false,.I .i64)])
def kZ:aN:=⟨10,[yD0],.data true [(false,.S (.I .u8)),(false,.I .i64)],eb,3⟩
def ph:cd:= [(11,⟨[⟨false,4,0,[0,1],⟨[(5,false,[.d true (.I .i64)])],[],[]⟩,[(.exit 0,⟨[],[],[]⟩),(.ret,⟨[(4,false,[.d true .B])],[],[]⟩)]⟩],[]⟩)]
def iL:KG:=⟨TT,EQS,[],[]⟩
def bq:aO [(false,.S (.I .u8)),(false,.S (.I .u8))]->Option (OutK.val (.data true [(false,.B)])):=cr iL ph Vk 11 0 [(false,.S (.I .u8)),(false,.S (.I .u8))] (.data true [(false,.B)])
def fx:aN:=⟨11,[(false,.S (.I .u8)),(false,.S (.I .u8))],.data true [(false,.B)],bq,1⟩
def la:cd:= []
def gr:KG:=⟨TT,EQS,[Jd,eI,kZ,fx],[]⟩
def cq:aO [yD0]->Option (OutK.val (.data true [(false,.B)])):=cr gr la fi3 3 0 [yD0] (.data true [(false,.B)])
def gu:aN:=⟨3,[yD0],.data true [(false,.B)],cq,10⟩
def DI:cd:= []
def uk:KG:=⟨TT,EQS,[],[]⟩
def jg:aO [(false,.I .i64)]->Option (OutK.val (.data true [(false,.B)])):=cr uk DI VG 81 0 [(false,.I .i64)] (.data true [(false,.B)])
def um:aN:=⟨81,[(false,.I .i64)],.data true [(false,.B)],jg,1⟩
def DK:cd:= []
def uq:KG:=⟨TT,EQS,[],[]⟩
def jh:aO [(false,.I .i64)]->Option (OutK.val (.data true [yD3])):=cr uq DK VH 82 0 [(false,.I .i64)] (.data true [yD3])
def ur:aN:=⟨82,[(false,.I .i64)],.data true [yD3],jh,1⟩
def ss:cd:= []
def jU:KG:=⟨TT,EQS,[],[]⟩
def cF:aO [yD3,yD3]->Option (OutK.val (.data true [(false,.I .i64)])):=cr jU ss VM 99 0 [yD3,yD3] (.data true [(false,.I .i64)])
def jV:aN:=⟨99,[yD3,yD3],.data true [(false,.I .i64)],cF,1⟩
def wV:cd:= []
def mX:KG:=⟨TT,EQS,[],[]⟩
def dO:aO [(false,.B)]->Option (OutK.val (.data true [yD3])):=cr mX wV OY 100 0 [(false,.B)] (.data true [yD3])
def mY:aN:=⟨100,[(false,.B)],.data true [yD3],dO,1⟩
def Bz:cd:= [(101,⟨[⟨true,3,5,[2,4,5],⟨[(6,false,[.d true (.I .i64)])],[],[]⟩,[(.normal,⟨[(6,false,[.d true (.I .i64)])],[],[]⟩)]⟩],[]⟩)]
def rA:KG:=⟨TT,EQS,[],[]⟩
def gS:aO [yD3,yD3]->Option (OutK.val (.data true [yD3])):=cr rA Bz OZ 101 0 [yD3,yD3] (.data true [yD3])
def rB:aN:=⟨101,[yD3,yD3],.data true [yD3],gS,1⟩
def BC:cd:= [(83,⟨[⟨true,3,9,[4,5,6,7],⟨[],[],[]⟩,[(.normal,⟨[(9,false,[.d true .B])],[],[]⟩)]⟩],[]⟩)]
def rC:KG:=⟨TT,EQS,[jV,mY,rB],[]⟩
def gT:aO [(false,.I .i64),yD3,yD3]->Option (OutK.val (.data true [yD3])):=cr rC BC VI 83 0 [(false,.I .i64),yD3,yD3] (.data true [yD3])
def rD:aN:=⟨83,[(false,.I .i64),yD3,yD3],.data true [yD3],gT,2⟩
def us:cd:= []
def ld:KG:=⟨TT,EQS,[],[]⟩
def de:aO [yD3]->Option (OutK.val (.data true [(false,.I .i64),(false,.B)])):=cr ld us VJ 84 0 [yD3] (.data true [(false,.I .i64),(false,.B)])
def lf:aN:=⟨84,[yD3],.data true [(false,.I .i64),(false,.B)],de,1⟩
def su:cd:= [(51,⟨[⟨false,6,0,[0,1],⟨[(6,false,[.m (.C (.I .i64) (.C (.I .i64) (.I .i64)))]),(7,false,[.m (.C (.I .i64) (.I .u64))]),(8,false,[.d true (.I .i64)])],[],[]⟩,[(.exit 0,⟨[(6,false,[.m (.C (.I .i64) (.C (.I .i64) (.I .i64)))]),(7,false,[.m (.C (.I .i64) (.I .u64))])],[],[]⟩)]⟩,⟨false,9,0,[0,1,6,7,8],⟨[(9,false,[.d true (.I .i64)])],[],[]⟩,[(.exit 2,⟨[(9,false,[.d true (.I .i64)])],[],[]⟩)]⟩,⟨false,17,0,[0,1,6,7,8,9,10],⟨[(11,false,[.d true (.I .i64)])],[],[(.sl 6 0,.C (.I .i64) (.C (.I .i64) (.I .i64))),(.sl 7 0,.C (.I .i64) (.I .u64))]⟩,[(.exit 4,⟨[],[],[(.sl 6 0,.C (.I .i64) (.C (.I .i64) (.I .i64))),(.sl 7 0,.C (.I .i64) (.I .u64))]⟩)]⟩,⟨false,24,0,[7],⟨[(6,false,[.m (.C (.I .i64) (.C (.I .i64) (.I .i64)))]),(12,false,[.d true (.I .i64)])],[],[]⟩,[(.exit 6,⟨[(6,false,[.m (.C (.I .i64) (.C (.I .i64) (.I .i64)))])],[],[]⟩),(.ret,⟨[(4,false,[.m (.C (.I .i64) (.C (.I .i64) (.I .i64)))]),(5,false,[.d true (.I .i64)])],[],[]⟩)]⟩],[(13,⟨[[],[],[],[],[],[],[],[],[],[],[.sl 7 0]],[(false,[]),(false,[]),(false,[]),(false,[]),(false,[]),(false,[]),(false,[]),(false,[]),(false,[]),(false,[]),(false,[])]⟩),(21,⟨[[],[],[],[],[],[],[],[],[],[],[],[],[],[],[.sl 6 0]],[(false,[]),(false,[]),(false,[]),(false,[]),(false,[]),(false,[]),(false,[]),(false,[]),(false,[]),(false,[]),(false,[]),(false,[]),(false,[]),(false,[]),(false,[])]⟩)]⟩)]
def jW:KG:=⟨TT,EQS,[iS,um,ur,rD,lf],[]⟩
def dw:aO [(false,.I .i64),yD1]->Option (OutK.val (.data true [yD1,(false,.I .i64)])):=cr jW su Vy 51 0 [(false,.I .i64),yD1] (.data true [yD1,(false,.I .i64)])
def jX:aN:=⟨51,[(false,.I .i64),yD1],.data true [yD1,(false,.I .i64)],dw,3⟩
def wW:cd:= []
def mZ:KG:=⟨TT,EQS,[jX],[]⟩
def eV:aO [yD0]->Option (OutK.val (.data true [yD0])):=cr mZ wW Vq 24 0 [yD0] (.data true [yD0])
def nc:aN:=⟨24,[yD0],.data true [yD0],eV,4⟩
def nO:cd:= [(6,⟨[⟨true,5,13,[1,5,6,7],⟨[],[],[]⟩,[(.ret,⟨[(4,false,[.d true .B])],[],[]⟩),(.normal,⟨[],[],[]⟩)]⟩],[]⟩)]
def ig:KG:=⟨TT,EQS,[Jd,eI,fx,gD,pg,kQ,nc],[]⟩
def cK:aO [yD0,(false,.S (.I .u8))]->Option (OutK.val (.data true [(false,.B)])):=cr ig nO fi6 6 0 [yD0,(false,.S (.I .u8))] (.data true [(false,.B)])
def ij:aN:=⟨6,[yD0,(false,.S (.I .u8))],.data true [(false,.B)],cK,11⟩
end K
end Ev
end
noncomputable section
namespace Ev
namespace K
open Go Go.RowKit
set_option maxRecDepth 100000
set_option maxHeartbeats 1000000
theorem ut:GOk jO E1 0:=gok bJ bQ be trivial trivial
theorem wX:ar E1 jP:=aI ut (by kernel_rfl) Wx (by kernel_rfl) rfl
theorem pj:GOk gF E1 0:=gok bJ bQ be trivial trivial
theorem qC:ar E1 gG:=aI pj (by kernel_rfl) Rm (by kernel_rfl) rfl
theorem mv:GOk fM E1 1:=gok bJ bQ be ⟨⟨by decide,qC⟩,trivial⟩ trivial
theorem nQ:ar E1 fN:=aI mv (by kernel_rfl) Wy (by kernel_rfl) rfl
theorem qD:GOk iy E1 2:=gok bJ bQ be ⟨⟨by decide,wX⟩,⟨⟨by decide,nQ⟩,trivial⟩⟩ trivial
theorem sv:ar E1 iz:=aI qD (by kernel_rfl) Wo (by kernel_rfl) rfl
theorem sw:GOk iY E1 3:=gok bJ bQ be ⟨⟨by decide,sv⟩,trivial⟩ trivial
theorem uv:ar E1 iZ:=aI sw (by kernel_rfl) Wc (by kernel_rfl) rfl
theorem qE:GOk kJ E1 0:=gok bJ bQ be trivial trivial
theorem sx:ar E1 kK:=aI qE (by kernel_rfl) Wm (by kernel_rfl) rfl
theorem sy:GOk mM E1 1:=gok bJ bQ be ⟨⟨by decide,sx⟩,trivial⟩ ⟨⟨Wk,rfl⟩,⟨⟨Wl,rfl⟩,⟨⟨Wn,rfl⟩,⟨⟨Ww,rfl⟩,trivial⟩⟩⟩⟩
theorem uw:ar E1 mN:=aI sy (by kernel_rfl) Wb (by kernel_rfl) rfl
theorem pk:GOk jR E1 0:=gok bJ bQ be trivial trivial
theorem qF:ar E1 jS:=aI pk (by kernel_rfl) Wd (by kernel_rfl) rfl
theorem mw:GOk iH E1 0:=gok bJ bQ be trivial trivial
theorem nR:ar E1 iI:=aI mw (by kernel_rfl) Wp (by kernel_rfl) rfl
theorem ux:GOk oX E1 1:=gok bJ bQ be ⟨⟨by decide,nR⟩,trivial⟩ trivial
theorem wY:ar E1 oY:=aI ux (by kernel_rfl) We (by kernel_rfl) rfl
theorem lg:GOk ic E1 0:=gok bJ bQ be trivial trivial
theorem my:ar E1 ie:=aI lg (by kernel_rfl) Wz (by kernel_rfl) rfl
theorem sA:GOk mO E1 1:=gok bJ bQ be ⟨⟨by decide,my⟩,trivial⟩ trivial
theorem uy:ar E1 mP:=aI sA (by kernel_rfl) Wq (by kernel_rfl) rfl
theorem uz:GOk oZ E1 2:=gok bJ bQ be ⟨⟨by decide,uy⟩,trivial⟩ trivial
theorem wZ:ar E1 pc:=aI uz (by kernel_rfl) Wf (by kernel_rfl) rfl
theorem pm:GOk jT E1 8:=gok bJ bQ be ⟨⟨by decide,uw⟩,⟨⟨by decide,uv⟩,⟨⟨by decide,qF⟩,⟨⟨by decide,wY⟩,⟨⟨by decide,wZ⟩,trivial⟩⟩⟩⟩⟩ trivial
theorem fT:ar E1 eI:=aI pm (by kernel_rfl) fn9 (by kernel_rfl) rfl
theorem mz:GOk iJ E1 0:=gok bJ bQ be trivial trivial
theorem nS:ar E1 iK:=aI mz (by kernel_rfl) Wh (by kernel_rfl) rfl
theorem uA:GOk pf E1 1:=gok bJ bQ be ⟨⟨by decide,nS⟩,trivial⟩ trivial
theorem xa:ar E1 pg:=aI uA (by kernel_rfl) VW (by kernel_rfl) rfl
theorem qG:GOk kP E1 9:=gok bJ bQ be ⟨⟨by decide,fT⟩,⟨⟨by decide,jf⟩,⟨⟨by decide,ug⟩,trivial⟩⟩⟩ trivial
theorem sB:ar E1 kQ:=aI qG (by kernel_rfl) VX (by kernel_rfl) rfl
theorem sC:GOk mQ E1 0:=gok bJ bQ be trivial trivial
theorem uB:ar E1 mR:=aI sC (by kernel_rfl) VY (by kernel_rfl) rfl
theorem sD:GOk mS E1 0:=gok bJ bQ be trivial trivial
theorem lh:ar E1 iS:=aI sD (by kernel_rfl) Wi (by kernel_rfl) rfl
theorem sE:GOk mT E1 1:=gok bJ bQ be ⟨⟨by decide,lh⟩,trivial⟩ trivial
theorem uC:ar E1 mU:=aI sE (by kernel_rfl) VZ (by kernel_rfl) rfl
theorem xb:GOk ry E1 0:=gok bJ bQ be trivial trivial
theorem zK:ar E1 rz:=aI xb (by kernel_rfl) Wr (by kernel_rfl) rfl
theorem sF:GOk mV E1 1:=gok bJ bQ be ⟨⟨by decide,zK⟩,trivial⟩ trivial
theorem uD:ar E1 mW:=aI sF (by kernel_rfl) Wg (by kernel_rfl) rfl
theorem qH:GOk kS E1 2:=gok bJ bQ be ⟨⟨by decide,uB⟩,⟨⟨by decide,uC⟩,⟨⟨by decide,uD⟩,trivial⟩⟩⟩ trivial
theorem sG:ar E1 kZ:=aI qH (by kernel_rfl) VU (by kernel_rfl) rfl
theorem mA:GOk iL E1 0:=gok bJ bQ be trivial trivial
theorem ik:ar E1 fx:=aI mA (by kernel_rfl) VV (by kernel_rfl) rfl
theorem jB:GOk gr E1 9:=gok bJ bQ be ⟨⟨by decide,Je⟩,⟨⟨by decide,fT⟩,⟨⟨by decide,sG⟩,⟨⟨by decide,ik⟩,trivial⟩⟩⟩⟩ trivial
theorem kn:ar E1 gu:=aI jB (by kernel_rfl) fn3 (by kernel_rfl) rfl
theorem zL:GOk uk E1 0:=gok bJ bQ be trivial trivial
theorem BD:ar E1 um:=aI zL (by kernel_rfl) Ws (by kernel_rfl) rfl
theorem zM:GOk uq E1 0:=gok bJ bQ be trivial trivial
theorem BE:ar E1 ur:=aI zM (by kernel_rfl) Wt (by kernel_rfl) rfl
theorem pn:GOk jU E1 0:=gok bJ bQ be trivial trivial
theorem qI:ar E1 jV:=aI pn (by kernel_rfl) WA (by kernel_rfl) rfl
theorem sH:GOk mX E1 0:=gok bJ bQ be trivial trivial
theorem uE:ar E1 mY:=aI sH (by kernel_rfl) Rj (by kernel_rfl) rfl
theorem xc:GOk rA E1 0:=gok bJ bQ be trivial trivial
theorem zN:ar E1 rB:=aI xc (by kernel_rfl) Rk (by kernel_rfl) rfl
theorem xd:GOk rC E1 1:=gok bJ bQ be ⟨⟨by decide,qI⟩,⟨⟨by decide,uE⟩,⟨⟨by decide,zN⟩,trivial⟩⟩⟩ trivial
theorem zO:ar E1 rD:=aI xd (by kernel_rfl) Wu (by kernel_rfl) rfl
theorem qJ:GOk ld E1 0:=gok bJ bQ be trivial trivial
theorem sI:ar E1 lf:=aI qJ (by kernel_rfl) Wv (by kernel_rfl) rfl
theorem po:GOk jW E1 2:=gok bJ bQ be ⟨⟨by decide,lh⟩,⟨⟨by decide,BD⟩,⟨⟨by decide,BE⟩,⟨⟨by decide,zO⟩,⟨⟨by decide,sI⟩,trivial⟩⟩⟩⟩⟩ trivial
theorem qK:ar E1 jX:=aI po (by kernel_rfl) Wj (by kernel_rfl) rfl
theorem sJ:GOk mZ E1 3:=gok bJ bQ be ⟨⟨by decide,qK⟩,trivial⟩ trivial
theorem uF:ar E1 nc:=aI sJ (by kernel_rfl) Wa (by kernel_rfl) rfl
theorem lk:GOk ig E1 10:=gok bJ bQ be ⟨⟨by decide,Je⟩,⟨⟨by decide,fT⟩,⟨⟨by decide,ik⟩,⟨⟨by decide,jf⟩,⟨⟨by decide,xa⟩,⟨⟨by decide,sB⟩,⟨⟨by decide,uF⟩,trivial⟩⟩⟩⟩⟩⟩⟩ trivial
theorem mB:ar E1 ij:=aI lk (by kernel_rfl) fn6 (by kernel_rfl) rfl
end K
end Ev
end
noncomputable section
namespace Ev
namespace K
open Go Go.RowKit
def W:(e:Ty)->e.val->Prop
 | .I k,x=>inK k x
 | .B,_=>True
 | .S e,x=>SlW e.size (λy=>W e y) x
 | .U,_=>True
 | .C a b,x=>W a x.1/\W b x.2
def Op(P:Program)(t:TypeId)(e:Ty):Prop:=∀ts,Typ P t ts->∃x:e.val,ts=e.row x/\W e x
def Ops(P:Program)(tl:List TypeId)(e:Ty):Prop:=∀tss:List (List T),tss.length=tl.length->(∀(i:Nat) t l,tl[i]? =some t->tss[i]? =some l->Typ P t l)->∃x:e.val,tss.flatten=e.row x/\W e x
section
variable {P : Program} {t : TypeId} {tl : List TypeId} {e a b : Ty}
theorem uG{k:IntKind}(h:P.underlying t=some (.int k)):Op P t (.I k):=λts ht=>MG h ht
theorem uH{t':TypeId}(h:P.underlying t=some (.slice t'))(hc:P.cellsOf t'=e.size)(ho:Op P t' e):Op P t (.S e):=λts ht=>HK (r:=e.row) (Q:=λy=>W e y) h hc ho ht
theorem sV(h:Op P t e):Ops P [t] e:=λtss hl ht=>by
 obtain⟨l,rfl⟩:=List.length_eq_one_iff.1 hl;obtain⟨x,h1,h2⟩:=h l (ht 0 t l rfl rfl);exact⟨x,by simp [h1],h2⟩
theorem ji(h:Op P t a)(h':Ops P tl b):Ops P (t::tl) (.C a b):=λtss hl ht=>by
 match tss,hl with
 |l::tss,hl=>
  obtain⟨x,h1,h2⟩:=h l (ht 0 t l rfl rfl);obtain⟨y,h3,h4⟩:=h' tss (by simpa using hl) λi t' l' a b=>ht (i+1) t' l' a b;exact⟨(x,y),by rw [List.flatten_cons,h1,h3];rfl,h2,h4⟩
theorem lT{fs:Array Field}(h:P.underlying t=some (.struct fs))(hf:fs.toList.map (·.type)=tl)(ho:Ops P tl e):Op P t e:=λts ht=>by
 obtain⟨tss,rfl,h1,h2⟩:=Es h ht;subst hf;refine ho tss (by simpa using h1) λi t' l hi hl=> ?_;rw [List.getElem?_map,Option.map_eq_some_iff]at hi;obtain⟨f,hf,rfl⟩:=hi;exact h2 i f l hf hl
theorem Jf{ts:List TypeId}{tds:List TD}{d:TypeDesc}(hu:P.underlying t=some d)(hd:aJ d=false)(ho:Op P t e)(h:gK P (t::ts) tds):∃(x:e.val) (r:List TD),tds=jq (false,e) x::r/\W e x/\gK P ts r:=by
 obtain⟨y,r,rfl,h1,h2⟩:=Kv hu hd h;obtain⟨x,h3,h4⟩:=ho _ h1;refine⟨x,r,?_,h4,h2⟩;show TD.one y::r=(match e.row x with| [y]=>TD.one y|ys=>TD.agg ys)::r;rw [<-h3]
theorem BF{ts:List TypeId}{tds:List TD}{d:TypeDesc}(hu:P.underlying t=some d)(hd:aJ d=true)(ho:Op P t e)(h:gK P (t::ts) tds):∃(x:e.val) (r:List TD),tds=jq (true,e) x::r/\W e x/\gK P ts r:=by
 obtain⟨y,r,rfl,h1,h2⟩:=Kw hu hd h;obtain⟨x,h3,h4⟩:=ho _ h1;exact⟨x,r,by rw [h3];rfl,h4,h2⟩
end
theorem Fr{E:Env}{en:aN}(ok:ar E en){a:aO en.ins}{tds:List TD}(ht:tds=cm en.ins a)(ho:en.out= .data true [(false,.B)])(h:en.f a=some (cast (by rw [ho]) true)):∃m n kind,(cg E m n).1 en.k tds=some (kind,[.one (.v (.bool true))]):=by
 have h1:=ok 0 a _ h;subst ht;obtain⟨k,ins,out,f,d⟩:=en;dsimp only at ho;subst ho;exact Qn h1
end K
end Ev
end
noncomputable section
namespace Ev
open Go Go.RowKit
def gq(x:Sl (Int))(y:Sl (Int)):Option (Bool):=K.gq (x,y)
def bh(x:Sl (Int)):Option ((Int×(Sl (Int×Int×Int)))×Int×Int):=K.bh x
def FL8:Option (Bool):=K.FL8 ()
def cZ(x:Int)(y:Int):Option (Bool):=K.cZ (x,y)
def eR(x:Int×(Sl (Int×Int×Int))):Option (Int):=K.eR x
def dv(x:Sl (Int×Int×Int)):Option (Int):=K.dv x
def dt(x:Int)(y:Int):Option (List (Int)):=K.dt (x,y)
def fR(x:Int):Option (List (Int)):=K.fR x
def cJ(x:Int)(y:Int):Option (List (Int)):=K.cJ (x,y)
def eS(x:Int):Option (List (Int)):=K.eS x
def dL(x:Sl (Int)):Option (List (Int)):=K.dL x
def bp(x:Int×(Sl (Int×Int×Int))):Option (Sl (Int)×Int):=K.bp x
def cB(x:Sl (Int×Int×Int))(y:Sl (Int×Int×Int)):Option (Bool):=K.cB (x,y)
def fS(x:Int×(Sl (Int×Int×Int)))(y:Int×(Sl (Int×Int×Int))):Option (Bool):=K.fS (x,y)
def ci(x:Sl (Int)):Option (Bool):=K.ci x
def eT(x:Int×(Sl (Int×Int×Int))):Option (Int):=K.eT x
def cD(x:Int×Int×Int)(y:Int×Int×Int):Option (Bool):=K.cD (x,y)
def eU(x:Sl (Int×Int×Int)):Option (Bool):=K.eU x
def gR(x:Int)(y:Int):Option (List (Int)):=K.gR (x,y)
def ck(x:Int):Option (List (Int)):=K.ck x
def eb(x:Int×(Sl (Int×Int×Int))):Option (Sl (Int)×Int):=K.eb x
def bq(x:Sl (Int))(y:Sl (Int)):Option (Bool):=K.bq (x,y)
def cq(x:Int×(Sl (Int×Int×Int))):Option (Bool):=K.cq x
def jg(x:Int):Option (Bool):=K.jg x
def jh(x:Int):Option (Int×Int):=K.jh x
def cF(x:Int×Int)(y:Int×Int):Option (Int):=K.cF (x,y)
def dO(x:Bool):Option (Int×Int):=K.dO x
def gS(x:Int×Int)(y:Int×Int):Option (Int×Int):=K.gS (x,y)
def gT(x:Int)(y:Int×Int)(z:Int×Int):Option (Int×Int):=K.gT (x,y,z)
def de(x:Int×Int):Option (Int×Bool):=K.de x
def dw(x:Int)(y:Sl (Int×Int×Int)):Option ((Sl (Int×Int×Int))×Int):=K.dw (x,y)
def eV(x:Int×(Sl (Int×Int×Int))):Option (Int×(Sl (Int×Int×Int))):=K.eV x
def cK(x:Int×(Sl (Int×Int×Int)))(y:Sl (Int)):Option (Bool):=K.cK (x,y)
end Ev
end
noncomputable section
namespace Ev
open Go Go.RowKit
set_option maxRecDepth 100000
set_option maxHeartbeats 1000000
abbrev yC:=Int×Int×Sl Int×Sl Int×Sl Int×Sl Int
abbrev yM:=Int×Int×Sl Int×Sl Int×Sl Int
abbrev yT:=Int×Int×Int
theorem sK(x:Int)(y:Int):cZ x y=if y >= 0 then some (decide (y<x))else some false:=by kernel_rfl
def fy(x:Int×Sl yT):Int->Option (Int ⊕ PUnit ⊕ Int ⊕ Empty):=λ(x_1:Int)=>if x_1<(↑x.snd.l.length:Int)then(atS 3 x.snd x_1).bind λ(y:Int×Int×Int)=>(cZ x.fst y.fst).bind λ(out:Bool)=>if¬out=true then some (Sum.inr (Sum.inr (Sum.inl x_1)))else(cZ x.fst y.snd.fst).bind λ(out:Bool)=>if¬out=true then some (Sum.inr (Sum.inr (Sum.inl x_1)))else some (Sum.inl (IntKind.i64.wrap (x_1+1)))else some (Sum.inr (Sum.inl ()))
def fB(x:Int×Sl yT):Int->Option (Int ⊕ PUnit ⊕ Int ⊕ Empty):=λ(x_1:Int)=>if x_1<(↑x.snd.l.length:Int)then(atS 3 x.snd x_1).bind λ(y:Int×Int×Int)=>if y.snd.snd<0 then some (Sum.inr (Sum.inr (Sum.inl x_1)))else if y.snd.snd>2147483647 then some (Sum.inr (Sum.inr (Sum.inl x_1)))else some (Sum.inl (IntKind.i64.wrap (x_1+1)))else some (Sum.inr (Sum.inl ()))
def uI(x:Int×Sl yT):Int->Option (Int ⊕ PUnit ⊕ Int ⊕ Empty):=λ(x_1:Int)=>if x_1<(↑x.snd.l.length:Int)then(atS 3 x.snd x_1).bind λ(y:Int×Int×Int)=>if y.snd.snd<0 then some (Sum.inr (Sum.inr (Sum.inl x_1)))else if y.snd.snd>2147483647 then some (Sum.inr (Sum.inr (Sum.inl x_1)))else some (Sum.inl (IntKind.i64.wrap (x_1+1)))else some (Sum.inr (Sum.inl ()))
theorem uJ(x:Int×Sl yT):eR x=if x.fst<0 then some 3
else if x.fst>4096 then some 5 else if(↑x.snd.l.length:Int)>65536 then some 5 else(aR (fy x) 0).bind λ(y:PUnit ⊕ Int ⊕ Empty)=>Sum.elim (λ(val:PUnit)=>(aR (fB x) 0).bind λ(y:PUnit ⊕ Int ⊕ Empty)=>Sum.elim (λ(val:PUnit)=>some 0) (λ(val:Int ⊕ Empty)=>Sum.elim (λ(val:Int)=>if val >= 0 then some 7 else some 0) (λ(val:Empty)=>nE val) val) y) (λ(val:Int ⊕ Empty)=>Sum.elim (λ(val:Int)=>if val >= 0 then some 3 else(aR (uI x) 0).bind λ(y:PUnit ⊕ Int ⊕ Empty)=>Sum.elim (λ(val:PUnit)=>some 0) (λ(val:Int ⊕ Empty)=>Sum.elim (λ(val:Int)=>if val >= 0 then some 7 else some 0) (λ(val:Empty)=>nE val) val) y) (λ(val:Empty)=>nE val) val) y:=by kernel_rfl
def ec(x:Sl yT):Int->Option (Int ⊕ PUnit ⊕ Int ⊕ Empty):=λ(x_1:Int)=>if x_1<(↑x.l.length:Int)then(atS 3 x x_1).bind λ(y:Int×Int×Int)=>if y.snd.snd≠1 then some (Sum.inr (Sum.inr (Sum.inl 1)))else some (Sum.inl (IntKind.i64.wrap (x_1+1)))else some (Sum.inr (Sum.inl ()))
theorem qL(x:Sl yT):dv x=(aR (ec x) 0).bind λ(y:PUnit ⊕ Int ⊕ Empty)=>Sum.elim (λ(val:PUnit)=>some 0) (λ(val:Int ⊕ Empty)=>Sum.elim (λ(val:Int)=>some val) (λ(val:Empty)=>nE val) val) y:=by kernel_rfl
def dh(x:Int)(y:Int):Int×List Int->Option (Int×List Int ⊕ List Int ⊕ Empty):=λ(x_1:Int×List Int)=>if x_1.fst<(↑(List.replicate y.toNat (0:Int)).length:Int)then(Ad IntKind.u8 x (IntKind.u64.wrap (IntKind.i64.wrap (8*x_1.fst)))).bind λ(z:Int)=>(atL x_1.snd x_1.fst).bind λ(x:Int)=>(atL x_1.snd x_1.fst).bind λ(y:Int)=>some (Sum.inl (IntKind.i64.wrap (x_1.fst+1),List.set x_1.snd (Int.toNat x_1.fst) z))else some (Sum.inr (Sum.inl x_1.snd))
theorem nT(x:Int)(y:Int):dt x y=(yh y y).bind λ(x_1:PUnit)=>(vo y).bind λ(x_2:PUnit)=>(aR (dh x y) (0,List.replicate y.toNat 0)).bind λ(y:List Int ⊕ Empty)=>Sum.elim (λ(val:List Int)=>some val) (λ(val:Empty)=>nE val) y:=by kernel_rfl
theorem xe(x:Int):fR x=(dt x 1).bind λ(out:List Int)=>some out:=by kernel_rfl
def cI(x:Int)(y:Int):Int×List Int->Option (Int×List Int ⊕ List Int ⊕ Empty):=λ(x_1:Int×List Int)=>if x_1.fst<(↑(List.replicate y.toNat (0:Int)).length:Int)then(Ad IntKind.u32 x (IntKind.u64.wrap (IntKind.i64.wrap (8*x_1.fst)))).bind λ(z:Int)=>(atL x_1.snd x_1.fst).bind λ(x:Int)=>(atL x_1.snd x_1.fst).bind λ(y:Int)=>some (Sum.inl (IntKind.i64.wrap (x_1.fst+1),List.set x_1.snd (Int.toNat x_1.fst) (IntKind.u8.wrap z)))else some (Sum.inr (Sum.inl x_1.snd))
theorem mC(x:Int)(y:Int):cJ x y=(yh y y).bind λ(x_1:PUnit)=>(vo y).bind λ(x_2:PUnit)=>(aR (cI x y) (0,List.replicate y.toNat 0)).bind λ(y:List Int ⊕ Empty)=>Sum.elim (λ(val:List Int)=>some val) (λ(val:Empty)=>nE val) y:=by kernel_rfl
theorem uK(x:Int):eS x=(cJ x 4).bind λ(out:List Int)=>some out:=by kernel_rfl
def gd(x:Sl Int):List Int×Int->Option (List Int×Int ⊕ List Int ⊕ Empty):=λ(x_1:List Int×Int)=>if x_1.snd<(↑x.l.length:Int)then(atS 1 x x_1.snd).bind λ(y:Int)=>(eS (IntKind.u32.wrap y)).bind λ(out:List Int)=>(app x_1.fst out).bind λ(lm:List Int)=>some (Sum.inl (lm,IntKind.i64.wrap (x_1.snd+1)))else some (Sum.inr (Sum.inl x_1.fst))
theorem xf(x:Sl Int):dL x=(aR (gd x) ([],0)).bind λ(y:List Int ⊕ Empty)=>Sum.elim (λ(val:List Int)=>some val) (λ(val:Empty)=>nE val) y:=by kernel_rfl
def ee(x:Int×Sl yT)(out:Int):List Int×Int->Option (List Int×Int ⊕ List Int ⊕ Empty):=λ(x_1:List Int×Int)=>if x_1.snd<(↑x.snd.l.length:Int)then(atS 3 x.snd x_1.snd).bind λ(y:Int×Int×Int)=>(dL {nn:=true,sz:=1,l:= [y.fst,y.snd.fst]}).bind λ(out_1:List Int)=>(app x_1.fst out_1).bind λ(lm:List Int)=>if out=1 then(dL {nn:=true,sz:=1,l:= [y.snd.snd]}).bind λ(out:List Int)=>(app lm out).bind λ(lm:List Int)=>some (Sum.inl (lm,IntKind.i64.wrap (x_1.snd+1)))else some (Sum.inl (lm,IntKind.i64.wrap (x_1.snd+1)))else some (Sum.inr (Sum.inl x_1.fst))
theorem qM(x:Int×Sl yT):bp x=(eR x).bind λ(out:Int)=>if out≠0 then some ({nn:=false,sz:=0,l:= []},out)else(cT x.snd).bind λ(out:Bool)=>if¬out=true then some ({nn:=false,sz:=0,l:= []},6)else(dv x.snd).bind λ(out:Int)=>(fR out).bind λ(out_1:List Int)=>(app [70,82,84,49] out_1).bind λ(lm:List Int)=>(dL {nn:=true,sz:=1,l:= [x.fst,(↑x.snd.l.length:Int)]}).bind λ(out_2:List Int)=>(app lm out_2).bind λ(lm:List Int)=>(aR (ee x out) (lm,0)).bind λ(y:List Int ⊕ Empty)=>Sum.elim (λ(val:List Int)=>some ({nn:=true,sz:=1,l:=val},0)) (λ(val:Empty)=>nE val) y:=by kernel_rfl
def il(x:Sl yT)(y:Sl yT):Int->Option (Int ⊕ PUnit ⊕ Bool ⊕ Empty):=λ(x_1:Int)=>if x_1<(↑x.l.length:Int)then(atS 3 x x_1).bind λ(y_1:Int×Int×Int)=>(atS 3 y x_1).bind λ(y:Int×Int×Int)=>if¬(y_1.fst=y.fst/\y_1.snd.fst=y.snd.fst/\y_1.snd.snd=y.snd.snd)then some (Sum.inr (Sum.inr (Sum.inl false)))else some (Sum.inl (IntKind.i64.wrap (x_1+1)))else some (Sum.inr (Sum.inl ()))
theorem nU(x:Sl yT)(y:Sl yT):cB x y=if(↑x.l.length:Int)≠(↑y.l.length:Int)then some false
else(aR (il x y) 0).bind λ(y:PUnit ⊕ Bool ⊕ Empty)=>Sum.elim (λ(val:PUnit)=>some true) (λ(val:Bool ⊕ Empty)=>Sum.elim (λ(val:Bool)=>some val) (λ(val:Empty)=>nE val) val) y:=by kernel_rfl
theorem xg(x:Int×Sl yT)(y:Int×Sl yT):fS x y=if x.fst=y.fst then(cB x.snd y.snd).bind λ(out:Bool)=>some (decide (out=true))
else some false:=by kernel_rfl
theorem jY(x:Sl Int):ci x=(bh x).bind λ(out:(Int×Sl yT)×Int×Int)=>if out.snd.fst≠0 then some false else(bp out.fst).bind λ(out:Sl Int×Int)=>if out.snd=0 then(gq out.fst x).bind λ(out:Bool)=>some (decide (out=true))else some false:=by kernel_rfl
def fC(x:Int×Sl yT):Int->Option (Int ⊕ PUnit ⊕ Int ⊕ Empty):=λ(x_1:Int)=>if x_1<(↑x.snd.l.length:Int)then(atS 3 x.snd x_1).bind λ(y:Int×Int×Int)=>if y.fst<0 then some (Sum.inr (Sum.inr (Sum.inl 3)))else if y.fst >= x.fst then some (Sum.inr (Sum.inr (Sum.inl 3)))else if y.snd.fst<0 then some (Sum.inr (Sum.inr (Sum.inl 3)))else if y.snd.fst >= x.fst then some (Sum.inr (Sum.inr (Sum.inl 3)))else some (Sum.inl (IntKind.i64.wrap (x_1+1)))else some (Sum.inr (Sum.inl ()))
def fD(x:Int×Sl yT):Int->Option (Int ⊕ PUnit ⊕ Int ⊕ Empty):=λ(x_1:Int)=>if x_1<(↑x.snd.l.length:Int)then(atS 3 x.snd x_1).bind λ(y:Int×Int×Int)=>if y.snd.snd<0 then some (Sum.inr (Sum.inr (Sum.inl 7)))else(atS 3 x.snd x_1).bind λ(y:Int×Int×Int)=>if y.snd.snd>2147483647 then some (Sum.inr (Sum.inr (Sum.inl 7)))else some (Sum.inl (IntKind.i64.wrap (x_1+1)))else some (Sum.inr (Sum.inl ()))
theorem uL(x:Int×Sl yT):eT x=if x.fst<0 then some 3
else if x.fst>4096 then some 5 else if(↑x.snd.l.length:Int)>65536 then some 5 else(aR (fC x) 0).bind λ(y:PUnit ⊕ Int ⊕ Empty)=>Sum.elim (λ(val:PUnit)=>(aR (fD x) 0).bind λ(y:PUnit ⊕ Int ⊕ Empty)=>Sum.elim (λ(val:PUnit)=>some 0) (λ(val:Int ⊕ Empty)=>Sum.elim (λ(val:Int)=>some val) (λ(val:Empty)=>nE val) val) y) (λ(val:Int ⊕ Empty)=>Sum.elim (λ(val:Int)=>some val) (λ(val:Empty)=>nE val) val) y:=by kernel_rfl
theorem ll(x:Int×Int×Int)(y:Int×Int×Int):cD x y=if x.fst<y.fst then some true
else if x.fst=y.fst then some (decide (x.snd.fst<y.snd.fst))else some false:=by kernel_rfl
def fE(x:Sl yT):Int->Option (Int ⊕ PUnit ⊕ Bool ⊕ Empty):=λ(x_1:Int)=>if x_1<(↑x.l.length:Int)then(atS 3 x (IntKind.i64.wrap (x_1 - 1))).bind λ(y:Int×Int×Int)=>(atS 3 x x_1).bind λ(y_1:Int×Int×Int)=>(cD y y_1).bind λ(out:Bool)=>if¬out=true then some (Sum.inr (Sum.inr (Sum.inl false)))else some (Sum.inl (IntKind.i64.wrap (x_1+1)))else some (Sum.inr (Sum.inl ()))
theorem uM(x:Sl yT):eU x=(aR (fE x) 1).bind λ(y:PUnit ⊕ Bool ⊕ Empty)=>Sum.elim (λ(val:PUnit)=>some true) (λ(val:Bool ⊕ Empty)=>Sum.elim (λ(val:Bool)=>some val) (λ(val:Empty)=>nE val) val) y:=by kernel_rfl
def gN(y:Int):Int×List Int×Int->Option (Int×List Int×Int ⊕ List Int ⊕ Empty):=λ(x:Int×List Int×Int)=>if x.snd.snd<y then(Ks x.fst 256).bind λ(z:Int)=>(app x.snd.fst [IntKind.u8.wrap z]).bind λ(lm:List Int)=>(Kr IntKind.u64 x.fst 256).bind λ(z:Int)=>some (Sum.inl (z,lm,IntKind.i64.wrap (x.snd.snd+1)))else some (Sum.inr (Sum.inl x.snd.fst))
theorem zP(x:Int)(y:Int):gR x y=(aR (gN y) (x,[],0)).bind λ(y:List Int ⊕ Empty)=>Sum.elim (λ(val:List Int)=>some val) (λ(val:Empty)=>nE val) y:=by kernel_rfl
theorem uN(x:Int):ck x=(gR (IntKind.u64.wrap x) 4).bind λ(out:List Int)=>some out:=by kernel_rfl
def eJ(x:Int×Sl yT):Int×Int->Option (Int×Int ⊕ Int ⊕ Empty):=λ(x_1:Int×Int)=>if x_1.snd<(↑x.snd.l.length:Int)then(atS 3 x.snd x_1.snd).bind λ(y:Int×Int×Int)=>if y.snd.snd≠1 then some (Sum.inl (1,IntKind.i64.wrap (x_1.snd+1)))else some (Sum.inl (x_1.fst,IntKind.i64.wrap (x_1.snd+1)))else some (Sum.inr (Sum.inl x_1.fst))
def eK(x:Int×Sl yT)(val:Int):List Int×Int->Option (List Int×Int ⊕ List Int ⊕ Empty):=λ(x_1:List Int×Int)=>if x_1.snd<(↑x.snd.l.length:Int)then(atS 3 x.snd x_1.snd).bind λ(y:Int×Int×Int)=>(ck (IntKind.u32.wrap y.fst)).bind λ(out:List Int)=>(app x_1.fst out).bind λ(lm:List Int)=>(atS 3 x.snd x_1.snd).bind λ(y:Int×Int×Int)=>(ck (IntKind.u32.wrap y.snd.fst)).bind λ(out:List Int)=>(app lm out).bind λ(lm:List Int)=>if val=1 then(atS 3 x.snd x_1.snd).bind λ(y:Int×Int×Int)=>(ck (IntKind.u32.wrap y.snd.snd)).bind λ(out:List Int)=>(app lm out).bind λ(lm:List Int)=>some (Sum.inl (lm,IntKind.i64.wrap (x_1.snd+1)))else some (Sum.inl (lm,IntKind.i64.wrap (x_1.snd+1)))else some (Sum.inr (Sum.inl x_1.fst))
theorem sL(x:Int×Sl yT):eb x=(eT x).bind λ(out:Int)=>if out≠0 then some ({nn:=false,sz:=0,l:= []},out)else(eU x.snd).bind λ(out:Bool)=>if¬out=true then some ({nn:=false,sz:=0,l:= []},6)else(aR (eJ x) (0,0)).bind λ(y:Int ⊕ Empty)=>Sum.elim (λ(val:Int)=>(app [70,82,84,49] [val]).bind λ(lm:List Int)=>(ck (IntKind.u32.wrap x.fst)).bind λ(out:List Int)=>(app lm out).bind λ(lm:List Int)=>(ck (IntKind.u32.wrap (↑x.snd.l.length:Int))).bind λ(out:List Int)=>(app lm out).bind λ(lm:List Int)=>(aR (eK x val) (lm,0)).bind λ(y:List Int ⊕ Empty)=>Sum.elim (λ(val:List Int)=>some ({nn:=true,sz:=1,l:=val},0)) (λ(val:Empty)=>nE val) y) (λ(val:Empty)=>nE val) y:=by kernel_rfl
def im(x:Sl Int)(y:Sl Int):Int->Option (Int ⊕ PUnit ⊕ Bool ⊕ Empty):=λ(x_1:Int)=>if x_1<(↑x.l.length:Int)then(atS 1 x x_1).bind λ(y_1:Int)=>(atS 1 y x_1).bind λ(y:Int)=>if y_1≠y then some (Sum.inr (Sum.inr (Sum.inl false)))else some (Sum.inl (IntKind.i64.wrap (x_1+1)))else some (Sum.inr (Sum.inl ()))
theorem nV(x:Sl Int)(y:Sl Int):bq x y=if(↑x.l.length:Int)≠(↑y.l.length:Int)then some false
else(aR (im x y) 0).bind λ(y:PUnit ⊕ Bool ⊕ Empty)=>Sum.elim (λ(val:PUnit)=>some true) (λ(val:Bool ⊕ Empty)=>Sum.elim (λ(val:Bool)=>some val) (λ(val:Empty)=>nE val) val) y:=by kernel_rfl
theorem ko(x:Int×Sl yT):cq x=if(↑x.snd.l.length:Int)>200 then FL8.bind λ(out:Bool)=>some (decide (out=true))
else(bp x).bind λ(out:Sl Int×Int)=>(eb x).bind λ(out_1:Sl Int×Int)=>FL8.bind λ(out_2:Bool)=>if out_2=true then(bq out.fst out_1.fst).bind λ(out_3:Bool)=>if out_3=true then some (decide (out.snd=out_1.snd))else some false else some false:=by kernel_rfl
theorem BG(x:Int):jg x=if x >= 1 then some (decide (x<=5))else some false:=by kernel_rfl
theorem BI(x:Int):jh x=if x<0 then some (-1,IntKind.u64.wrap x)else some (0,IntKind.u64.wrap x):=by kernel_rfl
theorem qN(x:Int×Int)(y:Int×Int):cF x y=if x.fst<y.fst then some (-1)
else if x.fst=y.fst then if x.snd<y.snd then some (-1)else if x.fst=y.fst/\x.snd=y.snd then some 0 else some 1 else if x.fst=y.fst/\x.snd=y.snd then some 0 else some 1:=by kernel_rfl
theorem uO(x:Bool):dO x=if x=true then some (0,1)else some (0,0):=by kernel_rfl
def jC:Int->Int->Option (Int ⊕ Empty):=λ(d d_1:Int)=>some (Sum.inl (IntKind.i64.wrap (d+d_1)))
theorem zQ(x:Int×Int)(y:Int×Int):gS x y=(if IntKind.u64.wrap (x.snd+y.snd)<x.snd then jC (IntKind.i64.wrap (x.fst+y.fst)) 1 else jC x.fst y.fst).bind λ(y_1:Int ⊕ Empty)=>Sum.elim (λ(val:Int)=>some (val,IntKind.u64.wrap (x.snd+y.snd))) (λ(val:Empty)=>nE val) y_1:=by kernel_rfl
theorem zR(x:Int)(y:Int×Int)(z:Int×Int):gT x y z=(if x=1 then some (Sum.inl true)else if x=3 then some (Sum.inl true)else some (Sum.inl (decide (x=4)))).bind λ(y_1:Bool ⊕ Empty)=>Sum.elim (λ(val:Bool)=>if val=true then(cF z y).bind λ(out:Int)=>if out<0 then some z else some y else if x=2 then if¬(y.fst=0/\y.snd=0)then(dO true).bind λ(out:Int×Int)=>some out else(dO (decide ¬(z.fst=0/\z.snd=0))).bind λ(out:Int×Int)=>some out else if x=5 then(gS y z).bind λ(out:Int×Int)=>some out else some (0,0)) (λ(val:Empty)=>nE val) y_1:=by kernel_rfl
theorem sM(x:Int×Int):de x=if x.fst=0 then if IntKind.i64.wrap x.snd >= 0 then some (IntKind.i64.wrap x.snd,true)else if x.fst= -1 then if IntKind.i64.wrap x.snd<0 then some (IntKind.i64.wrap x.snd,true)else some (0,false)else some (0,false)
else if x.fst= -1 then if IntKind.i64.wrap x.snd<0 then some (IntKind.i64.wrap x.snd,true)else some (0,false)else some (0,false):=by kernel_rfl
def cL(y:Sl yT)(x:List yT×List (Int×Int)×Int):Int->Option (Int ⊕ Int ⊕ Empty):=λ(x_1:Int)=>if x_1<(↑(List.length x.fst):Int)then(atL x.fst x_1).bind λ(x_2:Int×Int×Int)=>(atL x.fst x_1).bind λ(y_1:Int×Int×Int)=>(atS 3 y x.snd.snd).bind λ(y:Int×Int×Int)=>(cD y_1 y).bind λ(out:Bool)=>if out=true then some (Sum.inl (IntKind.i64.wrap (x_1+1)))else some (Sum.inr (Sum.inl x_1))else some (Sum.inr (Sum.inl x_1))
def cO(val:Int):Int×List yT×List (Int×Int)->Option (Int×List yT×List (Int×Int)⊕ List yT×List (Int×Int)⊕ Empty):=λ(x:Int×List yT×List (Int×Int))=>if x.fst>val then(atL x.snd.fst (IntKind.i64.wrap (x.fst - 1))).bind λ(x_1:Int×Int×Int)=>(atL x.snd.fst (IntKind.i64.wrap (x.fst - 1))).bind λ(y:Int×Int×Int)=>(atL x.snd.fst x.fst).bind λ(x_2:Int×Int×Int)=>(atL x.snd.fst x.fst).bind λ(y_1:Int×Int×Int)=>(atL x.snd.snd (IntKind.i64.wrap (x.fst - 1))).bind λ(x_3:Int×Int)=>(atL x.snd.snd (IntKind.i64.wrap (x.fst - 1))).bind λ(y_2:Int×Int)=>(atL x.snd.snd x.fst).bind λ(x_4:Int×Int)=>(atL x.snd.snd x.fst).bind λ(y_3:Int×Int)=>some (Sum.inl (IntKind.i64.wrap (x.fst - 1),List.set x.snd.fst (Int.toNat x.fst) y,List.set x.snd.snd (Int.toNat x.fst) y_2))else some (Sum.inr (Sum.inl x.snd))
def cP(val:Int):Int×List yT×List (Int×Int)->Option (Int×List yT×List (Int×Int)⊕ List yT×List (Int×Int)⊕ Empty):=λ(x:Int×List yT×List (Int×Int))=>if x.fst>val then(atL x.snd.fst (IntKind.i64.wrap (x.fst - 1))).bind λ(x_1:Int×Int×Int)=>(atL x.snd.fst (IntKind.i64.wrap (x.fst - 1))).bind λ(y:Int×Int×Int)=>(atL x.snd.fst x.fst).bind λ(x_2:Int×Int×Int)=>(atL x.snd.fst x.fst).bind λ(y_1:Int×Int×Int)=>(atL x.snd.snd (IntKind.i64.wrap (x.fst - 1))).bind λ(x_3:Int×Int)=>(atL x.snd.snd (IntKind.i64.wrap (x.fst - 1))).bind λ(y_2:Int×Int)=>(atL x.snd.snd x.fst).bind λ(x_4:Int×Int)=>(atL x.snd.snd x.fst).bind λ(y_3:Int×Int)=>some (Sum.inl (IntKind.i64.wrap (x.fst - 1),List.set x.snd.fst (Int.toNat x.fst) y,List.set x.snd.snd (Int.toNat x.fst) y_2))else some (Sum.inr (Sum.inl x.snd))
def eh(x:Int)(y:Sl yT):List yT×List (Int×Int)×Int->Option (List yT×List (Int×Int)×Int ⊕ List yT×List (Int×Int)⊕ Empty):=λ(x_1:List yT×List (Int×Int)×Int)=>if x_1.snd.snd<(↑y.l.length:Int)then(aR (cL y x_1) 0).bind λ(y_1:Int ⊕ Empty)=>Sum.elim (λ(val:Int)=>(atS 3 y x_1.snd.snd).bind λ(y_2:Int×Int×Int)=>(jh y_2.snd.snd).bind λ(out:Int×Int)=>if val<(↑(List.length x_1.fst):Int)then(atS 3 y x_1.snd.snd).bind λ(y_3:Int×Int×Int)=>(atL x_1.fst val).bind λ(x_2:Int×Int×Int)=>(atL x_1.fst val).bind λ(y_4:Int×Int×Int)=>(cD y_3 y_4).bind λ(out_1:Bool)=>if¬out_1=true then if List.length x_1.snd.fst=0 then none else(atL x_1.snd.fst val).bind λ(x_3:Int×Int)=>(atL x_1.snd.fst val).bind λ(y:Int×Int)=>(gT x y out).bind λ(out:Int×Int)=>(atL x_1.snd.fst val).bind λ(x:Int×Int)=>(atL x_1.snd.fst val).bind λ(y:Int×Int)=>some (Sum.inl (x_1.fst,List.set x_1.snd.fst val.toNat out,IntKind.i64.wrap (x_1.snd.snd+1)))else(app x_1.fst [(0,0,0)]).bind λ(lm:List yT)=>(app x_1.snd.fst [(0,0)]).bind λ(lm_1:List (Int×Int))=>(aR (cO val) (IntKind.i64.wrap ((↑lm.length:Int) - 1),lm,lm_1)).bind λ(y_5:List yT×List (Int×Int)⊕ Empty)=>Sum.elim (λ(val_1:List yT×List (Int×Int))=>(atS 3 y x_1.snd.snd).bind λ(y_6:Int×Int×Int)=>(atS 3 y x_1.snd.snd).bind λ(y:Int×Int×Int)=>(atL val_1.fst val).bind λ(x:Int×Int×Int)=>(atL val_1.fst val).bind λ(y_7:Int×Int×Int)=>(atL val_1.snd val).bind λ(x:Int×Int)=>(atL val_1.snd val).bind λ(y_8:Int×Int)=>(neL (List.set val_1.fst val.toNat (y_6.fst,y.snd.fst,0))).bind λ(x:PUnit)=>(neL (List.set val_1.snd val.toNat out)).bind λ(x:PUnit)=>some (Sum.inl (List.set val_1.fst val.toNat (y_6.fst,y.snd.fst,0),List.set val_1.snd val.toNat out,IntKind.i64.wrap (x_1.snd.snd+1)))) (λ(val:Empty)=>nE val) y_5 else(app x_1.fst [(0,0,0)]).bind λ(lm:List yT)=>(app x_1.snd.fst [(0,0)]).bind λ(lm_1:List (Int×Int))=>(aR (cP val) (IntKind.i64.wrap ((↑lm.length:Int) - 1),lm,lm_1)).bind λ(y_3:List yT×List (Int×Int)⊕ Empty)=>Sum.elim (λ(val_1:List yT×List (Int×Int))=>(atS 3 y x_1.snd.snd).bind λ(y_4:Int×Int×Int)=>(atS 3 y x_1.snd.snd).bind λ(y:Int×Int×Int)=>(atL val_1.fst val).bind λ(x:Int×Int×Int)=>(atL val_1.fst val).bind λ(y_5:Int×Int×Int)=>(atL val_1.snd val).bind λ(x:Int×Int)=>(atL val_1.snd val).bind λ(y_6:Int×Int)=>(neL (List.set val_1.fst val.toNat (y_4.fst,y.snd.fst,0))).bind λ(x:PUnit)=>(neL (List.set val_1.snd val.toNat out)).bind λ(x:PUnit)=>some (Sum.inl (List.set val_1.fst val.toNat (y_4.fst,y.snd.fst,0),List.set val_1.snd val.toNat out,IntKind.i64.wrap (x_1.snd.snd+1)))) (λ(val:Empty)=>nE val) y_3) (λ(val:Empty)=>nE val) y_1 else some (Sum.inr (Sum.inl (x_1.fst,x_1.snd.fst)))
def em(val:List yT×List (Int×Int)):List yT×Int->Option (List yT×Int ⊕ List yT ⊕ List yT×Int ⊕ Empty):=λ(x:List yT×Int)=>if x.snd<(↑(List.length x.fst):Int)then(atL val.snd x.snd).bind λ(x_1:Int×Int)=>(atL val.snd x.snd).bind λ(y:Int×Int)=>(de y).bind λ(out:Int×Bool)=>if¬out.snd=true then some (Sum.inr (Sum.inr (Sum.inl ([],12))))else(atL x.fst x.snd).bind λ(x_2:Int×Int×Int)=>(atL x.fst x.snd).bind λ(y:Int×Int×Int)=>some (Sum.inl (List.set x.fst (Int.toNat x.snd) (y.fst,y.snd.fst,out.fst),IntKind.i64.wrap (x.snd+1)))else some (Sum.inr (Sum.inl x.fst))
theorem qO(x:Int)(y:Sl yT):dw x y=(jg x).bind λ(out:Bool)=>if¬out=true then some ({nn:=false,sz:=0,l:= []},8)else(aR (eh x y) ([],[],0)).bind λ(y:List yT×List (Int×Int)⊕ Empty)=>Sum.elim (λ(val:List yT×List (Int×Int))=>(aR (em val) (val.fst,0)).bind λ(y:List yT ⊕ List yT×Int ⊕ Empty)=>Sum.elim (λ(val:List yT)=>some (mo 3 val,0)) (λ(val:List yT×Int ⊕ Empty)=>Sum.elim (λ(val:List yT×Int)=>some (mo 3 val.fst,val.snd)) (λ(val:Empty)=>nE val) val) y) (λ(val:Empty)=>nE val) y:=by kernel_rfl
theorem uP(x:Int×Sl yT):eV x=(dw 1 x.snd).bind λ(out:Sl yT×Int)=>some (x.fst,out.fst):=by kernel_rfl
theorem mD(x:Int×Sl yT)(y:Sl Int):cK x y=if(↑x.snd.l.length:Int)>100 then FL8.bind λ(out:Bool)=>some (decide (out=true))
else if(↑y.l.length:Int)>4000 then FL8.bind λ(out:Bool)=>some (decide (out=true))else(eV x).bind λ(out:Int×Sl yT)=>(bp out).bind λ(out_1:Sl Int×Int)=>(if out_1.snd=0 then(bh out_1.fst).bind λ(out_2:(Int×Sl yT)×Int×Int)=>if out_2.snd.fst≠0 then some (Sum.inl false)else(fS out out_2.fst).bind λ(out:Bool)=>if¬out=true then some (Sum.inl false)else(ci out_1.fst).bind λ(out:Bool)=>if¬out=true then some (Sum.inl false)else some (Sum.inr (Sum.inl ()))else some (Sum.inr (Sum.inl ()))).bind λ(y_1:Bool ⊕ PUnit ⊕ Empty)=>Sum.elim (λ(val:Bool)=>some val) (λ(val:PUnit ⊕ Empty)=>Sum.elim (λ(val:PUnit)=>(ci y).bind λ(out:Bool)=>if¬out=true then FL8.bind λ(out:Bool)=>some (decide (out=true))else(bh y).bind λ(out:(Int×Sl yT)×Int×Int)=>(bp out.fst).bind λ(out:Sl Int×Int)=>FL8.bind λ(out_2:Bool)=>if out_2=true then if out.snd=0 then(bq y out.fst).bind λ(out:Bool)=>some (decide (out=true))else some false else some false) (λ(val:Empty)=>nE val) val) y_1:=by kernel_rfl
end Ev
end
noncomputable section
namespace Ev
section
open Go
def okS{α:Type}(w:Nat)(s:Sl α):Prop:=s.l= []∨s.sz=w
theorem Nj{α:Type}{w:Nat}(l:List α):okS w (mo w l):=by cases l with|nil=>exact .inl rfl|cons x l=>exact .inr rfl
theorem bF{α:Type}{l:List α}{j:Nat}{x:α}(h:l[j]? =some x):atL l (j:Int)=some x:=by
 have hj:=(List.getElem?_eq_some_iff.1 h);rw [MH hj.1,hj.2]
theorem xP{α:Type}{w:Nat}{s:Sl α}(hs:okS w s){j:Nat}{x:α}(h:s.l[j]? =some x):atS w s (j:Int)=some x:=by
 have hj:=(List.getElem?_eq_some_iff.1 h);rw [eB hs hj.1,hj.2]
theorem Jg{A R:Type}{b:A->Option (A ⊕ R)}(n:Nat)(st:Nat->A){r:R}(hs:∀j,j<n->b (st j)=some (.inl (st (j+1))))(he:b (st n)=some (.inr r)):aR b (st 0)=some r:=by
 obtain⟨q,h1,h2⟩:=mc (b:=b) n (λj a=>a=st j) (λq=>q=r) (λj a hj ha=> .inl ⟨st (j+1),by rw [ha];exact hs j hj,rfl⟩) (λa ha=>⟨r,by rw [ha];exact he,rfl⟩) 0 (Nat.zero_le _) (st 0) rfl;rw [h1,h2]
theorem eW{A R:Type}{b:A->Option (A ⊕ R)}(n:Nat)(st:Nat->A){a:A}(ha:a=st 0){r:R}(hs:∀j,j<n->b (st j)=some (.inl (st (j+1))))(he:b (st n)=some (.inr r)):aR b a=some r:=by rw [ha];exact Jg n st hs he
theorem Hd{α:Type}[DecidableEq α]{x y:List α}(hl:x.length=y.length){b:Int->Option (Int ⊕ PUnit ⊕ Bool ⊕ Empty)}(h1:∀j:Nat,(h:j<x.length)->b j=some (if x[j]=y[j]then .inl ((j+1:Nat):Int)else .inr (.inr (.inl false))))(h2:∀j:Nat,x.length<=j->b j=some (.inr (.inl ()))):
  aR b 0=some (if x=y then .inl ()else .inr (.inl false)):=by
 obtain⟨q,q1,q2⟩:=mc (b:=b) x.length (λj a=>a=(j:Int)/\x.take j=y.take j) (λq=>q=if x=y then .inl ()else .inr (.inl false))
  (by
   rintro j _ hj ⟨rfl,ht⟩;rw [h1 j hj];by_cases e:x[j]=y[j]
   .rw [if_pos e];refine .inl ⟨_,rfl,rfl,?_⟩;rw [List.take_succ_eq_append_getElem hj,List.take_succ_eq_append_getElem (by omega),ht,e]
   .rw [if_neg e];refine .inr ⟨_,rfl,?_⟩
    rw [if_neg (λh=>e (by simp [h]))])
  (by
   rintro _ ⟨rfl,ht⟩;refine⟨_,h2 _ (Nat.le_refl _),?_⟩;rw [List.take_of_length_le (Nat.le_refl _),List.take_of_length_le (by omega)]at ht
   rw [if_pos ht]) 0 (Nat.zero_le _) 0 ⟨rfl,by simp⟩
 rw [q1,q2]
end
section
open Go
abbrev Mx:=Int×Int×Sl Int×Sl Int×Sl Int
abbrev E3:=Int×Int×Int
end
section
open Go Sm
def bel(a b:E3):Bool:=klt (key a) (key b)
abbrev Nk(l:List E3):Prop:=l.Pairwise λa b=>bel a b=true
def WC(n:Nat)(f:Nat->Int):List Int:=(List.range (n+1)).map f
def WD(l:List E3)(k:Nat):Nat:=l.countP λx=>decide (x.1<(k:Int))
end
section
open Go Sm
abbrev RG(r:Int):Rg:=⟨ofW,gc r,cH⟩
theorem DL(n:Int):jh n=some (ofW n):=by
 rw [BI];unfold ofW;by_cases h:n<0
 .simp only [if_pos h]
 .simp only [if_neg h]
theorem qP(a b:Int×Int):∃c:Int,cF a b=some c/\(c<0↔AY a b=true):=by
 obtain⟨a1,a2⟩:=a;obtain⟨b1,b2⟩:=b;rw [qN];unfold AY;simp only;by_cases h2:a1<b1
 .rw [if_pos h2];exact⟨-1,rfl,by simp [h2]⟩
 rw [if_neg h2];by_cases h3:a1=b1
 .rw [if_pos h3];by_cases h4:a2<b2
  .rw [if_pos h4];exact⟨-1,rfl,by simp [h3,h4]⟩
  .rw [if_neg h4];by_cases h5:a1=b1/\a2=b2
   .rw [if_pos h5];exact⟨0,rfl,by simp [h3];omega⟩
   .rw [if_neg h5];exact⟨1,rfl,by simp [h3];omega⟩
 .rw [if_neg h3];by_cases h5:a1=b1/\a2=b2
  .exact absurd h5.1 h3
  .rw [if_neg h5];exact⟨1,rfl,by simp [h3];omega⟩
theorem BJ(a b:Int×Int):gS a b=some (GD a b):=by
 obtain⟨a1,a2⟩:=a;obtain⟨b1,b2⟩:=b;rw [zQ];unfold GD jC;simp only;split<;>rfl
theorem xh(b:Bool):dO b=some (qu b):=by rw [uO];unfold qu;cases b<;>rfl
theorem BM(r:Int)(a b:Int×Int):gT r a b=some (gc r a b):=by
 rw [zR];unfold gc
 have hl:((cF b a).bind λ(out:Int)=>if out<0 then some b else some a)=some (qt a b):=by
  obtain⟨c,h1,h2⟩:=qP b a;rw [h1,zbS];unfold qt;by_cases hc:c<0
  .rw [if_pos hc,if_pos (h2.1 hc)]
  .rw [if_neg hc,if_neg (λh=>hc (h2.2 h))]
 simp only [hl,xh,BJ,zbS];by_cases h1:r=1
 .simp [h1]
 by_cases h3:r=3
 .simp [h3]
 by_cases h4:r=4
 .simp [h4]
 simp only [if_neg h1,if_neg h3,if_neg (show¬(r=1∨r=3∨r=4)by omega),decide_eq_false h4,zbS,Sum.elim_inl,Bool.false_eq_true,if_false];by_cases h2:r=2
 .simp only [if_pos h2];by_cases ha:a.1=0/\a.2=0
  .by_cases hb:b.1=0/\b.2=0
   .simp [ha,hb]
   .simp [ha,hb]
  .simp [ha]
 .simp only [if_neg h2];split<;>rfl
theorem uQ{a:Int×Int}(h:kf a.2):de a=some (cH a):=by
 obtain⟨a1,a2⟩:=a;rw [sM];unfold cH ofW;simp only [Pu h,Prod.mk.injEq,and_true];by_cases hn:IntKind.i64.wrap a2<0
 .have hg:¬IntKind.i64.wrap a2 >= 0:=by omega
  simp only [if_pos hn,if_neg hg];by_cases h1:a1=0
  .have:¬a1= -1:=by omega
   simp only [if_pos h1,if_neg this]
  .simp only [if_neg h1];split<;>rfl
 .have hg:IntKind.i64.wrap a2 >= 0:=by omega
  simp only [if_neg hn,if_pos hg];by_cases h1:a1=0
  .simp only [if_pos h1]
  .simp only [if_neg h1];split<;>rfl
theorem DM(r:Int):jg r=some (iR r):=by
 rw [BG];unfold iR;by_cases h1:r >= 1
 .rw [if_pos h1,decide_eq_true (show 1<=r from h1)];simp
 .rw [if_neg h1,decide_eq_false (show¬1<=r from h1)];rfl
end
section
open Go Sm
theorem iU(a b:E3):cD a b=some (bel a b):=by
 rw [ll]
 have hb:bel a b=(decide (a.1<b.1)||(decide (a.1=b.1)&& decide (a.2.1<b.2.1))):=by
  unfold bel klt key;rw [Bool.decide_or,Bool.decide_and]
 rw [hb];by_cases h1:a.1<b.1
 .rw [if_pos h1,decide_eq_true h1];rfl
 .rw [if_neg h1,decide_eq_false h1];by_cases h2:a.1=b.1
  .rw [if_pos h2,decide_eq_true h2];rfl
  .rw [if_neg h2,decide_eq_false h2];rfl
def dj{α:Type}(l:List α)(k:Nat)(y:α):List α:=l.take k++y::l.drop k
theorem Jh{α:Type}{l:List α}{k:Nat}(y:α):(dj l k y).length=l.length+1:=by unfold dj;simp;omega
theorem lV{α:Type}{l:List α}{k:Nat}(hk:k<=l.length)(y:α):(dj l k y)[k]? =some y:=by
 unfold dj;rw [List.getElem?_append_right (by rw [List.length_take];omega),List.length_take,Nat.min_eq_left hk,Nat.sub_self];rfl
theorem jk{α:Type}{l:List α}{k:Nat}(hk:k<=l.length)(y x:α):(dj l k y).set k x=dj l k x:=by
 unfold dj;rw [List.set_append_right _ _ (by rw [List.length_take];omega),List.length_take,Nat.min_eq_left hk,Nat.sub_self];rfl
theorem lW{α:Type}(l:List α)(y:α):dj l l.length y=l++ [y]:=by unfold dj;simp
theorem lX{α:Type}{l:List α}{k:Nat}(hk:k+1<=l.length)(y:α):(dj l (k+1) y)[k]? =some l[k]/\dj l (k+1) l[k]=dj l k l[k]:=by
 unfold dj;constructor
 .rw [List.getElem?_append_left (by simp;omega),List.getElem?_take,if_pos (by omega),List.getElem?_eq_getElem]
 .rw [List.take_succ_eq_append_getElem (by omega),List.append_assoc,List.drop_eq_getElem_cons (i:=k) (by omega)];rfl
theorem Ji{α:Type}{l:List α}{k:Nat}{y x:α}(h:x∈dj l k y):x=y∨x∈l:=by
 unfold dj at h;rcases List.mem_append.1 h with h|h
 .exact .inr (List.mem_of_mem_take h)
 .rcases List.mem_cons.1 h with h|h
  .exact .inl h
  .exact .inr (List.mem_of_mem_drop h)
theorem xQ{b:Int×List E3×List (Int×Int)->Option ((Int×List E3×List (Int×Int))⊕((List E3×List (Int×Int))⊕ Empty))}{a:Nat}(hb:b=cO (a:Int)∨b=cP (a:Int)){l:List E3}{s:List (Int×Int)}(hl:s.length=l.length)(hn:l.length<=100000)(ha:a<=l.length)(y:E3)(z:Int×Int):
  ∃y' z',aR b ((l.length:Int),l++ [y],s++ [z])=some (.inl (dj l a y',dj s a z')):=by
 have step:∀(k:Nat) y z,a<k+1->k+1<=l.length->∃y' z',b (((k+1:Nat):Int),dj l (k+1) y,dj s (k+1) z)=some (.inl ((k:Int),dj l k y',dj s k z')):=λk y z h1 hk=>by
  have hks:k+1<=s.length:=by omega
  have e1:=bF (lX hk y).1;have e2:=bF (lV hk y);have e3:=bF (lX hks z).1;have e4:=bF (lV hks z);have hw:IntKind.i64.wrap (((k+1:Nat):Int) - 1)=(k:Int):=by rw [wrap64 (by omega) (by omega)];omega
  have t1:((k+1:Nat):Int).toNat=k+1:=Int.toNat_natCast _;refine⟨l[k],s[k],?_⟩;rw [<-(lX hk y).2,<-(lX hks z).2,<-jk hk y l[k],<-jk hks z s[k]];rcases hb with rfl|rfl
  .simp only [cO,hw,e1,e2,e3,e4,zbS,t1];rw [if_pos (by omega)]
  .simp only [cP,hw,e1,e2,e3,e4,zbS,t1];rw [if_pos (by omega)]
 have stop:∀y z,b ((a:Int),dj l a y,dj s a z)=some (.inr (.inl (dj l a y,dj s a z))):=λy z=>by
  rcases hb with rfl|rfl
  .simp only [cO];rw [if_neg (by omega)]
  .simp only [cP];rw [if_neg (by omega)]
 obtain⟨q,q1,y',z',q2⟩:=mc (b:=b) (l.length - a) (λj st=>∃y z,st=(((l.length - j:Nat):Int),dj l (l.length - j) y,dj s (l.length - j) z)) (λq=>∃y z,q= .inl (dj l a y,dj s a z))
  (by
   rintro j _ hj ⟨y,z,rfl⟩;obtain⟨k,hk⟩:∃k,l.length - j=k+1:=⟨l.length - j - 1,by omega⟩;rw [hk];obtain⟨y',z',e⟩:=step k y z (by omega) (by omega)
   exact .inl ⟨_,e,y',z',by rw [show l.length - (j+1)=k by omega]⟩)
  (by
   rintro _ ⟨y,z,rfl⟩;rw [show l.length - (l.length - a)=a by omega]
   exact⟨_,stop y z,y,z,rfl⟩) 0 (Nat.zero_le _) ((l.length:Int),l++ [y],s++ [z]) ⟨y,z,by rw [Nat.sub_zero,lW,<-hl,lW,hl]⟩
 exact⟨y',z',by rw [q1,q2]⟩
def kz(p:Ky×V):E3:=(p.1.1,p.1.2,0)
def pos(S:List (Ky×V))(e:E3):Nat:=(S.takeWhile λp=>klt p.1 (key e)).length
theorem Jj(S:List (Ky×V))(e:E3):pos S e<=S.length:=(List.takeWhile_sublist _).length_le
theorem uR{p:Ky×V}{S:List (Ky×V)}{e:E3}(hp:klt p.1 (key e)=true):pos (p::S) e=pos S e+1:=by unfold pos;simp [List.takeWhile_cons,hp]
theorem uS{p:Ky×V}{S:List (Ky×V)}{e:E3}(hp:¬klt p.1 (key e)=true):pos (p::S) e=0:=by unfold pos;simp [List.takeWhile_cons,hp]
theorem Jk:∀{S:List (Ky×V)} {e:E3} {j:Nat} (hj:j<S.length),j<pos S e->klt S[j].1 (key e)=true
 | [],e,j,hj,h=>by simp at hj
 |p::S,e,j,hj,h=>by
  by_cases hp:klt p.1 (key e)=true
  .rw [uR hp]at h
   cases j with
   |zero=>exact hp
   |succ j=>exact Jk (S:=S) (e:=e) (j:=j) (by simpa using hj) (by omega)
  .rw [uS hp]at h;omega
theorem Fs:∀{S:List (Ky×V)} {e:E3} {j:Nat} (hj:j<S.length),j=pos S e->klt S[j].1 (key e)=false
 | [],e,j,hj,h=>by simp at hj
 |p::S,e,j,hj,h=>by
  by_cases hp:klt p.1 (key e)=true
  .rw [uR hp]at h;subst h;exact Fs (S:=S) (e:=e) (j:=pos S e) (by simpa using hj) rfl
  .rw [uS hp]at h;subst h;simpa using hp
theorem Jl{S:List (Ky×V)}{e:E3}(h:pos S e<S.length):klt (S[pos S e]'h).1 (key e)=false:=Fs h rfl
theorem zS(R:Rg)(e:E3):∀(S:List (Ky×V)),ins R S e=if h:pos S e<S.length then(if klt (key e) (S[pos S e]'h).1=true then dj S (pos S e) (key e,R.o e.2.2)else S.set (pos S e) ((S[pos S e]'h).1,R.ad (S[pos S e]'h).2 (R.o e.2.2)))else S++ [(key e,R.o e.2.2)]
 | []=>by simp [ins,pos]
 |p::S=>by
  have ih:=zS R e S;unfold ins;by_cases hp:klt p.1 (key e)=true
  .have hpos:pos (p::S) e=pos S e+1:=by unfold pos;simp [List.takeWhile_cons,hp]
   rw [if_pos hp,ih];simp only [hpos,List.length_cons,Nat.add_lt_add_iff_right,List.getElem_cons_succ];split
   .split
    .unfold dj;simp
    .simp
   .simp
  .have hpos:pos (p::S) e=0:=by unfold pos;simp [List.takeWhile_cons,hp]
   rw [if_neg hp];simp only [hpos,List.length_cons,Nat.zero_lt_succ,dif_pos,List.getElem_cons_zero];split
   .unfold dj;simp
   .simp
theorem BN{α β:Type}(f:α->β)(l:List α)(k:Nat)(y:α):(dj l k y).map f=dj (l.map f) k (f y):=by unfold dj;simp
theorem zT(R:Rg)(l:List E3):(fO R l).length<=l.length:=by
 have key:∀(S:List (Ky×V)) e,(ins R S e).length<=S.length+1:=by
  intro S e;rw [zS];split
  .split
   .rw [Jh];omega
   .simp
  .simp
 have:∀(l:List E3) (S:List (Ky×V)),(l.foldl (ins R) S).length<=S.length+l.length:=by
  intro l
  induction l with
  |nil=>intro S;simp
  |cons e l ih=>intro S;have h1:=ih (ins R S e);have h2:=key S e;simp only [List.foldl_cons,List.length_cons];omega
 simpa [fO]using this l []
theorem PP{r:Int}{S:List (Ky×V)}{e:E3}(h:∀p∈S,kf p.2.2):∀p∈ins (RG r) S e,kf p.2.2:=by
 intro p hp;rw [zS]at hp;split at hp
 .rename_i hl;split at hp
  .rcases Ji hp with rfl|hp
   .exact Dp _
   .exact h p hp
  .rcases List.mem_or_eq_of_mem_set hp with hp|rfl
   .exact h p hp
   .exact Dq (h _ (List.getElem_mem hl)) (Dp _)
 .rcases List.mem_append.1 hp with hp|hp
  .exact h p hp
  .simp at hp;subst hp;exact Dp _
theorem PQ(r:Int)(l:List E3):∀p∈fO (RG r) l,kf p.2.2:=by
 have:∀(l:List E3) (S:List (Ky×V)),(∀p∈S,kf p.2.2)->∀p∈l.foldl (ins (RG r)) S,kf p.2.2:=by
  intro l
  induction l with
  |nil=>intro S h;exact h
  |cons e l ih=>intro S h;exact ih _ (PP h)
 exact this l [] (by simp)
theorem Mb{x:Sl E3}{S:List (Ky×V)}{w:List (Int×Int)}{i:Nat}(hs:okS 3 x)(hi:i<x.l.length)(hn:S.length<=100000):aR (cL x (S.map kz,w,(i:Int))) 0=some (.inl ((pos S x.l[i]:Nat):Int)):=by
 have ei:=eB hs hi;have hb:∀j (hj:j<S.length),bel (kz S[j]) x.l[i]=klt S[j].1 (key x.l[i]):=λj hj=>rfl;refine eW (pos S x.l[i]) (λj=>(j:Int)) rfl (λj hj=> ?_) ?_
 .have hjl:j<S.length:=Nat.lt_of_lt_of_le hj (Jj _ _);have ej:atL (S.map kz) (j:Int)=some (kz S[j]):=bF (by simp [hjl]);simp only [cL,ej,ei,zbS,iU,hb j hjl,Jk hjl hj,if_true,List.length_map,dQ hjl (by omega)];rw [if_pos (by omega)]
 .by_cases hl:pos S x.l[i]<S.length
  .have ej:atL (S.map kz) ((pos S x.l[i]:Nat):Int)=some (kz S[pos S x.l[i]]):=bF (by simp [hl]);simp only [cL,ej,ei,zbS,iU,hb _ hl,Jl hl,List.length_map];rw [if_pos (by omega),if_neg (by simp)]
  .simp only [cL,List.length_map];rw [if_neg (by omega)]
theorem zU{r:Int}{x:Sl E3}(hs:okS 3 x)(hn:x.l.length<=65536):aR (eh r x) ([],[],0)=some (.inl ((fO (RG r) x.l).map kz,(fO (RG r) x.l).map (·.2))):=by
 refine eW x.l.length (λj=>((fO (RG r) (x.l.take j)).map kz,(fO (RG r) (x.l.take j)).map (·.2),(j:Int))) (by simp [fO]) (λj hj=> ?_) ?_
 .have hlen:=zT (RG r) (x.l.take j);have hlj:(x.l.take j).length<=65536:=by simp;omega
  rw [List.take_succ_eq_append_getElem hj,xE];generalize fO (RG r) (x.l.take j)=S at hlen ⊢;have hf:=Mb (S:=S) (w:=S.map (·.2)) hs hj (by omega);have ej:=eB hs hj;have hp:=Jj S x.l[j];have hat:= @Jl S x.l[j];have hi:=zS (RG r) x.l[j] S;generalize hA:pos S x.l[j]=a at hf hp hat hi;generalize x.l[j]=e at ej hf hat hi;have ap1:app (S.map kz) [((0:Int),(0:Int),(0:Int))]=some (S.map kz++ [(0,0,0)]):=fL (by simp;unfold bO;omega);have ap2:app (S.map (·.2)) [((0:Int),(0:Int))]=some (S.map (·.2)++ [(0,0)]):=fL (by simp;unfold bO;omega);have hw1:IntKind.i64.wrap ((((S.map kz++ [((0:Int),(0:Int),(0:Int))]).length:Nat):Int) - 1)=((S.map kz).length:Int):=by simp only [List.length_append,List.length_map,List.length_cons,List.length_nil];rw [wrap64 (by omega) (by omega)];omega
  have ta:((a:Nat):Int).toNat=a:=Int.toNat_natCast _;have hl2:(S.map (·.2)).length=(S.map kz).length:=by simp
  have hak:a<=(S.map kz).length:=by simpa using hp
  have has:a<=(S.map (·.2)).length:=by simpa using hp
  obtain⟨y2,z2,sh2⟩:=xQ (b:=cO (a:Int)) (.inl rfl) hl2 (by simp;omega) hak (0,0,0) (0,0);obtain⟨y3,z3,sh3⟩:=xQ (b:=cP (a:Int)) (.inr rfl) hl2 (by simp;omega) hak (0,0,0) (0,0);have i2:=bF (lV hak y2);have j2:=bF (lV has z2);have i3:=bF (lV hak y3);have j3:=bF (lV has z3);have hne:∀{α:Type} (l:List α) k y,neL (dj l k y)=some ():=λl k y=>Kx (by unfold dj;simp);simp only [eh,hf,zbS,Sum.elim_inl,ej,DL,List.length_map];rw [if_pos (by omega)];by_cases hl:a<S.length
  .rw [if_pos (by omega)];have e1:atL (S.map kz) (a:Int)=some (kz S[a]):=bF (by simp [hl]);have e2:atL (S.map (·.2)) (a:Int)=some S[a].2:=bF (by simp [hl]);have hk:bel e (kz S[a])=klt (key e) S[a].1:=rfl;simp only [e1,e2,zbS,iU,hk,BM,ap1,ap2,hw1,sh2,Sum.elim_inl,i2,j2,ta,jk hak,jk has,hne,dQ hj (by omega)];rw [dif_pos hl]at hi;by_cases hc:klt (key e) S[a].1=true
   .rw [if_pos hc]at hi;rw [if_neg (by simp [hc]),hi,BN,BN];rfl
   .rw [if_neg hc]at hi;rw [if_pos (by simpa using hc)]
    (try rw [if_neg (show¬S.length=0 by omega)])
    rw [hi,List.map_set,List.map_set]
    have:(S.map kz).set a (kz (S[a].1,(RG r).ad S[a].2 ((RG r).o e.2.2)))=S.map kz:=by
     have hk2:kz (S[a].1,(RG r).ad S[a].2 ((RG r).o e.2.2))=(S.map kz)[a]'(by simpa using hl):=by simp [kz]
     rw [hk2,List.set_getElem_self]
    rw [this]
  .rw [if_neg (by omega)];rw [dif_neg hl]at hi;have hae:a=S.length:=by omega
   simp only [zbS,ap1,ap2,hw1,sh3,Sum.elim_inl,i3,j3,ta,jk hak,jk has,hne,dQ hj (by omega)];rw [hi,hae]
   have q1:dj (S.map kz) S.length (e.1,e.2.1,(0:Int))=S.map kz++ [(e.1,e.2.1,0)]:=by
    have:=lW (S.map kz) (e.1,e.2.1,(0:Int));rwa [List.length_map]at this
   have q2:dj (S.map (·.2)) S.length (ofW e.2.2)=S.map (·.2)++ [ofW e.2.2]:=by
    have:=lW (S.map (·.2)) (ofW e.2.2);rwa [List.length_map]at this
   rw [q1,q2];simp [kz,key]
 .simp only [eh,List.take_length];rw [if_neg (by omega)]
theorem sN{r:Int}{x:Sl E3}(hs:okS 3 x)(hn:x.l.length<=65536)(hr:iR r=true):dw r x=some (mo 3 (dI (RG r) x.l).1,(dI (RG r) x.l).2):=by
 rw [qO,DM,hr];simp only [zbS,not_true_eq_false,if_false];rw [zU hs hn];simp only [zbS,Sum.elim_inl];have hlen:=zT (RG r) x.l;have hlo:=PQ r x.l;unfold dI;generalize fO (RG r) x.l=S at hlen hlo ⊢
 obtain⟨q,q1,q2⟩:=mc (b:=em (S.map kz,S.map (·.2))) S.length (λj st=>st=((S.take j).map (toE (RG r))++(S.drop j).map kz,(j:Int))/\∀p∈S.take j,(cH p.2).2=true) (λq=>(S.all (λp=>(cH p.2).2)=true/\q= .inl (S.map (toE (RG r))))∨(S.all (λp=>(cH p.2).2)=false/\q= .inr (.inl ([],12))))
  (by
   rintro j _ hj ⟨rfl,ha⟩;have e2:atL (S.map (·.2)) (j:Int)=some S[j].2:=bF (by simp [hj]);have hln:((S.take j).map (toE (RG r))++(S.drop j).map kz).length=S.length:=by simp;omega
   have e1:atL ((S.take j).map (toE (RG r))++(S.drop j).map kz) (j:Int)=some (kz S[j]):=bF (by
    rw [List.getElem?_append_right (by simp;omega)]
    simp [List.getElem?_drop,show min j S.length=j by omega,hj])
   have hN:de S[j].2=some (cH S[j].2):=uQ (hlo _ (List.getElem_mem hj));simp only [em,hln,e2,zbS,hN,e1,dQ hj (by omega),Int.toNat_natCast];rw [if_pos (by omega)];by_cases hc:(cH S[j].2).2=true
   .rw [if_neg (by simpa using hc)];refine .inl ⟨_,rfl,?_,?_⟩
    .rw [Prod.mk.injEq];refine⟨?_,rfl⟩;rw [List.take_succ_eq_append_getElem hj,List.set_append_right _ _ (by simp;omega)];simp only [List.length_map,List.length_take,show min j S.length=j by omega,Nat.sub_self,List.map_append,List.map_cons,List.map_nil];rw [List.drop_eq_getElem_cons hj,List.map_cons,List.set_cons_zero,List.append_assoc];simp [toE,kz]
    .intro p hp;rw [List.take_succ_eq_append_getElem hj]at hp;rcases List.mem_append.1 hp with hp|hp
     .exact ha p hp
     .simp at hp;subst hp;exact hc
   .rw [if_pos (by simpa using hc)];refine .inr ⟨_,rfl,.inr ⟨?_,rfl⟩⟩;rw [Bool.eq_false_iff];intro hh
    exact hc (List.all_eq_true.1 hh _ (List.getElem_mem hj)))
  (by
   rintro _ ⟨rfl,ha⟩;simp only [em,List.take_length,List.drop_length,List.map_nil,List.append_nil,List.length_map];rw [List.take_length]at ha;rw [if_neg (by omega)]
   exact⟨_,rfl,.inl ⟨List.all_eq_true.2 ha,rfl⟩⟩) 0 (Nat.zero_le _) (S.map kz,0) ⟨by simp,by simp⟩
 rw [q1];rcases q2 with⟨h,rfl⟩|⟨h,rfl⟩
 .rw [if_pos h];rfl
 .rw [if_neg (by rw [h];simp)];rfl
end
section
open Go Sm
def w64(l:List E3):Prop:=∀x∈l,nG x.1/\nG x.2.1/\nG x.2.2
theorem BO{r:Int}{l:List E3}:Nk (dI (RG r) l).1/\(dI (RG r) l).1.length<=l.length/\(∀x∈(dI (RG r) l).1,nG x.2.2/\∃y∈l,y.1=x.1/\y.2.1=x.2.1)/\((dI (RG r) l).2=0∨dI (RG r) l=([],12)):=by
 unfold dI;split
 .refine⟨?_,by rw [List.length_map];exact zT _ _,λx hx=> ?_,.inl rfl⟩
  .show((fO (RG r) l).map (toE (RG r))).Pairwise _;rw [List.pairwise_map];exact(lO (RG r) l).1
  .obtain⟨p,hp,rfl⟩:=List.mem_map.1 hx;refine⟨?_,?_⟩
   .show nG (cH p.2).1;unfold cH;split
    .exact AX _
    .unfold nG;omega
   .obtain⟨e,he,hk⟩:=zm (((lO (RG r) l).2 p.1 p.2).1 hp);have h1:=congrArg Prod.fst hk;have h2:=congrArg Prod.snd hk;exact⟨e,he,h1,h2⟩
 .exact⟨List.Pairwise.nil,Nat.zero_le _,by simp,.inr rfl⟩
def inM(n c:Int)(x:E3):Bool:=decide (0<=x.1/\x.1<n/\0<=x.2.1/\x.2.1<c)
theorem Rn{α:Type}{p:α->Bool}{l:List α}{j:Nat}(hj:j<l.length)(h:p l[j]=false):l.all p=false:=by
 rw [Bool.eq_false_iff];intro ha;rw [List.all_eq_true.1 ha _ (List.getElem_mem hj)]at h;cases h
end
section
open Go Sm
theorem DN{α:Type}[DecidableEq α]{x y:Sl α}(hl:x.l.length<=9223372036854775806){w:Nat}(hx:okS w x)(hy:okS w y){b:Int->Option (Int ⊕ PUnit ⊕ Bool ⊕ Empty)}
  (hb:∀a,b a=if a<(x.l.length:Int)then(atS w x a).bind λu=>(atS w y a).bind λv=>if u≠v then some (.inr (.inr (.inl false)))else some (.inl (IntKind.i64.wrap (a+1)))else some (.inr (.inl ()))):
  (if(x.l.length:Int)≠(y.l.length:Int)then some false else(aR b 0).bind λ(y:PUnit ⊕ Bool ⊕ Empty)=>Sum.elim (λ_=>some true) (λv=>Sum.elim (λv=>some v) (λv=>nE v) v) y)=some (decide (x.l=y.l)):=by
 by_cases h:x.l.length=y.l.length
 .rw [if_neg (by omega)]
  rw [Hd h (b:=b) (λj hj=>by
   rw [hb,if_pos (by omega),xP hx (List.getElem?_eq_getElem hj),xP hy (List.getElem?_eq_getElem (by omega))];simp only [zbS];by_cases he:x.l[j]=y.l[j]
   .rw [if_neg (by simp [he]),if_pos he,dQ hj (by omega)]
   .rw [if_pos he,if_neg he]) (λj hj=>by rw [hb,if_neg (by omega)])]
  by_cases he:x.l=y.l
  .simp [he]
  .simp [he]
 .rw [if_pos (by omega),decide_eq_false];exact λhe=>h (by rw [he])
theorem Jm{x:Sl E3}(h:K.W (.S (.C (.I .i64) (.C (.I .i64) (.I .i64)))) x):okS 3 x/\(x.nn=false->x.l= [])/\w64 x.l:=⟨.inr h.1,h.2.1,λy hy=>⟨zp (h.2.2.2 y hy).1,zp (h.2.2.2 y hy).2.1,zp (h.2.2.2 y hy).2.2⟩⟩
end
section
open Go Sm
structure Is(m:Mx)(n c:Int)(l:List E3):Prop where
 hn:0<=n/\n<=4096
 hc:0<=c/\c<=4096
 len:l.length<=65536
 r:Nk l
 p:∀x∈l,(0<=x.1/\x.1<n)/\0<=x.2.1/\x.2.1<c
 v:∀x∈l,nG x.2.2
 e1:m.1=n
 e2:m.2.1=c
 e3:m.2.2.1.l=WC n.toNat λk=>((WD l k:Nat):Int)
 e4:m.2.2.2.1.l=l.map (·.2.1)
 e5:m.2.2.2.2.l=l.map (·.2.2)
 o3:okS 1 m.2.2.1
 o4:okS 1 m.2.2.2.1
 o5:okS 1 m.2.2.2.2
section
variable {m : Mx} {n c : Int} {l : List E3}
end
end
section
open Go Sm
end
section
open Go Sm
section
variable {m : Mx} {n c : Int} {l : List E3}
end
end
section
open Go Sm
section
variable {m : Mx}
end
end
section
open Go Sm
abbrev Cx:=Int×Int×Sl Int×Sl Int×Sl Int×Sl Int
section
variable {T : List E3}
end
section
variable {c : Cx} {n k : Int} {T : List E3}
end
section
variable {c : Cx}
end
end
section
open Go Sm
section
variable {m : Mx} {n c : Int} {l : List E3}
end
end
section
open Go Sm
section
variable {m : Mx} {n c : Int} {l : List E3}
end
end
section
open Go Sm
section
variable {c : Cx} {n k : Int} {T : List E3}
theorem getD_some{l:List Int}{i:Nat}{x:Int}(h:l[i]? =some x):l.getD i 0=x:=by rw [List.getD_eq_getElem?_getD,h];rfl
end
end
section
open Go Sm
section
variable {m : Mx} {n k : Int} {l T : List E3} {c : Cx}
end
end
section
open Go Sm
section
variable {m : Mx} {n c : Int} {l : List E3}
end
end
section
open Go Sm
theorem xR{α:Type}[DecidableEq α]{x y:Sl α}(hl:x.l.length<=9223372036854775806){w:Nat}(hx:okS w x)(hy:okS w y){b:Int->Option (Int ⊕ PUnit ⊕ Bool ⊕ Empty)}{P:α->α->Prop}[∀u v,Decidable (P u v)](hP:∀u v,P u v↔u=v)
  (hb:∀a,b a=if a<(x.l.length:Int)then(atS w x a).bind λu=>(atS w y a).bind λv=>if¬P u v then some (.inr (.inr (.inl false)))else some (.inl (IntKind.i64.wrap (a+1)))else some (.inr (.inl ()))):
  (if(x.l.length:Int)≠(y.l.length:Int)then some false else(aR b 0).bind λ(y:PUnit ⊕ Bool ⊕ Empty)=>Sum.elim (λ_=>some true) (λv=>Sum.elim (λv=>some v) (λv=>nE v) v) y)=some (decide (x.l=y.l)):=by
 refine DN hl hx hy λa=> ?_;rw [hb];by_cases h:a<(x.l.length:Int)
 .rw [if_pos h,if_pos h]
  cases atS w x a with
  |none=>rfl
  |some u=>
   cases atS w y a with
   |none=>rfl
   |some v=>
    simp only [zbS];by_cases he:u=v
    .rw [if_neg (λhh=>hh ((hP u v).2 he)),if_neg (λhh=>hh he)]
    .rw [if_pos (λhh=>he ((hP u v).1 hh)),if_pos he]
 .rw [if_neg h,if_neg h]
section
variable {m m' : Mx} {n c : Int} {l : List E3}
end
end
section
open Go Sm
section
variable {m : Mx} {n k : Int} {l T : List E3} {c : Cx}
end
end
section
open Go Sm
section
variable {m a : Mx} {n k : Int} {l T : List E3} {c q : Cx}
end
end
section
open Go Sm
abbrev Gr:=Int×Sl E3
theorem lq{l:List E3}(p:E3->Bool)(v:Nat->Int){b:Int->Option (Int ⊕ PUnit ⊕ Int ⊕ Empty)}(h1:∀j:Nat,(h:j<l.length)->b j=some (if p l[j]=true then .inl ((j+1:Nat):Int)else .inr (.inr (.inl (v j)))))(h2:b (l.length:Nat)=some (.inr (.inl ()))):
  (l.all p=true/\aR b 0=some (.inl ()))∨(l.all p=false/\∃j,aR b 0=some (.inr (.inl (v j)))):=by
 obtain⟨q,q1,q2⟩:=mc (b:=b) l.length (λj a=>a=(j:Int)/\(l.take j).all p=true) (λq=>(l.all p=true/\q= .inl ())∨(l.all p=false/\∃j,q= .inr (.inl (v j))))
  (by
   rintro j _ hj ⟨rfl,g⟩;rw [h1 j hj];by_cases hp:p l[j]=true
   .refine .inl ⟨_,by rw [if_pos hp],rfl,?_⟩;rw [List.take_succ_eq_append_getElem hj,List.all_append,g];simp [hp]
   .refine .inr ⟨_,by rw [if_neg hp],.inr ⟨Rn hj (by simpa using hp),j,rfl⟩⟩)
  (by
   rintro _ ⟨rfl,g⟩;rw [List.take_length]at g
   exact⟨_,h2,.inl ⟨g,rfl⟩⟩) 0 (Nat.zero_le _) 0 ⟨rfl,rfl⟩
 rw [q1];rcases q2 with⟨a,rfl⟩|⟨a,j,rfl⟩
 .exact .inl ⟨a,rfl⟩
 .exact .inr ⟨a,j,rfl⟩
def wOk(x:E3):Bool:=decide (0<=x.2.2/\x.2.2<=2147483647)
def dB(g:Gr):Int:=if g.1<0 then 3 else if g.1>4096 then 5 else if g.2.l.length>65536 then 5 else if g.2.l.all (inM g.1 g.1)=true then if g.2.l.all wOk=true then 0 else 7 else 3
theorem Jn(x y:Int):cZ x y=some (decide (0<=y/\y<x)):=by
 rw [sK];by_cases h:y >= 0
 .rw [if_pos h];by_cases h2:y<x
  .rw [decide_eq_true h2,decide_eq_true ⟨h,h2⟩]
  .rw [decide_eq_false h2,decide_eq_false λhh=>h2 hh.2]
 .rw [if_neg h,decide_eq_false λhh=>h hh.1]
section
variable {g : Gr}
theorem He(hs:okS 3 g.2)(hl:g.2.l.length<=65536)(j:Nat)(hj:j<g.2.l.length):fy g (j:Int)=some (if inM g.1 g.1 g.2.l[j]=true then .inl ((j+1:Nat):Int)else .inr (.inr (.inl (j:Int)))):=by
 have e:=eB hs hj;simp only [fy,e,zbS,dQ hj (by omega),Jn];rw [if_pos (by omega)];unfold inM;simp only [decide_eq_true_eq];by_cases h1:0<=g.2.l[j].1/\g.2.l[j].1<g.1
 .rw [if_neg (λh=>h h1)];by_cases h2:0<=g.2.l[j].2.1/\g.2.l[j].2.1<g.1
  .rw [if_neg (λh=>h h2),if_pos ⟨h1.1,h1.2,h2.1,h2.2⟩]
  .rw [if_pos h2,if_neg (λh=>h2 ⟨h.2.2.1,h.2.2.2⟩)]
 .rw [if_pos h1,if_neg (λh=>h1 ⟨h.1,h.2.1⟩)]
theorem Mc(hs:okS 3 g.2)(hl:g.2.l.length<=65536)(j:Nat)(hj:j<g.2.l.length):fB g (j:Int)=some (if wOk g.2.l[j]=true then .inl ((j+1:Nat):Int)else .inr (.inr (.inl (j:Int)))):=by
 have e:=eB hs hj;simp only [fB,e,zbS,dQ hj (by omega)];rw [if_pos (by omega)];unfold wOk;simp only [decide_eq_true_eq];by_cases h1:g.2.l[j].2.2<0
 .rw [if_pos h1,if_neg (by omega)]
 .by_cases h2:g.2.l[j].2.2>2147483647
  .rw [if_neg h1,if_pos h2,if_neg (by omega)]
  .rw [if_neg h1,if_neg h2,if_pos (by omega)]
theorem Jo(hs:okS 3 g.2)(hl:g.2.l.length<=65536)(j:Nat)(hj:j<g.2.l.length):fC g (j:Int)=some (if inM g.1 g.1 g.2.l[j]=true then .inl ((j+1:Nat):Int)else .inr (.inr (.inl 3))):=by
 have e:=eB hs hj;simp only [fC,e,zbS,dQ hj (by omega)];rw [if_pos (by omega)];unfold inM;simp only [decide_eq_true_eq];by_cases h1:g.2.l[j].1<0
 .rw [if_pos h1,if_neg (by omega)]
 by_cases h2:g.2.l[j].1 >= g.1
 .rw [if_neg h1,if_pos h2,if_neg (by omega)]
 by_cases h3:g.2.l[j].2.1<0
 .rw [if_neg h1,if_neg h2,if_pos h3,if_neg (by omega)]
 by_cases h4:g.2.l[j].2.1 >= g.1
 .rw [if_neg h1,if_neg h2,if_neg h3,if_pos h4,if_neg (by omega)]
 .rw [if_neg h1,if_neg h2,if_neg h3,if_neg h4,if_pos (by omega)]
theorem PU(hs:okS 3 g.2)(hl:g.2.l.length<=65536)(j:Nat)(hj:j<g.2.l.length):fD g (j:Int)=some (if wOk g.2.l[j]=true then .inl ((j+1:Nat):Int)else .inr (.inr (.inl 7))):=by
 have e:=eB hs hj;simp only [fD,e,zbS,dQ hj (by omega)];rw [if_pos (by omega)];unfold wOk;simp only [decide_eq_true_eq];by_cases h1:g.2.l[j].2.2<0
 .rw [if_pos h1,if_neg (by omega)]
 .by_cases h2:g.2.l[j].2.2>2147483647
  .rw [if_neg h1,if_pos h2,if_neg (by omega)]
  .rw [if_neg h1,if_neg h2,if_pos (by omega)]
theorem xi(hs:okS 3 g.2):eR g=some (dB g):=by
 rw [uJ];unfold dB;by_cases h1:g.1<0
 .rw [if_pos h1,if_pos h1]
 by_cases h2:g.1>4096
 .rw [if_neg h1,if_pos h2,if_neg h1,if_pos h2]
 by_cases h3:g.2.l.length>65536
 .rw [if_neg h1,if_neg h2,if_pos (by omega),if_neg h1,if_neg h2,if_pos h3]
 rw [if_neg h1,if_neg h2,if_neg (by omega),if_neg h1,if_neg h2,if_neg h3];rcases lq (l:=g.2.l) (inM g.1 g.1) (λj=>(j:Int)) (He hs (by omega)) (by simp only [fy];rw [if_neg (by omega)])with⟨a,q⟩|⟨a,j,q⟩
 .rw [q,if_pos a];simp only [zbS,Sum.elim_inl];rcases lq (l:=g.2.l) wOk (λj=>(j:Int)) (Mc hs (by omega)) (by simp only [fB];rw [if_neg (by omega)])with⟨a,q⟩|⟨a,j,q⟩
  .rw [q,if_pos a];rfl
  .rw [q,if_neg (by rw [a];simp)];simp only [zbS,Sum.elim_inl,Sum.elim_inr];rw [if_pos (by omega)]
 .rw [q,if_neg (by rw [a];simp)];simp only [zbS,Sum.elim_inl,Sum.elim_inr];rw [if_pos (by omega)]
theorem xj(hs:okS 3 g.2):eT g=some (dB g):=by
 rw [uL];unfold dB;by_cases h1:g.1<0
 .rw [if_pos h1,if_pos h1]
 by_cases h2:g.1>4096
 .rw [if_neg h1,if_pos h2,if_neg h1,if_pos h2]
 by_cases h3:g.2.l.length>65536
 .rw [if_neg h1,if_neg h2,if_pos (by omega),if_neg h1,if_neg h2,if_pos h3]
 rw [if_neg h1,if_neg h2,if_neg (by omega),if_neg h1,if_neg h2,if_neg h3];rcases lq (l:=g.2.l) (inM g.1 g.1) (λ_=>3) (Jo hs (by omega)) (by simp only [fC];rw [if_neg (by omega)])with⟨a,q⟩|⟨a,j,q⟩
 .rw [q,if_pos a];simp only [zbS,Sum.elim_inl];rcases lq (l:=g.2.l) wOk (λ_=>7) (PU hs (by omega)) (by simp only [fD];rw [if_neg (by omega)])with⟨a,q⟩|⟨a,j,q⟩
  .rw [q,if_pos a];rfl
  .rw [q,if_neg (by rw [a];simp)];rfl
 .rw [q,if_neg (by rw [a];simp)];rfl
def Jp(g:Gr):List E3:=(dI (RG 1) g.2.l).1
theorem xk(hs:okS 3 g.2)(h:g.2.l.length<=65536):eV g=some (g.1,mo 3 (Jp g)):=by
 rw [uP,sN hs h (by decide)];rfl
end
end
section
open Go Sm
section
variable {n : Int} {l : List E3}
end
end
section
open Go Sm
end
section
open Go Sm
end
end Ev
end
end Go.Proofs.YtoamaaicfjkmhaaGreat
