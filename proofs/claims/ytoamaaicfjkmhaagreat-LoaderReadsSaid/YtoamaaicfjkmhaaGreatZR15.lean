/- Texts of a claim, joined. -/
import Derived.Test.YtoamaaicfjkmhaaGreatZR14
set_option linter.unusedVariables false
set_option linter.unusedSimpArgs false
namespace Go.Proofs.YtoamaaicfjkmhaaGreat
noncomputable section
namespace Ev
namespace K
open Go Go.RowKit
set_option maxRecDepth 100000
set_option maxHeartbeats 1000000
def vr:cj:= []
def lL:KG:=⟨TT,EQS,[],[]⟩
def dC:aO [(false,.I .i64),(false,.I .i64)]->Option (OutK.val (.data true [(false,.B)])):=cB lL vr WX 54 0 [(false,.I .i64),(false,.I .i64)] (.data true [(false,.B)])
def lN:aR:=⟨54,[(false,.I .i64),(false,.I .i64)],.data true [(false,.B)],dC,1⟩
def xR:cj:= [(85,⟨[⟨false,2,0,[0,1,7],⟨[(8,false,[.d true (.I .i64)])],[],[]⟩,[(.exit 0,⟨[],[],[]⟩),(.ret,⟨[(4,false,[.d true (.I .i64)])],[],[]⟩)]⟩],[]⟩)]
def nB:KG:=⟨TT,EQS,[lN],[(52,WU),(53,WW),(55,WY),(85,Xh)]⟩
def fw:aO [yD0]->Option (OutK.val (.data true [(false,.I .i64)])):=cB nB xR WN 25 6 [yD0] (.data true [(false,.I .i64)])
def nC:aR:=⟨25,[yD0],.data true [(false,.I .i64)],fw,8⟩
def tI:cj:= [(27,⟨[⟨false,2,0,[5,6],⟨[(7,false,[.d true (.I .i64)])],[],[]⟩,[(.exit 0,⟨[],[],[]⟩),(.ret,⟨[(2,false,[.d true (.I .u8)])],[],[]⟩)]⟩],[]⟩)]
def kA:KG:=⟨TT,EQS,[],[]⟩
def dP:aO [yD1]->Option (OutK.val (.data true [(false,.I .u8)])):=cB kA tI WO 27 0 [yD1] (.data true [(false,.I .u8)])
def kD:aR:=⟨27,[yD1],.data true [(false,.I .u8)],dP,1⟩
def pV:cj:= [(57,⟨[⟨false,3,0,[0,5,10],⟨[(11,false,[.d true (.I .i64)])],[],[(.sl 5 0,.I .u8)]⟩,[(.exit 0,⟨[],[],[(.sl 5 0,.I .u8)]⟩)]⟩],[]⟩)]
def iS:KG:=⟨TT,EQS,[],[]⟩
def dK:aO [(false,.I .u8),(false,.I .i64)]->Option (OutK.val (.own (.I .u8))):=cB iS pV WZ 57 0 [(false,.I .u8),(false,.I .i64)] (.own (.I .u8))
def iU:aR:=⟨57,[(false,.I .u8),(false,.I .i64)],.own (.I .u8),dK,1⟩
def AM:cj:= []
def pW:KG:=⟨TT,EQS,[iU],[]⟩
def gh:aO [(false,.I .u8)]->Option (OutK.val (.own (.I .u8))):=cB pW AM WP 28 0 [(false,.I .u8)] (.own (.I .u8))
def pX:aR:=⟨28,[(false,.I .u8)],.own (.I .u8),gh,2⟩
def oJ:cj:= [(88,⟨[⟨false,3,0,[0,5,10],⟨[(11,false,[.d true (.I .i64)])],[],[(.sl 5 0,.I .u8)]⟩,[(.exit 0,⟨[],[],[(.sl 5 0,.I .u8)]⟩)]⟩],[]⟩)]
def iA:KG:=⟨TT,EQS,[],[]⟩
def dm:aO [(false,.I .u32),(false,.I .i64)]->Option (OutK.val (.own (.I .u8))):=cB iA oJ Xi 88 0 [(false,.I .u32),(false,.I .i64)] (.own (.I .u8))
def iB:aR:=⟨88,[(false,.I .u32),(false,.I .i64)],.own (.I .u8),dm,1⟩
def xS:cj:= []
def nD:KG:=⟨TT,EQS,[iB],[]⟩
def fx:aO [(false,.I .u32)]->Option (OutK.val (.own (.I .u8))):=cB nD xS Xa 58 0 [(false,.I .u32)] (.own (.I .u8))
def nG:aR:=⟨58,[(false,.I .u32)],.own (.I .u8),fx,2⟩
def AN:cj:= [(29,⟨[⟨false,3,0,[6,7],⟨[(3,false,[.m (.I .u8)]),(8,false,[.d true (.I .i64)])],[],[]⟩,[(.exit 0,⟨[(3,false,[.m (.I .u8)])],[],[]⟩)]⟩],[]⟩)]
def pY:KG:=⟨TT,EQS,[nG],[]⟩
def eh:aO [(false,.S (.I .i64))]->Option (OutK.val (.mown (.I .u8))):=cB pY AN WQ 29 0 [(false,.S (.I .i64))] (.mown (.I .u8))
def pZ:aR:=⟨29,[(false,.S (.I .i64))],.mown (.I .u8),eh,3⟩
def tJ:cj:= [(9,⟨[⟨false,10,0,[5,36,37],⟨[(6,false,[.o (.I .u8)]),(38,false,[.d true (.I .i64)])],[],[]⟩,[(.exit 0,⟨[(6,false,[.o (.I .u8)])],[],[]⟩)]⟩],[]⟩)]
def kH:KG:=⟨TT,EQS,[nC,jp,kD,pX,pZ],[]⟩
def dQ:aO [yD0]->Option (OutK.val (.data true [(false,.S (.I .u8)),(false,.I .i64)])):=cB kH tJ fi9 9 0 [yD0] (.data true [(false,.S (.I .u8)),(false,.I .i64)])
def kI:aR:=⟨9,[yD0],.data true [(false,.S (.I .u8)),(false,.I .i64)],dQ,9⟩
def qa:cj:= [(41,⟨[⟨false,4,0,[0,1],⟨[(5,false,[.d true (.I .i64)])],[],[]⟩,[(.exit 0,⟨[],[],[]⟩),(.ret,⟨[(4,false,[.d true .B])],[],[]⟩)]⟩],[]⟩)]
def iV:KG:=⟨TT,EQS,[],[]⟩
def cK:aO [yD1,yD1]->Option (OutK.val (.data true [(false,.B)])):=cB iV qa WS 41 0 [yD1,yD1] (.data true [(false,.B)])
def iW:aR:=⟨41,[yD1,yD1],.data true [(false,.B)],cK,1⟩
def AO:cj:= []
def qb:KG:=⟨TT,EQS,[iW],[]⟩
def gk:aO [yD0,yD0]->Option (OutK.val (.data true [(false,.B)])):=cB qb AO WH 14 0 [yD0,yD0] (.data true [(false,.B)])
def qc:aR:=⟨14,[yD0,yD0],.data true [(false,.B)],gk,2⟩
def vt:cj:= []
def lO:KG:=⟨TT,EQS,[kI,gQ,nA],[]⟩
def eJ:aO [(false,.S (.I .u8))]->Option (OutK.val (.data true [(false,.B)])):=cB lO vt WI 15 0 [(false,.S (.I .u8))] (.data true [(false,.B)])
def lP:aR:=⟨15,[(false,.S (.I .u8))],.data true [(false,.B)],eJ,10⟩
def xU:cj:= [(17,⟨[⟨false,6,0,[1],⟨[(3,false,[.d true (.I .i64)])],[],[]⟩,[(.exit 0,⟨[],[],[]⟩),(.ret,⟨[(2,false,[.d true (.I .i64)])],[],[]⟩)]⟩,⟨false,12,0,[1],⟨[(5,false,[.d true (.I .i64)])],[],[]⟩,[(.exit 2,⟨[],[],[]⟩),(.ret,⟨[(2,false,[.d true (.I .i64)])],[],[]⟩)]⟩],[]⟩)]
def nH:KG:=⟨TT,EQS,[],[]⟩
def em:aO [yD0]->Option (OutK.val (.data true [(false,.I .i64)])):=cB nH xU WK 17 0 [yD0] (.data true [(false,.I .i64)])
def jf:aR:=⟨17,[yD0],.data true [(false,.I .i64)],em,1⟩
def xV:cj:= [(18,⟨[⟨false,2,0,[0],⟨[(3,false,[.d true (.I .i64)])],[],[]⟩,[(.exit 0,⟨[],[],[]⟩),(.ret,⟨[(2,false,[.d true .B])],[],[]⟩)]⟩],[]⟩)]
def nI:KG:=⟨TT,EQS,[gy],[]⟩
def eo:aO [yD1]->Option (OutK.val (.data true [(false,.B)])):=cB nI xV WL 18 0 [yD1] (.data true [(false,.B)])
def jg:aR:=⟨18,[yD1],.data true [(false,.B)],eo,2⟩
def CL:cj:= [(59,⟨[⟨false,3,0,[1],⟨[(0,false,[.d true (.I .u64)]),(5,false,[.m (.I .u8)]),(6,false,[.d true (.I .i64)])],[],[]⟩,[(.exit 0,⟨[(5,false,[.m (.I .u8)])],[],[]⟩)]⟩],[]⟩)]
def sy:KG:=⟨TT,EQS,[],[]⟩
def il:aO [(false,.I .u64),(false,.I .i64)]->Option (OutK.val (.mown (.I .u8))):=cB sy CL Xc 59 0 [(false,.I .u64),(false,.I .i64)] (.mown (.I .u8))
def sA:aR:=⟨59,[(false,.I .u64),(false,.I .i64)],.mown (.I .u8),il,1⟩
def xW:cj:= []
def nJ:KG:=⟨TT,EQS,[sA],[]⟩
def ct:aO [(false,.I .u32)]->Option (OutK.val (.mown (.I .u8))):=cB nJ xW WR 30 0 [(false,.I .u32)] (.mown (.I .u8))
def nK:aR:=⟨30,[(false,.I .u32)],.mown (.I .u8),ct,2⟩
def vu:cj:= [(10,⟨[⟨false,8,0,[1],⟨[(5,false,[.d true (.I .u8)]),(6,false,[.d true (.I .i64)])],[],[]⟩,[(.exit 0,⟨[(5,false,[.d true (.I .u8)])],[],[]⟩)]⟩,⟨false,17,0,[1,5],⟨[(7,false,[.o (.I .u8)]),(8,false,[.d true (.I .i64)])],[],[]⟩,[(.exit 2,⟨[(7,false,[.o (.I .u8)])],[],[]⟩)]⟩],[]⟩)]
def lQ:KG:=⟨TT,EQS,[jf,jg,nK],[]⟩
def eK:aO [yD0]->Option (OutK.val (.data true [(false,.S (.I .u8)),(false,.I .i64)])):=cB lQ vu WF 10 0 [yD0] (.data true [(false,.S (.I .u8)),(false,.I .i64)])
def lS:aR:=⟨10,[yD0],.data true [(false,.S (.I .u8)),(false,.I .i64)],eK,3⟩
def qd:cj:= [(11,⟨[⟨false,4,0,[0,1],⟨[(5,false,[.d true (.I .i64)])],[],[]⟩,[(.exit 0,⟨[],[],[]⟩),(.ret,⟨[(4,false,[.d true .B])],[],[]⟩)]⟩],[]⟩)]
def iX:KG:=⟨TT,EQS,[],[]⟩
def cL:aO [(false,.S (.I .u8)),(false,.S (.I .u8))]->Option (OutK.val (.data true [(false,.B)])):=cB iX qd WG 11 0 [(false,.S (.I .u8)),(false,.S (.I .u8))] (.data true [(false,.B)])
def iY:aR:=⟨11,[(false,.S (.I .u8)),(false,.S (.I .u8))],.data true [(false,.B)],cL,1⟩
def xX:cj:= []
def nL:KG:=⟨TT,EQS,[lS,iY,iz],[]⟩
def fy:aO [(false,.S (.I .u8))]->Option (OutK.val (.data true [(false,.B)])):=cB nL xX WJ 16 0 [(false,.S (.I .u8))] (.data true [(false,.B)])
def nM:aR:=⟨16,[(false,.S (.I .u8))],.data true [(false,.B)],fy,4⟩
def ng:cj:= []
def gX:KG:=⟨TT,EQS,[Ou,gQ,iz,qc,lP,nM,jf,jg],[]⟩
def cP:aO [(false,.S (.I .u8))]->Option (OutK.val (.data true [(false,.B)])):=cB gX ng fi4 4 0 [(false,.S (.I .u8))] (.data true [(false,.B)])
def gY:aR:=⟨4,[(false,.S (.I .u8))],.data true [(false,.B)],cP,11⟩
end K
end Ev
end
noncomputable section
namespace Ev
namespace K
open Go Go.RowKit
set_option maxRecDepth 100000
set_option maxHeartbeats 1000000
theorem vw:GOk kr E1 0:=gok dj dt bW trivial trivial
theorem xY:ar E1 kt:=aL vw (by kernel_rfl) XR (by kernel_rfl) rfl
theorem qe:GOk gS E1 0:=gok dj dt bW trivial trivial
theorem rH:ar E1 gT:=aL qe (by kernel_rfl) SW (by kernel_rfl) rfl
theorem nh:GOk ga E1 1:=gok dj dt bW ⟨⟨by decide,rH⟩,trivial⟩ trivial
theorem oK:ar E1 gb:=aL nh (by kernel_rfl) XS (by kernel_rfl) rfl
theorem rI:GOk iM E1 2:=gok dj dt bW ⟨⟨by decide,xY⟩,⟨⟨by decide,oK⟩,trivial⟩⟩ trivial
theorem tK:ar E1 iN:=aL rI (by kernel_rfl) XM (by kernel_rfl) rfl
theorem tL:GOk jo E1 3:=gok dj dt bW ⟨⟨by decide,tK⟩,trivial⟩ trivial
theorem vy:ar E1 jp:=aL tL (by kernel_rfl) XB (by kernel_rfl) rfl
theorem tM:GOk jq E1 0:=gok dj dt bW trivial trivial
theorem vz:ar E1 gy:=aL tM (by kernel_rfl) XH (by kernel_rfl) rfl
theorem rJ:GOk lL E1 0:=gok dj dt bW trivial trivial
theorem tN:ar E1 lN:=aL rJ (by kernel_rfl) XK (by kernel_rfl) rfl
theorem tO:GOk nB E1 1:=gok dj dt bW ⟨⟨by decide,tN⟩,trivial⟩ ⟨⟨XI,rfl⟩,⟨⟨XJ,rfl⟩,⟨⟨XL,rfl⟩,⟨⟨XQ,rfl⟩,trivial⟩⟩⟩⟩
theorem vA:ar E1 nC:=aL tO (by kernel_rfl) XA (by kernel_rfl) rfl
theorem qf:GOk kA E1 0:=gok dj dt bW trivial trivial
theorem rK:ar E1 kD:=aL qf (by kernel_rfl) XC (by kernel_rfl) rfl
theorem ni:GOk iS E1 0:=gok dj dt bW trivial trivial
theorem oL:ar E1 iU:=aL ni (by kernel_rfl) XN (by kernel_rfl) rfl
theorem vB:GOk pW E1 1:=gok dj dt bW ⟨⟨by decide,oL⟩,trivial⟩ trivial
theorem xZ:ar E1 pX:=aL vB (by kernel_rfl) XD (by kernel_rfl) rfl
theorem lT:GOk iA E1 0:=gok dj dt bW trivial trivial
theorem nj:ar E1 iB:=aL lT (by kernel_rfl) XU (by kernel_rfl) rfl
theorem tP:GOk nD E1 1:=gok dj dt bW ⟨⟨by decide,nj⟩,trivial⟩ trivial
theorem vC:ar E1 nG:=aL tP (by kernel_rfl) XO (by kernel_rfl) rfl
theorem vD:GOk pY E1 2:=gok dj dt bW ⟨⟨by decide,vC⟩,trivial⟩ trivial
theorem ya:ar E1 pZ:=aL vD (by kernel_rfl) XE (by kernel_rfl) rfl
theorem qg:GOk kH E1 8:=gok dj dt bW ⟨⟨by decide,vA⟩,⟨⟨by decide,vy⟩,⟨⟨by decide,rK⟩,⟨⟨by decide,xZ⟩,⟨⟨by decide,ya⟩,trivial⟩⟩⟩⟩⟩ trivial
theorem rL:ar E1 kI:=aL qg (by kernel_rfl) fn9 (by kernel_rfl) rfl
theorem nk:GOk iV E1 0:=gok dj dt bW trivial trivial
theorem oM:ar E1 iW:=aL nk (by kernel_rfl) XG (by kernel_rfl) rfl
theorem vF:GOk qb E1 1:=gok dj dt bW ⟨⟨by decide,oM⟩,trivial⟩ trivial
theorem yb:ar E1 qc:=aL vF (by kernel_rfl) Xv (by kernel_rfl) rfl
theorem rM:GOk lO E1 9:=gok dj dt bW ⟨⟨by decide,rL⟩,⟨⟨by decide,jz⟩,⟨⟨by decide,vq⟩,trivial⟩⟩⟩ trivial
theorem tQ:ar E1 lP:=aL rM (by kernel_rfl) Xw (by kernel_rfl) rfl
theorem tR:GOk nH E1 0:=gok dj dt bW trivial trivial
theorem lV:ar E1 jf:=aL tR (by kernel_rfl) Xy (by kernel_rfl) rfl
theorem tS:GOk nI E1 1:=gok dj dt bW ⟨⟨by decide,vz⟩,trivial⟩ trivial
theorem lW:ar E1 jg:=aL tS (by kernel_rfl) Xz (by kernel_rfl) rfl
theorem yc:GOk sy E1 0:=gok dj dt bW trivial trivial
theorem AP:ar E1 sA:=aL yc (by kernel_rfl) XP (by kernel_rfl) rfl
theorem tT:GOk nJ E1 1:=gok dj dt bW ⟨⟨by decide,AP⟩,trivial⟩ trivial
theorem vG:ar E1 nK:=aL tT (by kernel_rfl) XF (by kernel_rfl) rfl
theorem rN:GOk lQ E1 2:=gok dj dt bW ⟨⟨by decide,lV⟩,⟨⟨by decide,lW⟩,⟨⟨by decide,vG⟩,trivial⟩⟩⟩ trivial
theorem tU:ar E1 lS:=aL rN (by kernel_rfl) Xr (by kernel_rfl) rfl
theorem nl:GOk iX E1 0:=gok dj dt bW trivial trivial
theorem oN:ar E1 iY:=aL nl (by kernel_rfl) Xu (by kernel_rfl) rfl
theorem tV:GOk nL E1 3:=gok dj dt bW ⟨⟨by decide,tU⟩,⟨⟨by decide,oN⟩,⟨⟨by decide,ky⟩,trivial⟩⟩⟩ trivial
theorem vH:ar E1 nM:=aL tV (by kernel_rfl) Xx (by kernel_rfl) rfl
theorem lg:GOk gX E1 10:=gok dj dt bW ⟨⟨by decide,Rc⟩,⟨⟨by decide,jz⟩,⟨⟨by decide,ky⟩,⟨⟨by decide,yb⟩,⟨⟨by decide,tQ⟩,⟨⟨by decide,vH⟩,⟨⟨by decide,lV⟩,⟨⟨by decide,lW⟩,trivial⟩⟩⟩⟩⟩⟩⟩⟩ trivial
theorem lX:ar E1 gY:=aL lg (by kernel_rfl) fn4 (by kernel_rfl) rfl
end K
end Ev
end
noncomputable section
namespace Ev
namespace K
open Go Go.RowKit
def W:(e:Ty)->e.val->Prop
 | .I k,x=>inK k x
 | .B,_=>True
 | .S e,x=>SlW e.size (λy=>W e y) x
 | .U,_=>True
 | .C a b,x=>W a x.1/\W b x.2
def Op(P:Program)(t:TypeId)(e:Ty):Prop:=∀ts,Typ P t ts->∃x:e.val,ts=e.row x/\W e x
section
variable {P : Program} {t : TypeId} {tl : List TypeId} {e a b : Ty}
theorem Re{k:IntKind}(h:P.underlying t=some (.int k)):Op P t (.I k):=λts ht=>NO h ht
theorem Kh{t':TypeId}(h:P.underlying t=some (.slice t'))(hc:P.cellsOf t'=e.size)(ho:Op P t' e):Op P t (.S e):=λts ht=>IQ (r:=e.row) (Q:=λy=>W e y) h hc ho ht
theorem Ki{ts:List TypeId}{tds:List TD}{d:TypeDesc}(hu:P.underlying t=some d)(hd:aP d=false)(ho:Op P t e)(h:mh P (t::ts) tds):∃(x:e.val) (r:List TD),tds=jW (false,e) x::r/\W e x/\mh P ts r:=by
 obtain⟨y,r,rfl,h1,h2⟩:=LS hu hd h;obtain⟨x,h3,h4⟩:=ho _ h1;refine⟨x,r,?_,h4,h2⟩;show TD.one y::r=(match e.row x with| [y]=>TD.one y|ys=>TD.agg ys)::r;rw [<-h3]
end
theorem Nj{E:Env}{en:aR}(ok:ar E en){a:aO en.ins}{tds:List TD}(ht:tds=bZ en.ins a)(ho:en.out= .data true [(false,.B)])(h:en.f a=some (cast (by rw [ho]) true)):∃m n kind,(cD E m n).1 en.k tds=some (kind,[.one (.v (.bool true))]):=by
 have h1:=ok 0 a _ h;subst ht;obtain⟨k,ins,out,f,d⟩:=en;dsimp only at ho;subst ho;exact RI h1
end K
end Ev
end
noncomputable section
namespace Ev
open Go Go.RowKit
def gJ(x:Sl (Int))(y:Sl (Int)):Option (Bool):=K.gJ (x,y)
def cT(x:Sl (Int)):Option ((Int×(Sl (Int×Int×Int)))×Int×Int):=K.cT x
def dB(x:Sl (Int)):Option ((Int×(Sl (Int×Int×Int)))×Int×Int):=K.dB x
def FL8:Option (Bool):=K.FL8 ()
def dC(x:Int)(y:Int):Option (Bool):=K.dC (x,y)
def fw(x:Int×(Sl (Int×Int×Int))):Option (Int):=K.fw x
def dP(x:Sl (Int×Int×Int)):Option (Int):=K.dP x
def dK(x:Int)(y:Int):Option (List (Int)):=K.dK (x,y)
def gh(x:Int):Option (List (Int)):=K.gh x
def dm(x:Int)(y:Int):Option (List (Int)):=K.dm (x,y)
def fx(x:Int):Option (List (Int)):=K.fx x
def eh(x:Sl (Int)):Option (List (Int)):=K.eh x
def dQ(x:Int×(Sl (Int×Int×Int))):Option (Sl (Int)×Int):=K.dQ x
def cK(x:Sl (Int×Int×Int))(y:Sl (Int×Int×Int)):Option (Bool):=K.cK (x,y)
def gk(x:Int×(Sl (Int×Int×Int)))(y:Int×(Sl (Int×Int×Int))):Option (Bool):=K.gk (x,y)
def eJ(x:Sl (Int)):Option (Bool):=K.eJ x
def em(x:Int×(Sl (Int×Int×Int))):Option (Int):=K.em x
def eo(x:Sl (Int×Int×Int)):Option (Bool):=K.eo x
def il(x:Int)(y:Int):Option (List (Int)):=K.il (x,y)
def ct(x:Int):Option (List (Int)):=K.ct x
def eK(x:Int×(Sl (Int×Int×Int))):Option (Sl (Int)×Int):=K.eK x
def cL(x:Sl (Int))(y:Sl (Int)):Option (Bool):=K.cL (x,y)
def fy(x:Sl (Int)):Option (Bool):=K.fy x
def cP(x:Sl (Int)):Option (Bool):=K.cP x
end Ev
end
noncomputable section
namespace Ev
open Go Go.RowKit
set_option maxRecDepth 100000
set_option maxHeartbeats 1000000
abbrev yC:=Int×Int×Sl Int×Sl Int×Sl Int×Sl Int
abbrev yM:=Int×Int×Sl Int×Sl Int×Sl Int
abbrev yT:=Int×Int×Int
theorem tW(x:Int)(y:Int):dC x y=if y >= 0 then some (decide (y<x))else some false:=by kernel_rfl
def fP(x:Int×Sl yT):Int->Option (Int ⊕ PUnit ⊕ Int ⊕ Empty):=λ(x_1:Int)=>if x_1<(↑x.snd.l.length:Int)then(atS 3 x.snd x_1).bind λ(y:Int×Int×Int)=>(dC x.fst y.fst).bind λ(out:Bool)=>if¬out=true then some (Sum.inr (Sum.inr (Sum.inl x_1)))else(dC x.fst y.snd.fst).bind λ(out:Bool)=>if¬out=true then some (Sum.inr (Sum.inr (Sum.inl x_1)))else some (Sum.inl (IntKind.i64.wrap (x_1+1)))else some (Sum.inr (Sum.inl ()))
def fQ(x:Int×Sl yT):Int->Option (Int ⊕ PUnit ⊕ Int ⊕ Empty):=λ(x_1:Int)=>if x_1<(↑x.snd.l.length:Int)then(atS 3 x.snd x_1).bind λ(y:Int×Int×Int)=>if y.snd.snd<0 then some (Sum.inr (Sum.inr (Sum.inl x_1)))else if y.snd.snd>2147483647 then some (Sum.inr (Sum.inr (Sum.inl x_1)))else some (Sum.inl (IntKind.i64.wrap (x_1+1)))else some (Sum.inr (Sum.inl ()))
def vJ(x:Int×Sl yT):Int->Option (Int ⊕ PUnit ⊕ Int ⊕ Empty):=λ(x_1:Int)=>if x_1<(↑x.snd.l.length:Int)then(atS 3 x.snd x_1).bind λ(y:Int×Int×Int)=>if y.snd.snd<0 then some (Sum.inr (Sum.inr (Sum.inl x_1)))else if y.snd.snd>2147483647 then some (Sum.inr (Sum.inr (Sum.inl x_1)))else some (Sum.inl (IntKind.i64.wrap (x_1+1)))else some (Sum.inr (Sum.inl ()))
theorem vK(x:Int×Sl yT):fw x=if x.fst<0 then some 3
else if x.fst>4096 then some 5 else if(↑x.snd.l.length:Int)>65536 then some 5 else(aW (fP x) 0).bind λ(y:PUnit ⊕ Int ⊕ Empty)=>Sum.elim (λ(val:PUnit)=>(aW (fQ x) 0).bind λ(y:PUnit ⊕ Int ⊕ Empty)=>Sum.elim (λ(val:PUnit)=>some 0) (λ(val:Int ⊕ Empty)=>Sum.elim (λ(val:Int)=>if val >= 0 then some 7 else some 0) (λ(val:Empty)=>nE val) val) y) (λ(val:Int ⊕ Empty)=>Sum.elim (λ(val:Int)=>if val >= 0 then some 3 else(aW (vJ x) 0).bind λ(y:PUnit ⊕ Int ⊕ Empty)=>Sum.elim (λ(val:PUnit)=>some 0) (λ(val:Int ⊕ Empty)=>Sum.elim (λ(val:Int)=>if val >= 0 then some 7 else some 0) (λ(val:Empty)=>nE val) val) y) (λ(val:Empty)=>nE val) val) y:=by kernel_rfl
def eL(x:Sl yT):Int->Option (Int ⊕ PUnit ⊕ Int ⊕ Empty):=λ(x_1:Int)=>if x_1<(↑x.l.length:Int)then(atS 3 x x_1).bind λ(y:Int×Int×Int)=>if y.snd.snd≠1 then some (Sum.inr (Sum.inr (Sum.inl 1)))else some (Sum.inl (IntKind.i64.wrap (x_1+1)))else some (Sum.inr (Sum.inl ()))
theorem rO(x:Sl yT):dP x=(aW (eL x) 0).bind λ(y:PUnit ⊕ Int ⊕ Empty)=>Sum.elim (λ(val:PUnit)=>some 0) (λ(val:Int ⊕ Empty)=>Sum.elim (λ(val:Int)=>some val) (λ(val:Empty)=>nE val) val) y:=by kernel_rfl
def dD(x:Int)(y:Int):Int×List Int->Option (Int×List Int ⊕ List Int ⊕ Empty):=λ(x_1:Int×List Int)=>if x_1.fst<(↑(List.replicate y.toNat (0:Int)).length:Int)then(Bg IntKind.u8 x (IntKind.u64.wrap (IntKind.i64.wrap (8*x_1.fst)))).bind λ(z:Int)=>(atL x_1.snd x_1.fst).bind λ(x:Int)=>(atL x_1.snd x_1.fst).bind λ(y:Int)=>some (Sum.inl (IntKind.i64.wrap (x_1.fst+1),List.set x_1.snd (Int.toNat x_1.fst) z))else some (Sum.inr (Sum.inl x_1.snd))
theorem oO(x:Int)(y:Int):dK x y=(zm y y).bind λ(x_1:PUnit)=>(wo y).bind λ(x_2:PUnit)=>(aW (dD x y) (0,List.replicate y.toNat 0)).bind λ(y:List Int ⊕ Empty)=>Sum.elim (λ(val:List Int)=>some val) (λ(val:Empty)=>nE val) y:=by kernel_rfl
theorem yd(x:Int):gh x=(dK x 1).bind λ(out:List Int)=>some out:=by kernel_rfl
def cV(x:Int)(y:Int):Int×List Int->Option (Int×List Int ⊕ List Int ⊕ Empty):=λ(x_1:Int×List Int)=>if x_1.fst<(↑(List.replicate y.toNat (0:Int)).length:Int)then(Bg IntKind.u32 x (IntKind.u64.wrap (IntKind.i64.wrap (8*x_1.fst)))).bind λ(z:Int)=>(atL x_1.snd x_1.fst).bind λ(x:Int)=>(atL x_1.snd x_1.fst).bind λ(y:Int)=>some (Sum.inl (IntKind.i64.wrap (x_1.fst+1),List.set x_1.snd (Int.toNat x_1.fst) (IntKind.u8.wrap z)))else some (Sum.inr (Sum.inl x_1.snd))
theorem nm(x:Int)(y:Int):dm x y=(zm y y).bind λ(x_1:PUnit)=>(wo y).bind λ(x_2:PUnit)=>(aW (cV x y) (0,List.replicate y.toNat 0)).bind λ(y:List Int ⊕ Empty)=>Sum.elim (λ(val:List Int)=>some val) (λ(val:Empty)=>nE val) y:=by kernel_rfl
theorem vL(x:Int):fx x=(dm x 4).bind λ(out:List Int)=>some out:=by kernel_rfl
def gw(x:Sl Int):List Int×Int->Option (List Int×Int ⊕ List Int ⊕ Empty):=λ(x_1:List Int×Int)=>if x_1.snd<(↑x.l.length:Int)then(atS 1 x x_1.snd).bind λ(y:Int)=>(fx (IntKind.u32.wrap y)).bind λ(out:List Int)=>(app x_1.fst out).bind λ(lm:List Int)=>some (Sum.inl (lm,IntKind.i64.wrap (x_1.snd+1)))else some (Sum.inr (Sum.inl x_1.fst))
theorem ye(x:Sl Int):eh x=(aW (gw x) ([],0)).bind λ(y:List Int ⊕ Empty)=>Sum.elim (λ(val:List Int)=>some val) (λ(val:Empty)=>nE val) y:=by kernel_rfl
def eM(x:Int×Sl yT)(out:Int):List Int×Int->Option (List Int×Int ⊕ List Int ⊕ Empty):=λ(x_1:List Int×Int)=>if x_1.snd<(↑x.snd.l.length:Int)then(atS 3 x.snd x_1.snd).bind λ(y:Int×Int×Int)=>(eh {nn:=true,sz:=1,l:= [y.fst,y.snd.fst]}).bind λ(out_1:List Int)=>(app x_1.fst out_1).bind λ(lm:List Int)=>if out=1 then(eh {nn:=true,sz:=1,l:= [y.snd.snd]}).bind λ(out:List Int)=>(app lm out).bind λ(lm:List Int)=>some (Sum.inl (lm,IntKind.i64.wrap (x_1.snd+1)))else some (Sum.inl (lm,IntKind.i64.wrap (x_1.snd+1)))else some (Sum.inr (Sum.inl x_1.fst))
theorem rP(x:Int×Sl yT):dQ x=(fw x).bind λ(out:Int)=>if out≠0 then some ({nn:=false,sz:=0,l:= []},out)else(dq x.snd).bind λ(out:Bool)=>if¬out=true then some ({nn:=false,sz:=0,l:= []},6)else(dP x.snd).bind λ(out:Int)=>(gh out).bind λ(out_1:List Int)=>(app [70,82,84,49] out_1).bind λ(lm:List Int)=>(eh {nn:=true,sz:=1,l:= [x.fst,(↑x.snd.l.length:Int)]}).bind λ(out_2:List Int)=>(app lm out_2).bind λ(lm:List Int)=>(aW (eM x out) (lm,0)).bind λ(y:List Int ⊕ Empty)=>Sum.elim (λ(val:List Int)=>some ({nn:=true,sz:=1,l:=val},0)) (λ(val:Empty)=>nE val) y:=by kernel_rfl
def iE(x:Sl yT)(y:Sl yT):Int->Option (Int ⊕ PUnit ⊕ Bool ⊕ Empty):=λ(x_1:Int)=>if x_1<(↑x.l.length:Int)then(atS 3 x x_1).bind λ(y_1:Int×Int×Int)=>(atS 3 y x_1).bind λ(y:Int×Int×Int)=>if¬(y_1.fst=y.fst/\y_1.snd.fst=y.snd.fst/\y_1.snd.snd=y.snd.snd)then some (Sum.inr (Sum.inr (Sum.inl false)))else some (Sum.inl (IntKind.i64.wrap (x_1+1)))else some (Sum.inr (Sum.inl ()))
theorem oP(x:Sl yT)(y:Sl yT):cK x y=if(↑x.l.length:Int)≠(↑y.l.length:Int)then some false
else(aW (iE x y) 0).bind λ(y:PUnit ⊕ Bool ⊕ Empty)=>Sum.elim (λ(val:PUnit)=>some true) (λ(val:Bool ⊕ Empty)=>Sum.elim (λ(val:Bool)=>some val) (λ(val:Empty)=>nE val) val) y:=by kernel_rfl
theorem yf(x:Int×Sl yT)(y:Int×Sl yT):gk x y=if x.fst=y.fst then(cK x.snd y.snd).bind λ(out:Bool)=>some (decide (out=true))
else some false:=by kernel_rfl
theorem kJ(x:Sl Int):eJ x=(cT x).bind λ(out:(Int×Sl yT)×Int×Int)=>if out.snd.fst≠0 then some false else(dQ out.fst).bind λ(out:Sl Int×Int)=>if out.snd=0 then(gJ out.fst x).bind λ(out:Bool)=>some (decide (out=true))else some false:=by kernel_rfl
def fR(x:Int×Sl yT):Int->Option (Int ⊕ PUnit ⊕ Int ⊕ Empty):=λ(x_1:Int)=>if x_1<(↑x.snd.l.length:Int)then(atS 3 x.snd x_1).bind λ(y:Int×Int×Int)=>if y.fst<0 then some (Sum.inr (Sum.inr (Sum.inl 3)))else if y.fst >= x.fst then some (Sum.inr (Sum.inr (Sum.inl 3)))else if y.snd.fst<0 then some (Sum.inr (Sum.inr (Sum.inl 3)))else if y.snd.fst >= x.fst then some (Sum.inr (Sum.inr (Sum.inl 3)))else some (Sum.inl (IntKind.i64.wrap (x_1+1)))else some (Sum.inr (Sum.inl ()))
def fS(x:Int×Sl yT):Int->Option (Int ⊕ PUnit ⊕ Int ⊕ Empty):=λ(x_1:Int)=>if x_1<(↑x.snd.l.length:Int)then(atS 3 x.snd x_1).bind λ(y:Int×Int×Int)=>if y.snd.snd<0 then some (Sum.inr (Sum.inr (Sum.inl 7)))else(atS 3 x.snd x_1).bind λ(y:Int×Int×Int)=>if y.snd.snd>2147483647 then some (Sum.inr (Sum.inr (Sum.inl 7)))else some (Sum.inl (IntKind.i64.wrap (x_1+1)))else some (Sum.inr (Sum.inl ()))
theorem vM(x:Int×Sl yT):em x=if x.fst<0 then some 3
else if x.fst>4096 then some 5 else if(↑x.snd.l.length:Int)>65536 then some 5 else(aW (fR x) 0).bind λ(y:PUnit ⊕ Int ⊕ Empty)=>Sum.elim (λ(val:PUnit)=>(aW (fS x) 0).bind λ(y:PUnit ⊕ Int ⊕ Empty)=>Sum.elim (λ(val:PUnit)=>some 0) (λ(val:Int ⊕ Empty)=>Sum.elim (λ(val:Int)=>some val) (λ(val:Empty)=>nE val) val) y) (λ(val:Int ⊕ Empty)=>Sum.elim (λ(val:Int)=>some val) (λ(val:Empty)=>nE val) val) y:=by kernel_rfl
def fT(x:Sl yT):Int->Option (Int ⊕ PUnit ⊕ Bool ⊕ Empty):=λ(x_1:Int)=>if x_1<(↑x.l.length:Int)then(atS 3 x (IntKind.i64.wrap (x_1 - 1))).bind λ(y:Int×Int×Int)=>(atS 3 x x_1).bind λ(y_1:Int×Int×Int)=>(cO y y_1).bind λ(out:Bool)=>if¬out=true then some (Sum.inr (Sum.inr (Sum.inl false)))else some (Sum.inl (IntKind.i64.wrap (x_1+1)))else some (Sum.inr (Sum.inl ()))
theorem vN(x:Sl yT):eo x=(aW (fT x) 1).bind λ(y:PUnit ⊕ Bool ⊕ Empty)=>Sum.elim (λ(val:PUnit)=>some true) (λ(val:Bool ⊕ Empty)=>Sum.elim (λ(val:Bool)=>some val) (λ(val:Empty)=>nE val) val) y:=by kernel_rfl
def ia(y:Int):Int×List Int×Int->Option (Int×List Int×Int ⊕ List Int ⊕ Empty):=λ(x:Int×List Int×Int)=>if x.snd.snd<y then(LP x.fst 256).bind λ(z:Int)=>(app x.snd.fst [IntKind.u8.wrap z]).bind λ(lm:List Int)=>(LN IntKind.u64 x.fst 256).bind λ(z:Int)=>some (Sum.inl (z,lm,IntKind.i64.wrap (x.snd.snd+1)))else some (Sum.inr (Sum.inl x.snd.fst))
theorem AQ(x:Int)(y:Int):il x y=(aW (ia y) (x,[],0)).bind λ(y:List Int ⊕ Empty)=>Sum.elim (λ(val:List Int)=>some val) (λ(val:Empty)=>nE val) y:=by kernel_rfl
theorem vO(x:Int):ct x=(il (IntKind.u64.wrap x) 4).bind λ(out:List Int)=>some out:=by kernel_rfl
def fg(x:Int×Sl yT):Int×Int->Option (Int×Int ⊕ Int ⊕ Empty):=λ(x_1:Int×Int)=>if x_1.snd<(↑x.snd.l.length:Int)then(atS 3 x.snd x_1.snd).bind λ(y:Int×Int×Int)=>if y.snd.snd≠1 then some (Sum.inl (1,IntKind.i64.wrap (x_1.snd+1)))else some (Sum.inl (x_1.fst,IntKind.i64.wrap (x_1.snd+1)))else some (Sum.inr (Sum.inl x_1.fst))
def fh(x:Int×Sl yT)(val:Int):List Int×Int->Option (List Int×Int ⊕ List Int ⊕ Empty):=λ(x_1:List Int×Int)=>if x_1.snd<(↑x.snd.l.length:Int)then(atS 3 x.snd x_1.snd).bind λ(y:Int×Int×Int)=>(ct (IntKind.u32.wrap y.fst)).bind λ(out:List Int)=>(app x_1.fst out).bind λ(lm:List Int)=>(atS 3 x.snd x_1.snd).bind λ(y:Int×Int×Int)=>(ct (IntKind.u32.wrap y.snd.fst)).bind λ(out:List Int)=>(app lm out).bind λ(lm:List Int)=>if val=1 then(atS 3 x.snd x_1.snd).bind λ(y:Int×Int×Int)=>(ct (IntKind.u32.wrap y.snd.snd)).bind λ(out:List Int)=>(app lm out).bind λ(lm:List Int)=>some (Sum.inl (lm,IntKind.i64.wrap (x_1.snd+1)))else some (Sum.inl (lm,IntKind.i64.wrap (x_1.snd+1)))else some (Sum.inr (Sum.inl x_1.fst))
theorem tX(x:Int×Sl yT):eK x=(em x).bind λ(out:Int)=>if out≠0 then some ({nn:=false,sz:=0,l:= []},out)else(eo x.snd).bind λ(out:Bool)=>if¬out=true then some ({nn:=false,sz:=0,l:= []},6)else(aW (fg x) (0,0)).bind λ(y:Int ⊕ Empty)=>Sum.elim (λ(val:Int)=>(app [70,82,84,49] [val]).bind λ(lm:List Int)=>(ct (IntKind.u32.wrap x.fst)).bind λ(out:List Int)=>(app lm out).bind λ(lm:List Int)=>(ct (IntKind.u32.wrap (↑x.snd.l.length:Int))).bind λ(out:List Int)=>(app lm out).bind λ(lm:List Int)=>(aW (fh x val) (lm,0)).bind λ(y:List Int ⊕ Empty)=>Sum.elim (λ(val:List Int)=>some ({nn:=true,sz:=1,l:=val},0)) (λ(val:Empty)=>nE val) y) (λ(val:Empty)=>nE val) y:=by kernel_rfl
def iF(x:Sl Int)(y:Sl Int):Int->Option (Int ⊕ PUnit ⊕ Bool ⊕ Empty):=λ(x_1:Int)=>if x_1<(↑x.l.length:Int)then(atS 1 x x_1).bind λ(y_1:Int)=>(atS 1 y x_1).bind λ(y:Int)=>if y_1≠y then some (Sum.inr (Sum.inr (Sum.inl false)))else some (Sum.inl (IntKind.i64.wrap (x_1+1)))else some (Sum.inr (Sum.inl ()))
theorem oQ(x:Sl Int)(y:Sl Int):cL x y=if(↑x.l.length:Int)≠(↑y.l.length:Int)then some false
else(aW (iF x y) 0).bind λ(y:PUnit ⊕ Bool ⊕ Empty)=>Sum.elim (λ(val:PUnit)=>some true) (λ(val:Bool ⊕ Empty)=>Sum.elim (λ(val:Bool)=>some val) (λ(val:Empty)=>nE val) val) y:=by kernel_rfl
theorem lY(x:Sl Int):fy x=(dB x).bind λ(out:(Int×Sl yT)×Int×Int)=>if out.snd.fst≠0 then some false else(eK out.fst).bind λ(out:Sl Int×Int)=>if out.snd=0 then(cL x out.fst).bind λ(out:Bool)=>some (decide (out=true))else some false:=by kernel_rfl
theorem lZ(x:Sl Int):cP x=if(↑x.l.length:Int)>4000 then FL8.bind λ(out:Bool)=>some (decide (out=true))
else(cT x).bind λ(out:(Int×Sl yT)×Int×Int)=>(dB x).bind λ(out_1:(Int×Sl yT)×Int×Int)=>FL8.bind λ(out_2:Bool)=>if¬out_2=true then some false else(gk out.fst out_1.fst).bind λ(out_3:Bool)=>if¬out_3=true then some false else if¬(out.snd.fst=out_1.snd.fst/\out.snd.snd=out_1.snd.snd)then some false else(eJ x).bind λ(out_4:Bool)=>(fy x).bind λ(out_5:Bool)=>if¬decide (out_4=true)=decide (out_5=true)then some false else if out.snd.fst≠0 then if out.snd.snd >= 0 then if out.snd.snd<=(↑x.l.length:Int)then if out.fst.fst=0 then some (decide ((↑out.fst.snd.l.length:Int)=0))else some false else some false else some false else(em out.fst).bind λ(out_6:Int)=>if out_6=0 then(eo out.fst.snd).bind λ(out:Bool)=>some (decide (out=true))else some false:=by kernel_rfl
end Ev
end
noncomputable section
namespace Ev
section
open Go
def okS{α:Type}(w:Nat)(s:Sl α):Prop:=s.l= []∨s.sz=w
theorem Ov{α:Type}{w:Nat}(l:List α):okS w (mo w l):=by cases l with|nil=>exact .inl rfl|cons x l=>exact .inr rfl
theorem bI{α:Type}{l:List α}{j:Nat}{x:α}(h:l[j]? =some x):atL l (j:Int)=some x:=by
 have hj:=(List.getElem?_eq_some_iff.1 h);rw [NP hj.1,hj.2]
theorem yR{α:Type}{w:Nat}{s:Sl α}(hs:okS w s){j:Nat}{x:α}(h:s.l[j]? =some x):atS w s (j:Int)=some x:=by
 have hj:=(List.getElem?_eq_some_iff.1 h);rw [eU hs hj.1,hj.2]
theorem Kj{A R:Type}{b:A->Option (A ⊕ R)}(n:Nat)(st:Nat->A){r:R}(hs:∀j,j<n->b (st j)=some (.inl (st (j+1))))(he:b (st n)=some (.inr r)):aW b (st 0)=some r:=by
 obtain⟨q,h1,h2⟩:=mS (b:=b) n (λj a=>a=st j) (λq=>q=r) (λj a hj ha=> .inl ⟨st (j+1),by rw [ha];exact hs j hj,rfl⟩) (λa ha=>⟨r,by rw [ha];exact he,rfl⟩) 0 (Nat.zero_le _) (st 0) rfl;rw [h1,h2]
theorem fB{A R:Type}{b:A->Option (A ⊕ R)}(n:Nat)(st:Nat->A){a:A}(ha:a=st 0){r:R}(hs:∀j,j<n->b (st j)=some (.inl (st (j+1))))(he:b (st n)=some (.inr r)):aW b a=some r:=by rw [ha];exact Kj n st hs he
theorem Ip{α:Type}[DecidableEq α]{x y:List α}(hl:x.length=y.length){b:Int->Option (Int ⊕ PUnit ⊕ Bool ⊕ Empty)}(h1:∀j:Nat,(h:j<x.length)->b j=some (if x[j]=y[j]then .inl ((j+1:Nat):Int)else .inr (.inr (.inl false))))(h2:∀j:Nat,x.length<=j->b j=some (.inr (.inl ()))):
  aW b 0=some (if x=y then .inl ()else .inr (.inl false)):=by
 obtain⟨q,q1,q2⟩:=mS (b:=b) x.length (λj a=>a=(j:Int)/\x.take j=y.take j) (λq=>q=if x=y then .inl ()else .inr (.inl false))
  (by
   rintro j _ hj ⟨rfl,ht⟩;rw [h1 j hj];by_cases e:x[j]=y[j]
   .rw [if_pos e];refine .inl ⟨_,rfl,rfl,?_⟩;rw [List.take_succ_eq_append_getElem hj,List.take_succ_eq_append_getElem (by omega),ht,e]
   .rw [if_neg e];refine .inr ⟨_,rfl,?_⟩
    rw [if_neg (λh=>e (by simp [h]))])
  (by
   rintro _ ⟨rfl,ht⟩;refine⟨_,h2 _ (Nat.le_refl _),?_⟩;rw [List.take_of_length_le (Nat.le_refl _),List.take_of_length_le (by omega)]at ht
   rw [if_pos ht]) 0 (Nat.zero_le _) 0 ⟨rfl,by simp⟩
 rw [q1,q2]
end
section
open Go
abbrev Mx:=Int×Int×Sl Int×Sl Int×Sl Int
abbrev E3:=Int×Int×Int
end
section
open Go Sm
def bel(a b:E3):Bool:=klt (key a) (key b)
abbrev yS(l:List E3):Prop:=l.Pairwise λa b=>bel a b=true
def XV(n:Nat)(f:Nat->Int):List Int:=(List.range (n+1)).map f
def XW(l:List E3)(k:Nat):Nat:=l.countP λx=>decide (x.1<(k:Int))
end
section
open Go Sm
abbrev RG(r:Int):Rg:=⟨ofW,gv r,bS⟩
theorem EK(n:Int):jv n=some (ofW n):=by
 rw [Ci];unfold ofW;by_cases h:n<0
 .simp only [if_pos h]
 .simp only [if_neg h]
theorem rQ(a b:Int×Int):∃c:Int,cS a b=some c/\(c<0↔Cl a b=true):=by
 obtain⟨a1,a2⟩:=a;obtain⟨b1,b2⟩:=b;rw [rj];unfold Cl;simp only;by_cases h2:a1<b1
 .rw [if_pos h2];exact⟨-1,rfl,by simp [h2]⟩
 rw [if_neg h2];by_cases h3:a1=b1
 .rw [if_pos h3];by_cases h4:a2<b2
  .rw [if_pos h4];exact⟨-1,rfl,by simp [h3,h4]⟩
  .rw [if_neg h4];by_cases h5:a1=b1/\a2=b2
   .rw [if_pos h5];exact⟨0,rfl,by simp [h3];omega⟩
   .rw [if_neg h5];exact⟨1,rfl,by simp [h3];omega⟩
 .rw [if_neg h3];by_cases h5:a1=b1/\a2=b2
  .exact absurd h5.1 h3
  .rw [if_neg h5];exact⟨1,rfl,by simp [h3];omega⟩
theorem CM(a b:Int×Int):ie a b=some (HL a b):=by
 obtain⟨a1,a2⟩:=a;obtain⟨b1,b2⟩:=b;rw [Ar];unfold HL jN;simp only;split<;>rfl
theorem yg(b:Bool):ec b=some (rl b):=by rw [uY];unfold rl;cases b<;>rfl
theorem CN(r:Int)(a b:Int×Int):ig r a b=some (gv r a b):=by
 rw [As];unfold gv
 have hl:((cS b a).bind λ(out:Int)=>if out<0 then some b else some a)=some (lD a b):=by
  obtain⟨c,h1,h2⟩:=rQ b a;rw [h1,zbS];unfold lD;by_cases hc:c<0
  .rw [if_pos hc,if_pos (h2.1 hc)]
  .rw [if_neg hc,if_neg (λh=>hc (h2.2 h))]
 simp only [hl,yg,CM,zbS];by_cases h1:r=1
 .simp [h1]
 by_cases h3:r=3
 .simp [h3]
 by_cases h4:r=4
 .simp [h4]
 simp only [if_neg h1,if_neg h3,if_neg (show¬(r=1∨r=3∨r=4)by omega),decide_eq_false h4,zbS,Sum.elim_inl,Bool.false_eq_true,if_false];by_cases h2:r=2
 .simp only [if_pos h2];by_cases ha:a.1=0/\a.2=0
  .by_cases hb:b.1=0/\b.2=0
   .simp [ha,hb]
   .simp [ha,hb]
  .simp [ha]
 .simp only [if_neg h2];split<;>rfl
theorem vP{a:Int×Int}(h:lf a.2):dw a=some (bS a):=by
 obtain⟨a1,a2⟩:=a;rw [tu];unfold bS ofW;simp only [QH h,Prod.mk.injEq,and_true];by_cases hn:IntKind.i64.wrap a2<0
 .have hg:¬IntKind.i64.wrap a2 >= 0:=by omega
  simp only [if_pos hn,if_neg hg];by_cases h1:a1=0
  .have:¬a1= -1:=by omega
   simp only [if_pos h1,if_neg this]
  .simp only [if_neg h1];split<;>rfl
 .have hg:IntKind.i64.wrap a2 >= 0:=by omega
  simp only [if_neg hn,if_pos hg];by_cases h1:a1=0
  .simp only [if_pos h1]
  .simp only [if_neg h1];split<;>rfl
theorem EL(r:Int):ju r=some (je r):=by
 rw [Ch];unfold je;by_cases h1:r >= 1
 .rw [if_pos h1,decide_eq_true (show 1<=r from h1)];simp
 .rw [if_neg h1,decide_eq_false (show¬1<=r from h1)];rfl
end
section
open Go Sm
theorem jh(a b:E3):cO a b=some (bel a b):=by
 rw [lA]
 have hb:bel a b=(decide (a.1<b.1)||(decide (a.1=b.1)&& decide (a.2.1<b.2.1))):=by
  unfold bel klt key;rw [Bool.decide_or,Bool.decide_and]
 rw [hb];by_cases h1:a.1<b.1
 .rw [if_pos h1,decide_eq_true h1];rfl
 .rw [if_neg h1,decide_eq_false h1];by_cases h2:a.1=b.1
  .rw [if_pos h2,decide_eq_true h2];rfl
  .rw [if_neg h2,decide_eq_false h2];rfl
def dE{α:Type}(l:List α)(k:Nat)(y:α):List α:=l.take k++y::l.drop k
theorem Kk{α:Type}{l:List α}{k:Nat}(y:α):(dE l k y).length=l.length+1:=by unfold dE;simp;omega
theorem mL{α:Type}{l:List α}{k:Nat}(hk:k<=l.length)(y:α):(dE l k y)[k]? =some y:=by
 unfold dE;rw [List.getElem?_append_right (by rw [List.length_take];omega),List.length_take,Nat.min_eq_left hk,Nat.sub_self];rfl
theorem jA{α:Type}{l:List α}{k:Nat}(hk:k<=l.length)(y x:α):(dE l k y).set k x=dE l k x:=by
 unfold dE;rw [List.set_append_right _ _ (by rw [List.length_take];omega),List.length_take,Nat.min_eq_left hk,Nat.sub_self];rfl
theorem mM{α:Type}(l:List α)(y:α):dE l l.length y=l++ [y]:=by unfold dE;simp
theorem mN{α:Type}{l:List α}{k:Nat}(hk:k+1<=l.length)(y:α):(dE l (k+1) y)[k]? =some l[k]/\dE l (k+1) l[k]=dE l k l[k]:=by
 unfold dE;constructor
 .rw [List.getElem?_append_left (by simp;omega),List.getElem?_take,if_pos (by omega),List.getElem?_eq_getElem]
 .rw [List.take_succ_eq_append_getElem (by omega),List.append_assoc,List.drop_eq_getElem_cons (i:=k) (by omega)];rfl
theorem Kl{α:Type}{l:List α}{k:Nat}{y x:α}(h:x∈dE l k y):x=y∨x∈l:=by
 unfold dE at h;rcases List.mem_append.1 h with h|h
 .exact .inr (List.mem_of_mem_take h)
 .rcases List.mem_cons.1 h with h|h
  .exact .inl h
  .exact .inr (List.mem_of_mem_drop h)
theorem yU{b:Int×List E3×List (Int×Int)->Option ((Int×List E3×List (Int×Int))⊕((List E3×List (Int×Int))⊕ Empty))}{a:Nat}(hb:b=cZ (a:Int)∨b=de (a:Int)){l:List E3}{s:List (Int×Int)}(hl:s.length=l.length)(hn:l.length<=100000)(ha:a<=l.length)(y:E3)(z:Int×Int):
  ∃y' z',aW b ((l.length:Int),l++ [y],s++ [z])=some (.inl (dE l a y',dE s a z')):=by
 have step:∀(k:Nat) y z,a<k+1->k+1<=l.length->∃y' z',b (((k+1:Nat):Int),dE l (k+1) y,dE s (k+1) z)=some (.inl ((k:Int),dE l k y',dE s k z')):=λk y z h1 hk=>by
  have hks:k+1<=s.length:=by omega
  have e1:=bI (mN hk y).1;have e2:=bI (mL hk y);have e3:=bI (mN hks z).1;have e4:=bI (mL hks z);have hw:IntKind.i64.wrap (((k+1:Nat):Int) - 1)=(k:Int):=by rw [wrap64 (by omega) (by omega)];omega
  have t1:((k+1:Nat):Int).toNat=k+1:=Int.toNat_natCast _;refine⟨l[k],s[k],?_⟩;rw [<-(mN hk y).2,<-(mN hks z).2,<-jA hk y l[k],<-jA hks z s[k]];rcases hb with rfl|rfl
  .simp only [cZ,hw,e1,e2,e3,e4,zbS,t1];rw [if_pos (by omega)]
  .simp only [de,hw,e1,e2,e3,e4,zbS,t1];rw [if_pos (by omega)]
 have stop:∀y z,b ((a:Int),dE l a y,dE s a z)=some (.inr (.inl (dE l a y,dE s a z))):=λy z=>by
  rcases hb with rfl|rfl
  .simp only [cZ];rw [if_neg (by omega)]
  .simp only [de];rw [if_neg (by omega)]
 obtain⟨q,q1,y',z',q2⟩:=mS (b:=b) (l.length - a) (λj st=>∃y z,st=(((l.length - j:Nat):Int),dE l (l.length - j) y,dE s (l.length - j) z)) (λq=>∃y z,q= .inl (dE l a y,dE s a z))
  (by
   rintro j _ hj ⟨y,z,rfl⟩;obtain⟨k,hk⟩:∃k,l.length - j=k+1:=⟨l.length - j - 1,by omega⟩;rw [hk];obtain⟨y',z',e⟩:=step k y z (by omega) (by omega)
   exact .inl ⟨_,e,y',z',by rw [show l.length - (j+1)=k by omega]⟩)
  (by
   rintro _ ⟨y,z,rfl⟩;rw [show l.length - (l.length - a)=a by omega]
   exact⟨_,stop y z,y,z,rfl⟩) 0 (Nat.zero_le _) ((l.length:Int),l++ [y],s++ [z]) ⟨y,z,by rw [Nat.sub_zero,mM,<-hl,mM,hl]⟩
 exact⟨y',z',by rw [q1,q2]⟩
def kz(p:Ky×V):E3:=(p.1.1,p.1.2,0)
def pos(S:List (Ky×V))(e:E3):Nat:=(S.takeWhile λp=>klt p.1 (key e)).length
theorem Km(S:List (Ky×V))(e:E3):pos S e<=S.length:=(List.takeWhile_sublist _).length_le
theorem vQ{p:Ky×V}{S:List (Ky×V)}{e:E3}(hp:klt p.1 (key e)=true):pos (p::S) e=pos S e+1:=by unfold pos;simp [List.takeWhile_cons,hp]
theorem vR{p:Ky×V}{S:List (Ky×V)}{e:E3}(hp:¬klt p.1 (key e)=true):pos (p::S) e=0:=by unfold pos;simp [List.takeWhile_cons,hp]
theorem Kn:∀{S:List (Ky×V)} {e:E3} {j:Nat} (hj:j<S.length),j<pos S e->klt S[j].1 (key e)=true
 | [],e,j,hj,h=>by simp at hj
 |p::S,e,j,hj,h=>by
  by_cases hp:klt p.1 (key e)=true
  .rw [vQ hp]at h
   cases j with
   |zero=>exact hp
   |succ j=>exact Kn (S:=S) (e:=e) (j:=j) (by simpa using hj) (by omega)
  .rw [vR hp]at h;omega
theorem Gx:∀{S:List (Ky×V)} {e:E3} {j:Nat} (hj:j<S.length),j=pos S e->klt S[j].1 (key e)=false
 | [],e,j,hj,h=>by simp at hj
 |p::S,e,j,hj,h=>by
  by_cases hp:klt p.1 (key e)=true
  .rw [vQ hp]at h;subst h;exact Gx (S:=S) (e:=e) (j:=pos S e) (by simpa using hj) rfl
  .rw [vR hp]at h;subst h;simpa using hp
theorem Ko{S:List (Ky×V)}{e:E3}(h:pos S e<S.length):klt (S[pos S e]'h).1 (key e)=false:=Gx h rfl
theorem AR(R:Rg)(e:E3):∀(S:List (Ky×V)),ins R S e=if h:pos S e<S.length then(if klt (key e) (S[pos S e]'h).1=true then dE S (pos S e) (key e,R.o e.2.2)else S.set (pos S e) ((S[pos S e]'h).1,R.ad (S[pos S e]'h).2 (R.o e.2.2)))else S++ [(key e,R.o e.2.2)]
 | []=>by simp [ins,pos]
 |p::S=>by
  have ih:=AR R e S;unfold ins;by_cases hp:klt p.1 (key e)=true
  .have hpos:pos (p::S) e=pos S e+1:=by unfold pos;simp [List.takeWhile_cons,hp]
   rw [if_pos hp,ih];simp only [hpos,List.length_cons,Nat.add_lt_add_iff_right,List.getElem_cons_succ];split
   .split
    .unfold dE;simp
    .simp
   .simp
  .have hpos:pos (p::S) e=0:=by unfold pos;simp [List.takeWhile_cons,hp]
   rw [if_neg hp];simp only [hpos,List.length_cons,Nat.zero_lt_succ,dif_pos,List.getElem_cons_zero];split
   .unfold dE;simp
   .simp
theorem CO{α β:Type}(f:α->β)(l:List α)(k:Nat)(y:α):(dE l k y).map f=dE (l.map f) k (f y):=by unfold dE;simp
theorem AS(R:Rg)(l:List E3):(fk R l).length<=l.length:=by
 have key:∀(S:List (Ky×V)) e,(ins R S e).length<=S.length+1:=by
  intro S e;rw [AR];split
  .split
   .rw [Kk];omega
   .simp
  .simp
 have:∀(l:List E3) (S:List (Ky×V)),(l.foldl (ins R) S).length<=S.length+l.length:=by
  intro l
  induction l with
  |nil=>intro S;simp
  |cons e l ih=>intro S;have h1:=ih (ins R S e);have h2:=key S e;simp only [List.foldl_cons,List.length_cons];omega
 simpa [fk]using this l []
theorem Rf{r:Int}{S:List (Ky×V)}{e:E3}(h:∀p∈S,lf p.2.2):∀p∈ins (RG r) S e,lf p.2.2:=by
 intro p hp;rw [AR]at hp;split at hp
 .rename_i hl;split at hp
  .rcases Kl hp with rfl|hp
   .exact Er _
   .exact h p hp
  .rcases List.mem_or_eq_of_mem_set hp with hp|rfl
   .exact h p hp
   .exact Es (h _ (List.getElem_mem hl)) (Er _)
 .rcases List.mem_append.1 hp with hp|hp
  .exact h p hp
  .simp at hp;subst hp;exact Er _
theorem Rh(r:Int)(l:List E3):∀p∈fk (RG r) l,lf p.2.2:=by
 have:∀(l:List E3) (S:List (Ky×V)),(∀p∈S,lf p.2.2)->∀p∈l.foldl (ins (RG r)) S,lf p.2.2:=by
  intro l
  induction l with
  |nil=>intro S h;exact h
  |cons e l ih=>intro S h;exact ih _ (Rf h)
 exact this l [] (by simp)
theorem Nk{x:Sl E3}{S:List (Ky×V)}{w:List (Int×Int)}{i:Nat}(hs:okS 3 x)(hi:i<x.l.length)(hn:S.length<=100000):aW (cY x (S.map kz,w,(i:Int))) 0=some (.inl ((pos S x.l[i]:Nat):Int)):=by
 have ei:=eU hs hi;have hb:∀j (hj:j<S.length),bel (kz S[j]) x.l[i]=klt S[j].1 (key x.l[i]):=λj hj=>rfl;refine fB (pos S x.l[i]) (λj=>(j:Int)) rfl (λj hj=> ?_) ?_
 .have hjl:j<S.length:=Nat.lt_of_lt_of_le hj (Km _ _);have ej:atL (S.map kz) (j:Int)=some (kz S[j]):=bI (by simp [hjl]);simp only [cY,ej,ei,zbS,jh,hb j hjl,Kn hjl hj,if_true,List.length_map,ew hjl (by omega)];rw [if_pos (by omega)]
 .by_cases hl:pos S x.l[i]<S.length
  .have ej:atL (S.map kz) ((pos S x.l[i]:Nat):Int)=some (kz S[pos S x.l[i]]):=bI (by simp [hl]);simp only [cY,ej,ei,zbS,jh,hb _ hl,Ko hl,List.length_map];rw [if_pos (by omega),if_neg (by simp)]
  .simp only [cY,List.length_map];rw [if_neg (by omega)]
theorem AU{r:Int}{x:Sl E3}(hs:okS 3 x)(hn:x.l.length<=65536):aW (eH r x) ([],[],0)=some (.inl ((fk (RG r) x.l).map kz,(fk (RG r) x.l).map (·.2))):=by
 refine fB x.l.length (λj=>((fk (RG r) (x.l.take j)).map kz,(fk (RG r) (x.l.take j)).map (·.2),(j:Int))) (by simp [fk]) (λj hj=> ?_) ?_
 .have hlen:=AS (RG r) (x.l.take j);have hlj:(x.l.take j).length<=65536:=by simp;omega
  rw [List.take_succ_eq_append_getElem hj,yH];generalize fk (RG r) (x.l.take j)=S at hlen ⊢;have hf:=Nk (S:=S) (w:=S.map (·.2)) hs hj (by omega);have ej:=eU hs hj;have hp:=Km S x.l[j];have hat:= @Ko S x.l[j];have hi:=AR (RG r) x.l[j] S;generalize hA:pos S x.l[j]=a at hf hp hat hi;generalize x.l[j]=e at ej hf hat hi;have ap1:app (S.map kz) [((0:Int),(0:Int),(0:Int))]=some (S.map kz++ [(0,0,0)]):=fZ (by simp;unfold bU;omega);have ap2:app (S.map (·.2)) [((0:Int),(0:Int))]=some (S.map (·.2)++ [(0,0)]):=fZ (by simp;unfold bU;omega);have hw1:IntKind.i64.wrap ((((S.map kz++ [((0:Int),(0:Int),(0:Int))]).length:Nat):Int) - 1)=((S.map kz).length:Int):=by simp only [List.length_append,List.length_map,List.length_cons,List.length_nil];rw [wrap64 (by omega) (by omega)];omega
  have ta:((a:Nat):Int).toNat=a:=Int.toNat_natCast _;have hl2:(S.map (·.2)).length=(S.map kz).length:=by simp
  have hak:a<=(S.map kz).length:=by simpa using hp
  have has:a<=(S.map (·.2)).length:=by simpa using hp
  obtain⟨y2,z2,sh2⟩:=yU (b:=cZ (a:Int)) (.inl rfl) hl2 (by simp;omega) hak (0,0,0) (0,0);obtain⟨y3,z3,sh3⟩:=yU (b:=de (a:Int)) (.inr rfl) hl2 (by simp;omega) hak (0,0,0) (0,0);have i2:=bI (mL hak y2);have j2:=bI (mL has z2);have i3:=bI (mL hak y3);have j3:=bI (mL has z3);have hne:∀{α:Type} (l:List α) k y,neL (dE l k y)=some ():=λl k y=>LU (by unfold dE;simp);simp only [eH,hf,zbS,Sum.elim_inl,ej,EK,List.length_map];rw [if_pos (by omega)];by_cases hl:a<S.length
  .rw [if_pos (by omega)];have e1:atL (S.map kz) (a:Int)=some (kz S[a]):=bI (by simp [hl]);have e2:atL (S.map (·.2)) (a:Int)=some S[a].2:=bI (by simp [hl]);have hk:bel e (kz S[a])=klt (key e) S[a].1:=rfl;simp only [e1,e2,zbS,jh,hk,CN,ap1,ap2,hw1,sh2,Sum.elim_inl,i2,j2,ta,jA hak,jA has,hne,ew hj (by omega)];rw [dif_pos hl]at hi;by_cases hc:klt (key e) S[a].1=true
   .rw [if_pos hc]at hi;rw [if_neg (by simp [hc]),hi,CO,CO];rfl
   .rw [if_neg hc]at hi;rw [if_pos (by simpa using hc)]
    (try rw [if_neg (show¬S.length=0 by omega)])
    rw [hi,List.map_set,List.map_set]
    have:(S.map kz).set a (kz (S[a].1,(RG r).ad S[a].2 ((RG r).o e.2.2)))=S.map kz:=by
     have hk2:kz (S[a].1,(RG r).ad S[a].2 ((RG r).o e.2.2))=(S.map kz)[a]'(by simpa using hl):=by simp [kz]
     rw [hk2,List.set_getElem_self]
    rw [this]
  .rw [if_neg (by omega)];rw [dif_neg hl]at hi;have hae:a=S.length:=by omega
   simp only [zbS,ap1,ap2,hw1,sh3,Sum.elim_inl,i3,j3,ta,jA hak,jA has,hne,ew hj (by omega)];rw [hi,hae]
   have q1:dE (S.map kz) S.length (e.1,e.2.1,(0:Int))=S.map kz++ [(e.1,e.2.1,0)]:=by
    have:=mM (S.map kz) (e.1,e.2.1,(0:Int));rwa [List.length_map]at this
   have q2:dE (S.map (·.2)) S.length (ofW e.2.2)=S.map (·.2)++ [ofW e.2.2]:=by
    have:=mM (S.map (·.2)) (ofW e.2.2);rwa [List.length_map]at this
   rw [q1,q2];simp [kz,key]
 .simp only [eH,List.take_length];rw [if_neg (by omega)]
theorem tY{r:Int}{x:Sl E3}(hs:okS 3 x)(hn:x.l.length<=65536)(hr:je r=true):dO r x=some (mo 3 (cI (RG r) x.l).1,(cI (RG r) x.l).2):=by
 rw [rk,EL,hr];simp only [zbS,not_true_eq_false,if_false];rw [AU hs hn];simp only [zbS,Sum.elim_inl];have hlen:=AS (RG r) x.l;have hlo:=Rh r x.l;unfold cI;generalize fk (RG r) x.l=S at hlen hlo ⊢
 obtain⟨q,q1,q2⟩:=mS (b:=eI (S.map kz,S.map (·.2))) S.length (λj st=>st=((S.take j).map (toE (RG r))++(S.drop j).map kz,(j:Int))/\∀p∈S.take j,(bS p.2).2=true) (λq=>(S.all (λp=>(bS p.2).2)=true/\q= .inl (S.map (toE (RG r))))∨(S.all (λp=>(bS p.2).2)=false/\q= .inr (.inl ([],12))))
  (by
   rintro j _ hj ⟨rfl,ha⟩;have e2:atL (S.map (·.2)) (j:Int)=some S[j].2:=bI (by simp [hj]);have hln:((S.take j).map (toE (RG r))++(S.drop j).map kz).length=S.length:=by simp;omega
   have e1:atL ((S.take j).map (toE (RG r))++(S.drop j).map kz) (j:Int)=some (kz S[j]):=bI (by
    rw [List.getElem?_append_right (by simp;omega)]
    simp [List.getElem?_drop,show min j S.length=j by omega,hj])
   have hN:dw S[j].2=some (bS S[j].2):=vP (hlo _ (List.getElem_mem hj));simp only [eI,hln,e2,zbS,hN,e1,ew hj (by omega),Int.toNat_natCast];rw [if_pos (by omega)];by_cases hc:(bS S[j].2).2=true
   .rw [if_neg (by simpa using hc)];refine .inl ⟨_,rfl,?_,?_⟩
    .rw [Prod.mk.injEq];refine⟨?_,rfl⟩;rw [List.take_succ_eq_append_getElem hj,List.set_append_right _ _ (by simp;omega)];simp only [List.length_map,List.length_take,show min j S.length=j by omega,Nat.sub_self,List.map_append,List.map_cons,List.map_nil];rw [List.drop_eq_getElem_cons hj,List.map_cons,List.set_cons_zero,List.append_assoc];simp [toE,kz]
    .intro p hp;rw [List.take_succ_eq_append_getElem hj]at hp;rcases List.mem_append.1 hp with hp|hp
     .exact ha p hp
     .simp at hp;subst hp;exact hc
   .rw [if_pos (by simpa using hc)];refine .inr ⟨_,rfl,.inr ⟨?_,rfl⟩⟩;rw [Bool.eq_false_iff];intro hh
    exact hc (List.all_eq_true.1 hh _ (List.getElem_mem hj)))
  (by
   rintro _ ⟨rfl,ha⟩;simp only [eI,List.take_length,List.drop_length,List.map_nil,List.append_nil,List.length_map];rw [List.take_length]at ha;rw [if_neg (by omega)]
   exact⟨_,rfl,.inl ⟨List.all_eq_true.2 ha,rfl⟩⟩) 0 (Nat.zero_le _) (S.map kz,0) ⟨by simp,by simp⟩
 rw [q1];rcases q2 with⟨h,rfl⟩|⟨h,rfl⟩
 .rw [if_pos h];rfl
 .rw [if_neg (by rw [h];simp)];rfl
end
section
open Go Sm
theorem risL_iff:∀{l:List E3},gD l=true↔yS l
 | []=>by simp [gD,yS]
 | [a]=>by simp [gD,yS]
 |a::b::r=>by
  rw [vc,Bool.and_eq_true,risL_iff];constructor
  .rintro⟨h1,h2⟩;refine List.pairwise_cons.2 ⟨λy hy=> ?_,h2⟩;rcases List.mem_cons.1 hy with rfl|hy
   .exact h1
   .exact rd h1 ((List.pairwise_cons.1 h2).1 y hy)
  .intro h;obtain⟨h1,h2⟩:=List.pairwise_cons.1 h;exact⟨h1 b (by simp),h2⟩
theorem rR{n:Int}(h:lC n):bS (ofW n)=(n,true):=by
 unfold bS
 have e:IntKind.i64.wrap (ofW n).2=n:=by
  unfold ofW;simp only;rw [wrap_u64,IntKind.wrap_i64];unfold lC at h;omega
 rw [e,if_pos rfl]
def w64(l:List E3):Prop:=∀x∈l,lC x.1/\lC x.2.1/\lC x.2.2
theorem EM{r:Int}{l:List E3}(h:yS l)(hw:∀x∈l,lC x.2.2):cI (RG r) l=(l,0):=by
 have hc:=Cb (RG r) l h
 have ha:(fk (RG r) l).all (λp=>((RG r).na p.2).2)=true:=by
  rw [hc,List.all_eq_true];intro p hp;obtain⟨e,he,rfl⟩:=List.mem_map.1 hp;show(bS (ofW e.2.2)).2=true;rw [rR (hw e he)]
 unfold cI;rw [if_pos ha,hc,List.map_map]
 have:l.map (toE (RG r)∘ λe=>(key e,(RG r).o e.2.2))=l:=by
  refine(List.map_congr_left (g:=id) λe he=> ?_).trans (List.map_id l);show(e.1,e.2.1,(bS (ofW e.2.2)).1)=e;rw [rR (hw e he)]
 rw [this]
theorem CP{r:Int}{l:List E3}:yS (cI (RG r) l).1/\(cI (RG r) l).1.length<=l.length/\(∀x∈(cI (RG r) l).1,lC x.2.2/\∃y∈l,y.1=x.1/\y.2.1=x.2.1)/\((cI (RG r) l).2=0∨cI (RG r) l=([],12)):=by
 unfold cI;split
 .refine⟨?_,by rw [List.length_map];exact AS _ _,λx hx=> ?_,.inl rfl⟩
  .show((fk (RG r) l).map (toE (RG r))).Pairwise _;rw [List.pairwise_map];exact(jL (RG r) l).1
  .obtain⟨p,hp,rfl⟩:=List.mem_map.1 hx;refine⟨?_,?_⟩
   .show lC (bS p.2).1;unfold bS;split
    .exact Ck _
    .unfold lC;omega
   .obtain⟨e,he,hk⟩:=Ao (((jL (RG r) l).2 p.1 p.2).1 hp);have h1:=congrArg Prod.fst hk;have h2:=congrArg Prod.snd hk;exact⟨e,he,h1,h2⟩
 .exact⟨List.Pairwise.nil,Nat.zero_le _,by simp,.inr rfl⟩
def inM(n c:Int)(x:E3):Bool:=decide (0<=x.1/\x.1<n/\0<=x.2.1/\x.2.1<c)
theorem SX{α:Type}{p:α->Bool}{l:List α}{j:Nat}(hj:j<l.length)(h:p l[j]=false):l.all p=false:=by
 rw [Bool.eq_false_iff];intro ha;rw [List.all_eq_true.1 ha _ (List.getElem_mem hj)]at h;cases h
end
section
open Go Sm
theorem EO{α:Type}[DecidableEq α]{x y:Sl α}(hl:x.l.length<=9223372036854775806){w:Nat}(hx:okS w x)(hy:okS w y){b:Int->Option (Int ⊕ PUnit ⊕ Bool ⊕ Empty)}
  (hb:∀a,b a=if a<(x.l.length:Int)then(atS w x a).bind λu=>(atS w y a).bind λv=>if u≠v then some (.inr (.inr (.inl false)))else some (.inl (IntKind.i64.wrap (a+1)))else some (.inr (.inl ()))):
  (if(x.l.length:Int)≠(y.l.length:Int)then some false else(aW b 0).bind λ(y:PUnit ⊕ Bool ⊕ Empty)=>Sum.elim (λ_=>some true) (λv=>Sum.elim (λv=>some v) (λv=>nE v) v) y)=some (decide (x.l=y.l)):=by
 by_cases h:x.l.length=y.l.length
 .rw [if_neg (by omega)]
  rw [Ip h (b:=b) (λj hj=>by
   rw [hb,if_pos (by omega),yR hx (List.getElem?_eq_getElem hj),yR hy (List.getElem?_eq_getElem (by omega))];simp only [zbS];by_cases he:x.l[j]=y.l[j]
   .rw [if_neg (by simp [he]),if_pos he,ew hj (by omega)]
   .rw [if_pos he,if_neg he]) (λj hj=>by rw [hb,if_neg (by omega)])]
  by_cases he:x.l=y.l
  .simp [he]
  .simp [he]
 .rw [if_pos (by omega),decide_eq_false];exact λhe=>h (by rw [he])
end
section
open Go Sm
structure Is(m:Mx)(n c:Int)(l:List E3):Prop where
 hn:0<=n/\n<=4096
 hc:0<=c/\c<=4096
 len:l.length<=65536
 r:yS l
 p:∀x∈l,(0<=x.1/\x.1<n)/\0<=x.2.1/\x.2.1<c
 v:∀x∈l,lC x.2.2
 e1:m.1=n
 e2:m.2.1=c
 e3:m.2.2.1.l=XV n.toNat λk=>((XW l k:Nat):Int)
 e4:m.2.2.2.1.l=l.map (·.2.1)
 e5:m.2.2.2.2.l=l.map (·.2.2)
 o3:okS 1 m.2.2.1
 o4:okS 1 m.2.2.2.1
 o5:okS 1 m.2.2.2.2
section
variable {m : Mx} {n c : Int} {l : List E3}
end
end
section
open Go Sm
end
section
open Go Sm
section
variable {m : Mx} {n c : Int} {l : List E3}
end
end
section
open Go Sm
section
variable {m : Mx}
end
end
section
open Go Sm
abbrev Cx:=Int×Int×Sl Int×Sl Int×Sl Int×Sl Int
section
variable {T : List E3}
end
section
variable {c : Cx} {n k : Int} {T : List E3}
end
section
variable {c : Cx}
end
end
section
open Go Sm
section
variable {m : Mx} {n c : Int} {l : List E3}
end
end
section
open Go Sm
section
variable {m : Mx} {n c : Int} {l : List E3}
end
end
section
open Go Sm
section
variable {c : Cx} {n k : Int} {T : List E3}
theorem getD_some{l:List Int}{i:Nat}{x:Int}(h:l[i]? =some x):l.getD i 0=x:=by rw [List.getD_eq_getElem?_getD,h];rfl
end
end
section
open Go Sm
section
variable {m : Mx} {n k : Int} {l T : List E3} {c : Cx}
end
end
section
open Go Sm
section
variable {m : Mx} {n c : Int} {l : List E3}
end
end
section
open Go Sm
theorem yV{α:Type}[DecidableEq α]{x y:Sl α}(hl:x.l.length<=9223372036854775806){w:Nat}(hx:okS w x)(hy:okS w y){b:Int->Option (Int ⊕ PUnit ⊕ Bool ⊕ Empty)}{P:α->α->Prop}[∀u v,Decidable (P u v)](hP:∀u v,P u v↔u=v)
  (hb:∀a,b a=if a<(x.l.length:Int)then(atS w x a).bind λu=>(atS w y a).bind λv=>if¬P u v then some (.inr (.inr (.inl false)))else some (.inl (IntKind.i64.wrap (a+1)))else some (.inr (.inl ()))):
  (if(x.l.length:Int)≠(y.l.length:Int)then some false else(aW b 0).bind λ(y:PUnit ⊕ Bool ⊕ Empty)=>Sum.elim (λ_=>some true) (λv=>Sum.elim (λv=>some v) (λv=>nE v) v) y)=some (decide (x.l=y.l)):=by
 refine EO hl hx hy λa=> ?_;rw [hb];by_cases h:a<(x.l.length:Int)
 .rw [if_pos h,if_pos h]
  cases atS w x a with
  |none=>rfl
  |some u=>
   cases atS w y a with
   |none=>rfl
   |some v=>
    simp only [zbS];by_cases he:u=v
    .rw [if_neg (λhh=>hh ((hP u v).2 he)),if_neg (λhh=>hh he)]
    .rw [if_pos (λhh=>he ((hP u v).1 hh)),if_pos he]
 .rw [if_neg h,if_neg h]
section
variable {m m' : Mx} {n c : Int} {l : List E3}
end
end
section
open Go Sm
section
variable {m : Mx} {n k : Int} {l T : List E3} {c : Cx}
end
end
section
open Go Sm
section
variable {m a : Mx} {n k : Int} {l T : List E3} {c q : Cx}
end
end
section
open Go Sm
abbrev Gr:=Int×Sl E3
theorem ma{l:List E3}(p:E3->Bool)(v:Nat->Int){b:Int->Option (Int ⊕ PUnit ⊕ Int ⊕ Empty)}(h1:∀j:Nat,(h:j<l.length)->b j=some (if p l[j]=true then .inl ((j+1:Nat):Int)else .inr (.inr (.inl (v j)))))(h2:b (l.length:Nat)=some (.inr (.inl ()))):
  (l.all p=true/\aW b 0=some (.inl ()))∨(l.all p=false/\∃j,aW b 0=some (.inr (.inl (v j)))):=by
 obtain⟨q,q1,q2⟩:=mS (b:=b) l.length (λj a=>a=(j:Int)/\(l.take j).all p=true) (λq=>(l.all p=true/\q= .inl ())∨(l.all p=false/\∃j,q= .inr (.inl (v j))))
  (by
   rintro j _ hj ⟨rfl,g⟩;rw [h1 j hj];by_cases hp:p l[j]=true
   .refine .inl ⟨_,by rw [if_pos hp],rfl,?_⟩;rw [List.take_succ_eq_append_getElem hj,List.all_append,g];simp [hp]
   .refine .inr ⟨_,by rw [if_neg hp],.inr ⟨SX hj (by simpa using hp),j,rfl⟩⟩)
  (by
   rintro _ ⟨rfl,g⟩;rw [List.take_length]at g
   exact⟨_,h2,.inl ⟨g,rfl⟩⟩) 0 (Nat.zero_le _) 0 ⟨rfl,rfl⟩
 rw [q1];rcases q2 with⟨a,rfl⟩|⟨a,j,rfl⟩
 .exact .inl ⟨a,rfl⟩
 .exact .inr ⟨a,j,rfl⟩
def wOk(x:E3):Bool:=decide (0<=x.2.2/\x.2.2<=2147483647)
def fq(g:Gr):Int:=if g.1<0 then 3 else if g.1>4096 then 5 else if g.2.l.length>65536 then 5 else if g.2.l.all (inM g.1 g.1)=true then if g.2.l.all wOk=true then 0 else 7 else 3
theorem Kp(x y:Int):dC x y=some (decide (0<=y/\y<x)):=by
 rw [tW];by_cases h:y >= 0
 .rw [if_pos h];by_cases h2:y<x
  .rw [decide_eq_true h2,decide_eq_true ⟨h,h2⟩]
  .rw [decide_eq_false h2,decide_eq_false λhh=>h2 hh.2]
 .rw [if_neg h,decide_eq_false λhh=>h hh.1]
section
variable {g : Gr}
theorem Iq(hs:okS 3 g.2)(hl:g.2.l.length<=65536)(j:Nat)(hj:j<g.2.l.length):fP g (j:Int)=some (if inM g.1 g.1 g.2.l[j]=true then .inl ((j+1:Nat):Int)else .inr (.inr (.inl (j:Int)))):=by
 have e:=eU hs hj;simp only [fP,e,zbS,ew hj (by omega),Kp];rw [if_pos (by omega)];unfold inM;simp only [decide_eq_true_eq];by_cases h1:0<=g.2.l[j].1/\g.2.l[j].1<g.1
 .rw [if_neg (λh=>h h1)];by_cases h2:0<=g.2.l[j].2.1/\g.2.l[j].2.1<g.1
  .rw [if_neg (λh=>h h2),if_pos ⟨h1.1,h1.2,h2.1,h2.2⟩]
  .rw [if_pos h2,if_neg (λh=>h2 ⟨h.2.2.1,h.2.2.2⟩)]
 .rw [if_pos h1,if_neg (λh=>h1 ⟨h.1,h.2.1⟩)]
theorem Nl(hs:okS 3 g.2)(hl:g.2.l.length<=65536)(j:Nat)(hj:j<g.2.l.length):fQ g (j:Int)=some (if wOk g.2.l[j]=true then .inl ((j+1:Nat):Int)else .inr (.inr (.inl (j:Int)))):=by
 have e:=eU hs hj;simp only [fQ,e,zbS,ew hj (by omega)];rw [if_pos (by omega)];unfold wOk;simp only [decide_eq_true_eq];by_cases h1:g.2.l[j].2.2<0
 .rw [if_pos h1,if_neg (by omega)]
 .by_cases h2:g.2.l[j].2.2>2147483647
  .rw [if_neg h1,if_pos h2,if_neg (by omega)]
  .rw [if_neg h1,if_neg h2,if_pos (by omega)]
theorem Kq(hs:okS 3 g.2)(hl:g.2.l.length<=65536)(j:Nat)(hj:j<g.2.l.length):fR g (j:Int)=some (if inM g.1 g.1 g.2.l[j]=true then .inl ((j+1:Nat):Int)else .inr (.inr (.inl 3))):=by
 have e:=eU hs hj;simp only [fR,e,zbS,ew hj (by omega)];rw [if_pos (by omega)];unfold inM;simp only [decide_eq_true_eq];by_cases h1:g.2.l[j].1<0
 .rw [if_pos h1,if_neg (by omega)]
 by_cases h2:g.2.l[j].1 >= g.1
 .rw [if_neg h1,if_pos h2,if_neg (by omega)]
 by_cases h3:g.2.l[j].2.1<0
 .rw [if_neg h1,if_neg h2,if_pos h3,if_neg (by omega)]
 by_cases h4:g.2.l[j].2.1 >= g.1
 .rw [if_neg h1,if_neg h2,if_neg h3,if_pos h4,if_neg (by omega)]
 .rw [if_neg h1,if_neg h2,if_neg h3,if_neg h4,if_pos (by omega)]
theorem Ri(hs:okS 3 g.2)(hl:g.2.l.length<=65536)(j:Nat)(hj:j<g.2.l.length):fS g (j:Int)=some (if wOk g.2.l[j]=true then .inl ((j+1:Nat):Int)else .inr (.inr (.inl 7))):=by
 have e:=eU hs hj;simp only [fS,e,zbS,ew hj (by omega)];rw [if_pos (by omega)];unfold wOk;simp only [decide_eq_true_eq];by_cases h1:g.2.l[j].2.2<0
 .rw [if_pos h1,if_neg (by omega)]
 .by_cases h2:g.2.l[j].2.2>2147483647
  .rw [if_neg h1,if_pos h2,if_neg (by omega)]
  .rw [if_neg h1,if_neg h2,if_pos (by omega)]
theorem yh(hs:okS 3 g.2):fw g=some (fq g):=by
 rw [vK];unfold fq;by_cases h1:g.1<0
 .rw [if_pos h1,if_pos h1]
 by_cases h2:g.1>4096
 .rw [if_neg h1,if_pos h2,if_neg h1,if_pos h2]
 by_cases h3:g.2.l.length>65536
 .rw [if_neg h1,if_neg h2,if_pos (by omega),if_neg h1,if_neg h2,if_pos h3]
 rw [if_neg h1,if_neg h2,if_neg (by omega),if_neg h1,if_neg h2,if_neg h3];rcases ma (l:=g.2.l) (inM g.1 g.1) (λj=>(j:Int)) (Iq hs (by omega)) (by simp only [fP];rw [if_neg (by omega)])with⟨a,q⟩|⟨a,j,q⟩
 .rw [q,if_pos a];simp only [zbS,Sum.elim_inl];rcases ma (l:=g.2.l) wOk (λj=>(j:Int)) (Nl hs (by omega)) (by simp only [fQ];rw [if_neg (by omega)])with⟨a,q⟩|⟨a,j,q⟩
  .rw [q,if_pos a];rfl
  .rw [q,if_neg (by rw [a];simp)];simp only [zbS,Sum.elim_inl,Sum.elim_inr];rw [if_pos (by omega)]
 .rw [q,if_neg (by rw [a];simp)];simp only [zbS,Sum.elim_inl,Sum.elim_inr];rw [if_pos (by omega)]
theorem nO(hs:okS 3 g.2):em g=some (fq g):=by
 rw [vM];unfold fq;by_cases h1:g.1<0
 .rw [if_pos h1,if_pos h1]
 by_cases h2:g.1>4096
 .rw [if_neg h1,if_pos h2,if_neg h1,if_pos h2]
 by_cases h3:g.2.l.length>65536
 .rw [if_neg h1,if_neg h2,if_pos (by omega),if_neg h1,if_neg h2,if_pos h3]
 rw [if_neg h1,if_neg h2,if_neg (by omega),if_neg h1,if_neg h2,if_neg h3];rcases ma (l:=g.2.l) (inM g.1 g.1) (λ_=>3) (Kq hs (by omega)) (by simp only [fR];rw [if_neg (by omega)])with⟨a,q⟩|⟨a,j,q⟩
 .rw [q,if_pos a];simp only [zbS,Sum.elim_inl];rcases ma (l:=g.2.l) wOk (λ_=>7) (Ri hs (by omega)) (by simp only [fS];rw [if_neg (by omega)])with⟨a,q⟩|⟨a,j,q⟩
  .rw [q,if_pos a];rfl
  .rw [q,if_neg (by rw [a];simp)];rfl
 .rw [q,if_neg (by rw [a];simp)];rfl
def XX(g:Gr):List E3:=(cI (RG 1) g.2.l).1
theorem yi(hs:okS 3 g.2)(h:g.2.l.length<=65536):dr g=some (g.1,mo 3 (XX g)):=by
 rw [uZ,tY hs h (by decide)];rfl
end
end
section
open Go Sm
section
variable {n : Int} {l : List E3}
theorem Kr{l:List E3}:∀{f:Ky->Option V} {k:Ky} {z:V},l.foldl (Sm.upd (RG 1)) f k=some z->(∃e∈l,key e=k/\z=ofW e.2.2)∨f k=some z:=by
 induction l with
 |nil=>exact λh=> .inr h
 |cons e l ih=>
  intro f k z h;rcases ih (f:=Sm.upd (RG 1) f e) h with⟨e',h1,h2⟩|h2
  .exact .inl ⟨e',List.mem_cons_of_mem _ h1,h2⟩
  .unfold Sm.upd at h2;by_cases hk:k=key e
   .rw [if_pos hk]at h2
    cases hf:f (key e)with
    |none=>
     rw [hf]at h2;exact .inl ⟨e,by simp,hk.symm,(Option.some.inj h2).symm⟩
    |some s=>
     rw [hf]at h2;have h3:lD s (ofW e.2.2)=z:=Option.some.inj h2;unfold lD at h3;split at h3
     .exact .inl ⟨e,by simp,hk.symm,h3.symm⟩
     .right;rw [hk,hf,h3]
   .rw [if_neg hk]at h2;exact .inr h2
theorem CQ{l:List E3}(hw:w64 l){x:E3}(hx:x∈(cI (RG 1) l).1):x∈l:=by
 unfold cI at hx;split at hx
 .obtain⟨p,hp,rfl⟩:=List.mem_map.1 hx;have h:=((jL (RG 1) l).2 p.1 p.2).1 hp;rcases Kr h with⟨e,h1,h2,h3⟩|h1
  .have hv:=(hw e h1).2.2
   have:toE (RG 1) p=e:=by
    unfold toE;rw [<-h2,h3];show(e.1,e.2.1,(bS (ofW e.2.2)).1)=e;rw [rR hv]
   rw [this];exact h1
  .simp at h1
 .simp at hx
end
end
section
open Go Sm
end
section
open Go Sm
end
end Ev
end
noncomputable section
namespace Ev
open Go Sm
def bts(x:Int)(k:Nat):List Int:=(List.range k).map λi=>x / 256 ^ i % 256
theorem cq(x:Int)(k:Nat):(bts x k).length=k:=by simp [bts]
theorem CR(x:Int)(k:Nat):bts x (k+1)=bts x k++ [x / 256 ^ k % 256]:=by simp [bts,List.range_succ]
theorem qh{x:Int}{k:Nat}{y:Int}(h:y∈bts x k):0<=y/\y<=255:=by
 simp only [bts,List.mem_map]at h;obtain⟨i,_,rfl⟩:=h;omega
theorem CS{b:Int×List Int->Option (Int×List Int ⊕ List Int ⊕ Empty)}{x:Int}{k:Nat}
  (hb:∀(i:Nat) (L:List Int),i<k->L.length=k->b ((i:Int),L)=some (.inl (((i+1:Nat):Int),L.set i (x / 256 ^ i % 256))))
  (he:∀L,b ((k:Int),L)=some (.inr (.inl L))):aW b (0,List.replicate k 0)=some (.inl (bts x k)):=by
 refine fB k (λi=>((i:Int),bts x i++List.replicate (k - i) 0)) (by simp [bts]) (λi hi=> ?_) ?_
 .rw [hb i _ hi (by simp [cq];omega)];congr 3;rw [CR];obtain⟨d,rfl⟩:∃d,k=i+1+d:=⟨k - (i+1),by omega⟩;rw [show i+1+d - i=d+1 by omega,show i+1+d - (i+1)=d by omega,List.replicate_succ,List.set_append_right _ _ (by rw [cq];exact Nat.le_refl _),cq,Nat.sub_self,List.set_cons_zero,List.append_assoc];rfl
 .rw [Nat.sub_self,List.replicate_zero,List.append_nil,he]
theorem Ks(i:Nat)(h:i<8):IntKind.u64.wrap (IntKind.i64.wrap (8*(i:Int)))=((8*i:Nat):Int):=by
 rw [wrap64 (by omega) (by omega),wrap_u64];omega
theorem CT{k:IntKind}{x:Int}{i:Nat}(h:8*i<=k.bits):Bg k x ((8*i:Nat):Int)=some (x / 256 ^ i):=by
 unfold Bg NK;rw [if_pos (by omega),Int.toNat_natCast,Nat.min_eq_left h,Int.fdiv_eq_ediv_of_nonneg _ (Int.le_of_lt (Int.pow_pos (by decide))),Int.pow_mul];rfl
theorem Gy(n:Int):IntKind.u8.wrap n=n % 256:=by
 simp [IntKind.wrap,IntKind.signed,IntKind.bits]
theorem CU{n:Int}(h:0<=n/\n<4294967296):IntKind.u32.wrap n=n:=by
 have:IntKind.u32.wrap n=n % 4294967296:=by simp [IntKind.wrap,IntKind.signed,IntKind.bits]
 rw [this,Int.emod_eq_of_lt h.1 h.2]
theorem Nm(x:Int):fx x=some (bts x 4):=by
 rw [vL,nm,wq];have h1:wo 4=some ():=rfl;rw [h1];simp only [zbS]
 have q:=CS (b:=cV x 4) (x:=x) (k:=4) (λi L hi hL=>by
  simp only [cV];rw [if_pos (by simp;omega),Ks i (by omega),CT (by show 8*i<=32;omega),bI (List.getElem?_eq_getElem (by omega))];simp only [zbS];rw [wrap64 (by omega) (by omega),Gy]
  rfl) (λL=>by
  simp only [cV]
  rw [if_neg (by simp)])
 rw [show Int.toNat 4=4 from rfl,q];rfl
theorem Rj{x:Int}(h:0<=x/\x<256):gh x=some [x]:=by
 rw [yd,oO,wq];have h1:wo 1=some ():=rfl;rw [h1];simp only [zbS]
 have q:=CS (b:=dD x 1) (x:=x) (k:=1) (λi L hi hL=>by
  obtain rfl:i=0:=by omega
  simp only [dD];rw [if_pos (by simp),Ks 0 (by omega),CT (by show 8*0<=8;omega),bI (List.getElem?_eq_getElem (by omega))];simp only [zbS];rw [wrap64 (by omega) (by omega)];rw [show x / 256 ^ 0 % 256=x / 256 ^ 0 by rw [Int.pow_zero,Int.ediv_one];omega]
  rfl) (λL=>by
  simp only [dD]
  rw [if_neg (by simp)])
 rw [show Int.toNat 1=1 from rfl,q];simp only [zbS,Sum.elim_inl];simp [bts];omega
def b4s(l:List Int):List Int:=l.flatMap λn=>bts n 4
theorem mO(l:List Int):(b4s l).length=4*l.length:=by
 induction l with
 |nil=>rfl
 |cons a r ih=>simp only [b4s,List.flatMap_cons,List.length_append,cq,List.length_cons]at*;omega
theorem Kt{s:Sl Int}(hs:okS 1 s)(hl:s.l.length<=1000)(h:∀y∈s.l,0<=y/\y<4294967296):eh s=some (b4s s.l):=by
 rw [ye]
 have q:aW (gw s) ([],0)=some (.inl (b4s s.l)):=by
  rw [show b4s s.l=b4s (s.l.take s.l.length)by rw [List.take_length]];refine fB s.l.length (λi=>(b4s (s.l.take i),(i:Int))) (by simp [b4s]) (λi hi=> ?_) ?_
  .simp only [gw];rw [if_pos (by omega),eU hs hi];simp only [zbS];rw [CU (h _ (List.getElem_mem hi)),Nm];simp only [zbS];rw [fZ (by rw [mO,cq];simp;unfold bU;omega),ew hi (by omega)];simp only [zbS];rw [List.take_succ_eq_append_getElem hi];simp only [b4s,List.flatMap_append,List.flatMap_cons,List.flatMap_nil,List.append_nil]
  .simp only [gw];rw [if_neg (by omega)]
 rw [q];rfl
end Ev
end
noncomputable section
namespace Ev
open Go Sm
end Ev
end
noncomputable section
namespace Ev
open Go Sm
end Ev
end
noncomputable section
namespace Ev
open Go Sm
def Byt(f:Nat->Int)(m:Nat):Prop:=∀i,i<m->0<=f i/\f i<=255
theorem mc{f:Nat->Int}{m p:Nat}{most e x:Int}{q:Nat}(hb:Byt f m)(h:aU f m p most e= .ok (x,q)):dU f p 4=bts x 4/\q=p+4/\q<=m/\0<=x/\x<=most:=by
 unfold aU at h;split at h
 .rename_i hm;split at h
  .cases h
  .rename_i hle;cases h;have b0:=hb (p+0) (by omega);have b1:=hb (p+1) (by omega);have b2:=hb (p+2) (by omega);have b3:=hb (p+3) (by omega)
   have e1:le (λi=>f (p+i)) 4=f (p+0)+f (p+1)*256+f (p+2)*65536+f (p+3)*16777216:=by
    simp [le]
   refine⟨?_,rfl,hm,?_,by omega⟩
   .rw [e1];simp only [dU,bts,List.range_succ,List.range_zero,List.nil_append,List.cons_append,List.map_cons,List.map_nil,List.cons.injEq,and_true];refine⟨by omega,by omega,by omega,by omega⟩
   .rw [e1];omega
 .cases h
theorem me{f:Nat->Int}{m p:Nat}{most e:Int}{er:Int×Int}(he:e≠0)(h:aU f m p most e= .error er):er.1≠0/\0<=er.2/\er.2<=m:=by
 unfold aU at h;split at h
 .split at h
  .cases h;exact⟨he,by show(0:Int)<=(p:Int);omega,by show(p:Int)<=(m:Int);omega⟩
  .cases h
 .cases h;exact⟨show(2:Int)≠0 by decide,by show(0:Int)<=(m:Int);omega,Int.le_refl _⟩
end Ev
end
noncomputable section
namespace Ev
open Go Sm
theorem Ku{z:Sl Int}(h:K.W (.S (.I .u8)) z):okS 1 z/\(∀e∈z.l,0<=e/\e<=255)/\(z.l.length<=100000->Sm.Be.okY z=true):=by
 have hb:∀e∈z.l,0<=e/\e<=255:=λe he=>by
  have:inK .u8 e:=h.2.2.2 e he
  simpa [inK,Lit.wf,IntKind.min,IntKind.max,IntKind.signed,IntKind.bits]using this
 refine⟨.inr h.1,hb,λhl=> ?_⟩;simp only [Sm.Be.okY,Bool.and_eq_true,Bool.or_eq_true,decide_eq_true_eq,List.isEmpty_iff,List.all_eq_true];exact⟨hl,hb,.inl h.1⟩
theorem Rk{z:Sl Int}(h:∀e∈z.l,0<=e/\e<=255):Byt (Sm.Be.gf z) z.l.length:=λi hi=>by
 unfold Sm.Be.gf;rw [List.getD_eq_getElem?_getD,List.getElem?_eq_getElem hi];exact h _ (List.getElem_mem _)
theorem Kv{α:Type}{g:α->List Int}(hg:∀a,∀e∈g a,0<=e/\e<=255)(l:List α):∀e∈l.flatMap g,0<=e/\e<=255:=λe he=>by
 obtain⟨a,_,h⟩:=List.mem_flatMap.1 he;exact hg a e h
theorem Rm{L:List Int}(h:∀e∈L,0<=e/\e<=255)(hl:L.length<=100000):Sm.Be.okY ⟨true,1,L⟩=true:=by
 simp only [Sm.Be.okY,Bool.and_eq_true,Bool.or_eq_true,decide_eq_true_eq,List.isEmpty_iff,List.all_eq_true];exact⟨hl,h,.inl trivial⟩
theorem Rn(l:List E3):okS 3 (Sm.Dc.liS l):= .inr rfl
end Ev
end
noncomputable section
namespace Ev
open Go Sm
def wtO(l:List E3):Int:=if l.all (λe=>decide (e.2.2=1))=true then 0 else 1
def lh(wt:Int)(e:E3):List Int:=bts e.1 4++(bts e.2.1 4++(if wt=1 then bts e.2.2 4 else []))
def tZ(n:Int)(l:List E3):List Int:= [70,82,84,49]++([wtO l]++(bts n 4++(bts (l.length:Int) 4++l.flatMap (lh (wtO l)))))
def szE(wt:Int):Nat:=if wt=1 then 12 else 8
theorem Kw(l:List E3):wtO l=0∨wtO l=1:=by unfold wtO;split<;>simp
theorem Kx(wt:Int)(e:E3):(lh wt e).length=szE wt:=by
 unfold lh szE;split<;>simp [cq]
theorem rS(wt:Int)(l:List E3):(l.flatMap (lh wt)).length=szE wt*l.length:=by
 induction l with
 |nil=>rfl
 |cons a r ih=>rw [List.flatMap_cons,List.length_append,Kx,ih,List.length_cons,Nat.mul_add];omega
theorem Kz(n:Int)(l:List E3):(tZ n l).length=13+szE (wtO l)*l.length:=by
 simp only [tZ,List.length_append,cq,rS,List.length_cons,List.length_nil];omega
theorem EP(wt:Int):8<=szE wt/\szE wt<=12:=by unfold szE;split<;>omega
theorem wrongG_iff{g:Gr}:fq g=0↔(0<=g.1/\g.1<=4096)/\g.2.l.length<=65536/\g.2.l.all (inM g.1 g.1)=true/\g.2.l.all wOk=true:=by
 unfold fq;constructor
 .intro hw;split at hw<;>(try (exact absurd hw (by decide)));split at hw<;>(try (exact absurd hw (by decide)));split at hw<;>(try (exact absurd hw (by decide)));split at hw<;>(try (exact absurd hw (by decide)));split at hw<;>(try (exact absurd hw (by decide)));rename_i h1 h2 h3 h4 h5;exact⟨⟨by omega,by omega⟩,by omega,h4,h5⟩
 .rintro⟨⟨h1,h2⟩,h3,h4,h5⟩;rw [if_neg (by omega),if_neg (by omega),if_neg (by omega),if_pos h4,if_pos h5]
theorem KA{s:Sl E3}(hs:okS 3 s)(hl:s.l.length<=65536):dP s=some (wtO s.l):=by
 rw [rO];unfold wtO
 rcases ma (l:=s.l) (b:=eL s) (λe=>decide (e.2.2=1)) (λ_=>1) (λj hj=>by
  unfold eL;rw [if_pos (by omega),eU hs hj];simp only [zbS];rw [ew hj (by omega)];by_cases h:s.l[j].2.2=1
  .rw [if_neg (by simp [h]),if_pos (decide_eq_true h)]
  .rw [if_pos h,if_neg (by simp [h])]) (by unfold eL;rw [if_neg (by omega)])with⟨a,q⟩|⟨a,j,q⟩
 .rw [q,if_pos a];rfl
 .rw [q,if_neg (by rw [a];decide)];rfl
theorem Ir{n:Int}{s:Sl E3}(hs:okS 3 s)(hl:s.l.length<=65536)(hn:n<=4096)(hin:∀e∈s.l,inM n n e=true/\wOk e=true)(wt:Int){H:List Int}(hH:H.length<=1000):
  aW (eM (n,s) wt) (H,0)=some (.inl (H++s.l.flatMap (lh wt))):=by
 rw [show s.l.flatMap (lh wt)=(s.l.take s.l.length).flatMap (lh wt)by rw [List.take_length]];refine fB s.l.length (λi=>(H++(s.l.take i).flatMap (lh wt),(i:Int))) (by simp) (λi hi=> ?_) ?_
 .have hb:=hin s.l[i] (List.getElem_mem hi);have hb2:0<=s.l[i].1/\s.l[i].1<n/\0<=s.l[i].2.1/\s.l[i].2.1<n:=of_decide_eq_true hb.1;have hb3:0<=s.l[i].2.2/\s.l[i].2.2<=2147483647:=of_decide_eq_true hb.2;have hlen:=rS wt (s.l.take i);rw [List.length_take,Nat.min_eq_left (by omega)]at hlen;have hsz:=EP wt;have hle:szE wt*i<=12*i:=Nat.mul_le_mul_right _ hsz.2;simp only [eM];rw [if_pos (by omega),eU hs hi];simp only [zbS];rw [Kt (.inr rfl) (by simp) (λy hy=>by simp at hy;omega)];simp only [zbS];rw [fZ (by rw [List.length_append,mO,hlen];simp;unfold bU;omega)];simp only [zbS];rw [ew hi (by omega),List.take_succ_eq_append_getElem hi];by_cases hwt:wt=1
  .rw [if_pos hwt,Kt (.inr rfl) (by simp) (λy hy=>by simp at hy;omega)];simp only [zbS];rw [fZ (by rw [List.length_append,List.length_append,mO,mO,hlen];simp;unfold bU;omega)];simp only [zbS,b4s,lh,if_pos hwt,List.flatMap_append,List.flatMap_cons,List.flatMap_nil,List.append_nil,List.append_assoc]
  .rw [if_neg hwt];simp only [b4s,lh,if_neg hwt,List.flatMap_append,List.flatMap_cons,List.flatMap_nil,List.append_nil,List.append_assoc]
 .simp only [eM];rw [if_neg (by omega)]
def rT(g:Gr):Sl Int×Int:=if fq g=0 then if gD g.2.l=true then(⟨true,1,tZ g.1 g.2.l⟩,0)else(⟨false,0,[]⟩,6)else(⟨false,0,[]⟩,fq g)
theorem KH{g:Gr}(hs:okS 3 g.2):dQ g=some (rT g):=by
 obtain⟨n,s⟩:=g;rw [rP,yh hs];simp only [zbS];unfold rT;by_cases h:fq (n,s)=0
 .rw [if_neg (by simp [h]),if_pos h];obtain⟨⟨a1,a2⟩,a3,a4,a5⟩:=wrongG_iff.1 h;have a3:s.l.length<=65536:=a3;have a1:0<=n:=a1;have a2:n<=4096:=a2;rw [ns hs (by omega)];simp only [zbS];by_cases hr:gD s.l=true
  .rw [if_neg (by simp [hr]),if_pos hr,KA hs (by omega)];simp only [zbS];have h01:=Kw s.l;rw [Rj (by omega)];simp only [zbS];rw [fZ (by simp;unfold bU;omega)];simp only [zbS];rw [Kt (.inr rfl) (by simp) (λy hy=>by simp at hy;omega)];simp only [zbS];rw [fZ (by rw [mO];simp;unfold bU;omega)];simp only [zbS];rw [Ir hs a3 a2 (λe he=>⟨List.all_eq_true.1 a4 e he,List.all_eq_true.1 a5 e he⟩) _ (by rw [List.length_append,mO];simp)];simp only [zbS,Sum.elim_inl,b4s,tZ,List.flatMap_cons,List.flatMap_nil,List.append_nil,List.append_assoc]
  .rw [if_pos hr,if_neg hr]
 .rw [if_pos h,if_neg h]
theorem KI(wt:Int)(e:E3):∀z∈lh wt e,0<=z/\z<=255:=λz hz=>by
 unfold lh at hz;rcases List.mem_append.1 hz with hz|hz
 .exact qh hz
 .rcases List.mem_append.1 hz with hz|hz
  .exact qh hz
  .split at hz
   .exact qh hz
   .simp at hz
theorem KJ(n:Int)(l:List E3):∀e∈tZ n l,0<=e/\e<=255:=λe he=>by
 unfold tZ at he;rcases List.mem_append.1 he with he|he
 .simp at he;omega
 .rcases List.mem_append.1 he with he|he
  .have:=Kw l;simp at he;omega
  .rcases List.mem_append.1 he with he|he
   .exact qh he
   .rcases List.mem_append.1 he with he|he
    .exact qh he
    .exact Kv (KI _) l e he
theorem KL{z:Sl Int}(hz:Sm.Be.okY z=true){er:Int×Int}(h:bA (Sm.Be.gf z) z.l.length= .error er):cT z=some ((0,⟨false,0,[]⟩),er):=by
 show Sm.Dc.fn z=_;unfold Sm.Dc.fn;rw [if_pos hz,h]
theorem Nn{z:Sl Int}(hz:Sm.Be.okY z=true){n:Int}{l:List E3}(h:bA (Sm.Be.gf z) z.l.length= .ok (n,l)):cT z=some ((n,Sm.Dc.canonS l),(0,0)):=by
 show Sm.Dc.fn z=_;unfold Sm.Dc.fn;rw [if_pos hz,h]
theorem KM{n:Int}{s t:Sl E3}(h:s.l=t.l):fq (n,s)=fq (n,t):=by unfold fq;simp only [h]
theorem It{a b:Sl Int}(ha:Sm.Be.okY a=true)(hb:Sm.Be.okY b=true):gJ a b=some (decide (a.l=b.l)):=by
 show Sm.Be.fn (a,b)=_;unfold Sm.Be.fn;rw [if_pos ⟨ha,hb⟩]
end Ev
end
end Go.Proofs.YtoamaaicfjkmhaaGreat
