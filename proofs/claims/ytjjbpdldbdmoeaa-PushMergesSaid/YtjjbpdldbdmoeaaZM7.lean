/- Texts of a claim, joined. -/
import Derived.Test.YtjjbpdldbdmoeaaZM6
set_option linter.unusedVariables false
set_option linter.unusedSimpArgs false
namespace Go.Proofs.Ytjjbpdldbdmoeaa
noncomputable section
namespace Ev
namespace K
open Go Go.RowKit
inductive Sh where
 |d (fr:Bool) (t:Ty)
 |o (e:Ty)
 |m (e:Ty)
 |w (e:Ty)
@[reducible] def Sh.T:Sh->Type
 | .d _ t=>t.val
 | .o e=>List e.val
 | .m e=>List e.val
 | .w e=>List e.val
@[reducible] def bZ:List Sh->Type
 | []=>Unit
 | [h]=>h.T
 |h::r=>h.T×bZ r
inductive BR where
 |sl (i j:Nat)
 |bx (i j:Nat)
structure Pt where
 vs:List (Nat×Bool×List Sh)
 bs:List (Nat×List Sh)
 ws:List (BR×Ty):= []
def wSh(x:BR×Ty):Sh:= .w x.2
def Pt.sh(p:Pt):List Sh:=p.vs.flatMap (·.2.2)++(p.bs.flatMap (·.2)++p.ws.map wSh)
@[reducible] def XT:List (Ex×Pt)->Type
 | []=>Empty
 |x::r=>bZ x.2.sh ⊕ XT r
structure xH where
 join:Bool:=false
 key:Nat
 sz:Nat:=0
 keep:List Nat
 head:Pt
 exs:List (Ex×Pt)
def tG(ks:KS):(h:Sh)->KC->{R:Type}->(h.T->Option R)->Option R
 | .d fr t,c,_,κ=>if fr=true/\frC c=false then none else(ij noB t c).bind κ
 | .o e,.o _ p,_,κ=>match af ks.bl p with
  |some (.rows e' _ l)=>(dV (.S e') (.S e) ⟨true,0,l⟩).bind λl=>κ l.l
  |_=>none
 | .w e,.o _ p,_,κ=>match af ks.bl p with
  |some (.rows e' _ l)=>(dV (.S e') (.S e) ⟨true,0,l⟩).bind λl=>κ l.l
  |_=>none
 | .m e,.nil,_,κ=>κ []
 | .m e,.m _ p,_,κ=>match af ks.bl p with
  |some (.mrows e' l)=>(dV (.S e') (.S e) ⟨true,0,l⟩).bind λl=>κ l.l
  |_=>none
 | .m e,.o _ p,_,κ=>match af ks.bl p with
  |some (.rows e' ne l)=>(dV (.S e') (.S e) ⟨true,0,l⟩).bind λl=>cond ne (κ l.l) ((neL l.l).bind λ_=>κ l.l)
  |_=>none
 |_,_,_,_=>none
def ik(ks:KS):(hs:List Sh)->List KC->{R:Type}->(bZ hs->Option R)->Option R
 | [],[],_,κ=>κ ()
 | [h],[c],_,κ=>tG ks h c κ
 |h::h'::r,c::cs,_,κ=>tG ks h c λx=>ik ks (h'::r) cs λy=>κ (x,y)
 |_,_,_,_=>none
def aU(q:Nat):(h:Sh)->h.T->KC×List (Nat×KB)
 | .d _ .B,x=>(.bv x,[])
 | .d fr t,x=>(match bQ fr t x with
  |c::_=>c
  | []=> .nil,[])
 | .o e,l=>(.o e q,[(q,.rows e false l)])
 | .m e,l=>(.m e q,[(q,.mrows e l)])
 | .w e,l=>(.o e q,[])
def wC:(h:Sh)->h.T->KB
 | .w e,l=> .rows e false l
 |_,_=> .dead
def wCs:(hs:List Sh)->bZ hs->List KB
 | [],_=> []
 | [h],x=> [wC h x]
 |h::h'::r,x=>wC h x.1::wCs (h'::r) x.2
def an:(hs:List Sh)->bZ hs->Nat->List (KC×List (Nat×KB))
 | [],_,_=> []
 | [h],x,q=> [aU q h x]
 |h::h'::r,x,q=>aU q h x.1::an (h'::r) x.2 (q+1)
def jg(F:KF)(ks:KS):List (Nat×Bool×List Sh)->Option (List KC)
 | []=>some []
 |v::r=>match fT F ks v.1 with
  |some (.one c)=>if v.2.1 then none else if v.2.2.length=1 then(jg F ks r).map (c::·)else none
  |some (.agg cs)=>if v.2.1 then if v.2.2.length=cs.length then(jg F ks r).map (cs++·)else none else none
  |_=>none
def cG(F:KF)(ks:KS)(i:Nat):Option Nat:=
 match fT F ks i with
 |some (.one (.ptr p j))=>if j=0 then some p else none
 |_=>none
def il(F:KF)(ks:KS):List (Nat×List Sh)->Option (List KC)
 | []=>some []
 |v::r=>match(cG F ks v.1).bind (af ks.bl)with
  |some (.box cs)=>if v.2.length=cs.length then(il F ks r).map (cs++·)else none
  |_=>none
def brC(F:KF)(ks:KS):BR->Option KC
 | .sl i j=>match fT F ks i with
  |some (.one c)=>some c
  |some (.agg cs)=>cs[j]?
  |_=>none
 | .bx i j=>match cG F ks i with
  |some p=>match aH ks.bl F.bl p with
   |some (.box cs)=>cs[j]?
   |_=>none
  |none=>none
def dW(F:KF)(ks:KS)(w:BR):Option Nat:=
 match brC F ks w with
 |some (.o _ p)=>some p
 |_=>none
def qY(F:KF)(ks:KS):List (BR×Ty)->Option (List KC)
 | []=>some []
 |v::r=>match dW F ks v.1 with
  |some p=>(qY F ks r).map (.o v.2 p::·)
  |none=>none
def cY(F:KF)(ks:KS)(p:Pt):Option (List KC):=(jg F ks p.vs).bind λa=>(il F ks p.bs).bind λb=>(qY F ks p.ws).map λc=>a++(b++c)
def aY:List KC->List Nat
 | []=> []
 | .o _ p::r=>p::aY r
 | .m _ p::r=>p::aY r
 |_::r=>aY r
def fv:List Nat->Bool
 | []=>true
 |a::r=> !(r.any (Nat.beq a))&& fv r
def mz(F:KF)(ks:KS)(p:Pt){R:Type}(κ:bZ p.sh->Option R):Option R:=
 match cY F ks p with
 |some cs=>cond (fv (aY cs)) (ik ks p.sh cs κ) none
 |none=>none
def eW:List (Nat×Bool×List Sh)->List KC->List (Nat×KD)
 | [],_=> []
 |v::r,cs=>(v.1,if v.2.1 then .agg (cs.take v.2.2.length)else match cs with
  |c::_=> .one c
  | []=>kUn)::eW r (cs.drop v.2.2.length)
def cZ(F:KF)(ks:KS):List (Nat×List Sh)->List KC->List (Nat×KB)
 | [],_=> []
 |v::r,cs=>match cG F ks v.1 with
  |some p=>(p,.box (cs.take v.2.length))::cZ F ks r (cs.drop v.2.length)
  |none=>cZ F ks r (cs.drop v.2.length)
def dG(F:KF)(ks:KS):List (BR×Ty)->List KB->List (Nat×KB)
 | [],_=> []
 |_,[]=> []
 |v::r,b::bs=>match dW F ks v.1 with
  |some p=>(p,b)::dG F ks r bs
  |none=>dG F ks r bs
def fF(l:List (Nat×Bool×List Sh)):Nat:=(l.flatMap (·.2.2)).length
def jG(l:List (Nat×List Sh)):Nat:=(l.flatMap (·.2)).length
def ez(F:KF)(ks:KS):Bool:=F.sl.all λx=>(af ks.sl x.1).isNone
def jS(F:KF)(ks:KS):List Nat->List (Nat×KD)
 | []=> []
 |i::r=>match af ks.sl i with
  |some d=>(i,d)::jS F ks r
  |none=>jS F ks r
def jh(F:KF)(ks:KS):List (Nat×List Sh)->List Nat
 | []=> []
 |v::r=>match cG F ks v.1 with
  |some p=>p::jh F ks r
  |none=>jh F ks r
def cd(F:KF)(ks:KS)(a:xH)(cs:List KC):List Nat:=aY cs++jh F ks a.head.bs
def al(F:KF)(ks:KS)(a:xH)(cs:List KC):KF:={nt:=F.nt,sl:=jS F ks a.keep++F.sl,bl:=(cd F ks a cs).map (λp=>(p,.dead))++(ks.bl++F.bl)}
def aP(F:KF)(ks:KS)(p:Pt)(x:bZ p.sh):KS:=
 let w:=an p.sh x ks.nx
 let cs:=w.map (·.1)
 {sl:=eW p.vs cs,bl:=cZ F ks p.bs (cs.drop (fF p.vs))++(dG F ks p.ws ((wCs p.sh x).drop (fF p.vs+jG p.bs))++w.flatMap (·.2)),nx:=ks.nx+p.sh.length}
def mA:Ex->Ex->Bool
 | .normal,.normal=>true
 | .ret,.ret=>true
 | .exit a,.exit b=>Nat.beq a b
 |_,_=>false
def mB(F:KF)(ks:KS)(e:Ex):(l:List (Ex×Pt))->{R:Type}->(XT l->Option R)->Option R
 | [],_,_=>none
 |x::r,_,κ=>cond (mA e x.1) (mz F ks x.2 λv=>κ (.inl v)) (mB F ks e r λv=>κ (.inr v))
def qZ(F:KF)(ks:KS)(keep dead:List Nat)(p:Pt)(v:bZ p.sh):KS:=
 let s:=aP F ks p v
 {s with sl:=s.sl++jS F ks keep,bl:=s.bl++(dead.map (λp=>(p,.dead))++ks.bl)}
def afterX(F:KF)(ks:KS)(keep:List Nat)(dead:List Nat):(l:List (Ex×Pt))->XT l->{R:Type}->(Ex->KS->Option R)->Option R
 | [],x,_,_=>nomatch x
 |x::r,v,_,κ=>Sum.elim (λv=>κ x.1 (qZ F ks keep dead x.2 v)) (λv=>afterX F ks keep dead r v κ) v
def kNil:KS:=⟨[],[],0⟩
def jH(F0:KF)(ks:KS)(F:KF)(p:Pt):Bool:=(p.bs.all λv=>(af F.sl v.1).isSome)&& p.ws.all λv=>match dW F0 ks v.1,dW F kNil v.1 with
 |some a,some b=>Nat.beq a b
 |_,_=>false
def dH:Code->Option Nat
 | .region id _ _=>some id
 | .seq a b=>match dH a with
  |some i=>some i
  |none=>dH b
 | .cond _ a b=>match dH a with
  |some i=>some i
  |none=>dH b
 | .block _ b=>dH b
 | .loop b=>dH b
 | .scope b=>dH b
 |_=>none
def mC:Code->Nat
 | .seq a b=>mC a+mC b+1
 | .cond _ a b=>mC a+mC b+1
 | .block _ b=>mC b+1
 | .loop b=>mC b+1
 | .scope b=>mC b+1
 |_=>1
structure Ou where
 old:List (List BR)
 new:List (Bool×List Nat)
structure HL where
 lp:List xH:= []
 tn:List (Nat×Ou):= []
def Lx:KC->Option Nat
 | .o _ p=>some p
 | .m _ p=>some p
 | .ptr p _=>some p
 |_=>none
def IC(F:KF)(ks:KS):List BR->Option (List Nat)
 | []=>some []
 |b::r=>match brC F ks b,IC F ks r with
  |some .nil,l=>l
  |some c,some l=>match Lx c with
   |some p=>some (p::l)
   |none=>none
  |_,_=>none
def zv(F:KF)(ks:KS):List (List BR)->Option (List (List Nat))
 | []=>some []
 |b::r=>match IC F ks b,zv F ks r with
  |some p,some l=>some (p::l)
  |_,_=>none
def mD(ids:List Nat)(ks:KS):KS:={ks with bl:=ids.map (λp=>(p,.dead))++ks.bl}
def Ov:Option Nat->List Nat
 |some p=> [p]
 |none=> []
def dR(Rl O:List (List Nat))(N:List (Bool×List Nat))(nw:List (Nat×Nat))(i:Nat):List Nat:=
 (Rl.getD i []).flatMap λj=>O.getD j []++((N.getD j (false,[])).2.flatMap (λq=>Ov (af nw q))++cond (N.getD j (false,[])).1 (Ov (af nw j)) [])
def Ow:KC->Option Nat
 | .o _ p=>some p
 | .m _ p=>some p
 |_=>none
def oy(ids:List Nat)(c:KC):Bool:=
 match Ow c with
 |some p=> !(ids.any (Nat.beq p))
 |none=>true
def ra(ids:List Nat):KD->Bool
 | .one c=>oy ids c
 | .agg cs=>cs.all (oy ids)
 | .tup ts=>ts.all λx=>x.2.all (oy ids)
def FA(ids:List Nat):KB->Bool
 | .box cs=>cs.all (oy ids)
 |_=>true
def isM:KB->Bool
 | .mrows _ _=>true
 |_=>false
def FC(ks0 ks:KS)(p:Nat):Bool:=
 match af ks0.bl p,af ks.bl p with
 |some x,some y=>(match x with
  | .dead=>false
  |_=>isM x==isM y)
 |_,_=>false
def zw(ks:KS)(nw:List (Nat×Nat))(p j:Nat):Bool:=
 (match af nw j with
  |some q=>Nat.beq p q
  |none=>false)&&(match af ks.bl p with
  |some y=> !isM y
  |none=>false)
def tH(ks0 ks:KS)(nw:List (Nat×Nat))(p:Nat):List Nat->List Nat->Bool
 | [q],[]=>Nat.beq p q && FC ks0 ks p
 | [],[j]=>zw ks nw p j
 |_,_=>false
def tI(ks0 ks:KS)(O:List (List Nat))(N:List (Bool×List Nat))(nw:List (Nat×Nat))(i:Nat)(ids:List Nat)(e:KE):Bool:=
 ra ids e.v &&(match e.upd with
  |none=>(O.getD i []).isEmpty &&(N.getD i (false,[])).2.isEmpty
  |some (p,b)=>FA ids b && tH ks0 ks nw p (O.getD i []) (N.getD i (false,[])).2)&&(match e.new with
  |none=> !(N.getD i (false,[])).1
  |some b=>(N.getD i (false,[])).1 && FA ids b && !isM b)
def nwE(e:KE)(i nid:Nat)(nw:List (Nat×Nat)):List (Nat×Nat):=
 match e.new with
 |some _=>(i,nid)::nw
 |none=>nw
def zx(O:List (List Nat))(N:List (Bool×List Nat))(i:Nat):Bool:=(O.getD i []).isEmpty &&(N.getD i (false,[])).2.isEmpty && !(N.getD i (false,[])).1
def oz(G:KG)(F:KF)(ops:List Oper)(Rl O:List (List Nat))(N:List (Bool×List Nat))(ks0:KS){R:Type}(κ:KS->Option R):Nat->List (Nat×Nat)->List Oper->KS->Option R
 |_,_,[],ks=>κ ks
 |i,nw,o::r,ks=>tE F ops o ks λw ks=>cond w
   (tD F o.op ks λop ks=>bp G F (mD (dR Rl O N nw i) ks) ks.nx (ks.nx+1) op λe=>
    cond (tI ks0 ks O N nw i (dR Rl O N nw i) e) (oz G F ops Rl O N ks0 κ (i+1) (nwE e i (ks.nx+1) nw) r (zu o.dst ks.nx (ks.nx+1) e ks)) none)
   (cond (zx O N i) (oz G F ops Rl O N ks0 κ (i+1) nw r (tC o.dst ks)) none)
def FD(a b:List Nat):Bool:=a.all λx=> !(b.any (Nat.beq x))
def djB:List (List Nat)->List (List Nat)->List (List Nat)->Bool
 |o::os,r::rs,O=>(r.all λj=>FD o (O.getD j []))&& djB os rs O
 |_,_,_=>true
def vA(ks:KS)(O:List (List Nat)):Bool:=O.all λl=>l.all λp=>match af ks.bl p with
 |some .dead=>false
 |some _=>true
 |none=>false
def dS(G:KG)(A:HL)(call:tF):Code->(R:Type)->KF->KS->(Ex->KS->Option R)->Option R
 | .skip,_,F,ks,κ=>κ .normal ks
 | .region id ops draw,R,F,ks,κ=>cond draw
   (cond (cL ops) (match af A.tn id with
    |none=>jf G F ops.toList (κ .normal) ops.toList ks
    |some T=>match zv F ks T.old with
     |some O=>cond (gI ops T.new && djB O (dz ops) O && vA ks O) (oz G F ops.toList (dz ops) O T.new ks (κ .normal) 0 [] ops.toList ks) none
     |none=>none) (match iJ ops with
    |some m=>cond (hZ ops) (jf G F ops.toList (sf G call F ops.toList (κ .normal) (ops.toList.drop m)) (ops.toList.take m) ks) none
    |none=>none))
   (sf G call F ops.toList (κ .normal) ops.toList ks)
 | .seq a b,R,F,ks,κ=>match A.lp.find? λz=>z.join &&(some z.key==dH a && Nat.beq z.sz (mC a))with
  |none=>dS G A call a R F ks λe ks=>match e with
   | .normal=>dS G A call b R F ks κ
   |e=>κ e ks
  |some z=>match cY F ks z.head,ez F ks with
   |some cs,true=>cond (jH F ks (al F ks z cs) z.head && z.exs.all λx=>jH F ks (al F ks z cs) x.2) (mz F ks z.head λx0=>
    let F':=al F ks z cs
    (dS G A call a (XT z.exs) F' (aP F ks z.head x0) λe ks2=>cond (ez F' ks2) (mB F' ks2 e z.exs some) none).bind λy=>afterX F ks z.keep (cd F ks z cs) z.exs y λe ks=>match e with
     | .normal=>dS G A call b R F ks κ
     |e=>κ e ks) none
   |_,_=>none
 | .cond c a b,R,F,ks,κ=>match kO F ks c with
  |some (.one c)=>kIf c ks λt ks=>cond t (dS G A call a R F ks κ) (dS G A call b R F ks κ)
  |_=>none
 | .block id b,R,F,ks,κ=>dS G A call b R F ks λe ks=>κ (cond (mA e (.exit id)) .normal e) ks
 | .loop b,R,F,ks,κ=>match A.lp.find? λa=> !a.join && some a.key==dH b with
  |none=>none
  |some a=>match cY F ks a.head,ez F ks with
   |some cs,true=>cond (jH F ks (al F ks a cs) a.head && a.exs.all λx=>jH F ks (al F ks a cs) x.2 && !mA x.1 .normal) (mz F ks a.head λx0=>
    let F':=al F ks a cs
    (cD (λx=>dS G A call b (bZ a.head.sh ⊕ XT a.exs) F' (aP F ks a.head x) λe ks2=>cond (ez F' ks2) (match e with
     | .normal=>mz F' ks2 a.head λy=>some (.inl y)
     |e=>mB F' ks2 e a.exs λy=>some (.inr y)) none) x0).bind λy=>afterX F ks a.keep (cd F ks a cs) a.exs y κ) none
   |_,_=>none
 | .exit id,_,F,ks,κ=>κ (.exit id) ks
 | .ret,_,F,ks,κ=>κ .ret ks
 | .label _,_,F,ks,κ=>κ .normal ks
 | .scope b,R,F,ks,κ=>dS G A call b R F ks κ
 |_,_,_,_,_=>none
def sg:Nat->List KD->List (Nat×KD)
 |_,[]=> []
 |i,d::r=>(i,d)::sg (i+1) r
def tupK:List KD->Option KD
 | [d]=>some d
 |ds=>(tups ds).map .tup
where
 tups:List KD->Option (List (Bool×List KC))
  | []=>some []
  | .one c::r=>(tups r).map ((false,[c])::·)
  | .agg cs::r=>(tups r).map ((true,cs)::·)
  |_=>none
def vB(G:KG)(F:KF)(ks:KS):List ResultVar->{R:Type}->(List KD->Option R)->Option R
 | [],_,κ=>κ []
 | .tmp t::r,_,κ=>(fT F ks t).bind λd=>vB G F ks r λl=>κ (d::l)
 | .cell a ty::r,_,κ=>match Fx G.ti ty,fT F ks a with
  |some z,some d=>eK F ks z d λv=>vB G F ks r λl=>κ (v::l)
  |_,_=>none
def oA:Ex->Bool
 | .exit _=>false
 |_=>true
abbrev fG:=List (FuncId×HL)
def ID(A:fG)(k:FuncId):HL:=
 match af A k with
 |some l=>l
 |none=>{}
def xI(G:KG)(A:fG):Nat->tF
 |0,_,_,_,_,_,_=>none
 |n+1,R,F,k,args,ks,κ=>match af G.fi k with
  |some f=>if args.length<=f.nt then dS G (ID A k) (xI G A n) f.body R {F with sl:= [],nt:=f.nt} {ks with sl:=sg 0 args} λe ks2=>cond (oA e) (vB G {F with sl:= [],nt:=f.nt} ks2 f.results λds=>(tupK ds).bind λd=>κ d ks2) none else none
  |none=>none
def frD:KD->Bool
 | .one c=>frC c
 | .agg cs=>cs.all frC
 | .tup _=>false
def nD:List KD->Bool
 | [.one (.o _ _)]=>true
 | [.one (.m _ _)]=>true
 |_=>false
def FE(B:Nat->Option KB)(e:Ty):List KD->Option (List e.val)
 | [.one (.o _ p)]=>match B p with
  |some (.rows e' _ l)=>if e.plain then(dV (.S e') (.S e) ⟨true,0,l⟩).map (·.l)else none
  |_=>none
 |_=>none
def AB(B:Nat->Option KB)(e:Ty):List KD->Option (List e.val)
 | [.one .nil]=>some []
 | [.one (.m _ p)]=>match B p with
  |some (.mrows e' l)=>if e.plain then(dV (.S e') (.S e) ⟨true,0,l⟩).map (·.l)else none
  |_=>none
 | [.one (.o _ p)]=>match B p with
  |some (.rows e' ne l)=>if e.plain && ne then(dV (.S e') (.S e) ⟨true,0,l⟩).map (·.l)else none
  |_=>none
 |_=>none
def AC(B:Nat->Option KB)(e:Ty):List KD->Option (Sl e.val)
 | [.one .nil]=>some ⟨false,0,[]⟩
 | [.one (.m _ p)]=>match B p with
  |some (.mrows e' l)=>if e.plain then(dV (.S e') (.S e) ⟨true,0,l⟩).map (λs=>mo e.size s.l)else none
  |_=>none
 | [.one (.o _ p)]=>match B p with
  |some (.rows e' ne l)=>if e.plain then(dV (.S e') (.S e) ⟨true,0,l⟩).map (λs=>⟨true,e.size,s.l⟩)else none
  |_=>none
 |_=>none
def vC(B:Nat->Option KB):(o:OutK)->List KD->Option o.val
 | .data fr ts,ds=>if nD ds||(fr && !(ds.all frD))then none else gn B ts ds
 | .own e,ds=>FE B e ds
 | .mown e,ds=>AB B e ds
 | .gown e,ds=>AC B e ds
def AD(ts:List TyD)(x:cl ts):List (Nat×KD):=sg 0 ((jc false ts x).map mkD)
def gO(G:KG)(A:fG)(f:FI)(k:FuncId)(n:Nat)(ins:List TyD)(out:OutK)(x:cl ins):Option out.val:=
 dS G (ID A k) (xI G A n) f.body out.val {nt:=f.nt} {sl:=AD ins x,bl:= [],nx:=0} λe ks=>cond (oA e) (vB G {nt:=f.nt} ks f.results λds=>vC (aj {nt:=f.nt} ks) out ds) none
end K
end Ev
end
noncomputable section
namespace Ev
namespace K
open Go Go.RowKit
structure Vl where
 id:Nat->Nat
 bo:Nat->Bool
def KB.there:KB->Prop
 | .dead=>False
 | .mrows _ l=>l≠[]
 |_=>True
abbrev BK:=Nat->Option KB
def RC(B:BK)(V:Vl):KC->C->Prop
 | .n k x,c=>c=iC k x
 | .b v,c=>c=bC v
 | .p tag P d,c=>c=bC (V.bo tag)/\V.bo tag= @decide P d
 | .bv x,c=>c=bC x
 | .v x,c=>c= .p true (.v x)
 | .nil,c=>c= .p true (.s false 0 [])
 | .s e fr x,c=>∃f,c= .p f (Sl.t e.row x)/\(fr=true->f=true)
 | .o e p,c=>∀e' ne l,B p=some (.rows e' ne l)->c= .own (V.id p) 0 l.length
 | .m e p,c=>∀e' l,B p=some (.mrows e' l)->c=moC l (V.id p)
 | .ptr p j,c=>c= .ptr (V.id p) 0 j
 | .pe p i j,c=>0<=i/\c= .ptr (V.id p) i.toNat j
 | .ip e fr x i y j,c=>∃f,c= .iptr f x.sz (x.l.map e.row) i.toNat j/\x.l[i.toNat]? =some y/\(fr=true->f=true)
 | .clo fn ps,c=>c= .clo (.func fn) [] (ps.map λp=> .ptr (V.id p) 0 0)
 | .yld p,c=>c= .yld (V.id p)
def Sc(N:Nat):KC->Prop
 | .p tag _ _=>tag<N
 | .o _ p=>p<N
 | .m _ p=>p<N
 | .ptr p _=>p<N
 | .pe p _ _=>p<N
 | .yld p=>p<N
 | .clo _ ps=>∀p∈ps,p<N
 |_=>True
def RCs(B:BK)(V:Vl):List KC->List C->Prop
 | [],cs=>cs= []
 |k::r,cs=>∃c s,cs=c::s/\RC B V k c/\RCs B V r s
def Scs(N:Nat)(l:List KC):Prop:=∀c∈l,Sc N c
def RD1(B:BK)(V:Vl)(k:KD)(d:D):Prop:=
 match k with
 | .one c=>∃c',d= .one c'/\RC B V c c'
 | .agg cs=>∃cs',d= .agg cs'/\RCs B V cs cs'
 | .tup _=>False
def RTs(B:BK)(V:Vl):List (Bool×List KC)->List D->Prop
 | [],ds=>ds= []
 |x::r,ds=>∃d s,ds=d::s/\RD1 B V (mkD x) d/\RTs B V r s
def RD(B:BK)(V:Vl)(k:KD)(d:D):Prop:=
 match k with
 | .tup ts=>∃ds,d= .tup ds/\RTs B V ts ds
 |k=>RD1 B V k d
def ScD(N:Nat):KD->Prop
 | .one c=>Sc N c
 | .agg cs=>Scs N cs
 | .tup ts=>∀x∈ts,Scs N x.2
def BlkIs(B:BK)(V:Vl)(x:Blk):KB->Prop
 | .box cs=>∃sz cs',x= .own sz [cs']/\RCs B V cs cs'
 | .rows e ne l=>x= .own e.size (l.map (aZ e.row))/\(ne=true->l≠[])
 | .mrows e l=>x= .own e.size (l.map (aZ e.row))
 | .dead=>x= .dead
def RB(B:BK)(V:Vl)(h:Heap)(k:Nat):KB->Prop
 | .box cs=>∃sz cs',ai h k=some (sz,[cs'])/\RCs B V cs cs'
 | .rows e ne l=>ai h k=some (e.size,l.map (aZ e.row))/\(ne=true->l≠[])
 | .mrows e l=>l≠[]->ai h k=some (e.size,l.map (aZ e.row))
 | .dead=>True
def ScB(N:Nat):KB->Prop
 | .box cs=>Scs N cs
 |_=>True
structure Rel(F:KF)(ks:KS)(V:Vl)(f:Nat->D)(h:Heap):Prop where
 sl:∀i d,fT F ks i=some d->i<F.nt/\ScD ks.nx d/\RD (aj F ks) V d (f i)
 bl:∀p b,aj F ks p=some b->p<ks.nx/\ScB ks.nx b/\RB (aj F ks) V h (V.id p) b
 inj:∀p q b b',aj F ks p=some b->aj F ks q=some b'->b.there->b'.there->V.id p=V.id q->p=q
def LeB(N:Nat)(B B':BK):Prop:=∀p,p<N->(∀e ne l',B' p=some (.rows e ne l')->∃e0 ne0 l0,B p=some (.rows e0 ne0 l0)/\l0.length=l'.length)/\∀e l',B' p=some (.mrows e l')->∃e0 l0,B p=some (.mrows e0 l0)/\l0.length=l'.length
def Agree(N:Nat)(V V':Vl):Prop:=∀q,q<N->V'.id q=V.id q/\V'.bo q=V.bo q
theorem LeB.refl(N:Nat)(B:BK):LeB N B B:=λp hp=>⟨λe ne l h=>⟨e,ne,l,h,rfl⟩,λe l h=>⟨e,l,h,rfl⟩⟩
theorem LeB.trans{N M:Nat}{B B' B'':BK}(h:LeB N B B')(h':LeB M B' B'')(hn:N<=M):LeB N B B'':=λp hp=>⟨λe ne l hl=>by
  obtain⟨e1,n1,l1,h1,h2⟩:=(h' p (by omega)).1 e ne l hl;obtain⟨e0,n0,l0,h3,h4⟩:=(h p hp).1 _ _ _ h1
  exact⟨e0,n0,l0,h3,h4.trans h2⟩,λe l hl=>by
  obtain⟨e1,l1,h1,h2⟩:=(h' p (by omega)).2 e l hl;obtain⟨e0,l0,h3,h4⟩:=(h p hp).2 _ _ h1
  exact⟨e0,l0,h3,h4.trans h2⟩⟩
theorem Agree.refl(N:Nat)(V:Vl):Agree N V V:=λq hq=>⟨rfl,rfl⟩
theorem Agree.trans{N M:Nat}{V V' V'':Vl}(h:Agree N V V')(h':Agree M V' V'')(hn:N<=M):Agree N V V'':=λq hq=>⟨((h' q (by omega)).1).trans (h q hq).1,((h' q (by omega)).2).trans (h q hq).2⟩
theorem HQ{α β:Type}{l:List α}{m:List β}{k:Nat}(h:l.length=m.length):moC l k=moC m k:=by
 cases l with
 |nil=>cases m with
  |nil=>rfl
  |cons b m=>simp at h
 |cons a l=>cases m with
  |nil=>simp at h
  |cons b m=>show C.own k 0 _=C.own k 0 _;rw [h]
section
variable {N : Nat} {B B' : BK} {V V' : Vl}
theorem RC.mono{c:KC}{x:C}(hs:Sc N c)(hb:LeB N B B')(ha:Agree N V V')(h:RC B V c x):RC B' V' c x:=by
 cases c with
 |n k y=>exact h
 |b v=>exact h
 |p tag P d=>have:=(ha tag hs).2;exact⟨by rw [this];exact h.1,by rw [this];exact h.2⟩
 |bv y=>exact h
 |v y=>exact h
 |nil=>exact h
 |s e fr y=>exact h
 |o e p=>
  intro e' ne l hl;obtain⟨e0,n0,l0,h1,h2⟩:=(hb p hs).1 e' ne l hl;rw [(ha p hs).1,<-h2];exact h e0 n0 l0 h1
 |m e p=>
  intro e' l hl;obtain⟨e0,l0,h1,h2⟩:=(hb p hs).2 e' l hl;rw [(ha p hs).1,<-HQ h2];exact h e0 l0 h1
 |ptr p j=>show x=_;rw [(ha p hs).1];exact h
 |pe p i j=>exact⟨h.1,by rw [(ha p hs).1];exact h.2⟩
 |ip e fr y i z j=>exact h
 |clo fn ps=>
  show x=_
  have:(ps.map λp=>C.ptr (V'.id p) 0 0)=ps.map λp=> .ptr (V.id p) 0 0:=List.map_congr_left λp hp=>by rw [(ha p (hs p hp)).1]
  rw [this];exact h
 |yld p=>show x=_;rw [(ha p hs).1];exact h
theorem RCs.mono:∀{l:List KC} {xs:List C},Scs N l->LeB N B B'->Agree N V V'->RCs B V l xs->RCs B' V' l xs
 | [],xs,hs,hb,ha,h=>h
 |c::l,xs,hs,hb,ha,⟨x,s,h1,h2,h3⟩=>⟨x,s,h1,h2.mono (hs c (by simp)) hb ha,h3.mono (λy hy=>hs y (by simp [hy])) hb ha⟩
theorem pk{x:Bool×List KC}(hs:Scs N x.2):ScD N (mkD x):=by
 obtain⟨b,cs⟩:=x
 cases b with
 |true=>exact hs
 |false=>match cs,hs with
  | [],hs=>exact hs
  | [c],hs=>exact hs c (by simp)
  |c::d::r,hs=>exact hs
theorem RD1.mono{k:KD}{d:D}(hs:ScD N k)(hb:LeB N B B')(ha:Agree N V V')(h:RD1 B V k d):RD1 B' V' k d:=by
 cases k with
 |one c=>obtain⟨c',h1,h2⟩:=h;exact⟨c',h1,h2.mono hs hb ha⟩
 |agg cs=>obtain⟨c',h1,h2⟩:=h;exact⟨c',h1,h2.mono hs hb ha⟩
 |tup ts=>exact h
theorem RTs.mono:∀{l:List (Bool×List KC)} {xs:List D},(∀x∈l,Scs N x.2)->LeB N B B'->Agree N V V'->RTs B V l xs->RTs B' V' l xs
 | [],xs,hs,hb,ha,h=>h
 |c::l,xs,hs,hb,ha,⟨x,s,h1,h2,h3⟩=>⟨x,s,h1,h2.mono (pk (hs c (by simp))) hb ha,h3.mono (λy hy=>hs y (by simp [hy])) hb ha⟩
theorem RD.mono{k:KD}{d:D}(hs:ScD N k)(hb:LeB N B B')(ha:Agree N V V')(h:RD B V k d):RD B' V' k d:=by
 cases k with
 |one c=>exact RD1.mono (k:= .one c) hs hb ha h
 |agg cs=>exact RD1.mono (k:= .agg cs) hs hb ha h
 |tup ts=>obtain⟨ds,h1,h2⟩:=h;exact⟨ds,h1,h2.mono hs hb ha⟩
theorem RB.mono{h:Heap}{k:Nat}{b:KB}(hs:ScB N b)(hb:LeB N B B')(ha:Agree N V V')(hr:RB B V h k b):RB B' V' h k b:=by
 cases b with
 |box cs=>obtain⟨sz,cs',h1,h2⟩:=hr;exact⟨sz,cs',h1,h2.mono hs hb ha⟩
 |rows e ne l=>exact hr
 |mrows e l=>exact hr
 |dead=>trivial
theorem RB.heap{h h':Heap}{k:Nat}{b:KB}(hh:ai h' k=ai h k)(hr:RB B V h k b):RB B V h' k b:=by
 cases b with
 |box cs=>obtain⟨sz,cs',h1,h2⟩:=hr;exact⟨sz,cs',hh.trans h1,h2⟩
 |rows e ne l=>exact⟨hh.trans hr.1,hr.2⟩
 |mrows e l=>exact λhl=>hh.trans (hr hl)
 |dead=>trivial
end
theorem Sc.mono{N M:Nat}(hn:N<=M){c:KC}(h:Sc N c):Sc M c:=by
 cases c with
 |p tag P d=>exact Nat.lt_of_lt_of_le h hn
 |o e p=>exact Nat.lt_of_lt_of_le h hn
 |m e p=>exact Nat.lt_of_lt_of_le h hn
 |ptr p j=>exact Nat.lt_of_lt_of_le h hn
 |pe p i j=>exact Nat.lt_of_lt_of_le h hn
 |yld p=>exact Nat.lt_of_lt_of_le h hn
 |clo fn ps=>exact λp hp=>Nat.lt_of_lt_of_le (h p hp) hn
 |_=>trivial
theorem Scs.mono{N M:Nat}(hn:N<=M){l:List KC}(h:Scs N l):Scs M l:=λc hc=>(h c hc).mono hn
theorem ScD.mono{N M:Nat}(hn:N<=M){d:KD}(h:ScD N d):ScD M d:=by
 cases d with
 |one c=>exact Sc.mono hn h
 |agg cs=>exact Scs.mono hn h
 |tup ts=>exact λx hx=>(h x hx).mono hn
theorem ScB.mono{N M:Nat}(hn:N<=M){b:KB}(h:ScB N b):ScB M b:=by
 cases b with
 |box cs=>exact Scs.mono hn h
 |_=>trivial
theorem aI{t t':Ty}{x:t.val}{y:t'.val}(h:dV t t' x=some y):∃e:t=t',e▸x=y:=by
 unfold dV at h;split at h
 .rename_i e;exact⟨e,Option.some.inj h⟩
 .simp at h
theorem im:∀(e:Ty) (x:e.val),(e.row x).length=e.size
 | .I _,_=>rfl
 | .B,_=>rfl
 | .S _,_=>rfl
 | .U,_=>rfl
 | .C a b,x=>by
  show(a.row x.1++b.row x.2).length=a.size+b.size;rw [List.length_append,im a,im b]
theorem kT(fr:Bool):∀(e:Ty) (x:e.val),(bQ fr e x).length=e.size
 | .I _,_=>rfl
 | .B,_=>rfl
 | .S _,_=>rfl
 | .U,_=>rfl
 | .C a b,x=>by
  show(bQ fr a x.1++bQ fr b x.2).length=a.size+b.size;rw [List.length_append,kT fr a,kT fr b]
theorem dp(N:Nat)(fr:Bool):∀(e:Ty) (x:e.val),Scs N (bQ fr e x)
 | .I _,_=>λc hc=>by rw [List.mem_singleton.1 hc];trivial
 | .B,_=>λc hc=>by rw [List.mem_singleton.1 hc];trivial
 | .S _,_=>λc hc=>by rw [List.mem_singleton.1 hc];trivial
 | .U,_=>λc hc=>by simp [bQ]at hc
 | .C a b,x=>λc hc=>by
  rcases List.mem_append.1 (show c∈bQ fr a x.1++bQ fr b x.2 from hc)with h|h
  .exact dp N fr a x.1 c h
  .exact dp N fr b x.2 c h
section
variable {B : BK} {V : Vl}
theorem RCs.append:∀{k1 k2:List KC} {c1 c2:List C},RCs B V k1 c1->RCs B V k2 c2->RCs B V (k1++k2) (c1++c2)
 | [],k2,c1,c2,h1,h2=>by rw [show c1= []from h1];exact h2
 |k::k1,k2,c1,c2,⟨c,s,e1,h1,h3⟩,h2=>⟨c,s++c2,by rw [e1];rfl,h1,h3.append h2⟩
theorem RCs.len:∀{k:List KC} {c:List C},RCs B V k c->c.length=k.length
 | [],c,h=>by rw [show c= []from h];rfl
 |_::k,c,⟨x,s,e,_,h⟩=>by rw [e,List.length_cons,List.length_cons,h.len]
theorem RCs.drop:∀{k:List KC} {c:List C} (n:Nat),RCs B V k c->RCs B V (k.drop n) (c.drop n)
 |k,c,0,h=>h
 | [],c,n+1,h=>by rw [show c= []from h];exact rfl
 |_::k,c,n+1,⟨x,s,e,_,h⟩=>by rw [e];exact h.drop n
theorem RCs.take:∀{k:List KC} {c:List C} (n:Nat),RCs B V k c->RCs B V (k.take n) (c.take n)
 |k,c,0,h=>rfl
 | [],c,n+1,h=>by rw [show c= []from h];exact rfl
 |_::k,c,n+1,⟨x,s,e,h1,h⟩=>⟨x,s.take n,by rw [e];rfl,h1,h.take n⟩
theorem RCs.cut{k k2:List KC}{c:List C}{i n:Nat}(h:RCs B V k c)(hk:Ev.cut k i n=some k2):∃c2,Ev.cut c i n=some c2/\RCs B V k2 c2:=by
 unfold Ev.cut at hk ⊢;split at hk
 .rename_i hl;rw [if_pos (by rw [h.len];exact hl)];refine⟨_,rfl,?_⟩;rw [<-Option.some.inj hk];exact(h.drop i).take n
 .simp at hk
theorem RCs.patch{k k2 x:List KC}{c y:List C}{i:Nat}(h:RCs B V k c)(hx:RCs B V x y)(hk:Ev.patch k i x=some k2):∃c2,Ev.patch c i y=some c2/\RCs B V k2 c2:=by
 unfold Ev.patch at hk ⊢;split at hk
 .rename_i hl;rw [if_pos (by rw [h.len,hx.len];exact hl)];refine⟨_,rfl,?_⟩;rw [<-Option.some.inj hk,hx.len];exact((h.take i).append hx).append (h.drop _)
 .simp at hk
theorem fe{N:Nat}{k k2:List KC}{i n:Nat}(h:Scs N k)(hk:Ev.cut k i n=some k2):Scs N k2:=by
 unfold Ev.cut at hk;split at hk
 .rw [<-Option.some.inj hk];exact λc hc=>h c (List.mem_of_mem_drop (List.mem_of_mem_take hc))
 .simp at hk
theorem tJ{N:Nat}{k k2 x:List KC}{i:Nat}(h:Scs N k)(hx:Scs N x)(hk:Ev.patch k i x=some k2):Scs N k2:=by
 unfold Ev.patch at hk;split at hk
 .rw [<-Option.some.inj hk];intro c hc;simp only [List.mem_append]at hc;rcases hc with(hc|hc)|hc
  .exact h c (List.mem_of_mem_take hc)
  .exact hx c hc
  .exact h c (List.mem_of_mem_drop hc)
 .simp at hk
theorem cA{fr f:Bool}(hf:fr=true->f=true):∀(e:Ty) (x:e.val),RCs B V (bQ fr e x) ((e.row x).map (pC f))
 | .I _,_=>⟨_,_,rfl,rfl,rfl⟩
 | .B,_=>⟨_,_,rfl,rfl,rfl⟩
 | .S e,x=>⟨_,_,rfl,⟨f,rfl,hf⟩,rfl⟩
 | .U,_=>rfl
 | .C a b,x=>by
  show RCs B V (bQ fr a x.1++bQ fr b x.2) ((a.row x.1++b.row x.2).map (pC f));rw [List.map_append];exact(cA hf a x.1).append (cA hf b x.2)
theorem RCs.one{c:KC}{x:C}(h:RC B V c x):RCs B V [c] [x]:=⟨x,[],rfl,h,rfl⟩
theorem RCs.one_inv{c:KC}{xs:List C}(h:RCs B V [c] xs):∃x,xs= [x]/\RC B V c x:=by
 obtain⟨x,s,e,h1,h2⟩:=h;exact⟨x,by rw [e,show s= []from h2],h1⟩
theorem kU{e:Ty}{c:KC}{x:e.val}{y:C}(h:ij noB e c=some x)(hf:frC c=true)(hr:RC B V c y): [y]=(e.row x).map (pC true):=by
 unfold ij at h;split at h
 .rename_i k k' z;split at h
  .rename_i hk;subst hk;rw [<-Option.some.inj h];rw [show y=_ from hr];rfl
  .simp at h
 .rw [<-Option.some.inj h,show y=_ from hr];rfl
 .rename_i tag P d;rw [<-Option.some.inj h,hr.1,hr.2];rfl
 .rw [<-Option.some.inj h,show y=_ from hr];rfl
 .rw [<-Option.some.inj h,show y=_ from hr];rfl
 .rename_i e0 e' fr z;obtain⟨he,hx⟩:=aI h;cases he;obtain⟨f,h1,h2⟩:=hr;rw [<-hx,h1,h2 hf];rfl
 .simp [noB]at h
 .simp [noB]at h
 .simp at h
theorem jy:∀{e:Ty} {cs:List KC} {x:e.val} {ys:List C},dec noB e cs=some x->cs.all frC=true->RCs B V cs ys->ys=(e.row x).map (pC true):=by
 intro e
 induction e with
 |C a b iha ihb=>
  intro cs x ys h hf hr;unfold dec at h;simp only [zbE]at h;obtain⟨x1,h1,y1,h2,h3⟩:=h
  have:=Option.some.inj h3
  subst this;have e1:=iha h1 (List.all_eq_true.2 λc hc=>List.all_eq_true.1 hf c (List.mem_of_mem_take hc)) (hr.take a.size);have e2:=ihb h2 (List.all_eq_true.2 λc hc=>List.all_eq_true.1 hf c (List.mem_of_mem_drop hc)) (hr.drop a.size);show ys=(a.row x1++b.row y1).map (pC true);rw [List.map_append,<-e1,<-e2,List.take_append_drop]
 |U=>
  intro cs x ys h hf hr
  cases cs with
  |nil=>rw [show ys= []from hr];rfl
  |cons c r=>cases r with
   |nil=>simp [dec,ij]at h
   |cons d r=>simp [dec]at h
 |_=>
  intro cs x ys h hf hr
  cases cs with
  |nil=>simp [dec]at h
  |cons c r=>cases r with
   |nil=>
    obtain⟨y,rfl,hy⟩:=hr.one_inv;exact kU (by simpa [dec]using h) (by simpa using hf) hy
   |cons d r=>simp [dec]at h
end
end K
end Ev
end
noncomputable section
namespace Ev
namespace K
open Go Go.RowKit
def RDl(B:BK)(V:Vl):List KD->List D->Prop
 | [],ds=>ds= []
 |k::r,ds=>∃d s,ds=d::s/\RD B V k d/\RDl B V r s
theorem FF{B:BK}{V:Vl}(v:Value):RC B V (kC v) (fw v):=by
 unfold kC;split
 .rfl
 .rfl
 .rfl
 .rename_i h1 h2 h3;unfold fw;split
  .exact absurd rfl h3
  .rfl
theorem IE(N:Nat)(v:Value):Sc N (kC v):=by
 unfold kC;split<;>trivial
theorem jz{B:BK}{V:Vl}:∀l:List Value,RCs B V (l.map kC) (l.map fw)
 | []=>rfl
 |v::l=>⟨_,_,rfl,FF v,jz l⟩
theorem vD(N:Nat)(l:List Value):Scs N (l.map kC):=λc hc=>by
 obtain⟨v,_,rfl⟩:=List.mem_map.1 hc;exact IE N v
theorem zy{B:BK}{V:Vl}{v:Value}{d:KD}(h:nA v=some d):∃d',jV v=some d'/\RD B V d d':=by
 unfold nA at h;split at h
 .rename_i cs;split at h
  .rename_i ha;rw [<-Option.some.inj h];refine⟨.agg (cs.toList.map fw),?_,_,rfl,jz _⟩;unfold jV;simp only;rw [if_pos ha]
  .simp at h
 .simp at h
 .rename_i h1 h2;rw [<-Option.some.inj h];refine⟨.one (fw v),?_,_,rfl,FF v⟩;unfold jV;split
  .exact absurd rfl (h1 _)
  .exact absurd rfl (h2 _)
  .rfl
theorem BW{N:Nat}{v:Value}{d:KD}(h:nA v=some d):ScD N d:=by
 unfold nA at h;split at h
 .split at h
  .rw [<-Option.some.inj h];exact vD N _
  .simp at h
 .simp at h
 .rw [<-Option.some.inj h];exact IE N _
section
variable {F : KF} {ks : KS} {V : Vl} {f : Nat → D} {h : Heap}
theorem zA{a b:Nat}(h:a<b):Nat.blt a b=true:=by simpa using h
theorem aO(hr:Rel F ks V f h){x:Operand}{d:KD}(hx:kO F ks x=some d):∃d',ov F.nt f x=some d'/\ScD ks.nx d/\RD (aj F ks) V d d':=by
 cases x with
 |tmp i=>
  obtain⟨h1,h2,h3⟩:=hr.sl i d hx;refine⟨f i,?_,h2,h3⟩;show cond (Nat.blt i F.nt) (some (f i)) none=_;rw [zA h1];rfl
 |const v=>
  obtain⟨d',h1,h2⟩:=zy (B:=aj F ks) (V:=V) (show nA v=some d from hx);exact⟨d',h1,BW hx,h2⟩
 |global g=>simp [kO]at hx
 |func k=>
  have:=Option.some.inj (show some (KD.one (.v (.func (.func k) #[] #[])))=some d from hx)
  subst this;exact⟨_,rfl,trivial,_,rfl,rfl⟩
theorem rb(hr:Rel F ks V f h):∀{l:List Operand} {ds:List KD},fB F ks l=some ds->∃ds',l.mapM (ov F.nt f)=some ds'/\(∀d∈ds,ScD ks.nx d)/\RDl (aj F ks) V ds ds'
 | [],ds,hx=>by
  have:=Option.some.inj (show some []=some ds from hx)
  subst this;exact⟨[],rfl,by simp,rfl⟩
 |x::l,ds,hx=>by
  simp only [fB,zbE]at hx;obtain⟨d,h1,r,h2,h3⟩:=hx
  have:=Option.some.inj h3
  subst this;obtain⟨d',g1,g2,g3⟩:=aO hr h1;obtain⟨r',e1,e2,e3⟩:=rb hr h2;refine⟨d'::r',by rw [List.mapM_cons,g1,e1];rfl,?_,d',r',rfl,g3,e3⟩;intro y hy;rcases List.mem_cons.1 hy with rfl|hy
  .exact g2
  .exact e2 y hy
theorem nF(hr:Rel F ks V f h):∀{l:List (Nat×Operand)} {ps:List (Nat×KD)},qU F ks l=some ps->∃ps',pf F.nt f l=some ps'/\(∀x∈ps,ScD ks.nx x.2)/\ps'.map (·.1)=ps.map (·.1)/\RDl (aj F ks) V (ps.map (·.2)) (ps'.map (·.2))
 | [],ps,hx=>by
  have:=Option.some.inj (show some []=some ps from hx)
  subst this;exact⟨[],rfl,by simp,rfl,rfl⟩
 |(i,x)::l,ps,hx=>by
  simp only [qU,zbE]at hx;obtain⟨d,h1,r,h2,h3⟩:=hx
  have:=Option.some.inj h3
  subst this;obtain⟨d',g1,g2,g3⟩:=aO hr h1;obtain⟨r',e1,e2,e3,e4⟩:=nF hr h2;refine⟨(i,d')::r',?_,?_,?_,?_⟩
  .unfold pf at e1 ⊢;rw [List.mapM_cons,e1];simp only [g1,Option.map_some,zbB,zbS,Option.pure_def]
  .intro y hy;rcases List.mem_cons.1 hy with rfl|hy
   .exact g2
   .exact e2 y hy
  .simp only [List.map_cons,e3]
  .exact⟨d',r'.map (·.2),rfl,g3,e4⟩
def Bls(B:BK)(V:Vl)(h:Heap):Prop:=∀p b,B p=some b->RB B V h (V.id p) b
theorem Rel.bls(hr:Rel F ks V f h):Bls (aj F ks) V h:=λp b hb=>(hr.bl p b hb).2.2
theorem eX{k sz:Nat}{es:List (List C)}(hg:ai h k=some (sz,es)):HB h [[(k,sz,es)]]:=⟨by simp,λx hx=>by simp at hx;subst hx;exact hg⟩
theorem aw:HB h []:=⟨List.nodup_nil,λx hx=>by simp at hx⟩
theorem rd{r:List T}(m:Nat):(r.map (pC true)).mapM (cm h (m+1))=some (r.map λt=>(true,t)):=by
 induction r with
 |nil=>rfl
 |cons t r ih=>
  rw [List.map_cons,List.mapM_cons,ih];cases t<;>rfl
theorem xJ{B:BK}{e:Ty}{c:KC}{x:e.val}{y:C}(hB:Bls B V h)(hd:ij B e c=some x)(hr:RC B V c y):∃fl t,(∀m,cm h (m+2) y=some (fl,t))/\[t]=e.row x/\(frC c=true->fl=true):=by
 unfold ij at hd;split at hd
 .rename_i k k' z;split at hd
  .rename_i hk;subst hk;rw [<-Option.some.inj hd,show y=_ from hr];exact⟨true,_,λm=>rfl,rfl,λ_=>rfl⟩
  .simp at hd
 .rw [<-Option.some.inj hd,show y=_ from hr];exact⟨true,_,λm=>rfl,rfl,λ_=>rfl⟩
 .rename_i tag P d;rw [<-Option.some.inj hd,hr.1,hr.2];exact⟨true,_,λm=>rfl,rfl,λ_=>rfl⟩
 .rw [<-Option.some.inj hd,show y=_ from hr];exact⟨true,_,λm=>rfl,rfl,λ_=>rfl⟩
 .rw [<-Option.some.inj hd,show y=_ from hr];exact⟨true,_,λm=>rfl,rfl,λ_=>rfl⟩
 .rename_i e0 e' fr z;obtain⟨he,hx⟩:=aI hd;cases he;obtain⟨fl,h1,h2⟩:=hr;rw [<-hx,h1];exact⟨fl,_,λm=>rfl,rfl,h2⟩
 .rename_i e0 e1 p;split at hd
  .rename_i e' ne l hp;obtain⟨he,hx⟩:=aI hd;cases he;have h1:=hr _ _ _ hp;have h2:=(hB p _ hp).1;rw [<-hx,h1];exact⟨true,_,λm=>qD (r:=Ty.row _) (L:= [[(V.id p,_,l.map (aZ (Ty.row _)))]]) 0 rfl (λx h m=>rd m) h (eX h2) m,rfl,λ_=>rfl⟩
  .simp at hd
 .rename_i e0 e1 p;split at hd
  .rename_i e' l hp;obtain⟨he,hx⟩:=aI hd;cases he;have h1:=hr _ _ hp;rw [<-hx,h1]
   cases l with
   |nil=>exact⟨true,_,λm=>rfl,rfl,λ_=>rfl⟩
   |cons a l=>
    have h2:=hB p _ hp (by simp);exact⟨true,_,λm=>qD (r:=Ty.row _) (L:= [[(V.id p,_,(a::l).map (aZ (Ty.row _)))]]) 0 rfl (λx h m=>rd m) h (eX h2) m,rfl,λ_=>rfl⟩
  .simp at hd
 .simp at hd
theorem BX{B:BK}(hB:Bls B V h):∀{e:Ty} {cs:List KC} {x:e.val} {ys:List C},dec B e cs=some x->RCs B V cs ys->∃l,(∀m,ys.mapM (cm h (m+2))=some l)/\l.map (·.2)=e.row x/\(cs.all frC=true->l.all (·.1)=true):=by
 intro e
 induction e with
 |C a b iha ihb=>
  intro cs x ys hd hr;unfold dec at hd;simp only [zbE]at hd;obtain⟨x1,h1,y1,h2,h3⟩:=hd
  have:=Option.some.inj h3
  subst this;obtain⟨l1,e1,e2,e3⟩:=iha h1 (hr.take a.size);obtain⟨l2,g1,g2,g3⟩:=ihb h2 (hr.drop a.size);refine⟨l1++l2,λm=> ?_,?_,λhf=> ?_⟩
  .have:ys=ys.take a.size++ys.drop a.size:=(List.take_append_drop _ _).symm
   rw [this,List.mapM_append,e1 m,g1 m];rfl
  .rw [List.map_append,e2,g2];rfl
  .rw [List.all_append,e3 (List.all_eq_true.2 λc hc=>List.all_eq_true.1 hf c (List.mem_of_mem_take hc)),g3 (List.all_eq_true.2 λc hc=>List.all_eq_true.1 hf c (List.mem_of_mem_drop hc))];rfl
 |U=>
  intro cs x ys hd hr
  cases cs with
  |nil=>rw [show ys= []from hr];exact⟨[],λm=>rfl,rfl,λ_=>rfl⟩
  |cons c r=>cases r with
   |nil=>simp [dec,ij]at hd
   |cons d r=>simp [dec]at hd
 |_=>
  intro cs x ys hd hr
  cases cs with
  |nil=>simp [dec]at hd
  |cons c r=>cases r with
   |nil=>
    obtain⟨y,rfl,hy⟩:=hr.one_inv;obtain⟨fl,t,h1,h2,h3⟩:=xJ hB (by simpa [dec]using hd) hy;exact⟨[(fl,t)],λm=>by rw [List.mapM_cons,h1 m];rfl,h2,λhf=>by simpa using h3 (by simpa using hf)⟩
   |cons d r=>simp [dec]at hd
theorem tK{B:BK}(hB:Bls B V h){t:TyD}{d:KD}{x:t.2.val}{y:D}(hd:vu B t d=some x)(hr:RD B V d y):∃fl,br h y=some (fl,iF t x)/\(frD d=true->fl=true):=by
 obtain⟨ag,e⟩:=t
 cases d with
 |one c=>
  obtain⟨c',rfl,hc⟩:=hr;simp only [vu]at hd
  cases ag with
  |true=>simp at hd
  |false=>
   obtain⟨fl,t,h1,h2,h3⟩:=xJ hB (by simpa using hd) hc;refine⟨fl,?_,h3⟩;show(cm h 6 c').bind _=_;rw [h1 4];show some (fl,TD.one t)=some (fl,iF (false,e) x);unfold iF;simp only [<-h2]
 |agg cs=>
  obtain⟨cs',rfl,hc⟩:=hr;simp only [vu]at hd
  cases ag with
  |false=>simp at hd
  |true=>
   obtain⟨l,h1,h2,h3⟩:=BX hB (by simpa using hd) hc;refine⟨l.all (·.1),?_,h3⟩;show(cs'.mapM (cm h 6)).bind _=_;rw [h1 4];show some (l.all (·.1),TD.agg (l.map (·.2)))=some (_,iF (true,e) x);rw [h2];rfl
 |tup ts=>simp [vu]at hd
theorem kV{B:BK}(hB:Bls B V h):∀{ts:List TyD} {ds:List KD} {x:cl ts} {ys:List D},gn B ts ds=some x->RDl B V ds ys->∃l,ys.mapM (br h)=some l/\l.map (·.2)=dF ts x/\(ds.all frD=true->l.all (·.1)=true)
 | [],[],x,ys,hd,hr=>by rw [show ys= []from hr];exact⟨[],rfl,rfl,λ_=>rfl⟩
 | [],d::ds,x,ys,hd,hr=>by simp [gn]at hd
 | [t],[],x,ys,hd,hr=>by simp [gn]at hd
 | [t],[d],x,ys,hd,hr=>by
  obtain⟨y,s,rfl,h1,h2⟩:=hr;rw [show s= []from h2];obtain⟨fl,g1,g2⟩:=tK hB (show vu B t d=some x from hd) h1;exact⟨[(fl,iF t x)],by rw [List.mapM_cons,g1];rfl,rfl,λhf=>by simpa using g2 (by simpa using hf)⟩
 | [t],d::d'::ds,x,ys,hd,hr=>by simp [gn]at hd
 |t::t'::r,[],x,ys,hd,hr=>by simp [gn]at hd
 |t::t'::r,d::ds,x,ys,hd,hr=>by
  simp only [gn,zbE]at hd;obtain⟨x1,h1,y1,h2,h3⟩:=hd
  have:=Option.some.inj h3
  subst this;obtain⟨y,s,rfl,e1,e2⟩:=hr;obtain⟨fl,g1,g2⟩:=tK hB h1 e1;obtain⟨l,k1,k2,k3⟩:=kV hB h2 e2;refine⟨(fl,iF t x1)::l,by rw [List.mapM_cons,g1,k1];rfl,by rw [List.map_cons,k2];rfl,λhf=> ?_⟩;simp only [List.all_cons,Bool.and_eq_true]at hf ⊢;exact⟨g2 hf.1,k3 hf.2⟩
theorem AE{B:BK}{fr fl:Bool}(hf:fr=true->fl=true)(t:TyD)(x:t.2.val):RD1 B V (mkD (Fw fr t x)) (bu fl (iF t x)):=by
 obtain⟨ag,e⟩:=t;have hc:=cA (B:=B) (V:=V) hf e x
 cases ag with
 |true=>exact⟨_,rfl,hc⟩
 |false=>
  have hl:=kT fr e x;have hl2:=im e x
  show RD1 B V (mkD (false,bQ fr e x)) (bu fl (match e.row x with
   | [y]=> .one y
   |ys=> .agg ys))
  revert hc hl hl2
  cases bQ fr e x with
  |nil=>
   intro hc hl hl2
   cases hrw:e.row x with
   |nil=>exact⟨_,rfl,rfl⟩
   |cons y ys=>rw [hrw]at hl2;simp only [List.length_nil,List.length_cons]at hl hl2;omega
  |cons c r=>
   cases r with
   |nil=>
    intro hc hl hl2
    cases hrw:e.row x with
    |nil=>rw [hrw]at hl2;simp only [List.length_nil,List.length_cons]at hl hl2;omega
    |cons y ys=>cases ys with
     |nil=>
      rw [hrw]at hc;obtain⟨z,hz,hz2⟩:=hc.one_inv;refine⟨z,?_,hz2⟩;show D.one (pC fl y)=_;rw [show pC fl y=z from(List.cons.inj hz).1]
     |cons y2 ys=>rw [hrw]at hl2;simp only [List.length_nil,List.length_cons]at hl hl2;omega
   |cons c2 r=>
    intro hc hl hl2
    cases hrw:e.row x with
    |nil=>rw [hrw]at hl2;simp only [List.length_nil,List.length_cons]at hl hl2;omega
    |cons y ys=>cases ys with
     |nil=>rw [hrw]at hl2;simp only [List.length_nil,List.length_cons]at hl hl2;omega
     |cons y2 ys=>rw [hrw]at hc;exact⟨_,rfl,hc⟩
theorem mE{B:BK}{fr fl:Bool}(hf:fr=true->fl=true):∀(ts:List TyD) (x:cl ts),RTs B V (jc fr ts x) ((dF ts x).map (bu fl))
 | [],_=>rfl
 | [t],x=>⟨_,_,rfl,AE hf t x,rfl⟩
 |t::t'::r,x=>⟨_,_,rfl,AE hf t x.1,mE hf (t'::r) x.2⟩
theorem re(N:Nat)(fr:Bool):∀(ts:List TyD) (x:cl ts),∀y∈jc fr ts x,Scs N y.2
 | [],_=>λy hy=>by simp [jc]at hy
 | [t],x=>λy hy=>by rw [List.mem_singleton.1 (show y∈ [Fw fr t x]from hy)];exact dp N fr t.2 x
 |t::t'::r,x=>λy hy=>by
  rcases List.mem_cons.1 (show y∈Fw fr t x.1::jc fr (t'::r) x.2 from hy)with rfl|hy
  .exact dp N fr t.2 x.1
  .exact re N fr (t'::r) x.2 y hy
end
end K
end Ev
end
noncomputable section
namespace Ev
namespace K
open Go Go.RowKit
def Vl.set(V:Vl)(nid k tag:Nat)(bo:Bool):Vl:=⟨λq=>if q=nid then k else V.id q,λq=>if q=tag then bo else V.bo q⟩
theorem Vl.set_agree{N nid tag k:Nat}{bo:Bool}{V:Vl}(h1:N<=nid)(h2:N<=tag):Agree N V (V.set nid k tag bo):=λq hq=>⟨if_neg (by omega),if_neg (by omega)⟩
theorem Vl.set_id{nid tag k:Nat}{bo:Bool}{V:Vl}:(V.set nid k tag bo).id nid=k:=if_pos rfl
theorem Vl.set_bo{nid tag k:Nat}{bo:Bool}{V:Vl}:(V.set nid k tag bo).bo tag=bo:=if_pos rfl
def Be(F:KF)(ks:KS)(nid:Nat)(e:KE):BK:=aj F {ks with bl:=blE e nid ks.bl}
def KB.like(b0 b:KB):Prop:=
 match b with
 | .rows _ _ l=>∃e0 n0 l0,b0= .rows e0 n0 l0/\l0.length=l.length
 | .mrows _ l=>∃e0 l0,b0= .mrows e0 l0/\l0.length=l.length
 |_=>True
structure FG(B':BK)(V' V:Vl)(ks:KS)(k:Nat)(e:KE)(u:List (Nat×Blk)):Prop where
 real:∃uo un,u=uo++un/\
  (match e.upd with
   |none=>uo= []
   |some (p,b)=>(∃x,uo= [(V.id p,x)]/\BlkIs B' V' x b/\∀b0,af ks.bl p=some b0->b0.there)∨(uo= []/\¬b.there/\∀b0,af ks.bl p=some b0->¬b0.there))/\
  (match e.new with
   |none=>un= []
   |some b=>(∃x,un= [(k,x)]/\BlkIs B' V' x b/\b.there)∨(un= []/\¬b.there))
structure bF(E:Env)(n:Nat)(F:KF)(ks:KS)(V:Vl)(f:Nat->D)(h:Heap)(M tag nid:Nat)(op:Op)(e:KE):Prop where
 upd:∀p b,e.upd=some (p,b)->∃b0,af ks.bl p=some b0/\b0≠ .dead/\ScB ks.nx b/\b0.like b
 new:∀b,e.new=some b->ScB ks.nx b/\b≠ .dead
 sc:ScD M (iA tag e.v)
 run:∃bo,∀k,∃v u,stepG E (cpR E n) none k op (ar (tab F.nt f)) h=some ⟨v,u⟩/\RD (Be F ks nid e) (V.set nid k tag bo) (iA tag e.v) v/\FG (Be F ks nid e) (V.set nid k tag bo) V ks k e u
def HU(P:Program)(ty:TypeId)(kinds:List IntKind):Prop:=∀(x y:Operand) (l:List (Int×Int)),l.length=kinds.length->
 ae P (do eqGuard .eql ty x y (.agg ((kinds.zip l).map λz=>Value.int z.1 z.2.1).toArray) (.agg ((kinds.zip l).map λz=>Value.int z.1 z.2.2).toArray);binOp .eql ty (.agg ((kinds.zip l).map λz=>Value.int z.1 z.2.1).toArray) (.agg ((kinds.zip l).map λz=>Value.int z.1 z.2.2).toArray))=some (.bool (@decide (eqP l) (eqD l)))/\
 ae P (do eqGuard .neq ty x y (.agg ((kinds.zip l).map λz=>Value.int z.1 z.2.1).toArray) (.agg ((kinds.zip l).map λz=>Value.int z.1 z.2.2).toArray);binOp .neq ty (.agg ((kinds.zip l).map λz=>Value.int z.1 z.2.1).toArray) (.agg ((kinds.zip l).map λz=>Value.int z.1 z.2.2).toArray))=some (.bool (!(@decide (eqP l) (eqD l))))
def AF(E:Env)(n:Nat)(k:FuncId)(vs:List TD):(o:OutK)->o.val->Prop
 | .data true ts,x=>RunsP E n k vs (.fresh,dF ts x)
 | .data false ts,x=>NX E n k vs (dF ts x)
 | .own e,l=>RunsP E n k vs (.own,[.one (.s true e.size (l.map e.row))])
 | .mown e,l=>RunsP E n k vs (BM e.size e.row l)
 | .gown e,s=>RunsP E n k vs (bif s.nn then .own else .fresh,[.one (.s s.nn s.sz (s.l.map e.row))])
def cn(E:Env)(en:cK):Prop:=∀m a out,en.f a=some out->AF E (m+en.d) en.k (dF en.ins a) en.out out
structure GOk(G:KG)(E:Env)(D:Nat):Prop where
 ok:E.Ok
 ti:∀t i,af G.ti t=some i->E.ti t=some i
 eqs:∀ty kinds,af G.eqs ty=some kinds->HU E.P ty kinds
 fns:∀en∈G.fns,en.d<=D/\cn E en
 fi:∀k f,af G.fi k=some f->E.fn k=some f/\E.ax k=some λ_=>none
section
variable {E : Env} {n : Nat} {F : KF} {ks : KS} {V : Vl} {f : Nat → D} {h : Heap} {M tag nid : Nat} {op : Op} {G : KG} {D0 : Nat}
theorem HW{nid:Nat}{v:KD}:Be F ks nid ⟨v,none,none⟩=aj F ks:=rfl
theorem av{α:Type}{q:Nat}{b:α}{l:List (Nat×α)}{p:Nat}:af ((q,b)::l) p=if p=q then some b else af l p:=by
 show cond (Nat.beq q p) (some b) (af l p)=_;by_cases h:p=q
 .subst h;rw [if_pos rfl,show Nat.beq p p=true from Nat.beq_refl p];rfl
 .rw [if_neg h]
  cases hb:Nat.beq q p with
  |true=>exact absurd (Nat.eq_of_beq_eq_true hb).symm h
  |false=>rfl
theorem eY{q:Nat}{b:KB}{bl:List (Nat×KB)}{p:Nat}(hb:b≠ .dead):aj F {ks with bl:=(q,b)::bl} p=if p=q then some b else aj F {ks with bl:=bl} p:=by
 by_cases hp:p=q
 .subst hp;rw [if_pos rfl];unfold aj aH;simp only [av,if_true]
  cases b with
  |dead=>exact absurd rfl hb
  |_=>rfl
 .rw [if_neg hp];unfold aj aH;simp only [av,if_neg hp]
theorem tL{q:Nat}{bl:List (Nat×KB)}{p:Nat}:aj F {ks with bl:=(q,.dead)::bl} p=if p=q then none else aj F {ks with bl:=bl} p:=by
 by_cases hp:p=q
 .subst hp;rw [if_pos rfl];unfold aj aH;simp only [av,if_true]
 .rw [if_neg hp];unfold aj aH;simp only [av,if_neg hp]
theorem ah{p:Nat}{b:KB}(h:af ks.bl p=some b)(hb:b≠ .dead):aj F ks p=some b:=by
 unfold aj aH;rw [h]
 cases b with
 |dead=>exact absurd rfl hb
 |_=>rfl
theorem vE(hn:ks.nx<=nid){e:KE}(hu:∀p b,e.upd=some (p,b)->∃b0,af ks.bl p=some b0/\b0≠ .dead/\b0.like b)(hnew:∀b,e.new=some b->b≠ .dead):LeB ks.nx (aj F ks) (Be F ks nid e):=by
 have h1:LeB ks.nx (aj F ks) (aj F {ks with bl:=blU e ks.bl}):=by
  unfold blU
  cases hx:e.upd with
  |none=>exact LeB.refl _ _
  |some x=>
   obtain⟨p0,b⟩:=x;obtain⟨b0,g1,g2,g3⟩:=hu p0 b hx;have g1':=ah (F:=F) g1 g2;intro p hp;by_cases hb:b= .dead
   .subst hb;simp only [tL];by_cases hpp:p=p0
    .simp [hpp]
    .simp only [if_neg hpp];exact⟨λe ne l h=>⟨e,ne,l,h,rfl⟩,λe l h=>⟨e,l,h,rfl⟩⟩
   .simp only [eY hb];by_cases hpp:p=p0
    .subst hpp;simp only [if_pos rfl];refine⟨λe ne l h=> ?_,λe l h=> ?_⟩
     .have:=Option.some.inj h
      subst this;obtain⟨e0,n0,l0,k1,k2⟩:=g3;exact⟨e0,n0,l0,by rw [g1',k1],k2⟩
     .have:=Option.some.inj h
      subst this;obtain⟨e0,l0,k1,k2⟩:=g3;exact⟨e0,l0,by rw [g1',k1],k2⟩
    .simp only [if_neg hpp];exact⟨λe ne l h=>⟨e,ne,l,h,rfl⟩,λe l h=>⟨e,l,h,rfl⟩⟩
 unfold Be blE
 cases hx:e.new with
 |none=>exact h1
 |some b=>
  intro p hp;simp only [eY (hnew b hx),if_neg (show¬p=nid by omega)];exact h1 p hp
theorem fm{d:KD}(h:∀x,d≠ .one (.bv x)):iA tag d=d:=by
 unfold iA;split
 .exact absurd rfl (h _)
 .rfl
theorem ap{d:KD}{v:D}(ht:ks.nx<=tag)(hn:ks.nx<=nid)(htM:tag<M)(hv:∀k,stepG E (cpR E n) none k op (ar (tab F.nt f)) h=some ⟨v,[]⟩)(hs:ScD ks.nx d)(hd:RD (aj F ks) V d v):bF E n F ks V f h M tag nid op ⟨d,none,none⟩:=by
 have hM:ks.nx<=M:=by omega
 refine⟨λp b hb=>by simp at hb,λb hb=>by simp at hb,?_,?_⟩
 .unfold iA;split
  .exact htM
  .exact hs.mono hM
 .refine⟨match d with
   | .one (.bv x)=>x
   |_=>false,λk=>⟨v,[],hv k,?_,⟨[],[],rfl,rfl,rfl⟩⟩⟩
  rw [HW];by_cases hb:∃x,d= .one (.bv x)
  .obtain⟨x,rfl⟩:=hb;obtain⟨c,rfl,hc⟩:=hd;refine⟨_,rfl,?_,?_⟩
   .rw [Vl.set_bo];exact hc
   .rw [Vl.set_bo];cases x<;>rfl
  .rw [fm (λx hx=>hb ⟨x,hx⟩)];exact hd.mono hs (LeB.refl _ _) (Vl.set_agree hn ht)
theorem cH{P:Prop}{d:Decidable P}{b:Bool}(ht:ks.nx<=tag)(hn:ks.nx<=nid)(htM:tag<M)(hv:∀k,stepG E (cpR E n) none k op (ar (tab F.nt f)) h=some ⟨bD b,[]⟩)(hb:b= @decide P d):bF E n F ks V f h M tag nid op ⟨.one (.p tag P d),none,none⟩:=by
 refine⟨λp b hb=>by simp at hb,λb hb=>by simp at hb,htM,b,λk=>⟨_,[],hv k,⟨_,rfl,?_,?_⟩,⟨[],[],rfl,rfl,rfl⟩⟩⟩
 .rw [Vl.set_bo]
 .rw [Vl.set_bo];exact hb
theorem io{d:KD}{b:KB}(hM:ks.nx<=M)(ht:ks.nx<=tag)(hn:ks.nx<=nid)(hb:ks.nx<=nid->ScB ks.nx b/\b≠ .dead)(hd:ScD M d)(hnb:∀x,d≠ .one (.bv x))
  (hv:∀k,(b.there/\∃v x,stepG E (cpR E n) none k op (ar (tab F.nt f)) h=some ⟨v,[(k,x)]⟩/\RD (Be F ks nid ⟨d,none,some b⟩) (V.set nid k tag false) d v/\BlkIs (Be F ks nid ⟨d,none,some b⟩) (V.set nid k tag false) x b)∨(¬b.there/\∃v,stepG E (cpR E n) none k op (ar (tab F.nt f)) h=some ⟨v,[]⟩/\RD (Be F ks nid ⟨d,none,some b⟩) (V.set nid k tag false) d v)):bF E n F ks V f h M tag nid op ⟨d,none,some b⟩:=by
 refine⟨λp b hb=>by simp at hb,λb' hb'=>by simp at hb';subst hb';exact hb hn,by rw [fm hnb];exact hd,false,λk=> ?_⟩;rcases hv k with⟨h0,v,x,h1,h2,h3⟩|⟨h0,v,h1,h2⟩
 .exact⟨v,_,h1,by rw [fm hnb];exact h2,⟨[],[(k,x)],rfl,rfl,.inl ⟨x,rfl,h3,h0⟩⟩⟩
 .exact⟨v,_,h1,by rw [fm hnb];exact h2,⟨[],[],rfl,rfl,.inr ⟨rfl,h0⟩⟩⟩
theorem vF{d:KD}{v:D}{p:Nat}{b0 b:KB}{x:Blk}(ht:ks.nx<=tag)(hn:ks.nx<=nid)(hM:ks.nx<=M)(hp:af ks.bl p=some b0)(h0:b0≠ .dead)(hth:b0.there)(hsc:ScB ks.nx b)(hl:b0.like b)(hd:ScD ks.nx d)(hnb:∀x,d≠ .one (.bv x))
  (hv:∀k,stepG E (cpR E n) none k op (ar (tab F.nt f)) h=some ⟨v,[(V.id p,x)]⟩) (hrd:RD (aj F ks) V d v) (hx:BlkIs (aj F ks) V x b):bF E n F ks V f h M tag nid op ⟨d,some (p,b),none⟩:=by
 have hle:LeB ks.nx (aj F ks) (Be F ks nid ⟨d,some (p,b),none⟩):=vE hn (λp' b' hb'=>by simp at hb';obtain⟨rfl,rfl⟩:=hb';exact⟨b0,hp,h0,hl⟩) (λb hb=>by simp at hb);refine⟨λp' b' hb'=>by simp at hb';obtain⟨rfl,rfl⟩:=hb';exact⟨b0,hp,h0,hsc,hl⟩,λb' hb'=>by simp at hb',by rw [fm hnb];exact hd.mono hM,false,λk=>⟨v,_,hv k,by rw [fm hnb];exact hrd.mono hd hle (Vl.set_agree hn ht),⟨[(V.id p,x)],[],rfl,.inl ⟨x,rfl,?_,λb1 hb1=>by rw [hp]at hb1;cases hb1;exact hth⟩,rfl⟩⟩⟩
 cases b with
 |box cs=>obtain⟨sz,cs',g1,g2⟩:=hx;exact⟨sz,cs',g1,g2.mono hsc hle (Vl.set_agree hn ht)⟩
 |rows e ne l=>exact hx
 |mrows e l=>exact hx
 |dead=>exact hx
theorem vG(hG:GOk G E D0){t:TypeId}{z:Nat×Bool}(h:Fx G.ti t=some z):dU E.ti t=some z:=by
 unfold Fx at h;split at h
 .rename_i i hi;unfold dU;rw [hG.ti _ _ hi];exact h
 .simp at h
theorem pm(hG:GOk G E D0){t:TypeId}{m:Nat}{z:Nat×Nat×Bool}(h:HJ G.ti t m=some z):fieldAt E.ti t m=some z:=by
 unfold HJ at h;split at h
 .rename_i i hi;split at h
  .rename_i fd hfd;split at h
   .rename_i ft hft;unfold fieldAt;rw [hG.ti _ _ hi];simp only [zbS,hfd,hG.ti _ _ hft];exact h
   .simp at h
  .simp at h
 .simp at h
theorem ce(hG:GOk G E D0){ty te z:Nat}{e:Ty}(h:G.elem ty=some (te,e,z)):∃t i2,E.ti ty=some t/\aA t=some te/\E.ti te=some i2/\i2.size=z/\af G.ti te=some i2/\cu E.ti ty=some z/\t.desc= .slice te:=by
 unfold KG.elem at h;split at h
 .rename_i t ht;split at h
  .rename_i e1 he1;split at h
   .rename_i i2 hi2;simp only [Option.map_eq_some_iff,Prod.mk.injEq]at h;obtain⟨x,_,rfl,rfl,rfl⟩:=h;refine⟨t,i2,hG.ti _ _ ht,he1,hG.ti _ _ hi2,rfl,hi2,?_,?_⟩
    .unfold cu;rw [hG.ti _ _ ht];simp only [zbS,he1,hG.ti _ _ hi2]
    .unfold aA at he1;split at he1
     .rename_i e2 hd;rw [hd];cases he1;rfl
     .simp at he1
   .simp at h
  .simp at h
 .simp at h
theorem vH{α:Type}{l:List α}{i:Int}{y:α}(h:atL l i=some y):l≠[]:=by
 obtain⟨_,h2⟩:=mq h;intro he;rw [he]at h2;simp at h2
theorem rg(e:Ty)(x:e.val):(aZ e.row x).length=e.size:=by
 unfold aZ;rw [List.length_map,im]
theorem gW{e:Ty}{l:List e.val}{i:Int}{y:e.val}(h:atL l i=some y):0<=i/\(l.map (aZ e.row))[i.toNat]? =some ((e.row y).map (pC true)):=by
 obtain⟨h1,h2⟩:=mq h;exact⟨h1,aJ h2⟩
end
end K
end Ev
end
noncomputable section
namespace Ev
namespace K
open Go Go.RowKit
section
variable {E : Env} {n : Nat} {F : KF} {ks : KS} {V : Vl} {f : Nat → D} {h : Heap} {M tag nid : Nat} {op : Op} {G : KG} {D0 : Nat} {R : Type} {κ : KE → Option R} {r : R}
theorem rh{B:BK}{N:Nat}{d:KD}{cs:List KC}{d':D}(hk:kCs d=some cs)(hs:ScD N d)(hd:RD B V d d'):∃cs',ea d'=some cs'/\RCs B V cs cs'/\Scs N cs:=by
 cases d with
 |one c=>
  have:=Option.some.inj (show some [c]=some cs from hk)
  subst this;obtain⟨c',rfl,hc⟩:=hd;exact⟨[c'],rfl,.one hc,λx hx=>by rw [List.mem_singleton.1 hx];exact hs⟩
 |agg l=>
  have:=Option.some.inj (show some l=some cs from hk)
  subst this;obtain⟨c',rfl,hc⟩:=hd;exact⟨c',rfl,hc,hs⟩
 |tup ts=>simp [kCs]at hk
theorem dX{B:BK}{ag:Bool}{cs:List KC}{cs':List C}{d:KD}{N:Nat}(hk:kOf ag cs=some d)(hs:Scs N cs)(hr:RCs B V cs cs'):∃d',bY ag cs'=some d'/\RD B V d d'/\ScD N d:=by
 unfold kOf at hk
 cases ag with
 |true=>
  have:=Option.some.inj (by simpa using hk)
  subst this;exact⟨.agg cs',rfl,⟨_,rfl,hr⟩,hs⟩
 |false=>
  cases cs with
  |nil=>simp at hk
  |cons c l=>cases l with
   |nil=>
    have:=Option.some.inj (by simpa using hk)
    subst this;obtain⟨y,rfl,hy⟩:=hr.one_inv;exact⟨.one y,rfl,⟨_,rfl,hy⟩,hs c (by simp)⟩
   |cons c2 l=>simp at hk
theorem AG{e:Ty}{l:List e.val}{i:Nat}{y:e.val}:(l.map (aZ e.row)).set i ((e.row y).map (pC true))=(l.set i y).map (aZ e.row):=map_set (r:=aZ e.row)
theorem HX(hG:GOk G E D0)(hr:Rel F ks V f h)(ht:ks.nx<=tag)(hn:ks.nx<=nid)(htM:tag<M){t:TypeId}{a:Operand}(hs:bp G F ks tag nid (.load t a) κ=some r):∃e,κ e=some r/\bF E n F ks V f h M tag nid (.load t a) e:=by
 simp only [bp]at hs;split at hs
 .rename_i z d hz hd;have hz':=vG hG hz;obtain⟨d',h1,h2,h3⟩:=aO hr hd
  cases d with
  |tup ts=>simp [eK]at hs
  |agg cs=>simp [eK]at hs
  |one c=>
   obtain⟨c',rfl,hc⟩:=h3
   cases c with
   |ptr p j=>
    simp only [eK]at hs;split at hs
    .rename_i cs hp;simp only [zbE]at hs;obtain⟨d2,⟨cs2,g1,g2⟩,g3⟩:=hs;obtain⟨g4,g5,sz,cs',g6,g7⟩:=hr.bl p _ hp;obtain⟨c2,g8,g9⟩:=g7.cut g1;obtain⟨d3,k1,k2,k3⟩:=dX g2 (fe g5 g1) g9;rw [show c'=_ from hc]at h1;exact⟨_,g3,ap ht hn htM (λk=>ve (L:= [[(V.id p,sz,[cs'])]]) 0 h1 hz' rfl rfl g8 k1 h k (eX g6)) k3 k2⟩
    .simp at hs
   |ip e fr x i y j=>
    simp only [eK,zbE]at hs;obtain⟨d2,⟨cs2,g1,g2⟩,g3⟩:=hs;obtain⟨fl,e1,e2,e3⟩:=hc;obtain⟨c2,g8,g9⟩:=(cA (B:=aj F ks) (V:=V) e3 e y).cut g1;obtain⟨d3,k1,k2,k3⟩:=dX g2 (fe (dp ks.nx fr e y) g1) g9;rw [e1]at h1;exact⟨_,g3,ap ht hn htM (λk=>aM (L:= []) h1 hz' (aJ e2) g8 k1 h k aw) k3 k2⟩
   |pe p i j=>
    simp only [eK]at hs;rw [hc.2]at h1;split at hs
    .rename_i e ne l hp;simp only [zbE]at hs;obtain⟨y,g0,d2,⟨cs2,g1,g2⟩,g3⟩:=hs;obtain⟨g4,g5,g6,_⟩:=hr.bl p _ hp;obtain⟨c2,g8,g9⟩:=(cA (B:=aj F ks) (V:=V) (λ_=>rfl) e y).cut g1;obtain⟨d3,k1,k2,k3⟩:=dX g2 (fe (dp ks.nx true e y) g1) g9;exact⟨_,g3,ap ht hn htM (λk=>ve (L:= [[(V.id p,_,_)]]) 0 h1 hz' rfl (gW g0).2 g8 k1 h k (eX g6)) k3 k2⟩
    .rename_i e l hp;simp only [zbE]at hs;obtain⟨y,g0,d2,⟨cs2,g1,g2⟩,g3⟩:=hs;obtain⟨g4,g5,g6⟩:=hr.bl p _ hp;have g6:=g6 (vH g0);obtain⟨c2,g8,g9⟩:=(cA (B:=aj F ks) (V:=V) (λ_=>rfl) e y).cut g1;obtain⟨d3,k1,k2,k3⟩:=dX g2 (fe (dp ks.nx true e y) g1) g9;exact⟨_,g3,ap ht hn htM (λk=>ve (L:= [[(V.id p,_,_)]]) 0 h1 hz' rfl (gW g0).2 g8 k1 h k (eX g6)) k3 k2⟩
    .simp at hs
   |_=>simp [eK]at hs
 .simp at hs
theorem FH(hG:GOk G E D0)(hr:Rel F ks V f h)(ht:ks.nx<=tag)(hn:ks.nx<=nid)(htM:tag<M){t:TypeId}{a x:Operand}(hs:bp G F ks tag nid (.store t a x) κ=some r):∃e,κ e=some r/\bF E n F ks V f h M tag nid (.store t a x) e:=by
 have hM:ks.nx<=M:=by omega
 simp only [bp]at hs;split at hs
 .rename_i z d v hz hd hx;have hz':=vG hG hz;obtain⟨d',h1,h2,h3⟩:=aO hr hd;obtain⟨v',x1,x2,x3⟩:=aO hr hx;unfold qA at hs;split at hs
  .simp at hs
  .rename_i cs hcs;obtain⟨cs',y1,y2,y3⟩:=rh hcs x2 x3;split at hs
   .rename_i hlen;have hlen':Nat.beq cs'.length z.1=true:=by rw [y2.len,hlen];exact Nat.beq_refl _
    split at hs
    .rename_i p j;obtain⟨c',rfl,hc⟩:=h3;rw [show c'=_ from hc]at h1;split at hs
     .rename_i es hp;simp only [zbE]at hs;obtain⟨es',g1,g2⟩:=hs;obtain⟨g4,g5,sz,es2,g6,g7⟩:=hr.bl p _ (ah hp (by simp));obtain⟨e3,k1,k2⟩:=g7.patch y2 g1;exact⟨_,g2,vF ht hn hM hp (by simp) trivial (tJ g5 y3 g1) trivial (by intro z hz;simp at hz) (by intro z hz;simp [kUn]at hz) (λk=>(vh (L:= [[(V.id p,sz,[es2])]]) 0 h1 x1 y1 hz' hlen' rfl rfl k1 rfl).2 h k (eX g6)) ⟨[],rfl,rfl⟩ ⟨sz,e3,rfl,k2⟩⟩
     .simp at hs
    .rename_i p i j;obtain⟨c',rfl,hc⟩:=h3;rw [hc.2]at h1;split at hs
     .rename_i e ne l hp;split at hs
      .rename_i hfr;simp only [zbE]at hs;obtain⟨y,g0,es',g1,y',g2,g3⟩:=hs;obtain⟨g4,g5,g6,g7⟩:=hr.bl p _ (ah hp (by simp));obtain⟨e3,k1,k2⟩:=(cA (B:=aj F ks) (V:=V) (λ_=>rfl) e y).patch y2 g1
       have hfr2:es'.all frC=true:=by
        have hk:∀c∈bQ true e y,frC c=true:=fr_kcells e y;unfold Ev.patch at g1;split at g1
        .rw [<-Option.some.inj g1,List.all_append,List.all_append,hfr];rw [List.all_eq_true.2 λc hc=>hk c (List.mem_of_mem_take hc),List.all_eq_true.2 λc hc=>hk c (List.mem_of_mem_drop hc)];rfl
        .simp at g1
       have:=jy g2 hfr2 k2
       subst this;refine⟨_,g3,vF ht hn hM hp (by simp) trivial trivial ⟨_,_,_,rfl,by rw [List.length_set]⟩ (by intro z hz;simp at hz) (by intro z hz;simp [kUn]at hz) (λk=>(vh (L:= [[(V.id p,_,_)]]) 0 h1 x1 y1 hz' hlen' rfl (gW g0).2 k1 rfl).2 h k (eX g6)) ⟨[],rfl,rfl⟩ ⟨by rw [AG],λhne=> ?_⟩⟩
       have:=g7 hne
       intro he;exact this (by have:=congrArg List.length he;rw [List.length_set]at this;exact List.length_eq_zero_iff.1 this)
      .simp at hs
     .rename_i e l hp;split at hs
      .rename_i hfr;simp only [zbE]at hs;obtain⟨y,g0,es',g1,y',g2,g3⟩:=hs;obtain⟨g4,g5,g6⟩:=hr.bl p _ (ah hp (by simp));have hne:=vH g0;have g6:=g6 hne;obtain⟨e3,k1,k2⟩:=(cA (B:=aj F ks) (V:=V) (λ_=>rfl) e y).patch y2 g1
       have hfr2:es'.all frC=true:=by
        have hk:∀c∈bQ true e y,frC c=true:=fr_kcells e y;unfold Ev.patch at g1;split at g1
        .rw [<-Option.some.inj g1,List.all_append,List.all_append,hfr];rw [List.all_eq_true.2 λc hc=>hk c (List.mem_of_mem_take hc),List.all_eq_true.2 λc hc=>hk c (List.mem_of_mem_drop hc)];rfl
        .simp at g1
       have:=jy g2 hfr2 k2
       subst this;exact⟨_,g3,vF ht hn hM hp (by simp) hne trivial ⟨_,_,rfl,by rw [List.length_set]⟩ (by intro z hz;simp at hz) (by intro z hz;simp [kUn]at hz) (λk=>(vh (L:= [[(V.id p,_,_)]]) 0 h1 x1 y1 hz' hlen' rfl (gW g0).2 k1 rfl).2 h k (eX g6)) ⟨[],rfl,rfl⟩ (by rw [AG];rfl)⟩
      .simp at hs
     .simp at hs
    .simp at hs
   .simp at hs
 .simp at hs
where
 fr_kcells:∀(e:Ty) (y:e.val),∀c∈bQ true e y,frC c=true
  | .I _,_=>λc hc=>by rw [List.mem_singleton.1 hc];rfl
  | .B,_=>λc hc=>by rw [List.mem_singleton.1 hc];rfl
  | .S _,_=>λc hc=>by rw [List.mem_singleton.1 hc];rfl
  | .U,_=>λc hc=>by simp [bQ]at hc
  | .C a b,x=>λc hc=>by
   rcases List.mem_append.1 (show c∈bQ true a x.1++bQ true b x.2 from hc)with h|h
   .exact fr_kcells a x.1 c h
   .exact fr_kcells b x.2 c h
theorem AH(hr:Rel F ks V f h)(ht:ks.nx<=tag)(hn:ks.nx<=nid)(htM:tag<M){x:Operand}{o:Op}(ho:o= .move x∨o= .assign x)(hs:(kO F ks x).bind (λd=>κ ⟨d,none,none⟩)=some r):∃e,κ e=some r/\bF E n F ks V f h M tag nid o e:=by
 simp only [zbE]at hs;obtain⟨d,hx,hk⟩:=hs;obtain⟨d',h1,h2,h3⟩:=aO hr hx;rcases ho with rfl|rfl
 .exact⟨_,hk,ap ht hn htM (λk=>ET (L:= []) h1 h k aw) h2 h3⟩
 .exact⟨_,hk,ap ht hn htM (λk=>xo (L:= []) h1 h k aw) h2 h3⟩
theorem FJ(hG:GOk G E D0)(ht:ks.nx<=tag)(hn:ks.nx<=nid)(htM:tag<M)(hnM:nid<M){t:TypeId}(hs:bp G F ks tag nid (.alloc t) κ=some r):∃e,κ e=some r/\bF E n F ks V f h M tag nid (.alloc t) e:=by
 simp only [bp]at hs;split at hs
 .rename_i i hi;refine⟨_,hs,io (by omega) ht hn (λ_=>⟨vD _ _,by simp⟩) hnM (by simp) λk=> .inl ⟨trivial,_,_,Hc (L:= []) (hG.ti _ _ hi) rfl rfl h k aw,⟨_,rfl,?_⟩,_,_,rfl,jz _⟩⟩;show C.ptr k 0 0= .ptr _ 0 0;rw [Vl.set_id]
 .simp at hs
theorem Ly(hG:GOk G E D0)(hr:Rel F ks V f h)(ht:ks.nx<=tag)(hn:ks.nx<=nid)(htM:tag<M)(hnM:nid<M){t:TypeId}{x:Operand}(hs:bp G F ks tag nid (.box t x) κ=some r):∃e,κ e=some r/\bF E n F ks V f h M tag nid (.box t x) e:=by
 simp only [bp]at hs;split at hs
 .rename_i i cs hi hcs;simp only [zbE]at hcs;obtain⟨d,hd,hcs⟩:=hcs;obtain⟨d',h1,h2,h3⟩:=aO hr hd;obtain⟨cs',y1,y2,y3⟩:=rh hcs h2 h3;refine⟨_,hs,io (by omega) ht hn (λ_=>⟨y3,by simp⟩) hnM (by simp) λk=> .inl ⟨trivial,_,_,NW (L:= []) (hG.ti _ _ hi) h1 y1 rfl h k aw,⟨_,rfl,?_⟩,_,_,rfl,y2.mono y3 (vE hn (λp b hb=>by simp at hb) (λb hb=>by simp at hb;subst hb;simp)) (Vl.set_agree hn ht)⟩⟩;show C.ptr k 0 0= .ptr _ 0 0;rw [Vl.set_id]
 .simp at hs
theorem vI(hG:GOk G E D0)(hr:Rel F ks V f h)(ht:ks.nx<=tag)(hn:ks.nx<=nid)(htM:tag<M){t:TypeId}{x:Operand}{m:Nat}(hs:bp G F ks tag nid (.fieldAddr t x m) κ=some r):∃e,κ e=some r/\bF E n F ks V f h M tag nid (.fieldAddr t x m) e:=by
 simp only [bp]at hs;split at hs
 .rename_i off sz ag p j hf hx;obtain⟨d',h1,h2,c',rfl,hc⟩:=aO hr hx;split at hs
  .simp at hs
  .rename_i hz;rw [show c'=_ from hc]at h1;exact⟨_,hs,ap ht hn htM (λk=>xq (L:= []) h1 (pm hG hf) (by cases hb:Nat.beq sz 0 with|true=>exact absurd (Nat.eq_of_beq_eq_true hb) hz|false=>rfl) h k aw) h2 ⟨_,rfl,rfl⟩⟩
 .rename_i off sz ag p i j hf hx;obtain⟨d',h1,h2,c',rfl,hc⟩:=aO hr hx;split at hs
  .simp at hs
  .rename_i hz;rw [hc.2]at h1;exact⟨_,hs,ap ht hn htM (λk=>xq (L:= []) h1 (pm hG hf) (by cases hb:Nat.beq sz 0 with|true=>exact absurd (Nat.eq_of_beq_eq_true hb) hz|false=>rfl) h k aw) h2 ⟨_,rfl,hc.1,rfl⟩⟩
 .rename_i off sz ag e fr s i y j hf hx;obtain⟨d',h1,h2,c',rfl,fl,hc,hc2,hc3⟩:=aO hr hx;split at hs
  .simp at hs
  .rename_i hz;rw [hc]at h1;exact⟨_,hs,ap ht hn htM (λk=>cz (L:= []) h1 (pm hG hf) (by cases hb:Nat.beq sz 0 with|true=>exact absurd (Nat.eq_of_beq_eq_true hb) hz|false=>rfl) h k aw) h2 ⟨_,rfl,fl,rfl,hc2,hc3⟩⟩
 .simp at hs
theorem FK(hG:GOk G E D0)(hr:Rel F ks V f h)(ht:ks.nx<=tag)(hn:ks.nx<=nid)(htM:tag<M){t:TypeId}{x:Operand}{m:Nat}(hs:bp G F ks tag nid (.field t x m) κ=some r):∃e,κ e=some r/\bF E n F ks V f h M tag nid (.field t x m) e:=by
 simp only [bp]at hs;split at hs
 .rename_i off sz ag cs hf hx;simp only [zbE]at hs;obtain⟨d2,⟨cs2,g1,g2⟩,g3⟩:=hs;obtain⟨d',h1,h2,cs',rfl,hc⟩:=aO hr hx;obtain⟨c2,g8,g9⟩:=hc.cut g1;obtain⟨d3,k1,k2,k3⟩:=dX g2 (fe h2 g1) g9;exact⟨_,g3,ap ht hn htM (λk=>EW (L:= []) h1 (pm hG hf) g8 k1 h k aw) k3 k2⟩
 .simp at hs
theorem AI{B:BK}:∀{l:List (Bool×List KC)} {ds:List D} {i:Nat} {x:Bool×List KC},RTs B V l ds->l[i]? =some x->∃d,ds[i]? =some d/\RD1 B V (mkD x) d
 | [],ds,i,x,hr,hx=>by simp at hx
 |y::l,ds,0,x,⟨d,s,hd,h1,h2⟩,hx=>by simp at hx;subst hx hd;exact⟨d,rfl,h1⟩
 |y::l,ds,i+1,x,⟨d,s,hd,h1,h2⟩,hx=>by subst hd;simpa using AI h2 (by simpa using hx)
theorem zB{B:BK}{k:KD}{d:D}(h:RD1 B V k d):RD B V k d:=by
 cases k with
 |one c=>exact h
 |agg cs=>exact h
 |tup ts=>exact h.elim
theorem zC(hr:Rel F ks V f h)(ht:ks.nx<=tag)(hn:ks.nx<=nid)(htM:tag<M){x:Operand}{i:Nat}(hs:bp G F ks tag nid (.extract x i) κ=some r):∃e,κ e=some r/\bF E n F ks V f h M tag nid (.extract x i) e:=by
 simp only [bp]at hs;split at hs
 .rename_i ds hx;simp only [zbE]at hs;obtain⟨d,g1,g2⟩:=hs;obtain⟨d',h1,h2,ds',rfl,hc⟩:=aO hr hx;obtain⟨d3,k1,k2⟩:=AI hc g1;exact⟨_,g2,ap ht hn htM (λk=>mr (L:= []) h1 k1 h k aw) (pk (h2 _ (List.mem_of_getElem? g1))) (zB k2)⟩
 .simp at hs
theorem HZ(hr:Rel F ks V f h)(ht:ks.nx<=tag)(hn:ks.nx<=nid)(htM:tag<M){o:UnOp}{t:TypeId}{x:Operand}(hs:bp G F ks tag nid (.unOp o t x) κ=some r):∃e,κ e=some r/\bF E n F ks V f h M tag nid (.unOp o t x) e:=by
 simp only [bp]at hs;split at hs
 .rename_i v hx;obtain⟨d',h1,h2,c',rfl,hc⟩:=aO hr hx;rw [show c'=_ from hc]at h1;exact⟨_,hs,ap ht hn htM (λk=>xp (L:= []) h1 h k aw) trivial ⟨_,rfl,rfl⟩⟩
 .rename_i tg P d hx;obtain⟨d',h1,h2,c',rfl,hc,hc2⟩:=aO hr hx;rw [hc]at h1;refine⟨_,hs,cH ht hn htM (λk=>xp (L:= []) h1 h k aw) ?_⟩;rw [hc2];by_cases hP:P<;>simp [hP]
 .rename_i v hx;obtain⟨d',h1,h2,c',rfl,hc⟩:=aO hr hx;rw [show c'=_ from hc]at h1;refine⟨_,hs,cH ht hn htM (λk=>xp (L:= []) h1 h k aw) ?_⟩;cases v<;>rfl
 .rename_i k v hx;obtain⟨d',h1,h2,c',rfl,hc⟩:=aO hr hx;rw [show c'=_ from hc]at h1;exact⟨_,hs,ap ht hn htM (λk=>NV (L:= []) h1 h k aw) trivial ⟨_,rfl,rfl⟩⟩
 .rename_i k v hx;obtain⟨d',h1,h2,c',rfl,hc⟩:=aO hr hx;rw [show c'=_ from hc]at h1;exact⟨_,hs,ap ht hn htM (λk=>Hy (L:= []) h1 h k aw) trivial ⟨_,rfl,rfl⟩⟩
 .simp at hs
theorem FM{P:Program}{src dst:TypeId}{d1:TypeDesc}{k k2:IntKind}{a:Int}(h1:P.underlying src=some d1)(h2:P.underlying dst=some (.int k2)):ae P (Go.convert src dst (.int k a))=some (.int k2 (k2.wrap a)):=by
 unfold Go.convert;simp only [bj,mu h1,mu h2,zbS];cases d1<;>rfl
theorem zD(hG:GOk G E D0)(hr:Rel F ks V f h)(ht:ks.nx<=tag)(hn:ks.nx<=nid)(htM:tag<M){s t:TypeId}{x:Operand}(hs:bp G F ks tag nid (.convert s t x) κ=some r):∃e,κ e=some r/\bF E n F ks V f h M tag nid (.convert s t x) e:=by
 simp only [bp]at hs;split at hs
 .rename_i si di k a h1 h2 hx;split at hs
  .rename_i k1 k2 g1 g2;split at hs
   .obtain⟨d',e1,e2,c',rfl,hc⟩:=aO hr hx;rw [show c'=_ from hc]at e1;have u1:=hG.ok.1.1 _ _ (hG.ti _ _ h1);have u2:=hG.ok.1.1 _ _ (hG.ti _ _ h2);rw [g2]at u2;exact⟨_,hs,ap ht hn htM (λk=>KY (L:= []) e1 (FM u1 u2) rfl h k aw) trivial ⟨_,rfl,rfl⟩⟩
   .simp at hs
  .simp at hs
 .simp at hs
end
end K
end Ev
end
noncomputable section
namespace Ev
namespace K
open Go Go.RowKit
section
variable {E : Env} {n : Nat} {F : KF} {ks : KS} {V : Vl} {f : Nat → D} {h : Heap} {M tag nid : Nat} {op : Op} {G : KG} {D0 : Nat} {R : Type} {κ : KE → Option R} {r : R}
theorem vJ{L:BL}{nt:Nat}{bop:BinOp}{ty sh e:TypeId}{x:Operand}{t:TI}{fr nn:Bool}{sz:Nat}{l:List (List T)}(hx:ov nt f x=some (.one (.p fr (.s nn sz l))))(ht:E.ti ty=some t)(he:aA t=some e):PS E n nt f L (.binOp .eql ty x (.const (.slice none 0 0)) sh) (bD (!nn))/\PS E n nt f L (.binOp .neq ty x (.const (.slice none 0 0)) sh) (bD nn):=by
 constructor<;>intro h nid hb
 all_goals
  rw [xi,aQ,hx];show((E.ti ty).bind λt=>(aA t).bind λe=>_)=_;rw [ht];simp only [zbS,he];rfl
theorem FN{L:BL}{nt:Nat}{bop:BinOp}{ty sh e:TypeId}{x:Operand}{t:TI}{k i m:Nat}(hx:ov nt f x=some (.one (.own k i m)))(ht:E.ti ty=some t)(he:aA t=some e):PS E n nt f L (.binOp .eql ty x (.const (.slice none 0 0)) sh) (bD false)/\PS E n nt f L (.binOp .neq ty x (.const (.slice none 0 0)) sh) (bD true):=by
 constructor<;>intro h nid hb
 all_goals
  rw [xi,aQ,hx];show((E.ti ty).bind λt=>(aA t).bind λe=>_)=_;rw [ht];simp only [zbS,he];rfl
theorem rj{y:Operand}(h:qT y=true):y= .const (.slice none 0 0):=by
 unfold qT at h;split at h
 .rfl
 .simp at h
theorem tM{B:BK}:∀{kinds:List IntKind} {cs ds:List KC} {l:List (Int×Int)} {cs' ds':List C},dQ kinds cs ds=some l->RCs B V cs cs'->RCs B V ds ds'->dr cs'=some ((kinds.zip l).map λz=>Value.int z.1 z.2.1)/\dr ds'=some ((kinds.zip l).map λz=>Value.int z.1 z.2.2)/\l.length=kinds.length
 | [],[],[],l,cs',ds',hz,hc,hd=>by
  have:=Option.some.inj (show some []=some l from hz)
  subst this;rw [show cs'= []from hc,show ds'= []from hd];exact⟨rfl,rfl,rfl⟩
 |k::ks,.n k1 x::r,.n k2 y::s,l,cs',ds',hz,⟨c,c2,e1,h1,h2⟩,⟨d,d2,e2,h3,h4⟩=>by
  simp only [dQ]at hz;split at hz
  .rename_i hk;obtain⟨rfl,rfl⟩:=hk;rw [Option.map_eq_some_iff]at hz;obtain⟨l2,g1,rfl⟩:=hz;obtain⟨k1,k2,k3⟩:=tM g1 h2 h4;subst e1 e2;rw [show c=_ from h1,show d=_ from h3];refine⟨?_,?_,by simp [k3]⟩
   .show(do some ((<-jU (iC _ x))::(<-dr c2)))=_;rw [k1];rfl
   .show(do some ((<-jU (iC _ y))::(<-dr d2)))=_;rw [k2];rfl
  .simp at hz
 | [],c::_,_,_,_,_,hz,_,_=>by simp [dQ]at hz
 | [],[],_::_,_,_,_,hz,_,_=>by simp [dQ]at hz
 |_::_,[],_,_,_,_,hz,_,_=>by simp [dQ]at hz
 |_::_,.n _ _::_,[],_,_,_,hz,_,_=>by simp [dQ]at hz
 |_::_,.n _ _::_,.b _::_,_,_,_,hz,_,_=>by simp [dQ]at hz
 |_::_,.n _ _::_,.p _ _ _::_,_,_,_,hz,_,_=>by simp [dQ]at hz
 |_::_,.n _ _::_,.bv _::_,_,_,_,hz,_,_=>by simp [dQ]at hz
 |_::_,.n _ _::_,.v _::_,_,_,_,hz,_,_=>by simp [dQ]at hz
 |_::_,.n _ _::_,.nil::_,_,_,_,hz,_,_=>by simp [dQ]at hz
 |_::_,.n _ _::_,.s _ _ _::_,_,_,_,hz,_,_=>by simp [dQ]at hz
 |_::_,.n _ _::_,.o _ _::_,_,_,_,hz,_,_=>by simp [dQ]at hz
 |_::_,.n _ _::_,.m _ _::_,_,_,_,hz,_,_=>by simp [dQ]at hz
 |_::_,.n _ _::_,.ptr _ _::_,_,_,_,hz,_,_=>by simp [dQ]at hz
 |_::_,.n _ _::_,.pe _ _ _::_,_,_,_,hz,_,_=>by simp [dQ]at hz
 |_::_,.n _ _::_,.ip _ _ _ _ _ _::_,_,_,_,hz,_,_=>by simp [dQ]at hz
 |_::_,.n _ _::_,.clo _ _::_,_,_,_,hz,_,_=>by simp [dQ]at hz
 |_::_,.n _ _::_,.yld _::_,_,_,_,hz,_,_=>by simp [dQ]at hz
 |_::_,.b _::_,_,_,_,_,hz,_,_=>by simp [dQ]at hz
 |_::_,.p _ _ _::_,_,_,_,_,hz,_,_=>by simp [dQ]at hz
 |_::_,.bv _::_,_,_,_,_,hz,_,_=>by simp [dQ]at hz
 |_::_,.v _::_,_,_,_,_,hz,_,_=>by simp [dQ]at hz
 |_::_,.nil::_,_,_,_,_,hz,_,_=>by simp [dQ]at hz
 |_::_,.s _ _ _::_,_,_,_,_,hz,_,_=>by simp [dQ]at hz
 |_::_,.o _ _::_,_,_,_,_,hz,_,_=>by simp [dQ]at hz
 |_::_,.m _ _::_,_,_,_,_,hz,_,_=>by simp [dQ]at hz
 |_::_,.ptr _ _::_,_,_,_,_,hz,_,_=>by simp [dQ]at hz
 |_::_,.pe _ _ _::_,_,_,_,_,hz,_,_=>by simp [dQ]at hz
 |_::_,.ip _ _ _ _ _ _::_,_,_,_,_,hz,_,_=>by simp [dQ]at hz
 |_::_,.clo _ _::_,_,_,_,_,hz,_,_=>by simp [dQ]at hz
 |_::_,.yld _::_,_,_,_,_,hz,_,_=>by simp [dQ]at hz
theorem dZ{P:Prop}{d:Decidable P}{b:Bool}(h:b=true↔P):b= @decide P d:=by
 by_cases hP:P
 .rw [h.2 hP,decide_eq_true hP]
 .cases b with
  |true=>exact absurd (h.1 rfl) hP
  |false=>rw [decide_eq_false hP]
theorem Lz(ht:ks.nx<=tag)(hn:ks.nx<=nid)(htM:tag<M){bop:BinOp}{ty sh:TypeId}{x y:Operand}{k k':IntKind}{a b:Int}(hx:ov F.nt f x=some (.one (iC k a)))(hy:ov F.nt f y=some (.one (iC k' b)))(hs:Ls tag bop k k' a b κ=some r):∃e,κ e=some r/\bF E n F ks V f h M tag nid (.binOp bop ty x y sh) e:=by
 unfold Ls at hs;split at hs
 .simp only [zbE]at hs;obtain⟨z,h1,h2⟩:=hs;exact⟨_,h2,ap ht hn htM (λq=>eM (L:= []) hx hy (Oa h1) rfl h q aw) trivial ⟨_,rfl,rfl⟩⟩
 .simp only [zbE]at hs;obtain⟨z,h1,h2⟩:=hs;exact⟨_,h2,ap ht hn htM (λq=>eM (L:= []) hx hy (NZ h1) rfl h q aw) trivial ⟨_,rfl,rfl⟩⟩
 .split at hs
  .rename_i hk;subst hk;split at hs
   .exact⟨_,hs,ap ht hn htM (λq=>eM (L:= []) hx hy (Ir _ _ _ _ _ _ _) rfl h q aw) trivial ⟨_,rfl,rfl⟩⟩
   .exact⟨_,hs,ap ht hn htM (λq=>eM (L:= []) hx hy (Iu _ _ _ _ _ _ _) rfl h q aw) trivial ⟨_,rfl,rfl⟩⟩
   .exact⟨_,hs,ap ht hn htM (λq=>eM (L:= []) hx hy (NO _ _ _ _ _ _ _) rfl h q aw) trivial ⟨_,rfl,rfl⟩⟩
   .exact⟨_,hs,ap ht hn htM (λq=>eM (L:= []) hx hy (Oc _ _ _ _ _ _ _) rfl h q aw) trivial ⟨_,rfl,rfl⟩⟩
   .exact⟨_,hs,ap ht hn htM (λq=>eM (L:= []) hx hy (Pa _ _ _ _ _ _ _) rfl h q aw) trivial ⟨_,rfl,rfl⟩⟩
   .exact⟨_,hs,ap ht hn htM (λq=>eM (L:= []) hx hy (Od _ _ _ _ _ _ _) rfl h q aw) trivial ⟨_,rfl,rfl⟩⟩
   .exact⟨_,hs,ap ht hn htM (λq=>eM (L:= []) hx hy (Fg _ _ _ _ _ _ _) rfl h q aw) trivial ⟨_,rfl,rfl⟩⟩
   .simp only [zbE]at hs;obtain⟨z,h1,h2⟩:=hs;exact⟨_,h2,ap ht hn htM (λq=>eM (L:= []) hx hy (Ld h1) rfl h q aw) trivial ⟨_,rfl,rfl⟩⟩
   .simp only [zbE]at hs;obtain⟨z,h1,h2⟩:=hs;exact⟨_,h2,ap ht hn htM (λq=>eM (L:= []) hx hy (Lf h1) rfl h q aw) trivial ⟨_,rfl,rfl⟩⟩
   .exact⟨_,hs,cH ht hn htM (λq=>eM (L:= []) hx hy (EA _ _ _ _ _ _ _) rfl h q aw) (dZ (by simp))⟩
   .exact⟨_,hs,cH ht hn htM (λq=>eM (L:= []) hx hy (EB _ _ _ _ _ _ _) rfl h q aw) (dZ (by simp))⟩
   .exact⟨_,hs,cH ht hn htM (λq=>eM (L:= []) hx hy (Eu _ _ _ _ _ _ _) rfl h q aw) (dZ (by simp))⟩
   .exact⟨_,hs,cH ht hn htM (λq=>eM (L:= []) hx hy (Ew _ _ _ _ _ _ _) rfl h q aw) (dZ (by simp))⟩
   .exact⟨_,hs,cH ht hn htM (λq=>eM (L:= []) hx hy (Ey _ _ _ _ _ _ _) rfl h q aw) (dZ (by simp))⟩
   .exact⟨_,hs,cH ht hn htM (λq=>eM (L:= []) hx hy (Ez _ _ _ _ _ _ _) rfl h q aw) (dZ (by simp))⟩
   .simp at hs
  .simp at hs
theorem Ia{P:Program}{t:TypeId}(hu:P.underlying t=some .bool)(x y:Operand)(a b:Bool):ae P (do eqGuard .eql t x y (.bool a) (.bool b);binOp .eql t (.bool a) (.bool b))=some (.bool (a==b))/\ae P (do eqGuard .neq t x y (.bool a) (.bool b);binOp .neq t (.bool a) (.bool b))=some (.bool (!(a==b))):=by
 have h0:∀d,ae P (Op.equalIn (d+1) t (.bool a) (.bool b))=some (a==b):=λd=>by
  simp only [Op.equalIn,bj,mu hu,zbS];rfl
 have h:ae P (Op.equalIn 10000 t (.bool a) (.bool b))=some (a==b):=h0 9999;constructor
 .have h1:ae P (eqGuard .eql t x y (.bool a) (.bool b))=some ():=rfl;rw [bj,h1];show ae P (binOp .eql t (.bool a) (.bool b))=_;have h2:binOp .eql t (.bool a) (.bool b)=(do pure (.bool (<-Op.equal t (.bool a) (.bool b)))):=rfl;rw [h2,bj];unfold Op.equal Op.maxDepth;rw [h];rfl
 .have h1:ae P (eqGuard .neq t x y (.bool a) (.bool b))=some ():=rfl;rw [bj,h1];show ae P (binOp .neq t (.bool a) (.bool b))=_;have h2:binOp .neq t (.bool a) (.bool b)=(do pure (.bool (!(<-Op.equal t (.bool a) (.bool b))))):=rfl;rw [h2,bj];unfold Op.equal Op.maxDepth;rw [h];rfl
theorem BY(hG:GOk G E D0){t:TypeId}(h:vw G.ti t=true):E.P.underlying t=some .bool:=by
 unfold vw at h;split at h
 .rename_i i hi;have hu:=hG.ok.ti.und _ _ (hG.ti _ _ hi);split at h
  .rename_i hd;rw [hu,hd]
  .simp at h
 .simp at h
theorem xK{B:BK}{V:Vl}{c:KC}{c':C}{x:Bool}(h:Az c=some x)(hr:RC B V c c'):c'=bC x:=by
 cases c with
 |b v=>cases h;exact hr
 |p tag P d=>cases h;obtain⟨h1,h2⟩:=hr;rw [h1,h2]
 |bv v=>cases h;exact hr
 |_=>simp [Az]at h
theorem LA(hG:GOk G E D0)(hr:Rel F ks V f h)(ht:ks.nx<=tag)(hn:ks.nx<=nid)(htM:tag<M){bop:BinOp}{ty sh:TypeId}{x y:Operand}(hs:bp G F ks tag nid (.binOp bop ty x y sh) κ=some r):∃e,κ e=some r/\bF E n F ks V f h M tag nid (.binOp bop ty x y sh) e:=by
 simp only [bp]at hs;split at hs
 .rename_i a b hx hy;obtain⟨a',x1,x2,x3⟩:=aO hr hx;obtain⟨b',y1,y2,y3⟩:=aO hr hy;unfold GP at hs;split at hs
  .obtain⟨c1,rfl,e1⟩:=x3;obtain⟨c2,rfl,e2⟩:=y3;rw [show c1=_ from e1]at x1;rw [show c2=_ from e2]at y1;exact Lz ht hn htM x1 y1 hs
  .split at hs
   .rename_i z hn1 hel;obtain⟨te,e,zz⟩:=z;obtain⟨t,i2,g1,g2,_⟩:=ce hG hel
    have:=rj hn1
    subst this;obtain⟨c1,rfl,fl,e1,e2⟩:=x3;rw [e1]at x1;simp only [zbE]at hs;obtain⟨c,k1,k2⟩:=hs;unfold nB at k1;split at k1
    .cases k1;exact⟨_,k2,cH ht hn htM (λq=>(vJ (bop:= .eql) (L:= []) x1 g1 g2).1 h q aw) (dZ (by simp))⟩
    .cases k1;exact⟨_,k2,cH ht hn htM (λq=>(vJ (bop:= .eql) (L:= []) x1 g1 g2).2 h q aw) (dZ (by simp))⟩
    .simp at k1
   .simp at hs
  .split at hs
   .rename_i z e1 ne l hn1 hel hB;obtain⟨te,e,zz⟩:=z;obtain⟨t,i2,g1,g2,_⟩:=ce hG hel
    have:=rj hn1
    subst this;obtain⟨c1,rfl,e1⟩:=x3;rw [e1 _ _ _ hB]at x1;simp only [zbE]at hs;obtain⟨c,k1,k2⟩:=hs;unfold Ay at k1;split at k1
    .cases k1;exact⟨_,k2,ap ht hn htM (λq=>(FN (bop:= .eql) (L:= []) x1 g1 g2).1 h q aw) trivial ⟨_,rfl,rfl⟩⟩
    .cases k1;exact⟨_,k2,ap ht hn htM (λq=>(FN (bop:= .eql) (L:= []) x1 g1 g2).2 h q aw) trivial ⟨_,rfl,rfl⟩⟩
    .simp at k1
   .simp at hs
  .split at hs
   .rename_i z hn1 hel;obtain⟨te,e,zz⟩:=z;obtain⟨t,i2,g1,g2,_⟩:=ce hG hel
    have:=rj hn1
    subst this;obtain⟨c1,rfl,e1⟩:=x3;rw [show c1=_ from e1]at x1;simp only [zbE]at hs;obtain⟨c,k1,k2⟩:=hs;unfold Ay at k1;split at k1
    .cases k1;exact⟨_,k2,ap ht hn htM (λq=>(vJ (bop:= .eql) (L:= []) x1 g1 g2).1 h q aw) trivial ⟨_,rfl,rfl⟩⟩
    .cases k1;exact⟨_,k2,ap ht hn htM (λq=>(vJ (bop:= .eql) (L:= []) x1 g1 g2).2 h q aw) trivial ⟨_,rfl,rfl⟩⟩
    .simp at k1
   .simp at hs
  .rename_i cs ds;split at hs
   .rename_i kinds hk;split at hs
    .rename_i l hz;obtain⟨cs',rfl,e1⟩:=x3;obtain⟨ds',rfl,e2⟩:=y3;obtain⟨p1,p2,p3⟩:=tM hz e1 e2;obtain⟨q1,q2⟩:=hG.eqs _ _ hk x y l p3
     have a1:plain (.agg cs')=some (.agg ((kinds.zip l).map λz=>Value.int z.1 z.2.1).toArray):=by
      show(dr cs').bind (λa=>some (Value.agg a.toArray))=_;rw [p1];rfl
     have a2:plain (.agg ds')=some (.agg ((kinds.zip l).map λz=>Value.int z.1 z.2.2).toArray):=by
      show(dr ds').bind (λa=>some (Value.agg a.toArray))=_;rw [p2];rfl
     simp only [zbE]at hs;obtain⟨c,k1,k2⟩:=hs;unfold nB at k1;split at k1
     .cases k1;exact⟨_,k2,cH ht hn htM (λq=>vd (L:= []) x1 y1 a1 a2 q1 rfl h q aw) rfl⟩
     .cases k1;refine⟨_,k2,cH ht hn htM (λq=>vd (L:= []) x1 y1 a1 a2 q2 rfl h q aw) (dZ ?_)⟩
      have:= @decide_eq_true_iff (eqP l) (eqD l)
      by_cases hp:eqP l
      .simp [hp]
      .simp [hp]
     .simp at k1
    .simp at hs
   .simp at hs
  .split at hs
   .rename_i u v hT hu hv;have hb:=Ia (BY hG hT) x y u v;obtain⟨c1,rfl,e1⟩:=x3;obtain⟨c2,rfl,e2⟩:=y3;rw [xK hu e1]at x1;rw [xK hv e2]at y1;simp only [zbE]at hs;obtain⟨c,k1,k2⟩:=hs;unfold nB at k1;split at k1
    .cases k1;exact⟨_,k2,cH ht hn htM (λq=>EU (L:= []) x1 y1 hb.1 rfl h q aw) (dZ (by simp))⟩
    .cases k1;exact⟨_,k2,cH ht hn htM (λq=>EU (L:= []) x1 y1 hb.2 rfl h q aw) (dZ (by simp))⟩
    .simp at k1
   .simp at hs
  .simp at hs
 .simp at hs
end
end K
end Ev
end
end Go.Proofs.Ytjjbpdldbdmoeaa
