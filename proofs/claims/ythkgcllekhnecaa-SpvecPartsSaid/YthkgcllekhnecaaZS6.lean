/- Texts of a claim, joined. -/
import Derived.Test.YthkgcllekhnecaaZS5
set_option linter.unusedVariables false
set_option linter.unusedSimpArgs false
namespace Go.Proofs.Ythkgcllekhnecaa
noncomputable section
namespace Ev
namespace K
open Go Go.RowKit
inductive Sh where
 |d (fr:Bool) (t:Ty)
 |o (e:Ty)
 |m (e:Ty)
 |w (e:Ty)
@[reducible] def Sh.T:Sh→Type
 | .d _ t=>t.val
 | .o e=>List e.val
 | .m e=>List e.val
 | .w e=>List e.val
@[reducible] def cl:List Sh→Type
 | []=>Unit
 | [h]=>h.T
 |h::r=>h.T×cl r
inductive BR where
 |sl (i j:Nat)
 |bx (i j:Nat)
structure Pt where
 vs:List (Nat×Bool×List Sh)
 bs:List (Nat×List Sh)
 ws:List (BR×Ty):= []
def wSh(x:BR×Ty):Sh:= .w x.2
def Pt.sh(p:Pt):List Sh:=p.vs.flatMap (·.2.2)++(p.bs.flatMap (·.2)++p.ws.map wSh)
@[reducible] def XT:List (Ex×Pt)→Type
 | []=>Empty
 |x::r=>cl x.2.sh ⊕ XT r
structure Ez where
 join:Bool:=false
 key:Nat
 sz:Nat:=0
 keep:List Nat
 head:Pt
 exs:List (Ex×Pt)
def Aa(ks:KS):(h:Sh)→KC→{R:Type}→(h.T→Option R)→Option R
 | .d fr t,c,_,κ=>if fr=true∧frC c=false then none else(lg noB t c).bind κ
 | .o e,.o _ p,_,κ=>match ae ks.bl p with
  |some (.rows e' _ l)=>(fg (.S e') (.S e) ⟨true,0,l⟩).bind fun l=>κ l.l
  |_=>none
 | .w e,.o _ p,_,κ=>match ae ks.bl p with
  |some (.rows e' _ l)=>(fg (.S e') (.S e) ⟨true,0,l⟩).bind fun l=>κ l.l
  |_=>none
 | .m e,.nil,_,κ=>κ []
 | .m e,.m _ p,_,κ=>match ae ks.bl p with
  |some (.mrows e' l)=>(fg (.S e') (.S e) ⟨true,0,l⟩).bind fun l=>κ l.l
  |_=>none
 | .m e,.o _ p,_,κ=>match ae ks.bl p with
  |some (.rows e' ne l)=>(fg (.S e') (.S e) ⟨true,0,l⟩).bind fun l=>cond ne (κ l.l) ((neL l.l).bind fun _=>κ l.l)
  |_=>none
 |_,_,_,_=>none
def lh(ks:KS):(hs:List Sh)→List KC→{R:Type}→(cl hs→Option R)→Option R
 | [],[],_,κ=>κ ()
 | [h],[c],_,κ=>Aa ks h c κ
 |h::h'::r,c::cs,_,κ=>Aa ks h c fun x=>lh ks (h'::r) cs fun y=>κ (x,y)
 |_,_,_,_=>none
def bg(q:Nat):(h:Sh)→h.T→KC×List (Nat×KB)
 | .d _ .B,x=>(.bv x,[])
 | .d fr t,x=>(match bU fr t x with
  |c::_=>c
  | []=> .nil,[])
 | .o e,l=>(.o e q,[(q,.rows e false l)])
 | .m e,l=>(.m e q,[(q,.mrows e l)])
 | .w e,l=>(.o e q,[])
def wC:(h:Sh)→h.T→KB
 | .w e,l=> .rows e false l
 |_,_=> .dead
def wCs:(hs:List Sh)→cl hs→List KB
 | [],_=> []
 | [h],x=> [wC h x]
 |h::h'::r,x=>wC h x.1::wCs (h'::r) x.2
def av:(hs:List Sh)→cl hs→Nat→List (KC×List (Nat×KB))
 | [],_,_=> []
 | [h],x,q=> [bg q h x]
 |h::h'::r,x,q=>bg q h x.1::av (h'::r) x.2 (q+1)
def mr(F:KF)(ks:KS):List (Nat×Bool×List Sh)→Option (List KC)
 | []=>some []
 |v::r=>match jf F ks v.1 with
  |some (.one c)=>if v.2.1 then none else if v.2.2.length=1 then(mr F ks r).map (c::·)else none
  |some (.agg cs)=>if v.2.1 then if v.2.2.length=cs.length then(mr F ks r).map (cs++·)else none else none
  |_=>none
def cQ(F:KF)(ks:KS)(i:Nat):Option Nat:=
 match jf F ks i with
 |some (.one (.ptr p j))=>if j=0 then some p else none
 |_=>none
def lk(F:KF)(ks:KS):List (Nat×List Sh)→Option (List KC)
 | []=>some []
 |v::r=>match(cQ F ks v.1).bind (ae ks.bl)with
  |some (.box cs)=>if v.2.length=cs.length then(lk F ks r).map (cs++·)else none
  |_=>none
def brC(F:KF)(ks:KS):BR→Option KC
 | .sl i j=>match jf F ks i with
  |some (.one c)=>some c
  |some (.agg cs)=>cs[j]?
  |_=>none
 | .bx i j=>match cQ F ks i with
  |some p=>match aT ks.bl F.bl p with
   |some (.box cs)=>cs[j]?
   |_=>none
  |none=>none
def fh(F:KF)(ks:KS)(w:BR):Option Nat:=
 match brC F ks w with
 |some (.o _ p)=>some p
 |_=>none
def xf(F:KF)(ks:KS):List (BR×Ty)→Option (List KC)
 | []=>some []
 |v::r=>match fh F ks v.1 with
  |some p=>(xf F ks r).map (.o v.2 p::·)
  |none=>none
def dE(F:KF)(ks:KS)(p:Pt):Option (List KC):=(mr F ks p.vs).bind fun a=>(lk F ks p.bs).bind fun b=>(xf F ks p.ws).map fun c=>a++(b++c)
def bm:List KC→List Nat
 | []=> []
 | .o _ p::r=>p::bm r
 | .m _ p::r=>p::bm r
 |_::r=>bm r
def ig:List Nat→Bool
 | []=>true
 |a::r=> !(r.any (Nat.beq a))&& ig r
def qz(F:KF)(ks:KS)(p:Pt){R:Type}(κ:cl p.sh→Option R):Option R:=
 match dE F ks p with
 |some cs=>cond (ig (bm cs)) (lh ks p.sh cs κ) none
 |none=>none
def gA:List (Nat×Bool×List Sh)→List KC→List (Nat×KD)
 | [],_=> []
 |v::r,cs=>(v.1,if v.2.1 then .agg (cs.take v.2.2.length)else match cs with
  |c::_=> .one c
  | []=>kUn)::gA r (cs.drop v.2.2.length)
def dF(F:KF)(ks:KS):List (Nat×List Sh)→List KC→List (Nat×KB)
 | [],_=> []
 |v::r,cs=>match cQ F ks v.1 with
  |some p=>(p,.box (cs.take v.2.length))::dF F ks r (cs.drop v.2.length)
  |none=>dF F ks r (cs.drop v.2.length)
def eC(F:KF)(ks:KS):List (BR×Ty)→List KB→List (Nat×KB)
 | [],_=> []
 |_,[]=> []
 |v::r,b::bs=>match fh F ks v.1 with
  |some p=>(p,b)::eC F ks r bs
  |none=>eC F ks r bs
def iv(l:List (Nat×Bool×List Sh)):Nat:=(l.flatMap (·.2.2)).length
def nh(l:List (Nat×List Sh)):Nat:=(l.flatMap (·.2)).length
def fM(F:KF)(ks:KS):Bool:=F.sl.all fun x=>(ae ks.sl x.1).isNone
def nL(F:KF)(ks:KS):List Nat→List (Nat×KD)
 | []=> []
 |i::r=>match ae ks.sl i with
  |some d=>(i,d)::nL F ks r
  |none=>nL F ks r
def mt(F:KF)(ks:KS):List (Nat×List Sh)→List Nat
 | []=> []
 |v::r=>match cQ F ks v.1 with
  |some p=>p::mt F ks r
  |none=>mt F ks r
def cm(F:KF)(ks:KS)(a:Ez)(cs:List KC):List Nat:=bm cs++mt F ks a.head.bs
def aq(F:KF)(ks:KS)(a:Ez)(cs:List KC):KF:={nt:=F.nt,sl:=nL F ks a.keep++F.sl,bl:=(cm F ks a cs).map (fun p=>(p,.dead))++(ks.bl++F.bl)}
def ba(F:KF)(ks:KS)(p:Pt)(x:cl p.sh):KS:=
 let w:=av p.sh x ks.nx
 let cs:=w.map (·.1)
 {sl:=gA p.vs cs,bl:=dF F ks p.bs (cs.drop (iv p.vs))++(eC F ks p.ws ((wCs p.sh x).drop (iv p.vs+nh p.bs))++w.flatMap (·.2)),nx:=ks.nx+p.sh.length}
def qA:Ex→Ex→Bool
 | .normal,.normal=>true
 | .ret,.ret=>true
 | .exit a,.exit b=>Nat.beq a b
 |_,_=>false
def qB(F:KF)(ks:KS)(e:Ex):(l:List (Ex×Pt))→{R:Type}→(XT l→Option R)→Option R
 | [],_,_=>none
 |x::r,_,κ=>cond (qA e x.1) (qz F ks x.2 fun v=>κ (.inl v)) (qB F ks e r fun v=>κ (.inr v))
def xg(F:KF)(ks:KS)(keep dead:List Nat)(p:Pt)(v:cl p.sh):KS:=
 let s:=ba F ks p v
 {s with sl:=s.sl++nL F ks keep,bl:=s.bl++(dead.map (fun p=>(p,.dead))++ks.bl)}
def afterX(F:KF)(ks:KS)(keep:List Nat)(dead:List Nat):(l:List (Ex×Pt))→XT l→{R:Type}→(Ex→KS→Option R)→Option R
 | [],x,_,_=>nomatch x
 |x::r,v,_,κ=>Sum.elim (fun v=>κ x.1 (xg F ks keep dead x.2 v)) (fun v=>afterX F ks keep dead r v κ) v
def kNil:KS:=⟨[],[],0⟩
def ni(F0:KF)(ks:KS)(F:KF)(p:Pt):Bool:=(p.bs.all fun v=>(ae F.sl v.1).isSome)&& p.ws.all fun v=>match fh F0 ks v.1,fh F kNil v.1 with
 |some a,some b=>Nat.beq a b
 |_,_=>false
def eD:Code→Option Nat
 | .region id _ _=>some id
 | .seq a b=>match eD a with
  |some i=>some i
  |none=>eD b
 | .cond _ a b=>match eD a with
  |some i=>some i
  |none=>eD b
 | .block _ b=>eD b
 | .loop b=>eD b
 | .scope b=>eD b
 |_=>none
def qC:Code→Nat
 | .seq a b=>qC a+qC b+1
 | .cond _ a b=>qC a+qC b+1
 | .block _ b=>qC b+1
 | .loop b=>qC b+1
 | .scope b=>qC b+1
 |_=>1
structure Sk where
 old:List (List BR)
 new:List (Bool×List Nat)
structure NG where
 lp:List Ez:= []
 tn:List (Nat×Sk):= []
def Qj:KC→Option Nat
 | .o _ p=>some p
 | .m _ p=>some p
 | .ptr p _=>some p
 |_=>none
def Om(F:KF)(ks:KS):List BR→Option (List Nat)
 | []=>some []
 |b::r=>match brC F ks b,Om F ks r with
  |some .nil,l=>l
  |some c,some l=>match Qj c with
   |some p=>some (p::l)
   |none=>none
  |_,_=>none
def Gr(F:KF)(ks:KS):List (List BR)→Option (List (List Nat))
 | []=>some []
 |b::r=>match Om F ks b,Gr F ks r with
  |some p,some l=>some (p::l)
  |_,_=>none
def qD(ids:List Nat)(ks:KS):KS:={ks with bl:=ids.map (fun p=>(p,.dead))++ks.bl}
def Sn:Option Nat→List Nat
 |some p=> [p]
 |none=> []
def eU(Rl O:List (List Nat))(N:List (Bool×List Nat))(nw:List (Nat×Nat))(i:Nat):List Nat:=
 (Rl.getD i []).flatMap fun j=>O.getD j []++((N.getD j (false,[])).2.flatMap (fun q=>Sn (ae nw q))++cond (N.getD j (false,[])).1 (Sn (ae nw j)) [])
def So:KC→Option Nat
 | .o _ p=>some p
 | .m _ p=>some p
 |_=>none
def sS(ids:List Nat)(c:KC):Bool:=
 match So c with
 |some p=> !(ids.any (Nat.beq p))
 |none=>true
def xh(ids:List Nat):KD→Bool
 | .one c=>sS ids c
 | .agg cs=>cs.all (sS ids)
 | .tup ts=>ts.all fun x=>x.2.all (sS ids)
def LI(ids:List Nat):KB→Bool
 | .box cs=>cs.all (sS ids)
 |_=>true
def isM:KB→Bool
 | .mrows _ _=>true
 |_=>false
def LJ(ks0 ks:KS)(p:Nat):Bool:=
 match ae ks0.bl p,ae ks.bl p with
 |some x,some y=>(match x with
  | .dead=>false
  |_=>isM x==isM y)
 |_,_=>false
def Gs(ks:KS)(nw:List (Nat×Nat))(p j:Nat):Bool:=
 (match ae nw j with
  |some q=>Nat.beq p q
  |none=>false)&&(match ae ks.bl p with
  |some y=> !isM y
  |none=>false)
def Ab(ks0 ks:KS)(nw:List (Nat×Nat))(p:Nat):List Nat→List Nat→Bool
 | [q],[]=>Nat.beq p q && LJ ks0 ks p
 | [],[j]=>Gs ks nw p j
 |_,_=>false
def Ac(ks0 ks:KS)(O:List (List Nat))(N:List (Bool×List Nat))(nw:List (Nat×Nat))(i:Nat)(ids:List Nat)(e:KE):Bool:=
 xh ids e.v &&(match e.upd with
  |none=>(O.getD i []).isEmpty &&(N.getD i (false,[])).2.isEmpty
  |some (p,b)=>LI ids b && Ab ks0 ks nw p (O.getD i []) (N.getD i (false,[])).2)&&(match e.new with
  |none=> !(N.getD i (false,[])).1
  |some b=>(N.getD i (false,[])).1 && LI ids b && !isM b)
def nwE(e:KE)(i nid:Nat)(nw:List (Nat×Nat)):List (Nat×Nat):=
 match e.new with
 |some _=>(i,nid)::nw
 |none=>nw
def Gt(O:List (List Nat))(N:List (Bool×List Nat))(i:Nat):Bool:=(O.getD i []).isEmpty &&(N.getD i (false,[])).2.isEmpty && !(N.getD i (false,[])).1
def sU(G:KG)(F:KF)(ops:List Oper)(Rl O:List (List Nat))(N:List (Bool×List Nat))(ks0:KS){R:Type}(κ:KS→Option R):Nat→List (Nat×Nat)→List Oper→KS→Option R
 |_,_,[],ks=>κ ks
 |i,nw,o::r,ks=>zY F ops o ks fun w ks=>cond w
   (zX F o.op ks fun op ks=>bB G F (qD (eU Rl O N nw i) ks) ks.nx (ks.nx+1) op fun e=>
    cond (Ac ks0 ks O N nw i (eU Rl O N nw i) e) (sU G F ops Rl O N ks0 κ (i+1) (nwE e i (ks.nx+1) nw) r (Gq o.dst ks.nx (ks.nx+1) e ks)) none)
   (cond (Gt O N i) (sU G F ops Rl O N ks0 κ (i+1) nw r (zW o.dst ks)) none)
def LK(a b:List Nat):Bool:=a.all fun x=> !(b.any (Nat.beq x))
def djB:List (List Nat)→List (List Nat)→List (List Nat)→Bool
 |o::os,r::rs,O=>(r.all fun j=>LK o (O.getD j []))&& djB os rs O
 |_,_,_=>true
def Cz(ks:KS)(O:List (List Nat)):Bool:=O.all fun l=>l.all fun p=>match ae ks.bl p with
 |some .dead=>false
 |some _=>true
 |none=>false
def eW(G:KG)(A:NG)(call:zZ):Code→(R:Type)→KF→KS→(Ex→KS→Option R)→Option R
 | .skip,_,F,ks,κ=>κ .normal ks
 | .region id ops draw,R,F,ks,κ=>cond draw
   (cond (dB ops) (match ae A.tn id with
    |none=>mq G F ops.toList (κ .normal) ops.toList ks
    |some T=>match Gr F ks T.old with
     |some O=>cond (ku ops T.new && djB O (ew ops) O && Cz ks O) (sU G F ops.toList (ew ops) O T.new ks (κ .normal) 0 [] ops.toList ks) none
     |none=>none) (match lM ops with
    |some m=>cond (kY ops) (mq G F ops.toList (zb G call F ops.toList (κ .normal) (ops.toList.drop m)) (ops.toList.take m) ks) none
    |none=>none))
   (zb G call F ops.toList (κ .normal) ops.toList ks)
 | .seq a b,R,F,ks,κ=>match A.lp.find? fun z=>z.join &&(some z.key==eD a && Nat.beq z.sz (qC a))with
  |none=>eW G A call a R F ks fun e ks=>match e with
   | .normal=>eW G A call b R F ks κ
   |e=>κ e ks
  |some z=>match dE F ks z.head,fM F ks with
   |some cs,true=>cond (ni F ks (aq F ks z cs) z.head && z.exs.all fun x=>ni F ks (aq F ks z cs) x.2) (qz F ks z.head fun x0=>
    let F':=aq F ks z cs
    (eW G A call a (XT z.exs) F' (ba F ks z.head x0) fun e ks2=>cond (fM F' ks2) (qB F' ks2 e z.exs some) none).bind fun y=>afterX F ks z.keep (cm F ks z cs) z.exs y fun e ks=>match e with
     | .normal=>eW G A call b R F ks κ
     |e=>κ e ks) none
   |_,_=>none
 | .cond c a b,R,F,ks,κ=>match kO F ks c with
  |some (.one c)=>kIf c ks fun t ks=>cond t (eW G A call a R F ks κ) (eW G A call b R F ks κ)
  |_=>none
 | .block id b,R,F,ks,κ=>eW G A call b R F ks fun e ks=>κ (cond (qA e (.exit id)) .normal e) ks
 | .loop b,R,F,ks,κ=>match A.lp.find? fun a=> !a.join && some a.key==eD b with
  |none=>none
  |some a=>match dE F ks a.head,fM F ks with
   |some cs,true=>cond (ni F ks (aq F ks a cs) a.head && a.exs.all fun x=>ni F ks (aq F ks a cs) x.2 && !qA x.1 .normal) (qz F ks a.head fun x0=>
    let F':=aq F ks a cs
    (aM (fun x=>eW G A call b (cl a.head.sh ⊕ XT a.exs) F' (ba F ks a.head x) fun e ks2=>cond (fM F' ks2) (match e with
     | .normal=>qz F' ks2 a.head fun y=>some (.inl y)
     |e=>qB F' ks2 e a.exs fun y=>some (.inr y)) none) x0).bind fun y=>afterX F ks a.keep (cm F ks a cs) a.exs y κ) none
   |_,_=>none
 | .exit id,_,F,ks,κ=>κ (.exit id) ks
 | .ret,_,F,ks,κ=>κ .ret ks
 | .label _,_,F,ks,κ=>κ .normal ks
 | .scope b,R,F,ks,κ=>eW G A call b R F ks κ
 |_,_,_,_,_=>none
def zc:Nat→List KD→List (Nat×KD)
 |_,[]=> []
 |i,d::r=>(i,d)::zc (i+1) r
def tupK:List KD→Option KD
 | [d]=>some d
 |ds=>(tups ds).map .tup
where
 tups:List KD→Option (List (Bool×List KC))
  | []=>some []
  | .one c::r=>(tups r).map ((false,[c])::·)
  | .agg cs::r=>(tups r).map ((true,cs)::·)
  |_=>none
def CA(G:KG)(F:KF)(ks:KS):List ResultVar→{R:Type}→(List KD→Option R)→Option R
 | [],_,κ=>κ []
 | .tmp t::r,_,κ=>(jf F ks t).bind fun d=>CA G F ks r fun l=>κ (d::l)
 | .cell a ty::r,_,κ=>match LF G.ti ty,jf F ks a with
  |some z,some d=>gh F ks z d fun v=>CA G F ks r fun l=>κ (v::l)
  |_,_=>none
def sV:Ex→Bool
 | .exit _=>false
 |_=>true
abbrev bQ:=List (FuncId×NG)
def On(A:bQ)(k:FuncId):NG:=
 match ae A k with
 |some l=>l
 |none=>{}
def EA(G:KG)(A:bQ):Nat→zZ
 |0,_,_,_,_,_,_=>none
 |n+1,R,F,k,args,ks,κ=>match ae G.fi k with
  |some f=>if args.length≤f.nt then eW G (On A k) (EA G A n) f.body R {F with sl:= [],nt:=f.nt} {ks with sl:=zc 0 args} fun e ks2=>cond (sV e) (CA G {F with sl:= [],nt:=f.nt} ks2 f.results fun ds=>(tupK ds).bind fun d=>κ d ks2) none else none
  |none=>none
def frD:KD→Bool
 | .one c=>frC c
 | .agg cs=>cs.all frC
 | .tup _=>false
def rW:List KD→Bool
 | [.one (.o _ _)]=>true
 | [.one (.m _ _)]=>true
 |_=>false
def LL(B:Nat→Option KB)(e:Ty):List KD→Option (List e.val)
 | [.one (.o _ p)]=>match B p with
  |some (.rows e' _ l)=>if e.plain then(fg (.S e') (.S e) ⟨true,0,l⟩).map (·.l)else none
  |_=>none
 |_=>none
def HL(B:Nat→Option KB)(e:Ty):List KD→Option (List e.val)
 | [.one .nil]=>some []
 | [.one (.m _ p)]=>match B p with
  |some (.mrows e' l)=>if e.plain then(fg (.S e') (.S e) ⟨true,0,l⟩).map (·.l)else none
  |_=>none
 | [.one (.o _ p)]=>match B p with
  |some (.rows e' ne l)=>if e.plain && ne then(fg (.S e') (.S e) ⟨true,0,l⟩).map (·.l)else none
  |_=>none
 |_=>none
def HM(B:Nat→Option KB)(e:Ty):List KD→Option (Sl e.val)
 | [.one .nil]=>some ⟨false,0,[]⟩
 | [.one (.m _ p)]=>match B p with
  |some (.mrows e' l)=>if e.plain then(fg (.S e') (.S e) ⟨true,0,l⟩).map (fun s=>mo e.size s.l)else none
  |_=>none
 | [.one (.o _ p)]=>match B p with
  |some (.rows e' ne l)=>if e.plain then(fg (.S e') (.S e) ⟨true,0,l⟩).map (fun s=>⟨true,e.size,s.l⟩)else none
  |_=>none
 |_=>none
def CB(B:Nat→Option KB):(o:OutK)→List KD→Option o.val
 | .data fr ts,ds=>if rW ds||(fr && !(ds.all frD))then none else jH B ts ds
 | .own e,ds=>LL B e ds
 | .mown e,ds=>HL B e ds
 | .gown e,ds=>HM B e ds
def HO(ts:List TyD)(x:aE ts):List (Nat×KD):=zc 0 ((ml false ts x).map mkD)
def ce(G:KG)(A:bQ)(f:FI)(k:FuncId)(n:Nat)(ins:List TyD)(out:OutK)(x:aE ins):Option out.val:=
 eW G (On A k) (EA G A n) f.body out.val {nt:=f.nt} {sl:=HO ins x,bl:= [],nx:=0} fun e ks=>cond (sV e) (CA G {nt:=f.nt} ks f.results fun ds=>CB (ao {nt:=f.nt} ks) out ds) none
end K
end Ev
end
noncomputable section
namespace Ev
namespace K
open Go Go.RowKit
structure Vl where
 id:Nat→Nat
 bo:Nat→Bool
def KB.there:KB→Prop
 | .dead=>False
 | .mrows _ l=>l≠[]
 |_=>True
abbrev BK:=Nat→Option KB
def RC(B:BK)(V:Vl):KC→C→Prop
 | .n k x,c=>c=iC k x
 | .b v,c=>c=bC v
 | .p tag P d,c=>c=bC (V.bo tag)∧V.bo tag= @decide P d
 | .bv x,c=>c=bC x
 | .v x,c=>c= .p true (.v x)
 | .nil,c=>c= .p true (.s false 0 [])
 | .s e fr x,c=>∃f,c= .p f (Sl.t e.row x)∧(fr=true→f=true)
 | .o e p,c=>∀e' ne l,B p=some (.rows e' ne l)→c= .own (V.id p) 0 l.length
 | .m e p,c=>∀e' l,B p=some (.mrows e' l)→c=moC l (V.id p)
 | .ptr p j,c=>c= .ptr (V.id p) 0 j
 | .pe p i j,c=>0≤i∧c= .ptr (V.id p) i.toNat j
 | .ip e fr x i y j,c=>∃f,c= .iptr f x.sz (x.l.map e.row) i.toNat j∧x.l[i.toNat]? =some y∧(fr=true→f=true)
 | .clo fn ps,c=>c= .clo (.func fn) [] (ps.map fun p=> .ptr (V.id p) 0 0)
 | .yld p,c=>c= .yld (V.id p)
def Sc(N:Nat):KC→Prop
 | .p tag _ _=>tag<N
 | .o _ p=>p<N
 | .m _ p=>p<N
 | .ptr p _=>p<N
 | .pe p _ _=>p<N
 | .yld p=>p<N
 | .clo _ ps=>∀p∈ps,p<N
 |_=>True
def RCs(B:BK)(V:Vl):List KC→List C→Prop
 | [],cs=>cs= []
 |k::r,cs=>∃c s,cs=c::s∧RC B V k c∧RCs B V r s
def Scs(N:Nat)(l:List KC):Prop:=∀c∈l,Sc N c
def RD1(B:BK)(V:Vl)(k:KD)(d:D):Prop:=
 match k with
 | .one c=>∃c',d= .one c'∧RC B V c c'
 | .agg cs=>∃cs',d= .agg cs'∧RCs B V cs cs'
 | .tup _=>False
def RTs(B:BK)(V:Vl):List (Bool×List KC)→List D→Prop
 | [],ds=>ds= []
 |x::r,ds=>∃d s,ds=d::s∧RD1 B V (mkD x) d∧RTs B V r s
def RD(B:BK)(V:Vl)(k:KD)(d:D):Prop:=
 match k with
 | .tup ts=>∃ds,d= .tup ds∧RTs B V ts ds
 |k=>RD1 B V k d
def ScD(N:Nat):KD→Prop
 | .one c=>Sc N c
 | .agg cs=>Scs N cs
 | .tup ts=>∀x∈ts,Scs N x.2
def BlkIs(B:BK)(V:Vl)(x:Blk):KB→Prop
 | .box cs=>∃sz cs',x= .own sz [cs']∧RCs B V cs cs'
 | .rows e ne l=>x= .own e.size (l.map (cv e.row))∧(ne=true→l≠[])
 | .mrows e l=>x= .own e.size (l.map (cv e.row))
 | .dead=>x= .dead
def RB(B:BK)(V:Vl)(h:ah)(k:Nat):KB→Prop
 | .box cs=>∃sz cs',an h k=some (sz,[cs'])∧RCs B V cs cs'
 | .rows e ne l=>an h k=some (e.size,l.map (cv e.row))∧(ne=true→l≠[])
 | .mrows e l=>l≠[]→an h k=some (e.size,l.map (cv e.row))
 | .dead=>True
def ScB(N:Nat):KB→Prop
 | .box cs=>Scs N cs
 |_=>True
structure Rel(F:KF)(ks:KS)(V:Vl)(f:Nat→D)(h:ah):Prop where
 sl:∀i d,jf F ks i=some d→i<F.nt∧ScD ks.nx d∧RD (ao F ks) V d (f i)
 bl:∀p b,ao F ks p=some b→p<ks.nx∧ScB ks.nx b∧RB (ao F ks) V h (V.id p) b
 inj:∀p q b b',ao F ks p=some b→ao F ks q=some b'→b.there→b'.there→V.id p=V.id q→p=q
def LeB(N:Nat)(B B':BK):Prop:=∀p,p<N→(∀e ne l',B' p=some (.rows e ne l')→∃e0 ne0 l0,B p=some (.rows e0 ne0 l0)∧l0.length=l'.length)∧∀e l',B' p=some (.mrows e l')→∃e0 l0,B p=some (.mrows e0 l0)∧l0.length=l'.length
def Agree(N:Nat)(V V':Vl):Prop:=∀q,q<N→V'.id q=V.id q∧V'.bo q=V.bo q
theorem LeB.refl(N:Nat)(B:BK):LeB N B B:=fun p hp=>⟨fun e ne l h=>⟨e,ne,l,h,rfl⟩,fun e l h=>⟨e,l,h,rfl⟩⟩
theorem LeB.trans{N M:Nat}{B B' B'':BK}(h:LeB N B B')(h':LeB M B' B'')(hn:N≤M):LeB N B B'':=fun p hp=>⟨fun e ne l hl=>by
  obtain⟨e1,n1,l1,h1,h2⟩:=(h' p (by omega)).1 e ne l hl;obtain⟨e0,n0,l0,h3,h4⟩:=(h p hp).1 _ _ _ h1
  exact⟨e0,n0,l0,h3,h4.trans h2⟩,fun e l hl=>by
  obtain⟨e1,l1,h1,h2⟩:=(h' p (by omega)).2 e l hl;obtain⟨e0,l0,h3,h4⟩:=(h p hp).2 _ _ h1
  exact⟨e0,l0,h3,h4.trans h2⟩⟩
theorem Agree.refl(N:Nat)(V:Vl):Agree N V V:=fun q hq=>⟨rfl,rfl⟩
theorem Agree.trans{N M:Nat}{V V' V'':Vl}(h:Agree N V V')(h':Agree M V' V'')(hn:N≤M):Agree N V V'':=fun q hq=>⟨((h' q (by omega)).1).trans (h q hq).1,((h' q (by omega)).2).trans (h q hq).2⟩
theorem NH{α β:Type}{l:List α}{m:List β}{k:Nat}(h:l.length=m.length):moC l k=moC m k:=by
 cases l with
 |nil=>cases m with
  |nil=>rfl
  |cons b m=>simp at h
 |cons a l=>cases m with
  |nil=>simp at h
  |cons b m=>show C.own k 0 _=C.own k 0 _;rw [h]
section
variable {N : Nat} {B B' : BK} {V V' : Vl}
theorem RC.mono{c:KC}{x:C}(hs:Sc N c)(hb:LeB N B B')(ha:Agree N V V')(h:RC B V c x):RC B' V' c x:=by
 cases c with
 |n k y=>exact h
 |b v=>exact h
 |p tag P d=>have:=(ha tag hs).2;exact⟨by rw [this];exact h.1,by rw [this];exact h.2⟩
 |bv y=>exact h
 |v y=>exact h
 |nil=>exact h
 |s e fr y=>exact h
 |o e p=>
  intro e' ne l hl;obtain⟨e0,n0,l0,h1,h2⟩:=(hb p hs).1 e' ne l hl;rw [(ha p hs).1,←h2];exact h e0 n0 l0 h1
 |m e p=>
  intro e' l hl;obtain⟨e0,l0,h1,h2⟩:=(hb p hs).2 e' l hl;rw [(ha p hs).1,←NH h2];exact h e0 l0 h1
 |ptr p j=>show x=_;rw [(ha p hs).1];exact h
 |pe p i j=>exact⟨h.1,by rw [(ha p hs).1];exact h.2⟩
 |ip e fr y i z j=>exact h
 |clo fn ps=>
  show x=_
  have:(ps.map fun p=>C.ptr (V'.id p) 0 0)=ps.map fun p=> .ptr (V.id p) 0 0:=List.map_congr_left fun p hp=>by rw [(ha p (hs p hp)).1]
  rw [this];exact h
 |yld p=>show x=_;rw [(ha p hs).1];exact h
theorem RCs.mono:∀{l:List KC} {xs:List C},Scs N l→LeB N B B'→Agree N V V'→RCs B V l xs→RCs B' V' l xs
 | [],xs,hs,hb,ha,h=>h
 |c::l,xs,hs,hb,ha,⟨x,s,h1,h2,h3⟩=>⟨x,s,h1,h2.mono (hs c (by simp)) hb ha,h3.mono (fun y hy=>hs y (by simp [hy])) hb ha⟩
theorem uG{x:Bool×List KC}(hs:Scs N x.2):ScD N (mkD x):=by
 obtain⟨b,cs⟩:=x
 cases b with
 |true=>exact hs
 |false=>match cs,hs with
  | [],hs=>exact hs
  | [c],hs=>exact hs c (by simp)
  |c::d::r,hs=>exact hs
theorem RD1.mono{k:KD}{d:D}(hs:ScD N k)(hb:LeB N B B')(ha:Agree N V V')(h:RD1 B V k d):RD1 B' V' k d:=by
 cases k with
 |one c=>obtain⟨c',h1,h2⟩:=h;exact⟨c',h1,h2.mono hs hb ha⟩
 |agg cs=>obtain⟨c',h1,h2⟩:=h;exact⟨c',h1,h2.mono hs hb ha⟩
 |tup ts=>exact h
theorem RTs.mono:∀{l:List (Bool×List KC)} {xs:List D},(∀x∈l,Scs N x.2)→LeB N B B'→Agree N V V'→RTs B V l xs→RTs B' V' l xs
 | [],xs,hs,hb,ha,h=>h
 |c::l,xs,hs,hb,ha,⟨x,s,h1,h2,h3⟩=>⟨x,s,h1,h2.mono (uG (hs c (by simp))) hb ha,h3.mono (fun y hy=>hs y (by simp [hy])) hb ha⟩
theorem RD.mono{k:KD}{d:D}(hs:ScD N k)(hb:LeB N B B')(ha:Agree N V V')(h:RD B V k d):RD B' V' k d:=by
 cases k with
 |one c=>exact RD1.mono (k:= .one c) hs hb ha h
 |agg cs=>exact RD1.mono (k:= .agg cs) hs hb ha h
 |tup ts=>obtain⟨ds,h1,h2⟩:=h;exact⟨ds,h1,h2.mono hs hb ha⟩
theorem RB.mono{h:ah}{k:Nat}{b:KB}(hs:ScB N b)(hb:LeB N B B')(ha:Agree N V V')(hr:RB B V h k b):RB B' V' h k b:=by
 cases b with
 |box cs=>obtain⟨sz,cs',h1,h2⟩:=hr;exact⟨sz,cs',h1,h2.mono hs hb ha⟩
 |rows e ne l=>exact hr
 |mrows e l=>exact hr
 |dead=>trivial
theorem RB.heap{h h':ah}{k:Nat}{b:KB}(hh:an h' k=an h k)(hr:RB B V h k b):RB B V h' k b:=by
 cases b with
 |box cs=>obtain⟨sz,cs',h1,h2⟩:=hr;exact⟨sz,cs',hh.trans h1,h2⟩
 |rows e ne l=>exact⟨hh.trans hr.1,hr.2⟩
 |mrows e l=>exact fun hl=>hh.trans (hr hl)
 |dead=>trivial
end
theorem Sc.mono{N M:Nat}(hn:N≤M){c:KC}(h:Sc N c):Sc M c:=by
 cases c with
 |p tag P d=>exact Nat.lt_of_lt_of_le h hn
 |o e p=>exact Nat.lt_of_lt_of_le h hn
 |m e p=>exact Nat.lt_of_lt_of_le h hn
 |ptr p j=>exact Nat.lt_of_lt_of_le h hn
 |pe p i j=>exact Nat.lt_of_lt_of_le h hn
 |yld p=>exact Nat.lt_of_lt_of_le h hn
 |clo fn ps=>exact fun p hp=>Nat.lt_of_lt_of_le (h p hp) hn
 |_=>trivial
theorem Scs.mono{N M:Nat}(hn:N≤M){l:List KC}(h:Scs N l):Scs M l:=fun c hc=>(h c hc).mono hn
theorem ScD.mono{N M:Nat}(hn:N≤M){d:KD}(h:ScD N d):ScD M d:=by
 cases d with
 |one c=>exact Sc.mono hn h
 |agg cs=>exact Scs.mono hn h
 |tup ts=>exact fun x hx=>(h x hx).mono hn
theorem ScB.mono{N M:Nat}(hn:N≤M){b:KB}(h:ScB N b):ScB M b:=by
 cases b with
 |box cs=>exact Scs.mono hn h
 |_=>trivial
theorem aU{t t':Ty}{x:t.val}{y:t'.val}(h:fg t t' x=some y):∃e:t=t',e▸x=y:=by
 unfold fg at h;split at h
 ·rename_i e;exact⟨e,Option.some.inj h⟩
 ·simp at h
theorem ll:∀(e:Ty) (x:e.val),(e.row x).length=e.size
 | .I _,_=>rfl
 | .B,_=>rfl
 | .S _,_=>rfl
 | .U,_=>rfl
 | .C a b,x=>by
  show(a.row x.1++b.row x.2).length=a.size+b.size;rw [List.length_append,ll a,ll b]
theorem oH(fr:Bool):∀(e:Ty) (x:e.val),(bU fr e x).length=e.size
 | .I _,_=>rfl
 | .B,_=>rfl
 | .S _,_=>rfl
 | .U,_=>rfl
 | .C a b,x=>by
  show(bU fr a x.1++bU fr b x.2).length=a.size+b.size;rw [List.length_append,oH fr a,oH fr b]
theorem dS(N:Nat)(fr:Bool):∀(e:Ty) (x:e.val),Scs N (bU fr e x)
 | .I _,_=>fun c hc=>by rw [List.mem_singleton.1 hc];trivial
 | .B,_=>fun c hc=>by rw [List.mem_singleton.1 hc];trivial
 | .S _,_=>fun c hc=>by rw [List.mem_singleton.1 hc];trivial
 | .U,_=>fun c hc=>by simp [bU]at hc
 | .C a b,x=>fun c hc=>by
  rcases List.mem_append.1 (show c∈bU fr a x.1++bU fr b x.2 from hc)with h|h
  ·exact dS N fr a x.1 c h
  ·exact dS N fr b x.2 c h
section
variable {B : BK} {V : Vl}
theorem RCs.append:∀{k1 k2:List KC} {c1 c2:List C},RCs B V k1 c1→RCs B V k2 c2→RCs B V (k1++k2) (c1++c2)
 | [],k2,c1,c2,h1,h2=>by rw [show c1= []from h1];exact h2
 |k::k1,k2,c1,c2,⟨c,s,e1,h1,h3⟩,h2=>⟨c,s++c2,by rw [e1];rfl,h1,h3.append h2⟩
theorem RCs.len:∀{k:List KC} {c:List C},RCs B V k c→c.length=k.length
 | [],c,h=>by rw [show c= []from h];rfl
 |_::k,c,⟨x,s,e,_,h⟩=>by rw [e,List.length_cons,List.length_cons,h.len]
theorem RCs.drop:∀{k:List KC} {c:List C} (n:Nat),RCs B V k c→RCs B V (k.drop n) (c.drop n)
 |k,c,0,h=>h
 | [],c,n+1,h=>by rw [show c= []from h];exact rfl
 |_::k,c,n+1,⟨x,s,e,_,h⟩=>by rw [e];exact h.drop n
theorem RCs.take:∀{k:List KC} {c:List C} (n:Nat),RCs B V k c→RCs B V (k.take n) (c.take n)
 |k,c,0,h=>rfl
 | [],c,n+1,h=>by rw [show c= []from h];exact rfl
 |_::k,c,n+1,⟨x,s,e,h1,h⟩=>⟨x,s.take n,by rw [e];rfl,h1,h.take n⟩
theorem RCs.cut{k k2:List KC}{c:List C}{i n:Nat}(h:RCs B V k c)(hk:Ev.cut k i n=some k2):∃c2,Ev.cut c i n=some c2∧RCs B V k2 c2:=by
 unfold Ev.cut at hk ⊢;split at hk
 ·rename_i hl;rw [if_pos (by rw [h.len];exact hl)];refine⟨_,rfl,?_⟩;rw [←Option.some.inj hk];exact(h.drop i).take n
 ·simp at hk
theorem RCs.patch{k k2 x:List KC}{c y:List C}{i:Nat}(h:RCs B V k c)(hx:RCs B V x y)(hk:Ev.patch k i x=some k2):∃c2,Ev.patch c i y=some c2∧RCs B V k2 c2:=by
 unfold Ev.patch at hk ⊢;split at hk
 ·rename_i hl;rw [if_pos (by rw [h.len,hx.len];exact hl)];refine⟨_,rfl,?_⟩;rw [←Option.some.inj hk,hx.len];exact((h.take i).append hx).append (h.drop _)
 ·simp at hk
theorem gO{N:Nat}{k k2:List KC}{i n:Nat}(h:Scs N k)(hk:Ev.cut k i n=some k2):Scs N k2:=by
 unfold Ev.cut at hk;split at hk
 ·rw [←Option.some.inj hk];exact fun c hc=>h c (List.mem_of_mem_drop (List.mem_of_mem_take hc))
 ·simp at hk
theorem Ad{N:Nat}{k k2 x:List KC}{i:Nat}(h:Scs N k)(hx:Scs N x)(hk:Ev.patch k i x=some k2):Scs N k2:=by
 unfold Ev.patch at hk;split at hk
 ·rw [←Option.some.inj hk];intro c hc;simp only [List.mem_append]at hc;rcases hc with(hc|hc)|hc
  ·exact h c (List.mem_of_mem_take hc)
  ·exact hx c hc
  ·exact h c (List.mem_of_mem_drop hc)
 ·simp at hk
theorem cH{fr f:Bool}(hf:fr=true→f=true):∀(e:Ty) (x:e.val),RCs B V (bU fr e x) ((e.row x).map (pC f))
 | .I _,_=>⟨_,_,rfl,rfl,rfl⟩
 | .B,_=>⟨_,_,rfl,rfl,rfl⟩
 | .S e,x=>⟨_,_,rfl,⟨f,rfl,hf⟩,rfl⟩
 | .U,_=>rfl
 | .C a b,x=>by
  show RCs B V (bU fr a x.1++bU fr b x.2) ((a.row x.1++b.row x.2).map (pC f));rw [List.map_append];exact(cH hf a x.1).append (cH hf b x.2)
theorem RCs.one{c:KC}{x:C}(h:RC B V c x):RCs B V [c] [x]:=⟨x,[],rfl,h,rfl⟩
theorem RCs.one_inv{c:KC}{xs:List C}(h:RCs B V [c] xs):∃x,xs= [x]∧RC B V c x:=by
 obtain⟨x,s,e,h1,h2⟩:=h;exact⟨x,by rw [e,show s= []from h2],h1⟩
theorem oI{e:Ty}{c:KC}{x:e.val}{y:C}(h:lg noB e c=some x)(hf:frC c=true)(hr:RC B V c y): [y]=(e.row x).map (pC true):=by
 unfold lg at h;split at h
 ·rename_i k k' z;split at h
  ·rename_i hk;subst hk;rw [←Option.some.inj h];rw [show y=_ from hr];rfl
  ·simp at h
 ·rw [←Option.some.inj h,show y=_ from hr];rfl
 ·rename_i tag P d;rw [←Option.some.inj h,hr.1,hr.2];rfl
 ·rw [←Option.some.inj h,show y=_ from hr];rfl
 ·rw [←Option.some.inj h,show y=_ from hr];rfl
 ·rename_i e0 e' fr z;obtain⟨he,hx⟩:=aU h;cases he;obtain⟨f,h1,h2⟩:=hr;rw [←hx,h1,h2 hf];rfl
 ·simp [noB]at h
 ·simp [noB]at h
 ·simp at h
theorem mR:∀{e:Ty} {cs:List KC} {x:e.val} {ys:List C},dec noB e cs=some x→cs.all frC=true→RCs B V cs ys→ys=(e.row x).map (pC true):=by
 intro e
 induction e with
 |C a b iha ihb=>
  intro cs x ys h hf hr;unfold dec at h;simp only [zbE]at h;obtain⟨x1,h1,y1,h2,h3⟩:=h
  have:=Option.some.inj h3
  subst this;have e1:=iha h1 (List.all_eq_true.2 fun c hc=>List.all_eq_true.1 hf c (List.mem_of_mem_take hc)) (hr.take a.size);have e2:=ihb h2 (List.all_eq_true.2 fun c hc=>List.all_eq_true.1 hf c (List.mem_of_mem_drop hc)) (hr.drop a.size);show ys=(a.row x1++b.row y1).map (pC true);rw [List.map_append,←e1,←e2,List.take_append_drop]
 |U=>
  intro cs x ys h hf hr
  cases cs with
  |nil=>rw [show ys= []from hr];rfl
  |cons c r=>cases r with
   |nil=>simp [dec,lg]at h
   |cons d r=>simp [dec]at h
 |_=>
  intro cs x ys h hf hr
  cases cs with
  |nil=>simp [dec]at h
  |cons c r=>cases r with
   |nil=>
    obtain⟨y,rfl,hy⟩:=hr.one_inv;exact oI (by simpa [dec]using h) (by simpa using hf) hy
   |cons d r=>simp [dec]at h
end
end K
end Ev
end
noncomputable section
namespace Ev
namespace K
open Go Go.RowKit
def RDl(B:BK)(V:Vl):List KD→List D→Prop
 | [],ds=>ds= []
 |k::r,ds=>∃d s,ds=d::s∧RD B V k d∧RDl B V r s
theorem LM{B:BK}{V:Vl}(v:Value):RC B V (kC v) (ij v):=by
 unfold kC;split
 ·rfl
 ·rfl
 ·rfl
 ·rename_i h1 h2 h3;unfold ij;split
  ·exact absurd rfl h3
  ·rfl
theorem Oo(N:Nat)(v:Value):Sc N (kC v):=by
 unfold kC;split<;>trivial
theorem mS{B:BK}{V:Vl}:∀l:List Value,RCs B V (l.map kC) (l.map ij)
 | []=>rfl
 |v::l=>⟨_,_,rfl,LM v,mS l⟩
theorem CC(N:Nat)(l:List Value):Scs N (l.map kC):=fun c hc=>by
 obtain⟨v,_,rfl⟩:=List.mem_map.1 hc;exact Oo N v
theorem Gu{B:BK}{V:Vl}{v:Value}{d:KD}(h:rU v=some d):∃d',nT v=some d'∧RD B V d d':=by
 unfold rU at h;split at h
 ·rename_i cs;split at h
  ·rename_i ha;rw [←Option.some.inj h];refine⟨.agg (cs.toList.map ij),?_,_,rfl,mS _⟩;unfold nT;simp only;rw [if_pos ha]
  ·simp at h
 ·simp at h
 ·rename_i h1 h2;rw [←Option.some.inj h];refine⟨.one (ij v),?_,_,rfl,LM v⟩;unfold nT;split
  ·exact absurd rfl (h1 _)
  ·exact absurd rfl (h2 _)
  ·rfl
theorem Jq{N:Nat}{v:Value}{d:KD}(h:rU v=some d):ScD N d:=by
 unfold rU at h;split at h
 ·split at h
  ·rw [←Option.some.inj h];exact CC N _
  ·simp at h
 ·simp at h
 ·rw [←Option.some.inj h];exact Oo N _
section
variable {F : KF} {ks : KS} {V : Vl} {f : Nat → D} {h : ah}
theorem Gv{a b:Nat}(h:a<b):Nat.blt a b=true:=by simpa using h
theorem aY(hr:Rel F ks V f h){x:Operand}{d:KD}(hx:kO F ks x=some d):∃d',ov F.nt f x=some d'∧ScD ks.nx d∧RD (ao F ks) V d d':=by
 cases x with
 |tmp i=>
  obtain⟨h1,h2,h3⟩:=hr.sl i d hx;refine⟨f i,?_,h2,h3⟩;show cond (Nat.blt i F.nt) (some (f i)) none=_;rw [Gv h1];rfl
 |const v=>
  obtain⟨d',h1,h2⟩:=Gu (B:=ao F ks) (V:=V) (show rU v=some d from hx);exact⟨d',h1,Jq hx,h2⟩
 |global g=>simp [kO]at hx
 |func k=>
  have:=Option.some.inj (show some (KD.one (.v (.func (.func k) #[] #[])))=some d from hx)
  subst this;exact⟨_,rfl,trivial,_,rfl,rfl⟩
theorem xi(hr:Rel F ks V f h):∀{l:List Operand} {ds:List KD},il F ks l=some ds→∃ds',l.mapM (ov F.nt f)=some ds'∧(∀d∈ds,ScD ks.nx d)∧RDl (ao F ks) V ds ds'
 | [],ds,hx=>by
  have:=Option.some.inj (show some []=some ds from hx)
  subst this;exact⟨[],rfl,by simp,rfl⟩
 |x::l,ds,hx=>by
  simp only [il,zbE]at hx;obtain⟨d,h1,r,h2,h3⟩:=hx
  have:=Option.some.inj h3
  subst this;obtain⟨d',g1,g2,g3⟩:=aY hr h1;obtain⟨r',e1,e2,e3⟩:=xi hr h2;refine⟨d'::r',by rw [List.mapM_cons,g1,e1];rfl,?_,d',r',rfl,g3,e3⟩;intro y hy;rcases List.mem_cons.1 hy with rfl|hy
  ·exact g2
  ·exact e2 y hy
theorem rX(hr:Rel F ks V f h):∀{l:List (Nat×Operand)} {ps:List (Nat×KD)},xb F ks l=some ps→∃ps',uA F.nt f l=some ps'∧(∀x∈ps,ScD ks.nx x.2)∧ps'.map (·.1)=ps.map (·.1)∧RDl (ao F ks) V (ps.map (·.2)) (ps'.map (·.2))
 | [],ps,hx=>by
  have:=Option.some.inj (show some []=some ps from hx)
  subst this;exact⟨[],rfl,by simp,rfl,rfl⟩
 |(i,x)::l,ps,hx=>by
  simp only [xb,zbE]at hx;obtain⟨d,h1,r,h2,h3⟩:=hx
  have:=Option.some.inj h3
  subst this;obtain⟨d',g1,g2,g3⟩:=aY hr h1;obtain⟨r',e1,e2,e3,e4⟩:=rX hr h2;refine⟨(i,d')::r',?_,?_,?_,?_⟩
  ·unfold uA at e1 ⊢;rw [List.mapM_cons,e1];simp only [g1,Option.map_some,zbB,zbS,Option.pure_def]
  ·intro y hy;rcases List.mem_cons.1 hy with rfl|hy
   ·exact g2
   ·exact e2 y hy
  ·simp only [List.map_cons,e3]
  ·exact⟨d',r'.map (·.2),rfl,g3,e4⟩
def Bls(B:BK)(V:Vl)(h:ah):Prop:=∀p b,B p=some b→RB B V h (V.id p) b
theorem Rel.bls(hr:Rel F ks V f h):Bls (ao F ks) V h:=fun p b hb=>(hr.bl p b hb).2.2
theorem gB{k sz:Nat}{es:List (List C)}(hg:an h k=some (sz,es)):HB h [[(k,sz,es)]]:=⟨by simp,fun x hx=>by simp at hx;subst hx;exact hg⟩
theorem aC:HB h []:=⟨List.nodup_nil,fun x hx=>by simp at hx⟩
theorem xj{r:List T}(m:Nat):(r.map (pC true)).mapM (cX h (m+1))=some (r.map fun t=>(true,t)):=by
 induction r with
 |nil=>rfl
 |cons t r ih=>
  rw [List.map_cons,List.mapM_cons,ih];cases t<;>rfl
theorem EB{B:BK}{e:Ty}{c:KC}{x:e.val}{y:C}(hB:Bls B V h)(hd:lg B e c=some x)(hr:RC B V c y):∃fl t,(∀m,cX h (m+2) y=some (fl,t))∧[t]=e.row x∧(frC c=true→fl=true):=by
 unfold lg at hd;split at hd
 ·rename_i k k' z;split at hd
  ·rename_i hk;subst hk;rw [←Option.some.inj hd,show y=_ from hr];exact⟨true,_,fun m=>rfl,rfl,fun _=>rfl⟩
  ·simp at hd
 ·rw [←Option.some.inj hd,show y=_ from hr];exact⟨true,_,fun m=>rfl,rfl,fun _=>rfl⟩
 ·rename_i tag P d;rw [←Option.some.inj hd,hr.1,hr.2];exact⟨true,_,fun m=>rfl,rfl,fun _=>rfl⟩
 ·rw [←Option.some.inj hd,show y=_ from hr];exact⟨true,_,fun m=>rfl,rfl,fun _=>rfl⟩
 ·rw [←Option.some.inj hd,show y=_ from hr];exact⟨true,_,fun m=>rfl,rfl,fun _=>rfl⟩
 ·rename_i e0 e' fr z;obtain⟨he,hx⟩:=aU hd;cases he;obtain⟨fl,h1,h2⟩:=hr;rw [←hx,h1];exact⟨fl,_,fun m=>rfl,rfl,h2⟩
 ·rename_i e0 e1 p;split at hd
  ·rename_i e' ne l hp;obtain⟨he,hx⟩:=aU hd;cases he;have h1:=hr _ _ _ hp;have h2:=(hB p _ hp).1;rw [←hx,h1];exact⟨true,_,fun m=>Cn (r:=Ty.row _) (L:= [[(V.id p,_,l.map (cv (Ty.row _)))]]) 0 rfl (fun x h m=>xj m) h (gB h2) m,rfl,fun _=>rfl⟩
  ·simp at hd
 ·rename_i e0 e1 p;split at hd
  ·rename_i e' l hp;obtain⟨he,hx⟩:=aU hd;cases he;have h1:=hr _ _ hp;rw [←hx,h1]
   cases l with
   |nil=>exact⟨true,_,fun m=>rfl,rfl,fun _=>rfl⟩
   |cons a l=>
    have h2:=hB p _ hp (by simp);exact⟨true,_,fun m=>Cn (r:=Ty.row _) (L:= [[(V.id p,_,(a::l).map (cv (Ty.row _)))]]) 0 rfl (fun x h m=>xj m) h (gB h2) m,rfl,fun _=>rfl⟩
  ·simp at hd
 ·simp at hd
theorem Jr{B:BK}(hB:Bls B V h):∀{e:Ty} {cs:List KC} {x:e.val} {ys:List C},dec B e cs=some x→RCs B V cs ys→∃l,(∀m,ys.mapM (cX h (m+2))=some l)∧l.map (·.2)=e.row x∧(cs.all frC=true→l.all (·.1)=true):=by
 intro e
 induction e with
 |C a b iha ihb=>
  intro cs x ys hd hr;unfold dec at hd;simp only [zbE]at hd;obtain⟨x1,h1,y1,h2,h3⟩:=hd
  have:=Option.some.inj h3
  subst this;obtain⟨l1,e1,e2,e3⟩:=iha h1 (hr.take a.size);obtain⟨l2,g1,g2,g3⟩:=ihb h2 (hr.drop a.size);refine⟨l1++l2,fun m=> ?_,?_,fun hf=> ?_⟩
  ·have:ys=ys.take a.size++ys.drop a.size:=(List.take_append_drop _ _).symm
   rw [this,List.mapM_append,e1 m,g1 m];rfl
  ·rw [List.map_append,e2,g2];rfl
  ·rw [List.all_append,e3 (List.all_eq_true.2 fun c hc=>List.all_eq_true.1 hf c (List.mem_of_mem_take hc)),g3 (List.all_eq_true.2 fun c hc=>List.all_eq_true.1 hf c (List.mem_of_mem_drop hc))];rfl
 |U=>
  intro cs x ys hd hr
  cases cs with
  |nil=>rw [show ys= []from hr];exact⟨[],fun m=>rfl,rfl,fun _=>rfl⟩
  |cons c r=>cases r with
   |nil=>simp [dec,lg]at hd
   |cons d r=>simp [dec]at hd
 |_=>
  intro cs x ys hd hr
  cases cs with
  |nil=>simp [dec]at hd
  |cons c r=>cases r with
   |nil=>
    obtain⟨y,rfl,hy⟩:=hr.one_inv;obtain⟨fl,t,h1,h2,h3⟩:=EB hB (by simpa [dec]using hd) hy;exact⟨[(fl,t)],fun m=>by rw [List.mapM_cons,h1 m];rfl,h2,fun hf=>by simpa using h3 (by simpa using hf)⟩
   |cons d r=>simp [dec]at hd
theorem Ae{B:BK}(hB:Bls B V h){t:TyD}{d:KD}{x:t.2.val}{y:D}(hd:Cv B t d=some x)(hr:RD B V d y):∃fl,bO h y=some (fl,kA t x)∧(frD d=true→fl=true):=by
 obtain⟨ag,e⟩:=t
 cases d with
 |one c=>
  obtain⟨c',rfl,hc⟩:=hr;simp only [Cv]at hd
  cases ag with
  |true=>simp at hd
  |false=>
   obtain⟨fl,t,h1,h2,h3⟩:=EB hB (by simpa using hd) hc;refine⟨fl,?_,h3⟩;show(cX h 6 c').bind _=_;rw [h1 4];show some (fl,TD.one t)=some (fl,kA (false,e) x);unfold kA;simp only [←h2]
 |agg cs=>
  obtain⟨cs',rfl,hc⟩:=hr;simp only [Cv]at hd
  cases ag with
  |false=>simp at hd
  |true=>
   obtain⟨l,h1,h2,h3⟩:=Jr hB (by simpa using hd) hc;refine⟨l.all (·.1),?_,h3⟩;show(cs'.mapM (cX h 6)).bind _=_;rw [h1 4];show some (l.all (·.1),TD.agg (l.map (·.2)))=some (_,kA (true,e) x);rw [h2];rfl
 |tup ts=>simp [Cv]at hd
theorem oJ{B:BK}(hB:Bls B V h):∀{ts:List TyD} {ds:List KD} {x:aE ts} {ys:List D},jH B ts ds=some x→RDl B V ds ys→∃l,ys.mapM (bO h)=some l∧l.map (·.2)=bp ts x∧(ds.all frD=true→l.all (·.1)=true)
 | [],[],x,ys,hd,hr=>by rw [show ys= []from hr];exact⟨[],rfl,rfl,fun _=>rfl⟩
 | [],d::ds,x,ys,hd,hr=>by simp [jH]at hd
 | [t],[],x,ys,hd,hr=>by simp [jH]at hd
 | [t],[d],x,ys,hd,hr=>by
  obtain⟨y,s,rfl,h1,h2⟩:=hr;rw [show s= []from h2];obtain⟨fl,g1,g2⟩:=Ae hB (show Cv B t d=some x from hd) h1;exact⟨[(fl,kA t x)],by rw [List.mapM_cons,g1];rfl,rfl,fun hf=>by simpa using g2 (by simpa using hf)⟩
 | [t],d::d'::ds,x,ys,hd,hr=>by simp [jH]at hd
 |t::t'::r,[],x,ys,hd,hr=>by simp [jH]at hd
 |t::t'::r,d::ds,x,ys,hd,hr=>by
  simp only [jH,zbE]at hd;obtain⟨x1,h1,y1,h2,h3⟩:=hd
  have:=Option.some.inj h3
  subst this;obtain⟨y,s,rfl,e1,e2⟩:=hr;obtain⟨fl,g1,g2⟩:=Ae hB h1 e1;obtain⟨l,k1,k2,k3⟩:=oJ hB h2 e2;refine⟨(fl,kA t x1)::l,by rw [List.mapM_cons,g1,k1];rfl,by rw [List.map_cons,k2];rfl,fun hf=> ?_⟩;simp only [List.all_cons,Bool.and_eq_true]at hf ⊢;exact⟨g2 hf.1,k3 hf.2⟩
theorem HP{B:BK}{fr fl:Bool}(hf:fr=true→fl=true)(t:TyD)(x:t.2.val):RD1 B V (mkD (LE fr t x)) (bF fl (kA t x)):=by
 obtain⟨ag,e⟩:=t;have hc:=cH (B:=B) (V:=V) hf e x
 cases ag with
 |true=>exact⟨_,rfl,hc⟩
 |false=>
  have hl:=oH fr e x;have hl2:=ll e x
  show RD1 B V (mkD (false,bU fr e x)) (bF fl (match e.row x with
   | [y]=> .one y
   |ys=> .agg ys))
  revert hc hl hl2
  cases bU fr e x with
  |nil=>
   intro hc hl hl2
   cases hrw:e.row x with
   |nil=>exact⟨_,rfl,rfl⟩
   |cons y ys=>rw [hrw]at hl2;simp only [List.length_nil,List.length_cons]at hl hl2;omega
  |cons c r=>
   cases r with
   |nil=>
    intro hc hl hl2
    cases hrw:e.row x with
    |nil=>rw [hrw]at hl2;simp only [List.length_nil,List.length_cons]at hl hl2;omega
    |cons y ys=>cases ys with
     |nil=>
      rw [hrw]at hc;obtain⟨z,hz,hz2⟩:=hc.one_inv;refine⟨z,?_,hz2⟩;show D.one (pC fl y)=_;rw [show pC fl y=z from(List.cons.inj hz).1]
     |cons y2 ys=>rw [hrw]at hl2;simp only [List.length_nil,List.length_cons]at hl hl2;omega
   |cons c2 r=>
    intro hc hl hl2
    cases hrw:e.row x with
    |nil=>rw [hrw]at hl2;simp only [List.length_nil,List.length_cons]at hl hl2;omega
    |cons y ys=>cases ys with
     |nil=>rw [hrw]at hl2;simp only [List.length_nil,List.length_cons]at hl hl2;omega
     |cons y2 ys=>rw [hrw]at hc;exact⟨_,rfl,hc⟩
theorem qE{B:BK}{fr fl:Bool}(hf:fr=true→fl=true):∀(ts:List TyD) (x:aE ts),RTs B V (ml fr ts x) ((bp ts x).map (bF fl))
 | [],_=>rfl
 | [t],x=>⟨_,_,rfl,HP hf t x,rfl⟩
 |t::t'::r,x=>⟨_,_,rfl,HP hf t x.1,qE hf (t'::r) x.2⟩
theorem xk(N:Nat)(fr:Bool):∀(ts:List TyD) (x:aE ts),∀y∈ml fr ts x,Scs N y.2
 | [],_=>fun y hy=>by simp [ml]at hy
 | [t],x=>fun y hy=>by rw [List.mem_singleton.1 (show y∈ [LE fr t x]from hy)];exact dS N fr t.2 x
 |t::t'::r,x=>fun y hy=>by
  rcases List.mem_cons.1 (show y∈LE fr t x.1::ml fr (t'::r) x.2 from hy)with rfl|hy
  ·exact dS N fr t.2 x.1
  ·exact xk N fr (t'::r) x.2 y hy
end
end K
end Ev
end
noncomputable section
namespace Ev
namespace K
open Go Go.RowKit
def Vl.set(V:Vl)(nid k tag:Nat)(bo:Bool):Vl:=⟨fun q=>if q=nid then k else V.id q,fun q=>if q=tag then bo else V.bo q⟩
theorem Vl.set_agree{N nid tag k:Nat}{bo:Bool}{V:Vl}(h1:N≤nid)(h2:N≤tag):Agree N V (V.set nid k tag bo):=fun q hq=>⟨if_neg (by omega),if_neg (by omega)⟩
theorem Vl.set_id{nid tag k:Nat}{bo:Bool}{V:Vl}:(V.set nid k tag bo).id nid=k:=if_pos rfl
theorem Vl.set_bo{nid tag k:Nat}{bo:Bool}{V:Vl}:(V.set nid k tag bo).bo tag=bo:=if_pos rfl
def Be(F:KF)(ks:KS)(nid:Nat)(e:KE):BK:=ao F {ks with bl:=blE e nid ks.bl}
def KB.like(b0 b:KB):Prop:=
 match b with
 | .rows _ _ l=>∃e0 n0 l0,b0= .rows e0 n0 l0∧l0.length=l.length
 | .mrows _ l=>∃e0 l0,b0= .mrows e0 l0∧l0.length=l.length
 |_=>True
structure LN(B':BK)(V' V:Vl)(ks:KS)(k:Nat)(e:KE)(u:List (Nat×Blk)):Prop where
 real:∃uo un,u=uo++un∧
  (match e.upd with
   |none=>uo= []
   |some (p,b)=>(∃x,uo= [(V.id p,x)]∧BlkIs B' V' x b∧∀b0,ae ks.bl p=some b0→b0.there)∨(uo= []∧¬b.there∧∀b0,ae ks.bl p=some b0→¬b0.there))∧
  (match e.new with
   |none=>un= []
   |some b=>(∃x,un= [(k,x)]∧BlkIs B' V' x b∧b.there)∨(un= []∧¬b.there))
structure bM(E:Env)(n:Nat)(F:KF)(ks:KS)(V:Vl)(f:Nat→D)(h:ah)(M tag nid:Nat)(op:Op)(e:KE):Prop where
 upd:∀p b,e.upd=some (p,b)→∃b0,ae ks.bl p=some b0∧b0≠ .dead∧ScB ks.nx b∧b0.like b
 new:∀b,e.new=some b→ScB ks.nx b∧b≠ .dead
 sc:ScD M (lG tag e.v)
 run:∃bo,∀k,∃v u,stepG E (cpR E n) none k op (ay (tab F.nt f)) h=some ⟨v,u⟩∧RD (Be F ks nid e) (V.set nid k tag bo) (lG tag e.v) v∧LN (Be F ks nid e) (V.set nid k tag bo) V ks k e u
def NI(P:Program)(ty:TypeId)(kinds:List IntKind):Prop:=∀(x y:Operand) (l:List (Int×Int)),l.length=kinds.length→
 am P (do eqGuard .eql ty x y (.agg ((kinds.zip l).map fun z=>Value.int z.1 z.2.1).toArray) (.agg ((kinds.zip l).map fun z=>Value.int z.1 z.2.2).toArray);binOp .eql ty (.agg ((kinds.zip l).map fun z=>Value.int z.1 z.2.1).toArray) (.agg ((kinds.zip l).map fun z=>Value.int z.1 z.2.2).toArray))=some (.bool (@decide (eqP l) (eqD l)))∧
 am P (do eqGuard .neq ty x y (.agg ((kinds.zip l).map fun z=>Value.int z.1 z.2.1).toArray) (.agg ((kinds.zip l).map fun z=>Value.int z.1 z.2.2).toArray);binOp .neq ty (.agg ((kinds.zip l).map fun z=>Value.int z.1 z.2.1).toArray) (.agg ((kinds.zip l).map fun z=>Value.int z.1 z.2.2).toArray))=some (.bool (!(@decide (eqP l) (eqD l))))
def HQ(E:Env)(n:Nat)(k:FuncId)(vs:List TD):(o:OutK)→o.val→Prop
 | .data true ts,x=>RunsP E n k vs (.fresh,bp ts x)
 | .data false ts,x=>Ep E n k vs (bp ts x)
 | .own e,l=>RunsP E n k vs (.own,[.one (.s true e.size (l.map e.row))])
 | .mown e,l=>RunsP E n k vs (PZ e.size e.row l)
 | .gown e,s=>RunsP E n k vs (bif s.nn then .own else .fresh,[.one (.s s.nn s.sz (s.l.map e.row))])
def af(E:Env)(en:aF):Prop:=∀m a out,en.f a=some out→HQ E (m+en.d) en.k (bp en.ins a) en.out out
structure GOk(G:KG)(E:Env)(D:Nat):Prop where
 ok:E.Ok
 ti:∀t i,ae G.ti t=some i→E.ti t=some i
 eqs:∀ty kinds,ae G.eqs ty=some kinds→NI E.P ty kinds
 fns:∀en∈G.fns,en.d≤D∧af E en
 fi:∀k f,ae G.fi k=some f→E.fn k=some f∧E.ax k=some fun _=>none
section
variable {E : Env} {n : Nat} {F : KF} {ks : KS} {V : Vl} {f : Nat → D} {h : ah} {M tag nid : Nat} {op : Op} {G : KG} {D0 : Nat}
theorem NJ{nid:Nat}{v:KD}:Be F ks nid ⟨v,none,none⟩=ao F ks:=rfl
theorem aB{α:Type}{q:Nat}{b:α}{l:List (Nat×α)}{p:Nat}:ae ((q,b)::l) p=if p=q then some b else ae l p:=by
 show cond (Nat.beq q p) (some b) (ae l p)=_;by_cases h:p=q
 ·subst h;rw [if_pos rfl,show Nat.beq p p=true from Nat.beq_refl p];rfl
 ·rw [if_neg h]
  cases hb:Nat.beq q p with
  |true=>exact absurd (Nat.eq_of_beq_eq_true hb).symm h
  |false=>rfl
theorem gC{q:Nat}{b:KB}{bl:List (Nat×KB)}{p:Nat}(hb:b≠ .dead):ao F {ks with bl:=(q,b)::bl} p=if p=q then some b else ao F {ks with bl:=bl} p:=by
 by_cases hp:p=q
 ·subst hp;rw [if_pos rfl];unfold ao aT;simp only [aB,if_true]
  cases b with
  |dead=>exact absurd rfl hb
  |_=>rfl
 ·rw [if_neg hp];unfold ao aT;simp only [aB,if_neg hp]
theorem Af{q:Nat}{bl:List (Nat×KB)}{p:Nat}:ao F {ks with bl:=(q,.dead)::bl} p=if p=q then none else ao F {ks with bl:=bl} p:=by
 by_cases hp:p=q
 ·subst hp;rw [if_pos rfl];unfold ao aT;simp only [aB,if_true]
 ·rw [if_neg hp];unfold ao aT;simp only [aB,if_neg hp]
theorem al{p:Nat}{b:KB}(h:ae ks.bl p=some b)(hb:b≠ .dead):ao F ks p=some b:=by
 unfold ao aT;rw [h]
 cases b with
 |dead=>exact absurd rfl hb
 |_=>rfl
theorem CD(hn:ks.nx≤nid){e:KE}(hu:∀p b,e.upd=some (p,b)→∃b0,ae ks.bl p=some b0∧b0≠ .dead∧b0.like b)(hnew:∀b,e.new=some b→b≠ .dead):LeB ks.nx (ao F ks) (Be F ks nid e):=by
 have h1:LeB ks.nx (ao F ks) (ao F {ks with bl:=blU e ks.bl}):=by
  unfold blU
  cases hx:e.upd with
  |none=>exact LeB.refl _ _
  |some x=>
   obtain⟨p0,b⟩:=x;obtain⟨b0,g1,g2,g3⟩:=hu p0 b hx;have g1':=al (F:=F) g1 g2;intro p hp;by_cases hb:b= .dead
   ·subst hb;simp only [Af];by_cases hpp:p=p0
    ·simp [hpp]
    ·simp only [if_neg hpp];exact⟨fun e ne l h=>⟨e,ne,l,h,rfl⟩,fun e l h=>⟨e,l,h,rfl⟩⟩
   ·simp only [gC hb];by_cases hpp:p=p0
    ·subst hpp;simp only [if_pos rfl];refine⟨fun e ne l h=> ?_,fun e l h=> ?_⟩
     ·have:=Option.some.inj h
      subst this;obtain⟨e0,n0,l0,k1,k2⟩:=g3;exact⟨e0,n0,l0,by rw [g1',k1],k2⟩
     ·have:=Option.some.inj h
      subst this;obtain⟨e0,l0,k1,k2⟩:=g3;exact⟨e0,l0,by rw [g1',k1],k2⟩
    ·simp only [if_neg hpp];exact⟨fun e ne l h=>⟨e,ne,l,h,rfl⟩,fun e l h=>⟨e,l,h,rfl⟩⟩
 unfold Be blE
 cases hx:e.new with
 |none=>exact h1
 |some b=>
  intro p hp;simp only [gC (hnew b hx),if_neg (show¬p=nid by omega)];exact h1 p hp
theorem gY{d:KD}(h:∀x,d≠ .one (.bv x)):lG tag d=d:=by
 unfold lG;split
 ·exact absurd rfl (h _)
 ·rfl
theorem aw{d:KD}{v:D}(ht:ks.nx≤tag)(hn:ks.nx≤nid)(htM:tag<M)(hv:∀k,stepG E (cpR E n) none k op (ay (tab F.nt f)) h=some ⟨v,[]⟩)(hs:ScD ks.nx d)(hd:RD (ao F ks) V d v):bM E n F ks V f h M tag nid op ⟨d,none,none⟩:=by
 have hM:ks.nx≤M:=by omega
 refine⟨fun p b hb=>by simp at hb,fun b hb=>by simp at hb,?_,?_⟩
 ·unfold lG;split
  ·exact htM
  ·exact hs.mono hM
 ·refine⟨match d with
   | .one (.bv x)=>x
   |_=>false,fun k=>⟨v,[],hv k,?_,⟨[],[],rfl,rfl,rfl⟩⟩⟩
  rw [NJ];by_cases hb:∃x,d= .one (.bv x)
  ·obtain⟨x,rfl⟩:=hb;obtain⟨c,rfl,hc⟩:=hd;refine⟨_,rfl,?_,?_⟩
   ·rw [Vl.set_bo];exact hc
   ·rw [Vl.set_bo];cases x<;>rfl
  ·rw [gY (fun x hx=>hb ⟨x,hx⟩)];exact hd.mono hs (LeB.refl _ _) (Vl.set_agree hn ht)
theorem cR{P:Prop}{d:Decidable P}{b:Bool}(ht:ks.nx≤tag)(hn:ks.nx≤nid)(htM:tag<M)(hv:∀k,stepG E (cpR E n) none k op (ay (tab F.nt f)) h=some ⟨bD b,[]⟩)(hb:b= @decide P d):bM E n F ks V f h M tag nid op ⟨.one (.p tag P d),none,none⟩:=by
 refine⟨fun p b hb=>by simp at hb,fun b hb=>by simp at hb,htM,b,fun k=>⟨_,[],hv k,⟨_,rfl,?_,?_⟩,⟨[],[],rfl,rfl,rfl⟩⟩⟩
 ·rw [Vl.set_bo]
 ·rw [Vl.set_bo];exact hb
theorem ln{d:KD}{b:KB}(hM:ks.nx≤M)(ht:ks.nx≤tag)(hn:ks.nx≤nid)(hb:ks.nx≤nid→ScB ks.nx b∧b≠ .dead)(hd:ScD M d)(hnb:∀x,d≠ .one (.bv x))
  (hv:∀k,(b.there∧∃v x,stepG E (cpR E n) none k op (ay (tab F.nt f)) h=some ⟨v,[(k,x)]⟩∧RD (Be F ks nid ⟨d,none,some b⟩) (V.set nid k tag false) d v∧BlkIs (Be F ks nid ⟨d,none,some b⟩) (V.set nid k tag false) x b)∨(¬b.there∧∃v,stepG E (cpR E n) none k op (ay (tab F.nt f)) h=some ⟨v,[]⟩∧RD (Be F ks nid ⟨d,none,some b⟩) (V.set nid k tag false) d v)):bM E n F ks V f h M tag nid op ⟨d,none,some b⟩:=by
 refine⟨fun p b hb=>by simp at hb,fun b' hb'=>by simp at hb';subst hb';exact hb hn,by rw [gY hnb];exact hd,false,fun k=> ?_⟩;rcases hv k with⟨h0,v,x,h1,h2,h3⟩|⟨h0,v,h1,h2⟩
 ·exact⟨v,_,h1,by rw [gY hnb];exact h2,⟨[],[(k,x)],rfl,rfl,.inl ⟨x,rfl,h3,h0⟩⟩⟩
 ·exact⟨v,_,h1,by rw [gY hnb];exact h2,⟨[],[],rfl,rfl,.inr ⟨rfl,h0⟩⟩⟩
theorem CE{d:KD}{v:D}{p:Nat}{b0 b:KB}{x:Blk}(ht:ks.nx≤tag)(hn:ks.nx≤nid)(hM:ks.nx≤M)(hp:ae ks.bl p=some b0)(h0:b0≠ .dead)(hth:b0.there)(hsc:ScB ks.nx b)(hl:b0.like b)(hd:ScD ks.nx d)(hnb:∀x,d≠ .one (.bv x))
  (hv:∀k,stepG E (cpR E n) none k op (ay (tab F.nt f)) h=some ⟨v,[(V.id p,x)]⟩) (hrd:RD (ao F ks) V d v) (hx:BlkIs (ao F ks) V x b):bM E n F ks V f h M tag nid op ⟨d,some (p,b),none⟩:=by
 have hle:LeB ks.nx (ao F ks) (Be F ks nid ⟨d,some (p,b),none⟩):=CD hn (fun p' b' hb'=>by simp at hb';obtain⟨rfl,rfl⟩:=hb';exact⟨b0,hp,h0,hl⟩) (fun b hb=>by simp at hb);refine⟨fun p' b' hb'=>by simp at hb';obtain⟨rfl,rfl⟩:=hb';exact⟨b0,hp,h0,hsc,hl⟩,fun b' hb'=>by simp at hb',by rw [gY hnb];exact hd.mono hM,false,fun k=>⟨v,_,hv k,by rw [gY hnb];exact hrd.mono hd hle (Vl.set_agree hn ht),⟨[(V.id p,x)],[],rfl,.inl ⟨x,rfl,?_,fun b1 hb1=>by rw [hp]at hb1;cases hb1;exact hth⟩,rfl⟩⟩⟩
 cases b with
 |box cs=>obtain⟨sz,cs',g1,g2⟩:=hx;exact⟨sz,cs',g1,g2.mono hsc hle (Vl.set_agree hn ht)⟩
 |rows e ne l=>exact hx
 |mrows e l=>exact hx
 |dead=>exact hx
theorem CF(hG:GOk G E D0){t:TypeId}{z:Nat×Bool}(h:LF G.ti t=some z):fE E.ti t=some z:=by
 unfold LF at h;split at h
 ·rename_i i hi;unfold fE;rw [hG.ti _ _ hi];exact h
 ·simp at h
theorem uH(hG:GOk G E D0){t:TypeId}{m:Nat}{z:Nat×Nat×Bool}(h:NF G.ti t m=some z):fieldAt E.ti t m=some z:=by
 unfold NF at h;split at h
 ·rename_i i hi;split at h
  ·rename_i fd hfd;split at h
   ·rename_i ft hft;unfold fieldAt;rw [hG.ti _ _ hi];simp only [zbS,hfd,hG.ti _ _ hft];exact h
   ·simp at h
  ·simp at h
 ·simp at h
theorem cn(hG:GOk G E D0){ty te z:Nat}{e:Ty}(h:G.elem ty=some (te,e,z)):∃t i2,E.ti ty=some t∧aL t=some te∧E.ti te=some i2∧i2.size=z∧ae G.ti te=some i2∧cU E.ti ty=some z∧t.desc= .slice te:=by
 unfold KG.elem at h;split at h
 ·rename_i t ht;split at h
  ·rename_i e1 he1;split at h
   ·rename_i i2 hi2;simp only [Option.map_eq_some_iff,Prod.mk.injEq]at h;obtain⟨x,_,rfl,rfl,rfl⟩:=h;refine⟨t,i2,hG.ti _ _ ht,he1,hG.ti _ _ hi2,rfl,hi2,?_,?_⟩
    ·unfold cU;rw [hG.ti _ _ ht];simp only [zbS,he1,hG.ti _ _ hi2]
    ·unfold aL at he1;split at he1
     ·rename_i e2 hd;rw [hd];cases he1;rfl
     ·simp at he1
   ·simp at h
  ·simp at h
 ·simp at h
theorem CG{α:Type}{l:List α}{i:Int}{y:α}(h:atL l i=some y):l≠[]:=by
 obtain⟨_,h2⟩:=qr h;intro he;rw [he]at h2;simp at h2
theorem xl(e:Ty)(x:e.val):(cv e.row x).length=e.size:=by
 unfold cv;rw [List.length_map,ll]
theorem mT{e:Ty}{l:List e.val}{i:Int}{y:e.val}(h:atL l i=some y):0≤i∧(l.map (cv e.row))[i.toNat]? =some ((e.row y).map (pC true)):=by
 obtain⟨h1,h2⟩:=qr h;exact⟨h1,uC h2⟩
end
end K
end Ev
end
noncomputable section
namespace Ev
namespace K
open Go Go.RowKit
section
variable {E : Env} {n : Nat} {F : KF} {ks : KS} {V : Vl} {f : Nat → D} {h : ah} {M tag nid : Nat} {op : Op} {G : KG} {D0 : Nat} {R : Type} {κ : KE → Option R} {r : R}
theorem xm{B:BK}{N:Nat}{d:KD}{cs:List KC}{d':D}(hk:kCs d=some cs)(hs:ScD N d)(hd:RD B V d d'):∃cs',fu d'=some cs'∧RCs B V cs cs'∧Scs N cs:=by
 cases d with
 |one c=>
  have:=Option.some.inj (show some [c]=some cs from hk)
  subst this;obtain⟨c',rfl,hc⟩:=hd;exact⟨[c'],rfl,.one hc,fun x hx=>by rw [List.mem_singleton.1 hx];exact hs⟩
 |agg l=>
  have:=Option.some.inj (show some l=some cs from hk)
  subst this;obtain⟨c',rfl,hc⟩:=hd;exact⟨c',rfl,hc,hs⟩
 |tup ts=>simp [kCs]at hk
theorem fj{B:BK}{ag:Bool}{cs:List KC}{cs':List C}{d:KD}{N:Nat}(hk:kOf ag cs=some d)(hs:Scs N cs)(hr:RCs B V cs cs'):∃d',bW ag cs'=some d'∧RD B V d d'∧ScD N d:=by
 unfold kOf at hk
 cases ag with
 |true=>
  have:=Option.some.inj (by simpa using hk)
  subst this;exact⟨.agg cs',rfl,⟨_,rfl,hr⟩,hs⟩
 |false=>
  cases cs with
  |nil=>simp at hk
  |cons c l=>cases l with
   |nil=>
    have:=Option.some.inj (by simpa using hk)
    subst this;obtain⟨y,rfl,hy⟩:=hr.one_inv;exact⟨.one y,rfl,⟨_,rfl,hy⟩,hs c (by simp)⟩
   |cons c2 l=>simp at hk
theorem HR{e:Ty}{l:List e.val}{i:Nat}{y:e.val}:(l.map (cv e.row)).set i ((e.row y).map (pC true))=(l.set i y).map (cv e.row):=map_set (r:=cv e.row)
theorem NK(hG:GOk G E D0)(hr:Rel F ks V f h)(ht:ks.nx≤tag)(hn:ks.nx≤nid)(htM:tag<M){t:TypeId}{a:Operand}(hs:bB G F ks tag nid (.load t a) κ=some r):∃e,κ e=some r∧bM E n F ks V f h M tag nid (.load t a) e:=by
 simp only [bB]at hs;split at hs
 ·rename_i z d hz hd;have hz':=CF hG hz;obtain⟨d',h1,h2,h3⟩:=aY hr hd
  cases d with
  |tup ts=>simp [gh]at hs
  |agg cs=>simp [gh]at hs
  |one c=>
   obtain⟨c',rfl,hc⟩:=h3
   cases c with
   |ptr p j=>
    simp only [gh]at hs;split at hs
    ·rename_i cs hp;simp only [zbE]at hs;obtain⟨d2,⟨cs2,g1,g2⟩,g3⟩:=hs;obtain⟨g4,g5,sz,cs',g6,g7⟩:=hr.bl p _ hp;obtain⟨c2,g8,g9⟩:=g7.cut g1;obtain⟨d3,k1,k2,k3⟩:=fj g2 (gO g5 g1) g9;rw [show c'=_ from hc]at h1;exact⟨_,g3,aw ht hn htM (fun k=>bJ (L:= [[(V.id p,sz,[cs'])]]) 0 h1 hz' rfl rfl g8 k1 h k (gB g6)) k3 k2⟩
    ·simp at hs
   |ip e fr x i y j=>
    simp only [gh,zbE]at hs;obtain⟨d2,⟨cs2,g1,g2⟩,g3⟩:=hs;obtain⟨fl,e1,e2,e3⟩:=hc;obtain⟨c2,g8,g9⟩:=(cH (B:=ao F ks) (V:=V) e3 e y).cut g1;obtain⟨d3,k1,k2,k3⟩:=fj g2 (gO (dS ks.nx fr e y) g1) g9;rw [e1]at h1;exact⟨_,g3,aw ht hn htM (fun k=>Hy (L:= []) h1 hz' (uC e2) g8 k1 h k aC) k3 k2⟩
   |pe p i j=>
    simp only [gh]at hs;rw [hc.2]at h1;split at hs
    ·rename_i e ne l hp;simp only [zbE]at hs;obtain⟨y,g0,d2,⟨cs2,g1,g2⟩,g3⟩:=hs;obtain⟨g4,g5,g6,_⟩:=hr.bl p _ hp;obtain⟨c2,g8,g9⟩:=(cH (B:=ao F ks) (V:=V) (fun _=>rfl) e y).cut g1;obtain⟨d3,k1,k2,k3⟩:=fj g2 (gO (dS ks.nx true e y) g1) g9;exact⟨_,g3,aw ht hn htM (fun k=>bJ (L:= [[(V.id p,_,_)]]) 0 h1 hz' rfl (mT g0).2 g8 k1 h k (gB g6)) k3 k2⟩
    ·rename_i e l hp;simp only [zbE]at hs;obtain⟨y,g0,d2,⟨cs2,g1,g2⟩,g3⟩:=hs;obtain⟨g4,g5,g6⟩:=hr.bl p _ hp;have g6:=g6 (CG g0);obtain⟨c2,g8,g9⟩:=(cH (B:=ao F ks) (V:=V) (fun _=>rfl) e y).cut g1;obtain⟨d3,k1,k2,k3⟩:=fj g2 (gO (dS ks.nx true e y) g1) g9;exact⟨_,g3,aw ht hn htM (fun k=>bJ (L:= [[(V.id p,_,_)]]) 0 h1 hz' rfl (mT g0).2 g8 k1 h k (gB g6)) k3 k2⟩
    ·simp at hs
   |_=>simp [gh]at hs
 ·simp at hs
theorem LO(hG:GOk G E D0)(hr:Rel F ks V f h)(ht:ks.nx≤tag)(hn:ks.nx≤nid)(htM:tag<M){t:TypeId}{a x:Operand}(hs:bB G F ks tag nid (.store t a x) κ=some r):∃e,κ e=some r∧bM E n F ks V f h M tag nid (.store t a x) e:=by
 have hM:ks.nx≤M:=by omega
 simp only [bB]at hs;split at hs
 ·rename_i z d v hz hd hx;have hz':=CF hG hz;obtain⟨d',h1,h2,h3⟩:=aY hr hd;obtain⟨v',x1,x2,x3⟩:=aY hr hx;unfold wR at hs;split at hs
  ·simp at hs
  ·rename_i cs hcs;obtain⟨cs',y1,y2,y3⟩:=xm hcs x2 x3;split at hs
   ·rename_i hlen;have hlen':Nat.beq cs'.length z.1=true:=by rw [y2.len,hlen];exact Nat.beq_refl _
    split at hs
    ·rename_i p j;obtain⟨c',rfl,hc⟩:=h3;rw [show c'=_ from hc]at h1;split at hs
     ·rename_i es hp;simp only [zbE]at hs;obtain⟨es',g1,g2⟩:=hs;obtain⟨g4,g5,sz,es2,g6,g7⟩:=hr.bl p _ (al hp (by simp));obtain⟨e3,k1,k2⟩:=g7.patch y2 g1;exact⟨_,g2,CE ht hn hM hp (by simp) trivial (Ad g5 y3 g1) trivial (by intro z hz;simp at hz) (by intro z hz;simp [kUn]at hz) (fun k=>(dC (L:= [[(V.id p,sz,[es2])]]) 0 h1 x1 y1 hz' hlen' rfl rfl k1 rfl).2 h k (gB g6)) ⟨[],rfl,rfl⟩ ⟨sz,e3,rfl,k2⟩⟩
     ·simp at hs
    ·rename_i p i j;obtain⟨c',rfl,hc⟩:=h3;rw [hc.2]at h1;split at hs
     ·rename_i e ne l hp;split at hs
      ·rename_i hfr;simp only [zbE]at hs;obtain⟨y,g0,es',g1,y',g2,g3⟩:=hs;obtain⟨g4,g5,g6,g7⟩:=hr.bl p _ (al hp (by simp));obtain⟨e3,k1,k2⟩:=(cH (B:=ao F ks) (V:=V) (fun _=>rfl) e y).patch y2 g1
       have hfr2:es'.all frC=true:=by
        have hk:∀c∈bU true e y,frC c=true:=fr_kcells e y;unfold Ev.patch at g1;split at g1
        ·rw [←Option.some.inj g1,List.all_append,List.all_append,hfr];rw [List.all_eq_true.2 fun c hc=>hk c (List.mem_of_mem_take hc),List.all_eq_true.2 fun c hc=>hk c (List.mem_of_mem_drop hc)];rfl
        ·simp at g1
       have:=mR g2 hfr2 k2
       subst this;refine⟨_,g3,CE ht hn hM hp (by simp) trivial trivial ⟨_,_,_,rfl,by rw [List.length_set]⟩ (by intro z hz;simp at hz) (by intro z hz;simp [kUn]at hz) (fun k=>(dC (L:= [[(V.id p,_,_)]]) 0 h1 x1 y1 hz' hlen' rfl (mT g0).2 k1 rfl).2 h k (gB g6)) ⟨[],rfl,rfl⟩ ⟨by rw [HR],fun hne=> ?_⟩⟩
       have:=g7 hne
       intro he;exact this (by have:=congrArg List.length he;rw [List.length_set]at this;exact List.length_eq_zero_iff.1 this)
      ·simp at hs
     ·rename_i e l hp;split at hs
      ·rename_i hfr;simp only [zbE]at hs;obtain⟨y,g0,es',g1,y',g2,g3⟩:=hs;obtain⟨g4,g5,g6⟩:=hr.bl p _ (al hp (by simp));have hne:=CG g0;have g6:=g6 hne;obtain⟨e3,k1,k2⟩:=(cH (B:=ao F ks) (V:=V) (fun _=>rfl) e y).patch y2 g1
       have hfr2:es'.all frC=true:=by
        have hk:∀c∈bU true e y,frC c=true:=fr_kcells e y;unfold Ev.patch at g1;split at g1
        ·rw [←Option.some.inj g1,List.all_append,List.all_append,hfr];rw [List.all_eq_true.2 fun c hc=>hk c (List.mem_of_mem_take hc),List.all_eq_true.2 fun c hc=>hk c (List.mem_of_mem_drop hc)];rfl
        ·simp at g1
       have:=mR g2 hfr2 k2
       subst this;exact⟨_,g3,CE ht hn hM hp (by simp) hne trivial ⟨_,_,rfl,by rw [List.length_set]⟩ (by intro z hz;simp at hz) (by intro z hz;simp [kUn]at hz) (fun k=>(dC (L:= [[(V.id p,_,_)]]) 0 h1 x1 y1 hz' hlen' rfl (mT g0).2 k1 rfl).2 h k (gB g6)) ⟨[],rfl,rfl⟩ (by rw [HR];rfl)⟩
      ·simp at hs
     ·simp at hs
    ·simp at hs
   ·simp at hs
 ·simp at hs
where
 fr_kcells:∀(e:Ty) (y:e.val),∀c∈bU true e y,frC c=true
  | .I _,_=>fun c hc=>by rw [List.mem_singleton.1 hc];rfl
  | .B,_=>fun c hc=>by rw [List.mem_singleton.1 hc];rfl
  | .S _,_=>fun c hc=>by rw [List.mem_singleton.1 hc];rfl
  | .U,_=>fun c hc=>by simp [bU]at hc
  | .C a b,x=>fun c hc=>by
   rcases List.mem_append.1 (show c∈bU true a x.1++bU true b x.2 from hc)with h|h
   ·exact fr_kcells a x.1 c h
   ·exact fr_kcells b x.2 c h
theorem HU(hr:Rel F ks V f h)(ht:ks.nx≤tag)(hn:ks.nx≤nid)(htM:tag<M){x:Operand}{o:Op}(ho:o= .move x∨o= .assign x)(hs:(kO F ks x).bind (fun d=>κ ⟨d,none,none⟩)=some r):∃e,κ e=some r∧bM E n F ks V f h M tag nid o e:=by
 simp only [zbE]at hs;obtain⟨d,hx,hk⟩:=hs;obtain⟨d',h1,h2,h3⟩:=aY hr hx;rcases ho with rfl|rfl
 ·exact⟨_,hk,aw ht hn htM (fun k=>rR (L:= []) h1 h k aC) h2 h3⟩
 ·exact⟨_,hk,aw ht hn htM (fun k=>ky (L:= []) h1 h k aC) h2 h3⟩
theorem LP(hG:GOk G E D0)(ht:ks.nx≤tag)(hn:ks.nx≤nid)(htM:tag<M)(hnM:nid<M){t:TypeId}(hs:bB G F ks tag nid (.alloc t) κ=some r):∃e,κ e=some r∧bM E n F ks V f h M tag nid (.alloc t) e:=by
 simp only [bB]at hs;split at hs
 ·rename_i i hi;refine⟨_,hs,ln (by omega) ht hn (fun _=>⟨CC _ _,by simp⟩) hnM (by simp) fun k=> .inl ⟨trivial,_,_,uz (L:= []) (hG.ti _ _ hi) rfl rfl h k aC,⟨_,rfl,?_⟩,_,_,rfl,mS _⟩⟩;show C.ptr k 0 0= .ptr _ 0 0;rw [Vl.set_id]
 ·simp at hs
theorem Qk(hG:GOk G E D0)(hr:Rel F ks V f h)(ht:ks.nx≤tag)(hn:ks.nx≤nid)(htM:tag<M)(hnM:nid<M){t:TypeId}{x:Operand}(hs:bB G F ks tag nid (.box t x) κ=some r):∃e,κ e=some r∧bM E n F ks V f h M tag nid (.box t x) e:=by
 simp only [bB]at hs;split at hs
 ·rename_i i cs hi hcs;simp only [zbE]at hcs;obtain⟨d,hd,hcs⟩:=hcs;obtain⟨d',h1,h2,h3⟩:=aY hr hd;obtain⟨cs',y1,y2,y3⟩:=xm hcs h2 h3;refine⟨_,hs,ln (by omega) ht hn (fun _=>⟨y3,by simp⟩) hnM (by simp) fun k=> .inl ⟨trivial,_,_,RZ (L:= []) (hG.ti _ _ hi) h1 y1 rfl h k aC,⟨_,rfl,?_⟩,_,_,rfl,y2.mono y3 (CD hn (fun p b hb=>by simp at hb) (fun b hb=>by simp at hb;subst hb;simp)) (Vl.set_agree hn ht)⟩⟩;show C.ptr k 0 0= .ptr _ 0 0;rw [Vl.set_id]
 ·simp at hs
theorem CH(hG:GOk G E D0)(hr:Rel F ks V f h)(ht:ks.nx≤tag)(hn:ks.nx≤nid)(htM:tag<M){t:TypeId}{x:Operand}{m:Nat}(hs:bB G F ks tag nid (.fieldAddr t x m) κ=some r):∃e,κ e=some r∧bM E n F ks V f h M tag nid (.fieldAddr t x m) e:=by
 simp only [bB]at hs;split at hs
 ·rename_i off sz ag p j hf hx;obtain⟨d',h1,h2,c',rfl,hc⟩:=aY hr hx;split at hs
  ·simp at hs
  ·rename_i hz;rw [show c'=_ from hc]at h1;exact⟨_,hs,aw ht hn htM (fun k=>aW (L:= []) h1 (uH hG hf) (by cases hb:Nat.beq sz 0 with|true=>exact absurd (Nat.eq_of_beq_eq_true hb) hz|false=>rfl) h k aC) h2 ⟨_,rfl,rfl⟩⟩
 ·rename_i off sz ag p i j hf hx;obtain⟨d',h1,h2,c',rfl,hc⟩:=aY hr hx;split at hs
  ·simp at hs
  ·rename_i hz;rw [hc.2]at h1;exact⟨_,hs,aw ht hn htM (fun k=>aW (L:= []) h1 (uH hG hf) (by cases hb:Nat.beq sz 0 with|true=>exact absurd (Nat.eq_of_beq_eq_true hb) hz|false=>rfl) h k aC) h2 ⟨_,rfl,hc.1,rfl⟩⟩
 ·rename_i off sz ag e fr s i y j hf hx;obtain⟨d',h1,h2,c',rfl,fl,hc,hc2,hc3⟩:=aY hr hx;split at hs
  ·simp at hs
  ·rename_i hz;rw [hc]at h1;exact⟨_,hs,aw ht hn htM (fun k=>Lo (L:= []) h1 (uH hG hf) (by cases hb:Nat.beq sz 0 with|true=>exact absurd (Nat.eq_of_beq_eq_true hb) hz|false=>rfl) h k aC) h2 ⟨_,rfl,fl,rfl,hc2,hc3⟩⟩
 ·simp at hs
theorem LR(hG:GOk G E D0)(hr:Rel F ks V f h)(ht:ks.nx≤tag)(hn:ks.nx≤nid)(htM:tag<M){t:TypeId}{x:Operand}{m:Nat}(hs:bB G F ks tag nid (.field t x m) κ=some r):∃e,κ e=some r∧bM E n F ks V f h M tag nid (.field t x m) e:=by
 simp only [bB]at hs;split at hs
 ·rename_i off sz ag cs hf hx;simp only [zbE]at hs;obtain⟨d2,⟨cs2,g1,g2⟩,g3⟩:=hs;obtain⟨d',h1,h2,cs',rfl,hc⟩:=aY hr hx;obtain⟨c2,g8,g9⟩:=hc.cut g1;obtain⟨d3,k1,k2,k3⟩:=fj g2 (gO h2 g1) g9;exact⟨_,g3,aw ht hn htM (fun k=>Lp (L:= []) h1 (uH hG hf) g8 k1 h k aC) k3 k2⟩
 ·simp at hs
theorem HV{B:BK}:∀{l:List (Bool×List KC)} {ds:List D} {i:Nat} {x:Bool×List KC},RTs B V l ds→l[i]? =some x→∃d,ds[i]? =some d∧RD1 B V (mkD x) d
 | [],ds,i,x,hr,hx=>by simp at hx
 |y::l,ds,0,x,⟨d,s,hd,h1,h2⟩,hx=>by simp at hx;subst hx hd;exact⟨d,rfl,h1⟩
 |y::l,ds,i+1,x,⟨d,s,hd,h1,h2⟩,hx=>by subst hd;simpa using HV h2 (by simpa using hx)
theorem Gw{B:BK}{k:KD}{d:D}(h:RD1 B V k d):RD B V k d:=by
 cases k with
 |one c=>exact h
 |agg cs=>exact h
 |tup ts=>exact h.elim
theorem Gx(hr:Rel F ks V f h)(ht:ks.nx≤tag)(hn:ks.nx≤nid)(htM:tag<M){x:Operand}{i:Nat}(hs:bB G F ks tag nid (.extract x i) κ=some r):∃e,κ e=some r∧bM E n F ks V f h M tag nid (.extract x i) e:=by
 simp only [bB]at hs;split at hs
 ·rename_i ds hx;simp only [zbE]at hs;obtain⟨d,g1,g2⟩:=hs;obtain⟨d',h1,h2,ds',rfl,hc⟩:=aY hr hx;obtain⟨d3,k1,k2⟩:=HV hc g1;exact⟨_,g2,aw ht hn htM (fun k=>Sa (L:= []) h1 k1 h k aC) (uG (h2 _ (List.mem_of_getElem? g1))) (Gw k2)⟩
 ·simp at hs
theorem NL(hr:Rel F ks V f h)(ht:ks.nx≤tag)(hn:ks.nx≤nid)(htM:tag<M){o:UnOp}{t:TypeId}{x:Operand}(hs:bB G F ks tag nid (.unOp o t x) κ=some r):∃e,κ e=some r∧bM E n F ks V f h M tag nid (.unOp o t x) e:=by
 simp only [bB]at hs;split at hs
 ·rename_i v hx;obtain⟨d',h1,h2,c',rfl,hc⟩:=aY hr hx;rw [show c'=_ from hc]at h1;exact⟨_,hs,aw ht hn htM (fun k=>Ln (L:= []) h1 h k aC) trivial ⟨_,rfl,rfl⟩⟩
 ·rename_i tg P d hx;obtain⟨d',h1,h2,c',rfl,hc,hc2⟩:=aY hr hx;rw [hc]at h1;refine⟨_,hs,cR ht hn htM (fun k=>Ln (L:= []) h1 h k aC) ?_⟩;rw [hc2];by_cases hP:P<;>simp [hP]
 ·rename_i v hx;obtain⟨d',h1,h2,c',rfl,hc⟩:=aY hr hx;rw [show c'=_ from hc]at h1;refine⟨_,hs,cR ht hn htM (fun k=>Ln (L:= []) h1 h k aC) ?_⟩;cases v<;>rfl
 ·rename_i k v hx;obtain⟨d',h1,h2,c',rfl,hc⟩:=aY hr hx;rw [show c'=_ from hc]at h1;exact⟨_,hs,aw ht hn htM (fun k=>RY (L:= []) h1 h k aC) trivial ⟨_,rfl,rfl⟩⟩
 ·rename_i k v hx;obtain⟨d',h1,h2,c',rfl,hc⟩:=aY hr hx;rw [show c'=_ from hc]at h1;exact⟨_,hs,aw ht hn htM (fun k=>ND (L:= []) h1 h k aC) trivial ⟨_,rfl,rfl⟩⟩
 ·simp at hs
theorem LS{P:Program}{src dst:TypeId}{d1:TypeDesc}{k k2:IntKind}{a:Int}(h1:P.underlying src=some d1)(h2:P.underlying dst=some (.int k2)):am P (Go.convert src dst (.int k a))=some (.int k2 (k2.wrap a)):=by
 unfold Go.convert;simp only [bK,qv h1,qv h2,zbS];cases d1<;>rfl
theorem Gy(hG:GOk G E D0)(hr:Rel F ks V f h)(ht:ks.nx≤tag)(hn:ks.nx≤nid)(htM:tag<M){s t:TypeId}{x:Operand}(hs:bB G F ks tag nid (.convert s t x) κ=some r):∃e,κ e=some r∧bM E n F ks V f h M tag nid (.convert s t x) e:=by
 simp only [bB]at hs;split at hs
 ·rename_i si di k a h1 h2 hx;split at hs
  ·rename_i k1 k2 g1 g2;split at hs
   ·obtain⟨d',e1,e2,c',rfl,hc⟩:=aY hr hx;rw [show c'=_ from hc]at e1;have u1:=hG.ok.1.1 _ _ (hG.ti _ _ h1);have u2:=hG.ok.1.1 _ _ (hG.ti _ _ h2);rw [g2]at u2;exact⟨_,hs,aw ht hn htM (fun k=>PK (L:= []) e1 (LS u1 u2) rfl h k aC) trivial ⟨_,rfl,rfl⟩⟩
   ·simp at hs
  ·simp at hs
 ·simp at hs
end
end K
end Ev
end
noncomputable section
namespace Ev
namespace K
open Go Go.RowKit
section
variable {E : Env} {n : Nat} {F : KF} {ks : KS} {V : Vl} {f : Nat → D} {h : ah} {M tag nid : Nat} {op : Op} {G : KG} {D0 : Nat} {R : Type} {κ : KE → Option R} {r : R}
theorem CI{L:BL}{nt:Nat}{bop:BinOp}{ty sh e:TypeId}{x:Operand}{t:TI}{fr nn:Bool}{sz:Nat}{l:List (List T)}(hx:ov nt f x=some (.one (.p fr (.s nn sz l))))(ht:E.ti ty=some t)(he:aL t=some e):PS E n nt f L (.binOp .eql ty x (.const (.slice none 0 0)) sh) (bD (!nn))∧PS E n nt f L (.binOp .neq ty x (.const (.slice none 0 0)) sh) (bD nn):=by
 constructor<;>intro h nid hb
 all_goals
  rw [Ei,bk,hx];show((E.ti ty).bind fun t=>(aL t).bind fun e=>_)=_;rw [ht];simp only [zbS,he];rfl
theorem LT{L:BL}{nt:Nat}{bop:BinOp}{ty sh e:TypeId}{x:Operand}{t:TI}{k i m:Nat}(hx:ov nt f x=some (.one (.own k i m)))(ht:E.ti ty=some t)(he:aL t=some e):PS E n nt f L (.binOp .eql ty x (.const (.slice none 0 0)) sh) (bD false)∧PS E n nt f L (.binOp .neq ty x (.const (.slice none 0 0)) sh) (bD true):=by
 constructor<;>intro h nid hb
 all_goals
  rw [Ei,bk,hx];show((E.ti ty).bind fun t=>(aL t).bind fun e=>_)=_;rw [ht];simp only [zbS,he];rfl
theorem xn{y:Operand}(h:xa y=true):y= .const (.slice none 0 0):=by
 unfold xa at h;split at h
 ·rfl
 ·simp at h
theorem Ag{B:BK}:∀{kinds:List IntKind} {cs ds:List KC} {l:List (Int×Int)} {cs' ds':List C},eT kinds cs ds=some l→RCs B V cs cs'→RCs B V ds ds'→dY cs'=some ((kinds.zip l).map fun z=>Value.int z.1 z.2.1)∧dY ds'=some ((kinds.zip l).map fun z=>Value.int z.1 z.2.2)∧l.length=kinds.length
 | [],[],[],l,cs',ds',hz,hc,hd=>by
  have:=Option.some.inj (show some []=some l from hz)
  subst this;rw [show cs'= []from hc,show ds'= []from hd];exact⟨rfl,rfl,rfl⟩
 |k::ks,.n k1 x::r,.n k2 y::s,l,cs',ds',hz,⟨c,c2,e1,h1,h2⟩,⟨d,d2,e2,h3,h4⟩=>by
  simp only [eT]at hz;split at hz
  ·rename_i hk;obtain⟨rfl,rfl⟩:=hk;rw [Option.map_eq_some_iff]at hz;obtain⟨l2,g1,rfl⟩:=hz;obtain⟨k1,k2,k3⟩:=Ag g1 h2 h4;subst e1 e2;rw [show c=_ from h1,show d=_ from h3];refine⟨?_,?_,by simp [k3]⟩
   ·show(do some ((←nS (iC _ x))::(←dY c2)))=_;rw [k1];rfl
   ·show(do some ((←nS (iC _ y))::(←dY d2)))=_;rw [k2];rfl
  ·simp at hz
 | [],c::_,_,_,_,_,hz,_,_=>by simp [eT]at hz
 | [],[],_::_,_,_,_,hz,_,_=>by simp [eT]at hz
 |_::_,[],_,_,_,_,hz,_,_=>by simp [eT]at hz
 |_::_,.n _ _::_,[],_,_,_,hz,_,_=>by simp [eT]at hz
 |_::_,.n _ _::_,.b _::_,_,_,_,hz,_,_=>by simp [eT]at hz
 |_::_,.n _ _::_,.p _ _ _::_,_,_,_,hz,_,_=>by simp [eT]at hz
 |_::_,.n _ _::_,.bv _::_,_,_,_,hz,_,_=>by simp [eT]at hz
 |_::_,.n _ _::_,.v _::_,_,_,_,hz,_,_=>by simp [eT]at hz
 |_::_,.n _ _::_,.nil::_,_,_,_,hz,_,_=>by simp [eT]at hz
 |_::_,.n _ _::_,.s _ _ _::_,_,_,_,hz,_,_=>by simp [eT]at hz
 |_::_,.n _ _::_,.o _ _::_,_,_,_,hz,_,_=>by simp [eT]at hz
 |_::_,.n _ _::_,.m _ _::_,_,_,_,hz,_,_=>by simp [eT]at hz
 |_::_,.n _ _::_,.ptr _ _::_,_,_,_,hz,_,_=>by simp [eT]at hz
 |_::_,.n _ _::_,.pe _ _ _::_,_,_,_,hz,_,_=>by simp [eT]at hz
 |_::_,.n _ _::_,.ip _ _ _ _ _ _::_,_,_,_,hz,_,_=>by simp [eT]at hz
 |_::_,.n _ _::_,.clo _ _::_,_,_,_,hz,_,_=>by simp [eT]at hz
 |_::_,.n _ _::_,.yld _::_,_,_,_,hz,_,_=>by simp [eT]at hz
 |_::_,.b _::_,_,_,_,_,hz,_,_=>by simp [eT]at hz
 |_::_,.p _ _ _::_,_,_,_,_,hz,_,_=>by simp [eT]at hz
 |_::_,.bv _::_,_,_,_,_,hz,_,_=>by simp [eT]at hz
 |_::_,.v _::_,_,_,_,_,hz,_,_=>by simp [eT]at hz
 |_::_,.nil::_,_,_,_,_,hz,_,_=>by simp [eT]at hz
 |_::_,.s _ _ _::_,_,_,_,_,hz,_,_=>by simp [eT]at hz
 |_::_,.o _ _::_,_,_,_,_,hz,_,_=>by simp [eT]at hz
 |_::_,.m _ _::_,_,_,_,_,hz,_,_=>by simp [eT]at hz
 |_::_,.ptr _ _::_,_,_,_,_,hz,_,_=>by simp [eT]at hz
 |_::_,.pe _ _ _::_,_,_,_,_,hz,_,_=>by simp [eT]at hz
 |_::_,.ip _ _ _ _ _ _::_,_,_,_,_,hz,_,_=>by simp [eT]at hz
 |_::_,.clo _ _::_,_,_,_,_,hz,_,_=>by simp [eT]at hz
 |_::_,.yld _::_,_,_,_,_,hz,_,_=>by simp [eT]at hz
theorem fq{P:Prop}{d:Decidable P}{b:Bool}(h:b=true↔P):b= @decide P d:=by
 by_cases hP:P
 ·rw [h.2 hP,decide_eq_true hP]
 ·cases b with
  |true=>exact absurd (h.1 rfl) hP
  |false=>rw [decide_eq_false hP]
theorem Ql(ht:ks.nx≤tag)(hn:ks.nx≤nid)(htM:tag<M){bop:BinOp}{ty sh:TypeId}{x y:Operand}{k k':IntKind}{a b:Int}(hx:ov F.nt f x=some (.one (iC k a)))(hy:ov F.nt f y=some (.one (iC k' b)))(hs:Qe tag bop k k' a b κ=some r):∃e,κ e=some r∧bM E n F ks V f h M tag nid (.binOp bop ty x y sh) e:=by
 unfold Qe at hs;split at hs
 ·simp only [zbE]at hs;obtain⟨z,h1,h2⟩:=hs;exact⟨_,h2,aw ht hn htM (fun q=>cG (L:= []) hx hy (Se h1) rfl h q aC) trivial ⟨_,rfl,rfl⟩⟩
 ·simp only [zbE]at hs;obtain⟨z,h1,h2⟩:=hs;exact⟨_,h2,aw ht hn htM (fun q=>cG (L:= []) hx hy (Sd h1) rfl h q aC) trivial ⟨_,rfl,rfl⟩⟩
 ·split at hs
  ·rename_i hk;subst hk;split at hs
   ·exact⟨_,hs,aw ht hn htM (fun q=>cG (L:= []) hx hy (wO _ _ _ _ _ _ _) rfl h q aC) trivial ⟨_,rfl,rfl⟩⟩
   ·exact⟨_,hs,aw ht hn htM (fun q=>cG (L:= []) hx hy (RI _ _ _ _ _ _ _) rfl h q aC) trivial ⟨_,rfl,rfl⟩⟩
   ·exact⟨_,hs,aw ht hn htM (fun q=>cG (L:= []) hx hy (RJ _ _ _ _ _ _ _) rfl h q aC) trivial ⟨_,rfl,rfl⟩⟩
   ·exact⟨_,hs,aw ht hn htM (fun q=>cG (L:= []) hx hy (Sg _ _ _ _ _ _ _) rfl h q aC) trivial ⟨_,rfl,rfl⟩⟩
   ·exact⟨_,hs,aw ht hn htM (fun q=>cG (L:= []) hx hy (Wq _ _ _ _ _ _ _) rfl h q aC) trivial ⟨_,rfl,rfl⟩⟩
   ·exact⟨_,hs,aw ht hn htM (fun q=>cG (L:= []) hx hy (Si _ _ _ _ _ _ _) rfl h q aC) trivial ⟨_,rfl,rfl⟩⟩
   ·exact⟨_,hs,aw ht hn htM (fun q=>cG (L:= []) hx hy (Lu _ _ _ _ _ _ _) rfl h q aC) trivial ⟨_,rfl,rfl⟩⟩
   ·simp only [zbE]at hs;obtain⟨z,h1,h2⟩:=hs;exact⟨_,h2,aw ht hn htM (fun q=>cG (L:= []) hx hy (PQ h1) rfl h q aC) trivial ⟨_,rfl,rfl⟩⟩
   ·simp only [zbE]at hs;obtain⟨z,h1,h2⟩:=hs;exact⟨_,h2,aw ht hn htM (fun q=>cG (L:= []) hx hy (PU h1) rfl h q aC) trivial ⟨_,rfl,rfl⟩⟩
   ·exact⟨_,hs,cR ht hn htM (fun q=>cG (L:= []) hx hy (RO _ _ _ _ _ _ _) rfl h q aC) (fq (by simp))⟩
   ·exact⟨_,hs,cR ht hn htM (fun q=>cG (L:= []) hx hy (RP _ _ _ _ _ _ _) rfl h q aC) (fq (by simp))⟩
   ·exact⟨_,hs,cR ht hn htM (fun q=>cG (L:= []) hx hy (KR _ _ _ _ _ _ _) rfl h q aC) (fq (by simp))⟩
   ·exact⟨_,hs,cR ht hn htM (fun q=>cG (L:= []) hx hy (RM _ _ _ _ _ _ _) rfl h q aC) (fq (by simp))⟩
   ·exact⟨_,hs,cR ht hn htM (fun q=>cG (L:= []) hx hy (KU _ _ _ _ _ _ _) rfl h q aC) (fq (by simp))⟩
   ·exact⟨_,hs,cR ht hn htM (fun q=>cG (L:= []) hx hy (RN _ _ _ _ _ _ _) rfl h q aC) (fq (by simp))⟩
   ·simp at hs
  ·simp at hs
theorem NM{P:Program}{t:TypeId}(hu:P.underlying t=some .bool)(x y:Operand)(a b:Bool):am P (do eqGuard .eql t x y (.bool a) (.bool b);binOp .eql t (.bool a) (.bool b))=some (.bool (a==b))∧am P (do eqGuard .neq t x y (.bool a) (.bool b);binOp .neq t (.bool a) (.bool b))=some (.bool (!(a==b))):=by
 have h0:∀d,am P (Op.equalIn (d+1) t (.bool a) (.bool b))=some (a==b):=fun d=>by
  simp only [Op.equalIn,bK,qv hu,zbS];rfl
 have h:am P (Op.equalIn 10000 t (.bool a) (.bool b))=some (a==b):=h0 9999;constructor
 ·have h1:am P (eqGuard .eql t x y (.bool a) (.bool b))=some ():=rfl;rw [bK,h1];show am P (binOp .eql t (.bool a) (.bool b))=_;have h2:binOp .eql t (.bool a) (.bool b)=(do pure (.bool (←Op.equal t (.bool a) (.bool b)))):=rfl;rw [h2,bK];unfold Op.equal Op.maxDepth;rw [h];rfl
 ·have h1:am P (eqGuard .neq t x y (.bool a) (.bool b))=some ():=rfl;rw [bK,h1];show am P (binOp .neq t (.bool a) (.bool b))=_;have h2:binOp .neq t (.bool a) (.bool b)=(do pure (.bool (!(←Op.equal t (.bool a) (.bool b))))):=rfl;rw [h2,bK];unfold Op.equal Op.maxDepth;rw [h];rfl
theorem Js(hG:GOk G E D0){t:TypeId}(h:Cw G.ti t=true):E.P.underlying t=some .bool:=by
 unfold Cw at h;split at h
 ·rename_i i hi;have hu:=hG.ok.ti.und _ _ (hG.ti _ _ hi);split at h
  ·rename_i hd;rw [hu,hd]
  ·simp at h
 ·simp at h
theorem EC{B:BK}{V:Vl}{c:KC}{c':C}{x:Bool}(h:HJ c=some x)(hr:RC B V c c'):c'=bC x:=by
 cases c with
 |b v=>cases h;exact hr
 |p tag P d=>cases h;obtain⟨h1,h2⟩:=hr;rw [h1,h2]
 |bv v=>cases h;exact hr
 |_=>simp [HJ]at h
theorem Qm(hG:GOk G E D0)(hr:Rel F ks V f h)(ht:ks.nx≤tag)(hn:ks.nx≤nid)(htM:tag<M){bop:BinOp}{ty sh:TypeId}{x y:Operand}(hs:bB G F ks tag nid (.binOp bop ty x y sh) κ=some r):∃e,κ e=some r∧bM E n F ks V f h M tag nid (.binOp bop ty x y sh) e:=by
 simp only [bB]at hs;split at hs
 ·rename_i a b hx hy;obtain⟨a',x1,x2,x3⟩:=aY hr hx;obtain⟨b',y1,y2,y3⟩:=aY hr hy;unfold Nh at hs;split at hs
  ·obtain⟨c1,rfl,e1⟩:=x3;obtain⟨c2,rfl,e2⟩:=y3;rw [show c1=_ from e1]at x1;rw [show c2=_ from e2]at y1;exact Ql ht hn htM x1 y1 hs
  ·split at hs
   ·rename_i z hn1 hel;obtain⟨te,e,zz⟩:=z;obtain⟨t,i2,g1,g2,_⟩:=cn hG hel
    have:=xn hn1
    subst this;obtain⟨c1,rfl,fl,e1,e2⟩:=x3;rw [e1]at x1;simp only [zbE]at hs;obtain⟨c,k1,k2⟩:=hs;unfold rV at k1;split at k1
    ·cases k1;exact⟨_,k2,cR ht hn htM (fun q=>(CI (bop:= .eql) (L:= []) x1 g1 g2).1 h q aC) (fq (by simp))⟩
    ·cases k1;exact⟨_,k2,cR ht hn htM (fun q=>(CI (bop:= .eql) (L:= []) x1 g1 g2).2 h q aC) (fq (by simp))⟩
    ·simp at k1
   ·simp at hs
  ·split at hs
   ·rename_i z e1 ne l hn1 hel hB;obtain⟨te,e,zz⟩:=z;obtain⟨t,i2,g1,g2,_⟩:=cn hG hel
    have:=xn hn1
    subst this;obtain⟨c1,rfl,e1⟩:=x3;rw [e1 _ _ _ hB]at x1;simp only [zbE]at hs;obtain⟨c,k1,k2⟩:=hs;unfold HH at k1;split at k1
    ·cases k1;exact⟨_,k2,aw ht hn htM (fun q=>(LT (bop:= .eql) (L:= []) x1 g1 g2).1 h q aC) trivial ⟨_,rfl,rfl⟩⟩
    ·cases k1;exact⟨_,k2,aw ht hn htM (fun q=>(LT (bop:= .eql) (L:= []) x1 g1 g2).2 h q aC) trivial ⟨_,rfl,rfl⟩⟩
    ·simp at k1
   ·simp at hs
  ·split at hs
   ·rename_i z hn1 hel;obtain⟨te,e,zz⟩:=z;obtain⟨t,i2,g1,g2,_⟩:=cn hG hel
    have:=xn hn1
    subst this;obtain⟨c1,rfl,e1⟩:=x3;rw [show c1=_ from e1]at x1;simp only [zbE]at hs;obtain⟨c,k1,k2⟩:=hs;unfold HH at k1;split at k1
    ·cases k1;exact⟨_,k2,aw ht hn htM (fun q=>(CI (bop:= .eql) (L:= []) x1 g1 g2).1 h q aC) trivial ⟨_,rfl,rfl⟩⟩
    ·cases k1;exact⟨_,k2,aw ht hn htM (fun q=>(CI (bop:= .eql) (L:= []) x1 g1 g2).2 h q aC) trivial ⟨_,rfl,rfl⟩⟩
    ·simp at k1
   ·simp at hs
  ·rename_i cs ds;split at hs
   ·rename_i kinds hk;split at hs
    ·rename_i l hz;obtain⟨cs',rfl,e1⟩:=x3;obtain⟨ds',rfl,e2⟩:=y3;obtain⟨p1,p2,p3⟩:=Ag hz e1 e2;obtain⟨q1,q2⟩:=hG.eqs _ _ hk x y l p3
     have a1:plain (.agg cs')=some (.agg ((kinds.zip l).map fun z=>Value.int z.1 z.2.1).toArray):=by
      show(dY cs').bind (fun a=>some (Value.agg a.toArray))=_;rw [p1];rfl
     have a2:plain (.agg ds')=some (.agg ((kinds.zip l).map fun z=>Value.int z.1 z.2.2).toArray):=by
      show(dY ds').bind (fun a=>some (Value.agg a.toArray))=_;rw [p2];rfl
     simp only [zbE]at hs;obtain⟨c,k1,k2⟩:=hs;unfold rV at k1;split at k1
     ·cases k1;exact⟨_,k2,cR ht hn htM (fun q=>Lm (L:= []) x1 y1 a1 a2 q1 rfl h q aC) rfl⟩
     ·cases k1;refine⟨_,k2,cR ht hn htM (fun q=>Lm (L:= []) x1 y1 a1 a2 q2 rfl h q aC) (fq ?_)⟩
      have:= @decide_eq_true_iff (eqP l) (eqD l)
      by_cases hp:eqP l
      ·simp [hp]
      ·simp [hp]
     ·simp at k1
    ·simp at hs
   ·simp at hs
  ·split at hs
   ·rename_i u v hT hu hv;have hb:=NM (Js hG hT) x y u v;obtain⟨c1,rfl,e1⟩:=x3;obtain⟨c2,rfl,e2⟩:=y3;rw [EC hu e1]at x1;rw [EC hv e2]at y1;simp only [zbE]at hs;obtain⟨c,k1,k2⟩:=hs;unfold rV at k1;split at k1
    ·cases k1;exact⟨_,k2,cR ht hn htM (fun q=>Ll (L:= []) x1 y1 hb.1 rfl h q aC) (fq (by simp))⟩
    ·cases k1;exact⟨_,k2,cR ht hn htM (fun q=>Ll (L:= []) x1 y1 hb.2 rfl h q aC) (fq (by simp))⟩
    ·simp at k1
   ·simp at hs
  ·simp at hs
 ·simp at hs
end
end K
end Ev
end
end Go.Proofs.Ythkgcllekhnecaa
