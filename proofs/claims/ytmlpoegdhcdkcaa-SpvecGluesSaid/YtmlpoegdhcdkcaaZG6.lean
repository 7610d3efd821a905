/- Texts of a claim, joined. -/
import Derived.Test.YtmlpoegdhcdkcaaZG5
set_option linter.unusedVariables false
set_option linter.unusedSimpArgs false
namespace Go.Proofs.Ytmlpoegdhcdkcaa
noncomputable section
namespace Ev
namespace K
open Go Go.RowKit
inductive Ty where
 |I (k:IntKind)
 |B
 |S (e:Ty)
 |U
 |C (x y:Ty)
 deriving DecidableEq,Inhabited
namespace Ty
@[reducible] def val:Ty->Type
 | .I _=>Int
 | .B=>Bool
 | .S e=>Sl e.val
 | .U=>Unit
 | .C x y=>x.val×y.val
def size:Ty->Nat
 | .U=>0
 | .C x y=>x.size+y.size
 |_=>1
def row:(t:Ty)->t.val->List T
 | .I k,x=> [iT k x]
 | .B,x=> [bT x]
 | .S e,x=> [Sl.t e.row x]
 | .U,_=> []
 | .C a b,x=>a.row x.1++b.row x.2
def zero:(t:Ty)->t.val
 | .I _=>(0:Int)
 | .B=>false
 | .S _=>⟨false,0,[]⟩
 | .U=>()
 | .C a b=>(a.zero,b.zero)
def plain:Ty->Bool
 | .S _=>false
 | .C a b=>a.plain && b.plain
 |_=>true
end Ty
def eF(t t':Ty)(x:t.val):Option t'.val:=if h:t=t' then some (h▸x)else none
inductive KC where
 |n (k:IntKind) (x:Int)
 |b (v:Bool)
 |p (tag:Nat) (P:Prop) (d:Decidable P)
 |bv (x:Bool)
 |v (x:Value)
 |nil
 |s (e:Ty) (fr:Bool) (x:Sl e.val)
 |o (e:Ty) (p:Nat)
 |m (e:Ty) (p:Nat)
 |ptr (p j:Nat)
 |pe (p:Nat) (i:Int) (j:Nat)
 |ip (e:Ty) (fr:Bool) (x:Sl e.val) (i:Int) (y:e.val) (j:Nat)
 |clo (fn:FuncId) (ps:List Nat)
 |yld (p:Nat)
inductive KD where
 |one (c:KC)
 |agg (cs:List KC)
 |tup (ds:List (Bool×List KC))
inductive KB where
 |box (cs:List KC)
 |rows (e:Ty) (ne:Bool) (l:List e.val)
 |mrows (e:Ty) (l:List e.val)
 |dead
structure KS where
 sl:List (Nat×KD)
 bl:List (Nat×KB)
 nx:Nat
structure KF where
 nt:Nat:=0
 sl:List (Nat×KD):= []
 bl:List (Nat×KB):= []
def af{α:Type}:List (Nat×α)->Nat->Option α
 | [],_=>none
 |x::r,i=>cond (Nat.beq x.1 i) (some x.2) (af r i)
def aK{α:Type}(l m:List (Nat×α))(i:Nat):Option α:=
 match af l i with
 |some a=>some a
 |none=>af m i
def eG(F:KF)(ks:KS)(i:Nat):Option KD:=aK ks.sl F.sl i
def an(F:KF)(ks:KS)(p:Nat):Option KB:=
 match aK ks.bl F.bl p with
 |some .dead=>none
 |x=>x
def bU(fr:Bool):(e:Ty)->e.val->List KC
 | .I k,x=> [.n k x]
 | .B,x=> [.bv x]
 | .S e,x=> [.s e fr x]
 | .U,_=> []
 | .C a b,x=>bU fr a x.1++bU fr b x.2
def iR(B:Nat->Option KB):(e:Ty)->KC->Option e.val
 | .I k,.n k' x=>if k=k' then some x else none
 | .B,.b v=>some v
 | .B,.p _ P d=>some (@decide P d)
 | .B,.bv x=>some x
 | .S e,.nil=>some ⟨false,0,[]⟩
 | .S e,.s e' _ x=>eF (.S e') (.S e) x
 | .S e,.o _ p=>match B p with
  |some (.rows e' _ l)=>eF (.S e') (.S e) ⟨true,e'.size,l⟩
  |_=>none
 | .S e,.m _ p=>match B p with
  |some (.mrows e' l)=>eF (.S e') (.S e) (mo e'.size l)
  |_=>none
 |_,_=>none
def dec(B:Nat->Option KB):(e:Ty)->List KC->Option e.val
 | .U,[]=>some ()
 | .C a b,cs=>(dec B a (cs.take a.size)).bind λx=>(dec B b (cs.drop a.size)).bind λy=>some (x,y)
 |e,[c]=>iR B e c
 |_,_=>none
def noB:Nat->Option KB:=λ_=>none
def frC:KC->Bool
 | .s _ fr _=>fr
 |_=>true
def mN:KC->Bool
 | .n .. | .b _| .p .. | .bv _| .v _| .nil| .s .. =>true
 |_=>false
abbrev TyD:=Bool×Ty
@[reducible] def bW:List TyD->Type
 | []=>Unit
 | [t]=>t.2.val
 |t::r=>t.2.val×bW r
def lv(t:TyD)(x:t.2.val):TD:=
 match t with
 |(true,e)=> .agg (e.row x)
 |(false,e)=>match e.row x with
  | [y]=> .one y
  |ys=> .agg ys
def cO:(ts:List TyD)->bW ts->List TD
 | [],_=> []
 | [t],x=> [lv t x]
 |t::t'::r,x=>lv t x.1::cO (t'::r) x.2
def mkD(x:Bool×List KC):KD:=
 match x with
 |(true,cs)=> .agg cs
 |(false,[c])=> .one c
 |(false,cs)=> .agg cs
def EH(fr:Bool)(t:TyD)(x:t.2.val):Bool×List KC:=(t.1,bU fr t.2 x)
def jC(fr:Bool):(ts:List TyD)->bW ts->List (Bool×List KC)
 | [],_=> []
 | [t],x=> [EH fr t x]
 |t::t'::r,x=>EH fr t x.1::jC fr (t'::r) x.2
def wt(B:Nat->Option KB)(t:TyD):KD->Option t.2.val
 | .one c=>if t.1 then none else iR B t.2 c
 | .agg cs=>if t.1 then dec B t.2 cs else none
 | .tup _=>none
def gW(B:Nat->Option KB):(ts:List TyD)->List KD->Option (bW ts)
 | [],[]=>some ()
 | [t],[d]=>wt B t d
 |t::t'::r,d::ds=>(wt B t d).bind λx=>(gW B (t'::r) ds).bind λy=>some (x,y)
 |_,_=>none
def mO:KD->Bool
 | .one c=>mN c
 | .agg cs=>cs.all mN
 | .tup _=>false
inductive OutK where
 |data (fr:Bool) (ts:List TyD)
 |own (e:Ty)
 |mown (e:Ty)
 |gown (e:Ty)
@[reducible] def OutK.val:OutK->Type
 | .data _ ts=>bW ts
 | .own e=>List e.val
 | .mown e=>List e.val
 | .gown e=>Sl e.val
structure ct where
 k:FuncId
 ins:List TyD
 out:OutK
 f:bW ins->Option out.val
 d:Nat
structure KG where
 ti:List (Nat×TI)
 eqs:List (Nat×List IntKind)
 fns:List ct
 fi:List (FuncId×FI)
def KG.fn(G:KG)(k:FuncId):Option ct:=G.fns.find? λe=>Nat.beq e.k k
def GL(ti:List (Nat×TI)):Nat->TypeId->Option Ty
 |0,_=>none
 |n+1,t=>match af ti t with
  |none=>none
  |some i=>match i.desc with
   | .int k=>some (.I k)
   | .bool=>some .B
   | .slice e=>(GL ti n e).map .S
   | .array m e=>(GL ti n e).bind λx=>prod (List.replicate m x)
   | .struct fs=>(seqO (fs.toList.map λf=>GL ti n f.type)).bind prod
   |_=>none
where
 prod:List Ty->Option Ty
  | []=>some .U
  | [x]=>some x
  |x::y::r=>(prod (y::r)).map (.C x)
 seqO:List (Option Ty)->Option (List Ty)
  | []=>some []
  |none::_=>none
  |some x::r=>(seqO r).map (x::·)
def KG.ty(G:KG)(t:TypeId):Option Ty:=GL G.ti 9 t
def KG.elem(G:KG)(t:TypeId):Option (TypeId×Ty×Nat):=
 match af G.ti t with
 |some i=>match aG i with
  |some e=>match af G.ti e with
   |some te=>(G.ty e).map λx=>(e,x,te.size)
   |none=>none
  |none=>none
 |none=>none
structure KE where
 v:KD
 upd:Option (Nat×KB):=none
 new:Option KB:=none
def kC:Value->KC
 | .int k n=> .n k n
 | .bool b=> .b b
 | .slice none 0 0=> .nil
 |x=> .v x
def nR:Value->Option KD
 | .agg cs=>if cs.toList.all one1 then some (.agg (cs.toList.map kC))else none
 | .tuple _=>none
 |v=>some (.one (kC v))
def kO(F:KF)(ks:KS):Operand->Option KD
 | .tmp i=>eG F ks i
 | .const v=>nR v
 | .global _=>none
 | .func f=>some (.one (.v (.func (.func f) #[] #[])))
def kUn:KD:= .tup []
def IQ(tag:Nat)(op:BinOp)(k k':IntKind)(a b:Int){R:Type}(κ:KE->Option R):Option R:=
 match op with
 | .shl=>(IJ k a b).bind λz=>κ ⟨.one (.n k z),none,none⟩
 | .shr=>(xW k a b).bind λz=>κ ⟨.one (.n k z),none,none⟩
 |op=>if k=k' then match op with
  | .add=>κ ⟨.one (.n k (k.wrap (a+b))),none,none⟩
  | .sub=>κ ⟨.one (.n k (k.wrap (a - b))),none,none⟩
  | .mul=>κ ⟨.one (.n k (k.wrap (a*b))),none,none⟩
  | .and=>κ ⟨.one (.n k (Mn k a b)),none,none⟩
  | .or=>κ ⟨.one (.n k (orI k a b)),none,none⟩
  | .xor=>κ ⟨.one (.n k (IK k a b)),none,none⟩
  | .andNot=>κ ⟨.one (.n k (AN k a b)),none,none⟩
  | .quo=>(IF k a b).bind λz=>κ ⟨.one (.n k z),none,none⟩
  | .rem=>(IG a b).bind λz=>κ ⟨.one (.n k z),none,none⟩
  | .eql=>κ ⟨.one (.p tag (a=b) (Int.instDecidableEq a b)),none,none⟩
  | .neq=>κ ⟨.one (.p tag (a≠b) (@instDecidableNot _ (Int.instDecidableEq a b))),none,none⟩
  | .lss=>κ ⟨.one (.p tag (a<b) (Int.decLt a b)),none,none⟩
  | .leq=>κ ⟨.one (.p tag (a<=b) (Int.decLe a b)),none,none⟩
  | .gtr=>κ ⟨.one (.p tag (a>b) (Int.decLt b a)),none,none⟩
  | .geq=>κ ⟨.one (.p tag (a >= b) (Int.decLe b a)),none,none⟩
  |_=>none
 else none
def rt:Operand->Bool
 | .const (.slice none 0 0)=>true
 |_=>false
def nS(op:BinOp)(tag:Nat)(P:Prop)(d:Decidable P):Option KC:=
 match op with
 | .eql=>some (.p tag P d)
 | .neq=>some (.p tag (¬P) (@instDecidableNot P d))
 |_=>none
def AW(op:BinOp)(v:Bool):Option KC:=
 match op with
 | .eql=>some (.b v)
 | .neq=>some (.b (!v))
 |_=>none
def eqP:List (Int×Int)->Prop
 | []=>True
 | [x]=>x.1=x.2
 |x::y::r=>x.1=x.2/\eqP (y::r)
def eqD:(l:List (Int×Int))->Decidable (eqP l)
 | []=> .isTrue trivial
 | [x]=>Int.instDecidableEq x.1 x.2
 |x::y::r=> @instDecidableAnd _ _ (Int.instDecidableEq x.1 x.2) (eqD (y::r))
def ep:List IntKind->List KC->List KC->Option (List (Int×Int))
 | [],[],[]=>some []
 |k::ks,.n k1 x::r,.n k2 y::s=>if k1=k/\k2=k then(ep ks r s).map ((x,y)::·)else none
 |_,_,_=>none
def AX:KC->Option Bool
 | .b v=>some v
 | .p _ P d=>some (@decide P d)
 | .bv x=>some x
 |_=>none
def wu(ti:List (Nat×TI))(t:TypeId):Bool:=match af ti t with
 |some i=>match i.desc with
  | .bool=>true
  |_=>false
 |none=>false
def Ge(G:KG)(F:KF)(ks:KS)(tag:Nat)(op:BinOp)(ty:TypeId)(y:Operand)(a b:KD){R:Type}(κ:KE->Option R):Option R:=
 match a,b with
 | .one (.n k x),.one (.n k' x')=>IQ tag op k k' x x' κ
 | .one (.s e fr x),_=>match rt y,G.elem ty with
  |true,some _=>(nS op tag (x.nn=false) (instDecidableEqBool x.nn false)).bind λc=>κ ⟨.one c,none,none⟩
  |_,_=>none
 | .one (.o e p),_=>match rt y,G.elem ty,an F ks p with
  |true,some _,some (.rows _ _ _)=>(AW op false).bind λc=>κ ⟨.one c,none,none⟩
  |_,_,_=>none
 | .one .nil,_=>match rt y,G.elem ty with
  |true,some _=>(AW op true).bind λc=>κ ⟨.one c,none,none⟩
  |_,_=>none
 | .agg cs,.agg ds=>match af G.eqs ty with
  |some kinds=>match ep kinds cs ds with
   |some l=>(nS op tag (eqP l) (eqD l)).bind λc=>κ ⟨.one c,none,none⟩
   |none=>none
  |none=>none
 | .one c,.one d=>match wu G.ti ty,AX c,AX d with
  |true,some x,some x'=>(nS op tag (x=x') (instDecidableEqBool x x')).bind λc=>κ ⟨.one c,none,none⟩
  |_,_,_=>none
 |_,_=>none
def kOf(agg:Bool)(cs:List KC):Option KD:=
 if agg then some (.agg cs)else match cs with
  | [c]=>some (.one c)
  |_=>none
def kCs:KD->Option (List KC)
 | .one c=>some [c]
 | .agg cs=>some cs
 | .tup _=>none
def wd(z:Nat×Bool):Nat:=cond z.2 z.1 1
def EI(ti:List (Nat×TI))(t:TypeId):Option (Nat×Bool):=match af ti t with
 |some i=>some (i.size,aL i.desc)
 |none=>none
def GM(ti:List (Nat×TI))(t:TypeId)(m:Nat):Option (Nat×Nat×Bool):=match af ti t with
 |some i=>match fK i m with
  |some fd=>match af ti fd.type with
   |some ft=>some (fd.offset,ft.size,aL ft.desc)
   |none=>none
  |none=>none
 |none=>none
def fu(F:KF)(ks:KS)(z:Nat×Bool)(a:KD){R:Type}(κ:KD->Option R):Option R:=
 match a with
 | .one (.ptr p j)=>match an F ks p with
  |some (.box cs)=>((cut cs j (wd z)).bind (kOf z.2)).bind κ
  |_=>none
 | .one (.ip e fr x i y j)=>((cut (bU fr e y) j (wd z)).bind (kOf z.2)).bind κ
 | .one (.pe p i j)=>match an F ks p with
  |some (.rows e _ l)=>(atL l i).bind λy=>((cut (bU true e y) j (wd z)).bind (kOf z.2)).bind κ
  |some (.mrows e l)=>(atL l i).bind λy=>((cut (bU true e y) j (wd z)).bind (kOf z.2)).bind κ
  |_=>none
 |_=>none
def ra(ks:KS)(sz:Nat)(a x:KD){R:Type}(κ:KE->Option R):Option R:=
 match kCs x with
 |none=>none
 |some cs=>if cs.length=sz then match a with
  | .one (.ptr p j)=>match af ks.bl p with
   |some (.box es)=>(patch es j cs).bind λes'=>κ ⟨kUn,some (p,.box es'),none⟩
   |_=>none
  | .one (.pe p i j)=>match af ks.bl p with
   |some (.rows e ne l)=>if cs.all frC then(atL l i).bind λy=>(patch (bU true e y) j cs).bind λes'=>(dec noB e es').bind λy'=>κ ⟨kUn,some (p,.rows e ne (l.set i.toNat y')),none⟩else none
   |some (.mrows e l)=>if cs.all frC then(atL l i).bind λy=>(patch (bU true e y) j cs).bind λes'=>(dec noB e es').bind λy'=>κ ⟨kUn,some (p,.mrows e (l.set i.toNat y')),none⟩else none
   |_=>none
  |_=>none
 else none
def kPlaces(ti:List (Nat×TI))(t:TypeId):Option (Nat->Option (Nat×Nat)):=match af ti t with
 |some i=>match i.desc with
  | .struct fs=>(seqP (fs.toList.map λf=>match af ti f.type with
   |some q=>some (f.offset,q.size)
   |none=>none)).map λl n=>l[n]?
  | .array _ e=>match af ti e with
   |some te=>some λn=>some (n*te.size,te.size)
   |none=>none
  |_=>none
 |none=>none
where
 seqP:List (Option (Nat×Nat))->Option (List (Nat×Nat))
  | []=>some []
  |none::_=>none
  |some x::r=>(seqP r).map (x::·)
def yf(place:Nat->Option (Nat×Nat))(cells:List KC):List (Nat×KD)->Option (List KC)
 | []=>some cells
 |(i,d)::r=>match place i,kCs d with
  |some (off,size),some cs=>if cs.length=size then(patch cells off cs).bind λc=>yf place c r else none
  |_,_=>none
def ru(F:KF)(ks:KS):List (Nat×Operand)->Option (List (Nat×KD))
 | []=>some []
 |(i,x)::r=>(kO F ks x).bind λd=>(ru F ks r).bind λl=>some ((i,d)::l)
def gp(F:KF)(ks:KS):List Operand->Option (List KD)
 | []=>some []
 |x::r=>(kO F ks x).bind λd=>(gp F ks r).bind λl=>some (d::l)
def jV(e:Ty):List (List KC)->Option (List e.val)
 | []=>some []
 |cs::r=>if cs.all frC=true then(dec noB e cs).bind λx=>(jV e r).bind λl=>some (x::l)else none
def tZ(z:Nat)(cs:List KC):Nat->Nat->Option (List (List KC))
 |0,_=>some []
 |n+1,i=>(cut cs (i*z) z).bind λa=>(tZ z cs n (i+1)).bind λl=>some (a::l)
def wv(F:KF)(ks:KS)(e:Ty):KC->Option (List e.val×Bool)
 | .nil=>some ([],false)
 | .s e' fr x=>if(fr||e'.plain)=true then(eF (.S e') (.S e) x).map λx=>(x.l,false)else none
 | .o _ p=>match an F ks p with
  |some (.rows e' ne l)=>(eF (.S e') (.S e) ⟨true,0,l⟩).map λx=>(x.l,ne)
  |_=>none
 | .m _ p=>match an F ks p with
  |some (.mrows e' l)=>(eF (.S e') (.S e) ⟨true,0,l⟩).map λx=>(x.l,false)
  |_=>none
 |_=>none
def wx(F:KF)(ks:KS)(nid:Nat)(e:Ty)(a x:KC){R:Type}(κ:KE->Option R):Option R:=
 match wv F ks e x with
 |none=>none
 |some (xs,ne)=>match a with
  | .nil=>(app [] xs).bind λlm=>cond ne (κ ⟨.one (.o e nid),none,some (.rows e true lm)⟩) (κ ⟨.one (.m e nid),none,some (.mrows e lm)⟩)
  | .o _ p=>match af ks.bl p with
   |some (.rows e' ne' l)=>(eF (.S e') (.S e) ⟨true,0,l⟩).bind λl=>(app l.l xs).bind λlm=>κ ⟨.one (.o e nid),some (p,.dead),some (.rows e (ne||ne') lm)⟩
   |_=>none
  | .m _ p=>match af ks.bl p with
   |some (.mrows e' l)=>(eF (.S e') (.S e) ⟨true,0,l⟩).bind λl=>(app l.l xs).bind λlm=>cond ne (κ ⟨.one (.o e nid),some (p,.dead),some (.rows e true lm)⟩) (κ ⟨.one (.m e nid),some (p,.dead),some (.mrows e lm)⟩)
   |_=>none
  |_=>none
def IR(F:KF)(ks:KS):KC->Option Int
 | .nil=>some 0
 | .s _ _ x=>some ((x.l.length:Nat):Int)
 | .o _ p=>match an F ks p with
  |some (.rows _ _ l)=>some ((l.length:Nat):Int)
  |_=>none
 | .m _ p=>match an F ks p with
  |some (.mrows _ l)=>some ((l.length:Nat):Int)
  |_=>none
 |_=>none
def rx(G:KG)(F:KF)(ks:KS)(nid:Nat)(c:Call)(b:Builtin)(args:List KD){R:Type}(κ:KE->Option R):Option R:=
 match c.argTypes[0]? with
 |none=>none
 |some ty=>match b,args with
  | .len,[.one x]=>match G.elem ty with
   |some _=>(IR F ks x).bind λn=>κ ⟨.one (.n .i64 n),none,none⟩
   |none=>none
  | .min,[.one (.n k x),.one (.n _ y)]=>match af G.ti ty with
   |some _=>κ ⟨.one (.n k (Mr x y)),none,none⟩
   |none=>none
  | .max,[.one (.n k x),.one (.n _ y)]=>match af G.ti ty with
   |some _=>κ ⟨.one (.n k (Ms x y)),none,none⟩
   |none=>none
  | .append,[.one a,.one x]=>match G.elem ty,(c.argTypes[1]?).bind G.elem with
   |some (_,e,z),some _=>if e.size=z/\z≠0 then wx F ks nid e a x κ else none
   |_,_=>none
  | .copy,[.one (.o _ p),.one x]=>match G.elem ty,(c.argTypes[1]?).bind G.elem,af ks.bl p with
   |some (_,e,z),some _,some (.rows e' ne l)=>if e.size=z/\z≠0 then match wv F ks e x with
    |some (xs,_)=>(eF (.S e') (.S e) ⟨true,0,l⟩).bind λl=>(cpL l.l xs).bind λlm=>κ ⟨.one (.n .i64 ((xs.length:Nat):Int)),some (p,.rows e ne lm),none⟩
    |none=>none
    else none
   |_,_,_=>none
  |_,_=>none
def EJ:List (Bool×List KC)->KD
 | [d]=>mkD d
 |ds=> .tup ds
def IS(nid:Nat):(o:OutK)->o.val->KE
 | .data fr ts,x=>⟨EJ (jC fr ts x),none,none⟩
 | .own e,l=>⟨.one (.o e nid),none,some (.rows e false l)⟩
 | .mown e,l=>⟨.one (.m e nid),none,some (.mrows e l)⟩
 | .gown _,_=>⟨.one .nil,none,none⟩
def zM(F:KF)(ks:KS)(nid:Nat)(en:ct)(args:List KD){R:Type}(κ:KE->Option R):Option R:=
 match en.out with
 | .data false _=>if args.all mO then(gW (an F ks) en.ins args).bind λa=>(en.f a).bind λout=>κ (IS nid en.out out)else none
 | .gown _=>none
 |_=>(gW (an F ks) en.ins args).bind λa=>(en.f a).bind λout=>κ (IS nid en.out out)
def jD(F:KF)(ks:KS)(c:Call):Option (FuncId×List KD):=
 match c.callee with
 | .value f=>match kO F ks f,gp F ks c.args.toList with
  |some (.one (.v (.func (.func k) first cap))),some args=>if first.size=0/\cap.size=0 then some (k,args)else none
  |some (.one (.clo k ps)),some args=>some (k,args++ps.map λp=> .one (.ptr p 0))
  |_,_=>none
 |_=>none
def AY:List KD->Option (List Nat)
 | []=>some []
 | .one (.ptr p j)::r=>if j=0 then(AY r).map (p::·)else none
 |_=>none
def ry(F:KF)(ks:KS)(o:Option Operand)(d:Int):Option Int:=
 match o with
 |none=>some d
 |some x=>match kO F ks x with
  |some (.one (.n _ i))=>some i
  |_=>none
def IT{R:Type}(b:Bool)(n:Nat)(j m:Int)(x:Option R):Option R:=cond b (if j<=m/\m<=(n:Int)then x else none) x
theorem Cw{R:Type}{b:Bool}{n:Nat}{j m:Int}{x:Option R}{r:R}(h:IT b n j m x=some r):x=some r/\(b=true->j<=m/\m<=(n:Int)):=by
 unfold IT at h
 cases b with
 |false=>exact⟨h,λh=>by simp at h⟩
 |true=>
  simp only [cond_true]at h;split at h
  .rename_i hc;exact⟨h,λ_=>hc⟩
  .simp at h
def bw(G:KG)(F:KF)(ks:KS)(tag nid:Nat)(op:Op){R:Type}(κ:KE->Option R):Option R:=
 match op with
 | .move x| .assign x=>(kO F ks x).bind λd=>κ ⟨d,none,none⟩
 | .alloc t=>match af G.ti t with
  |some i=>κ ⟨.one (.ptr nid 0),none,some (.box (i.zero.map kC))⟩
  |none=>none
 | .box t x=>match af G.ti t,(kO F ks x).bind kCs with
  |some _,some cs=>κ ⟨.one (.ptr nid 0),none,some (.box cs)⟩
  |_,_=>none
 | .build t parts=>match af G.ti t,kPlaces G.ti t,ru F ks parts.toList with
  |some i,some pl,some ps=>(yf pl (i.zero.map kC) ps).bind λcs=>κ ⟨.agg cs,none,none⟩
  |_,_,_=>none
 | .buildSlice t len parts=>match G.elem t,ru F ks parts.toList with
  |some (te,e,z),some ps=>match af G.ti te with
   |some i=>if e.size=z/\z*len<=1000000 then(yf (λn=>some (n*z,z)) ((List.replicate len (i.zero.map kC)).flatten) ps).bind λcs=>(tZ z cs len 0).bind λrs=>(jV e rs).bind λl=>κ ⟨.one (.o e nid),none,some (.rows e (Nat.blt 0 len) l)⟩else none
   |none=>none
  |_,_=>none
 | .load t a=>match EI G.ti t,kO F ks a with
  |some z,some d=>fu F ks z d λv=>κ ⟨v,none,none⟩
  |_,_=>none
 | .store t a x=>match EI G.ti t,kO F ks a,kO F ks x with
  |some z,some d,some v=>ra ks z.1 d v κ
  |_,_,_=>none
 | .binOp op ty x y _=>match kO F ks x,kO F ks y with
  |some a,some b=>Ge G F ks tag op ty y a b κ
  |_,_=>none
 | .unOp op _ x=>match op,kO F ks x with
  | .not,some (.one (.b v))=>κ ⟨.one (.b (!v)),none,none⟩
  | .not,some (.one (.p _ P d))=>κ ⟨.one (.p tag (¬P) (@instDecidableNot P d)),none,none⟩
  | .not,some (.one (.bv x))=>κ ⟨.one (.p tag (¬x=true) (@instDecidableNot _ (instDecidableEqBool x true))),none,none⟩
  | .neg,some (.one (.n k x))=>κ ⟨.one (.n k (k.wrap (0 - x))),none,none⟩
  | .xor,some (.one (.n k x))=>κ ⟨.one (.n k (EC k x)),none,none⟩
  |_,_=>none
 | .convert src dst x=>match af G.ti src,af G.ti dst,kO F ks x with
  |some s,some d,some (.one (.n k a))=>match s.desc,d.desc with
   | .int k1,.int k2=>if k1=k then κ ⟨.one (.n k2 (k2.wrap a)),none,none⟩else none
   |_,_=>none
  |_,_,_=>none
 | .makeFunc fn first cap=>match fn,first.toList,(gp F ks cap.toList).bind AY with
  | .func k,[],some ps=>κ ⟨.one (.clo k ps),none,none⟩
  |_,_,_=>none
 | .makeSlice t l c=>match G.elem t,kO F ks l,kO F ks c with
  |some (te,e,z),some (.one (.n _ n)),some (.one (.n _ m))=>match af G.ti te with
   |some i=>if e.size=z/\z≠0 then(Es n m).bind λ_=>(tU n).bind λ_=>(dec noB e (i.zero.map kC)).bind λx=>κ ⟨.one (.o e nid),none,some (.rows e false (List.replicate n.toNat x))⟩else none
   |none=>none
  |_,_,_=>none
 | .slice t x lo hi mx=>match mx.isSome && hi.isNone,G.elem t,kO F ks x with
  |false,some (te,e,z),some (.one (.s e' fr s))=>match ry F ks lo 0,ry F ks hi ((s.l.length:Nat):Int),ry F ks mx ((s.l.length:Nat):Int)with
   |some i,some j,some m=>IT mx.isSome s.l.length j m ((xX z s i j).bind λs'=>κ ⟨.one (.s e' fr s'),none,none⟩)
   |_,_,_=>none
  |_,_,_=>none
 | .fieldAddr t x f=>match GM G.ti t f,kO F ks x with
  |some (off,sz,_),some (.one (.ptr p j))=>if sz=0 then none else κ ⟨.one (.ptr p (j+off)),none,none⟩
  |some (off,sz,_),some (.one (.pe p i j))=>if sz=0 then none else κ ⟨.one (.pe p i (j+off)),none,none⟩
  |some (off,sz,_),some (.one (.ip e fr x i y j))=>if sz=0 then none else κ ⟨.one (.ip e fr x i y (j+off)),none,none⟩
  |_,_=>none
 | .field t x f=>match GM G.ti t f,kO F ks x with
  |some (off,sz,ag),some (.agg cs)=>((cut cs off (wd (sz,ag))).bind (kOf ag)).bind λd=>κ ⟨d,none,none⟩
  |_,_=>none
 | .indexAddr t x ix=>match kO F ks x,kO F ks ix with
  |some (.one (.s e fr s)),some (.one (.n _ i))=>match G.elem t with
   |some (_,_,z)=>(atS z s i).bind λy=>κ ⟨.one (.ip e fr s i y 0),none,none⟩
   |none=>none
  |some (.one (.o _ p)),some (.one (.n _ i))=>match G.elem t,an F ks p with
   |some (_,_,z),some (.rows e _ l)=>if e.size=z then(atL l i).bind λ_=>κ ⟨.one (.pe p i 0),none,none⟩else none
   |_,_=>none
  |some (.one (.m _ p)),some (.one (.n _ i))=>match G.elem t,an F ks p with
   |some (_,_,z),some (.mrows e l)=>if e.size=z then(atL l i).bind λ_=>κ ⟨.one (.pe p i 0),none,none⟩else none
   |_,_=>none
  |some (.one (.ptr p j)),some (.one (.n _ (.ofNat a)))=>match af G.ti t with
   |some ti=>match ti.desc with
    | .array n e=>match af G.ti e with
     |some te=>if a<n then κ ⟨.one (.ptr p (j+a*te.size)),none,none⟩else none
     |none=>none
    |_=>none
   |none=>none
  |some (.one (.ip e fr s i y j)),some (.one (.n _ (.ofNat a)))=>match af G.ti t with
   |some ti=>match ti.desc with
    | .array n e'=>match af G.ti e' with
     |some te=>if a<n then κ ⟨.one (.ip e fr s i y (j+a*te.size)),none,none⟩else none
     |none=>none
    |_=>none
   |none=>none
  |_,_=>none
 | .index t x ix=>match af G.ti t,kO F ks x,kO F ks ix with
  |some ti,some (.agg cs),some (.one (.n _ (.ofNat a)))=>match ti.desc with
   | .array n e=>match af G.ti e with
    |some te=>if a<n then((cut cs (a*te.size) (wd (te.size,aL te.desc))).bind (kOf (aL te.desc))).bind λd=>κ ⟨d,none,none⟩else none
    |none=>none
   |_=>none
  |_,_,_=>none
 | .extract x i=>match kO F ks x with
  |some (.tup ds)=>(ds[i]?).bind λd=>κ ⟨mkD d,none,none⟩
  |_=>none
 | .call c=>match c.callee with
  | .builtin b=>(gp F ks c.args.toList).bind λargs=>rx G F ks nid c b args κ
  |_=>match jD F ks c with
   |some (k,args)=>match G.fn k with
    |some en=>zM F ks nid en args κ
    |none=>none
   |none=>none
 |_=>none
def jE(tag:Nat)(v:Bool):KC->KC
 | .p t P d=>cond (Nat.beq t tag) (.b v) (.p t P d)
 |c=>c
def IU(tag:Nat)(v:Bool):KD->KD
 | .one c=> .one (jE tag v c)
 | .agg cs=> .agg (cs.map (jE tag v))
 | .tup ds=> .tup ds
def EK(tag:Nat)(v:Bool):KB->KB
 | .box cs=> .box (cs.map (jE tag v))
 |b=>b
def subst(tag:Nat)(v:Bool)(ks:KS):KS:={ks with sl:=ks.sl.map λx=>(x.1,IU tag v x.2),bl:=ks.bl.map λx=>(x.1,EK tag v x.2)}
def kIf(c:KC)(ks:KS){R:Type}(κ:Bool->KS->Option R):Option R:=
 match c with
 | .b v=>κ v ks
 | .p tag P d=> @ite _ P d (κ true (subst tag true ks)) (κ false (subst tag false ks))
 | .bv x=>if x=true then κ true ks else κ false ks
 |_=>none
def jc(tag:Nat):KD->KD
 | .one (.bv x)=> .one (.p tag (x=true) (instDecidableEqBool x true))
 |d=>d
def blU(e:KE)(bl:List (Nat×KB)):List (Nat×KB):=
 match e.upd with
 |some x=>x::bl
 |none=>bl
def blE(e:KE)(nid:Nat)(bl:List (Nat×KB)):List (Nat×KB):=
 match e.new with
 |some b=>(nid,b)::blU e bl
 |none=>blU e bl
def slE(dst:Option Tmp)(v:KD)(sl:List (Nat×KD)):List (Nat×KD):=
 match dst with
 |some d=>(d,v)::sl
 |none=>sl
def zN(dst:Option Tmp)(tag nid:Nat)(e:KE)(ks:KS):KS:={sl:=slE dst (jc tag e.v) ks.sl,bl:=blE e nid ks.bl,nx:=ks.nx+2}
def fX(F:KF):Option Tmp->Bool
 |some d=>Nat.blt d F.nt
 |none=>true
def ua(dst:Option Tmp)(ks:KS):KS:={ks with sl:=slE dst kUn ks.sl}
def ub(F:KF)(op:Op)(ks:KS){R:Type}(κ:Op->KS->Option R):Option R:=
 match op with
 | .pick c a b=>match kO F ks c with
  |some (.one c)=>kIf c ks λt ks=>κ (.move (cond t a b)) ks
  |_=>none
 |op=>κ op ks
def uc(F:KF)(ops:List Oper)(o:Oper)(ks:KS){R:Type}(κ:Bool->KS->Option R):Option R:=
 cond (fX F o.dst) (match o.guard with
 |none=>κ true ks
 |some (j,w)=>match(ops[j]?).bind λg=>g.dst with
  |some d=>match eG F ks d with
   |some (.one c)=>kIf c ks λb ks=>κ (b==w) ks
   |some (.tup [])=>κ false ks
   |_=>none
  |none=>none) none
abbrev ud:=(R:Type)->KF->FuncId->List KD->KS->(KD->KS->Option R)->Option R
def rz(G:KG)(F:KF)(ks:KS)(op:Op):Option (FuncId×List KD):=
 match op with
 | .call c=>match c.callee with
  | .builtin _=>none
  |_=>match jD F ks c with
   |some (k,args)=>match af G.fi k with
    |some _=>some (k,args)
    |none=>none
   |none=>none
 |_=>none
def ta(G:KG)(call:ud)(F:KF)(ops:List Oper){R:Type}(κ:KS->Option R):List Oper->KS->Option R
 | [],ks=>κ ks
 |o::r,ks=>uc F ops o ks λw ks=>cond w
   (ub F o.op ks λop ks=>match rz G F ks op with
    |some (k,args)=>match o.dst with
     |some d=>call R F k args ks λv ks2=>ta G call F ops κ r {ks2 with sl:=(d,v)::ks.sl}
     |none=>none
    |none=>bw G F ks ks.nx (ks.nx+1) op λe=>ta G call F ops κ r (zN o.dst ks.nx (ks.nx+1) e ks))
   (ta G call F ops κ r (ua o.dst ks))
def jF(G:KG)(F:KF)(ops:List Oper){R:Type}(κ:KS->Option R):List Oper->KS->Option R
 | [],ks=>κ ks
 |o::r,ks=>uc F ops o ks λw ks=>cond w
   (ub F o.op ks λop ks=>bw G F ks ks.nx (ks.nx+1) op λe=>match e.upd,e.new with
    |none,none=>jF G F ops κ r (zN o.dst ks.nx (ks.nx+1) e ks)
    |_,_=>none)
   (jF G F ops κ r (ua o.dst ks))
end K
end Ev
end
noncomputable section
namespace Ev
namespace K
open Go Go.RowKit
inductive Sh where
 |d (fr:Bool) (t:Ty)
 |o (e:Ty)
 |m (e:Ty)
 |w (e:Ty)
@[reducible] def Sh.T:Sh->Type
 | .d _ t=>t.val
 | .o e=>List e.val
 | .m e=>List e.val
 | .w e=>List e.val
@[reducible] def cd:List Sh->Type
 | []=>Unit
 | [h]=>h.T
 |h::r=>h.T×cd r
inductive BR where
 |sl (i j:Nat)
 |bx (i j:Nat)
structure Pt where
 vs:List (Nat×Bool×List Sh)
 bs:List (Nat×List Sh)
 ws:List (BR×Ty):= []
def wSh(x:BR×Ty):Sh:= .w x.2
def Pt.sh(p:Pt):List Sh:=p.vs.flatMap (·.2.2)++(p.bs.flatMap (·.2)++p.ws.map wSh)
@[reducible] def XT:List (Ex×Pt)->Type
 | []=>Empty
 |x::r=>cd x.2.sh ⊕ XT r
structure yg where
 join:Bool:=false
 key:Nat
 sz:Nat:=0
 keep:List Nat
 head:Pt
 exs:List (Ex×Pt)
def ue(ks:KS):(h:Sh)->KC->{R:Type}->(h.T->Option R)->Option R
 | .d fr t,c,_,κ=>if fr=true/\frC c=false then none else(iR noB t c).bind κ
 | .o e,.o _ p,_,κ=>match af ks.bl p with
  |some (.rows e' _ l)=>(eF (.S e') (.S e) ⟨true,0,l⟩).bind λl=>κ l.l
  |_=>none
 | .w e,.o _ p,_,κ=>match af ks.bl p with
  |some (.rows e' _ l)=>(eF (.S e') (.S e) ⟨true,0,l⟩).bind λl=>κ l.l
  |_=>none
 | .m e,.nil,_,κ=>κ []
 | .m e,.m _ p,_,κ=>match af ks.bl p with
  |some (.mrows e' l)=>(eF (.S e') (.S e) ⟨true,0,l⟩).bind λl=>κ l.l
  |_=>none
 | .m e,.o _ p,_,κ=>match af ks.bl p with
  |some (.rows e' ne l)=>(eF (.S e') (.S e) ⟨true,0,l⟩).bind λl=>cond ne (κ l.l) ((neL l.l).bind λ_=>κ l.l)
  |_=>none
 |_,_,_,_=>none
def iS(ks:KS):(hs:List Sh)->List KC->{R:Type}->(cd hs->Option R)->Option R
 | [],[],_,κ=>κ ()
 | [h],[c],_,κ=>ue ks h c κ
 |h::h'::r,c::cs,_,κ=>ue ks h c λx=>iS ks (h'::r) cs λy=>κ (x,y)
 |_,_,_,_=>none
def ba(q:Nat):(h:Sh)->h.T->KC×List (Nat×KB)
 | .d _ .B,x=>(.bv x,[])
 | .d fr t,x=>(match bU fr t x with
  |c::_=>c
  | []=> .nil,[])
 | .o e,l=>(.o e q,[(q,.rows e false l)])
 | .m e,l=>(.m e q,[(q,.mrows e l)])
 | .w e,l=>(.o e q,[])
def wC:(h:Sh)->h.T->KB
 | .w e,l=> .rows e false l
 |_,_=> .dead
def wCs:(hs:List Sh)->cd hs->List KB
 | [],_=> []
 | [h],x=> [wC h x]
 |h::h'::r,x=>wC h x.1::wCs (h'::r) x.2
def az:(hs:List Sh)->cd hs->Nat->List (KC×List (Nat×KB))
 | [],_,_=> []
 | [h],x,q=> [ba q h x]
 |h::h'::r,x,q=>ba q h x.1::az (h'::r) x.2 (q+1)
def jG(F:KF)(ks:KS):List (Nat×Bool×List Sh)->Option (List KC)
 | []=>some []
 |v::r=>match eG F ks v.1 with
  |some (.one c)=>if v.2.1 then none else if v.2.2.length=1 then(jG F ks r).map (c::·)else none
  |some (.agg cs)=>if v.2.1 then if v.2.2.length=cs.length then(jG F ks r).map (cs++·)else none else none
  |_=>none
def cE(F:KF)(ks:KS)(i:Nat):Option Nat:=
 match eG F ks i with
 |some (.one (.ptr p j))=>if j=0 then some p else none
 |_=>none
def iU(F:KF)(ks:KS):List (Nat×List Sh)->Option (List KC)
 | []=>some []
 |v::r=>match(cE F ks v.1).bind (af ks.bl)with
  |some (.box cs)=>if v.2.length=cs.length then(iU F ks r).map (cs++·)else none
  |_=>none
def brC(F:KF)(ks:KS):BR->Option KC
 | .sl i j=>match eG F ks i with
  |some (.one c)=>some c
  |some (.agg cs)=>cs[j]?
  |_=>none
 | .bx i j=>match cE F ks i with
  |some p=>match aK ks.bl F.bl p with
   |some (.box cs)=>cs[j]?
   |_=>none
  |none=>none
def eH(F:KF)(ks:KS)(w:BR):Option Nat:=
 match brC F ks w with
 |some (.o _ p)=>some p
 |_=>none
def rA(F:KF)(ks:KS):List (BR×Ty)->Option (List KC)
 | []=>some []
 |v::r=>match eH F ks v.1 with
  |some p=>(rA F ks r).map (.o v.2 p::·)
  |none=>none
def dt(F:KF)(ks:KS)(p:Pt):Option (List KC):=(jG F ks p.vs).bind λa=>(iU F ks p.bs).bind λb=>(rA F ks p.ws).map λc=>a++(b++c)
def bi:List KC->List Nat
 | []=> []
 | .o _ p::r=>p::bi r
 | .m _ p::r=>p::bi r
 |_::r=>bi r
def gk:List Nat->Bool
 | []=>true
 |a::r=> !(r.any (Nat.beq a))&& gk r
def mP(F:KF)(ks:KS)(p:Pt){R:Type}(κ:cd p.sh->Option R):Option R:=
 match dt F ks p with
 |some cs=>cond (gk (bi cs)) (iS ks p.sh cs κ) none
 |none=>none
def fG:List (Nat×Bool×List Sh)->List KC->List (Nat×KD)
 | [],_=> []
 |v::r,cs=>(v.1,if v.2.1 then .agg (cs.take v.2.2.length)else match cs with
  |c::_=> .one c
  | []=>kUn)::fG r (cs.drop v.2.2.length)
def du(F:KF)(ks:KS):List (Nat×List Sh)->List KC->List (Nat×KB)
 | [],_=> []
 |v::r,cs=>match cE F ks v.1 with
  |some p=>(p,.box (cs.take v.2.length))::du F ks r (cs.drop v.2.length)
  |none=>du F ks r (cs.drop v.2.length)
def dX(F:KF)(ks:KS):List (BR×Ty)->List KB->List (Nat×KB)
 | [],_=> []
 |_,[]=> []
 |v::r,b::bs=>match eH F ks v.1 with
  |some p=>(p,b)::dX F ks r bs
  |none=>dX F ks r bs
def gw(l:List (Nat×Bool×List Sh)):Nat:=(l.flatMap (·.2.2)).length
def kq(l:List (Nat×List Sh)):Nat:=(l.flatMap (·.2)).length
def eW(F:KF)(ks:KS):Bool:=F.sl.all λx=>(af ks.sl x.1).isNone
def kH(F:KF)(ks:KS):List Nat->List (Nat×KD)
 | []=> []
 |i::r=>match af ks.sl i with
  |some d=>(i,d)::kH F ks r
  |none=>kH F ks r
def jH(F:KF)(ks:KS):List (Nat×List Sh)->List Nat
 | []=> []
 |v::r=>match cE F ks v.1 with
  |some p=>p::jH F ks r
  |none=>jH F ks r
def ce(F:KF)(ks:KS)(a:yg)(cs:List KC):List Nat:=bi cs++jH F ks a.head.bs
def au(F:KF)(ks:KS)(a:yg)(cs:List KC):KF:={nt:=F.nt,sl:=kH F ks a.keep++F.sl,bl:=(ce F ks a cs).map (λp=>(p,.dead))++(ks.bl++F.bl)}
def aV(F:KF)(ks:KS)(p:Pt)(x:cd p.sh):KS:=
 let w:=az p.sh x ks.nx
 let cs:=w.map (·.1)
 {sl:=fG p.vs cs,bl:=du F ks p.bs (cs.drop (gw p.vs))++(dX F ks p.ws ((wCs p.sh x).drop (gw p.vs+kq p.bs))++w.flatMap (·.2)),nx:=ks.nx+p.sh.length}
def mQ:Ex->Ex->Bool
 | .normal,.normal=>true
 | .ret,.ret=>true
 | .exit a,.exit b=>Nat.beq a b
 |_,_=>false
def mR(F:KF)(ks:KS)(e:Ex):(l:List (Ex×Pt))->{R:Type}->(XT l->Option R)->Option R
 | [],_,_=>none
 |x::r,_,κ=>cond (mQ e x.1) (mP F ks x.2 λv=>κ (.inl v)) (mR F ks e r λv=>κ (.inr v))
def rB(F:KF)(ks:KS)(keep dead:List Nat)(p:Pt)(v:cd p.sh):KS:=
 let s:=aV F ks p v
 {s with sl:=s.sl++kH F ks keep,bl:=s.bl++(dead.map (λp=>(p,.dead))++ks.bl)}
def afterX(F:KF)(ks:KS)(keep:List Nat)(dead:List Nat):(l:List (Ex×Pt))->XT l->{R:Type}->(Ex->KS->Option R)->Option R
 | [],x,_,_=>nomatch x
 |x::r,v,_,κ=>Sum.elim (λv=>κ x.1 (rB F ks keep dead x.2 v)) (λv=>afterX F ks keep dead r v κ) v
def kNil:KS:=⟨[],[],0⟩
def kr(F0:KF)(ks:KS)(F:KF)(p:Pt):Bool:=(p.bs.all λv=>(af F.sl v.1).isSome)&& p.ws.all λv=>match eH F0 ks v.1,eH F kNil v.1 with
 |some a,some b=>Nat.beq a b
 |_,_=>false
def dY:Code->Option Nat
 | .region id _ _=>some id
 | .seq a b=>match dY a with
  |some i=>some i
  |none=>dY b
 | .cond _ a b=>match dY a with
  |some i=>some i
  |none=>dY b
 | .block _ b=>dY b
 | .loop b=>dY b
 | .scope b=>dY b
 |_=>none
def mS:Code->Nat
 | .seq a b=>mS a+mS b+1
 | .cond _ a b=>mS a+mS b+1
 | .block _ b=>mS b+1
 | .loop b=>mS b+1
 | .scope b=>mS b+1
 |_=>1
structure Mv where
 old:List (List BR)
 new:List (Bool×List Nat)
structure GN where
 lp:List yg:= []
 tn:List (Nat×Mv):= []
def IV:KC->Option Nat
 | .o _ p=>some p
 | .m _ p=>some p
 | .ptr p _=>some p
 |_=>none
def HP(F:KF)(ks:KS):List BR->Option (List Nat)
 | []=>some []
 |b::r=>match brC F ks b,HP F ks r with
  |some .nil,l=>l
  |some c,some l=>match IV c with
   |some p=>some (p::l)
   |none=>none
  |_,_=>none
def zO(F:KF)(ks:KS):List (List BR)->Option (List (List Nat))
 | []=>some []
 |b::r=>match HP F ks b,zO F ks r with
  |some p,some l=>some (p::l)
  |_,_=>none
def mT(ids:List Nat)(ks:KS):KS:={ks with bl:=ids.map (λp=>(p,.dead))++ks.bl}
def Mw:Option Nat->List Nat
 |some p=> [p]
 |none=> []
def ew(Rl O:List (List Nat))(N:List (Bool×List Nat))(nw:List (Nat×Nat))(i:Nat):List Nat:=
 (Rl.getD i []).flatMap λj=>O.getD j []++((N.getD j (false,[])).2.flatMap (λq=>Mw (af nw q))++cond (N.getD j (false,[])).1 (Mw (af nw j)) [])
def Mx:KC->Option Nat
 | .o _ p=>some p
 | .m _ p=>some p
 |_=>none
def oL(ids:List Nat)(c:KC):Bool:=
 match Mx c with
 |some p=> !(ids.any (Nat.beq p))
 |none=>true
def rC(ids:List Nat):KD->Bool
 | .one c=>oL ids c
 | .agg cs=>cs.all (oL ids)
 | .tup ts=>ts.all λx=>x.2.all (oL ids)
def EL(ids:List Nat):KB->Bool
 | .box cs=>cs.all (oL ids)
 |_=>true
def isM:KB->Bool
 | .mrows _ _=>true
 |_=>false
def EM(ks0 ks:KS)(p:Nat):Bool:=
 match af ks0.bl p,af ks.bl p with
 |some x,some y=>(match x with
  | .dead=>false
  |_=>isM x==isM y)
 |_,_=>false
def zP(ks:KS)(nw:List (Nat×Nat))(p j:Nat):Bool:=
 (match af nw j with
  |some q=>Nat.beq p q
  |none=>false)&&(match af ks.bl p with
  |some y=> !isM y
  |none=>false)
def uf(ks0 ks:KS)(nw:List (Nat×Nat))(p:Nat):List Nat->List Nat->Bool
 | [q],[]=>Nat.beq p q && EM ks0 ks p
 | [],[j]=>zP ks nw p j
 |_,_=>false
def ug(ks0 ks:KS)(O:List (List Nat))(N:List (Bool×List Nat))(nw:List (Nat×Nat))(i:Nat)(ids:List Nat)(e:KE):Bool:=
 rC ids e.v &&(match e.upd with
  |none=>(O.getD i []).isEmpty &&(N.getD i (false,[])).2.isEmpty
  |some (p,b)=>EL ids b && uf ks0 ks nw p (O.getD i []) (N.getD i (false,[])).2)&&(match e.new with
  |none=> !(N.getD i (false,[])).1
  |some b=>(N.getD i (false,[])).1 && EL ids b && !isM b)
def nwE(e:KE)(i nid:Nat)(nw:List (Nat×Nat)):List (Nat×Nat):=
 match e.new with
 |some _=>(i,nid)::nw
 |none=>nw
def zQ(O:List (List Nat))(N:List (Bool×List Nat))(i:Nat):Bool:=(O.getD i []).isEmpty &&(N.getD i (false,[])).2.isEmpty && !(N.getD i (false,[])).1
def oM(G:KG)(F:KF)(ops:List Oper)(Rl O:List (List Nat))(N:List (Bool×List Nat))(ks0:KS){R:Type}(κ:KS->Option R):Nat->List (Nat×Nat)->List Oper->KS->Option R
 |_,_,[],ks=>κ ks
 |i,nw,o::r,ks=>uc F ops o ks λw ks=>cond w
   (ub F o.op ks λop ks=>bw G F (mT (ew Rl O N nw i) ks) ks.nx (ks.nx+1) op λe=>
    cond (ug ks0 ks O N nw i (ew Rl O N nw i) e) (oM G F ops Rl O N ks0 κ (i+1) (nwE e i (ks.nx+1) nw) r (zN o.dst ks.nx (ks.nx+1) e ks)) none)
   (cond (zQ O N i) (oM G F ops Rl O N ks0 κ (i+1) nw r (ua o.dst ks)) none)
def EN(a b:List Nat):Bool:=a.all λx=> !(b.any (Nat.beq x))
def djB:List (List Nat)->List (List Nat)->List (List Nat)->Bool
 |o::os,r::rs,O=>(r.all λj=>EN o (O.getD j []))&& djB os rs O
 |_,_,_=>true
def wy(ks:KS)(O:List (List Nat)):Bool:=O.all λl=>l.all λp=>match af ks.bl p with
 |some .dead=>false
 |some _=>true
 |none=>false
def pK(F:KF)(ks:KS)(b:BR){R:Type}(κ:KS->Option R):Option R:=
 match b with
 | .bx i j=>match cE F ks i with
  |some q=>match af ks.bl q with
   |some (.box cs)=>match cs[j]? with
    |some (.m e p)=>match af ks.bl p with
     |some (.mrows e' l)=>if l.length=0 then κ {ks with bl:=(q,.box (cs.set j .nil))::(p,.dead)::ks.bl}else κ {ks with bl:=(q,.box (cs.set j (.o e ks.nx)))::(ks.nx,.rows e' true l)::(p,.dead)::ks.bl,nx:=ks.nx+1}
     |_=>κ ks
    |_=>κ ks
   |_=>κ ks
  |none=>κ ks
 | .sl i j=>match eG F ks i with
  |some (.one (.m e p))=>match af ks.bl p with
   |some (.mrows e' l)=>if l.length=0 then κ {ks with sl:=(i,.one .nil)::ks.sl,bl:=(p,.dead)::ks.bl}else κ {ks with sl:=(i,.one (.o e ks.nx))::ks.sl,bl:=(ks.nx,.rows e' true l)::(p,.dead)::ks.bl,nx:=ks.nx+1}
   |_=>κ ks
  |_=>κ ks
def rD(F:KF){R:Type}(κ:KS->Option R):List BR->KS->Option R
 | [],ks=>κ ks
 |b::r,ks=>pK F ks b λks=>rD F κ r ks
def ez(G:KG)(A:GN)(call:ud):Code->(R:Type)->KF->KS->(Ex->KS->Option R)->Option R
 | .skip,_,F,ks,κ=>κ .normal ks
 | .region id ops draw,R,F,ks,κ=>cond draw
   (cond (cQ ops) (match af A.tn id with
    |none=>jF G F ops.toList (κ .normal) ops.toList ks
    |some T=>rD F (λks=>match zO F ks T.old with
     |some O=>cond (io ops T.new && djB O (dQ ops) O && wy ks O) (oM G F ops.toList (dQ ops) O T.new ks (κ .normal) 0 [] ops.toList ks) none
     |none=>none) T.old.flatten ks) (match jg ops with
    |some m=>cond (iJ ops) (jF G F ops.toList (ta G call F ops.toList (κ .normal) (ops.toList.drop m)) (ops.toList.take m) ks) none
    |none=>none))
   (ta G call F ops.toList (κ .normal) ops.toList ks)
 | .seq a b,R,F,ks,κ=>match A.lp.find? λz=>z.join &&(some z.key==dY a && Nat.beq z.sz (mS a))with
  |none=>ez G A call a R F ks λe ks=>match e with
   | .normal=>ez G A call b R F ks κ
   |e=>κ e ks
  |some z=>match dt F ks z.head,eW F ks with
   |some cs,true=>cond (kr F ks (au F ks z cs) z.head && z.exs.all λx=>kr F ks (au F ks z cs) x.2) (mP F ks z.head λx0=>
    let F':=au F ks z cs
    (ez G A call a (XT z.exs) F' (aV F ks z.head x0) λe ks2=>cond (eW F' ks2) (mR F' ks2 e z.exs some) none).bind λy=>afterX F ks z.keep (ce F ks z cs) z.exs y λe ks=>match e with
     | .normal=>ez G A call b R F ks κ
     |e=>κ e ks) none
   |_,_=>none
 | .cond c a b,R,F,ks,κ=>match kO F ks c with
  |some (.one c)=>kIf c ks λt ks=>cond t (ez G A call a R F ks κ) (ez G A call b R F ks κ)
  |_=>none
 | .block id b,R,F,ks,κ=>ez G A call b R F ks λe ks=>κ (cond (mQ e (.exit id)) .normal e) ks
 | .loop b,R,F,ks,κ=>match A.lp.find? λa=> !a.join && some a.key==dY b with
  |none=>none
  |some a=>match dt F ks a.head,eW F ks with
   |some cs,true=>cond (kr F ks (au F ks a cs) a.head && a.exs.all λx=>kr F ks (au F ks a cs) x.2 && !mQ x.1 .normal) (mP F ks a.head λx0=>
    let F':=au F ks a cs
    (cB (λx=>ez G A call b (cd a.head.sh ⊕ XT a.exs) F' (aV F ks a.head x) λe ks2=>cond (eW F' ks2) (match e with
     | .normal=>mP F' ks2 a.head λy=>some (.inl y)
     |e=>mR F' ks2 e a.exs λy=>some (.inr y)) none) x0).bind λy=>afterX F ks a.keep (ce F ks a cs) a.exs y κ) none
   |_,_=>none
 | .exit id,_,F,ks,κ=>κ (.exit id) ks
 | .ret,_,F,ks,κ=>κ .ret ks
 | .label _,_,F,ks,κ=>κ .normal ks
 | .scope b,R,F,ks,κ=>ez G A call b R F ks κ
 |_,_,_,_,_=>none
def tc:Nat->List KD->List (Nat×KD)
 |_,[]=> []
 |i,d::r=>(i,d)::tc (i+1) r
def tupK:List KD->Option KD
 | [d]=>some d
 |ds=>(tups ds).map .tup
where
 tups:List KD->Option (List (Bool×List KC))
  | []=>some []
  | .one c::r=>(tups r).map ((false,[c])::·)
  | .agg cs::r=>(tups r).map ((true,cs)::·)
  |_=>none
def wz(G:KG)(F:KF)(ks:KS):List ResultVar->{R:Type}->(List KD->Option R)->Option R
 | [],_,κ=>κ []
 | .tmp t::r,_,κ=>(eG F ks t).bind λd=>wz G F ks r λl=>κ (d::l)
 | .cell a ty::r,_,κ=>match EI G.ti ty,eG F ks a with
  |some z,some d=>fu F ks z d λv=>wz G F ks r λl=>κ (v::l)
  |_,_=>none
def oO:Ex->Bool
 | .exit _=>false
 |_=>true
abbrev fw:=List (FuncId×GN)
def HQ(A:fw)(k:FuncId):GN:=
 match af A k with
 |some l=>l
 |none=>{}
def yh(G:KG)(A:fw):Nat->ud
 |0,_,_,_,_,_,_=>none
 |n+1,R,F,k,args,ks,κ=>match af G.fi k with
  |some f=>if args.length<=f.nt then ez G (HQ A k) (yh G A n) f.body R {F with sl:= [],nt:=f.nt} {ks with sl:=tc 0 args} λe ks2=>cond (oO e) (wz G {F with sl:= [],nt:=f.nt} ks2 f.results λds=>(tupK ds).bind λd=>κ d ks2) none else none
  |none=>none
def frD:KD->Bool
 | .one c=>frC c
 | .agg cs=>cs.all frC
 | .tup _=>false
def nT:List KD->Bool
 | [.one (.o _ _)]=>true
 | [.one (.m _ _)]=>true
 |_=>false
def EO(B:Nat->Option KB)(e:Ty):List KD->Option (List e.val)
 | [.one (.o _ p)]=>match B p with
  |some (.rows e' _ l)=>if e.plain then(eF (.S e') (.S e) ⟨true,0,l⟩).map (·.l)else none
  |_=>none
 |_=>none
def AZ(B:Nat->Option KB)(e:Ty):List KD->Option (List e.val)
 | [.one .nil]=>some []
 | [.one (.m _ p)]=>match B p with
  |some (.mrows e' l)=>if e.plain then(eF (.S e') (.S e) ⟨true,0,l⟩).map (·.l)else none
  |_=>none
 | [.one (.o _ p)]=>match B p with
  |some (.rows e' ne l)=>if e.plain && ne then(eF (.S e') (.S e) ⟨true,0,l⟩).map (·.l)else none
  |_=>none
 |_=>none
def Bc(B:Nat->Option KB)(e:Ty):List KD->Option (Sl e.val)
 | [.one .nil]=>some ⟨false,0,[]⟩
 | [.one (.m _ p)]=>match B p with
  |some (.mrows e' l)=>if e.plain then(eF (.S e') (.S e) ⟨true,0,l⟩).map (λs=>mo e.size s.l)else none
  |_=>none
 | [.one (.o _ p)]=>match B p with
  |some (.rows e' ne l)=>if e.plain then(eF (.S e') (.S e) ⟨true,0,l⟩).map (λs=>⟨true,e.size,s.l⟩)else none
  |_=>none
 |_=>none
def wA(B:Nat->Option KB):(o:OutK)->List KD->Option o.val
 | .data fr ts,ds=>if nT ds||(fr && !(ds.all frD))then none else gW B ts ds
 | .own e,ds=>EO B e ds
 | .mown e,ds=>AZ B e ds
 | .gown e,ds=>Bc B e ds
def Bd(ts:List TyD)(x:bW ts):List (Nat×KD):=tc 0 ((jC false ts x).map mkD)
def gl(G:KG)(A:fw)(f:FI)(k:FuncId)(n:Nat)(ins:List TyD)(out:OutK)(x:bW ins):Option out.val:=
 ez G (HQ A k) (yh G A n) f.body out.val {nt:=f.nt} {sl:=Bd ins x,bl:= [],nx:=0} λe ks=>cond (oO e) (wz G {nt:=f.nt} ks f.results λds=>wA (an {nt:=f.nt} ks) out ds) none
end K
end Ev
end
noncomputable section
namespace Ev
namespace K
open Go Go.RowKit
structure Vl where
 id:Nat->Nat
 bo:Nat->Bool
def KB.there:KB->Prop
 | .dead=>False
 | .mrows _ l=>l≠[]
 |_=>True
abbrev BK:=Nat->Option KB
def RC(B:BK)(V:Vl):KC->C->Prop
 | .n k x,c=>c=iC k x
 | .b v,c=>c=bC v
 | .p tag P d,c=>c=bC (V.bo tag)/\V.bo tag= @decide P d
 | .bv x,c=>c=bC x
 | .v x,c=>c= .p true (.v x)
 | .nil,c=>c= .p true (.s false 0 [])
 | .s e fr x,c=>∃f,c= .p f (Sl.t e.row x)/\(fr=true->f=true)
 | .o e p,c=>∀e' ne l,B p=some (.rows e' ne l)->c= .own (V.id p) 0 l.length
 | .m e p,c=>∀e' l,B p=some (.mrows e' l)->c=moC l (V.id p)
 | .ptr p j,c=>c= .ptr (V.id p) 0 j
 | .pe p i j,c=>0<=i/\c= .ptr (V.id p) i.toNat j
 | .ip e fr x i y j,c=>∃f,c= .iptr f x.sz (x.l.map e.row) i.toNat j/\x.l[i.toNat]? =some y/\(fr=true->f=true)
 | .clo fn ps,c=>c= .clo (.func fn) [] (ps.map λp=> .ptr (V.id p) 0 0)
 | .yld p,c=>c= .yld (V.id p)
def Sc(N:Nat):KC->Prop
 | .p tag _ _=>tag<N
 | .o _ p=>p<N
 | .m _ p=>p<N
 | .ptr p _=>p<N
 | .pe p _ _=>p<N
 | .yld p=>p<N
 | .clo _ ps=>∀p∈ps,p<N
 |_=>True
def RCs(B:BK)(V:Vl):List KC->List C->Prop
 | [],cs=>cs= []
 |k::r,cs=>∃c s,cs=c::s/\RC B V k c/\RCs B V r s
def Scs(N:Nat)(l:List KC):Prop:=∀c∈l,Sc N c
def RD1(B:BK)(V:Vl)(k:KD)(d:D):Prop:=
 match k with
 | .one c=>∃c',d= .one c'/\RC B V c c'
 | .agg cs=>∃cs',d= .agg cs'/\RCs B V cs cs'
 | .tup _=>False
def RTs(B:BK)(V:Vl):List (Bool×List KC)->List D->Prop
 | [],ds=>ds= []
 |x::r,ds=>∃d s,ds=d::s/\RD1 B V (mkD x) d/\RTs B V r s
def RD(B:BK)(V:Vl)(k:KD)(d:D):Prop:=
 match k with
 | .tup ts=>∃ds,d= .tup ds/\RTs B V ts ds
 |k=>RD1 B V k d
def ScD(N:Nat):KD->Prop
 | .one c=>Sc N c
 | .agg cs=>Scs N cs
 | .tup ts=>∀x∈ts,Scs N x.2
def BlkIs(B:BK)(V:Vl)(x:Blk):KB->Prop
 | .box cs=>∃sz cs',x= .own sz [cs']/\RCs B V cs cs'
 | .rows e ne l=>x= .own e.size (l.map (bA e.row))/\(ne=true->l≠[])
 | .mrows e l=>x= .own e.size (l.map (bA e.row))
 | .dead=>x= .dead
def RB(B:BK)(V:Vl)(h:aj)(k:Nat):KB->Prop
 | .box cs=>∃sz cs',aq h k=some (sz,[cs'])/\RCs B V cs cs'
 | .rows e ne l=>aq h k=some (e.size,l.map (bA e.row))/\(ne=true->l≠[])
 | .mrows e l=>l≠[]->aq h k=some (e.size,l.map (bA e.row))
 | .dead=>True
def ScB(N:Nat):KB->Prop
 | .box cs=>Scs N cs
 |_=>True
structure Rel(F:KF)(ks:KS)(V:Vl)(f:Nat->D)(h:aj):Prop where
 sl:∀i d,eG F ks i=some d->i<F.nt/\ScD ks.nx d/\RD (an F ks) V d (f i)
 bl:∀p b,an F ks p=some b->p<ks.nx/\ScB ks.nx b/\RB (an F ks) V h (V.id p) b
 inj:∀p q b b',an F ks p=some b->an F ks q=some b'->b.there->b'.there->V.id p=V.id q->p=q
def LeB(N:Nat)(B B':BK):Prop:=∀p,p<N->(∀e ne l',B' p=some (.rows e ne l')->∃e0 ne0 l0,B p=some (.rows e0 ne0 l0)/\l0.length=l'.length)/\∀e l',B' p=some (.mrows e l')->∃e0 l0,B p=some (.mrows e0 l0)/\l0.length=l'.length
def Agree(N:Nat)(V V':Vl):Prop:=∀q,q<N->V'.id q=V.id q/\V'.bo q=V.bo q
theorem LeB.refl(N:Nat)(B:BK):LeB N B B:=λp hp=>⟨λe ne l h=>⟨e,ne,l,h,rfl⟩,λe l h=>⟨e,l,h,rfl⟩⟩
theorem LeB.trans{N M:Nat}{B B' B'':BK}(h:LeB N B B')(h':LeB M B' B'')(hn:N<=M):LeB N B B'':=λp hp=>⟨λe ne l hl=>by
  obtain⟨e1,n1,l1,h1,h2⟩:=(h' p (by omega)).1 e ne l hl;obtain⟨e0,n0,l0,h3,h4⟩:=(h p hp).1 _ _ _ h1
  exact⟨e0,n0,l0,h3,h4.trans h2⟩,λe l hl=>by
  obtain⟨e1,l1,h1,h2⟩:=(h' p (by omega)).2 e l hl;obtain⟨e0,l0,h3,h4⟩:=(h p hp).2 _ _ h1
  exact⟨e0,l0,h3,h4.trans h2⟩⟩
theorem Agree.refl(N:Nat)(V:Vl):Agree N V V:=λq hq=>⟨rfl,rfl⟩
theorem Agree.trans{N M:Nat}{V V' V'':Vl}(h:Agree N V V')(h':Agree M V' V'')(hn:N<=M):Agree N V V'':=λq hq=>⟨((h' q (by omega)).1).trans (h q hq).1,((h' q (by omega)).2).trans (h q hq).2⟩
theorem GO{α β:Type}{l:List α}{m:List β}{k:Nat}(h:l.length=m.length):moC l k=moC m k:=by
 cases l with
 |nil=>cases m with
  |nil=>rfl
  |cons b m=>simp at h
 |cons a l=>cases m with
  |nil=>simp at h
  |cons b m=>show C.own k 0 _=C.own k 0 _;rw [h]
section
variable {N : Nat} {B B' : BK} {V V' : Vl}
theorem RC.mono{c:KC}{x:C}(hs:Sc N c)(hb:LeB N B B')(ha:Agree N V V')(h:RC B V c x):RC B' V' c x:=by
 cases c with
 |n k y=>exact h
 |b v=>exact h
 |p tag P d=>have:=(ha tag hs).2;exact⟨by rw [this];exact h.1,by rw [this];exact h.2⟩
 |bv y=>exact h
 |v y=>exact h
 |nil=>exact h
 |s e fr y=>exact h
 |o e p=>
  intro e' ne l hl;obtain⟨e0,n0,l0,h1,h2⟩:=(hb p hs).1 e' ne l hl;rw [(ha p hs).1,<-h2];exact h e0 n0 l0 h1
 |m e p=>
  intro e' l hl;obtain⟨e0,l0,h1,h2⟩:=(hb p hs).2 e' l hl;rw [(ha p hs).1,<-GO h2];exact h e0 l0 h1
 |ptr p j=>show x=_;rw [(ha p hs).1];exact h
 |pe p i j=>exact⟨h.1,by rw [(ha p hs).1];exact h.2⟩
 |ip e fr y i z j=>exact h
 |clo fn ps=>
  show x=_
  have:(ps.map λp=>C.ptr (V'.id p) 0 0)=ps.map λp=> .ptr (V.id p) 0 0:=List.map_congr_left λp hp=>by rw [(ha p (hs p hp)).1]
  rw [this];exact h
 |yld p=>show x=_;rw [(ha p hs).1];exact h
theorem RCs.mono:∀{l:List KC} {xs:List C},Scs N l->LeB N B B'->Agree N V V'->RCs B V l xs->RCs B' V' l xs
 | [],xs,hs,hb,ha,h=>h
 |c::l,xs,hs,hb,ha,⟨x,s,h1,h2,h3⟩=>⟨x,s,h1,h2.mono (hs c (by simp)) hb ha,h3.mono (λy hy=>hs y (by simp [hy])) hb ha⟩
theorem pL{x:Bool×List KC}(hs:Scs N x.2):ScD N (mkD x):=by
 obtain⟨b,cs⟩:=x
 cases b with
 |true=>exact hs
 |false=>match cs,hs with
  | [],hs=>exact hs
  | [c],hs=>exact hs c (by simp)
  |c::d::r,hs=>exact hs
theorem RD1.mono{k:KD}{d:D}(hs:ScD N k)(hb:LeB N B B')(ha:Agree N V V')(h:RD1 B V k d):RD1 B' V' k d:=by
 cases k with
 |one c=>obtain⟨c',h1,h2⟩:=h;exact⟨c',h1,h2.mono hs hb ha⟩
 |agg cs=>obtain⟨c',h1,h2⟩:=h;exact⟨c',h1,h2.mono hs hb ha⟩
 |tup ts=>exact h
theorem RTs.mono:∀{l:List (Bool×List KC)} {xs:List D},(∀x∈l,Scs N x.2)->LeB N B B'->Agree N V V'->RTs B V l xs->RTs B' V' l xs
 | [],xs,hs,hb,ha,h=>h
 |c::l,xs,hs,hb,ha,⟨x,s,h1,h2,h3⟩=>⟨x,s,h1,h2.mono (pL (hs c (by simp))) hb ha,h3.mono (λy hy=>hs y (by simp [hy])) hb ha⟩
theorem RD.mono{k:KD}{d:D}(hs:ScD N k)(hb:LeB N B B')(ha:Agree N V V')(h:RD B V k d):RD B' V' k d:=by
 cases k with
 |one c=>exact RD1.mono (k:= .one c) hs hb ha h
 |agg cs=>exact RD1.mono (k:= .agg cs) hs hb ha h
 |tup ts=>obtain⟨ds,h1,h2⟩:=h;exact⟨ds,h1,h2.mono hs hb ha⟩
theorem RB.mono{h:aj}{k:Nat}{b:KB}(hs:ScB N b)(hb:LeB N B B')(ha:Agree N V V')(hr:RB B V h k b):RB B' V' h k b:=by
 cases b with
 |box cs=>obtain⟨sz,cs',h1,h2⟩:=hr;exact⟨sz,cs',h1,h2.mono hs hb ha⟩
 |rows e ne l=>exact hr
 |mrows e l=>exact hr
 |dead=>trivial
theorem RB.heap{h h':aj}{k:Nat}{b:KB}(hh:aq h' k=aq h k)(hr:RB B V h k b):RB B V h' k b:=by
 cases b with
 |box cs=>obtain⟨sz,cs',h1,h2⟩:=hr;exact⟨sz,cs',hh.trans h1,h2⟩
 |rows e ne l=>exact⟨hh.trans hr.1,hr.2⟩
 |mrows e l=>exact λhl=>hh.trans (hr hl)
 |dead=>trivial
end
theorem Sc.mono{N M:Nat}(hn:N<=M){c:KC}(h:Sc N c):Sc M c:=by
 cases c with
 |p tag P d=>exact Nat.lt_of_lt_of_le h hn
 |o e p=>exact Nat.lt_of_lt_of_le h hn
 |m e p=>exact Nat.lt_of_lt_of_le h hn
 |ptr p j=>exact Nat.lt_of_lt_of_le h hn
 |pe p i j=>exact Nat.lt_of_lt_of_le h hn
 |yld p=>exact Nat.lt_of_lt_of_le h hn
 |clo fn ps=>exact λp hp=>Nat.lt_of_lt_of_le (h p hp) hn
 |_=>trivial
theorem Scs.mono{N M:Nat}(hn:N<=M){l:List KC}(h:Scs N l):Scs M l:=λc hc=>(h c hc).mono hn
theorem ScD.mono{N M:Nat}(hn:N<=M){d:KD}(h:ScD N d):ScD M d:=by
 cases d with
 |one c=>exact Sc.mono hn h
 |agg cs=>exact Scs.mono hn h
 |tup ts=>exact λx hx=>(h x hx).mono hn
theorem ScB.mono{N M:Nat}(hn:N<=M){b:KB}(h:ScB N b):ScB M b:=by
 cases b with
 |box cs=>exact Scs.mono hn h
 |_=>trivial
theorem aR{t t':Ty}{x:t.val}{y:t'.val}(h:eF t t' x=some y):∃e:t=t',e▸x=y:=by
 unfold eF at h;split at h
 .rename_i e;exact⟨e,Option.some.inj h⟩
 .simp at h
theorem pM:∀(e:Ty) (x:e.val),(e.row x).length=e.size
 | .I _,_=>rfl
 | .B,_=>rfl
 | .S _,_=>rfl
 | .U,_=>rfl
 | .C a b,x=>by
  show(a.row x.1++b.row x.2).length=a.size+b.size;rw [List.length_append,pM a,pM b]
theorem lw(fr:Bool):∀(e:Ty) (x:e.val),(bU fr e x).length=e.size
 | .I _,_=>rfl
 | .B,_=>rfl
 | .S _,_=>rfl
 | .U,_=>rfl
 | .C a b,x=>by
  show(bU fr a x.1++bU fr b x.2).length=a.size+b.size;rw [List.length_append,lw fr a,lw fr b]
theorem dB(N:Nat)(fr:Bool):∀(e:Ty) (x:e.val),Scs N (bU fr e x)
 | .I _,_=>λc hc=>by rw [List.mem_singleton.1 hc];trivial
 | .B,_=>λc hc=>by rw [List.mem_singleton.1 hc];trivial
 | .S _,_=>λc hc=>by rw [List.mem_singleton.1 hc];trivial
 | .U,_=>λc hc=>by simp [bU]at hc
 | .C a b,x=>λc hc=>by
  rcases List.mem_append.1 (show c∈bU fr a x.1++bU fr b x.2 from hc)with h|h
  .exact dB N fr a x.1 c h
  .exact dB N fr b x.2 c h
section
variable {B : BK} {V : Vl}
theorem RCs.append:∀{k1 k2:List KC} {c1 c2:List C},RCs B V k1 c1->RCs B V k2 c2->RCs B V (k1++k2) (c1++c2)
 | [],k2,c1,c2,h1,h2=>by rw [show c1= []from h1];exact h2
 |k::k1,k2,c1,c2,⟨c,s,e1,h1,h3⟩,h2=>⟨c,s++c2,by rw [e1];rfl,h1,h3.append h2⟩
theorem RCs.len:∀{k:List KC} {c:List C},RCs B V k c->c.length=k.length
 | [],c,h=>by rw [show c= []from h];rfl
 |_::k,c,⟨x,s,e,_,h⟩=>by rw [e,List.length_cons,List.length_cons,h.len]
theorem RCs.drop:∀{k:List KC} {c:List C} (n:Nat),RCs B V k c->RCs B V (k.drop n) (c.drop n)
 |k,c,0,h=>h
 | [],c,n+1,h=>by rw [show c= []from h];exact rfl
 |_::k,c,n+1,⟨x,s,e,_,h⟩=>by rw [e];exact h.drop n
theorem RCs.take:∀{k:List KC} {c:List C} (n:Nat),RCs B V k c->RCs B V (k.take n) (c.take n)
 |k,c,0,h=>rfl
 | [],c,n+1,h=>by rw [show c= []from h];exact rfl
 |_::k,c,n+1,⟨x,s,e,h1,h⟩=>⟨x,s.take n,by rw [e];rfl,h1,h.take n⟩
theorem RCs.cut{k k2:List KC}{c:List C}{i n:Nat}(h:RCs B V k c)(hk:Ev.cut k i n=some k2):∃c2,Ev.cut c i n=some c2/\RCs B V k2 c2:=by
 unfold Ev.cut at hk ⊢;split at hk
 .rename_i hl;rw [if_pos (by rw [h.len];exact hl)];refine⟨_,rfl,?_⟩;rw [<-Option.some.inj hk];exact(h.drop i).take n
 .simp at hk
theorem RCs.patch{k k2 x:List KC}{c y:List C}{i:Nat}(h:RCs B V k c)(hx:RCs B V x y)(hk:Ev.patch k i x=some k2):∃c2,Ev.patch c i y=some c2/\RCs B V k2 c2:=by
 unfold Ev.patch at hk ⊢;split at hk
 .rename_i hl;rw [if_pos (by rw [h.len,hx.len];exact hl)];refine⟨_,rfl,?_⟩;rw [<-Option.some.inj hk,hx.len];exact((h.take i).append hx).append (h.drop _)
 .simp at hk
theorem fN{N:Nat}{k k2:List KC}{i n:Nat}(h:Scs N k)(hk:Ev.cut k i n=some k2):Scs N k2:=by
 unfold Ev.cut at hk;split at hk
 .rw [<-Option.some.inj hk];exact λc hc=>h c (List.mem_of_mem_drop (List.mem_of_mem_take hc))
 .simp at hk
theorem uh{N:Nat}{k k2 x:List KC}{i:Nat}(h:Scs N k)(hx:Scs N x)(hk:Ev.patch k i x=some k2):Scs N k2:=by
 unfold Ev.patch at hk;split at hk
 .rw [<-Option.some.inj hk];intro c hc;simp only [List.mem_append]at hc;rcases hc with(hc|hc)|hc
  .exact h c (List.mem_of_mem_take hc)
  .exact hx c hc
  .exact h c (List.mem_of_mem_drop hc)
 .simp at hk
theorem cC{fr f:Bool}(hf:fr=true->f=true):∀(e:Ty) (x:e.val),RCs B V (bU fr e x) ((e.row x).map (pC f))
 | .I _,_=>⟨_,_,rfl,rfl,rfl⟩
 | .B,_=>⟨_,_,rfl,rfl,rfl⟩
 | .S e,x=>⟨_,_,rfl,⟨f,rfl,hf⟩,rfl⟩
 | .U,_=>rfl
 | .C a b,x=>by
  show RCs B V (bU fr a x.1++bU fr b x.2) ((a.row x.1++b.row x.2).map (pC f));rw [List.map_append];exact(cC hf a x.1).append (cC hf b x.2)
theorem RCs.one{c:KC}{x:C}(h:RC B V c x):RCs B V [c] [x]:=⟨x,[],rfl,h,rfl⟩
theorem RCs.one_inv{c:KC}{xs:List C}(h:RCs B V [c] xs):∃x,xs= [x]/\RC B V c x:=by
 obtain⟨x,s,e,h1,h2⟩:=h;exact⟨x,by rw [e,show s= []from h2],h1⟩
theorem lx{e:Ty}{c:KC}{x:e.val}{y:C}(h:iR noB e c=some x)(hf:frC c=true)(hr:RC B V c y): [y]=(e.row x).map (pC true):=by
 unfold iR at h;split at h
 .rename_i k k' z;split at h
  .rename_i hk;subst hk;rw [<-Option.some.inj h];rw [show y=_ from hr];rfl
  .simp at h
 .rw [<-Option.some.inj h,show y=_ from hr];rfl
 .rename_i tag P d;rw [<-Option.some.inj h,hr.1,hr.2];rfl
 .rw [<-Option.some.inj h,show y=_ from hr];rfl
 .rw [<-Option.some.inj h,show y=_ from hr];rfl
 .rename_i e0 e' fr z;obtain⟨he,hx⟩:=aR h;cases he;obtain⟨f,h1,h2⟩:=hr;rw [<-hx,h1,h2 hf];rfl
 .simp [noB]at h
 .simp [noB]at h
 .simp at h
theorem jW:∀{e:Ty} {cs:List KC} {x:e.val} {ys:List C},dec noB e cs=some x->cs.all frC=true->RCs B V cs ys->ys=(e.row x).map (pC true):=by
 intro e
 induction e with
 |C a b iha ihb=>
  intro cs x ys h hf hr;unfold dec at h;simp only [zbE]at h;obtain⟨x1,h1,y1,h2,h3⟩:=h
  have:=Option.some.inj h3
  subst this;have e1:=iha h1 (List.all_eq_true.2 λc hc=>List.all_eq_true.1 hf c (List.mem_of_mem_take hc)) (hr.take a.size);have e2:=ihb h2 (List.all_eq_true.2 λc hc=>List.all_eq_true.1 hf c (List.mem_of_mem_drop hc)) (hr.drop a.size);show ys=(a.row x1++b.row y1).map (pC true);rw [List.map_append,<-e1,<-e2,List.take_append_drop]
 |U=>
  intro cs x ys h hf hr
  cases cs with
  |nil=>rw [show ys= []from hr];rfl
  |cons c r=>cases r with
   |nil=>simp [dec,iR]at h
   |cons d r=>simp [dec]at h
 |_=>
  intro cs x ys h hf hr
  cases cs with
  |nil=>simp [dec]at h
  |cons c r=>cases r with
   |nil=>
    obtain⟨y,rfl,hy⟩:=hr.one_inv;exact lx (by simpa [dec]using h) (by simpa using hf) hy
   |cons d r=>simp [dec]at h
end
end K
end Ev
end
noncomputable section
namespace Ev
namespace K
open Go Go.RowKit
def RDl(B:BK)(V:Vl):List KD->List D->Prop
 | [],ds=>ds= []
 |k::r,ds=>∃d s,ds=d::s/\RD B V k d/\RDl B V r s
theorem EP{B:BK}{V:Vl}(v:Value):RC B V (kC v) (gm v):=by
 unfold kC;split
 .rfl
 .rfl
 .rfl
 .rename_i h1 h2 h3;unfold gm;split
  .exact absurd rfl h3
  .rfl
theorem HR(N:Nat)(v:Value):Sc N (kC v):=by
 unfold kC;split<;>trivial
theorem jX{B:BK}{V:Vl}:∀l:List Value,RCs B V (l.map kC) (l.map gm)
 | []=>rfl
 |v::l=>⟨_,_,rfl,EP v,jX l⟩
theorem wB(N:Nat)(l:List Value):Scs N (l.map kC):=λc hc=>by
 obtain⟨v,_,rfl⟩:=List.mem_map.1 hc;exact HR N v
theorem zR{B:BK}{V:Vl}{v:Value}{d:KD}(h:nR v=some d):∃d',kK v=some d'/\RD B V d d':=by
 unfold nR at h;split at h
 .rename_i cs;split at h
  .rename_i ha;rw [<-Option.some.inj h];refine⟨.agg (cs.toList.map gm),?_,_,rfl,jX _⟩;unfold kK;simp only;rw [if_pos ha]
  .simp at h
 .simp at h
 .rename_i h1 h2;rw [<-Option.some.inj h];refine⟨.one (gm v),?_,_,rfl,EP v⟩;unfold kK;split
  .exact absurd rfl (h1 _)
  .exact absurd rfl (h2 _)
  .rfl
theorem Cx{N:Nat}{v:Value}{d:KD}(h:nR v=some d):ScD N d:=by
 unfold nR at h;split at h
 .split at h
  .rw [<-Option.some.inj h];exact wB N _
  .simp at h
 .simp at h
 .rw [<-Option.some.inj h];exact HR N _
section
variable {F : KF} {ks : KS} {V : Vl} {f : Nat → D} {h : aj}
theorem zS{a b:Nat}(h:a<b):Nat.blt a b=true:=by simpa using h
theorem aU(hr:Rel F ks V f h){x:Operand}{d:KD}(hx:kO F ks x=some d):∃d',ov F.nt f x=some d'/\ScD ks.nx d/\RD (an F ks) V d d':=by
 cases x with
 |tmp i=>
  obtain⟨h1,h2,h3⟩:=hr.sl i d hx;refine⟨f i,?_,h2,h3⟩;show cond (Nat.blt i F.nt) (some (f i)) none=_;rw [zS h1];rfl
 |const v=>
  obtain⟨d',h1,h2⟩:=zR (B:=an F ks) (V:=V) (show nR v=some d from hx);exact⟨d',h1,Cx hx,h2⟩
 |global g=>simp [kO]at hx
 |func k=>
  have:=Option.some.inj (show some (KD.one (.v (.func (.func k) #[] #[])))=some d from hx)
  subst this;exact⟨_,rfl,trivial,_,rfl,rfl⟩
theorem rE(hr:Rel F ks V f h):∀{l:List Operand} {ds:List KD},gp F ks l=some ds->∃ds',l.mapM (ov F.nt f)=some ds'/\(∀d∈ds,ScD ks.nx d)/\RDl (an F ks) V ds ds'
 | [],ds,hx=>by
  have:=Option.some.inj (show some []=some ds from hx)
  subst this;exact⟨[],rfl,by simp,rfl⟩
 |x::l,ds,hx=>by
  simp only [gp,zbE]at hx;obtain⟨d,h1,r,h2,h3⟩:=hx
  have:=Option.some.inj h3
  subst this;obtain⟨d',g1,g2,g3⟩:=aU hr h1;obtain⟨r',e1,e2,e3⟩:=rE hr h2;refine⟨d'::r',by rw [List.mapM_cons,g1,e1];rfl,?_,d',r',rfl,g3,e3⟩;intro y hy;rcases List.mem_cons.1 hy with rfl|hy
  .exact g2
  .exact e2 y hy
theorem nU(hr:Rel F ks V f h):∀{l:List (Nat×Operand)} {ps:List (Nat×KD)},ru F ks l=some ps->∃ps',pH F.nt f l=some ps'/\(∀x∈ps,ScD ks.nx x.2)/\ps'.map (·.1)=ps.map (·.1)/\RDl (an F ks) V (ps.map (·.2)) (ps'.map (·.2))
 | [],ps,hx=>by
  have:=Option.some.inj (show some []=some ps from hx)
  subst this;exact⟨[],rfl,by simp,rfl,rfl⟩
 |(i,x)::l,ps,hx=>by
  simp only [ru,zbE]at hx;obtain⟨d,h1,r,h2,h3⟩:=hx
  have:=Option.some.inj h3
  subst this;obtain⟨d',g1,g2,g3⟩:=aU hr h1;obtain⟨r',e1,e2,e3,e4⟩:=nU hr h2;refine⟨(i,d')::r',?_,?_,?_,?_⟩
  .unfold pH at e1 ⊢;rw [List.mapM_cons,e1];simp only [g1,Option.map_some,zbB,zbS,Option.pure_def]
  .intro y hy;rcases List.mem_cons.1 hy with rfl|hy
   .exact g2
   .exact e2 y hy
  .simp only [List.map_cons,e3]
  .exact⟨d',r'.map (·.2),rfl,g3,e4⟩
def Bls(B:BK)(V:Vl)(h:aj):Prop:=∀p b,B p=some b->RB B V h (V.id p) b
theorem Rel.bls(hr:Rel F ks V f h):Bls (an F ks) V h:=λp b hb=>(hr.bl p b hb).2.2
theorem fH{k sz:Nat}{es:List (List C)}(hg:aq h k=some (sz,es)):HB h [[(k,sz,es)]]:=⟨by simp,λx hx=>by simp at hx;subst hx;exact hg⟩
theorem aD:HB h []:=⟨List.nodup_nil,λx hx=>by simp at hx⟩
theorem rF{r:List T}(m:Nat):(r.map (pC true)).mapM (cu h (m+1))=some (r.map λt=>(true,t)):=by
 induction r with
 |nil=>rfl
 |cons t r ih=>
  rw [List.map_cons,List.mapM_cons,ih];cases t<;>rfl
theorem yi{B:BK}{e:Ty}{c:KC}{x:e.val}{y:C}(hB:Bls B V h)(hd:iR B e c=some x)(hr:RC B V c y):∃fl t,(∀m,cu h (m+2) y=some (fl,t))/\[t]=e.row x/\(frC c=true->fl=true):=by
 unfold iR at hd;split at hd
 .rename_i k k' z;split at hd
  .rename_i hk;subst hk;rw [<-Option.some.inj hd,show y=_ from hr];exact⟨true,_,λm=>rfl,rfl,λ_=>rfl⟩
  .simp at hd
 .rw [<-Option.some.inj hd,show y=_ from hr];exact⟨true,_,λm=>rfl,rfl,λ_=>rfl⟩
 .rename_i tag P d;rw [<-Option.some.inj hd,hr.1,hr.2];exact⟨true,_,λm=>rfl,rfl,λ_=>rfl⟩
 .rw [<-Option.some.inj hd,show y=_ from hr];exact⟨true,_,λm=>rfl,rfl,λ_=>rfl⟩
 .rw [<-Option.some.inj hd,show y=_ from hr];exact⟨true,_,λm=>rfl,rfl,λ_=>rfl⟩
 .rename_i e0 e' fr z;obtain⟨he,hx⟩:=aR hd;cases he;obtain⟨fl,h1,h2⟩:=hr;rw [<-hx,h1];exact⟨fl,_,λm=>rfl,rfl,h2⟩
 .rename_i e0 e1 p;split at hd
  .rename_i e' ne l hp;obtain⟨he,hx⟩:=aR hd;cases he;have h1:=hr _ _ _ hp;have h2:=(hB p _ hp).1;rw [<-hx,h1];exact⟨true,_,λm=>rg (r:=Ty.row _) (L:= [[(V.id p,_,l.map (bA (Ty.row _)))]]) 0 rfl (λx h m=>rF m) h (fH h2) m,rfl,λ_=>rfl⟩
  .simp at hd
 .rename_i e0 e1 p;split at hd
  .rename_i e' l hp;obtain⟨he,hx⟩:=aR hd;cases he;have h1:=hr _ _ hp;rw [<-hx,h1]
   cases l with
   |nil=>exact⟨true,_,λm=>rfl,rfl,λ_=>rfl⟩
   |cons a l=>
    have h2:=hB p _ hp (by simp);exact⟨true,_,λm=>rg (r:=Ty.row _) (L:= [[(V.id p,_,(a::l).map (bA (Ty.row _)))]]) 0 rfl (λx h m=>rF m) h (fH h2) m,rfl,λ_=>rfl⟩
  .simp at hd
 .simp at hd
theorem Cy{B:BK}(hB:Bls B V h):∀{e:Ty} {cs:List KC} {x:e.val} {ys:List C},dec B e cs=some x->RCs B V cs ys->∃l,(∀m,ys.mapM (cu h (m+2))=some l)/\l.map (·.2)=e.row x/\(cs.all frC=true->l.all (·.1)=true):=by
 intro e
 induction e with
 |C a b iha ihb=>
  intro cs x ys hd hr;unfold dec at hd;simp only [zbE]at hd;obtain⟨x1,h1,y1,h2,h3⟩:=hd
  have:=Option.some.inj h3
  subst this;obtain⟨l1,e1,e2,e3⟩:=iha h1 (hr.take a.size);obtain⟨l2,g1,g2,g3⟩:=ihb h2 (hr.drop a.size);refine⟨l1++l2,λm=> ?_,?_,λhf=> ?_⟩
  .have:ys=ys.take a.size++ys.drop a.size:=(List.take_append_drop _ _).symm
   rw [this,List.mapM_append,e1 m,g1 m];rfl
  .rw [List.map_append,e2,g2];rfl
  .rw [List.all_append,e3 (List.all_eq_true.2 λc hc=>List.all_eq_true.1 hf c (List.mem_of_mem_take hc)),g3 (List.all_eq_true.2 λc hc=>List.all_eq_true.1 hf c (List.mem_of_mem_drop hc))];rfl
 |U=>
  intro cs x ys hd hr
  cases cs with
  |nil=>rw [show ys= []from hr];exact⟨[],λm=>rfl,rfl,λ_=>rfl⟩
  |cons c r=>cases r with
   |nil=>simp [dec,iR]at hd
   |cons d r=>simp [dec]at hd
 |_=>
  intro cs x ys hd hr
  cases cs with
  |nil=>simp [dec]at hd
  |cons c r=>cases r with
   |nil=>
    obtain⟨y,rfl,hy⟩:=hr.one_inv;obtain⟨fl,t,h1,h2,h3⟩:=yi hB (by simpa [dec]using hd) hy;exact⟨[(fl,t)],λm=>by rw [List.mapM_cons,h1 m];rfl,h2,λhf=>by simpa using h3 (by simpa using hf)⟩
   |cons d r=>simp [dec]at hd
theorem ui{B:BK}(hB:Bls B V h){t:TyD}{d:KD}{x:t.2.val}{y:D}(hd:wt B t d=some x)(hr:RD B V d y):∃fl,bn h y=some (fl,lv t x)/\(frD d=true->fl=true):=by
 obtain⟨ag,e⟩:=t
 cases d with
 |one c=>
  obtain⟨c',rfl,hc⟩:=hr;simp only [wt]at hd
  cases ag with
  |true=>simp at hd
  |false=>
   obtain⟨fl,t,h1,h2,h3⟩:=yi hB (by simpa using hd) hc;refine⟨fl,?_,h3⟩;show(cu h 6 c').bind _=_;rw [h1 4];show some (fl,TD.one t)=some (fl,lv (false,e) x);unfold lv;simp only [<-h2]
 |agg cs=>
  obtain⟨cs',rfl,hc⟩:=hr;simp only [wt]at hd
  cases ag with
  |false=>simp at hd
  |true=>
   obtain⟨l,h1,h2,h3⟩:=Cy hB (by simpa using hd) hc;refine⟨l.all (·.1),?_,h3⟩;show(cs'.mapM (cu h 6)).bind _=_;rw [h1 4];show some (l.all (·.1),TD.agg (l.map (·.2)))=some (_,lv (true,e) x);rw [h2];rfl
 |tup ts=>simp [wt]at hd
theorem ly{B:BK}(hB:Bls B V h):∀{ts:List TyD} {ds:List KD} {x:bW ts} {ys:List D},gW B ts ds=some x->RDl B V ds ys->∃l,ys.mapM (bn h)=some l/\l.map (·.2)=cO ts x/\(ds.all frD=true->l.all (·.1)=true)
 | [],[],x,ys,hd,hr=>by rw [show ys= []from hr];exact⟨[],rfl,rfl,λ_=>rfl⟩
 | [],d::ds,x,ys,hd,hr=>by simp [gW]at hd
 | [t],[],x,ys,hd,hr=>by simp [gW]at hd
 | [t],[d],x,ys,hd,hr=>by
  obtain⟨y,s,rfl,h1,h2⟩:=hr;rw [show s= []from h2];obtain⟨fl,g1,g2⟩:=ui hB (show wt B t d=some x from hd) h1;exact⟨[(fl,lv t x)],by rw [List.mapM_cons,g1];rfl,rfl,λhf=>by simpa using g2 (by simpa using hf)⟩
 | [t],d::d'::ds,x,ys,hd,hr=>by simp [gW]at hd
 |t::t'::r,[],x,ys,hd,hr=>by simp [gW]at hd
 |t::t'::r,d::ds,x,ys,hd,hr=>by
  simp only [gW,zbE]at hd;obtain⟨x1,h1,y1,h2,h3⟩:=hd
  have:=Option.some.inj h3
  subst this;obtain⟨y,s,rfl,e1,e2⟩:=hr;obtain⟨fl,g1,g2⟩:=ui hB h1 e1;obtain⟨l,k1,k2,k3⟩:=ly hB h2 e2;refine⟨(fl,lv t x1)::l,by rw [List.mapM_cons,g1,k1];rfl,by rw [List.map_cons,k2];rfl,λhf=> ?_⟩;simp only [List.all_cons,Bool.and_eq_true]at hf ⊢;exact⟨g2 hf.1,k3 hf.2⟩
theorem Bf{B:BK}{fr fl:Bool}(hf:fr=true->fl=true)(t:TyD)(x:t.2.val):RD1 B V (mkD (EH fr t x)) (bu fl (lv t x)):=by
 obtain⟨ag,e⟩:=t;have hc:=cC (B:=B) (V:=V) hf e x
 cases ag with
 |true=>exact⟨_,rfl,hc⟩
 |false=>
  have hl:=lw fr e x;have hl2:=pM e x
  show RD1 B V (mkD (false,bU fr e x)) (bu fl (match e.row x with
   | [y]=> .one y
   |ys=> .agg ys))
  revert hc hl hl2
  cases bU fr e x with
  |nil=>
   intro hc hl hl2
   cases hrw:e.row x with
   |nil=>exact⟨_,rfl,rfl⟩
   |cons y ys=>rw [hrw]at hl2;simp only [List.length_nil,List.length_cons]at hl hl2;omega
  |cons c r=>
   cases r with
   |nil=>
    intro hc hl hl2
    cases hrw:e.row x with
    |nil=>rw [hrw]at hl2;simp only [List.length_nil,List.length_cons]at hl hl2;omega
    |cons y ys=>cases ys with
     |nil=>
      rw [hrw]at hc;obtain⟨z,hz,hz2⟩:=hc.one_inv;refine⟨z,?_,hz2⟩;show D.one (pC fl y)=_;rw [show pC fl y=z from(List.cons.inj hz).1]
     |cons y2 ys=>rw [hrw]at hl2;simp only [List.length_nil,List.length_cons]at hl hl2;omega
   |cons c2 r=>
    intro hc hl hl2
    cases hrw:e.row x with
    |nil=>rw [hrw]at hl2;simp only [List.length_nil,List.length_cons]at hl hl2;omega
    |cons y ys=>cases ys with
     |nil=>rw [hrw]at hl2;simp only [List.length_nil,List.length_cons]at hl hl2;omega
     |cons y2 ys=>rw [hrw]at hc;exact⟨_,rfl,hc⟩
theorem mU{B:BK}{fr fl:Bool}(hf:fr=true->fl=true):∀(ts:List TyD) (x:bW ts),RTs B V (jC fr ts x) ((cO ts x).map (bu fl))
 | [],_=>rfl
 | [t],x=>⟨_,_,rfl,Bf hf t x,rfl⟩
 |t::t'::r,x=>⟨_,_,rfl,Bf hf t x.1,mU hf (t'::r) x.2⟩
theorem rG(N:Nat)(fr:Bool):∀(ts:List TyD) (x:bW ts),∀y∈jC fr ts x,Scs N y.2
 | [],_=>λy hy=>by simp [jC]at hy
 | [t],x=>λy hy=>by rw [List.mem_singleton.1 (show y∈ [EH fr t x]from hy)];exact dB N fr t.2 x
 |t::t'::r,x=>λy hy=>by
  rcases List.mem_cons.1 (show y∈EH fr t x.1::jC fr (t'::r) x.2 from hy)with rfl|hy
  .exact dB N fr t.2 x.1
  .exact rG N fr (t'::r) x.2 y hy
end
end K
end Ev
end
noncomputable section
namespace Ev
namespace K
open Go Go.RowKit
def Vl.set(V:Vl)(nid k tag:Nat)(bo:Bool):Vl:=⟨λq=>if q=nid then k else V.id q,λq=>if q=tag then bo else V.bo q⟩
theorem Vl.set_agree{N nid tag k:Nat}{bo:Bool}{V:Vl}(h1:N<=nid)(h2:N<=tag):Agree N V (V.set nid k tag bo):=λq hq=>⟨if_neg (by omega),if_neg (by omega)⟩
theorem Vl.set_id{nid tag k:Nat}{bo:Bool}{V:Vl}:(V.set nid k tag bo).id nid=k:=if_pos rfl
theorem Vl.set_bo{nid tag k:Nat}{bo:Bool}{V:Vl}:(V.set nid k tag bo).bo tag=bo:=if_pos rfl
def Be(F:KF)(ks:KS)(nid:Nat)(e:KE):BK:=an F {ks with bl:=blE e nid ks.bl}
def KB.like(b0 b:KB):Prop:=
 match b with
 | .rows _ _ l=>∃e0 n0 l0,b0= .rows e0 n0 l0/\l0.length=l.length
 | .mrows _ l=>∃e0 l0,b0= .mrows e0 l0/\l0.length=l.length
 |_=>True
structure EQ(B':BK)(V' V:Vl)(ks:KS)(k:Nat)(e:KE)(u:List (Nat×Blk)):Prop where
 real:∃uo un,u=uo++un/\
  (match e.upd with
   |none=>uo= []
   |some (p,b)=>(∃x,uo= [(V.id p,x)]/\BlkIs B' V' x b/\∀b0,af ks.bl p=some b0->b0.there)∨(uo= []/\¬b.there/\∀b0,af ks.bl p=some b0->¬b0.there))/\
  (match e.new with
   |none=>un= []
   |some b=>(∃x,un= [(k,x)]/\BlkIs B' V' x b/\b.there)∨(un= []/\¬b.there))
structure bI(E:Env)(n:Nat)(F:KF)(ks:KS)(V:Vl)(f:Nat->D)(h:aj)(M tag nid:Nat)(op:Op)(e:KE):Prop where
 upd:∀p b,e.upd=some (p,b)->∃b0,af ks.bl p=some b0/\b0≠ .dead/\ScB ks.nx b/\b0.like b
 new:∀b,e.new=some b->ScB ks.nx b/\b≠ .dead
 sc:ScD M (jc tag e.v)
 run:∃bo,∀k,∃v u,stepG E (cpR E n) none k op (aw (tab F.nt f)) h=some ⟨v,u⟩/\RD (Be F ks nid e) (V.set nid k tag bo) (jc tag e.v) v/\EQ (Be F ks nid e) (V.set nid k tag bo) V ks k e u
def GP(P:Program)(ty:TypeId)(kinds:List IntKind):Prop:=∀(x y:Operand) (l:List (Int×Int)),l.length=kinds.length->
 ae P (do eqGuard .eql ty x y (.agg ((kinds.zip l).map λz=>Value.int z.1 z.2.1).toArray) (.agg ((kinds.zip l).map λz=>Value.int z.1 z.2.2).toArray);binOp .eql ty (.agg ((kinds.zip l).map λz=>Value.int z.1 z.2.1).toArray) (.agg ((kinds.zip l).map λz=>Value.int z.1 z.2.2).toArray))=some (.bool (@decide (eqP l) (eqD l)))/\
 ae P (do eqGuard .neq ty x y (.agg ((kinds.zip l).map λz=>Value.int z.1 z.2.1).toArray) (.agg ((kinds.zip l).map λz=>Value.int z.1 z.2.2).toArray);binOp .neq ty (.agg ((kinds.zip l).map λz=>Value.int z.1 z.2.1).toArray) (.agg ((kinds.zip l).map λz=>Value.int z.1 z.2.2).toArray))=some (.bool (!(@decide (eqP l) (eqD l))))
def Bg(E:Env)(n:Nat)(k:FuncId)(vs:List TD):(o:OutK)->o.val->Prop
 | .data true ts,x=>RunsP E n k vs (.fresh,cO ts x)
 | .data false ts,x=>xU E n k vs (cO ts x)
 | .own e,l=>RunsP E n k vs (.own,[.one (.s true e.size (l.map e.row))])
 | .mown e,l=>RunsP E n k vs (Mt e.size e.row l)
 | .gown e,s=>RunsP E n k vs (bif s.nn then .own else .fresh,[.one (.s s.nn s.sz (s.l.map e.row))])
def cD(E:Env)(en:ct):Prop:=∀m a out,en.f a=some out->Bg E (m+en.d) en.k (cO en.ins a) en.out out
structure GOk(G:KG)(E:Env)(D:Nat):Prop where
 ok:E.Ok
 ti:∀t i,af G.ti t=some i->E.ti t=some i
 eqs:∀ty kinds,af G.eqs ty=some kinds->GP E.P ty kinds
 fns:∀en∈G.fns,en.d<=D/\cD E en
 fi:∀k f,af G.fi k=some f->E.fn k=some f/\E.ax k=some λ_=>none
section
variable {E : Env} {n : Nat} {F : KF} {ks : KS} {V : Vl} {f : Nat → D} {h : aj} {M tag nid : Nat} {op : Op} {G : KG} {D0 : Nat}
theorem GQ{nid:Nat}{v:KD}:Be F ks nid ⟨v,none,none⟩=an F ks:=rfl
theorem ai{α:Type}{q:Nat}{b:α}{l:List (Nat×α)}{p:Nat}:af ((q,b)::l) p=if p=q then some b else af l p:=by
 show cond (Nat.beq q p) (some b) (af l p)=_;by_cases h:p=q
 .subst h;rw [if_pos rfl,show Nat.beq p p=true from Nat.beq_refl p];rfl
 .rw [if_neg h]
  cases hb:Nat.beq q p with
  |true=>exact absurd (Nat.eq_of_beq_eq_true hb).symm h
  |false=>rfl
theorem fI{q:Nat}{b:KB}{bl:List (Nat×KB)}{p:Nat}(hb:b≠ .dead):an F {ks with bl:=(q,b)::bl} p=if p=q then some b else an F {ks with bl:=bl} p:=by
 by_cases hp:p=q
 .subst hp;rw [if_pos rfl];unfold an aK;simp only [ai,if_true]
  cases b with
  |dead=>exact absurd rfl hb
  |_=>rfl
 .rw [if_neg hp];unfold an aK;simp only [ai,if_neg hp]
theorem uj{q:Nat}{bl:List (Nat×KB)}{p:Nat}:an F {ks with bl:=(q,.dead)::bl} p=if p=q then none else an F {ks with bl:=bl} p:=by
 by_cases hp:p=q
 .subst hp;rw [if_pos rfl];unfold an aK;simp only [ai,if_true]
 .rw [if_neg hp];unfold an aK;simp only [ai,if_neg hp]
theorem ah{p:Nat}{b:KB}(h:af ks.bl p=some b)(hb:b≠ .dead):an F ks p=some b:=by
 unfold an aK;rw [h]
 cases b with
 |dead=>exact absurd rfl hb
 |_=>rfl
theorem wD(hn:ks.nx<=nid){e:KE}(hu:∀p b,e.upd=some (p,b)->∃b0,af ks.bl p=some b0/\b0≠ .dead/\b0.like b)(hnew:∀b,e.new=some b->b≠ .dead):LeB ks.nx (an F ks) (Be F ks nid e):=by
 have h1:LeB ks.nx (an F ks) (an F {ks with bl:=blU e ks.bl}):=by
  unfold blU
  cases hx:e.upd with
  |none=>exact LeB.refl _ _
  |some x=>
   obtain⟨p0,b⟩:=x;obtain⟨b0,g1,g2,g3⟩:=hu p0 b hx;have g1':=ah (F:=F) g1 g2;intro p hp;by_cases hb:b= .dead
   .subst hb;simp only [uj];by_cases hpp:p=p0
    .simp [hpp]
    .simp only [if_neg hpp];exact⟨λe ne l h=>⟨e,ne,l,h,rfl⟩,λe l h=>⟨e,l,h,rfl⟩⟩
   .simp only [fI hb];by_cases hpp:p=p0
    .subst hpp;simp only [if_pos rfl];refine⟨λe ne l h=> ?_,λe l h=> ?_⟩
     .have:=Option.some.inj h
      subst this;obtain⟨e0,n0,l0,k1,k2⟩:=g3;exact⟨e0,n0,l0,by rw [g1',k1],k2⟩
     .have:=Option.some.inj h
      subst this;obtain⟨e0,l0,k1,k2⟩:=g3;exact⟨e0,l0,by rw [g1',k1],k2⟩
    .simp only [if_neg hpp];exact⟨λe ne l h=>⟨e,ne,l,h,rfl⟩,λe l h=>⟨e,l,h,rfl⟩⟩
 unfold Be blE
 cases hx:e.new with
 |none=>exact h1
 |some b=>
  intro p hp;simp only [fI (hnew b hx),if_neg (show¬p=nid by omega)];exact h1 p hp
theorem fY{d:KD}(h:∀x,d≠ .one (.bv x)):jc tag d=d:=by
 unfold jc;split
 .exact absurd rfl (h _)
 .rfl
theorem aA{d:KD}{v:D}(ht:ks.nx<=tag)(hn:ks.nx<=nid)(htM:tag<M)(hv:∀k,stepG E (cpR E n) none k op (aw (tab F.nt f)) h=some ⟨v,[]⟩)(hs:ScD ks.nx d)(hd:RD (an F ks) V d v):bI E n F ks V f h M tag nid op ⟨d,none,none⟩:=by
 have hM:ks.nx<=M:=by omega
 refine⟨λp b hb=>by simp at hb,λb hb=>by simp at hb,?_,?_⟩
 .unfold jc;split
  .exact htM
  .exact hs.mono hM
 .refine⟨match d with
   | .one (.bv x)=>x
   |_=>false,λk=>⟨v,[],hv k,?_,⟨[],[],rfl,rfl,rfl⟩⟩⟩
  rw [GQ];by_cases hb:∃x,d= .one (.bv x)
  .obtain⟨x,rfl⟩:=hb;obtain⟨c,rfl,hc⟩:=hd;refine⟨_,rfl,?_,?_⟩
   .rw [Vl.set_bo];exact hc
   .rw [Vl.set_bo];cases x<;>rfl
  .rw [fY (λx hx=>hb ⟨x,hx⟩)];exact hd.mono hs (LeB.refl _ _) (Vl.set_agree hn ht)
theorem cL{P:Prop}{d:Decidable P}{b:Bool}(ht:ks.nx<=tag)(hn:ks.nx<=nid)(htM:tag<M)(hv:∀k,stepG E (cpR E n) none k op (aw (tab F.nt f)) h=some ⟨bD b,[]⟩)(hb:b= @decide P d):bI E n F ks V f h M tag nid op ⟨.one (.p tag P d),none,none⟩:=by
 refine⟨λp b hb=>by simp at hb,λb hb=>by simp at hb,htM,b,λk=>⟨_,[],hv k,⟨_,rfl,?_,?_⟩,⟨[],[],rfl,rfl,rfl⟩⟩⟩
 .rw [Vl.set_bo]
 .rw [Vl.set_bo];exact hb
theorem iV{d:KD}{b:KB}(hM:ks.nx<=M)(ht:ks.nx<=tag)(hn:ks.nx<=nid)(hb:ks.nx<=nid->ScB ks.nx b/\b≠ .dead)(hd:ScD M d)(hnb:∀x,d≠ .one (.bv x))
  (hv:∀k,(b.there/\∃v x,stepG E (cpR E n) none k op (aw (tab F.nt f)) h=some ⟨v,[(k,x)]⟩/\RD (Be F ks nid ⟨d,none,some b⟩) (V.set nid k tag false) d v/\BlkIs (Be F ks nid ⟨d,none,some b⟩) (V.set nid k tag false) x b)∨(¬b.there/\∃v,stepG E (cpR E n) none k op (aw (tab F.nt f)) h=some ⟨v,[]⟩/\RD (Be F ks nid ⟨d,none,some b⟩) (V.set nid k tag false) d v)):bI E n F ks V f h M tag nid op ⟨d,none,some b⟩:=by
 refine⟨λp b hb=>by simp at hb,λb' hb'=>by simp at hb';subst hb';exact hb hn,by rw [fY hnb];exact hd,false,λk=> ?_⟩;rcases hv k with⟨h0,v,x,h1,h2,h3⟩|⟨h0,v,h1,h2⟩
 .exact⟨v,_,h1,by rw [fY hnb];exact h2,⟨[],[(k,x)],rfl,rfl,.inl ⟨x,rfl,h3,h0⟩⟩⟩
 .exact⟨v,_,h1,by rw [fY hnb];exact h2,⟨[],[],rfl,rfl,.inr ⟨rfl,h0⟩⟩⟩
theorem wE{d:KD}{v:D}{p:Nat}{b0 b:KB}{x:Blk}(ht:ks.nx<=tag)(hn:ks.nx<=nid)(hM:ks.nx<=M)(hp:af ks.bl p=some b0)(h0:b0≠ .dead)(hth:b0.there)(hsc:ScB ks.nx b)(hl:b0.like b)(hd:ScD ks.nx d)(hnb:∀x,d≠ .one (.bv x))
  (hv:∀k,stepG E (cpR E n) none k op (aw (tab F.nt f)) h=some ⟨v,[(V.id p,x)]⟩) (hrd:RD (an F ks) V d v) (hx:BlkIs (an F ks) V x b):bI E n F ks V f h M tag nid op ⟨d,some (p,b),none⟩:=by
 have hle:LeB ks.nx (an F ks) (Be F ks nid ⟨d,some (p,b),none⟩):=wD hn (λp' b' hb'=>by simp at hb';obtain⟨rfl,rfl⟩:=hb';exact⟨b0,hp,h0,hl⟩) (λb hb=>by simp at hb);refine⟨λp' b' hb'=>by simp at hb';obtain⟨rfl,rfl⟩:=hb';exact⟨b0,hp,h0,hsc,hl⟩,λb' hb'=>by simp at hb',by rw [fY hnb];exact hd.mono hM,false,λk=>⟨v,_,hv k,by rw [fY hnb];exact hrd.mono hd hle (Vl.set_agree hn ht),⟨[(V.id p,x)],[],rfl,.inl ⟨x,rfl,?_,λb1 hb1=>by rw [hp]at hb1;cases hb1;exact hth⟩,rfl⟩⟩⟩
 cases b with
 |box cs=>obtain⟨sz,cs',g1,g2⟩:=hx;exact⟨sz,cs',g1,g2.mono hsc hle (Vl.set_agree hn ht)⟩
 |rows e ne l=>exact hx
 |mrows e l=>exact hx
 |dead=>exact hx
theorem wG(hG:GOk G E D0){t:TypeId}{z:Nat×Bool}(h:EI G.ti t=some z):cY E.ti t=some z:=by
 unfold EI at h;split at h
 .rename_i i hi;unfold cY;rw [hG.ti _ _ hi];exact h
 .simp at h
theorem pN(hG:GOk G E D0){t:TypeId}{m:Nat}{z:Nat×Nat×Bool}(h:GM G.ti t m=some z):fieldAt E.ti t m=some z:=by
 unfold GM at h;split at h
 .rename_i i hi;split at h
  .rename_i fd hfd;split at h
   .rename_i ft hft;unfold fieldAt;rw [hG.ti _ _ hi];simp only [zbS,hfd,hG.ti _ _ hft];exact h
   .simp at h
  .simp at h
 .simp at h
theorem cg(hG:GOk G E D0){ty te z:Nat}{e:Ty}(h:G.elem ty=some (te,e,z)):∃t i2,E.ti ty=some t/\aG t=some te/\E.ti te=some i2/\i2.size=z/\af G.ti te=some i2/\cG E.ti ty=some z/\t.desc= .slice te:=by
 unfold KG.elem at h;split at h
 .rename_i t ht;split at h
  .rename_i e1 he1;split at h
   .rename_i i2 hi2;simp only [Option.map_eq_some_iff,Prod.mk.injEq]at h;obtain⟨x,_,rfl,rfl,rfl⟩:=h;refine⟨t,i2,hG.ti _ _ ht,he1,hG.ti _ _ hi2,rfl,hi2,?_,?_⟩
    .unfold cG;rw [hG.ti _ _ ht];simp only [zbS,he1,hG.ti _ _ hi2]
    .unfold aG at he1;split at he1
     .rename_i e2 hd;rw [hd];cases he1;rfl
     .simp at he1
   .simp at h
  .simp at h
 .simp at h
theorem wH{α:Type}{l:List α}{i:Int}{y:α}(h:atL l i=some y):l≠[]:=by
 obtain⟨_,h2⟩:=jA h;intro he;rw [he]at h2;simp at h2
theorem rH(e:Ty)(x:e.val):(bA e.row x).length=e.size:=by
 unfold bA;rw [List.length_map,pM]
theorem jY{e:Ty}{l:List e.val}{i:Int}{y:e.val}(h:atL l i=some y):0<=i/\(l.map (bA e.row))[i.toNat]? =some ((e.row y).map (pC true)):=by
 obtain⟨h1,h2⟩:=jA h;exact⟨h1,cK h2⟩
end
end K
end Ev
end
end Go.Proofs.Ytmlpoegdhcdkcaa
