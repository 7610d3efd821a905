/- Texts of a claim, joined. -/
import Derived.Test.YtjjbpdldbdmoeaaZR5
set_option linter.unusedVariables false
set_option linter.unusedSimpArgs false
namespace Go.Proofs.Ytjjbpdldbdmoeaa
noncomputable section
namespace Ev
namespace K
open Go Go.RowKit
inductive Ty where
 |I (k:IntKind)
 |B
 |S (e:Ty)
 |U
 |C (x y:Ty)
 deriving DecidableEq,Inhabited
namespace Ty
@[reducible] def val:Ty→Type
 | .I _=>Int
 | .B=>Bool
 | .S e=>Sl e.val
 | .U=>Unit
 | .C x y=>x.val×y.val
def size:Ty→Nat
 | .U=>0
 | .C x y=>x.size+y.size
 |_=>1
def row:(t:Ty)→t.val→List T
 | .I k,x=> [iT k x]
 | .B,x=> [bT x]
 | .S e,x=> [Sl.t e.row x]
 | .U,_=> []
 | .C a b,x=>a.row x.1++b.row x.2
def zero:(t:Ty)→t.val
 | .I _=>(0:Int)
 | .B=>false
 | .S _=>⟨false,0,[]⟩
 | .U=>()
 | .C a b=>(a.zero,b.zero)
def plain:Ty→Bool
 | .S _=>false
 | .C a b=>a.plain && b.plain
 |_=>true
end Ty
def jq(t t':Ty)(x:t.val):Option t'.val:=if h:t=t' then some (h▸x)else none
inductive KC where
 |n (k:IntKind) (x:Int)
 |b (v:Bool)
 |p (tag:Nat) (P:Prop) (d:Decidable P)
 |bv (x:Bool)
 |v (x:Value)
 |nil
 |s (e:Ty) (fr:Bool) (x:Sl e.val)
 |o (e:Ty) (p:Nat)
 |m (e:Ty) (p:Nat)
 |ptr (p j:Nat)
 |pe (p:Nat) (i:Int) (j:Nat)
 |ip (e:Ty) (fr:Bool) (x:Sl e.val) (i:Int) (y:e.val) (j:Nat)
 |clo (fn:FuncId) (ps:List Nat)
 |yld (p:Nat)
inductive KD where
 |one (c:KC)
 |agg (cs:List KC)
 |tup (ds:List (Bool×List KC))
inductive KB where
 |box (cs:List KC)
 |rows (e:Ty) (ne:Bool) (l:List e.val)
 |mrows (e:Ty) (l:List e.val)
 |dead
structure KS where
 sl:List (Nat×KD)
 bl:List (Nat×KB)
 nx:Nat
structure KF where
 nt:Nat:=0
 sl:List (Nat×KD):= []
 bl:List (Nat×KB):= []
def ay{α:Type}:List (Nat×α)→Nat→Option α
 | [],_=>none
 |x::r,i=>cond (Nat.beq x.1 i) (some x.2) (ay r i)
def ce{α:Type}(l m:List (Nat×α))(i:Nat):Option α:=
 match ay l i with
 |some a=>some a
 |none=>ay m i
def nb(F:KF)(ks:KS)(i:Nat):Option KD:=ce ks.sl F.sl i
def aJ(F:KF)(ks:KS)(p:Nat):Option KB:=
 match ce ks.bl F.bl p with
 |some .dead=>none
 |x=>x
def dW(fr:Bool):(e:Ty)→e.val→List KC
 | .I k,x=> [.n k x]
 | .B,x=> [.bv x]
 | .S e,x=> [.s e fr x]
 | .U,_=> []
 | .C a b,x=>dW fr a x.1++dW fr b x.2
def pN(B:Nat→Option KB):(e:Ty)→KC→Option e.val
 | .I k,.n k' x=>if k=k' then some x else none
 | .B,.b v=>some v
 | .B,.p _ P d=>some (@decide P d)
 | .B,.bv x=>some x
 | .S e,.nil=>some ⟨false,0,[]⟩
 | .S e,.s e' _ x=>jq (.S e') (.S e) x
 | .S e,.o _ p=>match B p with
  |some (.rows e' _ l)=>jq (.S e') (.S e) ⟨true,e'.size,l⟩
  |_=>none
 | .S e,.m _ p=>match B p with
  |some (.mrows e' l)=>jq (.S e') (.S e) (mo e'.size l)
  |_=>none
 |_,_=>none
def dec(B:Nat→Option KB):(e:Ty)→List KC→Option e.val
 | .U,[]=>some ()
 | .C a b,cs=>(dec B a (cs.take a.size)).bind fun x=>(dec B b (cs.drop a.size)).bind fun y=>some (x,y)
 |e,[c]=>pN B e c
 |_,_=>none
def noB:Nat→Option KB:=fun _=>none
def frC:KC→Bool
 | .s _ fr _=>fr
 |_=>true
def vQ:KC→Bool
 | .n .. | .b _| .p .. | .bv _| .v _| .nil| .s .. =>true
 |_=>false
abbrev TyD:=Bool×Ty
@[reducible] def vals:List TyD→Type
 | []=>Unit
 | [t]=>t.2.val
 |t::r=>t.2.val×vals r
def tX(t:TyD)(x:t.2.val):TD:=
 match t with
 |(true,e)=> .agg (e.row x)
 |(false,e)=>match e.row x with
  | [y]=> .one y
  |ys=> .agg ys
def jM:(ts:List TyD)→vals ts→List TD
 | [],_=> []
 | [t],x=> [tX t x]
 |t::t'::r,x=>tX t x.1::jM (t'::r) x.2
def mkD(x:Bool×List KC):KD:=
 match x with
 |(true,cs)=> .agg cs
 |(false,[c])=> .one c
 |(false,cs)=> .agg cs
def Vf(fr:Bool)(t:TyD)(x:t.2.val):Bool×List KC:=(t.1,dW fr t.2 x)
def rm(fr:Bool):(ts:List TyD)→vals ts→List (Bool×List KC)
 | [],_=> []
 | [t],x=> [Vf fr t x]
 |t::t'::r,x=>Vf fr t x.1::rm fr (t'::r) x.2
def Hy(B:Nat→Option KB)(t:TyD):KD→Option t.2.val
 | .one c=>if t.1 then none else pN B t.2 c
 | .agg cs=>if t.1 then dec B t.2 cs else none
 | .tup _=>none
def nM(B:Nat→Option KB):(ts:List TyD)→List KD→Option (vals ts)
 | [],[]=>some ()
 | [t],[d]=>Hy B t d
 |t::t'::r,d::ds=>(Hy B t d).bind fun x=>(nM B (t'::r) ds).bind fun y=>some (x,y)
 |_,_=>none
def vR:KD→Bool
 | .one c=>vQ c
 | .agg cs=>cs.all vQ
 | .tup _=>false
inductive OutK where
 |data (fr:Bool) (ts:List TyD)
 |own (e:Ty)
 |mown (e:Ty)
 |gown (e:Ty)
@[reducible] def OutK.val:OutK→Type
 | .data _ ts=>vals ts
 | .own e=>List e.val
 | .mown e=>List e.val
 | .gown e=>Sl e.val
structure bL where
 k:FuncId
 ins:List TyD
 out:OutK
 f:vals ins→Option out.val
 d:Nat
structure KG where
 ti:List (Nat×TI)
 eqs:List (Nat×List IntKind)
 fns:List bL
 fi:List (FuncId×FI)
def KG.fn(G:KG)(k:FuncId):Option bL:=G.fns.find? fun e=>Nat.beq e.k k
def Yg(ti:List (Nat×TI)):Nat→TypeId→Option Ty
 |0,_=>none
 |n+1,t=>match ay ti t with
  |none=>none
  |some i=>match i.desc with
   | .int k=>some (.I k)
   | .bool=>some .B
   | .slice e=>(Yg ti n e).map .S
   | .array m e=>(Yg ti n e).bind fun x=>prod (List.replicate m x)
   | .struct fs=>(seqO (fs.toList.map fun f=>Yg ti n f.type)).bind prod
   |_=>none
where
 prod:List Ty→Option Ty
  | []=>some .U
  | [x]=>some x
  |x::y::r=>(prod (y::r)).map (.C x)
 seqO:List (Option Ty)→Option (List Ty)
  | []=>some []
  |none::_=>none
  |some x::r=>(seqO r).map (x::·)
def KG.ty(G:KG)(t:TypeId):Option Ty:=Yg G.ti 9 t
def KG.elem(G:KG)(t:TypeId):Option (TypeId×Ty×Nat):=
 match ay G.ti t with
 |some i=>match bu i with
  |some e=>match ay G.ti e with
   |some te=>(G.ty e).map fun x=>(e,x,te.size)
   |none=>none
  |none=>none
 |none=>none
structure KE where
 v:KD
 upd:Option (Nat×KB):=none
 new:Option KB:=none
def kC:Value→KC
 | .int k n=> .n k n
 | .bool b=> .b b
 | .slice none 0 0=> .nil
 |x=> .v x
def xt:Value→Option KD
 | .agg cs=>if cs.toList.all one1 then some (.agg (cs.toList.map kC))else none
 | .tuple _=>none
 |v=>some (.one (kC v))
def kO(F:KF)(ks:KS):Operand→Option KD
 | .tmp i=>nb F ks i
 | .const v=>xt v
 | .global _=>none
 | .func f=>some (.one (.v (.func (.func f) #[] #[])))
def kUn:KD:= .tup []
def abe(tag:Nat)(op:BinOp)(k k':IntKind)(a b:Int){R:Type}(κ:KE→Option R):Option R:=
 match op with
 | .shl=>(zm k a b).bind fun z=>κ ⟨.one (.n k z),none,none⟩
 | .shr=>(rh k a b).bind fun z=>κ ⟨.one (.n k z),none,none⟩
 |op=>if k=k' then match op with
  | .add=>κ ⟨.one (.n k (k.wrap (a+b))),none,none⟩
  | .sub=>κ ⟨.one (.n k (k.wrap (a - b))),none,none⟩
  | .mul=>κ ⟨.one (.n k (k.wrap (a*b))),none,none⟩
  | .and=>κ ⟨.one (.n k (oT k a b)),none,none⟩
  | .or=>κ ⟨.one (.n k (orI k a b)),none,none⟩
  | .xor=>κ ⟨.one (.n k (UN k a b)),none,none⟩
  | .andNot=>κ ⟨.one (.n k (kB k a b)),none,none⟩
  | .quo=>(mZ k a b).bind fun z=>κ ⟨.one (.n k z),none,none⟩
  | .rem=>(vM a b).bind fun z=>κ ⟨.one (.n k z),none,none⟩
  | .eql=>κ ⟨.one (.p tag (a=b) (Int.instDecidableEq a b)),none,none⟩
  | .neq=>κ ⟨.one (.p tag (a≠b) (@instDecidableNot _ (Int.instDecidableEq a b))),none,none⟩
  | .lss=>κ ⟨.one (.p tag (a<b) (Int.decLt a b)),none,none⟩
  | .leq=>κ ⟨.one (.p tag (a≤b) (Int.decLe a b)),none,none⟩
  | .gtr=>κ ⟨.one (.p tag (a>b) (Int.decLt b a)),none,none⟩
  | .geq=>κ ⟨.one (.p tag (a ≥ b) (Int.decLe b a)),none,none⟩
  |_=>none
 else none
def BN:Operand→Bool
 | .const (.slice none 0 0)=>true
 |_=>false
def xu(op:BinOp)(tag:Nat)(P:Prop)(d:Decidable P):Option KC:=
 match op with
 | .eql=>some (.p tag P d)
 | .neq=>some (.p tag (¬P) (@instDecidableNot P d))
 |_=>none
def OM(op:BinOp)(v:Bool):Option KC:=
 match op with
 | .eql=>some (.b v)
 | .neq=>some (.b (!v))
 |_=>none
def eqP:List (Int×Int)→Prop
 | []=>True
 | [x]=>x.1=x.2
 |x::y::r=>x.1=x.2∧eqP (y::r)
def eqD:(l:List (Int×Int))→Decidable (eqP l)
 | []=> .isTrue trivial
 | [x]=>Int.instDecidableEq x.1 x.2
 |x::y::r=> @instDecidableAnd _ _ (Int.instDecidableEq x.1 x.2) (eqD (y::r))
def iS:List IntKind→List KC→List KC→Option (List (Int×Int))
 | [],[],[]=>some []
 |k::ks,.n k1 x::r,.n k2 y::s=>if k1=k∧k2=k then(iS ks r s).map ((x,y)::·)else none
 |_,_,_=>none
def ON:KC→Option Bool
 | .b v=>some v
 | .p _ P d=>some (@decide P d)
 | .bv x=>some x
 |_=>none
def Hz(ti:List (Nat×TI))(t:TypeId):Bool:=match ay ti t with
 |some i=>match i.desc with
  | .bool=>true
  |_=>false
 |none=>false
def Xy(G:KG)(F:KF)(ks:KS)(tag:Nat)(op:BinOp)(ty:TypeId)(y:Operand)(a b:KD){R:Type}(κ:KE→Option R):Option R:=
 match a,b with
 | .one (.n k x),.one (.n k' x')=>abe tag op k k' x x' κ
 | .one (.s e fr x),_=>match BN y,G.elem ty with
  |true,some _=>(xu op tag (x.nn=false) (instDecidableEqBool x.nn false)).bind fun c=>κ ⟨.one c,none,none⟩
  |_,_=>none
 | .one (.o e p),_=>match BN y,G.elem ty,aJ F ks p with
  |true,some _,some (.rows _ _ _)=>(OM op false).bind fun c=>κ ⟨.one c,none,none⟩
  |_,_,_=>none
 | .one .nil,_=>match BN y,G.elem ty with
  |true,some _=>(OM op true).bind fun c=>κ ⟨.one c,none,none⟩
  |_,_=>none
 | .agg cs,.agg ds=>match ay G.eqs ty with
  |some kinds=>match iS kinds cs ds with
   |some l=>(xu op tag (eqP l) (eqD l)).bind fun c=>κ ⟨.one c,none,none⟩
   |none=>none
  |none=>none
 | .one c,.one d=>match Hz G.ti ty,ON c,ON d with
  |true,some x,some x'=>(xu op tag (x=x') (instDecidableEqBool x x')).bind fun c=>κ ⟨.one c,none,none⟩
  |_,_,_=>none
 |_,_=>none
def kOf(agg:Bool)(cs:List KC):Option KD:=
 if agg then some (.agg cs)else match cs with
  | [c]=>some (.one c)
  |_=>none
def kCs:KD→Option (List KC)
 | .one c=>some [c]
 | .agg cs=>some cs
 | .tup _=>none
def wd(z:Nat×Bool):Nat:=cond z.2 z.1 1
def Vg(ti:List (Nat×TI))(t:TypeId):Option (Nat×Bool):=match ay ti t with
 |some i=>some (i.size,bJ i.desc)
 |none=>none
def Yh(ti:List (Nat×TI))(t:TypeId)(m:Nat):Option (Nat×Nat×Bool):=match ay ti t with
 |some i=>match lf i m with
  |some fd=>match ay ti fd.type with
   |some ft=>some (fd.offset,ft.size,bJ ft.desc)
   |none=>none
  |none=>none
 |none=>none
def ku(F:KF)(ks:KS)(z:Nat×Bool)(a:KD){R:Type}(κ:KD→Option R):Option R:=
 match a with
 | .one (.ptr p j)=>match aJ F ks p with
  |some (.box cs)=>((cut cs j (wd z)).bind (kOf z.2)).bind κ
  |_=>none
 | .one (.ip e fr x i y j)=>((cut (dW fr e y) j (wd z)).bind (kOf z.2)).bind κ
 | .one (.pe p i j)=>match aJ F ks p with
  |some (.rows e _ l)=>(atL l i).bind fun y=>((cut (dW true e y) j (wd z)).bind (kOf z.2)).bind κ
  |some (.mrows e l)=>(atL l i).bind fun y=>((cut (dW true e y) j (wd z)).bind (kOf z.2)).bind κ
  |_=>none
 |_=>none
def BD(ks:KS)(sz:Nat)(a x:KD){R:Type}(κ:KE→Option R):Option R:=
 match kCs x with
 |none=>none
 |some cs=>if cs.length=sz then match a with
  | .one (.ptr p j)=>match ay ks.bl p with
   |some (.box es)=>(patch es j cs).bind fun es'=>κ ⟨kUn,some (p,.box es'),none⟩
   |_=>none
  | .one (.pe p i j)=>match ay ks.bl p with
   |some (.rows e ne l)=>if cs.all frC then(atL l i).bind fun y=>(patch (dW true e y) j cs).bind fun es'=>(dec noB e es').bind fun y'=>κ ⟨kUn,some (p,.rows e ne (l.set i.toNat y')),none⟩else none
   |some (.mrows e l)=>if cs.all frC then(atL l i).bind fun y=>(patch (dW true e y) j cs).bind fun es'=>(dec noB e es').bind fun y'=>κ ⟨kUn,some (p,.mrows e (l.set i.toNat y')),none⟩else none
   |_=>none
  |_=>none
 else none
def kPlaces(ti:List (Nat×TI))(t:TypeId):Option (Nat→Option (Nat×Nat)):=match ay ti t with
 |some i=>match i.desc with
  | .struct fs=>(seqP (fs.toList.map fun f=>match ay ti f.type with
   |some q=>some (f.offset,q.size)
   |none=>none)).map fun l n=>l[n]?
  | .array _ e=>match ay ti e with
   |some te=>some fun n=>some (n*te.size,te.size)
   |none=>none
  |_=>none
 |none=>none
where
 seqP:List (Option (Nat×Nat))→Option (List (Nat×Nat))
  | []=>some []
  |none::_=>none
  |some x::r=>(seqP r).map (x::·)
def KZ(place:Nat→Option (Nat×Nat))(cells:List KC):List (Nat×KD)→Option (List KC)
 | []=>some cells
 |(i,d)::r=>match place i,kCs d with
  |some (off,size),some cs=>if cs.length=size then(patch cells off cs).bind fun c=>KZ place c r else none
  |_,_=>none
def BO(F:KF)(ks:KS):List (Nat×Operand)→Option (List (Nat×KD))
 | []=>some []
 |(i,x)::r=>(kO F ks x).bind fun d=>(BO F ks r).bind fun l=>some ((i,d)::l)
def mu(F:KF)(ks:KS):List Operand→Option (List KD)
 | []=>some []
 |x::r=>(kO F ks x).bind fun d=>(mu F ks r).bind fun l=>some (d::l)
def rU(e:Ty):List (List KC)→Option (List e.val)
 | []=>some []
 |cs::r=>if cs.all frC=true then(dec noB e cs).bind fun x=>(rU e r).bind fun l=>some (x::l)else none
def EI(z:Nat)(cs:List KC):Nat→Nat→Option (List (List KC))
 |0,_=>some []
 |n+1,i=>(cut cs (i*z) z).bind fun a=>(EI z cs n (i+1)).bind fun l=>some (a::l)
def HD(F:KF)(ks:KS)(e:Ty):KC→Option (List e.val×Bool)
 | .nil=>some ([],false)
 | .s e' fr x=>if(fr||e'.plain)=true then(jq (.S e') (.S e) x).map fun x=>(x.l,false)else none
 | .o _ p=>match aJ F ks p with
  |some (.rows e' ne l)=>(jq (.S e') (.S e) ⟨true,0,l⟩).map fun x=>(x.l,ne)
  |_=>none
 | .m _ p=>match aJ F ks p with
  |some (.mrows e' l)=>(jq (.S e') (.S e) ⟨true,0,l⟩).map fun x=>(x.l,false)
  |_=>none
 |_=>none
def HE(F:KF)(ks:KS)(nid:Nat)(e:Ty)(a x:KC){R:Type}(κ:KE→Option R):Option R:=
 match HD F ks e x with
 |none=>none
 |some (xs,ne)=>match a with
  | .nil=>(app [] xs).bind fun lm=>cond ne (κ ⟨.one (.o e nid),none,some (.rows e true lm)⟩) (κ ⟨.one (.m e nid),none,some (.mrows e lm)⟩)
  | .o _ p=>match ay ks.bl p with
   |some (.rows e' ne' l)=>(jq (.S e') (.S e) ⟨true,0,l⟩).bind fun l=>(app l.l xs).bind fun lm=>κ ⟨.one (.o e nid),some (p,.dead),some (.rows e (ne||ne') lm)⟩
   |_=>none
  | .m _ p=>match ay ks.bl p with
   |some (.mrows e' l)=>(jq (.S e') (.S e) ⟨true,0,l⟩).bind fun l=>(app l.l xs).bind fun lm=>cond ne (κ ⟨.one (.o e nid),some (p,.dead),some (.rows e true lm)⟩) (κ ⟨.one (.m e nid),some (p,.dead),some (.mrows e lm)⟩)
   |_=>none
  |_=>none
def abf(F:KF)(ks:KS):KC→Option Int
 | .nil=>some 0
 | .s _ _ x=>some ((x.l.length:Nat):Int)
 | .o _ p=>match aJ F ks p with
  |some (.rows _ _ l)=>some ((l.length:Nat):Int)
  |_=>none
 | .m _ p=>match aJ F ks p with
  |some (.mrows _ l)=>some ((l.length:Nat):Int)
  |_=>none
 |_=>none
def BP(G:KG)(F:KF)(ks:KS)(nid:Nat)(c:Call)(b:Builtin)(args:List KD){R:Type}(κ:KE→Option R):Option R:=
 match c.argTypes[0]? with
 |none=>none
 |some ty=>match b,args with
  | .len,[.one x]=>match G.elem ty with
   |some _=>(abf F ks x).bind fun n=>κ ⟨.one (.n .i64 n),none,none⟩
   |none=>none
  | .min,[.one (.n k x),.one (.n _ y)]=>match ay G.ti ty with
   |some _=>κ ⟨.one (.n k (adV x y)),none,none⟩
   |none=>none
  | .max,[.one (.n k x),.one (.n _ y)]=>match ay G.ti ty with
   |some _=>κ ⟨.one (.n k (adW x y)),none,none⟩
   |none=>none
  | .append,[.one a,.one x]=>match G.elem ty,(c.argTypes[1]?).bind G.elem with
   |some (_,e,z),some _=>if e.size=z∧z≠0 then HE F ks nid e a x κ else none
   |_,_=>none
  | .copy,[.one (.o _ p),.one x]=>match G.elem ty,(c.argTypes[1]?).bind G.elem,ay ks.bl p with
   |some (_,e,z),some _,some (.rows e' ne l)=>if e.size=z∧z≠0 then match HD F ks e x with
    |some (xs,_)=>(jq (.S e') (.S e) ⟨true,0,l⟩).bind fun l=>(cpL l.l xs).bind fun lm=>κ ⟨.one (.n .i64 ((xs.length:Nat):Int)),some (p,.rows e ne lm),none⟩
    |none=>none
    else none
   |_,_,_=>none
  |_,_=>none
def Vh:List (Bool×List KC)→KD
 | [d]=>mkD d
 |ds=> .tup ds
def abg(nid:Nat):(o:OutK)→o.val→KE
 | .data fr ts,x=>⟨Vh (rm fr ts x),none,none⟩
 | .own e,l=>⟨.one (.o e nid),none,some (.rows e false l)⟩
 | .mown e,l=>⟨.one (.m e nid),none,some (.mrows e l)⟩
 | .gown _,_=>⟨.one .nil,none,none⟩
def Nv(F:KF)(ks:KS)(nid:Nat)(en:bL)(args:List KD){R:Type}(κ:KE→Option R):Option R:=
 match en.out with
 | .data false _=>if args.all vR then(nM (aJ F ks) en.ins args).bind fun a=>(en.f a).bind fun out=>κ (abg nid en.out out)else none
 | .gown _=>none
 |_=>(nM (aJ F ks) en.ins args).bind fun a=>(en.f a).bind fun out=>κ (abg nid en.out out)
def rn(F:KF)(ks:KS)(c:Call):Option (FuncId×List KD):=
 match c.callee with
 | .value f=>match kO F ks f,mu F ks c.args.toList with
  |some (.one (.v (.func (.func k) first cap))),some args=>if first.size=0∧cap.size=0 then some (k,args)else none
  |some (.one (.clo k ps)),some args=>some (k,args++ps.map fun p=> .one (.ptr p 0))
  |_,_=>none
 |_=>none
def OO:List KD→Option (List Nat)
 | []=>some []
 | .one (.ptr p j)::r=>if j=0 then(OO r).map (p::·)else none
 |_=>none
def BQ(F:KF)(ks:KS)(o:Option Operand)(d:Int):Option Int:=
 match o with
 |none=>some d
 |some x=>match kO F ks x with
  |some (.one (.n _ i))=>some i
  |_=>none
def abh{R:Type}(b:Bool)(n:Nat)(j m:Int)(x:Option R):Option R:=cond b (if j≤m∧m≤(n:Int)then x else none) x
theorem QE{R:Type}{b:Bool}{n:Nat}{j m:Int}{x:Option R}{r:R}(h:abh b n j m x=some r):x=some r∧(b=true→j≤m∧m≤(n:Int)):=by
 unfold abh at h
 cases b with
 |false=>exact⟨h,fun h=>by simp at h⟩
 |true=>
  simp only [cond_true]at h;split at h
  ·rename_i hc;exact⟨h,fun _=>hc⟩
  ·simp at h
def dw(G:KG)(F:KF)(ks:KS)(tag nid:Nat)(op:Op){R:Type}(κ:KE→Option R):Option R:=
 match op with
 | .move x| .assign x=>(kO F ks x).bind fun d=>κ ⟨d,none,none⟩
 | .alloc t=>match ay G.ti t with
  |some i=>κ ⟨.one (.ptr nid 0),none,some (.box (i.zero.map kC))⟩
  |none=>none
 | .box t x=>match ay G.ti t,(kO F ks x).bind kCs with
  |some _,some cs=>κ ⟨.one (.ptr nid 0),none,some (.box cs)⟩
  |_,_=>none
 | .build t parts=>match ay G.ti t,kPlaces G.ti t,BO F ks parts.toList with
  |some i,some pl,some ps=>(KZ pl (i.zero.map kC) ps).bind fun cs=>κ ⟨.agg cs,none,none⟩
  |_,_,_=>none
 | .buildSlice t len parts=>match G.elem t,BO F ks parts.toList with
  |some (te,e,z),some ps=>match ay G.ti te with
   |some i=>if e.size=z∧z*len≤1000000 then(KZ (fun n=>some (n*z,z)) ((List.replicate len (i.zero.map kC)).flatten) ps).bind fun cs=>(EI z cs len 0).bind fun rs=>(rU e rs).bind fun l=>κ ⟨.one (.o e nid),none,some (.rows e (Nat.blt 0 len) l)⟩else none
   |none=>none
  |_,_=>none
 | .load t a=>match Vg G.ti t,kO F ks a with
  |some z,some d=>ku F ks z d fun v=>κ ⟨v,none,none⟩
  |_,_=>none
 | .store t a x=>match Vg G.ti t,kO F ks a,kO F ks x with
  |some z,some d,some v=>BD ks z.1 d v κ
  |_,_,_=>none
 | .binOp op ty x y _=>match kO F ks x,kO F ks y with
  |some a,some b=>Xy G F ks tag op ty y a b κ
  |_,_=>none
 | .unOp op _ x=>match op,kO F ks x with
  | .not,some (.one (.b v))=>κ ⟨.one (.b (!v)),none,none⟩
  | .not,some (.one (.p _ P d))=>κ ⟨.one (.p tag (¬P) (@instDecidableNot P d)),none,none⟩
  | .not,some (.one (.bv x))=>κ ⟨.one (.p tag (¬x=true) (@instDecidableNot _ (instDecidableEqBool x true))),none,none⟩
  | .neg,some (.one (.n k x))=>κ ⟨.one (.n k (k.wrap (0 - x))),none,none⟩
  | .xor,some (.one (.n k x))=>κ ⟨.one (.n k (kE k x)),none,none⟩
  |_,_=>none
 | .convert src dst x=>match ay G.ti src,ay G.ti dst,kO F ks x with
  |some s,some d,some (.one (.n k a))=>match s.desc,d.desc with
   | .int k1,.int k2=>if k1=k then κ ⟨.one (.n k2 (k2.wrap a)),none,none⟩else none
   |_,_=>none
  |_,_,_=>none
 | .makeFunc fn first cap=>match fn,first.toList,(mu F ks cap.toList).bind OO with
  | .func k,[],some ps=>κ ⟨.one (.clo k ps),none,none⟩
  |_,_,_=>none
 | .makeSlice t l c=>match G.elem t,kO F ks l,kO F ks c with
  |some (te,e,z),some (.one (.n _ n)),some (.one (.n _ m))=>match ay G.ti te with
   |some i=>if e.size=z∧z≠0 then(EF n m).bind fun _=>(iX n).bind fun _=>(dec noB e (i.zero.map kC)).bind fun x=>κ ⟨.one (.o e nid),none,some (.rows e false (List.replicate n.toNat x))⟩else none
   |none=>none
  |_,_,_=>none
 | .slice t x lo hi mx=>match mx.isSome && hi.isNone,G.elem t,kO F ks x with
  |false,some (te,e,z),some (.one (.s e' fr s))=>match BQ F ks lo 0,BQ F ks hi ((s.l.length:Nat):Int),BQ F ks mx ((s.l.length:Nat):Int)with
   |some i,some j,some m=>abh mx.isSome s.l.length j m ((zn z s i j).bind fun s'=>κ ⟨.one (.s e' fr s'),none,none⟩)
   |_,_,_=>none
  |_,_,_=>none
 | .fieldAddr t x f=>match Yh G.ti t f,kO F ks x with
  |some (off,sz,_),some (.one (.ptr p j))=>if sz=0 then none else κ ⟨.one (.ptr p (j+off)),none,none⟩
  |some (off,sz,_),some (.one (.pe p i j))=>if sz=0 then none else κ ⟨.one (.pe p i (j+off)),none,none⟩
  |some (off,sz,_),some (.one (.ip e fr x i y j))=>if sz=0 then none else κ ⟨.one (.ip e fr x i y (j+off)),none,none⟩
  |_,_=>none
 | .field t x f=>match Yh G.ti t f,kO F ks x with
  |some (off,sz,ag),some (.agg cs)=>((cut cs off (wd (sz,ag))).bind (kOf ag)).bind fun d=>κ ⟨d,none,none⟩
  |_,_=>none
 | .indexAddr t x ix=>match kO F ks x,kO F ks ix with
  |some (.one (.s e fr s)),some (.one (.n _ i))=>match G.elem t with
   |some (_,_,z)=>(atS z s i).bind fun y=>κ ⟨.one (.ip e fr s i y 0),none,none⟩
   |none=>none
  |some (.one (.o _ p)),some (.one (.n _ i))=>match G.elem t,aJ F ks p with
   |some (_,_,z),some (.rows e _ l)=>if e.size=z then(atL l i).bind fun _=>κ ⟨.one (.pe p i 0),none,none⟩else none
   |_,_=>none
  |some (.one (.m _ p)),some (.one (.n _ i))=>match G.elem t,aJ F ks p with
   |some (_,_,z),some (.mrows e l)=>if e.size=z then(atL l i).bind fun _=>κ ⟨.one (.pe p i 0),none,none⟩else none
   |_,_=>none
  |some (.one (.ptr p j)),some (.one (.n _ (.ofNat a)))=>match ay G.ti t with
   |some ti=>match ti.desc with
    | .array n e=>match ay G.ti e with
     |some te=>if a<n then κ ⟨.one (.ptr p (j+a*te.size)),none,none⟩else none
     |none=>none
    |_=>none
   |none=>none
  |some (.one (.ip e fr s i y j)),some (.one (.n _ (.ofNat a)))=>match ay G.ti t with
   |some ti=>match ti.desc with
    | .array n e'=>match ay G.ti e' with
     |some te=>if a<n then κ ⟨.one (.ip e fr s i y (j+a*te.size)),none,none⟩else none
     |none=>none
    |_=>none
   |none=>none
  |_,_=>none
 | .index t x ix=>match ay G.ti t,kO F ks x,kO F ks ix with
  |some ti,some (.agg cs),some (.one (.n _ (.ofNat a)))=>match ti.desc with
   | .array n e=>match ay G.ti e with
    |some te=>if a<n then((cut cs (a*te.size) (wd (te.size,bJ te.desc))).bind (kOf (bJ te.desc))).bind fun d=>κ ⟨d,none,none⟩else none
    |none=>none
   |_=>none
  |_,_,_=>none
 | .extract x i=>match kO F ks x with
  |some (.tup ds)=>(ds[i]?).bind fun d=>κ ⟨mkD d,none,none⟩
  |_=>none
 | .call c=>match c.callee with
  | .builtin b=>(mu F ks c.args.toList).bind fun args=>BP G F ks nid c b args κ
  |_=>match rn F ks c with
   |some (k,args)=>match G.fn k with
    |some en=>Nv F ks nid en args κ
    |none=>none
   |none=>none
 |_=>none
def rp(tag:Nat)(v:Bool):KC→KC
 | .p t P d=>cond (Nat.beq t tag) (.b v) (.p t P d)
 |c=>c
def abi(tag:Nat)(v:Bool):KD→KD
 | .one c=> .one (rp tag v c)
 | .agg cs=> .agg (cs.map (rp tag v))
 | .tup ds=> .tup ds
def Vi(tag:Nat)(v:Bool):KB→KB
 | .box cs=> .box (cs.map (rp tag v))
 |b=>b
def subst(tag:Nat)(v:Bool)(ks:KS):KS:={ks with sl:=ks.sl.map fun x=>(x.1,abi tag v x.2),bl:=ks.bl.map fun x=>(x.1,Vi tag v x.2)}
def kIf(c:KC)(ks:KS){R:Type}(κ:Bool→KS→Option R):Option R:=
 match c with
 | .b v=>κ v ks
 | .p tag P d=> @ite _ P d (κ true (subst tag true ks)) (κ false (subst tag false ks))
 | .bv x=>if x=true then κ true ks else κ false ks
 |_=>none
def qj(tag:Nat):KD→KD
 | .one (.bv x)=> .one (.p tag (x=true) (instDecidableEqBool x true))
 |d=>d
def blU(e:KE)(bl:List (Nat×KB)):List (Nat×KB):=
 match e.upd with
 |some x=>x::bl
 |none=>bl
def blE(e:KE)(nid:Nat)(bl:List (Nat×KB)):List (Nat×KB):=
 match e.new with
 |some b=>(nid,b)::blU e bl
 |none=>blU e bl
def slE(dst:Option Tmp)(v:KD)(sl:List (Nat×KD)):List (Nat×KD):=
 match dst with
 |some d=>(d,v)::sl
 |none=>sl
def Nw(dst:Option Tmp)(tag nid:Nat)(e:KE)(ks:KS):KS:={sl:=slE dst (qj tag e.v) ks.sl,bl:=blE e nid ks.bl,nx:=ks.nx+2}
def lQ(F:KF):Option Tmp→Bool
 |some d=>Nat.blt d F.nt
 |none=>true
def EJ(dst:Option Tmp)(ks:KS):KS:={ks with sl:=slE dst kUn ks.sl}
def EK(F:KF)(op:Op)(ks:KS){R:Type}(κ:Op→KS→Option R):Option R:=
 match op with
 | .pick c a b=>match kO F ks c with
  |some (.one c)=>kIf c ks fun t ks=>κ (.move (cond t a b)) ks
  |_=>none
 |op=>κ op ks
def EL(F:KF)(ops:List Oper)(o:Oper)(ks:KS){R:Type}(κ:Bool→KS→Option R):Option R:=
 cond (lQ F o.dst) (match o.guard with
 |none=>κ true ks
 |some (j,w)=>match(ops[j]?).bind fun g=>g.dst with
  |some d=>match nb F ks d with
   |some (.one c)=>kIf c ks fun b ks=>κ (b==w) ks
   |some (.tup [])=>κ false ks
   |_=>none
  |none=>none) none
abbrev EM:=(R:Type)→KF→FuncId→List KD→KS→(KD→KS→Option R)→Option R
def BS(G:KG)(F:KF)(ks:KS)(op:Op):Option (FuncId×List KD):=
 match op with
 | .call c=>match c.callee with
  | .builtin _=>none
  |_=>match rn F ks c with
   |some (k,args)=>match ay G.fi k with
    |some _=>some (k,args)
    |none=>none
   |none=>none
 |_=>none
def DM(G:KG)(call:EM)(F:KF)(ops:List Oper){R:Type}(κ:KS→Option R):List Oper→KS→Option R
 | [],ks=>κ ks
 |o::r,ks=>EL F ops o ks fun w ks=>cond w
   (EK F o.op ks fun op ks=>match BS G F ks op with
    |some (k,args)=>match o.dst with
     |some d=>call R F k args ks fun v ks2=>DM G call F ops κ r {ks2 with sl:=(d,v)::ks.sl}
     |none=>none
    |none=>dw G F ks ks.nx (ks.nx+1) op fun e=>DM G call F ops κ r (Nw o.dst ks.nx (ks.nx+1) e ks))
   (DM G call F ops κ r (EJ o.dst ks))
def rq(G:KG)(F:KF)(ops:List Oper){R:Type}(κ:KS→Option R):List Oper→KS→Option R
 | [],ks=>κ ks
 |o::r,ks=>EL F ops o ks fun w ks=>cond w
   (EK F o.op ks fun op ks=>dw G F ks ks.nx (ks.nx+1) op fun e=>match e.upd,e.new with
    |none,none=>rq G F ops κ r (Nw o.dst ks.nx (ks.nx+1) e ks)
    |_,_=>none)
   (rq G F ops κ r (EJ o.dst ks))
end K
end Ev
end
noncomputable section
namespace Ev
namespace K
open Go Go.RowKit
inductive Sh where
 |d (fr:Bool) (t:Ty)
 |o (e:Ty)
 |m (e:Ty)
 |w (e:Ty)
@[reducible] def Sh.T:Sh→Type
 | .d _ t=>t.val
 | .o e=>List e.val
 | .m e=>List e.val
 | .w e=>List e.val
@[reducible] def eN:List Sh→Type
 | []=>Unit
 | [h]=>h.T
 |h::r=>h.T×eN r
inductive BR where
 |sl (i j:Nat)
 |bx (i j:Nat)
structure Pt where
 vs:List (Nat×Bool×List Sh)
 bs:List (Nat×List Sh)
 ws:List (BR×Ty):= []
def wSh(x:BR×Ty):Sh:= .w x.2
def Pt.sh(p:Pt):List Sh:=p.vs.flatMap (·.2.2)++(p.bs.flatMap (·.2)++p.ws.map wSh)
@[reducible] def XT:List (Ex×Pt)→Type
 | []=>Empty
 |x::r=>eN x.2.sh ⊕ XT r
structure La where
 join:Bool:=false
 key:Nat
 sz:Nat:=0
 keep:List Nat
 head:Pt
 exs:List (Ex×Pt)
def EN(ks:KS):(h:Sh)→KC→{R:Type}→(h.T→Option R)→Option R
 | .d fr t,c,_,κ=>if fr=true∧frC c=false then none else(pN noB t c).bind κ
 | .o e,.o _ p,_,κ=>match ay ks.bl p with
  |some (.rows e' _ l)=>(jq (.S e') (.S e) ⟨true,0,l⟩).bind fun l=>κ l.l
  |_=>none
 | .w e,.o _ p,_,κ=>match ay ks.bl p with
  |some (.rows e' _ l)=>(jq (.S e') (.S e) ⟨true,0,l⟩).bind fun l=>κ l.l
  |_=>none
 | .m e,.nil,_,κ=>κ []
 | .m e,.m _ p,_,κ=>match ay ks.bl p with
  |some (.mrows e' l)=>(jq (.S e') (.S e) ⟨true,0,l⟩).bind fun l=>κ l.l
  |_=>none
 | .m e,.o _ p,_,κ=>match ay ks.bl p with
  |some (.rows e' ne l)=>(jq (.S e') (.S e) ⟨true,0,l⟩).bind fun l=>cond ne (κ l.l) ((neL l.l).bind fun _=>κ l.l)
  |_=>none
 |_,_,_,_=>none
def pO(ks:KS):(hs:List Sh)→List KC→{R:Type}→(eN hs→Option R)→Option R
 | [],[],_,κ=>κ ()
 | [h],[c],_,κ=>EN ks h c κ
 |h::h'::r,c::cs,_,κ=>EN ks h c fun x=>pO ks (h'::r) cs fun y=>κ (x,y)
 |_,_,_,_=>none
def cB(q:Nat):(h:Sh)→h.T→KC×List (Nat×KB)
 | .d _ .B,x=>(.bv x,[])
 | .d fr t,x=>(match dW fr t x with
  |c::_=>c
  | []=> .nil,[])
 | .o e,l=>(.o e q,[(q,.rows e false l)])
 | .m e,l=>(.m e q,[(q,.mrows e l)])
 | .w e,l=>(.o e q,[])
def wC:(h:Sh)→h.T→KB
 | .w e,l=> .rows e false l
 |_,_=> .dead
def wCs:(hs:List Sh)→eN hs→List KB
 | [],_=> []
 | [h],x=> [wC h x]
 |h::h'::r,x=>wC h x.1::wCs (h'::r) x.2
def aY:(hs:List Sh)→eN hs→Nat→List (KC×List (Nat×KB))
 | [],_,_=> []
 | [h],x,q=> [cB q h x]
 |h::h'::r,x,q=>cB q h x.1::aY (h'::r) x.2 (q+1)
def rt(F:KF)(ks:KS):List (Nat×Bool×List Sh)→Option (List KC)
 | []=>some []
 |v::r=>match nb F ks v.1 with
  |some (.one c)=>if v.2.1 then none else if v.2.2.length=1 then(rt F ks r).map (c::·)else none
  |some (.agg cs)=>if v.2.1 then if v.2.2.length=cs.length then(rt F ks r).map (cs++·)else none else none
  |_=>none
def gd(F:KF)(ks:KS)(i:Nat):Option Nat:=
 match nb F ks i with
 |some (.one (.ptr p j))=>if j=0 then some p else none
 |_=>none
def pP(F:KF)(ks:KS):List (Nat×List Sh)→Option (List KC)
 | []=>some []
 |v::r=>match(gd F ks v.1).bind (ay ks.bl)with
  |some (.box cs)=>if v.2.length=cs.length then(pP F ks r).map (cs++·)else none
  |_=>none
def brC(F:KF)(ks:KS):BR→Option KC
 | .sl i j=>match nb F ks i with
  |some (.one c)=>some c
  |some (.agg cs)=>cs[j]?
  |_=>none
 | .bx i j=>match gd F ks i with
  |some p=>match ce ks.bl F.bl p with
   |some (.box cs)=>cs[j]?
   |_=>none
  |none=>none
def jr(F:KF)(ks:KS)(w:BR):Option Nat:=
 match brC F ks w with
 |some (.o _ p)=>some p
 |_=>none
def BT(F:KF)(ks:KS):List (BR×Ty)→Option (List KC)
 | []=>some []
 |v::r=>match jr F ks v.1 with
  |some p=>(BT F ks r).map (.o v.2 p::·)
  |none=>none
def gL(F:KF)(ks:KS)(p:Pt):Option (List KC):=(rt F ks p.vs).bind fun a=>(pP F ks p.bs).bind fun b=>(BT F ks p.ws).map fun c=>a++(b++c)
def cP:List KC→List Nat
 | []=> []
 | .o _ p::r=>p::cP r
 | .m _ p::r=>p::cP r
 |_::r=>cP r
def mq:List Nat→Bool
 | []=>true
 |a::r=> !(r.any (Nat.beq a))&& mq r
def vS(F:KF)(ks:KS)(p:Pt){R:Type}(κ:eN p.sh→Option R):Option R:=
 match gL F ks p with
 |some cs=>cond (mq (cP cs)) (pO ks p.sh cs κ) none
 |none=>none
def kZ:List (Nat×Bool×List Sh)→List KC→List (Nat×KD)
 | [],_=> []
 |v::r,cs=>(v.1,if v.2.1 then .agg (cs.take v.2.2.length)else match cs with
  |c::_=> .one c
  | []=>kUn)::kZ r (cs.drop v.2.2.length)
def gM(F:KF)(ks:KS):List (Nat×List Sh)→List KC→List (Nat×KB)
 | [],_=> []
 |v::r,cs=>match gd F ks v.1 with
  |some p=>(p,.box (cs.take v.2.length))::gM F ks r (cs.drop v.2.length)
  |none=>gM F ks r (cs.drop v.2.length)
def iq(F:KF)(ks:KS):List (BR×Ty)→List KB→List (Nat×KB)
 | [],_=> []
 |_,[]=> []
 |v::r,b::bs=>match jr F ks v.1 with
  |some p=>(p,b)::iq F ks r bs
  |none=>iq F ks r bs
def mA(l:List (Nat×Bool×List Sh)):Nat:=(l.flatMap (·.2.2)).length
def sf(l:List (Nat×List Sh)):Nat:=(l.flatMap (·.2)).length
def jN(F:KF)(ks:KS):Bool:=F.sl.all fun x=>(ay ks.sl x.1).isNone
def sR(F:KF)(ks:KS):List Nat→List (Nat×KD)
 | []=> []
 |i::r=>match ay ks.sl i with
  |some d=>(i,d)::sR F ks r
  |none=>sR F ks r
def ru(F:KF)(ks:KS):List (Nat×List Sh)→List Nat
 | []=> []
 |v::r=>match gd F ks v.1 with
  |some p=>p::ru F ks r
  |none=>ru F ks r
def eO(F:KF)(ks:KS)(a:La)(cs:List KC):List Nat:=cP cs++ru F ks a.head.bs
def aL(F:KF)(ks:KS)(a:La)(cs:List KC):KF:={nt:=F.nt,sl:=sR F ks a.keep++F.sl,bl:=(eO F ks a cs).map (fun p=>(p,.dead))++(ks.bl++F.bl)}
def ct(F:KF)(ks:KS)(p:Pt)(x:eN p.sh):KS:=
 let w:=aY p.sh x ks.nx
 let cs:=w.map (·.1)
 {sl:=kZ p.vs cs,bl:=gM F ks p.bs (cs.drop (mA p.vs))++(iq F ks p.ws ((wCs p.sh x).drop (mA p.vs+sf p.bs))++w.flatMap (·.2)),nx:=ks.nx+p.sh.length}
def vT:Ex→Ex→Bool
 | .normal,.normal=>true
 | .ret,.ret=>true
 | .exit a,.exit b=>Nat.beq a b
 |_,_=>false
def vU(F:KF)(ks:KS)(e:Ex):(l:List (Ex×Pt))→{R:Type}→(XT l→Option R)→Option R
 | [],_,_=>none
 |x::r,_,κ=>cond (vT e x.1) (vS F ks x.2 fun v=>κ (.inl v)) (vU F ks e r fun v=>κ (.inr v))
def BU(F:KF)(ks:KS)(keep dead:List Nat)(p:Pt)(v:eN p.sh):KS:=
 let s:=ct F ks p v
 {s with sl:=s.sl++sR F ks keep,bl:=s.bl++(dead.map (fun p=>(p,.dead))++ks.bl)}
def afterX(F:KF)(ks:KS)(keep:List Nat)(dead:List Nat):(l:List (Ex×Pt))→XT l→{R:Type}→(Ex→KS→Option R)→Option R
 | [],x,_,_=>nomatch x
 |x::r,v,_,κ=>Sum.elim (fun v=>κ x.1 (BU F ks keep dead x.2 v)) (fun v=>afterX F ks keep dead r v κ) v
def kNil:KS:=⟨[],[],0⟩
def sg(F0:KF)(ks:KS)(F:KF)(p:Pt):Bool:=(p.bs.all fun v=>(ay F.sl v.1).isSome)&& p.ws.all fun v=>match jr F0 ks v.1,jr F kNil v.1 with
 |some a,some b=>Nat.beq a b
 |_,_=>false
def ir:Code→Option Nat
 | .region id _ _=>some id
 | .seq a b=>match ir a with
  |some i=>some i
  |none=>ir b
 | .cond _ a b=>match ir a with
  |some i=>some i
  |none=>ir b
 | .block _ b=>ir b
 | .loop b=>ir b
 | .scope b=>ir b
 |_=>none
def vV:Code→Nat
 | .seq a b=>vV a+vV b+1
 | .cond _ a b=>vV a+vV b+1
 | .block _ b=>vV b+1
 | .loop b=>vV b+1
 | .scope b=>vV b+1
 |_=>1
structure ae0 where
 old:List (List BR)
 new:List (Bool×List Nat)
structure Yi where
 lp:List La:= []
 tn:List (Nat×ae0):= []
def abj:KC→Option Nat
 | .o _ p=>some p
 | .m _ p=>some p
 | .ptr p _=>some p
 |_=>none
def YT(F:KF)(ks:KS):List BR→Option (List Nat)
 | []=>some []
 |b::r=>match brC F ks b,YT F ks r with
  |some .nil,l=>l
  |some c,some l=>match abj c with
   |some p=>some (p::l)
   |none=>none
  |_,_=>none
def Nx(F:KF)(ks:KS):List (List BR)→Option (List (List Nat))
 | []=>some []
 |b::r=>match YT F ks b,Nx F ks r with
  |some p,some l=>some (p::l)
  |_,_=>none
def vW(ids:List Nat)(ks:KS):KS:={ks with bl:=ids.map (fun p=>(p,.dead))++ks.bl}
def ae1:Option Nat→List Nat
 |some p=> [p]
 |none=> []
def iU(Rl O:List (List Nat))(N:List (Bool×List Nat))(nw:List (Nat×Nat))(i:Nat):List Nat:=
 (Rl.getD i []).flatMap fun j=>O.getD j []++((N.getD j (false,[])).2.flatMap (fun q=>ae1 (ay nw q))++cond (N.getD j (false,[])).1 (ae1 (ay nw j)) [])
def ae2:KC→Option Nat
 | .o _ p=>some p
 | .m _ p=>some p
 |_=>none
def yz(ids:List Nat)(c:KC):Bool:=
 match ae2 c with
 |some p=> !(ids.any (Nat.beq p))
 |none=>true
def BV(ids:List Nat):KD→Bool
 | .one c=>yz ids c
 | .agg cs=>cs.all (yz ids)
 | .tup ts=>ts.all fun x=>x.2.all (yz ids)
def Vj(ids:List Nat):KB→Bool
 | .box cs=>cs.all (yz ids)
 |_=>true
def isM:KB→Bool
 | .mrows _ _=>true
 |_=>false
def Vk(ks0 ks:KS)(p:Nat):Bool:=
 match ay ks0.bl p,ay ks.bl p with
 |some x,some y=>(match x with
  | .dead=>false
  |_=>isM x==isM y)
 |_,_=>false
def Ny(ks:KS)(nw:List (Nat×Nat))(p j:Nat):Bool:=
 (match ay nw j with
  |some q=>Nat.beq p q
  |none=>false)&&(match ay ks.bl p with
  |some y=> !isM y
  |none=>false)
def EO(ks0 ks:KS)(nw:List (Nat×Nat))(p:Nat):List Nat→List Nat→Bool
 | [q],[]=>Nat.beq p q && Vk ks0 ks p
 | [],[j]=>Ny ks nw p j
 |_,_=>false
def EP(ks0 ks:KS)(O:List (List Nat))(N:List (Bool×List Nat))(nw:List (Nat×Nat))(i:Nat)(ids:List Nat)(e:KE):Bool:=
 BV ids e.v &&(match e.upd with
  |none=>(O.getD i []).isEmpty &&(N.getD i (false,[])).2.isEmpty
  |some (p,b)=>Vj ids b && EO ks0 ks nw p (O.getD i []) (N.getD i (false,[])).2)&&(match e.new with
  |none=> !(N.getD i (false,[])).1
  |some b=>(N.getD i (false,[])).1 && Vj ids b && !isM b)
def nwE(e:KE)(i nid:Nat)(nw:List (Nat×Nat)):List (Nat×Nat):=
 match e.new with
 |some _=>(i,nid)::nw
 |none=>nw
def Nz(O:List (List Nat))(N:List (Bool×List Nat))(i:Nat):Bool:=(O.getD i []).isEmpty &&(N.getD i (false,[])).2.isEmpty && !(N.getD i (false,[])).1
def yA(G:KG)(F:KF)(ops:List Oper)(Rl O:List (List Nat))(N:List (Bool×List Nat))(ks0:KS){R:Type}(κ:KS→Option R):Nat→List (Nat×Nat)→List Oper→KS→Option R
 |_,_,[],ks=>κ ks
 |i,nw,o::r,ks=>EL F ops o ks fun w ks=>cond w
   (EK F o.op ks fun op ks=>dw G F (vW (iU Rl O N nw i) ks) ks.nx (ks.nx+1) op fun e=>
    cond (EP ks0 ks O N nw i (iU Rl O N nw i) e) (yA G F ops Rl O N ks0 κ (i+1) (nwE e i (ks.nx+1) nw) r (Nw o.dst ks.nx (ks.nx+1) e ks)) none)
   (cond (Nz O N i) (yA G F ops Rl O N ks0 κ (i+1) nw r (EJ o.dst ks)) none)
def Vm(a b:List Nat):Bool:=a.all fun x=> !(b.any (Nat.beq x))
def djB:List (List Nat)→List (List Nat)→List (List Nat)→Bool
 |o::os,r::rs,O=>(r.all fun j=>Vm o (O.getD j []))&& djB os rs O
 |_,_,_=>true
def HF(ks:KS)(O:List (List Nat)):Bool:=O.all fun l=>l.all fun p=>match ay ks.bl p with
 |some .dead=>false
 |some _=>true
 |none=>false
def iY(G:KG)(A:Yi)(call:EM):Code→(R:Type)→KF→KS→(Ex→KS→Option R)→Option R
 | .skip,_,F,ks,κ=>κ .normal ks
 | .region id ops draw,R,F,ks,κ=>cond draw
   (cond (gp ops) (match ay A.tn id with
    |none=>rq G F ops.toList (κ .normal) ops.toList ks
    |some T=>match Nx F ks T.old with
     |some O=>cond (oO ops T.new && djB O (im ops) O && HF ks O) (yA G F ops.toList (im ops) O T.new ks (κ .normal) 0 [] ops.toList ks) none
     |none=>none) (match pU ops with
    |some m=>cond (nH ops) (rq G F ops.toList (DM G call F ops.toList (κ .normal) (ops.toList.drop m)) (ops.toList.take m) ks) none
    |none=>none))
   (DM G call F ops.toList (κ .normal) ops.toList ks)
 | .seq a b,R,F,ks,κ=>match A.lp.find? fun z=>z.join &&(some z.key==ir a && Nat.beq z.sz (vV a))with
  |none=>iY G A call a R F ks fun e ks=>match e with
   | .normal=>iY G A call b R F ks κ
   |e=>κ e ks
  |some z=>match gL F ks z.head,jN F ks with
   |some cs,true=>cond (sg F ks (aL F ks z cs) z.head && z.exs.all fun x=>sg F ks (aL F ks z cs) x.2) (vS F ks z.head fun x0=>
    let F':=aL F ks z cs
    (iY G A call a (XT z.exs) F' (ct F ks z.head x0) fun e ks2=>cond (jN F' ks2) (vU F' ks2 e z.exs some) none).bind fun y=>afterX F ks z.keep (eO F ks z cs) z.exs y fun e ks=>match e with
     | .normal=>iY G A call b R F ks κ
     |e=>κ e ks) none
   |_,_=>none
 | .cond c a b,R,F,ks,κ=>match kO F ks c with
  |some (.one c)=>kIf c ks fun t ks=>cond t (iY G A call a R F ks κ) (iY G A call b R F ks κ)
  |_=>none
 | .block id b,R,F,ks,κ=>iY G A call b R F ks fun e ks=>κ (cond (vT e (.exit id)) .normal e) ks
 | .loop b,R,F,ks,κ=>match A.lp.find? fun a=> !a.join && some a.key==ir b with
  |none=>none
  |some a=>match gL F ks a.head,jN F ks with
   |some cs,true=>cond (sg F ks (aL F ks a cs) a.head && a.exs.all fun x=>sg F ks (aL F ks a cs) x.2 && !vT x.1 .normal) (vS F ks a.head fun x0=>
    let F':=aL F ks a cs
    (aM (fun x=>iY G A call b (eN a.head.sh ⊕ XT a.exs) F' (ct F ks a.head x) fun e ks2=>cond (jN F' ks2) (match e with
     | .normal=>vS F' ks2 a.head fun y=>some (.inl y)
     |e=>vU F' ks2 e a.exs fun y=>some (.inr y)) none) x0).bind fun y=>afterX F ks a.keep (eO F ks a cs) a.exs y κ) none
   |_,_=>none
 | .exit id,_,F,ks,κ=>κ (.exit id) ks
 | .ret,_,F,ks,κ=>κ .ret ks
 | .label _,_,F,ks,κ=>κ .normal ks
 | .scope b,R,F,ks,κ=>iY G A call b R F ks κ
 |_,_,_,_,_=>none
def DN:Nat→List KD→List (Nat×KD)
 |_,[]=> []
 |i,d::r=>(i,d)::DN (i+1) r
def tupK:List KD→Option KD
 | [d]=>some d
 |ds=>(tups ds).map .tup
where
 tups:List KD→Option (List (Bool×List KC))
  | []=>some []
  | .one c::r=>(tups r).map ((false,[c])::·)
  | .agg cs::r=>(tups r).map ((true,cs)::·)
  |_=>none
def HG(G:KG)(F:KF)(ks:KS):List ResultVar→{R:Type}→(List KD→Option R)→Option R
 | [],_,κ=>κ []
 | .tmp t::r,_,κ=>(nb F ks t).bind fun d=>HG G F ks r fun l=>κ (d::l)
 | .cell a ty::r,_,κ=>match Vg G.ti ty,nb F ks a with
  |some z,some d=>ku F ks z d fun v=>HG G F ks r fun l=>κ (v::l)
  |_,_=>none
def yB:Ex→Bool
 | .exit _=>false
 |_=>true
abbrev cY:=List (FuncId×Yi)
def YU(A:cY)(k:FuncId):Yi:=
 match ay A k with
 |some l=>l
 |none=>{}
def Lb(G:KG)(A:cY):Nat→EM
 |0,_,_,_,_,_,_=>none
 |n+1,R,F,k,args,ks,κ=>match ay G.fi k with
  |some f=>if args.length≤f.nt then iY G (YU A k) (Lb G A n) f.body R {F with sl:= [],nt:=f.nt} {ks with sl:=DN 0 args} fun e ks2=>cond (yB e) (HG G {F with sl:= [],nt:=f.nt} ks2 f.results fun ds=>(tupK ds).bind fun d=>κ d ks2) none else none
  |none=>none
def frD:KD→Bool
 | .one c=>frC c
 | .agg cs=>cs.all frC
 | .tup _=>false
def xv:List KD→Bool
 | [.one (.o _ _)]=>true
 | [.one (.m _ _)]=>true
 |_=>false
def Vn(B:Nat→Option KB)(e:Ty):List KD→Option (List e.val)
 | [.one (.o _ p)]=>match B p with
  |some (.rows e' _ l)=>if e.plain then(jq (.S e') (.S e) ⟨true,0,l⟩).map (·.l)else none
  |_=>none
 |_=>none
def OP(B:Nat→Option KB)(e:Ty):List KD→Option (List e.val)
 | [.one .nil]=>some []
 | [.one (.m _ p)]=>match B p with
  |some (.mrows e' l)=>if e.plain then(jq (.S e') (.S e) ⟨true,0,l⟩).map (·.l)else none
  |_=>none
 | [.one (.o _ p)]=>match B p with
  |some (.rows e' ne l)=>if e.plain && ne then(jq (.S e') (.S e) ⟨true,0,l⟩).map (·.l)else none
  |_=>none
 |_=>none
def OQ(B:Nat→Option KB)(e:Ty):List KD→Option (Sl e.val)
 | [.one .nil]=>some ⟨false,0,[]⟩
 | [.one (.m _ p)]=>match B p with
  |some (.mrows e' l)=>if e.plain then(jq (.S e') (.S e) ⟨true,0,l⟩).map (fun s=>mo e.size s.l)else none
  |_=>none
 | [.one (.o _ p)]=>match B p with
  |some (.rows e' ne l)=>if e.plain then(jq (.S e') (.S e) ⟨true,0,l⟩).map (fun s=>⟨true,e.size,s.l⟩)else none
  |_=>none
 |_=>none
def HH(B:Nat→Option KB):(o:OutK)→List KD→Option o.val
 | .data fr ts,ds=>if xv ds||(fr && !(ds.all frD))then none else nM B ts ds
 | .own e,ds=>Vn B e ds
 | .mown e,ds=>OP B e ds
 | .gown e,ds=>OQ B e ds
def OR(ts:List TyD)(x:vals ts):List (Nat×KD):=DN 0 ((rm false ts x).map mkD)
def dz(G:KG)(A:cY)(f:FI)(k:FuncId)(n:Nat)(ins:List TyD)(out:OutK)(x:vals ins):Option out.val:=
 iY G (YU A k) (Lb G A n) f.body out.val {nt:=f.nt} {sl:=OR ins x,bl:= [],nx:=0} fun e ks=>cond (yB e) (HG G {nt:=f.nt} ks f.results fun ds=>HH (aJ {nt:=f.nt} ks) out ds) none
end K
end Ev
end
noncomputable section
namespace Ev
namespace K
open Go Go.RowKit
structure Vl where
 id:Nat→Nat
 bo:Nat→Bool
def KB.there:KB→Prop
 | .dead=>False
 | .mrows _ l=>l≠[]
 |_=>True
abbrev BK:=Nat→Option KB
def RC(B:BK)(V:Vl):KC→C→Prop
 | .n k x,c=>c=iC k x
 | .b v,c=>c=bC v
 | .p tag P d,c=>c=bC (V.bo tag)∧V.bo tag= @decide P d
 | .bv x,c=>c=bC x
 | .v x,c=>c= .p true (.v x)
 | .nil,c=>c= .p true (.s false 0 [])
 | .s e fr x,c=>∃f,c= .p f (Sl.t e.row x)∧(fr=true→f=true)
 | .o e p,c=>∀e' ne l,B p=some (.rows e' ne l)→c= .own (V.id p) 0 l.length
 | .m e p,c=>∀e' l,B p=some (.mrows e' l)→c=moC l (V.id p)
 | .ptr p j,c=>c= .ptr (V.id p) 0 j
 | .pe p i j,c=>0≤i∧c= .ptr (V.id p) i.toNat j
 | .ip e fr x i y j,c=>∃f,c= .iptr f x.sz (x.l.map e.row) i.toNat j∧x.l[i.toNat]? =some y∧(fr=true→f=true)
 | .clo fn ps,c=>c= .clo (.func fn) [] (ps.map fun p=> .ptr (V.id p) 0 0)
 | .yld p,c=>c= .yld (V.id p)
def Sc(N:Nat):KC→Prop
 | .p tag _ _=>tag<N
 | .o _ p=>p<N
 | .m _ p=>p<N
 | .ptr p _=>p<N
 | .pe p _ _=>p<N
 | .yld p=>p<N
 | .clo _ ps=>∀p∈ps,p<N
 |_=>True
def RCs(B:BK)(V:Vl):List KC→List C→Prop
 | [],cs=>cs= []
 |k::r,cs=>∃c s,cs=c::s∧RC B V k c∧RCs B V r s
def Scs(N:Nat)(l:List KC):Prop:=∀c∈l,Sc N c
def RD1(B:BK)(V:Vl)(k:KD)(d:D):Prop:=
 match k with
 | .one c=>∃c',d= .one c'∧RC B V c c'
 | .agg cs=>∃cs',d= .agg cs'∧RCs B V cs cs'
 | .tup _=>False
def RTs(B:BK)(V:Vl):List (Bool×List KC)→List D→Prop
 | [],ds=>ds= []
 |x::r,ds=>∃d s,ds=d::s∧RD1 B V (mkD x) d∧RTs B V r s
def RD(B:BK)(V:Vl)(k:KD)(d:D):Prop:=
 match k with
 | .tup ts=>∃ds,d= .tup ds∧RTs B V ts ds
 |k=>RD1 B V k d
def ScD(N:Nat):KD→Prop
 | .one c=>Sc N c
 | .agg cs=>Scs N cs
 | .tup ts=>∀x∈ts,Scs N x.2
def BlkIs(B:BK)(V:Vl)(x:Blk):KB→Prop
 | .box cs=>∃sz cs',x= .own sz [cs']∧RCs B V cs cs'
 | .rows e ne l=>x= .own e.size (l.map (aT e.row))∧(ne=true→l≠[])
 | .mrows e l=>x= .own e.size (l.map (aT e.row))
 | .dead=>x= .dead
def RB(B:BK)(V:Vl)(h:Heap)(k:Nat):KB→Prop
 | .box cs=>∃sz cs',aG h k=some (sz,[cs'])∧RCs B V cs cs'
 | .rows e ne l=>aG h k=some (e.size,l.map (aT e.row))∧(ne=true→l≠[])
 | .mrows e l=>l≠[]→aG h k=some (e.size,l.map (aT e.row))
 | .dead=>True
def ScB(N:Nat):KB→Prop
 | .box cs=>Scs N cs
 |_=>True
structure Rel(F:KF)(ks:KS)(V:Vl)(f:Nat→D)(h:Heap):Prop where
 sl:∀i d,nb F ks i=some d→i<F.nt∧ScD ks.nx d∧RD (aJ F ks) V d (f i)
 bl:∀p b,aJ F ks p=some b→p<ks.nx∧ScB ks.nx b∧RB (aJ F ks) V h (V.id p) b
 inj:∀p q b b',aJ F ks p=some b→aJ F ks q=some b'→b.there→b'.there→V.id p=V.id q→p=q
def LeB(N:Nat)(B B':BK):Prop:=∀p,p<N→(∀e ne l',B' p=some (.rows e ne l')→∃e0 ne0 l0,B p=some (.rows e0 ne0 l0)∧l0.length=l'.length)∧∀e l',B' p=some (.mrows e l')→∃e0 l0,B p=some (.mrows e0 l0)∧l0.length=l'.length
def Agree(N:Nat)(V V':Vl):Prop:=∀q,q<N→V'.id q=V.id q∧V'.bo q=V.bo q
theorem LeB.refl(N:Nat)(B:BK):LeB N B B:=fun p hp=>⟨fun e ne l h=>⟨e,ne,l,h,rfl⟩,fun e l h=>⟨e,l,h,rfl⟩⟩
theorem LeB.trans{N M:Nat}{B B' B'':BK}(h:LeB N B B')(h':LeB M B' B'')(hn:N≤M):LeB N B B'':=fun p hp=>⟨fun e ne l hl=>by
  obtain⟨e1,n1,l1,h1,h2⟩:=(h' p (by omega)).1 e ne l hl;obtain⟨e0,n0,l0,h3,h4⟩:=(h p hp).1 _ _ _ h1
  exact⟨e0,n0,l0,h3,h4.trans h2⟩,fun e l hl=>by
  obtain⟨e1,l1,h1,h2⟩:=(h' p (by omega)).2 e l hl;obtain⟨e0,l0,h3,h4⟩:=(h p hp).2 _ _ h1
  exact⟨e0,l0,h3,h4.trans h2⟩⟩
theorem Agree.refl(N:Nat)(V:Vl):Agree N V V:=fun q hq=>⟨rfl,rfl⟩
theorem Agree.trans{N M:Nat}{V V' V'':Vl}(h:Agree N V V')(h':Agree M V' V'')(hn:N≤M):Agree N V V'':=fun q hq=>⟨((h' q (by omega)).1).trans (h q hq).1,((h' q (by omega)).2).trans (h q hq).2⟩
theorem Yj{α β:Type}{l:List α}{m:List β}{k:Nat}(h:l.length=m.length):moC l k=moC m k:=by
 cases l with
 |nil=>cases m with
  |nil=>rfl
  |cons b m=>simp at h
 |cons a l=>cases m with
  |nil=>simp at h
  |cons b m=>show C.own k 0 _=C.own k 0 _;rw [h]
section
variable {N : Nat} {B B' : BK} {V V' : Vl}
theorem RC.mono{c:KC}{x:C}(hs:Sc N c)(hb:LeB N B B')(ha:Agree N V V')(h:RC B V c x):RC B' V' c x:=by
 cases c with
 |n k y=>exact h
 |b v=>exact h
 |p tag P d=>have:=(ha tag hs).2;exact⟨by rw [this];exact h.1,by rw [this];exact h.2⟩
 |bv y=>exact h
 |v y=>exact h
 |nil=>exact h
 |s e fr y=>exact h
 |o e p=>
  intro e' ne l hl;obtain⟨e0,n0,l0,h1,h2⟩:=(hb p hs).1 e' ne l hl;rw [(ha p hs).1,←h2];exact h e0 n0 l0 h1
 |m e p=>
  intro e' l hl;obtain⟨e0,l0,h1,h2⟩:=(hb p hs).2 e' l hl;rw [(ha p hs).1,←Yj h2];exact h e0 l0 h1
 |ptr p j=>show x=_;rw [(ha p hs).1];exact h
 |pe p i j=>exact⟨h.1,by rw [(ha p hs).1];exact h.2⟩
 |ip e fr y i z j=>exact h
 |clo fn ps=>
  show x=_
  have:(ps.map fun p=>C.ptr (V'.id p) 0 0)=ps.map fun p=> .ptr (V.id p) 0 0:=List.map_congr_left fun p hp=>by rw [(ha p (hs p hp)).1]
  rw [this];exact h
 |yld p=>show x=_;rw [(ha p hs).1];exact h
theorem RCs.mono:∀{l:List KC} {xs:List C},Scs N l→LeB N B B'→Agree N V V'→RCs B V l xs→RCs B' V' l xs
 | [],xs,hs,hb,ha,h=>h
 |c::l,xs,hs,hb,ha,⟨x,s,h1,h2,h3⟩=>⟨x,s,h1,h2.mono (hs c (by simp)) hb ha,h3.mono (fun y hy=>hs y (by simp [hy])) hb ha⟩
theorem zy{x:Bool×List KC}(hs:Scs N x.2):ScD N (mkD x):=by
 obtain⟨b,cs⟩:=x
 cases b with
 |true=>exact hs
 |false=>match cs,hs with
  | [],hs=>exact hs
  | [c],hs=>exact hs c (by simp)
  |c::d::r,hs=>exact hs
theorem RD1.mono{k:KD}{d:D}(hs:ScD N k)(hb:LeB N B B')(ha:Agree N V V')(h:RD1 B V k d):RD1 B' V' k d:=by
 cases k with
 |one c=>obtain⟨c',h1,h2⟩:=h;exact⟨c',h1,h2.mono hs hb ha⟩
 |agg cs=>obtain⟨c',h1,h2⟩:=h;exact⟨c',h1,h2.mono hs hb ha⟩
 |tup ts=>exact h
theorem RTs.mono:∀{l:List (Bool×List KC)} {xs:List D},(∀x∈l,Scs N x.2)→LeB N B B'→Agree N V V'→RTs B V l xs→RTs B' V' l xs
 | [],xs,hs,hb,ha,h=>h
 |c::l,xs,hs,hb,ha,⟨x,s,h1,h2,h3⟩=>⟨x,s,h1,h2.mono (zy (hs c (by simp))) hb ha,h3.mono (fun y hy=>hs y (by simp [hy])) hb ha⟩
theorem RD.mono{k:KD}{d:D}(hs:ScD N k)(hb:LeB N B B')(ha:Agree N V V')(h:RD B V k d):RD B' V' k d:=by
 cases k with
 |one c=>exact RD1.mono (k:= .one c) hs hb ha h
 |agg cs=>exact RD1.mono (k:= .agg cs) hs hb ha h
 |tup ts=>obtain⟨ds,h1,h2⟩:=h;exact⟨ds,h1,h2.mono hs hb ha⟩
theorem RB.mono{h:Heap}{k:Nat}{b:KB}(hs:ScB N b)(hb:LeB N B B')(ha:Agree N V V')(hr:RB B V h k b):RB B' V' h k b:=by
 cases b with
 |box cs=>obtain⟨sz,cs',h1,h2⟩:=hr;exact⟨sz,cs',h1,h2.mono hs hb ha⟩
 |rows e ne l=>exact hr
 |mrows e l=>exact hr
 |dead=>trivial
theorem RB.heap{h h':Heap}{k:Nat}{b:KB}(hh:aG h' k=aG h k)(hr:RB B V h k b):RB B V h' k b:=by
 cases b with
 |box cs=>obtain⟨sz,cs',h1,h2⟩:=hr;exact⟨sz,cs',hh.trans h1,h2⟩
 |rows e ne l=>exact⟨hh.trans hr.1,hr.2⟩
 |mrows e l=>exact fun hl=>hh.trans (hr hl)
 |dead=>trivial
end
theorem Sc.mono{N M:Nat}(hn:N≤M){c:KC}(h:Sc N c):Sc M c:=by
 cases c with
 |p tag P d=>exact Nat.lt_of_lt_of_le h hn
 |o e p=>exact Nat.lt_of_lt_of_le h hn
 |m e p=>exact Nat.lt_of_lt_of_le h hn
 |ptr p j=>exact Nat.lt_of_lt_of_le h hn
 |pe p i j=>exact Nat.lt_of_lt_of_le h hn
 |yld p=>exact Nat.lt_of_lt_of_le h hn
 |clo fn ps=>exact fun p hp=>Nat.lt_of_lt_of_le (h p hp) hn
 |_=>trivial
theorem Scs.mono{N M:Nat}(hn:N≤M){l:List KC}(h:Scs N l):Scs M l:=fun c hc=>(h c hc).mono hn
theorem ScD.mono{N M:Nat}(hn:N≤M){d:KD}(h:ScD N d):ScD M d:=by
 cases d with
 |one c=>exact Sc.mono hn h
 |agg cs=>exact Scs.mono hn h
 |tup ts=>exact fun x hx=>(h x hx).mono hn
theorem ScB.mono{N M:Nat}(hn:N≤M){b:KB}(h:ScB N b):ScB M b:=by
 cases b with
 |box cs=>exact Scs.mono hn h
 |_=>trivial
theorem cg{t t':Ty}{x:t.val}{y:t'.val}(h:jq t t' x=some y):∃e:t=t',e▸x=y:=by
 unfold jq at h;split at h
 ·rename_i e;exact⟨e,Option.some.inj h⟩
 ·simp at h
theorem zA:∀(e:Ty) (x:e.val),(e.row x).length=e.size
 | .I _,_=>rfl
 | .B,_=>rfl
 | .S _,_=>rfl
 | .U,_=>rfl
 | .C a b,x=>by
  show(a.row x.1++b.row x.2).length=a.size+b.size;rw [List.length_append,zA a,zA b]
theorem tY(fr:Bool):∀(e:Ty) (x:e.val),(dW fr e x).length=e.size
 | .I _,_=>rfl
 | .B,_=>rfl
 | .S _,_=>rfl
 | .U,_=>rfl
 | .C a b,x=>by
  show(dW fr a x.1++dW fr b x.2).length=a.size+b.size;rw [List.length_append,tY fr a,tY fr b]
theorem gT(N:Nat)(fr:Bool):∀(e:Ty) (x:e.val),Scs N (dW fr e x)
 | .I _,_=>fun c hc=>by rw [List.mem_singleton.1 hc];trivial
 | .B,_=>fun c hc=>by rw [List.mem_singleton.1 hc];trivial
 | .S _,_=>fun c hc=>by rw [List.mem_singleton.1 hc];trivial
 | .U,_=>fun c hc=>by simp [dW]at hc
 | .C a b,x=>fun c hc=>by
  rcases List.mem_append.1 (show c∈dW fr a x.1++dW fr b x.2 from hc)with h|h
  ·exact gT N fr a x.1 c h
  ·exact gT N fr b x.2 c h
section
variable {B : BK} {V : Vl}
theorem RCs.append:∀{k1 k2:List KC} {c1 c2:List C},RCs B V k1 c1→RCs B V k2 c2→RCs B V (k1++k2) (c1++c2)
 | [],k2,c1,c2,h1,h2=>by rw [show c1= []from h1];exact h2
 |k::k1,k2,c1,c2,⟨c,s,e1,h1,h3⟩,h2=>⟨c,s++c2,by rw [e1];rfl,h1,h3.append h2⟩
theorem RCs.len:∀{k:List KC} {c:List C},RCs B V k c→c.length=k.length
 | [],c,h=>by rw [show c= []from h];rfl
 |_::k,c,⟨x,s,e,_,h⟩=>by rw [e,List.length_cons,List.length_cons,h.len]
theorem RCs.drop:∀{k:List KC} {c:List C} (n:Nat),RCs B V k c→RCs B V (k.drop n) (c.drop n)
 |k,c,0,h=>h
 | [],c,n+1,h=>by rw [show c= []from h];exact rfl
 |_::k,c,n+1,⟨x,s,e,_,h⟩=>by rw [e];exact h.drop n
theorem RCs.take:∀{k:List KC} {c:List C} (n:Nat),RCs B V k c→RCs B V (k.take n) (c.take n)
 |k,c,0,h=>rfl
 | [],c,n+1,h=>by rw [show c= []from h];exact rfl
 |_::k,c,n+1,⟨x,s,e,h1,h⟩=>⟨x,s.take n,by rw [e];rfl,h1,h.take n⟩
theorem RCs.cut{k k2:List KC}{c:List C}{i n:Nat}(h:RCs B V k c)(hk:Ev.cut k i n=some k2):∃c2,Ev.cut c i n=some c2∧RCs B V k2 c2:=by
 unfold Ev.cut at hk ⊢;split at hk
 ·rename_i hl;rw [if_pos (by rw [h.len];exact hl)];refine⟨_,rfl,?_⟩;rw [←Option.some.inj hk];exact(h.drop i).take n
 ·simp at hk
theorem RCs.patch{k k2 x:List KC}{c y:List C}{i:Nat}(h:RCs B V k c)(hx:RCs B V x y)(hk:Ev.patch k i x=some k2):∃c2,Ev.patch c i y=some c2∧RCs B V k2 c2:=by
 unfold Ev.patch at hk ⊢;split at hk
 ·rename_i hl;rw [if_pos (by rw [h.len,hx.len];exact hl)];refine⟨_,rfl,?_⟩;rw [←Option.some.inj hk,hx.len];exact((h.take i).append hx).append (h.drop _)
 ·simp at hk
theorem lC{N:Nat}{k k2:List KC}{i n:Nat}(h:Scs N k)(hk:Ev.cut k i n=some k2):Scs N k2:=by
 unfold Ev.cut at hk;split at hk
 ·rw [←Option.some.inj hk];exact fun c hc=>h c (List.mem_of_mem_drop (List.mem_of_mem_take hc))
 ·simp at hk
theorem EQ{N:Nat}{k k2 x:List KC}{i:Nat}(h:Scs N k)(hx:Scs N x)(hk:Ev.patch k i x=some k2):Scs N k2:=by
 unfold Ev.patch at hk;split at hk
 ·rw [←Option.some.inj hk];intro c hc;simp only [List.mem_append]at hc;rcases hc with(hc|hc)|hc
  ·exact h c (List.mem_of_mem_take hc)
  ·exact hx c hc
  ·exact h c (List.mem_of_mem_drop hc)
 ·simp at hk
theorem fP{fr f:Bool}(hf:fr=true→f=true):∀(e:Ty) (x:e.val),RCs B V (dW fr e x) ((e.row x).map (pC f))
 | .I _,_=>⟨_,_,rfl,rfl,rfl⟩
 | .B,_=>⟨_,_,rfl,rfl,rfl⟩
 | .S e,x=>⟨_,_,rfl,⟨f,rfl,hf⟩,rfl⟩
 | .U,_=>rfl
 | .C a b,x=>by
  show RCs B V (dW fr a x.1++dW fr b x.2) ((a.row x.1++b.row x.2).map (pC f));rw [List.map_append];exact(fP hf a x.1).append (fP hf b x.2)
theorem RCs.one{c:KC}{x:C}(h:RC B V c x):RCs B V [c] [x]:=⟨x,[],rfl,h,rfl⟩
theorem RCs.one_inv{c:KC}{xs:List C}(h:RCs B V [c] xs):∃x,xs= [x]∧RC B V c x:=by
 obtain⟨x,s,e,h1,h2⟩:=h;exact⟨x,by rw [e,show s= []from h2],h1⟩
theorem tZ{e:Ty}{c:KC}{x:e.val}{y:C}(h:pN noB e c=some x)(hf:frC c=true)(hr:RC B V c y): [y]=(e.row x).map (pC true):=by
 unfold pN at h;split at h
 ·rename_i k k' z;split at h
  ·rename_i hk;subst hk;rw [←Option.some.inj h];rw [show y=_ from hr];rfl
  ·simp at h
 ·rw [←Option.some.inj h,show y=_ from hr];rfl
 ·rename_i tag P d;rw [←Option.some.inj h,hr.1,hr.2];rfl
 ·rw [←Option.some.inj h,show y=_ from hr];rfl
 ·rw [←Option.some.inj h,show y=_ from hr];rfl
 ·rename_i e0 e' fr z;obtain⟨he,hx⟩:=cg h;cases he;obtain⟨f,h1,h2⟩:=hr;rw [←hx,h1,h2 hf];rfl
 ·simp [noB]at h
 ·simp [noB]at h
 ·simp at h
theorem rV:∀{e:Ty} {cs:List KC} {x:e.val} {ys:List C},dec noB e cs=some x→cs.all frC=true→RCs B V cs ys→ys=(e.row x).map (pC true):=by
 intro e
 induction e with
 |C a b iha ihb=>
  intro cs x ys h hf hr;unfold dec at h;simp only [zbE]at h;obtain⟨x1,h1,y1,h2,h3⟩:=h
  have:=Option.some.inj h3
  subst this;have e1:=iha h1 (List.all_eq_true.2 fun c hc=>List.all_eq_true.1 hf c (List.mem_of_mem_take hc)) (hr.take a.size);have e2:=ihb h2 (List.all_eq_true.2 fun c hc=>List.all_eq_true.1 hf c (List.mem_of_mem_drop hc)) (hr.drop a.size);show ys=(a.row x1++b.row y1).map (pC true);rw [List.map_append,←e1,←e2,List.take_append_drop]
 |U=>
  intro cs x ys h hf hr
  cases cs with
  |nil=>rw [show ys= []from hr];rfl
  |cons c r=>cases r with
   |nil=>simp [dec,pN]at h
   |cons d r=>simp [dec]at h
 |_=>
  intro cs x ys h hf hr
  cases cs with
  |nil=>simp [dec]at h
  |cons c r=>cases r with
   |nil=>
    obtain⟨y,rfl,hy⟩:=hr.one_inv;exact tZ (by simpa [dec]using h) (by simpa using hf) hy
   |cons d r=>simp [dec]at h
end
end K
end Ev
end
noncomputable section
namespace Ev
namespace K
open Go Go.RowKit
def RDl(B:BK)(V:Vl):List KD→List D→Prop
 | [],ds=>ds= []
 |k::r,ds=>∃d s,ds=d::s∧RD B V k d∧RDl B V r s
theorem Vo{B:BK}{V:Vl}(v:Value):RC B V (kC v) (mr v):=by
 unfold kC;split
 ·rfl
 ·rfl
 ·rfl
 ·rename_i h1 h2 h3;unfold mr;split
  ·exact absurd rfl h3
  ·rfl
theorem YV(N:Nat)(v:Value):Sc N (kC v):=by
 unfold kC;split<;>trivial
theorem rW{B:BK}{V:Vl}:∀l:List Value,RCs B V (l.map kC) (l.map mr)
 | []=>rfl
 |v::l=>⟨_,_,rfl,Vo v,rW l⟩
theorem HI(N:Nat)(l:List Value):Scs N (l.map kC):=fun c hc=>by
 obtain⟨v,_,rfl⟩:=List.mem_map.1 hc;exact YV N v
theorem NA{B:BK}{V:Vl}{v:Value}{d:KD}(h:xt v=some d):∃d',sV v=some d'∧RD B V d d':=by
 unfold xt at h;split at h
 ·rename_i cs;split at h
  ·rename_i ha;rw [←Option.some.inj h];refine⟨.agg (cs.toList.map mr),?_,_,rfl,rW _⟩;unfold sV;simp only;rw [if_pos ha]
  ·simp at h
 ·simp at h
 ·rename_i h1 h2;rw [←Option.some.inj h];refine⟨.one (mr v),?_,_,rfl,Vo v⟩;unfold sV;split
  ·exact absurd rfl (h1 _)
  ·exact absurd rfl (h2 _)
  ·rfl
theorem QF{N:Nat}{v:Value}{d:KD}(h:xt v=some d):ScD N d:=by
 unfold xt at h;split at h
 ·split at h
  ·rw [←Option.some.inj h];exact HI N _
  ·simp at h
 ·simp at h
 ·rw [←Option.some.inj h];exact YV N _
section
variable {F : KF} {ks : KS} {V : Vl} {f : Nat → D} {h : Heap}
theorem NB{a b:Nat}(h:a<b):Nat.blt a b=true:=by simpa using h
theorem cr(hr:Rel F ks V f h){x:Operand}{d:KD}(hx:kO F ks x=some d):∃d',ov F.nt f x=some d'∧ScD ks.nx d∧RD (aJ F ks) V d d':=by
 cases x with
 |tmp i=>
  obtain⟨h1,h2,h3⟩:=hr.sl i d hx;refine⟨f i,?_,h2,h3⟩;show cond (Nat.blt i F.nt) (some (f i)) none=_;rw [NB h1];rfl
 |const v=>
  obtain⟨d',h1,h2⟩:=NA (B:=aJ F ks) (V:=V) (show xt v=some d from hx);exact⟨d',h1,QF hx,h2⟩
 |global g=>simp [kO]at hx
 |func k=>
  have:=Option.some.inj (show some (KD.one (.v (.func (.func k) #[] #[])))=some d from hx)
  subst this;exact⟨_,rfl,trivial,_,rfl,rfl⟩
theorem BW(hr:Rel F ks V f h):∀{l:List Operand} {ds:List KD},mu F ks l=some ds→∃ds',l.mapM (ov F.nt f)=some ds'∧(∀d∈ds,ScD ks.nx d)∧RDl (aJ F ks) V ds ds'
 | [],ds,hx=>by
  have:=Option.some.inj (show some []=some ds from hx)
  subst this;exact⟨[],rfl,by simp,rfl⟩
 |x::l,ds,hx=>by
  simp only [mu,zbE]at hx;obtain⟨d,h1,r,h2,h3⟩:=hx
  have:=Option.some.inj h3
  subst this;obtain⟨d',g1,g2,g3⟩:=cr hr h1;obtain⟨r',e1,e2,e3⟩:=BW hr h2;refine⟨d'::r',by rw [List.mapM_cons,g1,e1];rfl,?_,d',r',rfl,g3,e3⟩;intro y hy;rcases List.mem_cons.1 hy with rfl|hy
  ·exact g2
  ·exact e2 y hy
theorem xw(hr:Rel F ks V f h):∀{l:List (Nat×Operand)} {ps:List (Nat×KD)},BO F ks l=some ps→∃ps',zx F.nt f l=some ps'∧(∀x∈ps,ScD ks.nx x.2)∧ps'.map (·.1)=ps.map (·.1)∧RDl (aJ F ks) V (ps.map (·.2)) (ps'.map (·.2))
 | [],ps,hx=>by
  have:=Option.some.inj (show some []=some ps from hx)
  subst this;exact⟨[],rfl,by simp,rfl,rfl⟩
 |(i,x)::l,ps,hx=>by
  simp only [BO,zbE]at hx;obtain⟨d,h1,r,h2,h3⟩:=hx
  have:=Option.some.inj h3
  subst this;obtain⟨d',g1,g2,g3⟩:=cr hr h1;obtain⟨r',e1,e2,e3,e4⟩:=xw hr h2;refine⟨(i,d')::r',?_,?_,?_,?_⟩
  ·unfold zx at e1 ⊢;rw [List.mapM_cons,e1];simp only [g1,Option.map_some,zbB,zbS,Option.pure_def]
  ·intro y hy;rcases List.mem_cons.1 hy with rfl|hy
   ·exact g2
   ·exact e2 y hy
  ·simp only [List.map_cons,e3]
  ·exact⟨d',r'.map (·.2),rfl,g3,e4⟩
def Bls(B:BK)(V:Vl)(h:Heap):Prop:=∀p b,B p=some b→RB B V h (V.id p) b
theorem Rel.bls(hr:Rel F ks V f h):Bls (aJ F ks) V h:=fun p b hb=>(hr.bl p b hb).2.2
theorem lb{k sz:Nat}{es:List (List C)}(hg:aG h k=some (sz,es)):HB h [[(k,sz,es)]]:=⟨by simp,fun x hx=>by simp at hx;subst hx;exact hg⟩
theorem bh:HB h []:=⟨List.nodup_nil,fun x hx=>by simp at hx⟩
theorem BX{r:List T}(m:Nat):(r.map (pC true)).mapM (gh h (m+1))=some (r.map fun t=>(true,t)):=by
 induction r with
 |nil=>rfl
 |cons t r ih=>
  rw [List.map_cons,List.mapM_cons,ih];cases t<;>rfl
theorem Lc{B:BK}{e:Ty}{c:KC}{x:e.val}{y:C}(hB:Bls B V h)(hd:pN B e c=some x)(hr:RC B V c y):∃fl t,(∀m,gh h (m+2) y=some (fl,t))∧[t]=e.row x∧(frC c=true→fl=true):=by
 unfold pN at hd;split at hd
 ·rename_i k k' z;split at hd
  ·rename_i hk;subst hk;rw [←Option.some.inj hd,show y=_ from hr];exact⟨true,_,fun m=>rfl,rfl,fun _=>rfl⟩
  ·simp at hd
 ·rw [←Option.some.inj hd,show y=_ from hr];exact⟨true,_,fun m=>rfl,rfl,fun _=>rfl⟩
 ·rename_i tag P d;rw [←Option.some.inj hd,hr.1,hr.2];exact⟨true,_,fun m=>rfl,rfl,fun _=>rfl⟩
 ·rw [←Option.some.inj hd,show y=_ from hr];exact⟨true,_,fun m=>rfl,rfl,fun _=>rfl⟩
 ·rw [←Option.some.inj hd,show y=_ from hr];exact⟨true,_,fun m=>rfl,rfl,fun _=>rfl⟩
 ·rename_i e0 e' fr z;obtain⟨he,hx⟩:=cg hd;cases he;obtain⟨fl,h1,h2⟩:=hr;rw [←hx,h1];exact⟨fl,_,fun m=>rfl,rfl,h2⟩
 ·rename_i e0 e1 p;split at hd
  ·rename_i e' ne l hp;obtain⟨he,hx⟩:=cg hd;cases he;have h1:=hr _ _ _ hp;have h2:=(hB p _ hp).1;rw [←hx,h1];exact⟨true,_,fun m=>kA (r:=Ty.row _) (L:= [[(V.id p,_,l.map (aT (Ty.row _)))]]) 0 rfl (fun x h m=>BX m) h (lb h2) m,rfl,fun _=>rfl⟩
  ·simp at hd
 ·rename_i e0 e1 p;split at hd
  ·rename_i e' l hp;obtain⟨he,hx⟩:=cg hd;cases he;have h1:=hr _ _ hp;rw [←hx,h1]
   cases l with
   |nil=>exact⟨true,_,fun m=>rfl,rfl,fun _=>rfl⟩
   |cons a l=>
    have h2:=hB p _ hp (by simp);exact⟨true,_,fun m=>kA (r:=Ty.row _) (L:= [[(V.id p,_,(a::l).map (aT (Ty.row _)))]]) 0 rfl (fun x h m=>BX m) h (lb h2) m,rfl,fun _=>rfl⟩
  ·simp at hd
 ·simp at hd
theorem QG{B:BK}(hB:Bls B V h):∀{e:Ty} {cs:List KC} {x:e.val} {ys:List C},dec B e cs=some x→RCs B V cs ys→∃l,(∀m,ys.mapM (gh h (m+2))=some l)∧l.map (·.2)=e.row x∧(cs.all frC=true→l.all (·.1)=true):=by
 intro e
 induction e with
 |C a b iha ihb=>
  intro cs x ys hd hr;unfold dec at hd;simp only [zbE]at hd;obtain⟨x1,h1,y1,h2,h3⟩:=hd
  have:=Option.some.inj h3
  subst this;obtain⟨l1,e1,e2,e3⟩:=iha h1 (hr.take a.size);obtain⟨l2,g1,g2,g3⟩:=ihb h2 (hr.drop a.size);refine⟨l1++l2,fun m=> ?_,?_,fun hf=> ?_⟩
  ·have:ys=ys.take a.size++ys.drop a.size:=(List.take_append_drop _ _).symm
   rw [this,List.mapM_append,e1 m,g1 m];rfl
  ·rw [List.map_append,e2,g2];rfl
  ·rw [List.all_append,e3 (List.all_eq_true.2 fun c hc=>List.all_eq_true.1 hf c (List.mem_of_mem_take hc)),g3 (List.all_eq_true.2 fun c hc=>List.all_eq_true.1 hf c (List.mem_of_mem_drop hc))];rfl
 |U=>
  intro cs x ys hd hr
  cases cs with
  |nil=>rw [show ys= []from hr];exact⟨[],fun m=>rfl,rfl,fun _=>rfl⟩
  |cons c r=>cases r with
   |nil=>simp [dec,pN]at hd
   |cons d r=>simp [dec]at hd
 |_=>
  intro cs x ys hd hr
  cases cs with
  |nil=>simp [dec]at hd
  |cons c r=>cases r with
   |nil=>
    obtain⟨y,rfl,hy⟩:=hr.one_inv;obtain⟨fl,t,h1,h2,h3⟩:=Lc hB (by simpa [dec]using hd) hy;exact⟨[(fl,t)],fun m=>by rw [List.mapM_cons,h1 m];rfl,h2,fun hf=>by simpa using h3 (by simpa using hf)⟩
   |cons d r=>simp [dec]at hd
theorem ER{B:BK}(hB:Bls B V h){t:TyD}{d:KD}{x:t.2.val}{y:D}(hd:Hy B t d=some x)(hr:RD B V d y):∃fl,dm h y=some (fl,tX t x)∧(frD d=true→fl=true):=by
 obtain⟨ag,e⟩:=t
 cases d with
 |one c=>
  obtain⟨c',rfl,hc⟩:=hr;simp only [Hy]at hd
  cases ag with
  |true=>simp at hd
  |false=>
   obtain⟨fl,t,h1,h2,h3⟩:=Lc hB (by simpa using hd) hc;refine⟨fl,?_,h3⟩;show(gh h 6 c').bind _=_;rw [h1 4];show some (fl,TD.one t)=some (fl,tX (false,e) x);unfold tX;simp only [←h2]
 |agg cs=>
  obtain⟨cs',rfl,hc⟩:=hr;simp only [Hy]at hd
  cases ag with
  |false=>simp at hd
  |true=>
   obtain⟨l,h1,h2,h3⟩:=QG hB (by simpa using hd) hc;refine⟨l.all (·.1),?_,h3⟩;show(cs'.mapM (gh h 6)).bind _=_;rw [h1 4];show some (l.all (·.1),TD.agg (l.map (·.2)))=some (_,tX (true,e) x);rw [h2];rfl
 |tup ts=>simp [Hy]at hd
theorem ua{B:BK}(hB:Bls B V h):∀{ts:List TyD} {ds:List KD} {x:vals ts} {ys:List D},nM B ts ds=some x→RDl B V ds ys→∃l,ys.mapM (dm h)=some l∧l.map (·.2)=jM ts x∧(ds.all frD=true→l.all (·.1)=true)
 | [],[],x,ys,hd,hr=>by rw [show ys= []from hr];exact⟨[],rfl,rfl,fun _=>rfl⟩
 | [],d::ds,x,ys,hd,hr=>by simp [nM]at hd
 | [t],[],x,ys,hd,hr=>by simp [nM]at hd
 | [t],[d],x,ys,hd,hr=>by
  obtain⟨y,s,rfl,h1,h2⟩:=hr;rw [show s= []from h2];obtain⟨fl,g1,g2⟩:=ER hB (show Hy B t d=some x from hd) h1;exact⟨[(fl,tX t x)],by rw [List.mapM_cons,g1];rfl,rfl,fun hf=>by simpa using g2 (by simpa using hf)⟩
 | [t],d::d'::ds,x,ys,hd,hr=>by simp [nM]at hd
 |t::t'::r,[],x,ys,hd,hr=>by simp [nM]at hd
 |t::t'::r,d::ds,x,ys,hd,hr=>by
  simp only [nM,zbE]at hd;obtain⟨x1,h1,y1,h2,h3⟩:=hd
  have:=Option.some.inj h3
  subst this;obtain⟨y,s,rfl,e1,e2⟩:=hr;obtain⟨fl,g1,g2⟩:=ER hB h1 e1;obtain⟨l,k1,k2,k3⟩:=ua hB h2 e2;refine⟨(fl,tX t x1)::l,by rw [List.mapM_cons,g1,k1];rfl,by rw [List.map_cons,k2];rfl,fun hf=> ?_⟩;simp only [List.all_cons,Bool.and_eq_true]at hf ⊢;exact⟨g2 hf.1,k3 hf.2⟩
theorem OS{B:BK}{fr fl:Bool}(hf:fr=true→fl=true)(t:TyD)(x:t.2.val):RD1 B V (mkD (Vf fr t x)) (dt fl (tX t x)):=by
 obtain⟨ag,e⟩:=t;have hc:=fP (B:=B) (V:=V) hf e x
 cases ag with
 |true=>exact⟨_,rfl,hc⟩
 |false=>
  have hl:=tY fr e x;have hl2:=zA e x
  show RD1 B V (mkD (false,dW fr e x)) (dt fl (match e.row x with
   | [y]=> .one y
   |ys=> .agg ys))
  revert hc hl hl2
  cases dW fr e x with
  |nil=>
   intro hc hl hl2
   cases hrw:e.row x with
   |nil=>exact⟨_,rfl,rfl⟩
   |cons y ys=>rw [hrw]at hl2;simp only [List.length_nil,List.length_cons]at hl hl2;omega
  |cons c r=>
   cases r with
   |nil=>
    intro hc hl hl2
    cases hrw:e.row x with
    |nil=>rw [hrw]at hl2;simp only [List.length_nil,List.length_cons]at hl hl2;omega
    |cons y ys=>cases ys with
     |nil=>
      rw [hrw]at hc;obtain⟨z,hz,hz2⟩:=hc.one_inv;refine⟨z,?_,hz2⟩;show D.one (pC fl y)=_;rw [show pC fl y=z from(List.cons.inj hz).1]
     |cons y2 ys=>rw [hrw]at hl2;simp only [List.length_nil,List.length_cons]at hl hl2;omega
   |cons c2 r=>
    intro hc hl hl2
    cases hrw:e.row x with
    |nil=>rw [hrw]at hl2;simp only [List.length_nil,List.length_cons]at hl hl2;omega
    |cons y ys=>cases ys with
     |nil=>rw [hrw]at hl2;simp only [List.length_nil,List.length_cons]at hl hl2;omega
     |cons y2 ys=>rw [hrw]at hc;exact⟨_,rfl,hc⟩
theorem vX{B:BK}{fr fl:Bool}(hf:fr=true→fl=true):∀(ts:List TyD) (x:vals ts),RTs B V (rm fr ts x) ((jM ts x).map (dt fl))
 | [],_=>rfl
 | [t],x=>⟨_,_,rfl,OS hf t x,rfl⟩
 |t::t'::r,x=>⟨_,_,rfl,OS hf t x.1,vX hf (t'::r) x.2⟩
theorem BY(N:Nat)(fr:Bool):∀(ts:List TyD) (x:vals ts),∀y∈rm fr ts x,Scs N y.2
 | [],_=>fun y hy=>by simp [rm]at hy
 | [t],x=>fun y hy=>by rw [List.mem_singleton.1 (show y∈ [Vf fr t x]from hy)];exact gT N fr t.2 x
 |t::t'::r,x=>fun y hy=>by
  rcases List.mem_cons.1 (show y∈Vf fr t x.1::rm fr (t'::r) x.2 from hy)with rfl|hy
  ·exact gT N fr t.2 x.1
  ·exact BY N fr (t'::r) x.2 y hy
end
end K
end Ev
end
noncomputable section
namespace Ev
namespace K
open Go Go.RowKit
def Vl.set(V:Vl)(nid k tag:Nat)(bo:Bool):Vl:=⟨fun q=>if q=nid then k else V.id q,fun q=>if q=tag then bo else V.bo q⟩
theorem Vl.set_agree{N nid tag k:Nat}{bo:Bool}{V:Vl}(h1:N≤nid)(h2:N≤tag):Agree N V (V.set nid k tag bo):=fun q hq=>⟨if_neg (by omega),if_neg (by omega)⟩
theorem Vl.set_id{nid tag k:Nat}{bo:Bool}{V:Vl}:(V.set nid k tag bo).id nid=k:=if_pos rfl
theorem Vl.set_bo{nid tag k:Nat}{bo:Bool}{V:Vl}:(V.set nid k tag bo).bo tag=bo:=if_pos rfl
def Be(F:KF)(ks:KS)(nid:Nat)(e:KE):BK:=aJ F {ks with bl:=blE e nid ks.bl}
def KB.like(b0 b:KB):Prop:=
 match b with
 | .rows _ _ l=>∃e0 n0 l0,b0= .rows e0 n0 l0∧l0.length=l.length
 | .mrows _ l=>∃e0 l0,b0= .mrows e0 l0∧l0.length=l.length
 |_=>True
structure Vp(B':BK)(V' V:Vl)(ks:KS)(k:Nat)(e:KE)(u:List (Nat×Blk)):Prop where
 real:∃uo un,u=uo++un∧
  (match e.upd with
   |none=>uo= []
   |some (p,b)=>(∃x,uo= [(V.id p,x)]∧BlkIs B' V' x b∧∀b0,ay ks.bl p=some b0→b0.there)∨(uo= []∧¬b.there∧∀b0,ay ks.bl p=some b0→¬b0.there))∧
  (match e.new with
   |none=>un= []
   |some b=>(∃x,un= [(k,x)]∧BlkIs B' V' x b∧b.there)∨(un= []∧¬b.there))
structure dJ(E:Env)(n:Nat)(F:KF)(ks:KS)(V:Vl)(f:Nat→D)(h:Heap)(M tag nid:Nat)(op:Op)(e:KE):Prop where
 upd:∀p b,e.upd=some (p,b)→∃b0,ay ks.bl p=some b0∧b0≠ .dead∧ScB ks.nx b∧b0.like b
 new:∀b,e.new=some b→ScB ks.nx b∧b≠ .dead
 sc:ScD M (qj tag e.v)
 run:∃bo,∀k,∃v u,stepG E (cpR E n) none k op (aV (tab F.nt f)) h=some ⟨v,u⟩∧RD (Be F ks nid e) (V.set nid k tag bo) (qj tag e.v) v∧Vp (Be F ks nid e) (V.set nid k tag bo) V ks k e u
def Yk(P:Program)(ty:TypeId)(kinds:List IntKind):Prop:=∀(x y:Operand) (l:List (Int×Int)),l.length=kinds.length→
 aw P (do eqGuard .eql ty x y (.agg ((kinds.zip l).map fun z=>Value.int z.1 z.2.1).toArray) (.agg ((kinds.zip l).map fun z=>Value.int z.1 z.2.2).toArray);binOp .eql ty (.agg ((kinds.zip l).map fun z=>Value.int z.1 z.2.1).toArray) (.agg ((kinds.zip l).map fun z=>Value.int z.1 z.2.2).toArray))=some (.bool (@decide (eqP l) (eqD l)))∧
 aw P (do eqGuard .neq ty x y (.agg ((kinds.zip l).map fun z=>Value.int z.1 z.2.1).toArray) (.agg ((kinds.zip l).map fun z=>Value.int z.1 z.2.2).toArray);binOp .neq ty (.agg ((kinds.zip l).map fun z=>Value.int z.1 z.2.1).toArray) (.agg ((kinds.zip l).map fun z=>Value.int z.1 z.2.2).toArray))=some (.bool (!(@decide (eqP l) (eqD l))))
def OT(E:Env)(n:Nat)(k:FuncId)(vs:List TD):(o:OutK)→o.val→Prop
 | .data true ts,x=>RunsP E n k vs (.fresh,jM ts x)
 | .data false ts,x=>BG E n k vs (jM ts x)
 | .own e,l=>RunsP E n k vs (.own,[.one (.s true e.size (l.map e.row))])
 | .mown e,l=>RunsP E n k vs (KV e.size e.row l)
 | .gown e,s=>RunsP E n k vs (bif s.nn then .own else .fresh,[.one (.s s.nn s.sz (s.l.map e.row))])
def bm(E:Env)(en:bL):Prop:=∀m a out,en.f a=some out→OT E (m+en.d) en.k (jM en.ins a) en.out out
structure GOk(G:KG)(E:Env)(D:Nat):Prop where
 ok:E.Ok
 ti:∀t i,ay G.ti t=some i→E.ti t=some i
 eqs:∀ty kinds,ay G.eqs ty=some kinds→Yk E.P ty kinds
 fns:∀en∈G.fns,en.d≤D∧bm E en
 fi:∀k f,ay G.fi k=some f→E.fn k=some f∧E.ax k=some fun _=>none
section
variable {E : Env} {n : Nat} {F : KF} {ks : KS} {V : Vl} {f : Nat → D} {h : Heap} {M tag nid : Nat} {op : Op} {G : KG} {D0 : Nat}
theorem Yl{nid:Nat}{v:KD}:Be F ks nid ⟨v,none,none⟩=aJ F ks:=rfl
theorem bg{α:Type}{q:Nat}{b:α}{l:List (Nat×α)}{p:Nat}:ay ((q,b)::l) p=if p=q then some b else ay l p:=by
 show cond (Nat.beq q p) (some b) (ay l p)=_;by_cases h:p=q
 ·subst h;rw [if_pos rfl,show Nat.beq p p=true from Nat.beq_refl p];rfl
 ·rw [if_neg h]
  cases hb:Nat.beq q p with
  |true=>exact absurd (Nat.eq_of_beq_eq_true hb).symm h
  |false=>rfl
theorem ld{q:Nat}{b:KB}{bl:List (Nat×KB)}{p:Nat}(hb:b≠ .dead):aJ F {ks with bl:=(q,b)::bl} p=if p=q then some b else aJ F {ks with bl:=bl} p:=by
 by_cases hp:p=q
 ·subst hp;rw [if_pos rfl];unfold aJ ce;simp only [bg,if_true]
  cases b with
  |dead=>exact absurd rfl hb
  |_=>rfl
 ·rw [if_neg hp];unfold aJ ce;simp only [bg,if_neg hp]
theorem ES{q:Nat}{bl:List (Nat×KB)}{p:Nat}:aJ F {ks with bl:=(q,.dead)::bl} p=if p=q then none else aJ F {ks with bl:=bl} p:=by
 by_cases hp:p=q
 ·subst hp;rw [if_pos rfl];unfold aJ ce;simp only [bg,if_true]
 ·rw [if_neg hp];unfold aJ ce;simp only [bg,if_neg hp]
theorem aE{p:Nat}{b:KB}(h:ay ks.bl p=some b)(hb:b≠ .dead):aJ F ks p=some b:=by
 unfold aJ ce;rw [h]
 cases b with
 |dead=>exact absurd rfl hb
 |_=>rfl
theorem HJ(hn:ks.nx≤nid){e:KE}(hu:∀p b,e.upd=some (p,b)→∃b0,ay ks.bl p=some b0∧b0≠ .dead∧b0.like b)(hnew:∀b,e.new=some b→b≠ .dead):LeB ks.nx (aJ F ks) (Be F ks nid e):=by
 have h1:LeB ks.nx (aJ F ks) (aJ F {ks with bl:=blU e ks.bl}):=by
  unfold blU
  cases hx:e.upd with
  |none=>exact LeB.refl _ _
  |some x=>
   obtain⟨p0,b⟩:=x;obtain⟨b0,g1,g2,g3⟩:=hu p0 b hx;have g1':=aE (F:=F) g1 g2;intro p hp;by_cases hb:b= .dead
   ·subst hb;simp only [ES];by_cases hpp:p=p0
    ·simp [hpp]
    ·simp only [if_neg hpp];exact⟨fun e ne l h=>⟨e,ne,l,h,rfl⟩,fun e l h=>⟨e,l,h,rfl⟩⟩
   ·simp only [ld hb];by_cases hpp:p=p0
    ·subst hpp;simp only [if_pos rfl];refine⟨fun e ne l h=> ?_,fun e l h=> ?_⟩
     ·have:=Option.some.inj h
      subst this;obtain⟨e0,n0,l0,k1,k2⟩:=g3;exact⟨e0,n0,l0,by rw [g1',k1],k2⟩
     ·have:=Option.some.inj h
      subst this;obtain⟨e0,l0,k1,k2⟩:=g3;exact⟨e0,l0,by rw [g1',k1],k2⟩
    ·simp only [if_neg hpp];exact⟨fun e ne l h=>⟨e,ne,l,h,rfl⟩,fun e l h=>⟨e,l,h,rfl⟩⟩
 unfold Be blE
 cases hx:e.new with
 |none=>exact h1
 |some b=>
  intro p hp;simp only [ld (hnew b hx),if_neg (show¬p=nid by omega)];exact h1 p hp
theorem lT{d:KD}(h:∀x,d≠ .one (.bv x)):qj tag d=d:=by
 unfold qj;split
 ·exact absurd rfl (h _)
 ·rfl
theorem aZ{d:KD}{v:D}(ht:ks.nx≤tag)(hn:ks.nx≤nid)(htM:tag<M)(hv:∀k,stepG E (cpR E n) none k op (aV (tab F.nt f)) h=some ⟨v,[]⟩)(hs:ScD ks.nx d)(hd:RD (aJ F ks) V d v):dJ E n F ks V f h M tag nid op ⟨d,none,none⟩:=by
 have hM:ks.nx≤M:=by omega
 refine⟨fun p b hb=>by simp at hb,fun b hb=>by simp at hb,?_,?_⟩
 ·unfold qj;split
  ·exact htM
  ·exact hs.mono hM
 ·refine⟨match d with
   | .one (.bv x)=>x
   |_=>false,fun k=>⟨v,[],hv k,?_,⟨[],[],rfl,rfl,rfl⟩⟩⟩
  rw [Yl];by_cases hb:∃x,d= .one (.bv x)
  ·obtain⟨x,rfl⟩:=hb;obtain⟨c,rfl,hc⟩:=hd;refine⟨_,rfl,?_,?_⟩
   ·rw [Vl.set_bo];exact hc
   ·rw [Vl.set_bo];cases x<;>rfl
  ·rw [lT (fun x hx=>hb ⟨x,hx⟩)];exact hd.mono hs (LeB.refl _ _) (Vl.set_agree hn ht)
theorem gf{P:Prop}{d:Decidable P}{b:Bool}(ht:ks.nx≤tag)(hn:ks.nx≤nid)(htM:tag<M)(hv:∀k,stepG E (cpR E n) none k op (aV (tab F.nt f)) h=some ⟨bD b,[]⟩)(hb:b= @decide P d):dJ E n F ks V f h M tag nid op ⟨.one (.p tag P d),none,none⟩:=by
 refine⟨fun p b hb=>by simp at hb,fun b hb=>by simp at hb,htM,b,fun k=>⟨_,[],hv k,⟨_,rfl,?_,?_⟩,⟨[],[],rfl,rfl,rfl⟩⟩⟩
 ·rw [Vl.set_bo]
 ·rw [Vl.set_bo];exact hb
theorem pQ{d:KD}{b:KB}(hM:ks.nx≤M)(ht:ks.nx≤tag)(hn:ks.nx≤nid)(hb:ks.nx≤nid→ScB ks.nx b∧b≠ .dead)(hd:ScD M d)(hnb:∀x,d≠ .one (.bv x))
  (hv:∀k,(b.there∧∃v x,stepG E (cpR E n) none k op (aV (tab F.nt f)) h=some ⟨v,[(k,x)]⟩∧RD (Be F ks nid ⟨d,none,some b⟩) (V.set nid k tag false) d v∧BlkIs (Be F ks nid ⟨d,none,some b⟩) (V.set nid k tag false) x b)∨(¬b.there∧∃v,stepG E (cpR E n) none k op (aV (tab F.nt f)) h=some ⟨v,[]⟩∧RD (Be F ks nid ⟨d,none,some b⟩) (V.set nid k tag false) d v)):dJ E n F ks V f h M tag nid op ⟨d,none,some b⟩:=by
 refine⟨fun p b hb=>by simp at hb,fun b' hb'=>by simp at hb';subst hb';exact hb hn,by rw [lT hnb];exact hd,false,fun k=> ?_⟩;rcases hv k with⟨h0,v,x,h1,h2,h3⟩|⟨h0,v,h1,h2⟩
 ·exact⟨v,_,h1,by rw [lT hnb];exact h2,⟨[],[(k,x)],rfl,rfl,.inl ⟨x,rfl,h3,h0⟩⟩⟩
 ·exact⟨v,_,h1,by rw [lT hnb];exact h2,⟨[],[],rfl,rfl,.inr ⟨rfl,h0⟩⟩⟩
theorem HL{d:KD}{v:D}{p:Nat}{b0 b:KB}{x:Blk}(ht:ks.nx≤tag)(hn:ks.nx≤nid)(hM:ks.nx≤M)(hp:ay ks.bl p=some b0)(h0:b0≠ .dead)(hth:b0.there)(hsc:ScB ks.nx b)(hl:b0.like b)(hd:ScD ks.nx d)(hnb:∀x,d≠ .one (.bv x))
  (hv:∀k,stepG E (cpR E n) none k op (aV (tab F.nt f)) h=some ⟨v,[(V.id p,x)]⟩) (hrd:RD (aJ F ks) V d v) (hx:BlkIs (aJ F ks) V x b):dJ E n F ks V f h M tag nid op ⟨d,some (p,b),none⟩:=by
 have hle:LeB ks.nx (aJ F ks) (Be F ks nid ⟨d,some (p,b),none⟩):=HJ hn (fun p' b' hb'=>by simp at hb';obtain⟨rfl,rfl⟩:=hb';exact⟨b0,hp,h0,hl⟩) (fun b hb=>by simp at hb);refine⟨fun p' b' hb'=>by simp at hb';obtain⟨rfl,rfl⟩:=hb';exact⟨b0,hp,h0,hsc,hl⟩,fun b' hb'=>by simp at hb',by rw [lT hnb];exact hd.mono hM,false,fun k=>⟨v,_,hv k,by rw [lT hnb];exact hrd.mono hd hle (Vl.set_agree hn ht),⟨[(V.id p,x)],[],rfl,.inl ⟨x,rfl,?_,fun b1 hb1=>by rw [hp]at hb1;cases hb1;exact hth⟩,rfl⟩⟩⟩
 cases b with
 |box cs=>obtain⟨sz,cs',g1,g2⟩:=hx;exact⟨sz,cs',g1,g2.mono hsc hle (Vl.set_agree hn ht)⟩
 |rows e ne l=>exact hx
 |mrows e l=>exact hx
 |dead=>exact hx
theorem HQ(hG:GOk G E D0){t:TypeId}{z:Nat×Bool}(h:Vg G.ti t=some z):cJ E.ti t=some z:=by
 unfold Vg at h;split at h
 ·rename_i i hi;unfold cJ;rw [hG.ti _ _ hi];exact h
 ·simp at h
theorem zB(hG:GOk G E D0){t:TypeId}{m:Nat}{z:Nat×Nat×Bool}(h:Yh G.ti t m=some z):fieldAt E.ti t m=some z:=by
 unfold Yh at h;split at h
 ·rename_i i hi;split at h
  ·rename_i fd hfd;split at h
   ·rename_i ft hft;unfold fieldAt;rw [hG.ti _ _ hi];simp only [zbS,hfd,hG.ti _ _ hft];exact h
   ·simp at h
  ·simp at h
 ·simp at h
theorem eP(hG:GOk G E D0){ty te z:Nat}{e:Ty}(h:G.elem ty=some (te,e,z)):∃t i2,E.ti ty=some t∧bu t=some te∧E.ti te=some i2∧i2.size=z∧ay G.ti te=some i2∧dU E.ti ty=some z∧t.desc= .slice te:=by
 unfold KG.elem at h;split at h
 ·rename_i t ht;split at h
  ·rename_i e1 he1;split at h
   ·rename_i i2 hi2;simp only [Option.map_eq_some_iff,Prod.mk.injEq]at h;obtain⟨x,_,rfl,rfl,rfl⟩:=h;refine⟨t,i2,hG.ti _ _ ht,he1,hG.ti _ _ hi2,rfl,hi2,?_,?_⟩
    ·unfold dU;rw [hG.ti _ _ ht];simp only [zbS,he1,hG.ti _ _ hi2]
    ·unfold bu at he1;split at he1
     ·rename_i e2 hd;rw [hd];cases he1;rfl
     ·simp at he1
   ·simp at h
  ·simp at h
 ·simp at h
theorem HU{α:Type}{l:List α}{i:Int}{y:α}(h:atL l i=some y):l≠[]:=by
 obtain⟨_,h2⟩:=jo h;intro he;rw [he]at h2;simp at h2
theorem BZ(e:Ty)(x:e.val):(aT e.row x).length=e.size:=by
 unfold aT;rw [List.length_map,zA]
theorem ny{e:Ty}{l:List e.val}{i:Int}{y:e.val}(h:atL l i=some y):0≤i∧(l.map (aT e.row))[i.toNat]? =some ((e.row y).map (pC true)):=by
 obtain⟨h1,h2⟩:=jo h;exact⟨h1,aK h2⟩
end
end K
end Ev
end
end Go.Proofs.Ytjjbpdldbdmoeaa
