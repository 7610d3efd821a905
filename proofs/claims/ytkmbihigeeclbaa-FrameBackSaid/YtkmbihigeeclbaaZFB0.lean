/- Texts of a claim, joined. -/
import Derived.WalkKit
import Derived.ProofKit
import Derived.JoinedCond
import Derived.Lib.SmallJoins
import Derived.Calls
import Derived.Orders
import Derived.KernelRfl
import Derived.Below
import Derived.Deep.MidRow
import Derived.Deep.AppendSrc
import Derived.Laws.MakeOwn
set_option linter.unusedVariables false
set_option linter.unusedSimpArgs false
namespace Go.Proofs.Ytkmbihigeeclbaa
theorem zbS.{u,v}{α:Type u}{β:Type v}(a:α)(f:α->Option β):(some a).bind f=f a:=rfl
theorem zbE.{u,v}{α:Type u}{β:Type v}{b:β}{o:Option α}{f:α->Option β}:o.bind f=some b↔∃a,o=some a/\f a=some b:=Option.bind_eq_some_iff
theorem zbB.{u}{α β:Type u}:@bind Option _ α β=Option.bind:=rfl
theorem zsI.{u}{α:Type u}(a b:α):(some a=some b)=(a=b):=Option.some.injEq a b
noncomputable section
open Go.RowKit Go.WideShapes Go.ChangeShapes
section
variable {H : Type} {enc : TypeId × Value → H} {P : Program}
theorem sn{f:Func}{s:ChangeSpec}{apart fresh handsOn again:Bool}{W W':World}{args:Array Value}{v:Value}{ds gs:List (DataW H)}{before pa pv:List MemPlace}
  (hW:DataW.Whole enc P f.params.toList s.vars apart W args.toList ds gs before)
  (hres:∀(b:Nat) (sp:Nat->Bool) (hd:Bool),DataW.TrodAll enc P W' b sp hd f.resultTypes.toList (v.resultList f.resultTypes.size) (s.fn H (ds++gs)).results [])
  (hargs:∀sp:Nat->Bool,(∀p∈before,sp p.block=true)->DataW.TrodAll enc P W' 0 sp true f.params.toList args.toList (s.fn H (ds++gs)).args pa)
  (hvars:∀sp:Nat->Bool,(∀p∈before,sp p.block=true)->DataW.TrodVars enc P W' sp s.vars (s.fn H (ds++gs)).vars pv)
  (hps:before=pa++pv) (hb:Below W.heap.size W W')
  (hok:∀(j:Nat) (t:TypeId) (r:Value),f.resultTypes[j]? =some t->(v.resultList f.resultTypes.size)[j]? =some r->Value.okWide P W' .any 0 t r):
  s.post enc P f apart fresh handsOn again W args v W':=by
 have hlt:∀p∈before,p.block<W.heap.size:=λp hp=>hW.lt p hp;have hold:∀p∈before,(λb=>decide (b<W.heap.size)) p.block=true:=λp hp=>by simpa using hlt p hp
 refine⟨ds,gs,before,[],pa,pv,hW,hres _ _ _,hargs _ hold,hvars _ hold,World.keptBut_mono (λp hp=>⟨hp,?_⟩) (hb.frame (·∈before)),λ_=> ?_⟩
 .rw [hps,List.mem_append]at hp;exact Or.inr hp
 .obtain⟨_,_,_,_,_,hz,hn⟩:=hW;refine⟨hok,_,_,([]++pa)++pv,⟨[]++pa,pv,trodAll_append (hargs _ (λ_ _=>rfl)) (hres _ _ _),hvars _ (λ_ _=>rfl),rfl,?_,?_⟩,?_⟩
  .intro b off hp;have hin:MemPlace.cell b off∈before:=by rw [hps];simpa using hp
   rw [hb.frozen (hlt _ hin)];exact hz b off hin
  .intro ha
   have:=hn ha
   rw [hps]at this;simpa using this
  .intro p hp _;rw [hps];simpa using hp
theorem so(hl:laidOutB P=true){W W':World}{sp:Nat->Bool}:∀{ts:List TypeId} {vs:List Value} {ds:List (DataW H)} {ps:List MemPlace},
  (∀t∈ts,P.readableRec t=true/\t<P.types.size)->DataW.TrodAll enc P W 0 (λ_=>true) true ts vs ds ps->(∀x∈ps,W.sameAt W' x)->(∀x∈ps,sp x.block=true)->
  DataW.TrodAll enc P W' 0 sp true ts vs ds ps:=by
 intro ts
 induction ts with
 |nil=>
  intro vs ds ps _ h _ _;obtain⟨rfl,rfl,rfl⟩:=trodAll_nil h;exact trodAll_mk0
 |cons t ts ih=>
  intro vs ds ps hts h hs hp;obtain⟨v,vs',d,ds',p,q,rfl,rfl,rfl,h0,h1⟩:=trodAll_cons h;refine trodAll_cons_mk (WideElems.Trod_stays hl (hts t (by simp)).1 (hts t (by simp)).2 h0 (λx hx=>hs x (by simp [hx])) (λx hx=>hp x (by simp [hx]))) ?_;exact ih (λt' ht'=>hts t' (by simp [ht'])) h1 (λx hx=>hs x (by simp [hx])) (λx hx=>hp x (by simp [hx]))
theorem Cg(hl:laidOutB P=true){f:Func}{s:ChangeSpec}{apart fresh handsOn again:Bool}{W W':World}{args:Array Value}{ds gs:List (DataW H)}{before:List MemPlace}{tb:TypeId}
  (hts:∀t∈f.params.toList,P.readableRec t=true/\t<P.types.size) (hvars:s.vars= []) (hrt:f.resultTypes=#[tb]) (htb:P.underlying tb=some .bool)
  (hfn:∀ds:List (DataW H),ds.length=f.params.toList.length->s.fn H ds={results:= [.lit (.bool true)],args:=ds})
  (hW:DataW.Whole enc P f.params.toList s.vars apart W args.toList ds gs before) (hb:Below W.heap.size W W'):
  s.post enc P f apart fresh handsOn again W args (.bool true) W':=by
 have hW':=hW;obtain⟨p,q,hA,hV,rfl,hfz,hnd⟩:=hW;rw [hvars]at hV;obtain⟨rfl,rfl⟩:=trodVars_none hV
 have hlen:∀{ts:List TypeId} {vs:List Value} {ds:List (DataW H)} {ps:List MemPlace},DataW.TrodAll enc P W 0 (λ_=>true) true ts vs ds ps->ds.length=ts.length:=by
  intro ts
  induction ts with
  |nil=>intro vs ds ps h;obtain⟨_,rfl,_⟩:=trodAll_nil h;rfl
  |cons t ts ih=>intro vs ds ps h;obtain⟨v,vs',d,ds',p,q,rfl,rfl,rfl,h0,h1⟩:=trodAll_cons h;simp [ih h1]
 have hf:=hfn ds (hlen hA);have hlt:∀x∈p++ [],x.block<W.heap.size:=λx hx=>hW'.lt x hx;refine sn (pa:=p) (pv:= []) hW' ?_ ?_ ?_ rfl hb ?_
 .intro b sp hd;rw [hrt,List.append_nil,hf];exact trodAll_mk1 (shut_bool htb true)
 .intro sp hsp;rw [List.append_nil,hf];exact so hl hts hA (λx hx=>hb.same (hlt x (by simp [hx]))) (λx hx=>hsp x (by simp [hx]))
 .intro sp hsp;rw [List.append_nil,hf,hvars];rfl
 .exact ok_one hrt rfl (okWide_bool_mk htb _)
end
end
noncomputable section
namespace Ev
open Go
inductive T where
 |v (x:Value)
 |s (nn:Bool) (sz:Nat) (l:List (List T))
 deriving Inhabited
inductive C where
 |p (fr:Bool) (t:T)
 |own (k off n:Nat)
 |ptr (k i j:Nat)
 |iptr (fr:Bool) (sz:Nat) (l:List (List T)) (i j:Nat)
 |clo (fn:Fn) (first cap:List C)
 |yld (k:Nat)
 deriving Inhabited
def pC(fr:Bool):T->C
 | .v x=> .p true (.v x)
 | .s nn sz l=> .p fr (.s nn sz l)
inductive D where
 |one (c:C)
 |agg (cs:List C)
 |tup (ds:List D)
 deriving Inhabited
inductive Blk where
 |own (sz:Nat) (es:List (List C))
 |dead
 |no
 deriving Inhabited
abbrev ak:=List Blk
inductive TD where
 |one (t:T)
 |agg (ts:List T)
 deriving Inhabited
inductive Kind where
 |any|fresh|own
 deriving DecidableEq,Inhabited
def bu:D:= .tup []
structure TI where
 desc:TypeDesc
 zero:List Value
 size:Nat
 bytes:Nat
structure FI where
 nt:Nat
 results:List ResultVar
 body:Code
inductive Ex where
 |normal|exit (id:Nat)|ret
 deriving DecidableEq,Inhabited
abbrev dC:=Nat->List D->ak->Option (Ex×ak)
structure Env where
 P:Program
 ti:TypeId->Option TI
 fn:FuncId->Option FI
 ax:FuncId->Option (List TD->Option (Kind×List TD))
def noY:dC:=λ_ _ _=>none
def al{α:Type}(P:Program):Sem α->Option α
 | .pure a=>some a
 | .program k=>al P (k P)
 |_=>none
def fF:Value->C
 | .slice none 0 0=> .p true (.s false 0 [])
 |x=> .p true (.v x)
def aH:TypeDesc->Bool
 | .struct _=>true
 | .array _ _=>true
 |_=>false
def eb:D->Option (List C)
 | .one c=>some [c]
 | .agg cs=>some cs
 | .tup _=>none
def ao(H:ak)(k:Nat):Option (Nat×List (List C)):=
 match H[k]? with
 |some (.own sz es)=>some (sz,es)
 |_=>none
def av(H:ak)(k:Nat)(b:Blk):ak:=
 if k<H.length then H.set k b else H++List.replicate (k - H.length) .no++ [b]
def cut{α:Type}(l:List α)(i n:Nat):Option (List α):=
 if i+n<=l.length then some ((l.drop i).take n)else none
def patch{α:Type}(l:List α)(i:Nat)(xs:List α):Option (List α):=
 if i+xs.length<=l.length then some (l.take i++xs++l.drop (i+xs.length))else none
def bR(agg:Bool)(cs:List C):Option D:=
 if agg then some (.agg cs)else match cs with
  | [c]=>some (.one c)
  |_=>none
structure Eff where
 v:D
 upd:List (Nat×Blk):= []
 deriving Inhabited
def load(H:ak)(agg:Bool)(sz:Nat):D->Option D
 | .one (.ptr k i j)=>do
  let(_,es)<-ao H k
  let e<-es[i]?
  bR agg (<-cut e j sz)
 | .one (.iptr fr _ l i j)=>do
  let e<-l[i]?
  bR agg (<-cut (e.map (pC fr)) j sz)
 |_=>none
def store(H:ak)(sz:Nat)(a x:D):Option Eff:=
 match a with
 | .one (.ptr k i j)=>do
  let cs<-eb x
  if cs.length=sz then
   let(bz,es)<-ao H k
   let e<-es[i]?
   let e'<-patch e j cs
   some {v:=bu,upd:= [(k,.own bz (es.set i e'))]}
  else none
 |_=>none
def eC:D->Option Nat
 | .one (.p _ (.v (.int _ n)))=>match n with
  | .ofNat n=>some n
  |_=>none
 |_=>none
def asBool:D->Option Bool
 | .one (.p _ (.v (.bool b)))=>some b
 |_=>none
def kJ:C->Option Value
 | .p _ (.v x)=>some x
 |_=>none
def dp:List C->Option (List Value)
 | []=>some []
 |c::r=>do some ((<-kJ c)::(<-dp r))
def plain:D->Option Value
 | .one c=>kJ c
 | .agg cs=>do some (.agg (<-dp cs).toArray)
 | .tup _=>none
def mk(x:Value):D:= .one (.p true (.v x))
def one1:Value->Bool
 | .agg _=>false
 | .tuple _=>false
 |_=>true
def mkO(x:Value):Option Eff:=if one1 x then some {v:=mk x}else none
def fk(t:TI)(f:Nat):Option Field:=
 match t.desc with
 | .struct fs=>fs.toList[f]?
 |_=>none
def aP(t:TI):Option TypeId:=
 match t.desc with
 | .slice e=>some e
 |_=>none
def sq:D->Option Nat
 | .one (.p _ (.s _ _ l))=>some l.length
 | .one (.own _ _ n)=>some n
 |_=>none
def fill(place:Nat->Option (Nat×Nat))(cells:List C):List (Nat×D)->Option (List C)
 | []=>some cells
 |(i,d)::rest=>do
  let(off,size)<-place i
  let cs<-eb d
  if cs.length=size then fill place (<-patch cells off cs) rest else none
def kK(ti:TypeId->Option TI)(t:TI):Option (Nat->Option (Nat×Nat)):=
 match t.desc with
 | .struct fs=>(fs.toList.mapM λf=>(ti f.type).map λi=>(f.offset,i.size)).map λl=>λi=>l[i]?
 | .array _ e=>(ti e).map λte=>λi=>some (i*te.size,te.size)
 |_=>none
def fK(t:TI):List C:=t.zero.map fF
def ku(t:TI)(n:Nat):List C:=(List.range (n*t.size)).map λm=>(fK t).getD (m % t.size) (.p true (.v .nilFunc))
def nI(sz:Nat)(cs:List C)(n:Nat):Option (List (List C)):=(List.range n).mapM λi=>cut cs (i*sz) sz
def gz(H:ak):D->Option (List (List C))
 | .one (.p fr (.s _ _ l))=>some (l.map (·.map (pC fr)))
 | .one (.own k off n)=>do
  let(_,es)<-ao H k
  cut es off n
 |_=>none
def eh:Nat:=2 ^ 30
def append(H:ak)(nid:Nat)(sz:Nat)(a x:D):Option Eff:=do
 let xs<-gz H x
 match a with
 | .one (.p fr (.s nn bz []))=>
  if nn then none else
  if xs.length=0 then some {v:= .one (.p fr (.s nn bz []))}else
  if xs.length<=eh then
   if xs.all (·.length==sz)then some {v:= .one (.own nid 0 xs.length),upd:= [(nid,.own sz xs)]}else none
  else none
 | .one (.own k off n)=>
  let(bz,es)<-ao H k
  if off=0/\n=es.length/\n+xs.length<=eh/\bz=sz/\xs.all (·.length==sz)=true/\sz≠0 then
   some {v:= .one (.own nid 0 (n+xs.length)),upd:= [(k,.dead),(nid,.own bz (es++xs))]}
  else none
 |_=>none
def qa(H:ak)(sz:Nat)(a x:D):Option Eff:=do
 let xs<-gz H x
 match a with
 | .one (.own k off n)=>do
  let(bz,es)<-ao H k
  let es'<-patch es off xs
  if bz=sz/\xs.length<=n/\xs.all (·.length==sz)=true/\sz≠0 then
   some {v:=mk (.int .i64 xs.length),upd:= [(k,.own bz es')]}
  else none
 | .one (.p _ (.s _ _ []))=>some {v:=mk (.int .i64 0)}
 |_=>none
def sT:TypeDesc->Bool
 | .int .u8=>true
 |_=>false
def de(ρ:Operand->Option D)(o:Option Operand)(dflt:Nat):Option Nat:=
 match o with
 |some y=>(ρ y).bind eC
 |none=>some dflt
def sem(E:Env)(nid:Nat)(o:Oper)(ρ:Operand->Option D)(H:ak):Option Eff:=
 match o.op with
 | .move x| .assign x=>do some {v:=<-ρ x}
 | .pick c a b=>do
  let t<-asBool (<-ρ c)
  if t then some {v:=<-ρ a}else some {v:=<-ρ b}
 | .alloc e=>do
  let t<-E.ti e
  some {v:= .one (.ptr nid 0 0),upd:= [(nid,.own t.size [fK t])]}
 | .box e x=>do
  let t<-E.ti e
  let cs<-eb (<-ρ x)
  some {v:= .one (.ptr nid 0 0),upd:= [(nid,.own cs.length [cs])]}
 | .build ty parts=>do
  let t<-E.ti ty
  let ps<-parts.toList.mapM λ(i,x)=>(ρ x).map λd=>(i,d)
  let pl<-kK E.ti t
  let cs<-fill pl (fK t) ps
  some {v:= .agg cs}
 | .buildSlice ty len parts=>do
  let t<-E.ti ty
  let e<-E.ti (<-aP t)
  let ps<-parts.toList.mapM λ(i,x)=>(ρ x).map λd=>(i,d)
  let cs<-fill (λi=>some (i*e.size,e.size)) (ku e len) ps
  let es<-nI e.size cs len
  if len*e.size<=2 ^ 24 then
   some {v:= .one (.own nid 0 len),upd:= [(nid,.own e.size es)]}
  else none
 | .load ty a=>do
  let t<-E.ti ty
  some {v:=<-load H (aH t.desc) (if aH t.desc then t.size else 1) (<-ρ a)}
 | .store ty a x=>do
  let t<-E.ti ty
  store H t.size (<-ρ a) (<-ρ x)
 | .binOp op ty x y _=>do
  let a<-ρ x
  let b<-ρ y
  match a,y with
  | .one (.p _ (.s nn _ _)),.const (.slice none 0 0)=>do
   let _<-aP (<-E.ti ty)
   match op with
   | .eql=>some {v:=mk (.bool (!nn))}
   | .neq=>some {v:=mk (.bool nn)}
   |_=>none
  | .one (.own ..),.const (.slice none 0 0)=>do
   let _<-aP (<-E.ti ty)
   match op with
   | .eql=>some {v:=mk (.bool false)}
   | .neq=>some {v:=mk (.bool true)}
   |_=>none
  |_,_=>do
   let va<-plain a
   let vb<-plain b
   mkO (<-al E.P (do eqGuard op ty x y va vb;binOp op ty va vb))
 | .unOp op _ x=>do mkO (<-al E.P (Op.unary op (<-plain (<-ρ x))))
 | .convert src dst x=>do
  match<-ρ x with
  | .one (.own k off n)=>do
   let td<-E.ti dst
   let te<-E.ti (<-aP td)
   let(bz,es)<-ao H k
   if(src==dst && sT te.desc && bz==1)=true then some {v:= .one (.own k off n),upd:= [(k,.own bz es)]}else none
  |d0=>
  let a<-plain d0
  match a with
  | .int .. =>do mkO (<-al E.P (convert src dst a))
  |_=>none
 | .makeFunc fn first cap=>do
  let f<-first.toList.mapM λx=>do match<-ρ x with| .one c=>some c|_=>none
  let g<-cap.toList.mapM λx=>do match<-ρ x with| .one c=>some c|_=>none
  some {v:= .one (.clo fn f g)}
 | .makeSlice ty l c=>do
  let t<-E.ti ty
  let e<-E.ti (<-aP t)
  let n<-eC (<-ρ l)
  let m<-eC (<-ρ c)
  if n<=m/\m<=eh then
   some {v:= .one (.own nid 0 n),upd:= [(nid,.own e.size (List.replicate n (fK e)))]}
  else none
 | .slice ty x lo hi mx=>do
  if mx.isSome && hi.isNone then none else
  let t<-E.ti ty
  let te<-E.ti (<-aP t)
  let d<-ρ x
  let n<-sq d
  let h<-de ρ hi n
  let l<-de ρ lo 0
  let m<-de ρ mx n
  if l<=h/\h<=m/\m<=n then
   match d with
   | .one (.p fr (.s nn sz es))=>if sz=te.size∨l=0 then some {v:= .one (.p fr (.s nn sz ((es.drop l).take (h - l))))}else none
   | .one (.own k off _)=>do
    let(sz,_)<-ao H k
    if l=h then some {v:= .one (.p true (.s true sz []))}else
    if sz=te.size then some {v:= .one (.own k (off+l) (h - l))}else none
   |_=>none
  else none
 | .fieldAddr ty x f=>do
  let t<-E.ti ty
  let fd<-fk t f
  let ft<-E.ti fd.type
  if ft.size=0 then none else
  match<-ρ x with
  | .one (.ptr k i j)=>some {v:= .one (.ptr k i (j+fd.offset))}
  | .one (.iptr fr sz l i j)=>some {v:= .one (.iptr fr sz l i (j+fd.offset))}
  |_=>none
 | .field ty x f=>do
  let t<-E.ti ty
  let fd<-fk t f
  let ft<-E.ti fd.type
  match<-ρ x with
  | .agg cs=>do some {v:=<-bR (aH ft.desc) (<-cut cs fd.offset (if aH ft.desc then ft.size else 1))}
  |_=>none
 | .indexAddr ty x ix=>do
  let t<-E.ti ty
  let i<-eC (<-ρ ix)
  match<-ρ x with
  | .one (.p fr (.s _ sz l))=>do
   let te<-E.ti (<-aP t)
   if i<l.length/\sz=te.size then some {v:= .one (.iptr fr sz l i 0)}else none
  | .one (.own k off n)=>do
   let te<-E.ti (<-aP t)
   let(bz,_)<-ao H k
   if i<n/\bz=te.size then some {v:= .one (.ptr k (off+i) 0)}else none
  | .one (.ptr k i' j)=>
   match t.desc with
   | .array n e=>do
    let te<-E.ti e
    if i<n then some {v:= .one (.ptr k i' (j+i*te.size))}else none
   |_=>none
  | .one (.iptr fr sz l i' j)=>
   match t.desc with
   | .array n e=>do
    let te<-E.ti e
    if i<n then some {v:= .one (.iptr fr sz l i' (j+i*te.size))}else none
   |_=>none
  |_=>none
 | .index ty x ix=>do
  let t<-E.ti ty
  let i<-eC (<-ρ ix)
  match<-ρ x with
  | .agg cs=>
   match t.desc with
   | .array n e=>do
    let te<-E.ti e
    if i<n then some {v:=<-bR (aH te.desc) (<-cut cs (i*te.size) (if aH te.desc then te.size else 1))}else none
   |_=>none
  |_=>none
 | .extract tp ix=>do
  match<-ρ tp with
  | .tup ds=>do some {v:=<-ds[ix]?}
  |_=>none
 | .call c=>
  match c.callee with
  | .builtin b=>do
   let t<-E.ti (<-c.argTypes[0]?)
   let args<-c.args.toList.mapM ρ
   match b,args with
   | .len,[x]=>
    match t.desc with
    | .slice _=>do some {v:=mk (.int .i64 (<-sq x))}
    | .string=>do
     match<-plain x with
     | .string s=>some {v:=mk (.int .i64 s.size)}
     |_=>none
    | .array n _=>some {v:=mk (.int .i64 n)}
    |_=>none
   | .append,[a,x]=>do
    let e<-E.ti (<-aP t)
    let t1<-E.ti (<-c.argTypes[1]?)
    let _<-aP t1
    append H nid e.size a x
   | .copy,[a,x]=>do
    let e<-E.ti (<-aP t)
    let t1<-E.ti (<-c.argTypes[1]?)
    let _<-aP t1
    qa H e.size a x
   | .min,[a,b]=>do
    match<-plain a,<-plain b with
    | .int k x,.int _ y=>some {v:=mk (.int k (if y<x then y else x))}
    |_,_=>none
   | .max,[a,b]=>do
    match<-plain a,<-plain b with
    | .int k x,.int _ y=>some {v:=mk (.int k (if y>x then y else x))}
    |_,_=>none
   |_,_=>none
  |_=>none
 | .nilCheck x=>do
  match<-ρ x with
  | .one (.ptr k i j)=>some {v:= .one (.ptr k i j)}
  |_=>none
 |_=>none
def dS(H:ak):Nat->C->Option (Bool×T)
 |_,.p fr t=>some (match t with| .v _=>true|_=>fr,t)
 |d+1,.own k off n=>do
  let(sz,es)<-ao H k
  let es<-cut es off n
  let r<-es.mapM (·.mapM (dS H d))
  some (r.all (·.all (·.1)),.s true sz (r.map (·.map (·.2))))
 |_,_=>none
def cl(H:ak):D->Option (Bool×TD)
 | .one c=>do
  let(b,t)<-dS H 6 c
  some (b,.one t)
 | .agg cs=>do
  let r<-cs.mapM (dS H 6)
  some (r.all (·.1),.agg (r.map (·.2)))
 | .tup _=>none
def bZ(fr:Bool):TD->D
 | .one t=> .one (pC fr t)
 | .agg ts=> .agg (ts.map (pC fr))
def fm:C->Bool
 | .p _ _=>false
 |_=>true
def iE:D->Bool
 | .one c=>fm c
 | .agg cs=>cs.any fm
 | .tup _=>true
def iF:List D->D
 | [d]=>d
 |ds=> .tup ds
structure St where
 t:List D
 h:ak
def kM:Value->Option D
 | .agg cs=>if cs.toList.all one1 then some (.agg (cs.toList.map fF))else none
 | .tuple _=>none
 |v=>some (.one (fF v))
def ay(g:Tmp->Option D):Operand->Option D
 | .tmp i=>g i
 | .const v=>kM v
 | .global _=>none
 | .func f=>some (mk (.func (.func f) #[] #[]))
abbrev aE(t:List D):Tmp->Option D:=λi=>t[i]?
abbrev opnd(t:List D):Operand->Option D:=ay (aE t)
abbrev bw:=FuncId->List TD->Option (Kind×List TD)
abbrev zl:=FuncId->List D->ak->Option (D×ak)
abbrev Ib:=dC->FuncId->List D->ak->Option ak
structure fG where
 f:zl
 r:Ib
 y:dC
def cr(c:Call)(ρ:Operand->Option D):Option (FuncId×List D):=
 match c.callee with
 | .value f=>do
  let args<-c.args.toList.mapM ρ
  match<-ρ f with
  | .one (.p _ (.v (.func (.func k) first cap)))=>if first.size=0/\cap.size=0 then some (k,args)else none
  | .one (.clo (.func k) first cap)=>some (k,first.map .one++args++cap.map .one)
  |_=>none
 |_=>none
def fV(cp:bw)(nid:Nat)(c:Call)(g:Tmp->Option D)(H:ak):Option Eff:=do
 let(f,args)<-cr c (ay g)
 let vs<-args.mapM (cl H)
 let(kind,rs)<-cp f (vs.map (·.2))
 match kind with
 | .own=>
  match rs with
  | [.one (.s true sz l)]=>some {v:= .one (.own nid 0 l.length),upd:= [(nid,.own sz (l.map (·.map (pC true))))]}
  |_=>none
 | .fresh=>some {v:=iF (rs.map (bZ true))}
 | .any=>if args.any iE then none else some {v:=iF (rs.map (bZ (vs.all (·.1))))}
def aV:Op->Option Call
 | .call c=>match c.callee with
  | .builtin _=>none
  |_=>some c
 |_=>none
def jk(t:List D)(d:Option Tmp)(v:D):Option (List D):=
 match d with
 |none=>some t
 |some d=>if d<t.length then some (t.set d v)else none
def apply(H:ak)(u:List (Nat×Blk)):ak:=u.foldl (λH p=>av H p.1 p.2) H
def dD(ops:Array Oper)(t:Tmp->Option D)(o:Oper):Option Bool:=
 match o.guard with
 |none=>some true
 |some (j,want)=>do
  let g<-ops[j]?
  let d<-g.dst
  match<-t d with
  | .one (.p _ (.v (.bool b)))=>some (b==want)
  | .tup []=>some false
  |_=>none
def step(E:Env)(cp:bw)(ops:Array Oper)(nid:Nat)(o:Oper)(t:Tmp->Option D)(H:ak):Option Eff:=do
 if<-dD ops t o then
  match aV o.op with
  |some c=>fV cp nid c t H
  |none=>sem E nid o (ay t) H
 else some {v:=bu}
def zm(cf:fG)(ops:Array Oper)(o:Oper)(s:St):Option St:=do
 if<-dD ops (aE s.t) o then
  match aV o.op with
  |some c=>do
   let(f,args)<-cr c (opnd s.t)
   let(v,h)<-cf.f f args s.h
   some {t:=<-jk s.t o.dst v,h}
  |none=>none
 else none
def qc:Ex->Nat
 | .normal=>0
 | .ret=>1
 | .exit id=>id+2
def jh(e:Ex):Blk:= .own 0 (List.replicate (qc e) [])
def GL(cf:fG)(ops:Array Oper)(o:Oper)(s:St):Option St:=do
 if<-dD ops (aE s.t) o then
  match aV o.op with
  |some c=>
   match c.callee with
   | .value f=>do
    let args<-c.args.toList.mapM (opnd s.t)
    match<-opnd s.t f with
    | .one (.yld k)=>do
     let(sz,es)<-ao s.h k
     if sz=0/\es= []then
      let(e,h)<-cf.y k args s.h
      some {t:=<-jk s.t o.dst (mk (.bool (e== .normal))),h:=av h k (jh e)}
     else none
    |_=>none
   |_=>none
  |none=>none
 else none
def put(o:Oper)(s:St)(e:Eff):Option St:=do some {t:=<-jk s.t o.dst e.v,h:=apply s.h e.upd}
def AC(E:Env)(cp:bw)(cf:fG)(ops:Array Oper)(o:Oper)(s:St):Option St:=
 match step E cp ops s.h.length o (aE s.t) s.h with
 |some e=>put o s e
 |none=>(zm cf ops o s).or (GL cf ops o s)
def oD(E:Env)(cp:bw)(cf:fG)(ops:Array Oper):List Oper->St->Option St
 | [],s=>some s
 |o::r,s=>do oD E cp cf ops r (<-AC E cp cf ops o s)
def gN(b:St->Option (Ex×St)):Nat->St->Option (Ex×St)
 |0,_=>none
 |m+1,s=>do
  let(e,s)<-b s
  match e with
  | .normal=>gN b m s
  |_=>some (e,s)
def mask(H:ak)(l:List Nat):ak:=l.foldl (λH k=>if k<H.length then H.set k .no else H) H
def dq(ops:Array Oper)(o:Oper):List Tmp:=
 (o.op.operands.toList.filterMap λ| .tmp t=>some t|_=>none)++
 (match o.guard with
  |some (g,_)=>((ops[g]?).bind (·.dst)).toList
  |none=> [])
def only(l:List Tmp)(t:List D):Tmp->Option D:=λi=>if l.contains i then t[i]? else none
def ids(e:Eff):List Nat:=e.upd.map (·.1)
def iG(E:Env)(cp:bw)(ops:Array Oper)(b:Nat):Nat->List Oper->St->Option (List (List Nat))
 |_,[],s=>some []
 |i,o::r,s=>do
  let e<-step E cp ops (b+i) o (only (dq ops o) s.t) s.h
  let l<-iG E cp ops b (i+1) r (<-put o s e)
  some (ids e::l)
def ie(a b:List Nat):Bool:=a.all λx=> !b.contains x
def bN(E:Env)(cp:bw)(ops:Array Oper)(b:Nat)(U M:Nat->List Nat):Nat->List Oper->St->Option St
 |_,[],s=>some s
 |i,o::r,s=>do
  let e<-step E cp ops (b+i) o (only (dq ops o) s.t) (mask s.h (M i))
  if ids e=U i/\(U i).all (·<s.h.length)=true then bN E cp ops b U M (i+1) r (<-put o s e)else none
def bf(A:Nat->Nat)(i j:Nat):Bool:=i !=j && !(A i).testBit j && !(A j).testBit i
def Ch(ops:Array Oper)(x y:Oper):Bool:=
 (match x.dst with
  |some d=> !(dq ops y).contains d && y.dst !=some d
  |none=>true)&&
 (match y.dst with
  |some d=> !(dq ops x).contains d
  |none=>true)
def dE(o:Oper):Bool:=
 match o.op with
 | .defer _=>false
 |_=>true
def fW(ops:Array Oper)(b:Nat)(A:Nat->Nat)(U:Nat->List Nat):Bool:=
 (ops.toList.all dE)&&(ops.toList.zipIdx.all λx=>x.1.after.all λe=> !Region.binds .any e||decide (e.on<x.2))&&
 ops.toList.zipIdx.all λx=>ops.toList.zipIdx.all λy=>(!decide (x.2<y.2)|| !(A x.2).testBit y.2)&&(x.2==y.2||(A x.2).testBit y.2|| !(U x.2).contains (b+y.2))&&(!bf A x.2 y.2||(Ch ops x.1 y.1 && ie (U x.2) (U y.2)))
def fX(E:Env)(cp:bw)(ops:Array Oper)(s:St):Option St:=do
 let b:=s.h.length
 let s0:St:={s with h:=s.h++List.replicate ops.size .no}
 let A0:=(Region.before ops).toList
 let U0<-iG E cp ops b 0 ops.toList s0
 let A:=λi=>A0.getD i 0
 let U:=λi=>U0.getD i []
 let M0:=(List.range ops.size).map λi=>((List.range ops.size).filter (bf A i)).flatMap U
 if fW ops b A U then bN E cp ops b U (λi=>M0.getD i []) 0 ops.toList s0 else none
def EX(o:Oper):Bool:=
 match o.op with
 | .call c=>match c.callee with
  | .value (.func _)=>false
  | .value _=>true
  |_=>false
 |_=>false
def wh:List Oper->Nat->Option Nat
 | [],_=>none
 |o::l,i=>if EX o then some i else wh l (i+1)
def jm(ops:Array Oper):Option Nat:=
 let A0:=(Region.before ops).toList
 match wh ops.toList 0 with
 |some m=>if m<=ops.size/\(List.range ops.size).all (λi=>decide (i<m)||(List.range i).all λj=>(A0.getD i 0).testBit j)=true then some m else none
 |none=>none
def zn(E:Env)(cp:bw)(cf:fG)(ops:Array Oper)(m:Nat)(s:St):Option St:=do
 let b:=s.h.length
 let s0:St:={s with h:=s.h++List.replicate ops.size .no}
 let A0:=(Region.before ops).toList
 if fW ops b (λi=>A0.getD i 0) (λ_=> [])then do
  let s1<-bN E cp ops b (λ_=> []) (λ_=> []) 0 (ops.toList.take m) s0
  oD E cp cf ops (ops.toList.drop m) s1
 else none
def ml(t:List D):List Tmp->List D->List D
 |p::ps,d::ds=>ml (t.set p d) ps ds
 |_,_=>t
def Ci:List (List C)->Ex
 | []=> .normal
 | [_]=> .ret
 |_::_::l=> .exit l.length
def evC(E:Env)(cp:bw)(cf:fG)(m:Nat):Code->St->Option (Ex×St)
 | .skip,s=>some (.normal,s)
 | .region _ ops draw,s=>if draw then(match jm ops with|some m=>zn E cp cf ops m s|none=>fX E cp ops s).map λs=>(.normal,s)else(oD E cp cf ops ops.toList s).map λs=>(.normal,s)
 | .seq a b,s=>do
  let(e,s)<-evC E cp cf m a s
  match e with
  | .normal=>evC E cp cf m b s
  |_=>some (e,s)
 | .cond c a b,s=>do
  let t<-asBool (<-opnd s.t c)
  if t then evC E cp cf m a s else evC E cp cf m b s
 | .block id b,s=>do
  let(e,s)<-evC E cp cf m b s
  some (if e= .exit id then .normal else e,s)
 | .loop b,s=>gN (evC E cp cf m b) m s
 | .exit id,s=>some (.exit id,s)
 | .ret,s=>some (.ret,s)
 | .label _,s=>some (.normal,s)
 | .scope b,s=>evC E cp cf m b s
 | .rangeFunc g ps asg body,s=>do
  match<-opnd s.t g with
  | .one (.clo (.func f) first cap)=>do
   let k:=s.h.length
   let y:dC:=λj args h=>
    if j=k/\args.length=ps.toList.length then do
     let(e,s1)<-evC E cp cf m asg {t:=ml s.t ps.toList args,h:=h}
     match e with
     | .normal=>do
      let(e,s2)<-evC E cp cf m body s1
      some (e,s2.h)
     |_=>none
    else none
   let h<-cf.r y f (first.map .one++ [.one (.yld k)]++cap.map .one) (av s.h k (.own 0 []))
   let(sz,es)<-ao h k
   if sz=0 then some (Ci es,{t:=s.t,h:=h})else none
  |_=>none
 |_,_=>none
def bS(E:Env)(s:St):ResultVar->Option D
 | .tmp t=>s.t[t]?
 | .cell a ty=>do
  let t<-E.ti ty
  load s.h (aH t.desc) (if aH t.desc then t.size else 1) (<-s.t[a]?)
def uB(E:Env)(cp:bw)(cf:fG)(m:Nat)(f:FI)(args:List D)(H:ak):Option (List D×ak):=do
 let(e,s)<-evC E cp cf m f.body {t:=args++List.replicate (f.nt - args.length) bu,h:=H}
 match e with
 | .exit _=>none
 |_=>do some (<-f.results.mapM (bS E s),s.h)
def qd:C->Bool
 | .p true (.v _)=>true
 |_=>false
def dk(h:ak):List D->Bool
 | [.one (.own k 0 n)]=>
  match ao h k with
  |some (_,es)=>n==es.length && es.all (·.all qd)
  |none=>false
 |_=>false
def uC(E:Env)(cp:bw)(cf:fG)(m:Nat)(f:FI)(vs:List TD):Option (Kind×List TD):=do
 let(rs,h)<-uB E cp cf m f (vs.map (bZ false)) []
 let l<-rs.mapM (cl h)
 some (if dk h rs then .own else if l.all (·.1)then .fresh else .any,l.map (·.2))
def aL(E:Env)(m:Nat):Nat->bw×zl×Ib
 |0=>(λ_ _=>none,λ_ _ _=>none,λ_ _ _ _=>none)
 |n+1=>(λk vs=>
   match E.ax k with
   |some F=>F vs
   |none=>do
    let f<-E.fn k
    uC E (aL E m n).1 ⟨(aL E m n).2.1,(aL E m n).2.2,noY⟩ m f vs,
  λk args H=>do
   let f<-E.fn k
   let(rs,h)<-uB E (aL E m n).1 ⟨(aL E m n).2.1,(aL E m n).2.2,noY⟩ m f args H
   some (iF rs,h),
  λy k args H=>do
   let f<-E.fn k
   let(_,h)<-uB E (aL E m n).1 ⟨(aL E m n).2.1,(aL E m n).2.2,y⟩ m f args H
   some h)
def bH(E:Env)(y:Nat->dC)(m n:Nat):bw×fG:=((aL E m n).1,⟨(aL E m n).2.1,(aL E m n).2.2,y m⟩)
def cN(E:Env)(m n:Nat):bw×fG:=bH E (λ_=>noY) m n
end Ev
end
noncomputable section
namespace Ev
open Go
def LD(base:Nat)(w:World):Prop:=True
theorem LD.keep{base:Nat}{w w':World}(_:LD base w)(_:0<base->0<w.heap.size->w'.heap[0]? =w.heap[0]?)(_:w.heap.size<=w'.heap.size):LD base w':=trivial
theorem LD.up{base base':Nat}{w:World}(_:LD base w)(_:base<=base'):LD base' w:=trivial
theorem LD.cells{base:Nat}{w w':World}(_:LD base w)(_:w.heap.size<=w'.heap.size)(_:∀a v,w.cell? a=some v->w'.cell? a=some v):LD base w':=trivial
end Ev
end
noncomputable section
namespace Ev
open Go Go.RowKit
def aU(w:World)(b:Nat):Nat:=
 match w.heap[b]? with
 |some (.cells c _ _)=>c.size
 |_=>0
theorem cell_lt{w:World}{b o:Nat}:o<aU w b↔(w.cell? ⟨b,o,none⟩).isSome=true:=by
 unfold aU World.cell?
 cases h:w.heap[b]? with
 |none=>simp
 |some x=>cases x<;>simp
theorem wi{w:World}{a:Addr}{v:Value}(h:w.cell? a=some v):a.block<w.heap.size:=by
 unfold World.cell? at h
 cases hb:w.heap[a.block]? with
 |none=>simp [hb]at h
 |some x=>exact(Array.getElem?_eq_some_iff.1 hb).1
def Clean(w:World)(b:Nat):Prop:=∀c t lo hi,w.heap[b]? =some (.cells c t (lo,hi))->lo=hi∨c.size<=lo
theorem Clean.fz{w:World}{b o:Nat}(h:Clean w b)(ho:o<aU w b):w.frozen? ⟨b,o,none⟩=false:=by
 unfold aU at ho;unfold World.frozen?;simp only
 cases hg:w.heap[b]? with
 |none=>rfl
 |some x=>
  rw [hg]at ho;cases x<;>(try rfl);rename_i c t fr;obtain⟨lo,hi⟩:=fr;simp only at ho;rcases h c t lo hi hg with h|h
  .simp [h]
  .simp;omega
theorem Clean.keep{w w':World}{b:Nat}(h:Clean w b)(hb:w'.heap[b]? =w.heap[b]?):Clean w' b:=λc t lo hi hg=>h c t lo hi (hb▸hg)
theorem World.setCell_heap_ne(w:World)(a:Addr)(v:Value){b:Nat}(hb:a.block≠b):(w.setCell a v).heap[b]? =w.heap[b]? :=by
 simp [World.setCell,Array.getElem?_modify,hb]
theorem Clean.setCell{w:World}{b:Nat}(h:Clean w b)(a:Addr)(v:Value):Clean (w.setCell a v) b:=by
 intro c t lo hi hg;by_cases hb:a.block=b
 .simp only [World.setCell,Array.getElem?_modify,hb,if_true,Option.map_eq_some_iff]at hg;obtain⟨x,hx,hg⟩:=hg;cases x<;>(try (simp at hg;done));rename_i c0 t0 fr;obtain⟨l0,h0⟩:=fr
  have:=h c0 t0 l0 h0 hx
  simp only [Obj.cells.injEq,Prod.mk.injEq]at hg;obtain⟨rfl,rfl,rfl,rfl⟩:=hg;split<;>simpa using this
 .rw [World.setCell_heap_ne w a v hb]at hg;exact h c t lo hi hg
theorem Clean.setCells{w:World}{b:Nat}(h:Clean w b)(k:Nat):∀(vs:List Value) (o:Nat),Clean (w.setCells k o vs) b:=by
 intro vs
 induction vs generalizing w with
 |nil=>exact λo=>h
 |cons v r ih=>exact λo=>ih (h.setCell _ v) (o+1)
def sr(ρ:Nat->Nat)(H:ak)(b:Nat):Prop:=∃k sz es,H[k]? =some (.own sz es)/\ρ k=b
def Fb(F0:Nat->Prop)(ρ:Nat->Nat)(H:ak)(b:Nat):Prop:=F0 b∨sr ρ H b
def Frs(F:Nat->Prop)(base:Nat)(fr:Bool)(b:Nat):Prop:=F b∨(fr=true/\b<base)
inductive RepT(w:World)(F:Nat->Prop):T->Value->Prop
 |v (x:Value) (h:x.oneCell'=true):RepT w F (.v x) x
 |s (nn:Bool) (sz:Nat) (l:List (List T)) (a:Option Addr) (c:Nat) (y:Nat->Nat->Value) (hn:nn=a.isSome) (hc:l.length<=c) (h0:a=none->c=0)
   (hl:∀(i:Nat) (e:List T),l[i]? =some e->e.length=sz)
   (hm:∀(i:Nat) (e:List T) (j:Nat) (t:T),l[i]? =some e->e[j]? =some t->∃b,a=some b/\b.block<w.heap.size/\¬F b.block/\w.cell? (b.add (i*sz+j))=some (y i j))
   (hr:∀(i:Nat) (e:List T) (j:Nat) (t:T),l[i]? =some e->e[j]? =some t->RepT w F t (y i j)):RepT w F (.s nn sz l) (.slice a l.length c)
inductive RepC(w:World)(base:Nat)(F:Nat->Prop)(ρ:Nat->Nat)(H:ak):C->Value->Prop
 |p (fr:Bool) (t:T) (y:Value) (h:RepT w (Frs F base fr) t y):RepC w base F ρ H (.p fr t) y
 |own (k off n c:Nat) (a:Addr) (hk:∃B,H[k]? =some B/\B≠ .no) (hn:n<=c)
   (ha:∀sz es,H[k]? =some (.own sz es)->a=⟨ρ k,off*sz,none⟩/\(off+c)*sz<=aU w (ρ k)):RepC w base F ρ H (.own k off n) (.slice (some a) n c)
 |ptr (k i j:Nat) (a:Addr) (hk:∃B,H[k]? =some B/\B≠ .no)
   (ha:∀sz es,H[k]? =some (.own sz es)->a=⟨ρ k,i*sz+j,none⟩):RepC w base F ρ H (.ptr k i j) (.pointer (some a))
 |iptr (fr:Bool) (sz:Nat) (l:List (List T)) (i j:Nat) (a:Addr) (y:Nat->Value)
   (hm:∀(e:List T) (j':Nat) (t:T),l[i]? =some e->e[j+j']? =some t->a.block<w.heap.size/\¬Frs F base fr a.block/\w.cell? (a.add j')=some (y j'))
   (hr:∀(e:List T) (j':Nat) (t:T),l[i]? =some e->e[j+j']? =some t->RepT w (Frs F base fr) t (y j')):RepC w base F ρ H (.iptr fr sz l i j) (.pointer (some a))
 |clo (fn:Fn) (first cap:List C) (v1 v2:Array Value) (y1 y2:Nat->Value) (h1:first.length=v1.size) (h2:cap.length=v2.size)
   (e1:∀(i:Nat) c,first[i]? =some c->v1[i]? =some (y1 i)) (e2:∀(i:Nat) c,cap[i]? =some c->v2[i]? =some (y2 i))
   (r1:∀(i:Nat) c,first[i]? =some c->RepC w base F ρ H c (y1 i)) (r2:∀(i:Nat) c,cap[i]? =some c->RepC w base F ρ H c (y2 i)):
   RepC w base F ρ H (.clo fn first cap) (.func fn v1 v2)
 |yld (k:Nat) (y:Value) (h1:y.oneCell'=true) (hk:∃B,H[k]? =some B/\B≠ .no)
   (ha:∀sz es,H[k]? =some (.own sz es)->y= .func (.yield (ρ k)) #[] #[]):RepC w base F ρ H (.yld k) y
def RepCs(w:World)(base:Nat)(F:Nat->Prop)(ρ:Nat->Nat)(H:ak)(cs:List C)(ys:List Value):Prop:=
 cs.length=ys.length/\∀(i:Nat) c,cs[i]? =some c->∃y,ys[i]? =some y/\RepC w base F ρ H c y
inductive RepD(w:World)(base:Nat)(F:Nat->Prop)(ρ:Nat->Nat)(H:ak):D->Value->Prop
 |one (c:C) (y:Value) (h:RepC w base F ρ H c y):RepD w base F ρ H (.one c) y
 |agg (cs:List C) (ys:List Value) (h:RepCs w base F ρ H cs ys):RepD w base F ρ H (.agg cs) (.agg ys.toArray)
 |tup (ds:List D) (ys:Array Value) (y:Nat->Value) (hl:ds.length=ys.size) (he:∀(i:Nat) d,ds[i]? =some d->ys[i]? =some (y i))
   (hr:∀(i:Nat) d,ds[i]? =some d->RepD w base F ρ H d (y i)):RepD w base F ρ H (.tup ds) (.tuple ys)
structure ExtA(A:Nat->Prop)(w:World)(ρ:Nat->Nat)(H:ak)(w':World)(ρ':Nat->Nat)(H':ak):Prop where
 os:w'.os=w.os
 tape:w'.tape=w.tape
 output:w'.output=w.output
 size:w.heap.size<=w'.heap.size
 same:∀b,b<w.heap.size->¬sr ρ H b->w'.heap[b]? =w.heap[b]?
 own:∀b,b<w.heap.size->sr ρ' H' b->sr ρ H b
 bs:∀b,b<w.heap.size->aU w' b=aU w b
 ids:∀(k:Nat) B,H[k]? =some B->B≠ .no->∃B',H'[k]? =some B'/\B'≠ .no/\∀sz es',B'= .own sz es'->∃es,B= .own sz es/\ρ' k=ρ k
 z:∀(k:Nat) es,¬A k->H[k]? =some (.own 0 es)->H'[k]? =some (.own 0 es)/\w'.heap[ρ k]? =w.heap[ρ k]?
abbrev noA:Nat->Prop:=λ_=>False
abbrev Ext:=ExtA noA
theorem ExtA.refl{A:Nat->Prop}(w:World)(ρ:Nat->Nat)(H:ak):ExtA A w ρ H w ρ H:=
 ⟨rfl,rfl,rfl,Nat.le_refl _,λ_ _ _=>rfl,λ_ _ h=>h,λ_ _=>rfl,λk B h hn=>⟨B,h,hn,λsz es' h=>⟨es',h,rfl⟩⟩,λk es _ h=>⟨h,rfl⟩⟩
theorem ExtA.rho{A:Nat->Prop}{w w1:World}{ρ ρ1:Nat->Nat}{H H1:ak}(h:ExtA A w ρ H w1 ρ1 H1){k sz:Nat}{es es1:List (List C)}(h1:H[k]? =some (.own sz es))(h2:∃sz1,H1[k]? =some (.own sz1 es1)):ρ1 k=ρ k:=by
 obtain⟨B',g1,g2,g3⟩:=h.ids k _ h1 (by simp);obtain⟨sz1,h2⟩:=h2;rw [h2]at g1;cases g1;obtain⟨_,_,r⟩:=g3 _ _ rfl;exact r
theorem ExtA.trans{A:Nat->Prop}{w w1 w2:World}{ρ ρ1 ρ2:Nat->Nat}{H H1 H2:ak}(h:ExtA A w ρ H w1 ρ1 H1)(g:ExtA A w1 ρ1 H1 w2 ρ2 H2):ExtA A w ρ H w2 ρ2 H2 where
 z:=λk es hA hk=>by
  obtain⟨h1,h2⟩:=h.z k es hA hk;obtain⟨g1,g2⟩:=g.z k es hA h1;have hr:=h.rho hk ⟨_,h1⟩;rw [hr]at g2;exact⟨g1,g2.trans h2⟩
 os:=g.os.trans h.os
 tape:=g.tape.trans h.tape
 output:=g.output.trans h.output
 size:=Nat.le_trans h.size g.size
 same:=λb hb hn=>(g.same b (Nat.lt_of_lt_of_le hb h.size) λho=>hn (h.own b hb ho)).trans (h.same b hb hn)
 own:=λb hb ho=>h.own b hb (g.own b (Nat.lt_of_lt_of_le hb h.size) ho)
 bs:=λb hb=>(g.bs b (Nat.lt_of_lt_of_le hb h.size)).trans (h.bs b hb)
 ids:=λk B hB hn=>by
  obtain⟨B1,h1,n1,f1⟩:=h.ids k B hB hn;obtain⟨B2,h2,n2,f2⟩:=g.ids k B1 h1 n1;refine⟨B2,h2,n2,λsz es' he=> ?_⟩;obtain⟨es1,e1,r1⟩:=f2 sz es' he;obtain⟨es,e0,r0⟩:=f1 sz es1 e1;exact⟨es,e0,r1.trans r0⟩
theorem ExtA.weak{A A':Nat->Prop}{w w1:World}{ρ ρ1:Nat->Nat}{H H1:ak}(hA:∀k,A k->A' k)(h:ExtA A w ρ H w1 ρ1 H1):ExtA A' w ρ H w1 ρ1 H1:=
 ⟨h.os,h.tape,h.output,h.size,h.same,h.own,h.bs,h.ids,λk es hn hk=>h.z k es (λha=>hn (hA k ha)) hk⟩
theorem Ext.toA{A:Nat->Prop}{w w1:World}{ρ ρ1:Nat->Nat}{H H1:ak}(h:Ext w ρ H w1 ρ1 H1):ExtA A w ρ H w1 ρ1 H1:=ExtA.weak (λ_ h=>h.elim) h
theorem Ext.refl(w:World)(ρ:Nat->Nat)(H:ak):Ext w ρ H w ρ H:=ExtA.refl w ρ H
theorem Ext.trans{w w1 w2:World}{ρ ρ1 ρ2:Nat->Nat}{H H1 H2:ak}(h:Ext w ρ H w1 ρ1 H1)(g:Ext w1 ρ1 H1 w2 ρ2 H2):Ext w ρ H w2 ρ2 H2:=ExtA.trans h g
theorem kN{w:World}{a:Addr}{v:Value}(h:w.cell? a=some v):0<aU w a.block:=by
 unfold World.cell? at h;unfold aU
 cases hb:w.heap[a.block]? with
 |none=>simp [hb]at h
 |some x=>
  rw [hb]at h
  cases x with
  |cells c t f=>
   simp only at h ⊢;split at h
   .simp at h
   .obtain⟨hlt,_⟩:=Array.getElem?_eq_some_iff.1 h;omega
  |_=>simp at h
theorem RepT.mono{w w':World}{F F':Nat->Prop}(hs:w.heap.size<=w'.heap.size)(hc:∀b,b<w.heap.size->0<aU w b->¬F b->w'.heap[b]? =w.heap[b]?/\¬F' b){t:T}{y:Value}
  (h:RepT w F t y):RepT w' F' t y:=by
 induction h with
 |v x hx=>exact .v x hx
 |s nn sz l a c y hn hcap h0 hl hm hr ih=>
  refine .s nn sz l a c y hn hcap h0 hl (λi e j t h1 h2=> ?_) λi e j t h1 h2=>ih i e j t h1 h2;obtain⟨b,hb,hlt,hF,hcell⟩:=hm i e j t h1 h2;have hbk:(b.add (i*sz+j)).block=b.block:=by unfold Addr.add;split<;>rfl
  obtain⟨g1,g2⟩:=hc _ hlt (hbk▸kN hcell) hF;refine⟨b,hb,Nat.lt_of_lt_of_le hlt hs,g2,?_⟩;rw [<-hcell];unfold World.cell?;rw [hbk,g1]
theorem RepC.mono{w w':World}{base:Nat}{F F':Nat->Prop}{ρ ρ':Nat->Nat}{H H':ak}(hs:w.heap.size<=w'.heap.size)
  (hc:∀b,b<w.heap.size->0<aU w b->¬F b->w'.heap[b]? =w.heap[b]?/\¬F' b)
  (hids:∀(k:Nat) B,H[k]? =some B->B≠ .no->∃B',H'[k]? =some B'/\B'≠ .no/\∀sz es',B'= .own sz es'->∃es,B= .own sz es/\ρ' k=ρ k/\aU w' (ρ k)=aU w (ρ k)) {c:C} {y:Value}
  (h:RepC w base F ρ H c y):RepC w' base F' ρ' H' c y:=by
 have hcf:∀fr b,b<w.heap.size->0<aU w b->¬Frs F base fr b->w'.heap[b]? =w.heap[b]?/\¬Frs F' base fr b:=by
  intro fr b hb hpos hn;obtain⟨g1,g2⟩:=hc b hb hpos λhf=>hn (.inl hf);refine⟨g1,λhf=> ?_⟩;rcases hf with hf|hf
  .exact g2 hf
  .exact hn (.inr hf)
 induction h with
 |p fr t y h=>exact .p fr t y (h.mono hs (hcf fr))
 |own k off n c a hk hn ha=>
  obtain⟨B,hB,hno⟩:=hk;obtain⟨B',hB',hno',hf⟩:=hids k B hB hno;refine .own k off n c a ⟨B',hB',hno'⟩ hn λsz es h=> ?_;rw [hB']at h;obtain⟨es0,e0,e1,e2⟩:=hf sz es (Option.some.inj h);obtain⟨g1,g2⟩:=ha sz es0 (by rw [hB,e0]);rw [e1,e2];exact⟨g1,g2⟩
 |ptr k i j a hk ha=>
  obtain⟨B,hB,hno⟩:=hk;obtain⟨B',hB',hno',hf⟩:=hids k B hB hno;refine .ptr k i j a ⟨B',hB',hno'⟩ λsz es h=> ?_;rw [hB']at h;obtain⟨es0,e0,e1,e2⟩:=hf sz es (Option.some.inj h);rw [e1];exact ha sz es0 (by rw [hB,e0])
 |iptr fr sz l i j a y hm hr=>
  refine .iptr fr sz l i j a y (λe j' t h1 h2=> ?_) λe j' t h1 h2=>(hr e j' t h1 h2).mono hs (hcf fr);obtain⟨hlt,hF,hcell⟩:=hm e j' t h1 h2;have hbk:(a.add j').block=a.block:=by unfold Addr.add;split<;>rfl
  obtain⟨g1,g2⟩:=hcf fr _ hlt (hbk▸kN hcell) hF;refine⟨Nat.lt_of_lt_of_le hlt hs,g2,?_⟩;rw [<-hcell];unfold World.cell?;rw [hbk,g1]
 |clo fn first cap v1 v2 y1 y2 h1 h2 e1 e2 r1 r2 i1 i2=>exact .clo fn first cap v1 v2 y1 y2 h1 h2 e1 e2 i1 i2
 |yld k y h1 hk ha=>
  obtain⟨B,hB,hno⟩:=hk;obtain⟨B',hB',hno',hf⟩:=hids k B hB hno;refine .yld k y h1 ⟨B',hB',hno'⟩ λsz es h=> ?_;rw [hB']at h;obtain⟨es0,e0,e1,e2⟩:=hf sz es (Option.some.inj h);rw [e1];exact ha sz es0 (by rw [hB,e0])
theorem RepC.ext{w w':World}{base:Nat}{F0:Nat->Prop}{ρ ρ':Nat->Nat}{H H':ak}{c:C}{y:Value}(hlo:∀(k:Nat) sz es,H[k]? =some (.own sz es)->ρ k<w.heap.size)
  {A:Nat->Prop} (g:ExtA A w ρ H w' ρ' H') (h:RepC w base (Fb F0 ρ H) ρ H c y):RepC w' base (Fb F0 ρ' H') ρ' H' c y:=
 h.mono g.size (λb hb _ hn=>⟨g.same b hb λho=>hn (.inr ho),λhf=>hf.elim (λh=>hn (.inl h)) λh=>hn (.inr (g.own b hb h))⟩)
  λk B hB hno=>by
   obtain⟨B',h1,h2,h3⟩:=g.ids k B hB hno;refine⟨B',h1,h2,λsz es' he=> ?_⟩;obtain⟨es,e0,e1⟩:=h3 sz es' he;exact⟨es,e0,e1,g.bs _ (hlo k sz es (by rw [hB,e0]))⟩
theorem RepCs.mono{w w':World}{base base':Nat}{F F':Nat->Prop}{ρ ρ':Nat->Nat}{H H':ak}{cs:List C}{ys:List Value}
  (hh:∀c y,RepC w base F ρ H c y->RepC w' base' F' ρ' H' c y) (h:RepCs w base F ρ H cs ys):RepCs w' base' F' ρ' H' cs ys:=
 ⟨h.1,λi c hi=>let⟨y,h1,h2⟩:=h.2 i c hi;⟨y,h1,hh c y h2⟩⟩
theorem RepD.mono{w w':World}{base base':Nat}{F F':Nat->Prop}{ρ ρ':Nat->Nat}{H H':ak}{d:D}{y:Value}
  (hh:∀c y,RepC w base F ρ H c y->RepC w' base' F' ρ' H' c y) (h:RepD w base F ρ H d y):RepD w' base' F' ρ' H' d y:=by
 induction h with
 |one c y h=>exact .one c y (hh c y h)
 |agg cs ys h=>exact .agg cs ys (h.mono hh)
 |tup ds ys y hl he hr ih=>exact .tup ds ys y hl he ih
structure HRel(w:World)(base:Nat)(F0:Nat->Prop)(ρ:Nat->Nat)(H:ak):Prop where
 lo:∀(k:Nat) sz es,H[k]? =some (.own sz es)->base<=ρ k/\ρ k<w.heap.size
 inj:∀(k k':Nat) sz es sz' es',H[k]? =some (.own sz es)->H[k']? =some (.own sz' es')->ρ k=ρ k'->k=k'
 fz:∀(k:Nat) sz es,H[k]? =some (.own sz es)->Clean w (ρ k)
 fit:∀(k:Nat) sz es,H[k]? =some (.own sz es)->es.length*sz<=aU w (ρ k)
 wid:∀(k:Nat) sz es,H[k]? =some (.own sz es)->∀(i:Nat) e,es[i]? =some e->e.length=sz
 cell:∀(k:Nat) sz es,H[k]? =some (.own sz es)->∀(i j:Nat) e c,es[i]? =some e->e[j]? =some c->∃y,w.cell? ⟨ρ k,i*sz+j,none⟩=some y/\RepC w base (Fb F0 ρ H) ρ H c y
 laid:LD base w
theorem RepT.one{w:World}{F:Nat->Prop}{t:T}{y:Value}(h:RepT w F t y):y.oneCell'=true:=by
 cases h with
 |v x hx=>exact hx
 |s=>rfl
theorem RepC.one{w:World}{base:Nat}{F:Nat->Prop}{ρ:Nat->Nat}{H:ak}{c:C}{y:Value}(h:RepC w base F ρ H c y):y.oneCell'=true:=by
 cases h with
 |p fr t y h=>exact h.one
 |own=>rfl
 |ptr=>rfl
 |iptr=>rfl
 |clo=>rfl
 |yld k y h1=>exact h1
end Ev
end
noncomputable section
namespace Ev
open Go Go.RowKit
theorem kP{α:Type}{P:Program}{s:Sem α}{a:α}(h:al P s=some a)(w:World):s.run P w= .ok a w:=by
 induction s with
 |pure b=>simp [al]at h;subst h;rfl
 |program k ih=>exact ih P (by simpa [al]using h)
 |_=>simp [al]at h
section
variable {w : World} {base : Nat} {F : Nat → Prop} {ρ : Nat → Nat} {H : ak}
theorem nJ{fr:Bool}{x:Value}(h:x.oneCell'=true):RepC w base F ρ H (.p fr (.v x)) x:= .p fr _ x (.v x h)
theorem uD{fr:Bool}{t:T}{y:Value}(h:RepC w base F ρ H (.p fr t) y):RepC w base F ρ H (pC fr t) y:=by
 cases t with
 |v x=>cases h with|p _ _ _ h=>cases h with|v _ hx=>exact .p true _ _ (.v _ hx)
 |s nn sz l=>exact h
theorem eD{x:Value}(h:x.oneCell'=true):RepD w base F ρ H (mk x) x:= .one _ x (nJ h)
theorem EY{fr:Bool}{sz:Nat}:RepC w base F ρ H (.p fr (.s false sz [])) (.slice none 0 0):=
 .p _ _ _ (.s false sz [] none 0 (λ_ _=> .nilFunc) rfl (Nat.le_refl _) (λ_=>rfl) (λi e h=>by simp at h) (λi e j t h=>by simp at h) λi e j t h=>by simp at h)
theorem qe{x:Value}(h:x.oneCell'=true):RepC w base F ρ H (fF x) x:=by
 unfold fF;split
 .exact EY
 .exact nJ h
theorem uE(x:Value):one1 x=x.oneCell':=by cases x<;>rfl
theorem sU{l:List Value}(h:∀x∈l,x.oneCell'=true):RepCs w base F ρ H (l.map fF) l:=by
 refine⟨by simp,λi c hi=> ?_⟩;simp only [List.getElem?_map,Option.map_eq_some_iff]at hi;obtain⟨x,h1,rfl⟩:=hi;exact⟨x,h1,qe (h x (List.mem_of_getElem? h1))⟩
theorem nK:RepD w base F ρ H bu undef:= .tup [] #[] (λ_=> .nilFunc) rfl (λi d h=>by simp at h) λi d h=>by simp at h
theorem AD{v:Value}{d:D}(h:kM v=some d):RepD w base F ρ H d v:=by
 unfold kM at h;split at h
 .rename_i cs;split at h
  .rename_i ha;simp only [zsI]at h;subst h
   have:=RepD.agg (w:=w) (base:=base) (F:=F) (ρ:=ρ) (H:=H) (cs.toList.map fF) cs.toList (sU λx hx=>by rw [<-uE];exact List.all_eq_true.1 ha x hx)
   simpa using this
  .simp at h
 .simp at h
 .rename_i h1 h2;simp only [zsI]at h;subst h;refine .one _ _ (qe ?_)
  cases v with
  |agg cs=>exact absurd rfl (h1 cs)
  |tuple vs=>exact absurd rfl (h2 vs)
  |_=>rfl
def RelT(w:World)(base:Nat)(F:Nat->Prop)(ρ:Nat->Nat)(H:ak)(t:List D)(a:Act):Prop:=
 a.defers=a.defers/\t.length=a.tmps.size/\∀(i:Nat) d,t[i]? =some d->∃y,a.tmps[i]? =some y/\RepD w base F ρ H d y
def RelG(w:World)(base:Nat)(F:Nat->Prop)(ρ:Nat->Nat)(H:ak)(g:Tmp->Option D)(a:Act):Prop:=∀(i:Nat) d,g i=some d->∃y,a.tmps[i]? =some y/\RepD w base F ρ H d y
theorem RelT.g{t:List D}{a:Act}(h:RelT w base F ρ H t a):RelG w base F ρ H (aE t) a:=h.2.2
theorem RelG.opnd{g:Tmp->Option D}{a:Act}(h:RelG w base F ρ H g a){x:Operand}{d:D}(hx:ay g x=some d):RepD w base F ρ H d (a.eval x):=by
 cases x with
 |tmp i=>
  obtain⟨y,h1,h2⟩:=h i d hx
  have:a.eval (.tmp i)=y:=by simp [Act.eval,Array.getD_eq_getD_getElem?,h1]
  rw [this];exact h2
 |const v=>exact AD hx
 |global g=>simp [ay]at hx
 |func f=>
  simp only [ay,zsI]at hx;subst hx;exact eD rfl
theorem RelT.set{t t':List D}{a:Act}(h:RelT w base F ρ H t a){dst:Option Tmp}{d:D}{y:Value}(hs:jk t dst d=some t')(hr:RepD w base F ρ H d y):RelT w base F ρ H t' (a.put dst y):=by
 obtain⟨h1,h2,h3⟩:=h
 cases dst with
 |none=>simp only [jk,zsI]at hs;subst hs;exact⟨h1,h2,h3⟩
 |some i=>
  simp only [jk]at hs;split at hs
  .rename_i hi;simp only [zsI]at hs;subst hs;refine⟨h1,by simp [Act.put,h2],λk e hk=> ?_⟩;simp only [Act.put];by_cases hik:i=k
   .subst hik;simp only [List.getElem?_set,hi,if_true,zsI]at hk;subst hk;exact⟨y,by simp [Array.getElem?_setIfInBounds,<-h2,hi],hr⟩
   .simp only [List.getElem?_set,hik,if_false]at hk;obtain⟨z,g1,g2⟩:=h3 k e hk;exact⟨z,by simp [Array.getElem?_setIfInBounds,hik,g1],g2⟩
  .simp at hs
theorem RelT.mono{w':World}{F':Nat->Prop}{ρ':Nat->Nat}{H':ak}{t:List D}{a:Act}(hh:∀c y,RepC w base F ρ H c y->RepC w' base F' ρ' H' c y)(h:RelT w base F ρ H t a):
  RelT w' base F' ρ' H' t a:=
 ⟨h.1,h.2.1,λi d hi=>let⟨y,h1,h2⟩:=h.2.2 i d hi;⟨y,h1,h2.mono hh⟩⟩
theorem kS{d:D}{cs:List C}{y:Value}(h:RepD w base F ρ H d y)(hc:eb d=some cs):RepCs w base F ρ H cs y.cells.toList/\∀x∈y.cells.toList,x.oneCell'=true:=by
 have key:∀(cs:List C) (ys:List Value),RepCs w base F ρ H cs ys->∀x∈ys,x.oneCell'=true:=by
  intro cs ys ⟨g1,g2⟩ x hx;obtain⟨i,hi,rfl⟩:=List.getElem_of_mem hx;obtain⟨y,e1,e2⟩:=g2 i cs[i] (by simp [g1,hi]);rw [List.getElem?_eq_getElem hi]at e1;rw [Option.some.inj e1];exact e2.one
 cases h with
 |one c y h=>
  simp only [eb,zsI]at hc;subst hc;have h1:=h.one;have hcell:y.cells.toList= [y]:=by cases y<;>first|rfl|(simp [Value.oneCell']at h1)
  rw [hcell];refine⟨⟨rfl,λi c' hi=> ?_⟩,λx hx=>by simp at hx;subst hx;exact h1⟩
  cases i with
  |zero=>simp at hi;subst hi;exact⟨y,rfl,h⟩
  |succ i=>simp at hi
 |agg cs' ys h=>
  simp only [eb,zsI]at hc;subst hc;refine⟨by simpa [Value.cells]using h,by simpa [Value.cells]using key _ _ h⟩
 |tup=>simp [eb]at hc
theorem kU{c:C}{x y:Value}(h:RepC w base F ρ H c y)(hp:kJ c=some x):y=x:=by
 unfold kJ at hp;split at hp
 .simp only [zsI]at hp;subst hp
  cases h with
  |p fr t y h=>cases h;rfl
 .simp at hp
theorem mm:∀{cs:List C} {xs ys:List Value},RepCs w base F ρ H cs ys->dp cs=some xs->ys=xs
 | [],xs,ys,h,hp=>by
  simp only [dp,zsI]at hp;subst hp;exact List.length_eq_zero_iff.1 h.1.symm
 |c::r,xs,[],h,hp=>by simp [RepCs]at h
 |c::r,xs,y::ys,h,hp=>by
  simp only [dp,zbB,zbE,zsI]at hp;obtain⟨x,h1,xr,h2,rfl⟩:=hp;have hc:=h.2 0 c rfl;simp at hc;have hr:RepCs w base F ρ H r ys:=⟨by have:=h.1;simpa using this,λi c' hi=>by have:=h.2 (i+1) c' (by simpa using hi);simpa using this⟩;rw [kU hc h1,mm hr h2]
theorem cq{d:D}{x y:Value}(h:RepD w base F ρ H d y)(hp:plain d=some x):y=x:=by
 cases h with
 |one c y h=>exact kU h hp
 |agg cs ys h=>
  simp only [plain,zbB,zbE,zsI]at hp;obtain⟨xs,h1,rfl⟩:=hp;rw [mm h h1]
 |tup=>simp [plain]at hp
theorem ig{d:D}{n:Nat}{y:Value}(h:RepD w base F ρ H d y)(hp:eC d=some n):∃k,y= .int k (n:Int):=by
 unfold eC at hp;split at hp
 .rename_i fr k m;split at hp
  .rename_i q;simp only [zsI]at hp;subst hp;exact⟨_,cq h rfl⟩
  .simp at hp
 .simp at hp
theorem qf{d:D}{b:Bool}{y:Value}(h:RepD w base F ρ H d y)(hp:asBool d=some b):y= .bool b:=by
 unfold asBool at hp;split at hp
 .simp only [zsI]at hp;subst hp;exact cq h rfl
 .simp at hp
end
structure dr(P:Program)(ti:TypeId->Option TI):Prop where
 und:∀t i,ti t=some i->P.underlying t=some i.desc
 info:∀t i,ti t=some i->∃(o:TypeInfo) (z:Value),P.info? t=some o/\o.zero=some z/\z.cells.toList=i.zero/\o.size=i.size/\o.bytes=i.bytes
 zero:∀t i,ti t=some i->(∀x∈i.zero,x.oneCell'=true)/\i.zero.length=i.size/\i.bytes<=65536
theorem zo{P:Program}{ti:TypeId->Option TI}(h:dr P ti){t:TypeId}{i:TI}(ht:ti t=some i)(w:World):(isAgg t).run P w= .ok (aH i.desc) w:=by
 unfold isAgg;rw [Sem.run_bind,run_underlying (h.und t i ht) w];cases hd:i.desc<;>simp [Result.andThen,aH,hd]
theorem eE{P:Program}{ti:TypeId->Option TI}(h:dr P ti){t:TypeId}{i:TI}(ht:ti t=some i)(w:World):(sizeOf t).run P w= .ok i.size w:=by
 obtain⟨o,z,h1,h2,h3,h4,h5⟩:=h.info t i ht;simp [sizeOf,typeInfo,h1,h4]
theorem wj{P:Program}{ti:TypeId->Option TI}(h:dr P ti){t:TypeId}{i:TI}(ht:ti t=some i):∃z,z.cells.toList=i.zero/\∀w,(zeroValue t).run P w= .ok z w:=by
 obtain⟨o,z,h1,h2,h3,h4,h5⟩:=h.info t i ht;exact⟨z,h3,λw=>by simp [zeroValue,typeInfo,h1,h2]⟩
end Ev
end
noncomputable section
namespace Ev
open Go Go.RowKit
theorem aR(H:ak)(k:Nat)(b:Blk):(av H k b)[k]? =some b:=by
 unfold av;split
 .rename_i h;simp [h]
 .rename_i h;rw [List.getElem?_append_right (by simp;omega)];simp;rw [show k - (H.length+(k - H.length))=0 by omega];rfl
theorem bJ{H:ak}{k j:Nat}{b B:Blk}(hj:j≠k)(h:H[j]? =some B):(av H k b)[j]? =some B:=by
 have hl:j<H.length:=(List.getElem?_eq_some_iff.1 h).1;unfold av;split
 .rw [List.getElem?_set];simp [show¬k=j by omega,h]
 .rw [List.getElem?_append_left (by simp;omega),List.getElem?_append_left hl,h]
theorem ba{H:ak}{k j:Nat}{b B:Blk}(hj:j≠k)(hB:B≠ .no)(h:(av H k b)[j]? =some B):H[j]? =some B:=by
 unfold av at h;split at h
 .rw [List.getElem?_set]at h;simpa [show¬k=j by omega]using h
 .rename_i hk;by_cases h1:j<H.length
  .rwa [List.getElem?_append_left (by simp;omega),List.getElem?_append_left h1]at h
  .by_cases h2:j<k
   .rw [List.getElem?_append_left (by simp;omega),List.getElem?_append_right (by omega),List.getElem?_replicate]at h;simp [show j - H.length<k - H.length by omega]at h;exact absurd h.symm hB
   .rw [List.getElem?_append_right (by simp;omega)]at h;have hlt:=(List.getElem?_eq_some_iff.1 h).1;simp at hlt;omega
variable {w : World} {base : Nat} {F0 : Nat → Prop} {ρ : Nat → Nat} {H : ak}
theorem HRel.lt(R:HRel w base F0 ρ H):∀(k:Nat) sz es,H[k]? =some (.own sz es)->ρ k<w.heap.size:=λk sz es h=>(R.lo k sz es h).2
theorem eF(R:HRel w base F0 ρ H){w':World}{ρ':Nat->Nat}{H':ak}{A:Nat->Prop}(E:ExtA A w ρ H w' ρ' H')
  (hN:∀(k:Nat) sz es,H'[k]? =some (.own sz es)->
   (H[k]? =some (.own sz es)/\ρ' k=ρ k/\w'.heap[ρ k]? =w.heap[ρ k]?)∨
   (base<=ρ' k/\ρ' k<w'.heap.size/\Clean w' (ρ' k)/\es.length*sz<=aU w' (ρ' k)/\(∀(i:Nat) e,es[i]? =some e->e.length=sz)/\
    ∀(i j:Nat) e c,es[i]? =some e->e[j]? =some c->∃y,w'.cell? ⟨ρ' k,i*sz+j,none⟩=some y/\RepC w base (Fb F0 ρ H) ρ H c y))
  (inj:∀(k k':Nat) sz es sz' es',H'[k]? =some (.own sz es)->H'[k']? =some (.own sz' es')->ρ' k=ρ' k'->k=k'):HRel w' base F0 ρ' H' where
 lo:=λk sz es h=>by
  rcases hN k sz es h with⟨h1,h2,h3⟩|⟨h1,h2,_⟩
  .have:=R.lo k sz es h1;have:=E.size;omega
  .exact⟨h1,h2⟩
 inj:=inj
 fz:=λk sz es h=>by
  rcases hN k sz es h with⟨h1,h2,h3⟩|⟨_,_,h1,_⟩
  .rw [h2];exact(R.fz k sz es h1).keep h3
  .exact h1
 laid:=R.laid.keep (λh1 h2=>E.same 0 h2 λ⟨k,sz,es,g1,g2⟩=>by have:=(R.lo k sz es g1).1;omega) E.size
 fit:=λk sz es h=>by
  rcases hN k sz es h with⟨h1,h2,h3⟩|⟨_,_,_,h1,_⟩
  .rw [h2,show aU w' (ρ k)=aU w (ρ k)by unfold aU;rw [h3]];exact R.fit k sz es h1
  .exact h1
 wid:=λk sz es h=>by
  rcases hN k sz es h with⟨h1,h2,h3⟩|⟨_,_,_,_,h1,_⟩
  .exact R.wid k sz es h1
  .exact h1
 cell:=λk sz es h i j e c hi hj=>by
  rcases hN k sz es h with⟨h1,h2,h3⟩|⟨_,_,_,_,_,h1⟩
  .obtain⟨y,g1,g2⟩:=R.cell k sz es h1 i j e c hi hj;exact⟨y,by rw [h2,World.cell?_of_block (w:=w) h3];exact g1,g2.ext R.lt E⟩
  .obtain⟨y,g1,g2⟩:=h1 i j e c hi hj;exact⟨y,g1,g2.ext R.lt E⟩
theorem qg(R:HRel w base F0 ρ H)(hb:base<=w.heap.size){nid:Nat}(hn:∀B,H[nid]? =some B->B= .no){w1:World}(hh:w1.heap=w.heap)(ho:w1.os=w.os)(ht:w1.tape=w.tape)(hou:w1.output=w.output)
  {arr:Array Value} {ty:TypeId} {sz:Nat} {es:List (List C)} (hfit:es.length*sz<=arr.size) (hwid:∀(i:Nat) e,es[i]? =some e->e.length=sz)
  (hc:∀(i j:Nat) e c,es[i]? =some e->e[j]? =some c->∃y,arr[i*sz+j]? =some y/\RepC w base (Fb F0 ρ H) ρ H c y):
  HRel (w1.alloc (.cells arr ty)) base F0 (λk=>if k=nid then w.heap.size else ρ k) (av H nid (.own sz es))/\
   Ext w ρ H (w1.alloc (.cells arr ty)) (λk=>if k=nid then w.heap.size else ρ k) (av H nid (.own sz es)):=by
 have hsz:(w1.alloc (.cells arr ty)).heap.size=w.heap.size+1:=by simp [World.alloc,hh]
 have hold:∀b,b<w.heap.size->(w1.alloc (.cells arr ty)).heap[b]? =w.heap[b]? :=λb hlt=>by
  show(w1.heap.push _)[b]? =_;rw [Array.getElem?_push,hh,if_neg (by omega)]
 have hnew:(w1.alloc (.cells arr ty)).heap[w.heap.size]? =some (.cells arr ty):=by
  show(w1.heap.push _)[w.heap.size]? =_;rw [Array.getElem?_push,hh,if_pos rfl]
 have E:Ext w ρ H (w1.alloc (.cells arr ty)) (λk=>if k=nid then w.heap.size else ρ k) (av H nid (.own sz es)):=by
  refine⟨ho,ht,hou,by omega,λb hlt _=>hold b hlt,λb hlt ⟨k,sz',es',h1,h2⟩=> ?_,λb hlt=>by unfold aU;rw [hold b hlt],λk B hB hno=> ?_,λk es' _ hB=> ?_⟩
  .by_cases hk:k=nid
   .simp only [hk,if_true]at h2;omega
   .simp only [hk,if_false]at h2;exact⟨k,sz',es',ba hk (by simp) h1,h2⟩
  .have hk:k≠nid:=λhk=>hno (hn B (hk▸hB));exact⟨B,bJ hk hB,hno,λsz es' he=>⟨es',he,by simp [hk]⟩⟩
  .have hk:k≠nid:=λhk=>by have:=hn _ (hk▸hB);simp at this
   exact⟨bJ hk hB,hold _ (R.lt k _ _ hB)⟩
 refine⟨eF R E (λk sz' es' h=> ?_) λk k' s1 e1 s2 e2 h1 h2 h3=> ?_,E⟩
 .by_cases hk:k=nid
  .subst hk;rw [aR]at h;cases h;refine .inr ⟨by simpa using hb,by simp [hsz],?_,?_,hwid,λi j e c hi hj=> ?_⟩
   .simp only [if_true];intro c t lo hi hg;rw [hnew]at hg;cases hg;exact .inl rfl
   .simp only [if_true];unfold aU;rw [hnew];exact hfit
   .obtain⟨y,g1,g2⟩:=hc i j e c hi hj;refine⟨y,?_,g2⟩;simp only [if_true];unfold World.cell?;simp only [hnew];simpa using g1
  .have h1:=ba hk (by simp) h;exact .inl ⟨h1,by simp [hk],hold _ (R.lt k _ _ h1)⟩
 .by_cases hk:k=nid<;>by_cases hk':k'=nid
  .omega
  .have g2:=R.lt k' _ _ (ba hk' (by simp) h2);simp [hk,hk']at h3;omega
  .have g1:=R.lt k _ _ (ba hk (by simp) h1);simp [hk,hk']at h3;omega
  .simp only [hk,hk',if_false]at h3;exact R.inj k k' _ _ _ _ (ba hk (by simp) h1) (ba hk' (by simp) h2) h3
theorem jL(R:HRel w base F0 ρ H){k sz:Nat}{es es':List (List C)}(hk:H[k]? =some (.own sz es)){w':World}(hsz:w'.heap.size=w.heap.size)(ho:w'.os=w.os)(ht:w'.tape=w.tape)(hou:w'.output=w.output)
  (hsame:∀b,b≠ρ k->w'.heap[b]? =w.heap[b]?) (hbs:aU w' (ρ k)=aU w (ρ k)) (hf:Clean w' (ρ k)) (hlen:es'.length=es.length) (hz:sz=0->es'=es/\w'.heap[ρ k]? =w.heap[ρ k]?) (hwid:∀(i:Nat) e,es'[i]? =some e->e.length=sz)
  (hc:∀(i j:Nat) e c,es'[i]? =some e->e[j]? =some c->∃y,w'.cell? ⟨ρ k,i*sz+j,none⟩=some y/\RepC w base (Fb F0 ρ H) ρ H c y):
  HRel w' base F0 ρ (av H k (.own sz es'))/\Ext w ρ H w' ρ (av H k (.own sz es')):=by
 have E:Ext w ρ H w' ρ (av H k (.own sz es')):=by
  refine⟨ho,ht,hou,by omega,λb hlt hn=>hsame b λe=>hn ⟨k,sz,es,hk,e.symm⟩,λb hlt ⟨j,sz',es1,h1,h2⟩=> ?_,λb hlt=> ?_,λj B hB hno=> ?_,λj es1 _ hB=> ?_⟩
  .by_cases hj:j=k
   .subst hj;exact⟨_,sz,es,hk,h2⟩
   .exact⟨j,sz',es1,ba hj (by simp) h1,h2⟩
  .by_cases hb:b=ρ k
   .rw [hb];exact hbs
   .unfold aU;rw [hsame b hb]
  .by_cases hj:j=k
   .subst hj;rw [hk]at hB;cases hB;exact⟨_,aR _ _ _,by simp,λsz2 es2 he=>by cases he;exact⟨es,rfl,rfl⟩⟩
   .exact⟨B,bJ hj hB,hno,λsz2 es2 he=>⟨es2,he,rfl⟩⟩
  .by_cases hj:j=k
   .subst hj;rw [hk]at hB;cases hB;obtain⟨e1,e2⟩:=hz rfl;exact⟨by rw [aR,e1],e2⟩
   .exact⟨bJ hj hB,hsame _ λe=>hj (R.inj j k _ _ _ _ hB hk e)⟩
 refine⟨eF R E (λj sz' es1 h=> ?_) λj j' s1 e1 s2 e2 h1 h2 h3=> ?_,E⟩
 .by_cases hj:j=k
  .subst hj;rw [aR]at h;cases h
   have:=R.lo j sz es hk
   exact .inr ⟨this.1,by omega,hf,by rw [hlen,hbs];exact R.fit j sz es hk,hwid,hc⟩
  .have h1:=ba hj (by simp) h;exact .inl ⟨h1,rfl,hsame _ λe=>hj (R.inj j k _ _ _ _ h1 hk e)⟩
 .have own:∀(j s1:Nat) (e1:List (List C)),(av H k (.own sz es'))[j]? =some (Blk.own s1 e1)->∃s2 e2,H[j]? =some (Blk.own s2 e2):=λj s1 e1 h=>by
   by_cases hj:j=k
   .subst hj;exact⟨_,_,hk⟩
   .exact⟨_,_,ba hj (by simp) h⟩
  obtain⟨_,_,g1⟩:=own j _ _ h1;obtain⟨_,_,g2⟩:=own j' _ _ h2;exact R.inj j j' _ _ _ _ g1 g2 h3
theorem AE(R:HRel w base F0 ρ H){k nid sz:Nat}{es es':List (List C)}(hk:H[k]? =some (.own sz es))(hn:∀B,H[nid]? =some B->B= .no){w':World}(hsz:w'.heap.size=w.heap.size)(ho:w'.os=w.os)(ht:w'.tape=w.tape)(hou:w'.output=w.output)
  (hsame:∀b,b≠ρ k->w'.heap[b]? =w.heap[b]?) (hbs:aU w' (ρ k)=aU w (ρ k)) (hf:Clean w' (ρ k)) (hfit:es'.length*sz<=aU w (ρ k)) (hz:sz≠0) (hwid:∀(i:Nat) e,es'[i]? =some e->e.length=sz)
  (hc:∀(i j:Nat) e c,es'[i]? =some e->e[j]? =some c->∃y,w'.cell? ⟨ρ k,i*sz+j,none⟩=some y/\RepC w base (Fb F0 ρ H) ρ H c y):
  HRel w' base F0 (λj=>if j=nid then ρ k else ρ j) (av (av H k .dead) nid (.own sz es'))/\Ext w ρ H w' (λj=>if j=nid then ρ k else ρ j) (av (av H k .dead) nid (.own sz es')):=by
 have hkn:k≠nid:=λe=>by have:=hn _ (e▸hk);simp at this
 have hback:∀j B,j≠nid->j≠k->B≠ .no->(av (av H k .dead) nid (.own sz es'))[j]? =some B->H[j]? =some B:=λj B h1 h2 hB h=>ba h2 hB (ba h1 hB h);have hdead:(av (av H k .dead) nid (.own sz es'))[k]? =some .dead:=bJ hkn (aR _ _ _)
 have E:Ext w ρ H w' (λj=>if j=nid then ρ k else ρ j) (av (av H k .dead) nid (.own sz es')):=by
  refine⟨ho,ht,hou,by omega,λb hlt hnn=>hsame b λe=>hnn ⟨k,sz,es,hk,e.symm⟩,λb hlt ⟨j,sz',es1,h1,h2⟩=> ?_,λb hlt=> ?_,λj B hB hno=> ?_,λj es1 _ hB=> ?_⟩
  .by_cases hj:j=nid
   .simp only [hj,if_true]at h2;exact⟨k,sz,es,hk,h2⟩
   .by_cases hjk:j=k
    .subst hjk;rw [hdead]at h1;cases h1
    .simp only [hj,if_false]at h2;exact⟨j,sz',es1,hback j _ hj hjk (by simp) h1,h2⟩
  .by_cases hb:b=ρ k
   .rw [hb];exact hbs
   .unfold aU;rw [hsame b hb]
  .have hj:j≠nid:=λe=>hno (hn B (e▸hB));by_cases hjk:j=k
   .subst hjk;exact⟨_,hdead,by simp,λsz2 es2 he=>by cases he⟩
   .exact⟨B,bJ hj (bJ hjk hB),hno,λsz2 es2 he=>⟨es2,he,by simp [hj]⟩⟩
  .have hj:j≠nid:=λe=>by have:=hn _ (e▸hB);simp at this
   by_cases hjk:j=k
   .subst hjk;rw [hk]at hB;cases hB;exact absurd rfl hz
   .exact⟨bJ hj (bJ hjk hB),hsame _ λe=>hjk (R.inj j k _ _ _ _ hB hk e)⟩
 refine⟨eF R E (λj sz' es1 h=> ?_) λj j' s1 e1 s2 e2 h1 h2 h3=> ?_,E⟩
 .by_cases hj:j=nid
  .subst hj;rw [aR]at h;cases h
   have:=R.lo k sz es hk
   simp only [if_true];exact .inr ⟨this.1,by omega,hf,by rw [hbs];exact hfit,hwid,hc⟩
  .by_cases hjk:j=k
   .subst hjk;rw [hdead]at h;cases h
   .have h1:=hback j _ hj hjk (by simp) h;exact .inl ⟨h1,by simp [hj],hsame _ λe=>hjk (R.inj j k _ _ _ _ h1 hk e)⟩
 .have key:∀j s1 e1,(av (av H k .dead) nid (.own sz es'))[j]? =some (.own s1 e1)->j=nid∨(j≠nid/\j≠k/\H[j]? =some (.own s1 e1)):=λj s1 e1 h=>by
   by_cases hj:j=nid
   .exact .inl hj
   .by_cases hjk:j=k
    .subst hjk;rw [hdead]at h;cases h
    .exact .inr ⟨hj,hjk,hback j _ hj hjk (by simp) h⟩
  rcases key j _ _ h1 with rfl|⟨a1,a2,a3⟩<;>rcases key j' _ _ h2 with rfl|⟨b1,b2,b3⟩
  .rfl
  .simp only [if_true,b1,if_false]at h3;exact absurd (R.inj k j' _ _ _ _ hk b3 h3).symm b2
  .simp only [if_true,a1,if_false]at h3;exact absurd (R.inj j k _ _ _ _ a3 hk h3) a2
  .simp only [a1,b1,if_false]at h3;exact R.inj j j' _ _ _ _ a3 b3 h3
end Ev
end
noncomputable section
namespace Ev
open Go Go.RowKit
theorem oE{α β:Type}[Inhabited β]{Q:Nat->α->β->Prop}(cs:List α)(h:∀(i:Nat) c,cs[i]? =some c->∃y,Q i c y):∃ys:List β,ys.length=cs.length/\∀(i:Nat) c,cs[i]? =some c->∃y,ys[i]? =some y/\Q i c y:=by
 have h':∀i:Nat,∃y:β,∀c,cs[i]? =some c->Q i c y:=λi=>by
  cases hc:cs[i]? with
  |none=>exact⟨default,λc hh=>by cases hh⟩
  |some c=>obtain⟨y,hy⟩:=h i c hc;exact⟨y,λc' hh=>by cases hh;exact hy⟩
 refine⟨(List.range cs.length).map λi=>(h' i).choose,by simp,λi c hi=> ?_⟩;have hl:=(List.getElem?_eq_some_iff.1 hi).1;exact⟨_,by simp [hl],(h' i).choose_spec c hi⟩
theorem dt{α:Type}{l r:List α}{i n:Nat}(h:cut l i n=some r):r.length=n/\i+n<=l.length/\∀j,j<n->r[j]? =l[i+j]? :=by
 unfold cut at h;split at h
 .rename_i hle;simp only [zsI]at h;subst h;refine⟨by simp;omega,hle,λj hj=> ?_⟩;rw [List.getElem?_take,if_pos hj,List.getElem?_drop]
 .simp at h
theorem wk{agg:Bool}{cs:List C}{d:D}(h:bR agg cs=some d):if agg then d= .agg cs else∃c,cs= [c]/\d= .one c:=by
 unfold bR at h;cases agg
 .simp only [Bool.false_eq_true,if_false]at h ⊢;split at h
  .simp only [zsI]at h;exact⟨_,rfl,h.symm⟩
  .simp at h
 .simpa using h.symm
theorem pI(a:Addr)(m n:Nat):(a.add m).add n=a.add (m+n):=by
 unfold Addr.add;split<;>split<;>simp_all<;>omega
theorem bk{H:ak}{k sz:Nat}{es:List (List C)}(h:ao H k=some (sz,es)):H[k]? =some (.own sz es):=by
 unfold ao at h;split at h
 .simp only [zsI,Prod.mk.injEq]at h;obtain⟨rfl,rfl⟩:=h;assumption
 .simp at h
section
variable {P : Program} {ti : TypeId → Option TI}
theorem qh(h:dr P ti){ty:TypeId}{i:TI}(ht:ti ty=some i)(w:World)(a:Addr)(ys:List Value)(hc:∀(j:Nat) v,ys[j]? =some v->w.cell? (a.add j)=some v)
  (hl:ys.length=if aH i.desc then i.size else 1):(Instr.loadAt ty (.pointer (some a))).run P w= .ok (if aH i.desc then .agg ys.toArray else ys.headD undef) w:=by
 have h1:=zo h ht w;have h2:=eE h ht w;cases hd:aH i.desc
 .rw [hd]at h1 hl;simp only [Bool.false_eq_true,if_false]at hl
  match ys,hl with
  | [y],_=>
   have h3:=hc 0 y rfl;rw [Addr.add_zero']at h3;simp [Instr.loadAt,Instr.sureAddr,loadVar,h1,load,Sem.run,h3]
 .rw [hd]at h1 hl;simp only [if_true]at hl;have h3:=run_loadCells_list (P:=P) w a ys hc;rw [hl]at h3;simp [Instr.loadAt,Instr.sureAddr,loadVar,h1,h2,h3]
variable {w : World} {base : Nat} {F0 : Nat → Prop} {ρ : Nat → Nat} {H : ak}
theorem kW{F:Nat->Prop}{i:TI}{cs:List C}{d:D}{ys:List Value}(ho:bR (aH i.desc) cs=some d)(hr:RepCs w base F ρ H cs ys):
  RepD w base F ρ H d (if aH i.desc then .agg ys.toArray else ys.headD undef):=by
 have:=wk ho
 cases hd:aH i.desc
 .rw [hd]at this;simp only [Bool.false_eq_true,if_false]at this ⊢;obtain⟨c,rfl,rfl⟩:=this;obtain⟨y,h1,h2⟩:=hr.2 0 c rfl
  match ys,hr.1,h1 with
  | [z],_,h1=>simp at h1;subst h1;exact .one _ _ h2
 .rw [hd]at this;simp only [if_true]at this ⊢;subst this;exact .agg _ _ hr
theorem zp(h:dr P ti){ty:TypeId}{i:TI}(ht:ti ty=some i)(R:HRel w base F0 ρ H){d e:D}{y:Value}(hy:RepD w base (Fb F0 ρ H) ρ H d y)
  (hl:load H (aH i.desc) (if aH i.desc then i.size else 1) d=some e):∃z,(Instr.loadAt ty y).run P w= .ok z w/\RepD w base (Fb F0 ρ H) ρ H e z:=by
 unfold load at hl;split at hl
 .rename_i k ii jj;simp only [zbB,zbE]at hl;obtain⟨⟨bz,es⟩,h1,row,h2,cs,h3,h4⟩:=hl;have hb:=bk h1;obtain⟨c1,c2,c3⟩:=dt h3
  cases hy with
  |one c y hy=>
   cases hy with
   |ptr k i' j' a hk ha=>
    have ha':=ha _ _ hb
    obtain⟨ys,y1,y2⟩:=oE (Q:=λn c y=>w.cell? ⟨ρ k,ii*bz+(jj+n),none⟩=some y/\RepC w base (Fb F0 ρ H) ρ H c y) cs (λn c hn=>by
     have hlt:=(List.getElem?_eq_some_iff.1 hn).1;rw [c1]at hlt;rw [c3 n hlt]at hn
     exact R.cell k bz es hb ii (jj+n) row c h2 hn)
    have hrep:RepCs w base (Fb F0 ρ H) ρ H cs ys:=⟨y1.symm,λn c hn=>let⟨y,g1,g2,g3⟩:=y2 n c hn;⟨y,g1,g3⟩⟩;refine⟨_,qh h ht w a ys (λn v hv=> ?_) (by rw [y1,c1]),kW h4 hrep⟩;have hlt:=(List.getElem?_eq_some_iff.1 hv).1;obtain⟨y,g1,g2,g3⟩:=y2 n cs[n] (by simp [<-y1,hlt]);rw [hv]at g1;cases g1;rw [ha',Addr.add_mid,Nat.add_assoc];exact g2
 .rename_i fr sz l ii jj;simp only [zbB,zbE]at hl;obtain⟨row,h2,cs,h3,h4⟩:=hl;obtain⟨c1,c2,c3⟩:=dt h3
  cases hy with
  |one c y hy=>
   cases hy with
   |iptr fr sz l i' j' a yy hm hr=>
    obtain⟨ys,y1,y2⟩:=oE (Q:=λn c y=>w.cell? (a.add n)=some y/\RepC w base (Fb F0 ρ H) ρ H c y) cs (λn c hn=>by
     have hlt:=(List.getElem?_eq_some_iff.1 hn).1;rw [c1]at hlt;rw [c3 n hlt,List.getElem?_map,Option.map_eq_some_iff]at hn;obtain⟨t,g1,rfl⟩:=hn;obtain⟨e1,e2,e3⟩:=hm row n t h2 g1
     exact⟨yy n,e3,uD (.p fr t _ (hr row n t h2 g1))⟩)
    have hrep:RepCs w base (Fb F0 ρ H) ρ H cs ys:=⟨y1.symm,λn c hn=>let⟨y,g1,g2,g3⟩:=y2 n c hn;⟨y,g1,g3⟩⟩;refine⟨_,qh h ht w a ys (λn v hv=> ?_) (by rw [y1,c1]),kW h4 hrep⟩;have hlt:=(List.getElem?_eq_some_iff.1 hv).1;obtain⟨y,g1,g2,g3⟩:=y2 n cs[n] (by simp [<-y1,hlt]);rw [hv]at g1;cases g1;exact g2
 .simp at hl
theorem eG(b:Nat):∀(vs:List Value) (o:Nat) (w:World),(w.setCells b o vs).heap.size=w.heap.size/\(w.setCells b o vs).os=w.os/\(w.setCells b o vs).tape=w.tape/\(w.setCells b o vs).output=w.output/\
  (∀k,k≠b->(w.setCells b o vs).heap[k]? =w.heap[k]?)/\aU (w.setCells b o vs) b=aU w b
 | [],o,w=>⟨rfl,rfl,rfl,rfl,λ_ _=>rfl,rfl⟩
 |v::r,o,w=>by
  obtain⟨h1,h2,h3,h4,h5,h6⟩:=eG b r (o+1) (w.setCell ⟨b,o,none⟩ v);refine⟨h1.trans (by simp [World.setCell]),h2,h3,h4,λk hk=>(h5 k hk).trans (Below.heap_setCell _ _ _ _ hk),h6.trans ?_⟩;unfold aU World.setCell;simp only [Array.getElem?_modify]
  cases hb:w.heap[b]? with
  |none=>simp
  |some x=>cases x<;>simp
def Good(P:Program)(base:Nat)(F0:Nat->Prop)(w:World)(ρ:Nat->Nat)(H:ak)(s:Sem Value)(e:Eff):Prop:=
 ∃y w' ρ',s.run P w= .ok y w'/\HRel w' base F0 ρ' (apply H e.upd)/\Ext w ρ H w' ρ' (apply H e.upd)/\RepD w' base (Fb F0 ρ' (apply H e.upd)) ρ' (apply H e.upd) e.v y
theorem aC(R:HRel w base F0 ρ H){s:Sem Value}{d:D}{y:Value}(h1:s.run P w= .ok y w)(h2:RepD w base (Fb F0 ρ H) ρ H d y):Good P base F0 w ρ H s {v:=d}:=
 ⟨y,w,ρ,h1,R,Ext.refl _ _ _,h2⟩
theorem kZ{α:Type}{l r xs:List α}{i:Nat}(h:patch l i xs=some r):i+xs.length<=l.length/\r.length=l.length/\∀j,r[j]? =if i<=j/\j<i+xs.length then xs[j - i]? else l[j]? :=by
 unfold patch at h;split at h
 .rename_i hle;simp only [zsI]at h;subst h;refine⟨hle,by simp;omega,λj=> ?_⟩;rw [List.append_assoc];by_cases h1:j<i
  .rw [List.getElem?_append_left (by simp;omega),List.getElem?_take,if_pos h1,if_neg (by omega)]
  .rw [List.getElem?_append_right (by simp;omega)];simp only [List.length_take,show min i l.length=i by omega];by_cases h2:j<i+xs.length
   .rw [List.getElem?_append_left (by omega),if_pos ⟨by omega,h2⟩]
   .rw [List.getElem?_append_right (by omega),if_neg (by omega),List.getElem?_drop,show i+xs.length+(j - i - xs.length)=j by omega]
 .simp at h
theorem Cj(h:dr P ti){ty:TypeId}{i:TI}(ht:ti ty=some i)(R:HRel w base F0 ρ H){da dx:D}{a x:Value}(ha:RepD w base (Fb F0 ρ H) ρ H da a)(hx:RepD w base (Fb F0 ρ H) ρ H dx x){e:Eff}
  (hs:store H i.size da dx=some e):Good P base F0 w ρ H (do Instr.storeAt ty a x;pure undef) e:=by
 unfold store at hs;split at hs
 .rename_i k ii jj;simp only [zbB,zbE]at hs;obtain⟨cs,h1,h2⟩:=hs;split at h2
  .rename_i hlen;simp only [zbE,zsI]at h2;obtain⟨⟨bz,es⟩,h2,row,h3,row',h4,rfl⟩:=h2;have hb:=bk h2;obtain⟨p1,p2,p3⟩:=kZ h4;obtain⟨hrx,hone⟩:=kS hx h1;have hwid:=R.wid k bz es hb ii row h3
   cases ha with
   |one c y ha=>
    cases ha with
    |ptr k i' j' a hk haa=>
     have haa':=haa _ _ hb;subst haa'
     have hcell:∀n,n<cs.length->(w.cell? ⟨ρ k,ii*bz+jj+n,none⟩).isSome=true:=λn hn=>by
      obtain⟨c,hc⟩:∃c,row[jj+n]? =some c:=⟨row[jj+n],by simp⟩;obtain⟨y,g1,_⟩:=R.cell k bz es hb ii (jj+n) row c h3 hc;rw [Nat.add_assoc,g1];rfl
     have hl2:x.cells.toList.length=cs.length:=hrx.1.symm;have hst:=run_storeCells_cells (P:=P) (ρ k) (ii*bz+jj) x.cells.toList 0 w (λn hn=>by simpa using hcell n (by omega)) (λn hn=>(R.fz k bz es hb).fz (cell_lt.2 (by simpa using hcell n (by omega)))) hone;simp only [Nat.add_zero]at hst;have hsize:=eE h ht w
     have hrun:(do Instr.storeAt ty (.pointer (some ⟨ρ k,ii*bz+jj,none⟩)) x;pure undef:Sem Value).run P w= .ok undef (w.setCells (ρ k) (ii*bz+jj) x.cells.toList):=by
      have:x.cells.size=i.size:=by rw [<-hlen,<-hl2];simp
      simp [Instr.storeAt,Instr.sureAddr,storeVar,hsize,this,hst]
     obtain⟨f1,f2,f3,f4,f5,f6⟩:=eG (ρ k) x.cells.toList (ii*bz+jj) w
     have hT:=jL R (es':=es.set ii row') hb f1 f2 f3 f4 f5 f6 ((R.fz k bz es hb).setCells _ _ _) (by simp) (λhz=>by
       have hr0:row= []:=List.length_eq_zero_iff.1 (by omega);have hr1:row'= []:=List.length_eq_zero_iff.1 (by omega);have hx0:x.cells.toList= []:=List.length_eq_zero_iff.1 (by omega);subst hr0 hr1;rw [hx0];obtain⟨hlt,h5⟩:=List.getElem?_eq_some_iff.1 h3;refine⟨List.ext_getElem? λn=> ?_,rfl⟩;rw [List.getElem?_set];split
       .rename_i he;subst he;exact h3.symm
       .rfl)
      (λn e hn=>by
       rw [List.getElem?_set]at hn;split at hn
       .split at hn
        .cases hn;rw [p2];exact hwid
        .simp at hn
       .exact R.wid k bz es hb n e hn)
      (λn m e c hn hm=>by
       by_cases hni:n=ii
       .subst hni;rw [List.getElem?_set]at hn;simp only [if_true]at hn;split at hn
        .cases hn;rw [p3 m]at hm;split at hm
         .rename_i hr;obtain⟨y,g1,g2⟩:=hrx.2 (m - jj) c hm;refine⟨y,?_,g2⟩;have hlt:=(List.getElem?_eq_some_iff.1 g1).1
          have:=World.cell?_setCells_in (ρ k) x.cells.toList (n*bz+jj) w (λq hq=>hcell q (by omega)) (m - jj) hlt
          rw [show n*bz+jj+(m - jj)=n*bz+m by omega]at this;rw [this,<-g1];simp
         .rename_i hr;obtain⟨y,g1,g2⟩:=R.cell k bz es hb n m row c h3 hm;refine⟨y,?_,g2⟩;rw [World.cell?_setCells_out _ _ _ _ _ (λ_ _=> ?_)]
          .exact g1
          .simp only;rw [hl2];omega
        .simp at hn
       .rw [List.getElem?_set,if_neg (by omega)]at hn;obtain⟨y,g1,g2⟩:=R.cell k bz es hb n m e c hn hm;refine⟨y,?_,g2⟩;rw [World.cell?_setCells_out _ _ _ _ _ (λ_ _=> ?_)]
        .exact g1
        .have e1:=R.wid k bz es hb n e hn;have e2:=(List.getElem?_eq_some_iff.1 hm).1;simp only;rw [hl2];rcases Nat.lt_or_gt_of_ne hni with hlt|hlt
         .left
          have:(n+1)*bz<=ii*bz:=Nat.mul_le_mul_right _ hlt
          rw [Nat.add_mul]at this;omega
         .right
          have:(ii+1)*bz<=n*bz:=Nat.mul_le_mul_right _ hlt
          rw [Nat.add_mul]at this
          omega)
     exact⟨undef,_,ρ,hrun,hT.1,hT.2,nK⟩
  .simp at h2
 .simp at hs
end
end Ev
end
noncomputable section
namespace Ev
open Go Go.RowKit
section
variable {P : Program} {ti : TypeId → Option TI} {w : World} {base : Nat} {F0 : Nat → Prop} {ρ : Nat → Nat} {H : ak}
theorem oF{t:TI}{f:Nat}{fd:Field}(h:fk t f=some fd):∃fs,t.desc= .struct fs/\fs[f]? =some fd:=by
 unfold fk at h;split at h
 .rename_i fs hd;exact⟨fs,hd,by simpa using h⟩
 .simp at h
theorem mn(h:dr P ti){ty:TypeId}{i ft:TI}(ht:ti ty=some i){f:Nat}{fd:Field}(hf:fk i f=some fd)(hft:ti fd.type=some ft)(hz:¬ft.size=0)(a:Addr)(w:World):
  (Instr.fieldAt ty (.pointer (some a)) f).run P w= .ok (.pointer (some (a.add fd.offset))) w:=by
 obtain⟨fs,h1,h2⟩:=oF hf;have hs:=eE h hft w;have hu:=run_underlying (h.und ty i ht) w;rw [h1]at hu;simp [Instr.fieldAt,hu,h2,Instr.sureAddr,fieldPlace,hs,hz]
theorem oG{F:Nat->Prop}{k i j n:Nat}{a:Addr}(h:RepC w base F ρ H (.ptr k i j) (.pointer (some a))):RepC w base F ρ H (.ptr k i (j+n)) (.pointer (some (a.add n))):=by
 cases h with
 |ptr k i j a hk ha=>
  refine .ptr k i (j+n) _ hk λsz es hb=> ?_;rw [ha sz es hb,Addr.add_mid,Nat.add_assoc]
theorem mq{F:Nat->Prop}{fr:Bool}{sz:Nat}{l:List (List T)}{i j n:Nat}{a:Addr}(h:RepC w base F ρ H (.iptr fr sz l i j) (.pointer (some a))):
  RepC w base F ρ H (.iptr fr sz l i (j+n)) (.pointer (some (a.add n))):=by
 cases h with
 |iptr fr sz l i j a y hm hr=>
  refine .iptr fr sz l i (j+n) _ (λm=>y (n+m)) (λe j' t h1 h2=> ?_) λe j' t h1 h2=>hr e (n+j') t h1 (by rw [<-Nat.add_assoc];exact h2);obtain⟨g1,g2,g3⟩:=hm e (n+j') t h1 (by rw [<-Nat.add_assoc];exact h2);have hbk:(a.add n).block=a.block:=by unfold Addr.add;split<;>rfl
  rw [hbk,pI];exact⟨g1,g2,g3⟩
theorem bF{t:TI}{e:TypeId}(h:aP t=some e):t.desc= .slice e:=by
 unfold aP at h;split at h
 .simp only [zsI]at h;subst h;assumption
 .simp at h
theorem jn(h:dr P ti){ty e:TypeId}{i:TI}{n c:Nat}(ht:ti ty=some i)(hd:i.desc= .slice e){te:TI}(hte:ti e=some te){a:Addr}{k:IntKind}{x:Nat}(hx:x<n)(w:World):
  (Instr.indexAt ty (.slice (some a) n c) (.int k (x:Int))).run P w= .ok (.pointer (some (a.add (x*te.size)))) w:=by
 have hu:=run_underlying (h.und ty i ht) w;rw [hd]at hu;have hs:=eE h hte w;have h1:(0:Int)<=(x:Int)/\(x:Int)<(n:Int):=by omega
 simp [Instr.indexAt,asIntOf,hu,h1,hs];intro hh;omega
theorem jo(h:dr P ti){ty e:TypeId}{i:TI}{n:Nat}(ht:ti ty=some i)(hd:i.desc= .array n e){te:TI}(hte:ti e=some te){a:Addr}{k:IntKind}{x:Nat}(hx:x<n)(w:World):
  (Instr.indexAt ty (.pointer (some a)) (.int k (x:Int))).run P w= .ok (.pointer (some (a.add (x*te.size)))) w:=by
 have hu:=run_underlying (h.und ty i ht) w;rw [hd]at hu;have hs:=eE h hte w;have h1:(0:Int)<=(x:Int)/\(x:Int)<(n:Int):=by omega
 simp [Instr.indexAt,asIntOf,hu,h1,hs,Instr.sureAddr];intro hh;omega
theorem Ck{F:Nat->Prop}{fr nn:Bool}{sz:Nat}{l:List (List T)}{a:Addr}{n c x:Nat}(h:RepC w base F ρ H (.p fr (.s nn sz l)) (.slice (some a) n c)):
  RepC w base F ρ H (.iptr fr sz l x 0) (.pointer (some (a.add (x*sz)))):=by
 cases h with
 |p fr t y h=>
  cases h with
  |s nn sz l a c y hn hc h0 hl hm hr=>
   refine .iptr fr sz l x 0 _ (λj=>y x j) (λe j' t h1 h2=> ?_) λe j' t h1 h2=>hr x e j' t h1 (by simpa using h2);obtain⟨b,hb,g1,g2,g3⟩:=hm x e j' t h1 (by simpa using h2);cases hb;have hbk:(a.add (x*sz)).block=a.block:=by unfold Addr.add;split<;>rfl
   rw [hbk,pI];exact⟨g1,g2,g3⟩
theorem nL{F:Nat->Prop}{fr nn:Bool}{sz:Nat}{l:List (List T)}{y:Value}(h:RepC w base F ρ H (.p fr (.s nn sz l)) y):∃a c,y= .slice a l.length c/\nn=a.isSome/\l.length<=c/\(a=none->c=0):=by
 cases h with
 |p fr t y h=>cases h with|s nn sz l a c y hn hc h0 hl hm hr=>exact⟨a,c,rfl,hn,hc,h0⟩
theorem po{n c M:Nat}{lo hi mx:Option Value}{l h':Nat}(hlo:(lo=none/\l=0)∨∃k,lo=some (.int k (l:Int)))(hhi:(hi=none/\h'=n)∨∃k,hi=some (.int k (h':Int)))(hmx:(mx=none/\M=c)∨(hi≠none/\∃k,mx=some (.int k (M:Int))))(h1:l<=h')(h2:h'<=M)(h3:M<=c)(w:World):
  (Instr.sliceBounds true n c lo hi mx).run P w= .ok (l,h',M) w:=by
 have b1:∀k code,(Instr.sliceBound (.int k (l:Int)) h' code).run P w= .ok l w:=λk code=>by
  have:(0:Int)<=(l:Int)/\(l:Int)<=(h':Int):=by omega
  simp [Instr.sliceBound,asIntOf,this]
 have b2:∀k code,(Instr.sliceBound (.int k (h':Int)) M code).run P w= .ok h' w:=λk code=>by
  have:(0:Int)<=(h':Int)/\(h':Int)<=(M:Int):=by omega
  simp [Instr.sliceBound,asIntOf,this]
 have b3:∀k code,(Instr.sliceBound (.int k (M:Int)) c code).run P w= .ok M w:=λk code=>by
  have:(0:Int)<=(M:Int)/\(M:Int)<=(c:Int):=by omega
  simp [Instr.sliceBound,asIntOf,this]
 rcases hmx with⟨rfl,rfl⟩|⟨hne,km,rfl⟩
 .rcases hlo with⟨rfl,rfl⟩|⟨kl,rfl⟩<;>rcases hhi with⟨rfl,rfl⟩|⟨kh,rfl⟩<;>simp [Instr.sliceBounds,b1,b2]
 .rcases hhi with⟨rfl,rfl⟩|⟨kh,rfl⟩
  .exact absurd rfl hne
  .rcases hlo with⟨rfl,rfl⟩|⟨kl,rfl⟩<;>simp [Instr.sliceBounds,b1,b2,b3]
theorem AF(h:dr P ti){ty e:TypeId}{i:TI}(ht:ti ty=some i)(hd:i.desc= .slice e){te:TI}(hte:ti e=some te){a:Option Addr}{n c M:Nat}{lo hi mx:Option Value}{l h':Nat}
  (hlo:(lo=none/\l=0)∨∃k,lo=some (.int k (l:Int))) (hhi:(hi=none/\h'=n)∨∃k,hi=some (.int k (h':Int))) (hmx:(mx=none/\M=c)∨(hi≠none/\∃k,mx=some (.int k (M:Int)))) (h1:l<=h') (h2:h'<=M) (h3:M<=c) (w:World):
  (Instr.sliceAt ty (.slice a n c) lo hi mx).run P w= .ok (.slice (if M=l then a else a.map (·.add (l*te.size))) (h' - l) (M - l)) w:=by
 have hu:=run_underlying (h.und ty i ht) w;rw [hd]at hu;have hs:=eE h hte w;have hb:=po (P:=P) (n:=n) hlo hhi hmx h1 h2 h3 w;simp [Instr.sliceAt,Instr.slice,hu,hb,hs]
theorem EZ{F:Nat->Prop}{fr nn:Bool}{sz:Nat}{l:List (List T)}{a:Option Addr}{n c x z M:Nat}(h:RepC w base F ρ H (.p fr (.s nn sz l)) (.slice a n c))(hx:x<=z)(hz:z<=n)(hM:z<=M)(hMc:M<=c):
  RepC w base F ρ H (.p fr (.s nn sz ((l.drop x).take (z - x)))) (.slice (if M=x then a else a.map (·.add (x*sz))) (z - x) (M - x)):=by
 cases h with
 |p fr t y h=>
  cases h with
  |s nn sz l a c y hn hc h0 hl hm hr=>
   have hlen:((l.drop x).take (z - x)).length=z - x:=by simp;omega
   have hget:∀(i:Nat) e,((l.drop x).take (z - x))[i]? =some e->l[x+i]? =some e:=λi e hi=>by
    rw [List.getElem?_take]at hi;split at hi
    .rwa [List.getElem?_drop]at hi
    .simp at hi
   refine .p fr _ _ ?_
   have:=RepT.s (w:=w) (F:=Frs F base fr) nn sz ((l.drop x).take (z - x)) (if M=x then a else a.map (·.add (x*sz))) (M - x) (λi j=>y (x+i) j) (by rw [hn];split<;>simp) (by omega)
    (λhh=>by
     split at hh
     .omega
     .simp at hh;have:=h0 hh;omega) (λi e hi=>hl _ e (hget i e hi)) (λi e j t h1 h2=> ?_) (λi e j t h1 h2=>hr _ e j t (hget i e h1) h2)
   .rwa [hlen]at this
   .obtain⟨b,hb,g1,g2,g3⟩:=hm _ e j t (hget i e h1) h2;have hi:=(List.getElem?_eq_some_iff.1 h1).1;rw [hlen]at hi;have hcx:¬M=x:=by omega
    refine⟨b.add (x*sz),by simp [hcx,hb],?_,?_,?_⟩
    .rwa [show(b.add (x*sz)).block=b.block by unfold Addr.add;split<;>rfl]
    .rwa [show(b.add (x*sz)).block=b.block by unfold Addr.add;split<;>rfl]
    .rw [pI,show x*sz+(i*sz+j)=(x+i)*sz+j by rw [Nat.add_mul];omega];exact g3
theorem wl{F:Nat->Prop}{k off n m:Nat}{a:Option Addr}{c x z sz M:Nat}{es:List (List C)}(hb:H[k]? =some (.own sz es))(h:RepC w base F ρ H (.own k off n) (.slice a m c))(hx:x<z)(hz:z<=n)(hM:z<=M)(hMc:M<=c):
  RepC w base F ρ H (.own k (off+x) (z - x)) (.slice (if M=x then a else a.map (·.add (x*sz))) (z - x) (M - x)):=by
 cases h with
 |own k off n c a hk hn ha=>
  have hcx:¬M=x:=by omega
  simp only [hcx,if_false,Option.map_some];obtain⟨g1,g2⟩:=ha _ _ hb;refine .own k (off+x) (z - x) (M - x) _ hk (by omega) λsz' es' hb'=> ?_;rw [hb]at hb';cases hb';rw [g1,Addr.add_mid,Nat.add_mul];exact⟨rfl,Nat.le_trans (Nat.mul_le_mul_right _ (by omega)) g2⟩
theorem sV{F:Nat->Prop}{fr:Bool}{sz c:Nat}(a:Addr):RepC w base F ρ H (.p fr (.s true sz [])) (.slice (some a) 0 c):=
 .p _ _ _ (.s true sz [] (some a) c (λ_ _=> .nilFunc) rfl (Nat.zero_le _) (λh=>by cases h) (λi e h=>by simp at h) (λi e j t h=>by simp at h) λi e j t h=>by simp at h)
theorem Fc{F:Nat->Prop}{cs r:List C}{ys:List Value}{i n:Nat}(h:RepCs w base F ρ H cs ys)(hc:cut cs i n=some r):RepCs w base F ρ H r ((ys.drop i).take n)/\i+n<=ys.length:=by
 obtain⟨c1,c2,c3⟩:=dt hc;have hl:=h.1;refine⟨⟨by simp;omega,λj c hj=> ?_⟩,by omega⟩;have hlt:=(List.getElem?_eq_some_iff.1 hj).1;rw [c1]at hlt;rw [c3 j hlt]at hj;obtain⟨y,g1,g2⟩:=h.2 _ c hj;exact⟨y,by rw [List.getElem?_take,if_pos hlt,List.getElem?_drop];exact g1,g2⟩
theorem wm(h:dr P ti){ty:TypeId}{i:TI}(ht:ti ty=some i){F:Nat->Prop}{cs r:List C}{ys:List Value}{d:D}{off:Nat}(hr:RepCs w base F ρ H cs ys)
  (hc:cut cs off (if aH i.desc then i.size else 1)=some r) (ho:bR (aH i.desc) r=some d):∃z,(part ty ys.toArray off).run P w= .ok z w/\RepD w base F ρ H d z:=by
 obtain⟨h1,h2⟩:=Fc hr hc;have ha:=zo h ht w;have hs:=eE h ht w;refine⟨_,?_,kW ho h1⟩;unfold part;cases hd:aH i.desc
 .rw [hd]at ha h2;simp only [Bool.false_eq_true,if_false]at h2 ⊢;have hlt:off<ys.length:=by omega
  have e:(ys.drop off).take 1= [ys[off]]:=by rw [List.drop_eq_getElem_cons hlt];rfl
  rw [e];have e2:ys.toArray[off]? =some ys[off]:=by simp [hlt]
  rw [Sem.run_bind,ha];simp only [Result.andThen,Bool.false_eq_true,if_false,e2];rfl
 .rw [hd]at ha h2;simp only [if_true]at h2 ⊢;rw [Sem.run_bind,ha];simp only [Result.andThen,if_true];rw [Sem.run_bind,hs];simp only [Result.andThen];rw [Sem.run_pure];congr 2;apply Array.ext';simp [List.drop_take]
end
end Ev
end
end Go.Proofs.Ytkmbihigeeclbaa
