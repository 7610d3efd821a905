/- Texts of a claim, joined. -/
import Derived.Test.YtkmbihigeeclbaaZFC4
import Derived.Laws.StructEq
set_option linter.unusedVariables false
set_option linter.unusedSimpArgs false
namespace Go.Proofs.Ytkmbihigeeclbaa
noncomputable section
namespace Ev
open Go Go.RowKit
def Lf(x:Int)(k:IntKind)(y:Int):Int:=x.fdiv (2 ^(min y.toNat k.bits))
def Lg(x:Int)(k:IntKind)(y:Int):Int:=k.wrap (x*2 ^(min y.toNat k.bits))
def Jp(k:IntKind)(x y:Int):Option Int:=if 0<=y then some (Lf x k y)else none
def Jq(k:IntKind)(x y:Int):Option Int:=if 0<=y then some (Lg x k y)else none
theorem Lh{P:Program}{t:TypeId}{x y:Operand}{k k':IntKind}{a b z:Int}(h:Jp k a b=some z):al P (do eqGuard .shr t x y (.int k a) (.int k' b);binOp .shr t (.int k a) (.int k' b))=some (.int k z):=by
 unfold Jp at h;split at h
 .rename_i hc;rw [<-Option.some.inj h]
  have:(do eqGuard .shr t x y (.int k a) (.int k' b);binOp .shr t (.int k a) (.int k' b))=(pure (.int k (Lf a k b)):Sem Value):=by
   show Op.shift .shr k a k' b=_;unfold Op.shift;rw [if_neg (by omega)];rfl
  rw [this];rfl
 .simp at h
theorem Li{P:Program}{t:TypeId}{x y:Operand}{k k':IntKind}{a b z:Int}(h:Jq k a b=some z):al P (do eqGuard .shl t x y (.int k a) (.int k' b);binOp .shl t (.int k a) (.int k' b))=some (.int k z):=by
 unfold Jq at h;split at h
 .rename_i hc;rw [<-Option.some.inj h]
  have:(do eqGuard .shl t x y (.int k a) (.int k' b);binOp .shl t (.int k a) (.int k' b))=(pure (.int k (Lg a k b)):Sem Value):=by
   show Op.shift .shl k a k' b=_;unfold Op.shift;rw [if_neg (by omega)];rfl
  rw [this];rfl
 .simp at h
def Lj(k:IntKind)(x y:Int):Int:=k.wrap (BitVec.ofInt k.bits x &&& BitVec.ofInt k.bits y).toNat
def orI(k:IntKind)(x y:Int):Int:=k.wrap (BitVec.ofInt k.bits x|||BitVec.ofInt k.bits y).toNat
def Jr(k:IntKind)(x y:Int):Int:=k.wrap (BitVec.ofInt k.bits x ^^^ BitVec.ofInt k.bits y).toNat
def AQ(k:IntKind)(x y:Int):Int:=k.wrap (BitVec.ofInt k.bits x &&& ~~~ BitVec.ofInt k.bits y).toNat
section
variable (P : Program) (t : TypeId) (x y : Operand) (k : IntKind) (a b : Int)
theorem Lk:al P (do eqGuard .and t x y (.int k a) (.int k b);binOp .and t (.int k a) (.int k b))=some (.int k (Lj k a b)):=by cases k<;>rfl
theorem Pd:al P (do eqGuard .or t x y (.int k a) (.int k b);binOp .or t (.int k a) (.int k b))=some (.int k (orI k a b)):=by cases k<;>rfl
theorem Ll:al P (do eqGuard .xor t x y (.int k a) (.int k b);binOp .xor t (.int k a) (.int k b))=some (.int k (Jr k a b)):=by cases k<;>rfl
theorem EN:al P (do eqGuard .andNot t x y (.int k a) (.int k b);binOp .andNot t (.int k a) (.int k b))=some (.int k (AQ k a b)):=by cases k<;>rfl
end
section
variable {E : Env} {y : Nat → dE} {n nt : Nat} {f : Nat → D} {L : BL}
def lU{α:Type}(w:Nat)(s:Sl α)(lo hi:Int):Option (Sl α):=if 0<=lo/\lo<=hi/\hi<=(s.l.length:Int)/\(s.sz=w∨lo=0)then some ⟨s.nn,s.sz,(s.l.drop lo.toNat).take (hi.toNat - lo.toNat)⟩else none
theorem uF{α:Type}{w:Nat}{s s':Sl α}{lo hi:Int}(h:lU w s lo hi=some s'):(0<=lo/\lo<=hi/\hi<=(s.l.length:Int)/\(s.sz=w∨lo=0))/\s'=⟨s.nn,s.sz,(s.l.drop lo.toNat).take (hi.toNat - lo.toNat)⟩:=by
 unfold lU at h;split at h
 .rename_i hc;exact⟨hc,(Option.some.inj h).symm⟩
 .simp at h
theorem GU{ρ:Operand->Option D}(d:Nat):dm ρ none d=some ((d:Int)).toNat:=by simp [dm]
theorem GV{y:Operand}{fr:Bool}{k:IntKind}{i:Int}(hx:ov nt f y=some (.one (.p fr (.v (.int k i)))))(h0:0<=i)(d:Nat):dm (ov nt f) (some y) d=some i.toNat:=by
 show(ov nt f y).bind eK=_;rw [hx];exact fe fr k _ h0
theorem EO{α:Type}{r:α->List T}{ty e:TypeId}{t te:TI}{x:Operand}{lo hi mx:Option Operand}{fr nn:Bool}{sz m:Nat}{l:List α}{s':Sl α}{i j:Int}(hc:lU te.size ⟨nn,sz,l⟩ i j=some s')(hx:ov nt f x=some (.one (.p fr (.s nn sz (l.map r)))))(ht:E.ti ty=some t)(he:aO t=some e)(hte:E.ti e=some te)(hlo:dm (ov nt f) lo 0=some i.toNat)(hhi:dm (ov nt f) hi l.length=some j.toNat)(hmx:dm (ov nt f) mx l.length=some m)(hm:(mx.isSome && hi.isNone)=false)(hm1:j.toNat<=m)(hm2:m<=l.length):PS E n nt f L (.slice ty x lo hi mx) (.one (.p fr (Sl.t r s'))):=λh nid hb=>by
 obtain⟨⟨c1,c2,c3,c4⟩,rfl⟩:=uF hc;simp only at c1 c2 c3 c4;show(if(mx.isSome && hi.isNone)=true then none else(E.ti ty).bind λt=>(aO t).bind λq=>(E.ti q).bind λte=>(ay (aE (tab nt f)) x).bind λd=>(sW d).bind λn=>(dm (ay (aE (tab nt f))) hi n).bind λh'=>(dm (ay (aE (tab nt f))) lo 0).bind λl'=>(dm (ay (aE (tab nt f))) mx n).bind λm'=>if l'<=h'/\h'<=m'/\m'<=n then _ else _)=_;rw [if_neg (by rw [hm];simp),ht,fB];simp only [zbS,he,hte,hx,EJ,hhi,hlo,hmx];rw [if_pos (by omega)];show(if sz=te.size∨i.toNat=0 then _ else _)=_;rw [if_pos (by rcases c4 with h|h;exact .inl h;exact .inr (by omega))];unfold Sl.t;rw [List.map_take,List.map_drop]
theorem Lm{ty e:TypeId}{t te:TI}{m z:Nat}{x ix:Operand}{fb:Bool}{kb:IntKind}{k i j a:Nat}(ht:E.ti ty=some t)(hd:t.desc= .array m e)(hte:E.ti e=some te)(hz:te.size=z)(hx:ov nt f x=some (.one (.ptr k i j)))(hi:ov nt f ix=some (.one (.p fb (.v (.int kb (a:Int))))))(ha:Nat.blt a m=true):PS E n nt f L (.indexAddr ty x ix) (.one (.ptr k i (j+a*z))):=λh nid hb=>by
 rw [qq,bq,hx,bq,hi];refine Eq.trans (b:=yj E.ti ty h a (.one (.ptr k i j))) rfl ?_
 show((E.ti ty).bind λt=>match t.desc with
  | .array n e=>(E.ti e).bind λte=>if a<n then some (⟨.one (.ptr k i (j+a*te.size)),[]⟩:Eff)else none
  |_=>none)=_
 rw [ht];simp only [zbS,hd,hte];rw [if_pos (jG ha),hz]
variable {ops : Array Oper} {r : List Oper} {K : St → Prop}
def Ln(a b:Int):Int:=if b<a then b else a
def Lo(a b:Int):Int:=if b>a then b else a
theorem yq{c:Call}{x y:Operand}{ty:TypeId}{t:TI}{fa fb:Bool}{ka kb:IntKind}{a b:Int}(hx:ov nt f x=some (.one (.p fa (.v (.int ka a)))))(hy:ov nt f y=some (.one (.p fb (.v (.int kb b)))))(ht:E.ti ty=some t)(hargs:c.args.toList= [x,y])(hty:c.argTypes[0]? =some ty):(c.callee= .builtin .min->PS E n nt f L (.call c) (iD ka (Ln a b)))/\(c.callee= .builtin .max->PS E n nt f L (.call c) (iD ka (Lo a b))):=by
 constructor<;>intro hc h nid hb
 all_goals
  have h1:aU (.call c)=none:=by unfold aU;simp only [hc]
  rw [lS,h1];unfold sem qf;simp only [hc,hty,ht,hargs,fB,zbB,zbS,List.mapM_cons,List.mapM_nil,hx,hy,Option.pure_def,plain,lk];rfl
end
def Lp{α:Type}(w:Nat)(r:α->List T)(l:List α):Kind×List TD:=
 match l with
 | []=>(.fresh,[.one (.s false 0 [])])
 |y::t=>(.own,[.one (.s true w ((y::t).map r))])
section
variable {α : Type} {rw_ : α → List T} {w k : Nat} {l : List α}
theorem Js:sW (.one (moC l k))=some l.length:=by cases l<;>rfl
end
theorem bw{α β:Type}(P:Program)(s:Sem α)(k:α->Sem β):al P (s>>=k)=(al P s).bind λa=>al P (k a):=by
 induction s with
 |pure a=>rfl
 |program q ih=>exact ih P
 |_=>rfl
section
variable {P : Program}
theorem nA{t:TypeId}{d:TypeDesc}(h:P.underlying t=some d):al P (underlying t)=some d:=by
 have:al P (underlying t)=match P.underlying t with|some d=>some d|none=>none:=by
  show al P (underlying t)=_
  cases hx:P.underlying t with
  |none=>rw [hx]at h;simp at h
  |some d'=>
   unfold underlying;simp [bw,program,al,hx];rfl
 rw [this,h]
theorem cK(d:Nat)(t:TypeId)(xs ys:Array Value){fs:Array Field}(ht:P.underlying t=some (.struct fs))(hp:P.stoodInHeld t=false):
  al P (Op.equalIn (d+1) t (.agg xs) (.agg ys))=al P (Op.eqFields d xs ys fs.toList):=by
 have e1:al P program=some P:=rfl;simp only [Op.equalIn,bw,nA ht,zbS,e1,hp,Bool.false_eq_true,if_false];rw [<-Array.forIn_toList];generalize fs.toList=fs;clear ht
 induction fs with
 |nil=>rfl
 |cons f fs ih=>
  simp only [List.forIn_cons,Op.eqFields,bw];by_cases hf:f.name≠ "_"
  .simp only [if_pos hf,bw]
   cases al P (part f.type xs f.offset)with
   |none=>rfl
   |some a=>
    cases al P (part f.type ys f.offset)with
    |none=>rfl
    |some b=>
     simp only [zbS]
     cases al P (Op.equalIn d f.type a b)with
     |none=>rfl
     |some q=>
      cases q
      .rfl
      .exact ih
  .simp only [if_neg hf,bw];exact ih
theorem aY{d:Nat}{xs ys:Array Value}{f:Field}{fs:List Field}{k k':IntKind}{a b:Int}(hf:(f.name== "_")=false)(h1:al P (part f.type xs f.offset)=some (.int k a))(h2:al P (part f.type ys f.offset)=some (.int k b))(h3:P.underlying f.type=some (.int k')):
  al P (Op.eqFields (d+1) xs ys (f::fs))=if(a==b)=true then al P (Op.eqFields (d+1) xs ys fs)else some false:=by
 have hf':f.name≠ "_" :=by simpa using hf
 have h4:al P (Op.equalIn (d+1) f.type (.int k a) (.int k b))=some (a==b):=by
  simp only [Op.equalIn,bw,nA h3,zbS,if_true];rfl
 simp only [Op.eqFields,if_pos hf',bw,h1,h2,h4,zbS];cases a==b<;>rfl
theorem rT{d:Nat}{xs ys us vs:Array Value}{f:Field}{fs:List Field}{c:Bool}(hf:(f.name== "_")=false)(h1:al P (part f.type xs f.offset)=some (.agg us))(h2:al P (part f.type ys f.offset)=some (.agg vs))(h4:al P (Op.equalIn (d+1) f.type (.agg us) (.agg vs))=some c):
  al P (Op.eqFields (d+1) xs ys (f::fs))=if c=true then al P (Op.eqFields (d+1) xs ys fs)else some false:=by
 have hf':f.name≠ "_" :=by simpa using hf
 simp only [Op.eqFields,if_pos hf',bw,h1,h2,h4,zbS];cases c<;>rfl
theorem cq{d:Nat}{xs ys:Array Value}:al P (Op.eqFields d xs ys [])=some true:=rfl
theorem nB{t:TypeId}{x y:Operand}{xs ys:Array Value}{b:Bool}(hg:P.eqGuardType P.depth t=false)(h:al P (Op.equalIn 10000 t (.agg xs) (.agg ys))=some b):al P (do eqGuard .eql t x y (.agg xs) (.agg ys);binOp .eql t (.agg xs) (.agg ys))=some (.bool b):=by
 have e1:al P program=some P:=rfl
 have h1:al P (eqGuard .eql t x y (.agg xs) (.agg ys))=some ():=by
  simp only [eqGuard,Bool.not_true,Bool.false_eq_true,if_false,bw,e1,zbS,hg,Bool.not_false,if_true];rfl
 rw [bw,h1];show al P (binOp .eql t (.agg xs) (.agg ys))=_;have h2:binOp .eql t (.agg xs) (.agg ys)=(do pure (.bool (<-Op.equal t (.agg xs) (.agg ys)))):=rfl;rw [h2,bw];unfold Op.equal Op.maxDepth;rw [h];rfl
theorem nC{t:TypeId}{x y:Operand}{xs ys:Array Value}{b:Bool}(hg:P.eqGuardType P.depth t=false)(h:al P (Op.equalIn 10000 t (.agg xs) (.agg ys))=some b):al P (do eqGuard .neq t x y (.agg xs) (.agg ys);binOp .neq t (.agg xs) (.agg ys))=some (.bool (!b)):=by
 have e1:al P program=some P:=rfl
 have h1:al P (eqGuard .neq t x y (.agg xs) (.agg ys))=some ():=by
  simp only [eqGuard,Bool.not_true,Bool.false_eq_true,if_false,bw,e1,zbS,hg,Bool.not_false,if_true];rfl
 rw [bw,h1];show al P (binOp .neq t (.agg xs) (.agg ys))=_;have h2:binOp .neq t (.agg xs) (.agg ys)=(do pure (.bool (!(<-Op.equal t (.agg xs) (.agg ys))))):=rfl;rw [h2,bw];unfold Op.equal Op.maxDepth;rw [h];rfl
theorem cC{a b:Bool}{q:Option Bool}(h:q=some b):(if a=true then q else some false)=some (a && b):=by cases a<;>simp [h]
end
end Ev
end
noncomputable section
namespace Ev
open Go Go.RowKit
def inK(k:IntKind)(x:Int):Prop:=(Lit.int k x).wf=true
def SlW{α:Type}(w:Nat)(Q:α->Prop)(s:Sl α):Prop:=s.sz=w/\(s.nn=false->s.l= [])/\s.l.length<=maxLen/\∀x∈s.l,Q x
section
variable {P : Program} {t : TypeId} {ts : List T}
theorem GW{k:IntKind}(hu:P.underlying t=some (.int k))(h:Typ P t ts):∃x:Int,ts= [iT k x]/\inK k x:=by
 cases h with
 |int _ k' n h hw=>rw [hu]at h;cases h;exact⟨n,rfl,hw⟩
 |bool _ b h=>rw [hu]at h;simp at h
 |str _ s h=>rw [hu]at h;simp at h
 |slice _ e nn l h=>rw [hu]at h;simp at h
 |struct _ fs tss h=>rw [hu]at h;simp at h
 |array _ n e tss h=>rw [hu]at h;simp at h
theorem EP(hu:P.underlying t=some .bool)(h:Typ P t ts):∃x:Bool,ts= [bT x]/\True:=by
 cases h with
 |bool _ b h=>exact⟨b,rfl,trivial⟩
 |int _ k' n h hw=>rw [hu]at h;simp at h
 |str _ s h=>rw [hu]at h;simp at h
 |slice _ e nn l h=>rw [hu]at h;simp at h
 |struct _ fs tss h=>rw [hu]at h;simp at h
 |array _ n e tss h=>rw [hu]at h;simp at h
theorem uG{α β:Type}{r:α->β}{Q:α->Prop}:∀{l:List β},(∀es∈l,∃x,es=r x/\Q x)->∃xs:List α,l=xs.map r/\∀x∈xs,Q x
 | [],_=>⟨[],rfl,λx hx=>by simp at hx⟩
 |e::l,h=>by
  obtain⟨x,rfl,hx⟩:=h e List.mem_cons_self;obtain⟨xs,rfl,hxs⟩:=uG λe he=>h e (List.mem_cons_of_mem _ he);exact⟨x::xs,rfl,λy hy=>by rcases List.mem_cons.1 hy with rfl|hy;exact hx;exact hxs y hy⟩
theorem CI{α:Type}{r:α->List T}{Q:α->Prop}{e:TypeId}{w:Nat}(hu:P.underlying t=some (.slice e))(hw:P.cellsOf e=w)(he:∀ts,Typ P e ts->∃x,ts=r x/\Q x)(h:Typ P t ts):∃s:Sl α,ts= [Sl.t r s]/\SlW w Q s:=by
 cases h with
 |slice _ e' nn l h hn hl h1 h2=>
  rw [hu]at h;cases h;obtain⟨xs,rfl,hq⟩:=uG (r:=r) (Q:=Q) λes hes=>he es (h2 es hes);exact⟨⟨nn,w,xs⟩,by rw [hw];rfl,rfl,λhh=>by simpa using hn hh,by simpa using hl,hq⟩
 |int _ k' n h hw=>rw [hu]at h;simp at h
 |bool _ b h=>rw [hu]at h;simp at h
 |str _ s h=>rw [hu]at h;simp at h
 |struct _ fs tss h=>rw [hu]at h;simp at h
 |array _ n e tss h=>rw [hu]at h;simp at h
theorem zQ{fs:Array Field}(hu:P.underlying t=some (.struct fs))(h:Typ P t ts):∃tss:List (List T),ts=tss.flatten/\tss.length=fs.toList.length/\∀(i:Nat) f ts',fs.toList[i]? =some f->tss[i]? =some ts'->Typ P f.type ts':=by
 cases h with
 |struct _ fs' tss h hl hf=>rw [hu]at h;cases h;exact⟨tss,rfl,by simpa using hl,λi f ts' h1 h2=>hf i f ts' (by simpa using h1) h2⟩
 |int _ k' n h hw=>rw [hu]at h;simp at h
 |bool _ b h=>rw [hu]at h;simp at h
 |str _ s h=>rw [hu]at h;simp at h
 |slice _ e nn l h=>rw [hu]at h;simp at h
 |array _ n e tss h=>rw [hu]at h;simp at h
theorem EQ{ts:List TypeId}{tds:List TD}{d:TypeDesc}(hu:P.underlying t=some d)(ha:aI d=false)(h:gD P (t::ts) tds):∃x r,tds= .one x::r/\Typ P t [x]/\gD P ts r:=by
 cases h with
 |cons t ts td ds h hr=>
  cases h with
  |one x h _=>exact⟨x,ds,rfl,h,hr⟩
  |agg xs h h2=>obtain⟨d',h3,h4⟩:=h2;rw [hu]at h3;cases h3;rw [ha]at h4;simp at h4
theorem ER{ts:List TypeId}{tds:List TD}{d:TypeDesc}(hu:P.underlying t=some d)(ha:aI d=true)(h:gD P (t::ts) tds):∃x r,tds= .agg x::r/\Typ P t x/\gD P ts r:=by
 cases h with
 |cons t ts td ds h hr=>
  cases h with
  |agg x h _=>exact⟨x,ds,rfl,h,hr⟩
  |one xs h h2=>obtain⟨d',h3,h4⟩:=h2;rw [hu]at h3;cases h3;rw [ha]at h4;simp at h4
theorem ES{tds:List TD}(h:gD P [] tds):tds= []:=by cases h;rfl
end
theorem Jt{E:Env}{n:Nat}{k:FuncId}{tds:List TD}(h:RunsP E n k tds (.fresh,[.one (bT true)])):∃m n kind,(cP E m n).1 k tds=some (kind,[.one (.v (.bool true))]):=by
 obtain⟨M,hM⟩:=h;exact⟨M,n,.fresh,hM M (Nat.le_refl _)⟩
theorem qt{A R:Type}{b:A->Option (A ⊕ R)}(n:Nat)(I:Nat->A->Prop)(Q:R->Prop)(hs:∀j a,j<n->I j a->(∃a',b a=some (.inl a')/\I (j+1) a')∨∃r,b a=some (.inr r)/\Q r)(he:∀a,I n a->∃r,b a=some (.inr r)/\Q r)(j:Nat)(hj:j<=n)(a:A)(ha:I j a):∃r,aX b a=some r/\Q r:=by
 obtain⟨k,hk⟩:∃k,n=j+k:=⟨n - j,by omega⟩
 induction k generalizing j a with
 |zero=>
  have:j=n:=by omega
  subst this;obtain⟨r,h1,h2⟩:=he a ha;exact⟨r,rS h1,h2⟩
 |succ k ih=>
  rcases hs j a (by omega) ha with⟨a',h1,h2⟩|⟨r,h1,h2⟩
  .obtain⟨r,h3,h4⟩:=ih (j+1) (by omega) a' h2 (by omega);exact⟨r,(zM h1).trans h3,h4⟩
  .exact⟨r,rS h1,h2⟩
theorem eu{α:Type}{w:Nat}{s:Sl α}(hs:s.l= []∨s.sz=w){j:Nat}(hj:j<s.l.length):atS w s (j:Int)=some s.l[j]:=by
 have hw:s.sz=w:=hs.resolve_left (by intro h;rw [h]at hj;simp at hj);unfold atS;rw [if_pos ⟨by omega,hw⟩];simp
theorem de{α:Type}{l m:List α}(h:l.length+m.length<=bB):app l m=some (l++m):=by unfold app;rw [if_pos h]
theorem fj{j n:Nat}(h:j<n)(hn:n<=9223372036854775807):IntKind.i64.wrap ((j:Int)+1)=((j+1:Nat):Int):=by rw [wrap64 (by omega) (by omega)];rfl
def neL{α:Type}(l:List α):Option Unit:=
 match l with
 | []=>none
 |_::_=>some ()
end Ev
end
noncomputable section
namespace Ev
open Go Go.RowKit
section
variable {E : Env} {y : Nat → dE} {n nt : Nat} {f : Nat → D} {L : BL}
def wH(nt:Nat)(f:Nat->D)(l:List Operand):Option (List C):=l.mapM λx=>do match<-ov nt f x with| .one c=>some c|_=>none
theorem GX{fn:Fn}{first cap:Array Operand}{fs cs:List C}(h1:wH nt f first.toList=some fs)(h2:wH nt f cap.toList=some cs):PS E n nt f L (.makeFunc fn first cap) (.one (.clo fn fs cs)):=λh nid hb=>by
 show((first.toList.mapM λx=>(ay (aE (tab nt f)) x).bind λd=>match d with| .one c=>some c|_=>none).bind λa=>(cap.toList.mapM λx=>(ay (aE (tab nt f)) x).bind λd=>match d with| .one c=>some c|_=>none).bind λb=>some (⟨.one (.clo fn a b),[]⟩:Eff))=_;rw [fB];have h1':(first.toList.mapM λx=>(ov nt f x).bind λd=>match d with| .one c=>some c|_=>none)=some fs:=h1;have h2':(cap.toList.mapM λx=>(ov nt f x).bind λd=>match d with| .one c=>some c|_=>none)=some cs:=h2;rw [h1',h2'];rfl
def ET(k:IntKind)(a:Int):Int:=Jr k (if k.signed then -1 else k.max) a
theorem GY{ty:TypeId}{x:Operand}{fr:Bool}{k:IntKind}{a:Int}(hx:ov nt f x=some (.one (.p fr (.v (.int k a))))):PS E n nt f L (.unOp .xor ty x) (iD k (ET k a)):=λh nid hb=>by
 show((ay (aE (tab nt f)) x).bind λd=>(plain d).bind λv=>(al E.P (Op.unary .xor v)).bind mkO)=_;rw [bq,hx];cases k<;>rfl
def fA(args:List D):Nat->D:=λi=>args.getD i bH
theorem Ju{args:List D}{k:Nat}(hl:args.length<=k):args++List.replicate (k - args.length) bH=tab k (fA args):=by
 rw [Ej (args++List.replicate (k - args.length) bH)];have hlen:(args++List.replicate (k - args.length) bH).length=k:=by simp;omega
 rw [hlen];refine List.ext_getElem? λi=> ?_;rw [gU,gU];split
 .rename_i hi;congr 1;unfold fA;rw [List.getD_eq_getElem?_getD,List.getD_eq_getElem?_getD,List.getElem?_append];split
  .rfl
  .rename_i hge;rw [List.getElem?_replicate,if_pos (by omega),List.getElem?_eq_none (by omega)];rfl
 .rfl
def HN(E:Env)(y:Nat->dE)(n nt:Nat)(ops:Array Oper)(r:List Oper)(K:St->Prop)(f:Nat->D)(d:Nat)(rv:List ResultVar):Ex->St->Prop:=λe s=>(e= .normal∨e= .ret)/\∃ds,rv.mapM (bY E s)=some ds/\ic E y n ops r K {t:=tab nt (up f d (iQ ds)),h:=s.h}
variable {ops : Array Oper} {o : Oper} {r : List Oper} {K : St → Prop} {d : Nat} {Q : Ex → St → Prop}
theorem px{b:Bool}(h:iK ops o nt f=some b):dF ops (aE (tab nt f)) o=some b:=by
 obtain⟨g,g1,g2⟩:=jF h;unfold gOf at g1;unfold dF
 cases ho:o.guard with
 |none=>rw [ho]at g1;simp only [zsI]at g1;subst g1;exact g2
 |some p=>
  obtain⟨j,w⟩:=p;rw [ho]at g1;simp only [Option.map_eq_some_iff]at g1;obtain⟨d,h1,h2⟩:=g1;subst h2;rw [zbE]at h1;obtain⟨o',h3,h4⟩:=h1;have h3':ops[j]? =some o':=by simpa using h3
  simp only [h3',h4,zbB,zbS];exact g2
theorem CJ{cp:bI}{c:Call}{nid:Nat}{H:ak}(hw:iK ops o nt f=some true)(hc:aU o.op=some c):step E cp ops nid o (aE (tab nt f)) H=gp cp nid c (aE (tab nt f)) H:=by
 unfold step;rw [px hw];simp only [zbB,zbS,if_true,hc]
end
end Ev
end
noncomputable section
namespace Ev
namespace K
open Go Go.RowKit
inductive Ty where
 |I (k:IntKind)
 |B
 |S (e:Ty)
 |U
 |C (x y:Ty)
 deriving DecidableEq,Inhabited
namespace Ty
@[reducible] def val:Ty->Type
 | .I _=>Int
 | .B=>Bool
 | .S e=>Sl e.val
 | .U=>Unit
 | .C x y=>x.val×y.val
def size:Ty->Nat
 | .U=>0
 | .C x y=>x.size+y.size
 |_=>1
def row:(t:Ty)->t.val->List T
 | .I k,x=> [iT k x]
 | .B,x=> [bT x]
 | .S e,x=> [Sl.t e.row x]
 | .U,_=> []
 | .C a b,x=>a.row x.1++b.row x.2
def zero:(t:Ty)->t.val
 | .I _=>(0:Int)
 | .B=>false
 | .S _=>⟨false,0,[]⟩
 | .U=>()
 | .C a b=>(a.zero,b.zero)
def plain:Ty->Bool
 | .S _=>false
 | .C a b=>a.plain && b.plain
 |_=>true
end Ty
def dW(t t':Ty)(x:t.val):Option t'.val:=if h:t=t' then some (h▸x)else none
inductive KC where
 |n (k:IntKind) (x:Int)
 |b (v:Bool)
 |p (tag:Nat) (P:Prop) (d:Decidable P)
 |bv (x:Bool)
 |v (x:Value)
 |nil
 |s (e:Ty) (fr:Bool) (x:Sl e.val)
 |o (e:Ty) (p:Nat)
 |m (e:Ty) (p:Nat)
 |ptr (p j:Nat)
 |pe (p:Nat) (i:Int) (j:Nat)
 |ip (e:Ty) (fr:Bool) (x:Sl e.val) (i:Int) (y:e.val) (j:Nat)
 |clo (fn:FuncId) (ps:List Nat)
 |yld (p:Nat)
inductive KD where
 |one (c:KC)
 |agg (cs:List KC)
 |tup (ds:List (Bool×List KC))
inductive KB where
 |box (cs:List KC)
 |rows (e:Ty) (ne:Bool) (l:List e.val)
 |mrows (e:Ty) (l:List e.val)
 |dead
structure KS where
 sl:List (Nat×KD)
 bl:List (Nat×KB)
 nx:Nat
structure KF where
 nt:Nat:=0
 sl:List (Nat×KD):= []
 bl:List (Nat×KB):= []
def ai{α:Type}:List (Nat×α)->Nat->Option α
 | [],_=>none
 |x::r,i=>cond (Nat.beq x.1 i) (some x.2) (ai r i)
def aJ{α:Type}(l m:List (Nat×α))(i:Nat):Option α:=
 match ai l i with
 |some a=>some a
 |none=>ai m i
def dX(F:KF)(ks:KS)(i:Nat):Option KD:=aJ ks.sl F.sl i
def am(F:KF)(ks:KS)(p:Nat):Option KB:=
 match aJ ks.bl F.bl p with
 |some .dead=>none
 |x=>x
def bP(fr:Bool):(e:Ty)->e.val->List KC
 | .I k,x=> [.n k x]
 | .B,x=> [.bv x]
 | .S e,x=> [.s e fr x]
 | .U,_=> []
 | .C a b,x=>bP fr a x.1++bP fr b x.2
def ja(B:Nat->Option KB):(e:Ty)->KC->Option e.val
 | .I k,.n k' x=>if k=k' then some x else none
 | .B,.b v=>some v
 | .B,.p _ P d=>some (@decide P d)
 | .B,.bv x=>some x
 | .S e,.nil=>some ⟨false,0,[]⟩
 | .S e,.s e' _ x=>dW (.S e') (.S e) x
 | .S e,.o _ p=>match B p with
  |some (.rows e' _ l)=>dW (.S e') (.S e) ⟨true,e'.size,l⟩
  |_=>none
 | .S e,.m _ p=>match B p with
  |some (.mrows e' l)=>dW (.S e') (.S e) (mo e'.size l)
  |_=>none
 |_,_=>none
def dec(B:Nat->Option KB):(e:Ty)->List KC->Option e.val
 | .U,[]=>some ()
 | .C a b,cs=>(dec B a (cs.take a.size)).bind λx=>(dec B b (cs.drop a.size)).bind λy=>some (x,y)
 |e,[c]=>ja B e c
 |_,_=>none
def noB:Nat->Option KB:=λ_=>none
def frC:KC->Bool
 | .s _ fr _=>fr
 |_=>true
def nD:KC->Bool
 | .n .. | .b _| .p .. | .bv _| .v _| .nil| .s .. =>true
 |_=>false
abbrev TyD:=Bool×Ty
@[reducible] def bp:List TyD->Type
 | []=>Unit
 | [t]=>t.2.val
 |t::r=>t.2.val×bp r
def iL(t:TyD)(x:t.2.val):TD:=
 match t with
 |(true,e)=> .agg (e.row x)
 |(false,e)=>match e.row x with
  | [y]=> .one y
  |ys=> .agg ys
def cW:(ts:List TyD)->bp ts->List TD
 | [],_=> []
 | [t],x=> [iL t x]
 |t::t'::r,x=>iL t x.1::cW (t'::r) x.2
def mkD(x:Bool×List KC):KD:=
 match x with
 |(true,cs)=> .agg cs
 |(false,[c])=> .one c
 |(false,cs)=> .agg cs
def EU(fr:Bool)(t:TyD)(x:t.2.val):Bool×List KC:=(t.1,bP fr t.2 x)
def jH(fr:Bool):(ts:List TyD)->bp ts->List (Bool×List KC)
 | [],_=> []
 | [t],x=> [EU fr t x]
 |t::t'::r,x=>EU fr t x.1::jH fr (t'::r) x.2
def wI(B:Nat->Option KB)(t:TyD):KD->Option t.2.val
 | .one c=>if t.1 then none else ja B t.2 c
 | .agg cs=>if t.1 then dec B t.2 cs else none
 | .tup _=>none
def gX(B:Nat->Option KB):(ts:List TyD)->List KD->Option (bp ts)
 | [],[]=>some ()
 | [t],[d]=>wI B t d
 |t::t'::r,d::ds=>(wI B t d).bind λx=>(gX B (t'::r) ds).bind λy=>some (x,y)
 |_,_=>none
def nG:KD->Bool
 | .one c=>nD c
 | .agg cs=>cs.all nD
 | .tup _=>false
inductive OutK where
 |data (fr:Bool) (ts:List TyD)
 |own (e:Ty)
 |mown (e:Ty)
 |gown (e:Ty)
@[reducible] def OutK.val:OutK->Type
 | .data _ ts=>bp ts
 | .own e=>List e.val
 | .mown e=>List e.val
 | .gown e=>Sl e.val
structure bE where
 k:FuncId
 ins:List TyD
 out:OutK
 f:bp ins->Option out.val
 d:Nat
structure KG where
 ti:List (Nat×TI)
 eqs:List (Nat×List IntKind)
 fns:List bE
 fi:List (FuncId×FI)
def KG.fn(G:KG)(k:FuncId):Option bE:=G.fns.find? λe=>Nat.beq e.k k
def GZ(ti:List (Nat×TI)):Nat->TypeId->Option Ty
 |0,_=>none
 |n+1,t=>match ai ti t with
  |none=>none
  |some i=>match i.desc with
   | .int k=>some (.I k)
   | .bool=>some .B
   | .slice e=>(GZ ti n e).map .S
   | .array m e=>(GZ ti n e).bind λx=>prod (List.replicate m x)
   | .struct fs=>(seqO (fs.toList.map λf=>GZ ti n f.type)).bind prod
   |_=>none
where
 prod:List Ty->Option Ty
  | []=>some .U
  | [x]=>some x
  |x::y::r=>(prod (y::r)).map (.C x)
 seqO:List (Option Ty)->Option (List Ty)
  | []=>some []
  |none::_=>none
  |some x::r=>(seqO r).map (x::·)
def KG.ty(G:KG)(t:TypeId):Option Ty:=GZ G.ti 9 t
def KG.elem(G:KG)(t:TypeId):Option (TypeId×Ty×Nat):=
 match ai G.ti t with
 |some i=>match aO i with
  |some e=>match ai G.ti e with
   |some te=>(G.ty e).map λx=>(e,x,te.size)
   |none=>none
  |none=>none
 |none=>none
structure KE where
 v:KD
 upd:Option (Nat×KB):=none
 new:Option KB:=none
def kC:Value->KC
 | .int k n=> .n k n
 | .bool b=> .b b
 | .slice none 0 0=> .nil
 |x=> .v x
def oJ:Value->Option KD
 | .agg cs=>if cs.toList.all one1 then some (.agg (cs.toList.map kC))else none
 | .tuple _=>none
 |v=>some (.one (kC v))
def kO(F:KF)(ks:KS):Operand->Option KD
 | .tmp i=>dX F ks i
 | .const v=>oJ v
 | .global _=>none
 | .func f=>some (.one (.v (.func (.func f) #[] #[])))
def kUn:KD:= .tup []
def Jv(tag:Nat)(op:BinOp)(k k':IntKind)(a b:Int){R:Type}(κ:KE->Option R):Option R:=
 match op with
 | .shl=>(Jq k a b).bind λz=>κ ⟨.one (.n k z),none,none⟩
 | .shr=>(Jp k a b).bind λz=>κ ⟨.one (.n k z),none,none⟩
 |op=>if k=k' then match op with
  | .add=>κ ⟨.one (.n k (k.wrap (a+b))),none,none⟩
  | .sub=>κ ⟨.one (.n k (k.wrap (a - b))),none,none⟩
  | .mul=>κ ⟨.one (.n k (k.wrap (a*b))),none,none⟩
  | .and=>κ ⟨.one (.n k (Lj k a b)),none,none⟩
  | .or=>κ ⟨.one (.n k (orI k a b)),none,none⟩
  | .xor=>κ ⟨.one (.n k (Jr k a b)),none,none⟩
  | .andNot=>κ ⟨.one (.n k (AQ k a b)),none,none⟩
  | .quo=>(EK k a b).bind λz=>κ ⟨.one (.n k z),none,none⟩
  | .rem=>(yp a b).bind λz=>κ ⟨.one (.n k z),none,none⟩
  | .eql=>κ ⟨.one (.p tag (a=b) (Int.instDecidableEq a b)),none,none⟩
  | .neq=>κ ⟨.one (.p tag (a≠b) (@instDecidableNot _ (Int.instDecidableEq a b))),none,none⟩
  | .lss=>κ ⟨.one (.p tag (a<b) (Int.decLt a b)),none,none⟩
  | .leq=>κ ⟨.one (.p tag (a<=b) (Int.decLe a b)),none,none⟩
  | .gtr=>κ ⟨.one (.p tag (a>b) (Int.decLt b a)),none,none⟩
  | .geq=>κ ⟨.one (.p tag (a >= b) (Int.decLe b a)),none,none⟩
  |_=>none
 else none
def rU:Operand->Bool
 | .const (.slice none 0 0)=>true
 |_=>false
def oK(op:BinOp)(tag:Nat)(P:Prop)(d:Decidable P):Option KC:=
 match op with
 | .eql=>some (.p tag P d)
 | .neq=>some (.p tag (¬P) (@instDecidableNot P d))
 |_=>none
def AR(op:BinOp)(v:Bool):Option KC:=
 match op with
 | .eql=>some (.b v)
 | .neq=>some (.b (!v))
 |_=>none
def eqP:List (Int×Int)->Prop
 | []=>True
 | [x]=>x.1=x.2
 |x::y::r=>x.1=x.2/\eqP (y::r)
def eqD:(l:List (Int×Int))->Decidable (eqP l)
 | []=> .isTrue trivial
 | [x]=>Int.instDecidableEq x.1 x.2
 |x::y::r=> @instDecidableAnd _ _ (Int.instDecidableEq x.1 x.2) (eqD (y::r))
def dM:List IntKind->List KC->List KC->Option (List (Int×Int))
 | [],[],[]=>some []
 |k::ks,.n k1 x::r,.n k2 y::s=>if k1=k/\k2=k then(dM ks r s).map ((x,y)::·)else none
 |_,_,_=>none
def AS:KC->Option Bool
 | .b v=>some v
 | .p _ P d=>some (@decide P d)
 | .bv x=>some x
 |_=>none
def wJ(ti:List (Nat×TI))(t:TypeId):Bool:=match ai ti t with
 |some i=>match i.desc with
  | .bool=>true
  |_=>false
 |none=>false
def GL(G:KG)(F:KF)(ks:KS)(tag:Nat)(op:BinOp)(ty:TypeId)(y:Operand)(a b:KD){R:Type}(κ:KE->Option R):Option R:=
 match a,b with
 | .one (.n k x),.one (.n k' x')=>Jv tag op k k' x x' κ
 | .one (.s e fr x),_=>match rU y,G.elem ty with
  |true,some _=>(oK op tag (x.nn=false) (instDecidableEqBool x.nn false)).bind λc=>κ ⟨.one c,none,none⟩
  |_,_=>none
 | .one (.o e p),_=>match rU y,G.elem ty,am F ks p with
  |true,some _,some (.rows _ _ _)=>(AR op false).bind λc=>κ ⟨.one c,none,none⟩
  |_,_,_=>none
 | .one .nil,_=>match rU y,G.elem ty with
  |true,some _=>(AR op true).bind λc=>κ ⟨.one c,none,none⟩
  |_,_=>none
 | .agg cs,.agg ds=>match ai G.eqs ty with
  |some kinds=>match dM kinds cs ds with
   |some l=>(oK op tag (eqP l) (eqD l)).bind λc=>κ ⟨.one c,none,none⟩
   |none=>none
  |none=>none
 | .one c,.one d=>match wJ G.ti ty,AS c,AS d with
  |true,some x,some x'=>(oK op tag (x=x') (instDecidableEqBool x x')).bind λc=>κ ⟨.one c,none,none⟩
  |_,_,_=>none
 |_,_=>none
def kOf(agg:Bool)(cs:List KC):Option KD:=
 if agg then some (.agg cs)else match cs with
  | [c]=>some (.one c)
  |_=>none
def kCs:KD->Option (List KC)
 | .one c=>some [c]
 | .agg cs=>some cs
 | .tup _=>none
def wd(z:Nat×Bool):Nat:=cond z.2 z.1 1
def EV(ti:List (Nat×TI))(t:TypeId):Option (Nat×Bool):=match ai ti t with
 |some i=>some (i.size,aI i.desc)
 |none=>none
def Ha(ti:List (Nat×TI))(t:TypeId)(m:Nat):Option (Nat×Nat×Bool):=match ai ti t with
 |some i=>match fF i m with
  |some fd=>match ai ti fd.type with
   |some ft=>some (fd.offset,ft.size,aI ft.desc)
   |none=>none
  |none=>none
 |none=>none
def fh(F:KF)(ks:KS)(z:Nat×Bool)(a:KD){R:Type}(κ:KD->Option R):Option R:=
 match a with
 | .one (.ptr p j)=>match am F ks p with
  |some (.box cs)=>((cut cs j (wd z)).bind (kOf z.2)).bind κ
  |_=>none
 | .one (.ip e fr x i y j)=>((cut (bP fr e y) j (wd z)).bind (kOf z.2)).bind κ
 | .one (.pe p i j)=>match am F ks p with
  |some (.rows e _ l)=>(atL l i).bind λy=>((cut (bP true e y) j (wd z)).bind (kOf z.2)).bind κ
  |some (.mrows e l)=>(atL l i).bind λy=>((cut (bP true e y) j (wd z)).bind (kOf z.2)).bind κ
  |_=>none
 |_=>none
def rQ(ks:KS)(sz:Nat)(a x:KD){R:Type}(κ:KE->Option R):Option R:=
 match kCs x with
 |none=>none
 |some cs=>if cs.length=sz then match a with
  | .one (.ptr p j)=>match ai ks.bl p with
   |some (.box es)=>(patch es j cs).bind λes'=>κ ⟨kUn,some (p,.box es'),none⟩
   |_=>none
  | .one (.pe p i j)=>match ai ks.bl p with
   |some (.rows e ne l)=>if cs.all frC then(atL l i).bind λy=>(patch (bP true e y) j cs).bind λes'=>(dec noB e es').bind λy'=>κ ⟨kUn,some (p,.rows e ne (l.set i.toNat y')),none⟩else none
   |some (.mrows e l)=>if cs.all frC then(atL l i).bind λy=>(patch (bP true e y) j cs).bind λes'=>(dec noB e es').bind λy'=>κ ⟨kUn,some (p,.mrows e (l.set i.toNat y')),none⟩else none
   |_=>none
  |_=>none
 else none
def kPlaces(ti:List (Nat×TI))(t:TypeId):Option (Nat->Option (Nat×Nat)):=match ai ti t with
 |some i=>match i.desc with
  | .struct fs=>(seqP (fs.toList.map λf=>match ai ti f.type with
   |some q=>some (f.offset,q.size)
   |none=>none)).map λl n=>l[n]?
  | .array _ e=>match ai ti e with
   |some te=>some λn=>some (n*te.size,te.size)
   |none=>none
  |_=>none
 |none=>none
where
 seqP:List (Option (Nat×Nat))->Option (List (Nat×Nat))
  | []=>some []
  |none::_=>none
  |some x::r=>(seqP r).map (x::·)
def yr(place:Nat->Option (Nat×Nat))(cells:List KC):List (Nat×KD)->Option (List KC)
 | []=>some cells
 |(i,d)::r=>match place i,kCs d with
  |some (off,size),some cs=>if cs.length=size then(patch cells off cs).bind λc=>yr place c r else none
  |_,_=>none
def rW(F:KF)(ks:KS):List (Nat×Operand)->Option (List (Nat×KD))
 | []=>some []
 |(i,x)::r=>(kO F ks x).bind λd=>(rW F ks r).bind λl=>some ((i,d)::l)
def fY(F:KF)(ks:KS):List Operand->Option (List KD)
 | []=>some []
 |x::r=>(kO F ks x).bind λd=>(fY F ks r).bind λl=>some (d::l)
def ke(e:Ty):List (List KC)->Option (List e.val)
 | []=>some []
 |cs::r=>if cs.all frC=true then(dec noB e cs).bind λx=>(ke e r).bind λl=>some (x::l)else none
def uH(z:Nat)(cs:List KC):Nat->Nat->Option (List (List KC))
 |0,_=>some []
 |n+1,i=>(cut cs (i*z) z).bind λa=>(uH z cs n (i+1)).bind λl=>some (a::l)
def wK(F:KF)(ks:KS)(e:Ty):KC->Option (List e.val×Bool)
 | .nil=>some ([],false)
 | .s e' fr x=>if(fr||e'.plain)=true then(dW (.S e') (.S e) x).map λx=>(x.l,false)else none
 | .o _ p=>match am F ks p with
  |some (.rows e' ne l)=>(dW (.S e') (.S e) ⟨true,0,l⟩).map λx=>(x.l,ne)
  |_=>none
 | .m _ p=>match am F ks p with
  |some (.mrows e' l)=>(dW (.S e') (.S e) ⟨true,0,l⟩).map λx=>(x.l,false)
  |_=>none
 |_=>none
def wL(F:KF)(ks:KS)(nid:Nat)(e:Ty)(a x:KC){R:Type}(κ:KE->Option R):Option R:=
 match wK F ks e x with
 |none=>none
 |some (xs,ne)=>match a with
  | .nil=>(app [] xs).bind λlm=>cond ne (κ ⟨.one (.o e nid),none,some (.rows e true lm)⟩) (κ ⟨.one (.m e nid),none,some (.mrows e lm)⟩)
  | .o _ p=>match ai ks.bl p with
   |some (.rows e' ne' l)=>(dW (.S e') (.S e) ⟨true,0,l⟩).bind λl=>(app l.l xs).bind λlm=>κ ⟨.one (.o e nid),some (p,.dead),some (.rows e (ne||ne') lm)⟩
   |_=>none
  | .m _ p=>match ai ks.bl p with
   |some (.mrows e' l)=>(dW (.S e') (.S e) ⟨true,0,l⟩).bind λl=>(app l.l xs).bind λlm=>cond ne (κ ⟨.one (.o e nid),some (p,.dead),some (.rows e true lm)⟩) (κ ⟨.one (.m e nid),some (p,.dead),some (.mrows e lm)⟩)
   |_=>none
  |_=>none
def Jw(F:KF)(ks:KS):KC->Option Int
 | .nil=>some 0
 | .s _ _ x=>some ((x.l.length:Nat):Int)
 | .o _ p=>match am F ks p with
  |some (.rows _ _ l)=>some ((l.length:Nat):Int)
  |_=>none
 | .m _ p=>match am F ks p with
  |some (.mrows _ l)=>some ((l.length:Nat):Int)
  |_=>none
 |_=>none
def rX(G:KG)(F:KF)(ks:KS)(nid:Nat)(c:Call)(b:Builtin)(args:List KD){R:Type}(κ:KE->Option R):Option R:=
 match c.argTypes[0]? with
 |none=>none
 |some ty=>match b,args with
  | .len,[.one x]=>match G.elem ty with
   |some _=>(Jw F ks x).bind λn=>κ ⟨.one (.n .i64 n),none,none⟩
   |none=>none
  | .min,[.one (.n k x),.one (.n _ y)]=>match ai G.ti ty with
   |some _=>κ ⟨.one (.n k (Ln x y)),none,none⟩
   |none=>none
  | .max,[.one (.n k x),.one (.n _ y)]=>match ai G.ti ty with
   |some _=>κ ⟨.one (.n k (Lo x y)),none,none⟩
   |none=>none
  | .append,[.one a,.one x]=>match G.elem ty,(c.argTypes[1]?).bind G.elem with
   |some (_,e,z),some _=>if e.size=z/\z≠0 then wL F ks nid e a x κ else none
   |_,_=>none
  | .copy,[.one (.o _ p),.one x]=>match G.elem ty,(c.argTypes[1]?).bind G.elem,ai ks.bl p with
   |some (_,e,z),some _,some (.rows e' ne l)=>if e.size=z/\z≠0 then match wK F ks e x with
    |some (xs,_)=>(dW (.S e') (.S e) ⟨true,0,l⟩).bind λl=>(cpL l.l xs).bind λlm=>κ ⟨.one (.n .i64 ((xs.length:Nat):Int)),some (p,.rows e ne lm),none⟩
    |none=>none
    else none
   |_,_,_=>none
  |_,_=>none
def EW:List (Bool×List KC)->KD
 | [d]=>mkD d
 |ds=> .tup ds
def Jx(nid:Nat):(o:OutK)->o.val->KE
 | .data fr ts,x=>⟨EW (jH fr ts x),none,none⟩
 | .own e,l=>⟨.one (.o e nid),none,some (.rows e false l)⟩
 | .mown e,l=>⟨.one (.m e nid),none,some (.mrows e l)⟩
 | .gown _,_=>⟨.one .nil,none,none⟩
def zR(F:KF)(ks:KS)(nid:Nat)(en:bE)(args:List KD){R:Type}(κ:KE->Option R):Option R:=
 match en.out with
 | .data false _=>if args.all nG then(gX (am F ks) en.ins args).bind λa=>(en.f a).bind λout=>κ (Jx nid en.out out)else none
 | .gown _=>none
 |_=>(gX (am F ks) en.ins args).bind λa=>(en.f a).bind λout=>κ (Jx nid en.out out)
def jI(F:KF)(ks:KS)(c:Call):Option (FuncId×List KD):=
 match c.callee with
 | .value f=>match kO F ks f,fY F ks c.args.toList with
  |some (.one (.v (.func (.func k) first cap))),some args=>if first.size=0/\cap.size=0 then some (k,args)else none
  |some (.one (.clo k ps)),some args=>some (k,args++ps.map λp=> .one (.ptr p 0))
  |_,_=>none
 |_=>none
def AT:List KD->Option (List Nat)
 | []=>some []
 | .one (.ptr p j)::r=>if j=0 then(AT r).map (p::·)else none
 |_=>none
def rY(F:KF)(ks:KS)(o:Option Operand)(d:Int):Option Int:=
 match o with
 |none=>some d
 |some x=>match kO F ks x with
  |some (.one (.n _ i))=>some i
  |_=>none
def Jy{R:Type}(b:Bool)(n:Nat)(j m:Int)(x:Option R):Option R:=cond b (if j<=m/\m<=(n:Int)then x else none) x
theorem CK{R:Type}{b:Bool}{n:Nat}{j m:Int}{x:Option R}{r:R}(h:Jy b n j m x=some r):x=some r/\(b=true->j<=m/\m<=(n:Int)):=by
 unfold Jy at h
 cases b with
 |false=>exact⟨h,λh=>by simp at h⟩
 |true=>
  simp only [cond_true]at h;split at h
  .rename_i hc;exact⟨h,λ_=>hc⟩
  .simp at h
def bF(G:KG)(F:KF)(ks:KS)(tag nid:Nat)(op:Op){R:Type}(κ:KE->Option R):Option R:=
 match op with
 | .move x| .assign x=>(kO F ks x).bind λd=>κ ⟨d,none,none⟩
 | .alloc t=>match ai G.ti t with
  |some i=>κ ⟨.one (.ptr nid 0),none,some (.box (i.zero.map kC))⟩
  |none=>none
 | .box t x=>match ai G.ti t,(kO F ks x).bind kCs with
  |some _,some cs=>κ ⟨.one (.ptr nid 0),none,some (.box cs)⟩
  |_,_=>none
 | .build t parts=>match ai G.ti t,kPlaces G.ti t,rW F ks parts.toList with
  |some i,some pl,some ps=>(yr pl (i.zero.map kC) ps).bind λcs=>κ ⟨.agg cs,none,none⟩
  |_,_,_=>none
 | .buildSlice t len parts=>match G.elem t,rW F ks parts.toList with
  |some (te,e,z),some ps=>match ai G.ti te with
   |some i=>if e.size=z/\z*len<=1000000 then(yr (λn=>some (n*z,z)) ((List.replicate len (i.zero.map kC)).flatten) ps).bind λcs=>(uH z cs len 0).bind λrs=>(ke e rs).bind λl=>κ ⟨.one (.o e nid),none,some (.rows e (Nat.blt 0 len) l)⟩else none
   |none=>none
  |_,_=>none
 | .load t a=>match EV G.ti t,kO F ks a with
  |some z,some d=>fh F ks z d λv=>κ ⟨v,none,none⟩
  |_,_=>none
 | .store t a x=>match EV G.ti t,kO F ks a,kO F ks x with
  |some z,some d,some v=>rQ ks z.1 d v κ
  |_,_,_=>none
 | .binOp op ty x y _=>match kO F ks x,kO F ks y with
  |some a,some b=>GL G F ks tag op ty y a b κ
  |_,_=>none
 | .unOp op _ x=>match op,kO F ks x with
  | .not,some (.one (.b v))=>κ ⟨.one (.b (!v)),none,none⟩
  | .not,some (.one (.p _ P d))=>κ ⟨.one (.p tag (¬P) (@instDecidableNot P d)),none,none⟩
  | .not,some (.one (.bv x))=>κ ⟨.one (.p tag (¬x=true) (@instDecidableNot _ (instDecidableEqBool x true))),none,none⟩
  | .neg,some (.one (.n k x))=>κ ⟨.one (.n k (k.wrap (0 - x))),none,none⟩
  | .xor,some (.one (.n k x))=>κ ⟨.one (.n k (ET k x)),none,none⟩
  |_,_=>none
 | .convert src dst x=>match kO F ks x with
  |some (.one (.o e0 p))=>match Nat.beq src dst,G.elem dst,ai ks.bl p with
   |true,some (te,_,_),some (.rows e ne l)=>match ai G.ti te with
    |some i=>cond (ua i.desc && Nat.beq e.size 1) (κ ⟨.one (.o e0 p),some (p,.rows e ne l),none⟩) none
    |none=>none
   |_,_,_=>none
  |some (.one (.n k a))=>match ai G.ti src,ai G.ti dst with
   |some s,some d=>match s.desc,d.desc with
    | .int k1,.int k2=>if k1=k then κ ⟨.one (.n k2 (k2.wrap a)),none,none⟩else none
    |_,_=>none
   |_,_=>none
  |_=>none
 | .makeFunc fn first cap=>match fn,first.toList,(fY F ks cap.toList).bind AT with
  | .func k,[],some ps=>κ ⟨.one (.clo k ps),none,none⟩
  |_,_,_=>none
 | .makeSlice t l c=>match G.elem t,kO F ks l,kO F ks c with
  |some (te,e,z),some (.one (.n _ n)),some (.one (.n _ m))=>match ai G.ti te with
   |some i=>if e.size=z/\z≠0 then(EM n m).bind λ_=>(EL n).bind λ_=>(dec noB e (i.zero.map kC)).bind λx=>κ ⟨.one (.o e nid),none,some (.rows e false (List.replicate n.toNat x))⟩else none
   |none=>none
  |_,_,_=>none
 | .slice t x lo hi mx=>match mx.isSome && hi.isNone,G.elem t,kO F ks x with
  |false,some (te,e,z),some (.one (.s e' fr s))=>match rY F ks lo 0,rY F ks hi ((s.l.length:Nat):Int),rY F ks mx ((s.l.length:Nat):Int)with
   |some i,some j,some m=>Jy mx.isSome s.l.length j m ((lU z s i j).bind λs'=>κ ⟨.one (.s e' fr s'),none,none⟩)
   |_,_,_=>none
  |_,_,_=>none
 | .fieldAddr t x f=>match Ha G.ti t f,kO F ks x with
  |some (off,sz,_),some (.one (.ptr p j))=>if sz=0 then none else κ ⟨.one (.ptr p (j+off)),none,none⟩
  |some (off,sz,_),some (.one (.pe p i j))=>if sz=0 then none else κ ⟨.one (.pe p i (j+off)),none,none⟩
  |some (off,sz,_),some (.one (.ip e fr x i y j))=>if sz=0 then none else κ ⟨.one (.ip e fr x i y (j+off)),none,none⟩
  |_,_=>none
 | .field t x f=>match Ha G.ti t f,kO F ks x with
  |some (off,sz,ag),some (.agg cs)=>((cut cs off (wd (sz,ag))).bind (kOf ag)).bind λd=>κ ⟨d,none,none⟩
  |_,_=>none
 | .indexAddr t x ix=>match kO F ks x,kO F ks ix with
  |some (.one (.s e fr s)),some (.one (.n _ i))=>match G.elem t with
   |some (_,_,z)=>(atS z s i).bind λy=>κ ⟨.one (.ip e fr s i y 0),none,none⟩
   |none=>none
  |some (.one (.o _ p)),some (.one (.n _ i))=>match G.elem t,am F ks p with
   |some (_,_,z),some (.rows e _ l)=>if e.size=z then(atL l i).bind λ_=>κ ⟨.one (.pe p i 0),none,none⟩else none
   |_,_=>none
  |some (.one (.m _ p)),some (.one (.n _ i))=>match G.elem t,am F ks p with
   |some (_,_,z),some (.mrows e l)=>if e.size=z then(atL l i).bind λ_=>κ ⟨.one (.pe p i 0),none,none⟩else none
   |_,_=>none
  |some (.one (.ptr p j)),some (.one (.n _ (.ofNat a)))=>match ai G.ti t with
   |some ti=>match ti.desc with
    | .array n e=>match ai G.ti e with
     |some te=>if a<n then κ ⟨.one (.ptr p (j+a*te.size)),none,none⟩else none
     |none=>none
    |_=>none
   |none=>none
  |some (.one (.ip e fr s i y j)),some (.one (.n _ (.ofNat a)))=>match ai G.ti t with
   |some ti=>match ti.desc with
    | .array n e'=>match ai G.ti e' with
     |some te=>if a<n then κ ⟨.one (.ip e fr s i y (j+a*te.size)),none,none⟩else none
     |none=>none
    |_=>none
   |none=>none
  |_,_=>none
 | .index t x ix=>match ai G.ti t,kO F ks x,kO F ks ix with
  |some ti,some (.agg cs),some (.one (.n _ (.ofNat a)))=>match ti.desc with
   | .array n e=>match ai G.ti e with
    |some te=>if a<n then((cut cs (a*te.size) (wd (te.size,aI te.desc))).bind (kOf (aI te.desc))).bind λd=>κ ⟨d,none,none⟩else none
    |none=>none
   |_=>none
  |_,_,_=>none
 | .extract x i=>match kO F ks x with
  |some (.tup ds)=>(ds[i]?).bind λd=>κ ⟨mkD d,none,none⟩
  |_=>none
 | .call c=>match c.callee with
  | .builtin b=>(fY F ks c.args.toList).bind λargs=>rX G F ks nid c b args κ
  |_=>match jI F ks c with
   |some (k,args)=>match G.fn k with
    |some en=>zR F ks nid en args κ
    |none=>none
   |none=>none
 |_=>none
def jJ(tag:Nat)(v:Bool):KC->KC
 | .p t P d=>cond (Nat.beq t tag) (.b v) (.p t P d)
 |c=>c
def Jz(tag:Nat)(v:Bool):KD->KD
 | .one c=> .one (jJ tag v c)
 | .agg cs=> .agg (cs.map (jJ tag v))
 | .tup ds=> .tup ds
def EX(tag:Nat)(v:Bool):KB->KB
 | .box cs=> .box (cs.map (jJ tag v))
 |b=>b
def subst(tag:Nat)(v:Bool)(ks:KS):KS:={ks with sl:=ks.sl.map λx=>(x.1,Jz tag v x.2),bl:=ks.bl.map λx=>(x.1,EX tag v x.2)}
def kIf(c:KC)(ks:KS){R:Type}(κ:Bool->KS->Option R):Option R:=
 match c with
 | .b v=>κ v ks
 | .p tag P d=> @ite _ P d (κ true (subst tag true ks)) (κ false (subst tag false ks))
 | .bv x=>if x=true then κ true ks else κ false ks
 |_=>none
def jp(tag:Nat):KD->KD
 | .one (.bv x)=> .one (.p tag (x=true) (instDecidableEqBool x true))
 |d=>d
def blU(e:KE)(bl:List (Nat×KB)):List (Nat×KB):=
 match e.upd with
 |some x=>x::bl
 |none=>bl
def blE(e:KE)(nid:Nat)(bl:List (Nat×KB)):List (Nat×KB):=
 match e.new with
 |some b=>(nid,b)::blU e bl
 |none=>blU e bl
def slE(dst:Option Tmp)(v:KD)(sl:List (Nat×KD)):List (Nat×KD):=
 match dst with
 |some d=>(d,v)::sl
 |none=>sl
def zS(dst:Option Tmp)(tag nid:Nat)(e:KE)(ks:KS):KS:={sl:=slE dst (jp tag e.v) ks.sl,bl:=blE e nid ks.bl,nx:=ks.nx+2}
def fN(F:KF):Option Tmp->Bool
 |some d=>Nat.blt d F.nt
 |none=>true
def uI(dst:Option Tmp)(ks:KS):KS:={ks with sl:=slE dst kUn ks.sl}
def uJ(F:KF)(op:Op)(ks:KS){R:Type}(κ:Op->KS->Option R):Option R:=
 match op with
 | .pick c a b=>match kO F ks c with
  |some (.one c)=>kIf c ks λt ks=>κ (.move (cond t a b)) ks
  |_=>none
 |op=>κ op ks
def uK(F:KF)(ops:List Oper)(o:Oper)(ks:KS){R:Type}(κ:Bool->KS->Option R):Option R:=
 cond (fN F o.dst) (match o.guard with
 |none=>κ true ks
 |some (j,w)=>match(ops[j]?).bind λg=>g.dst with
  |some d=>match dX F ks d with
   |some (.one c)=>kIf c ks λb ks=>κ (b==w) ks
   |some (.tup [])=>κ false ks
   |_=>none
  |none=>none) none
abbrev uL:=(R:Type)->KF->FuncId->List KD->KS->(KD->KS->Option R)->Option R
def rZ(G:KG)(F:KF)(ks:KS)(op:Op):Option (FuncId×List KD):=
 match op with
 | .call c=>match c.callee with
  | .builtin _=>none
  |_=>match jI F ks c with
   |some (k,args)=>match ai G.fi k with
    |some _=>some (k,args)
    |none=>none
   |none=>none
 |_=>none
def tQ(G:KG)(call:uL)(F:KF)(ops:List Oper){R:Type}(κ:KS->Option R):List Oper->KS->Option R
 | [],ks=>κ ks
 |o::r,ks=>uK F ops o ks λw ks=>cond w
   (uJ F o.op ks λop ks=>match rZ G F ks op with
    |some (k,args)=>match o.dst with
     |some d=>call R F k args ks λv ks2=>tQ G call F ops κ r {ks2 with sl:=(d,v)::ks.sl}
     |none=>none
    |none=>bF G F ks ks.nx (ks.nx+1) op λe=>tQ G call F ops κ r (zS o.dst ks.nx (ks.nx+1) e ks))
   (tQ G call F ops κ r (uI o.dst ks))
def jK(G:KG)(F:KF)(ops:List Oper){R:Type}(κ:KS->Option R):List Oper->KS->Option R
 | [],ks=>κ ks
 |o::r,ks=>uK F ops o ks λw ks=>cond w
   (uJ F o.op ks λop ks=>bF G F ks ks.nx (ks.nx+1) op λe=>match e.upd,e.new with
    |none,none=>jK G F ops κ r (zS o.dst ks.nx (ks.nx+1) e ks)
    |_,_=>none)
   (jK G F ops κ r (uI o.dst ks))
end K
end Ev
end
noncomputable section
namespace Ev
namespace K
open Go Go.RowKit
inductive Sh where
 |d (fr:Bool) (t:Ty)
 |o (e:Ty)
 |m (e:Ty)
 |w (e:Ty)
@[reducible] def Sh.T:Sh->Type
 | .d _ t=>t.val
 | .o e=>List e.val
 | .m e=>List e.val
 | .w e=>List e.val
@[reducible] def ce:List Sh->Type
 | []=>Unit
 | [h]=>h.T
 |h::r=>h.T×ce r
inductive BR where
 |sl (i j:Nat)
 |bx (i j:Nat)
structure Pt where
 vs:List (Nat×Bool×List Sh)
 bs:List (Nat×List Sh)
 ws:List (BR×Ty):= []
def wSh(x:BR×Ty):Sh:= .w x.2
def Pt.sh(p:Pt):List Sh:=p.vs.flatMap (·.2.2)++(p.bs.flatMap (·.2)++p.ws.map wSh)
@[reducible] def XT:List (Ex×Pt)->Type
 | []=>Empty
 |x::r=>ce x.2.sh ⊕ XT r
structure yu where
 join:Bool:=false
 key:Nat
 sz:Nat:=0
 keep:List Nat
 head:Pt
 exs:List (Ex×Pt)
def uM(ks:KS):(h:Sh)->KC->{R:Type}->(h.T->Option R)->Option R
 | .d fr t,c,_,κ=>if fr=true/\frC c=false then none else(ja noB t c).bind κ
 | .o e,.o _ p,_,κ=>match ai ks.bl p with
  |some (.rows e' _ l)=>(dW (.S e') (.S e) ⟨true,0,l⟩).bind λl=>κ l.l
  |_=>none
 | .w e,.o _ p,_,κ=>match ai ks.bl p with
  |some (.rows e' _ l)=>(dW (.S e') (.S e) ⟨true,0,l⟩).bind λl=>κ l.l
  |_=>none
 | .m e,.nil,_,κ=>κ []
 | .m e,.m _ p,_,κ=>match ai ks.bl p with
  |some (.mrows e' l)=>(dW (.S e') (.S e) ⟨true,0,l⟩).bind λl=>κ l.l
  |_=>none
 | .m e,.o _ p,_,κ=>match ai ks.bl p with
  |some (.rows e' ne l)=>(dW (.S e') (.S e) ⟨true,0,l⟩).bind λl=>cond ne (κ l.l) ((neL l.l).bind λ_=>κ l.l)
  |_=>none
 |_,_,_,_=>none
def jb(ks:KS):(hs:List Sh)->List KC->{R:Type}->(ce hs->Option R)->Option R
 | [],[],_,κ=>κ ()
 | [h],[c],_,κ=>uM ks h c κ
 |h::h'::r,c::cs,_,κ=>uM ks h c λx=>jb ks (h'::r) cs λy=>κ (x,y)
 |_,_,_,_=>none
def be(q:Nat):(h:Sh)->h.T->KC×List (Nat×KB)
 | .d _ .B,x=>(.bv x,[])
 | .d fr t,x=>(match bP fr t x with
  |c::_=>c
  | []=> .nil,[])
 | .o e,l=>(.o e q,[(q,.rows e false l)])
 | .m e,l=>(.m e q,[(q,.mrows e l)])
 | .w e,l=>(.o e q,[])
def wC:(h:Sh)->h.T->KB
 | .w e,l=> .rows e false l
 |_,_=> .dead
def wCs:(hs:List Sh)->ce hs->List KB
 | [],_=> []
 | [h],x=> [wC h x]
 |h::h'::r,x=>wC h x.1::wCs (h'::r) x.2
def aA:(hs:List Sh)->ce hs->Nat->List (KC×List (Nat×KB))
 | [],_,_=> []
 | [h],x,q=> [be q h x]
 |h::h'::r,x,q=>be q h x.1::aA (h'::r) x.2 (q+1)
def jL(F:KF)(ks:KS):List (Nat×Bool×List Sh)->Option (List KC)
 | []=>some []
 |v::r=>match dX F ks v.1 with
  |some (.one c)=>if v.2.1 then none else if v.2.2.length=1 then(jL F ks r).map (c::·)else none
  |some (.agg cs)=>if v.2.1 then if v.2.2.length=cs.length then(jL F ks r).map (cs++·)else none else none
  |_=>none
def cB(F:KF)(ks:KS)(i:Nat):Option Nat:=
 match dX F ks i with
 |some (.one (.ptr p j))=>if j=0 then some p else none
 |_=>none
def bj(F:KF)(ks:KS):List (Nat×List Sh)->Option (List KC)
 | []=>some []
 |v::r=>match(cB F ks v.1).bind (ai ks.bl)with
  |some (.box cs)=>if v.2.length=cs.length then(bj F ks r).map (cs++·)else none
  |_=>none
def brC(F:KF)(ks:KS):BR->Option KC
 | .sl i j=>match dX F ks i with
  |some (.one c)=>some c
  |some (.agg cs)=>cs[j]?
  |_=>none
 | .bx i j=>match cB F ks i with
  |some p=>match aJ ks.bl F.bl p with
   |some (.box cs)=>cs[j]?
   |_=>none
  |none=>none
def dY(F:KF)(ks:KS)(w:BR):Option Nat:=
 match brC F ks w with
 |some (.o _ p)=>some p
 |_=>none
def sa(F:KF)(ks:KS):List (BR×Ty)->Option (List KC)
 | []=>some []
 |v::r=>match dY F ks v.1 with
  |some p=>(sa F ks r).map (.o v.2 p::·)
  |none=>none
def dh(F:KF)(ks:KS)(p:Pt):Option (List KC):=(jL F ks p.vs).bind λa=>(bj F ks p.bs).bind λb=>(sa F ks p.ws).map λc=>a++(b++c)
def bk:List KC->List Nat
 | []=> []
 | .o _ p::r=>p::bk r
 | .m _ p::r=>p::bk r
 |_::r=>bk r
def fS:List Nat->Bool
 | []=>true
 |a::r=> !(r.any (Nat.beq a))&& fS r
def nH(F:KF)(ks:KS)(p:Pt){R:Type}(κ:ce p.sh->Option R):Option R:=
 match dh F ks p with
 |some cs=>cond (fS (bk cs)) (jb ks p.sh cs κ) none
 |none=>none
def fC:List (Nat×Bool×List Sh)->List KC->List (Nat×KD)
 | [],_=> []
 |v::r,cs=>(v.1,if v.2.1 then .agg (cs.take v.2.2.length)else match cs with
  |c::_=> .one c
  | []=>kUn)::fC r (cs.drop v.2.2.length)
def dj(F:KF)(ks:KS):List (Nat×List Sh)->List KC->List (Nat×KB)
 | [],_=> []
 |v::r,cs=>match cB F ks v.1 with
  |some p=>(p,.box (cs.take v.2.length))::dj F ks r (cs.drop v.2.length)
  |none=>dj F ks r (cs.drop v.2.length)
def dB(F:KF)(ks:KS):List (BR×Ty)->List KB->List (Nat×KB)
 | [],_=> []
 |_,[]=> []
 |v::r,b::bs=>match dY F ks v.1 with
  |some p=>(p,b)::dB F ks r bs
  |none=>dB F ks r bs
def gd(l:List (Nat×Bool×List Sh)):Nat:=(l.flatMap (·.2.2)).length
def kD(l:List (Nat×List Sh)):Nat:=(l.flatMap (·.2)).length
def eE(F:KF)(ks:KS):Bool:=F.sl.all λx=>(ai ks.sl x.1).isNone
def kW(F:KF)(ks:KS):List Nat->List (Nat×KD)
 | []=> []
 |i::r=>match ai ks.sl i with
  |some d=>(i,d)::kW F ks r
  |none=>kW F ks r
def jM(F:KF)(ks:KS):List (Nat×List Sh)->List Nat
 | []=> []
 |v::r=>match cB F ks v.1 with
  |some p=>p::jM F ks r
  |none=>jM F ks r
def cg(F:KF)(ks:KS)(a:yu)(cs:List KC):List Nat:=bk cs++jM F ks a.head.bs
def aq(F:KF)(ks:KS)(a:yu)(cs:List KC):KF:={nt:=F.nt,sl:=kW F ks a.keep++F.sl,bl:=(cg F ks a cs).map (λp=>(p,.dead))++(ks.bl++F.bl)}
def aW(F:KF)(ks:KS)(p:Pt)(x:ce p.sh):KS:=
 let w:=aA p.sh x ks.nx
 let cs:=w.map (·.1)
 {sl:=fC p.vs cs,bl:=dj F ks p.bs (cs.drop (gd p.vs))++(dB F ks p.ws ((wCs p.sh x).drop (gd p.vs+kD p.bs))++w.flatMap (·.2)),nx:=ks.nx+p.sh.length}
def nI:Ex->Ex->Bool
 | .normal,.normal=>true
 | .ret,.ret=>true
 | .exit a,.exit b=>Nat.beq a b
 |_,_=>false
def nJ(F:KF)(ks:KS)(e:Ex):(l:List (Ex×Pt))->{R:Type}->(XT l->Option R)->Option R
 | [],_,_=>none
 |x::r,_,κ=>cond (nI e x.1) (nH F ks x.2 λv=>κ (.inl v)) (nJ F ks e r λv=>κ (.inr v))
def sb(F:KF)(ks:KS)(keep dead:List Nat)(p:Pt)(v:ce p.sh):KS:=
 let s:=aW F ks p v
 {s with sl:=s.sl++kW F ks keep,bl:=s.bl++(dead.map (λp=>(p,.dead))++ks.bl)}
def afterX(F:KF)(ks:KS)(keep:List Nat)(dead:List Nat):(l:List (Ex×Pt))->XT l->{R:Type}->(Ex->KS->Option R)->Option R
 | [],x,_,_=>nomatch x
 |x::r,v,_,κ=>Sum.elim (λv=>κ x.1 (sb F ks keep dead x.2 v)) (λv=>afterX F ks keep dead r v κ) v
def kNil:KS:=⟨[],[],0⟩
def kE(F0:KF)(ks:KS)(F:KF)(p:Pt):Bool:=(p.bs.all λv=>(ai F.sl v.1).isSome)&& p.ws.all λv=>match dY F0 ks v.1,dY F kNil v.1 with
 |some a,some b=>Nat.beq a b
 |_,_=>false
def dC:Code->Option Nat
 | .region id _ _=>some id
 | .seq a b=>match dC a with
  |some i=>some i
  |none=>dC b
 | .cond _ a b=>match dC a with
  |some i=>some i
  |none=>dC b
 | .block _ b=>dC b
 | .loop b=>dC b
 | .scope b=>dC b
 |_=>none
def nK:Code->Nat
 | .seq a b=>nK a+nK b+1
 | .cond _ a b=>nK a+nK b+1
 | .block _ b=>nK b+1
 | .loop b=>nK b+1
 | .scope b=>nK b+1
 |_=>1
structure Lr where
 old:List (List BR)
 new:List (Bool×List Nat)
structure Hb where
 lp:List yu:= []
 tn:List (Nat×Lr):= []
def JA:KC->Option Nat
 | .o _ p=>some p
 | .m _ p=>some p
 | .ptr p _=>some p
 |_=>none
def HP(F:KF)(ks:KS):List BR->Option (List Nat)
 | []=>some []
 |b::r=>match brC F ks b,HP F ks r with
  |some .nil,l=>l
  |some c,some l=>match JA c with
   |some p=>some (p::l)
   |none=>none
  |_,_=>none
def zT(F:KF)(ks:KS):List (List BR)->Option (List (List Nat))
 | []=>some []
 |b::r=>match HP F ks b,zT F ks r with
  |some p,some l=>some (p::l)
  |_,_=>none
def nL(ids:List Nat)(ks:KS):KS:={ks with bl:=ids.map (λp=>(p,.dead))++ks.bl}
def Ls:Option Nat->List Nat
 |some p=> [p]
 |none=> []
def dN(Rl O:List (List Nat))(N:List (Bool×List Nat))(nw:List (Nat×Nat))(i:Nat):List Nat:=
 (Rl.getD i []).flatMap λj=>O.getD j []++((N.getD j (false,[])).2.flatMap (λq=>Ls (ai nw q))++cond (N.getD j (false,[])).1 (Ls (ai nw j)) [])
def Lt:KC->Option Nat
 | .o _ p=>some p
 | .m _ p=>some p
 |_=>none
def py(ids:List Nat)(c:KC):Bool:=
 match Lt c with
 |some p=> !(ids.any (Nat.beq p))
 |none=>true
def sd(ids:List Nat):KD->Bool
 | .one c=>py ids c
 | .agg cs=>cs.all (py ids)
 | .tup ts=>ts.all λx=>x.2.all (py ids)
def EY(ids:List Nat):KB->Bool
 | .box cs=>cs.all (py ids)
 |_=>true
def isM:KB->Bool
 | .mrows _ _=>true
 |_=>false
def EZ(ks0 ks:KS)(p:Nat):Bool:=
 match ai ks0.bl p,ai ks.bl p with
 |some x,some y=>(match x with
  | .dead=>false
  |_=>isM x==isM y)
 |_,_=>false
def zU(ks:KS)(nw:List (Nat×Nat))(p j:Nat):Bool:=
 (match ai nw j with
  |some q=>Nat.beq p q
  |none=>false)&&(match ai ks.bl p with
  |some y=> !isM y
  |none=>false)
def uN(ks0 ks:KS)(nw:List (Nat×Nat))(p:Nat):List Nat->List Nat->Bool
 | [q],[]=>Nat.beq p q && EZ ks0 ks p
 | [],[j]=>zU ks nw p j
 |_,_=>false
def uO(ks0 ks:KS)(O:List (List Nat))(N:List (Bool×List Nat))(nw:List (Nat×Nat))(i:Nat)(ids:List Nat)(e:KE):Bool:=
 sd ids e.v &&(match e.upd with
  |none=>(O.getD i []).isEmpty &&(N.getD i (false,[])).2.isEmpty
  |some (p,b)=>EY ids b && uN ks0 ks nw p (O.getD i []) (N.getD i (false,[])).2)&&(match e.new with
  |none=> !(N.getD i (false,[])).1
  |some b=>(N.getD i (false,[])).1 && EY ids b && !isM b)
def nwE(e:KE)(i nid:Nat)(nw:List (Nat×Nat)):List (Nat×Nat):=
 match e.new with
 |some _=>(i,nid)::nw
 |none=>nw
def zV(O:List (List Nat))(N:List (Bool×List Nat))(i:Nat):Bool:=(O.getD i []).isEmpty &&(N.getD i (false,[])).2.isEmpty && !(N.getD i (false,[])).1
def pz(G:KG)(F:KF)(ops:List Oper)(Rl O:List (List Nat))(N:List (Bool×List Nat))(ks0:KS){R:Type}(κ:KS->Option R):Nat->List (Nat×Nat)->List Oper->KS->Option R
 |_,_,[],ks=>κ ks
 |i,nw,o::r,ks=>uK F ops o ks λw ks=>cond w
   (uJ F o.op ks λop ks=>bF G F (nL (dN Rl O N nw i) ks) ks.nx (ks.nx+1) op λe=>
    cond (uO ks0 ks O N nw i (dN Rl O N nw i) e) (pz G F ops Rl O N ks0 κ (i+1) (nwE e i (ks.nx+1) nw) r (zS o.dst ks.nx (ks.nx+1) e ks)) none)
   (cond (zV O N i) (pz G F ops Rl O N ks0 κ (i+1) nw r (uI o.dst ks)) none)
def Fc(a b:List Nat):Bool:=a.all λx=> !(b.any (Nat.beq x))
def djB:List (List Nat)->List (List Nat)->List (List Nat)->Bool
 |o::os,r::rs,O=>(r.all λj=>Fc o (O.getD j []))&& djB os rs O
 |_,_,_=>true
def wM(ks:KS)(O:List (List Nat)):Bool:=O.all λl=>l.all λp=>match ai ks.bl p with
 |some .dead=>false
 |some _=>true
 |none=>false
def qu(F:KF)(ks:KS)(b:BR){R:Type}(κ:KS->Option R):Option R:=
 match b with
 | .bx i j=>match cB F ks i with
  |some q=>match ai ks.bl q with
   |some (.box cs)=>match cs[j]? with
    |some (.m e p)=>match ai ks.bl p with
     |some (.mrows e' l)=>if l.length=0 then κ {ks with bl:=(q,.box (cs.set j .nil))::(p,.dead)::ks.bl}else κ {ks with bl:=(q,.box (cs.set j (.o e ks.nx)))::(ks.nx,.rows e' true l)::(p,.dead)::ks.bl,nx:=ks.nx+1}
     |_=>κ ks
    |_=>κ ks
   |_=>κ ks
  |none=>κ ks
 | .sl i j=>match dX F ks i with
  |some (.one (.m e p))=>match ai ks.bl p with
   |some (.mrows e' l)=>if l.length=0 then κ {ks with sl:=(i,.one .nil)::ks.sl,bl:=(p,.dead)::ks.bl}else κ {ks with sl:=(i,.one (.o e ks.nx))::ks.sl,bl:=(ks.nx,.rows e' true l)::(p,.dead)::ks.bl,nx:=ks.nx+1}
   |_=>κ ks
  |_=>κ ks
def se(F:KF){R:Type}(κ:KS->Option R):List BR->KS->Option R
 | [],ks=>κ ks
 |b::r,ks=>qu F ks b λks=>se F κ r ks
def dQ(G:KG)(A:Hb)(call:uL):Code->(R:Type)->KF->KS->(Ex->KS->Option R)->Option R
 | .skip,_,F,ks,κ=>κ .normal ks
 | .region id ops draw,R,F,ks,κ=>cond draw
   (cond (dr ops) (match ai A.tn id with
    |none=>jK G F ops.toList (κ .normal) ops.toList ks
    |some T=>se F (λks=>match zT F ks T.old with
     |some O=>cond (jo ops T.new && djB O (dT ops) O && wM ks O) (pz G F ops.toList (dT ops) O T.new ks (κ .normal) 0 [] ops.toList ks) none
     |none=>none) T.old.flatten ks) (match jt ops with
    |some m=>cond (iZ ops) (jK G F ops.toList (tQ G call F ops.toList (κ .normal) (ops.toList.drop m)) (ops.toList.take m) ks) none
    |none=>none))
   (tQ G call F ops.toList (κ .normal) ops.toList ks)
 | .seq a b,R,F,ks,κ=>match A.lp.find? λz=>z.join &&(some z.key==dC a && Nat.beq z.sz (nK a))with
  |none=>dQ G A call a R F ks λe ks=>match e with
   | .normal=>dQ G A call b R F ks κ
   |e=>κ e ks
  |some z=>match dh F ks z.head,eE F ks with
   |some cs,true=>cond (kE F ks (aq F ks z cs) z.head && z.exs.all λx=>kE F ks (aq F ks z cs) x.2) (nH F ks z.head λx0=>
    let F':=aq F ks z cs
    (dQ G A call a (XT z.exs) F' (aW F ks z.head x0) λe ks2=>cond (eE F' ks2) (nJ F' ks2 e z.exs some) none).bind λy=>afterX F ks z.keep (cg F ks z cs) z.exs y λe ks=>match e with
     | .normal=>dQ G A call b R F ks κ
     |e=>κ e ks) none
   |_,_=>none
 | .cond c a b,R,F,ks,κ=>match kO F ks c with
  |some (.one c)=>kIf c ks λt ks=>cond t (dQ G A call a R F ks κ) (dQ G A call b R F ks κ)
  |_=>none
 | .block id b,R,F,ks,κ=>dQ G A call b R F ks λe ks=>κ (cond (nI e (.exit id)) .normal e) ks
 | .loop b,R,F,ks,κ=>match A.lp.find? λa=> !a.join && some a.key==dC b with
  |none=>none
  |some a=>match dh F ks a.head,eE F ks with
   |some cs,true=>cond (kE F ks (aq F ks a cs) a.head && a.exs.all λx=>kE F ks (aq F ks a cs) x.2 && !nI x.1 .normal) (nH F ks a.head λx0=>
    let F':=aq F ks a cs
    (aX (λx=>dQ G A call b (ce a.head.sh ⊕ XT a.exs) F' (aW F ks a.head x) λe ks2=>cond (eE F' ks2) (match e with
     | .normal=>nH F' ks2 a.head λy=>some (.inl y)
     |e=>nJ F' ks2 e a.exs λy=>some (.inr y)) none) x0).bind λy=>afterX F ks a.keep (cg F ks a cs) a.exs y κ) none
   |_,_=>none
 | .exit id,_,F,ks,κ=>κ (.exit id) ks
 | .ret,_,F,ks,κ=>κ .ret ks
 | .label _,_,F,ks,κ=>κ .normal ks
 | .scope b,R,F,ks,κ=>dQ G A call b R F ks κ
 |_,_,_,_,_=>none
def tR:Nat->List KD->List (Nat×KD)
 |_,[]=> []
 |i,d::r=>(i,d)::tR (i+1) r
def tupK:List KD->Option KD
 | [d]=>some d
 |ds=>(tups ds).map .tup
where
 tups:List KD->Option (List (Bool×List KC))
  | []=>some []
  | .one c::r=>(tups r).map ((false,[c])::·)
  | .agg cs::r=>(tups r).map ((true,cs)::·)
  |_=>none
def wN(G:KG)(F:KF)(ks:KS):List ResultVar->{R:Type}->(List KD->Option R)->Option R
 | [],_,κ=>κ []
 | .tmp t::r,_,κ=>(dX F ks t).bind λd=>wN G F ks r λl=>κ (d::l)
 | .cell a ty::r,_,κ=>match EV G.ti ty,dX F ks a with
  |some z,some d=>fh F ks z d λv=>wN G F ks r λl=>κ (v::l)
  |_,_=>none
def pA:Ex->Bool
 | .exit _=>false
 |_=>true
abbrev dO:=List (FuncId×Hb)
def HS(A:dO)(k:FuncId):Hb:=
 match ai A k with
 |some l=>l
 |none=>{}
def yv(G:KG)(A:dO):Nat->uL
 |0,_,_,_,_,_,_=>none
 |n+1,R,F,k,args,ks,κ=>match ai G.fi k with
  |some f=>if args.length<=f.nt then dQ G (HS A k) (yv G A n) f.body R {F with sl:= [],nt:=f.nt} {ks with sl:=tR 0 args} λe ks2=>cond (pA e) (wN G {F with sl:= [],nt:=f.nt} ks2 f.results λds=>(tupK ds).bind λd=>κ d ks2) none else none
  |none=>none
def frD:KD->Bool
 | .one c=>frC c
 | .agg cs=>cs.all frC
 | .tup _=>false
def oL:List KD->Bool
 | [.one (.o _ _)]=>true
 | [.one (.m _ _)]=>true
 |_=>false
def Ff(B:Nat->Option KB)(e:Ty):List KD->Option (List e.val)
 | [.one (.o _ p)]=>match B p with
  |some (.rows e' _ l)=>if e.plain then(dW (.S e') (.S e) ⟨true,0,l⟩).map (·.l)else none
  |_=>none
 |_=>none
def AU(B:Nat->Option KB)(e:Ty):List KD->Option (List e.val)
 | [.one .nil]=>some []
 | [.one (.m _ p)]=>match B p with
  |some (.mrows e' l)=>if e.plain then(dW (.S e') (.S e) ⟨true,0,l⟩).map (·.l)else none
  |_=>none
 | [.one (.o _ p)]=>match B p with
  |some (.rows e' ne l)=>if e.plain then(dW (.S e') (.S e) ⟨true,0,l⟩).bind λs=>cond ne (some s.l) ((neL s.l).map λ_=>s.l)else none
  |_=>none
 |_=>none
def AV(B:Nat->Option KB)(e:Ty):List KD->Option (Sl e.val)
 | [.one .nil]=>some ⟨false,0,[]⟩
 | [.one (.m _ p)]=>match B p with
  |some (.mrows e' l)=>if e.plain then(dW (.S e') (.S e) ⟨true,0,l⟩).map (λs=>mo e.size s.l)else none
  |_=>none
 | [.one (.o _ p)]=>match B p with
  |some (.rows e' ne l)=>if e.plain then(dW (.S e') (.S e) ⟨true,0,l⟩).map (λs=>⟨true,e.size,s.l⟩)else none
  |_=>none
 |_=>none
def wO(B:Nat->Option KB):(o:OutK)->List KD->Option o.val
 | .data fr ts,ds=>if oL ds||(fr && !(ds.all frD))then none else gX B ts ds
 | .own e,ds=>Ff B e ds
 | .mown e,ds=>AU B e ds
 | .gown e,ds=>AV B e ds
def AW(ts:List TyD)(x:bp ts):List (Nat×KD):=tR 0 ((jH false ts x).map mkD)
def eJ(G:KG)(A:dO)(f:FI)(k:FuncId)(n:Nat)(ins:List TyD)(out:OutK)(x:bp ins):Option out.val:=
 dQ G (HS A k) (yv G A n) f.body out.val {nt:=f.nt} {sl:=AW ins x,bl:= [],nx:=0} λe ks=>cond (pA e) (wN G {nt:=f.nt} ks f.results λds=>wO (am {nt:=f.nt} ks) out ds) none
end K
end Ev
end
noncomputable section
namespace Ev
namespace K
open Go Go.RowKit
structure Vl where
 id:Nat->Nat
 bo:Nat->Bool
def KB.there:KB->Prop
 | .dead=>False
 | .mrows _ l=>l≠[]
 |_=>True
abbrev BK:=Nat->Option KB
def RC(B:BK)(V:Vl):KC->C->Prop
 | .n k x,c=>c=iC k x
 | .b v,c=>c=bC v
 | .p tag P d,c=>c=bC (V.bo tag)/\V.bo tag= @decide P d
 | .bv x,c=>c=bC x
 | .v x,c=>c= .p true (.v x)
 | .nil,c=>c= .p true (.s false 0 [])
 | .s e fr x,c=>∃f,c= .p f (Sl.t e.row x)/\(fr=true->f=true)
 | .o e p,c=>∀e' ne l,B p=some (.rows e' ne l)->c= .own (V.id p) 0 l.length
 | .m e p,c=>∀e' l,B p=some (.mrows e' l)->c=moC l (V.id p)
 | .ptr p j,c=>c= .ptr (V.id p) 0 j
 | .pe p i j,c=>0<=i/\c= .ptr (V.id p) i.toNat j
 | .ip e fr x i y j,c=>∃f,c= .iptr f x.sz (x.l.map e.row) i.toNat j/\x.l[i.toNat]? =some y/\(fr=true->f=true)
 | .clo fn ps,c=>c= .clo (.func fn) [] (ps.map λp=> .ptr (V.id p) 0 0)
 | .yld p,c=>c= .yld (V.id p)
def Sc(N:Nat):KC->Prop
 | .p tag _ _=>tag<N
 | .o _ p=>p<N
 | .m _ p=>p<N
 | .ptr p _=>p<N
 | .pe p _ _=>p<N
 | .yld p=>p<N
 | .clo _ ps=>∀p∈ps,p<N
 |_=>True
def RCs(B:BK)(V:Vl):List KC->List C->Prop
 | [],cs=>cs= []
 |k::r,cs=>∃c s,cs=c::s/\RC B V k c/\RCs B V r s
def Scs(N:Nat)(l:List KC):Prop:=∀c∈l,Sc N c
def RD1(B:BK)(V:Vl)(k:KD)(d:D):Prop:=
 match k with
 | .one c=>∃c',d= .one c'/\RC B V c c'
 | .agg cs=>∃cs',d= .agg cs'/\RCs B V cs cs'
 | .tup _=>False
def RTs(B:BK)(V:Vl):List (Bool×List KC)->List D->Prop
 | [],ds=>ds= []
 |x::r,ds=>∃d s,ds=d::s/\RD1 B V (mkD x) d/\RTs B V r s
def RD(B:BK)(V:Vl)(k:KD)(d:D):Prop:=
 match k with
 | .tup ts=>∃ds,d= .tup ds/\RTs B V ts ds
 |k=>RD1 B V k d
def ScD(N:Nat):KD->Prop
 | .one c=>Sc N c
 | .agg cs=>Scs N cs
 | .tup ts=>∀x∈ts,Scs N x.2
def BlkIs(B:BK)(V:Vl)(x:Blk):KB->Prop
 | .box cs=>∃sz cs',x= .own sz [cs']/\RCs B V cs cs'
 | .rows e ne l=>x= .own e.size (l.map (cJ e.row))/\(ne=true->l≠[])
 | .mrows e l=>x= .own e.size (l.map (cJ e.row))
 | .dead=>x= .dead
def RB(B:BK)(V:Vl)(h:ak)(k:Nat):KB->Prop
 | .box cs=>∃sz cs',ao h k=some (sz,[cs'])/\RCs B V cs cs'
 | .rows e ne l=>ao h k=some (e.size,l.map (cJ e.row))/\(ne=true->l≠[])
 | .mrows e l=>l≠[]->ao h k=some (e.size,l.map (cJ e.row))
 | .dead=>True
def ScB(N:Nat):KB->Prop
 | .box cs=>Scs N cs
 |_=>True
structure Rel(F:KF)(ks:KS)(V:Vl)(f:Nat->D)(h:ak):Prop where
 sl:∀i d,dX F ks i=some d->i<F.nt/\ScD ks.nx d/\RD (am F ks) V d (f i)
 bl:∀p b,am F ks p=some b->p<ks.nx/\ScB ks.nx b/\RB (am F ks) V h (V.id p) b
 inj:∀p q b b',am F ks p=some b->am F ks q=some b'->b.there->b'.there->V.id p=V.id q->p=q
def LeB(N:Nat)(B B':BK):Prop:=∀p,p<N->(∀e ne l',B' p=some (.rows e ne l')->∃e0 ne0 l0,B p=some (.rows e0 ne0 l0)/\l0.length=l'.length)/\∀e l',B' p=some (.mrows e l')->∃e0 l0,B p=some (.mrows e0 l0)/\l0.length=l'.length
def Agree(N:Nat)(V V':Vl):Prop:=∀q,q<N->V'.id q=V.id q/\V'.bo q=V.bo q
theorem LeB.refl(N:Nat)(B:BK):LeB N B B:=λp hp=>⟨λe ne l h=>⟨e,ne,l,h,rfl⟩,λe l h=>⟨e,l,h,rfl⟩⟩
theorem LeB.trans{N M:Nat}{B B' B'':BK}(h:LeB N B B')(h':LeB M B' B'')(hn:N<=M):LeB N B B'':=λp hp=>⟨λe ne l hl=>by
  obtain⟨e1,n1,l1,h1,h2⟩:=(h' p (by omega)).1 e ne l hl;obtain⟨e0,n0,l0,h3,h4⟩:=(h p hp).1 _ _ _ h1
  exact⟨e0,n0,l0,h3,h4.trans h2⟩,λe l hl=>by
  obtain⟨e1,l1,h1,h2⟩:=(h' p (by omega)).2 e l hl;obtain⟨e0,l0,h3,h4⟩:=(h p hp).2 _ _ h1
  exact⟨e0,l0,h3,h4.trans h2⟩⟩
theorem Agree.refl(N:Nat)(V:Vl):Agree N V V:=λq hq=>⟨rfl,rfl⟩
theorem Agree.trans{N M:Nat}{V V' V'':Vl}(h:Agree N V V')(h':Agree M V' V'')(hn:N<=M):Agree N V V'':=λq hq=>⟨((h' q (by omega)).1).trans (h q hq).1,((h' q (by omega)).2).trans (h q hq).2⟩
theorem Hc{α β:Type}{l:List α}{m:List β}{k:Nat}(h:l.length=m.length):moC l k=moC m k:=by
 cases l with
 |nil=>cases m with
  |nil=>rfl
  |cons b m=>simp at h
 |cons a l=>cases m with
  |nil=>simp at h
  |cons b m=>show C.own k 0 _=C.own k 0 _;rw [h]
section
variable {N : Nat} {B B' : BK} {V V' : Vl}
theorem RC.mono{c:KC}{x:C}(hs:Sc N c)(hb:LeB N B B')(ha:Agree N V V')(h:RC B V c x):RC B' V' c x:=by
 cases c with
 |n k y=>exact h
 |b v=>exact h
 |p tag P d=>have:=(ha tag hs).2;exact⟨by rw [this];exact h.1,by rw [this];exact h.2⟩
 |bv y=>exact h
 |v y=>exact h
 |nil=>exact h
 |s e fr y=>exact h
 |o e p=>
  intro e' ne l hl;obtain⟨e0,n0,l0,h1,h2⟩:=(hb p hs).1 e' ne l hl;rw [(ha p hs).1,<-h2];exact h e0 n0 l0 h1
 |m e p=>
  intro e' l hl;obtain⟨e0,l0,h1,h2⟩:=(hb p hs).2 e' l hl;rw [(ha p hs).1,<-Hc h2];exact h e0 l0 h1
 |ptr p j=>show x=_;rw [(ha p hs).1];exact h
 |pe p i j=>exact⟨h.1,by rw [(ha p hs).1];exact h.2⟩
 |ip e fr y i z j=>exact h
 |clo fn ps=>
  show x=_
  have:(ps.map λp=>C.ptr (V'.id p) 0 0)=ps.map λp=> .ptr (V.id p) 0 0:=List.map_congr_left λp hp=>by rw [(ha p (hs p hp)).1]
  rw [this];exact h
 |yld p=>show x=_;rw [(ha p hs).1];exact h
theorem RCs.mono:∀{l:List KC} {xs:List C},Scs N l->LeB N B B'->Agree N V V'->RCs B V l xs->RCs B' V' l xs
 | [],xs,hs,hb,ha,h=>h
 |c::l,xs,hs,hb,ha,⟨x,s,h1,h2,h3⟩=>⟨x,s,h1,h2.mono (hs c (by simp)) hb ha,h3.mono (λy hy=>hs y (by simp [hy])) hb ha⟩
theorem qv{x:Bool×List KC}(hs:Scs N x.2):ScD N (mkD x):=by
 obtain⟨b,cs⟩:=x
 cases b with
 |true=>exact hs
 |false=>match cs,hs with
  | [],hs=>exact hs
  | [c],hs=>exact hs c (by simp)
  |c::d::r,hs=>exact hs
theorem RD1.mono{k:KD}{d:D}(hs:ScD N k)(hb:LeB N B B')(ha:Agree N V V')(h:RD1 B V k d):RD1 B' V' k d:=by
 cases k with
 |one c=>obtain⟨c',h1,h2⟩:=h;exact⟨c',h1,h2.mono hs hb ha⟩
 |agg cs=>obtain⟨c',h1,h2⟩:=h;exact⟨c',h1,h2.mono hs hb ha⟩
 |tup ts=>exact h
theorem RTs.mono:∀{l:List (Bool×List KC)} {xs:List D},(∀x∈l,Scs N x.2)->LeB N B B'->Agree N V V'->RTs B V l xs->RTs B' V' l xs
 | [],xs,hs,hb,ha,h=>h
 |c::l,xs,hs,hb,ha,⟨x,s,h1,h2,h3⟩=>⟨x,s,h1,h2.mono (qv (hs c (by simp))) hb ha,h3.mono (λy hy=>hs y (by simp [hy])) hb ha⟩
theorem RD.mono{k:KD}{d:D}(hs:ScD N k)(hb:LeB N B B')(ha:Agree N V V')(h:RD B V k d):RD B' V' k d:=by
 cases k with
 |one c=>exact RD1.mono (k:= .one c) hs hb ha h
 |agg cs=>exact RD1.mono (k:= .agg cs) hs hb ha h
 |tup ts=>obtain⟨ds,h1,h2⟩:=h;exact⟨ds,h1,h2.mono hs hb ha⟩
theorem RB.mono{h:ak}{k:Nat}{b:KB}(hs:ScB N b)(hb:LeB N B B')(ha:Agree N V V')(hr:RB B V h k b):RB B' V' h k b:=by
 cases b with
 |box cs=>obtain⟨sz,cs',h1,h2⟩:=hr;exact⟨sz,cs',h1,h2.mono hs hb ha⟩
 |rows e ne l=>exact hr
 |mrows e l=>exact hr
 |dead=>trivial
theorem RB.heap{h h':ak}{k:Nat}{b:KB}(hh:ao h' k=ao h k)(hr:RB B V h k b):RB B V h' k b:=by
 cases b with
 |box cs=>obtain⟨sz,cs',h1,h2⟩:=hr;exact⟨sz,cs',hh.trans h1,h2⟩
 |rows e ne l=>exact⟨hh.trans hr.1,hr.2⟩
 |mrows e l=>exact λhl=>hh.trans (hr hl)
 |dead=>trivial
end
theorem Sc.mono{N M:Nat}(hn:N<=M){c:KC}(h:Sc N c):Sc M c:=by
 cases c with
 |p tag P d=>exact Nat.lt_of_lt_of_le h hn
 |o e p=>exact Nat.lt_of_lt_of_le h hn
 |m e p=>exact Nat.lt_of_lt_of_le h hn
 |ptr p j=>exact Nat.lt_of_lt_of_le h hn
 |pe p i j=>exact Nat.lt_of_lt_of_le h hn
 |yld p=>exact Nat.lt_of_lt_of_le h hn
 |clo fn ps=>exact λp hp=>Nat.lt_of_lt_of_le (h p hp) hn
 |_=>trivial
theorem Scs.mono{N M:Nat}(hn:N<=M){l:List KC}(h:Scs N l):Scs M l:=λc hc=>(h c hc).mono hn
theorem ScD.mono{N M:Nat}(hn:N<=M){d:KD}(h:ScD N d):ScD M d:=by
 cases d with
 |one c=>exact Sc.mono hn h
 |agg cs=>exact Scs.mono hn h
 |tup ts=>exact λx hx=>(h x hx).mono hn
theorem ScB.mono{N M:Nat}(hn:N<=M){b:KB}(h:ScB N b):ScB M b:=by
 cases b with
 |box cs=>exact Scs.mono hn h
 |_=>trivial
theorem aQ{t t':Ty}{x:t.val}{y:t'.val}(h:dW t t' x=some y):∃e:t=t',e▸x=y:=by
 unfold dW at h;split at h
 .rename_i e;exact⟨e,Option.some.inj h⟩
 .simp at h
theorem jc:∀(e:Ty) (x:e.val),(e.row x).length=e.size
 | .I _,_=>rfl
 | .B,_=>rfl
 | .S _,_=>rfl
 | .U,_=>rfl
 | .C a b,x=>by
  show(a.row x.1++b.row x.2).length=a.size+b.size;rw [List.length_append,jc a,jc b]
theorem lW(fr:Bool):∀(e:Ty) (x:e.val),(bP fr e x).length=e.size
 | .I _,_=>rfl
 | .B,_=>rfl
 | .S _,_=>rfl
 | .U,_=>rfl
 | .C a b,x=>by
  show(bP fr a x.1++bP fr b x.2).length=a.size+b.size;rw [List.length_append,lW fr a,lW fr b]
theorem dp(N:Nat)(fr:Bool):∀(e:Ty) (x:e.val),Scs N (bP fr e x)
 | .I _,_=>λc hc=>by rw [List.mem_singleton.1 hc];trivial
 | .B,_=>λc hc=>by rw [List.mem_singleton.1 hc];trivial
 | .S _,_=>λc hc=>by rw [List.mem_singleton.1 hc];trivial
 | .U,_=>λc hc=>by simp [bP]at hc
 | .C a b,x=>λc hc=>by
  rcases List.mem_append.1 (show c∈bP fr a x.1++bP fr b x.2 from hc)with h|h
  .exact dp N fr a x.1 c h
  .exact dp N fr b x.2 c h
section
variable {B : BK} {V : Vl}
theorem RCs.append:∀{k1 k2:List KC} {c1 c2:List C},RCs B V k1 c1->RCs B V k2 c2->RCs B V (k1++k2) (c1++c2)
 | [],k2,c1,c2,h1,h2=>by rw [show c1= []from h1];exact h2
 |k::k1,k2,c1,c2,⟨c,s,e1,h1,h3⟩,h2=>⟨c,s++c2,by rw [e1];rfl,h1,h3.append h2⟩
theorem RCs.len:∀{k:List KC} {c:List C},RCs B V k c->c.length=k.length
 | [],c,h=>by rw [show c= []from h];rfl
 |_::k,c,⟨x,s,e,_,h⟩=>by rw [e,List.length_cons,List.length_cons,h.len]
theorem RCs.drop:∀{k:List KC} {c:List C} (n:Nat),RCs B V k c->RCs B V (k.drop n) (c.drop n)
 |k,c,0,h=>h
 | [],c,n+1,h=>by rw [show c= []from h];exact rfl
 |_::k,c,n+1,⟨x,s,e,_,h⟩=>by rw [e];exact h.drop n
theorem RCs.take:∀{k:List KC} {c:List C} (n:Nat),RCs B V k c->RCs B V (k.take n) (c.take n)
 |k,c,0,h=>rfl
 | [],c,n+1,h=>by rw [show c= []from h];exact rfl
 |_::k,c,n+1,⟨x,s,e,h1,h⟩=>⟨x,s.take n,by rw [e];rfl,h1,h.take n⟩
theorem RCs.cut{k k2:List KC}{c:List C}{i n:Nat}(h:RCs B V k c)(hk:Ev.cut k i n=some k2):∃c2,Ev.cut c i n=some c2/\RCs B V k2 c2:=by
 unfold Ev.cut at hk ⊢;split at hk
 .rename_i hl;rw [if_pos (by rw [h.len];exact hl)];refine⟨_,rfl,?_⟩;rw [<-Option.some.inj hk];exact(h.drop i).take n
 .simp at hk
theorem RCs.patch{k k2 x:List KC}{c y:List C}{i:Nat}(h:RCs B V k c)(hx:RCs B V x y)(hk:Ev.patch k i x=some k2):∃c2,Ev.patch c i y=some c2/\RCs B V k2 c2:=by
 unfold Ev.patch at hk ⊢;split at hk
 .rename_i hl;rw [if_pos (by rw [h.len,hx.len];exact hl)];refine⟨_,rfl,?_⟩;rw [<-Option.some.inj hk,hx.len];exact((h.take i).append hx).append (h.drop _)
 .simp at hk
theorem fH{N:Nat}{k k2:List KC}{i n:Nat}(h:Scs N k)(hk:Ev.cut k i n=some k2):Scs N k2:=by
 unfold Ev.cut at hk;split at hk
 .rw [<-Option.some.inj hk];exact λc hc=>h c (List.mem_of_mem_drop (List.mem_of_mem_take hc))
 .simp at hk
theorem uP{N:Nat}{k k2 x:List KC}{i:Nat}(h:Scs N k)(hx:Scs N x)(hk:Ev.patch k i x=some k2):Scs N k2:=by
 unfold Ev.patch at hk;split at hk
 .rw [<-Option.some.inj hk];intro c hc;simp only [List.mem_append]at hc;rcases hc with(hc|hc)|hc
  .exact h c (List.mem_of_mem_take hc)
  .exact hx c hc
  .exact h c (List.mem_of_mem_drop hc)
 .simp at hk
theorem cv{fr f:Bool}(hf:fr=true->f=true):∀(e:Ty) (x:e.val),RCs B V (bP fr e x) ((e.row x).map (pC f))
 | .I _,_=>⟨_,_,rfl,rfl,rfl⟩
 | .B,_=>⟨_,_,rfl,rfl,rfl⟩
 | .S e,x=>⟨_,_,rfl,⟨f,rfl,hf⟩,rfl⟩
 | .U,_=>rfl
 | .C a b,x=>by
  show RCs B V (bP fr a x.1++bP fr b x.2) ((a.row x.1++b.row x.2).map (pC f));rw [List.map_append];exact(cv hf a x.1).append (cv hf b x.2)
theorem RCs.one{c:KC}{x:C}(h:RC B V c x):RCs B V [c] [x]:=⟨x,[],rfl,h,rfl⟩
theorem RCs.one_inv{c:KC}{xs:List C}(h:RCs B V [c] xs):∃x,xs= [x]/\RC B V c x:=by
 obtain⟨x,s,e,h1,h2⟩:=h;exact⟨x,by rw [e,show s= []from h2],h1⟩
theorem lY{e:Ty}{c:KC}{x:e.val}{y:C}(h:ja noB e c=some x)(hf:frC c=true)(hr:RC B V c y): [y]=(e.row x).map (pC true):=by
 unfold ja at h;split at h
 .rename_i k k' z;split at h
  .rename_i hk;subst hk;rw [<-Option.some.inj h];rw [show y=_ from hr];rfl
  .simp at h
 .rw [<-Option.some.inj h,show y=_ from hr];rfl
 .rename_i tag P d;rw [<-Option.some.inj h,hr.1,hr.2];rfl
 .rw [<-Option.some.inj h,show y=_ from hr];rfl
 .rw [<-Option.some.inj h,show y=_ from hr];rfl
 .rename_i e0 e' fr z;obtain⟨he,hx⟩:=aQ h;cases he;obtain⟨f,h1,h2⟩:=hr;rw [<-hx,h1,h2 hf];rfl
 .simp [noB]at h
 .simp [noB]at h
 .simp at h
theorem kf:∀{e:Ty} {cs:List KC} {x:e.val} {ys:List C},dec noB e cs=some x->cs.all frC=true->RCs B V cs ys->ys=(e.row x).map (pC true):=by
 intro e
 induction e with
 |C a b iha ihb=>
  intro cs x ys h hf hr;unfold dec at h;simp only [zbE]at h;obtain⟨x1,h1,y1,h2,h3⟩:=h
  have:=Option.some.inj h3
  subst this;have e1:=iha h1 (List.all_eq_true.2 λc hc=>List.all_eq_true.1 hf c (List.mem_of_mem_take hc)) (hr.take a.size);have e2:=ihb h2 (List.all_eq_true.2 λc hc=>List.all_eq_true.1 hf c (List.mem_of_mem_drop hc)) (hr.drop a.size);show ys=(a.row x1++b.row y1).map (pC true);rw [List.map_append,<-e1,<-e2,List.take_append_drop]
 |U=>
  intro cs x ys h hf hr
  cases cs with
  |nil=>rw [show ys= []from hr];rfl
  |cons c r=>cases r with
   |nil=>simp [dec,ja]at h
   |cons d r=>simp [dec]at h
 |_=>
  intro cs x ys h hf hr
  cases cs with
  |nil=>simp [dec]at h
  |cons c r=>cases r with
   |nil=>
    obtain⟨y,rfl,hy⟩:=hr.one_inv;exact lY (by simpa [dec]using h) (by simpa using hf) hy
   |cons d r=>simp [dec]at h
end
end K
end Ev
end
end Go.Proofs.Ytkmbihigeeclbaa
