/- Texts of a claim, joined. -/
import Derived.Test.YtoamaaicfjkmhaaGreatZCU4
import Derived.Laws.StructEq
set_option linter.unusedVariables false
set_option linter.unusedSimpArgs false
namespace Go.Proofs.YtoamaaicfjkmhaaGreat
noncomputable section
namespace Ev
open Go Go.RowKit
def Pf(x:Int)(k:IntKind)(y:Int):Int:=x.fdiv (2 ^(min y.toNat k.bits))
def QV(x:Int)(k:IntKind)(y:Int):Int:=k.wrap (x*2 ^(min y.toNat k.bits))
def Jr(k:IntKind)(x y:Int):Option Int:=if 0<=y then some (Pf x k y)else none
def Pg(k:IntKind)(x y:Int):Option Int:=if 0<=y then some (QV x k y)else none
theorem QW{P:Program}{t:TypeId}{x y:Operand}{k k':IntKind}{a b z:Int}(h:Jr k a b=some z):ao P (do eqGuard .shr t x y (.int k a) (.int k' b);binOp .shr t (.int k a) (.int k' b))=some (.int k z):=by
 unfold Jr at h;split at h
 .rename_i hc;rw [<-Option.some.inj h]
  have:(do eqGuard .shr t x y (.int k a) (.int k' b);binOp .shr t (.int k a) (.int k' b))=(pure (.int k (Pf a k b)):Sem Value):=by
   show Op.shift .shr k a k' b=_;unfold Op.shift;rw [if_neg (by omega)];rfl
  rw [this];rfl
 .simp at h
theorem QX{P:Program}{t:TypeId}{x y:Operand}{k k':IntKind}{a b z:Int}(h:Pg k a b=some z):ao P (do eqGuard .shl t x y (.int k a) (.int k' b);binOp .shl t (.int k a) (.int k' b))=some (.int k z):=by
 unfold Pg at h;split at h
 .rename_i hc;rw [<-Option.some.inj h]
  have:(do eqGuard .shl t x y (.int k a) (.int k' b);binOp .shl t (.int k a) (.int k' b))=(pure (.int k (QV a k b)):Sem Value):=by
   show Op.shift .shl k a k' b=_;unfold Op.shift;rw [if_neg (by omega)];rfl
  rw [this];rfl
 .simp at h
def QY(k:IntKind)(x y:Int):Int:=k.wrap (BitVec.ofInt k.bits x &&& BitVec.ofInt k.bits y).toNat
def orI(k:IntKind)(x y:Int):Int:=k.wrap (BitVec.ofInt k.bits x|||BitVec.ofInt k.bits y).toNat
def Ph(k:IntKind)(x y:Int):Int:=k.wrap (BitVec.ofInt k.bits x ^^^ BitVec.ofInt k.bits y).toNat
def Ey(k:IntKind)(x y:Int):Int:=k.wrap (BitVec.ofInt k.bits x &&& ~~~ BitVec.ofInt k.bits y).toNat
section
variable (P : Program) (t : TypeId) (x y : Operand) (k : IntKind) (a b : Int)
theorem QZ:ao P (do eqGuard .and t x y (.int k a) (.int k b);binOp .and t (.int k a) (.int k b))=some (.int k (QY k a b)):=by cases k<;>rfl
theorem Vp:ao P (do eqGuard .or t x y (.int k a) (.int k b);binOp .or t (.int k a) (.int k b))=some (.int k (orI k a b)):=by cases k<;>rfl
theorem Ra:ao P (do eqGuard .xor t x y (.int k a) (.int k b);binOp .xor t (.int k a) (.int k b))=some (.int k (Ph k a b)):=by cases k<;>rfl
theorem Js:ao P (do eqGuard .andNot t x y (.int k a) (.int k b);binOp .andNot t (.int k a) (.int k b))=some (.int k (Ey k a b)):=by cases k<;>rfl
end
section
variable {E : Env} {y : Nat → ea} {n nt : Nat} {f : Nat → D} {L : BL}
def Dg{α:Type}(w:Nat)(s:Sl α)(lo hi:Int):Option (Sl α):=if 0<=lo/\lo<=hi/\hi<=(s.l.length:Int)/\(s.sz=w∨lo=0)then some ⟨s.nn,s.sz,(s.l.drop lo.toNat).take (hi.toNat - lo.toNat)⟩else none
theorem xc{α:Type}{w:Nat}{s s':Sl α}{lo hi:Int}(h:Dg w s lo hi=some s'):(0<=lo/\lo<=hi/\hi<=(s.l.length:Int)/\(s.sz=w∨lo=0))/\s'=⟨s.nn,s.sz,(s.l.drop lo.toNat).take (hi.toNat - lo.toNat)⟩:=by
 unfold Dg at h;split at h
 .rename_i hc;exact⟨hc,(Option.some.inj h).symm⟩
 .simp at h
theorem Lw{ρ:Operand->Option D}(d:Nat):dz ρ none d=some ((d:Int)).toNat:=by simp [dz]
theorem Lx{y:Operand}{fr:Bool}{k:IntKind}{i:Int}(hx:ov nt f y=some (.one (.p fr (.v (.int k i)))))(h0:0<=i)(d:Nat):dz (ov nt f) (some y) d=some i.toNat:=by
 show(ov nt f y).bind fc=_;rw [hx];exact fD fr k _ h0
theorem Jt{α:Type}{r:α->List T}{ty e:TypeId}{t te:TI}{x:Operand}{lo hi mx:Option Operand}{fr nn:Bool}{sz m:Nat}{l:List α}{s':Sl α}{i j:Int}(hc:Dg te.size ⟨nn,sz,l⟩ i j=some s')(hx:ov nt f x=some (.one (.p fr (.s nn sz (l.map r)))))(ht:E.ti ty=some t)(he:aR t=some e)(hte:E.ti e=some te)(hlo:dz (ov nt f) lo 0=some i.toNat)(hhi:dz (ov nt f) hi l.length=some j.toNat)(hmx:dz (ov nt f) mx l.length=some m)(hm:(mx.isSome && hi.isNone)=false)(hm1:j.toNat<=m)(hm2:m<=l.length):PS E n nt f L (.slice ty x lo hi mx) (.one (.p fr (Sl.t r s'))):=λh nid hb=>by
 obtain⟨⟨c1,c2,c3,c4⟩,rfl⟩:=xc hc;simp only at c1 c2 c3 c4;show(if(mx.isSome && hi.isNone)=true then none else(E.ti ty).bind λt=>(aR t).bind λq=>(E.ti q).bind λte=>(aB (aK (tab nt f)) x).bind λd=>(vq d).bind λn=>(dz (aB (aK (tab nt f))) hi n).bind λh'=>(dz (aB (aK (tab nt f))) lo 0).bind λl'=>(dz (aB (aK (tab nt f))) mx n).bind λm'=>if l'<=h'/\h'<=m'/\m'<=n then _ else _)=_;rw [if_neg (by rw [hm];simp),ht,fL];simp only [zbS,he,hte,hx,Jn,hhi,hlo,hmx];rw [if_pos (by omega)];show(if sz=te.size∨i.toNat=0 then _ else _)=_;rw [if_pos (by rcases c4 with h|h;exact .inl h;exact .inr (by omega))];unfold Sl.t;rw [List.map_take,List.map_drop]
theorem Rb{ty e:TypeId}{t te:TI}{m z:Nat}{x ix:Operand}{fb:Bool}{kb:IntKind}{k i j a:Nat}(ht:E.ti ty=some t)(hd:t.desc= .array m e)(hte:E.ti e=some te)(hz:te.size=z)(hx:ov nt f x=some (.one (.ptr k i j)))(hi:ov nt f ix=some (.one (.p fb (.v (.int kb (a:Int))))))(ha:Nat.blt a m=true):PS E n nt f L (.indexAddr ty x ix) (.one (.ptr k i (j+a*z))):=λh nid hb=>by
 rw [sj,bw,hx,bw,hi];refine Eq.trans (b:=Bh E.ti ty h a (.one (.ptr k i j))) rfl ?_
 show((E.ti ty).bind λt=>match t.desc with
  | .array n e=>(E.ti e).bind λte=>if a<n then some (⟨.one (.ptr k i (j+a*te.size)),[]⟩:Eff)else none
  |_=>none)=_
 rw [ht];simp only [zbS,hd,hte];rw [if_pos (kH ha),hz]
variable {ops : Array Oper} {r : List Oper} {K : St → Prop}
def Rc(a b:Int):Int:=if b<a then b else a
def Re(a b:Int):Int:=if b>a then b else a
theorem Bn{c:Call}{x y:Operand}{ty:TypeId}{t:TI}{fa fb:Bool}{ka kb:IntKind}{a b:Int}(hx:ov nt f x=some (.one (.p fa (.v (.int ka a)))))(hy:ov nt f y=some (.one (.p fb (.v (.int kb b)))))(ht:E.ti ty=some t)(hargs:c.args.toList= [x,y])(hty:c.argTypes[0]? =some ty):(c.callee= .builtin .min->PS E n nt f L (.call c) (iD ka (Rc a b)))/\(c.callee= .builtin .max->PS E n nt f L (.call c) (iD ka (Re a b))):=by
 constructor<;>intro hc h nid hb
 all_goals
  have h1:be (.call c)=none:=by unfold be;simp only [hc]
  rw [np,h1];unfold sem rT;simp only [hc,hty,ht,hargs,fL,zbB,zbS,List.mapM_cons,List.mapM_nil,hx,hy,Option.pure_def,plain,mL];rfl
end
def Rf{α:Type}(w:Nat)(r:α->List T)(l:List α):Kind×List TD:=
 match l with
 | []=>(.fresh,[.one (.s false 0 [])])
 |y::t=>(.own,[.one (.s true w ((y::t).map r))])
section
variable {α : Type} {rw_ : α → List T} {w k : Nat} {l : List α}
theorem Pi:vq (.one (moC l k))=some l.length:=by cases l<;>rfl
end
section
variable {E : Env} {y : Nat → ea} {n nt : Nat} {f : Nat → D} {L : BL} {ops : Array Oper} {o : Oper} {rr : List Oper} {K : St → Prop} {d : Nat}
end
theorem bM{α β:Type}(P:Program)(s:Sem α)(k:α->Sem β):ao P (s>>=k)=(ao P s).bind λa=>ao P (k a):=by
 induction s with
 |pure a=>rfl
 |program q ih=>exact ih P
 |_=>rfl
section
variable {P : Program}
theorem oS{t:TypeId}{d:TypeDesc}(h:P.underlying t=some d):ao P (underlying t)=some d:=by
 have:ao P (underlying t)=match P.underlying t with|some d=>some d|none=>none:=by
  show ao P (underlying t)=_
  cases hx:P.underlying t with
  |none=>rw [hx]at h;simp at h
  |some d'=>
   unfold underlying;simp [bM,program,ao,hx];rfl
 rw [this,h]
theorem dV(d:Nat)(t:TypeId)(xs ys:Array Value){fs:Array Field}(ht:P.underlying t=some (.struct fs))(hp:P.stoodInHeld t=false):
  ao P (Op.equalIn (d+1) t (.agg xs) (.agg ys))=ao P (Op.eqFields d xs ys fs.toList):=by
 have e1:ao P program=some P:=rfl;simp only [Op.equalIn,bM,oS ht,zbS,e1,hp,Bool.false_eq_true,if_false];rw [<-Array.forIn_toList];generalize fs.toList=fs;clear ht
 induction fs with
 |nil=>rfl
 |cons f fs ih=>
  simp only [List.forIn_cons,Op.eqFields,bM];by_cases hf:f.name≠ "_"
  .simp only [if_pos hf,bM]
   cases ao P (part f.type xs f.offset)with
   |none=>rfl
   |some a=>
    cases ao P (part f.type ys f.offset)with
    |none=>rfl
    |some b=>
     simp only [zbS]
     cases ao P (Op.equalIn d f.type a b)with
     |none=>rfl
     |some q=>
      cases q
      .rfl
      .exact ih
  .simp only [if_neg hf,bM];exact ih
theorem bh{d:Nat}{xs ys:Array Value}{f:Field}{fs:List Field}{k k':IntKind}{a b:Int}(hf:(f.name== "_")=false)(h1:ao P (part f.type xs f.offset)=some (.int k a))(h2:ao P (part f.type ys f.offset)=some (.int k b))(h3:P.underlying f.type=some (.int k')):
  ao P (Op.eqFields (d+1) xs ys (f::fs))=if(a==b)=true then ao P (Op.eqFields (d+1) xs ys fs)else some false:=by
 have hf':f.name≠ "_" :=by simpa using hf
 have h4:ao P (Op.equalIn (d+1) f.type (.int k a) (.int k b))=some (a==b):=by
  simp only [Op.equalIn,bM,oS h3,zbS,if_true];rfl
 simp only [Op.eqFields,if_pos hf',bM,h1,h2,h4,zbS];cases a==b<;>rfl
theorem dm{d:Nat}{xs ys:Array Value}:ao P (Op.eqFields d xs ys [])=some true:=rfl
theorem oT{t:TypeId}{x y:Operand}{xs ys:Array Value}{b:Bool}(hg:P.eqGuardType P.depth t=false)(h:ao P (Op.equalIn 10000 t (.agg xs) (.agg ys))=some b):ao P (do eqGuard .eql t x y (.agg xs) (.agg ys);binOp .eql t (.agg xs) (.agg ys))=some (.bool b):=by
 have e1:ao P program=some P:=rfl
 have h1:ao P (eqGuard .eql t x y (.agg xs) (.agg ys))=some ():=by
  simp only [eqGuard,Bool.not_true,Bool.false_eq_true,if_false,bM,e1,zbS,hg,Bool.not_false,if_true];rfl
 rw [bM,h1];show ao P (binOp .eql t (.agg xs) (.agg ys))=_;have h2:binOp .eql t (.agg xs) (.agg ys)=(do pure (.bool (<-Op.equal t (.agg xs) (.agg ys)))):=rfl;rw [h2,bM];unfold Op.equal Op.maxDepth;rw [h];rfl
theorem oU{t:TypeId}{x y:Operand}{xs ys:Array Value}{b:Bool}(hg:P.eqGuardType P.depth t=false)(h:ao P (Op.equalIn 10000 t (.agg xs) (.agg ys))=some b):ao P (do eqGuard .neq t x y (.agg xs) (.agg ys);binOp .neq t (.agg xs) (.agg ys))=some (.bool (!b)):=by
 have e1:ao P program=some P:=rfl
 have h1:ao P (eqGuard .neq t x y (.agg xs) (.agg ys))=some ():=by
  simp only [eqGuard,Bool.not_true,Bool.false_eq_true,if_false,bM,e1,zbS,hg,Bool.not_false,if_true];rfl
 rw [bM,h1];show ao P (binOp .neq t (.agg xs) (.agg ys))=_;have h2:binOp .neq t (.agg xs) (.agg ys)=(do pure (.bool (!(<-Op.equal t (.agg xs) (.agg ys))))):=rfl;rw [h2,bM];unfold Op.equal Op.maxDepth;rw [h];rfl
theorem de{a b:Bool}{q:Option Bool}(h:q=some b):(if a=true then q else some false)=some (a && b):=by cases a<;>simp [h]
end
end Ev
end
noncomputable section
namespace Ev
open Go Go.RowKit
def inK(k:IntKind)(x:Int):Prop:=(Lit.int k x).wf=true
def SlW{α:Type}(w:Nat)(Q:α->Prop)(s:Sl α):Prop:=s.sz=w/\(s.nn=false->s.l= [])/\s.l.length<=maxLen/\∀x∈s.l,Q x
section
variable {P : Program} {t : TypeId} {ts : List T}
theorem Ly{k:IntKind}(hu:P.underlying t=some (.int k))(h:Typ P t ts):∃x:Int,ts= [iT k x]/\inK k x:=by
 cases h with
 |int _ k' n h hw=>rw [hu]at h;cases h;exact⟨n,rfl,hw⟩
 |bool _ b h=>rw [hu]at h;simp at h
 |str _ s h=>rw [hu]at h;simp at h
 |slice _ e nn l h=>rw [hu]at h;simp at h
 |struct _ fs tss h=>rw [hu]at h;simp at h
 |array _ n e tss h=>rw [hu]at h;simp at h
theorem xd{α β:Type}{r:α->β}{Q:α->Prop}:∀{l:List β},(∀es∈l,∃x,es=r x/\Q x)->∃xs:List α,l=xs.map r/\∀x∈xs,Q x
 | [],_=>⟨[],rfl,λx hx=>by simp at hx⟩
 |e::l,h=>by
  obtain⟨x,rfl,hx⟩:=h e List.mem_cons_self;obtain⟨xs,rfl,hxs⟩:=xd λe he=>h e (List.mem_cons_of_mem _ he);exact⟨x::xs,rfl,λy hy=>by rcases List.mem_cons.1 hy with rfl|hy;exact hx;exact hxs y hy⟩
theorem GA{α:Type}{r:α->List T}{Q:α->Prop}{e:TypeId}{w:Nat}(hu:P.underlying t=some (.slice e))(hw:P.cellsOf e=w)(he:∀ts,Typ P e ts->∃x,ts=r x/\Q x)(h:Typ P t ts):∃s:Sl α,ts= [Sl.t r s]/\SlW w Q s:=by
 cases h with
 |slice _ e' nn l h hn hl h1 h2=>
  rw [hu]at h;cases h;obtain⟨xs,rfl,hq⟩:=xd (r:=r) (Q:=Q) λes hes=>he es (h2 es hes);exact⟨⟨nn,w,xs⟩,by rw [hw];rfl,rfl,λhh=>by simpa using hn hh,by simpa using hl,hq⟩
 |int _ k' n h hw=>rw [hu]at h;simp at h
 |bool _ b h=>rw [hu]at h;simp at h
 |str _ s h=>rw [hu]at h;simp at h
 |struct _ fs tss h=>rw [hu]at h;simp at h
 |array _ n e tss h=>rw [hu]at h;simp at h
theorem Dh{fs:Array Field}(hu:P.underlying t=some (.struct fs))(h:Typ P t ts):∃tss:List (List T),ts=tss.flatten/\tss.length=fs.toList.length/\∀(i:Nat) f ts',fs.toList[i]? =some f->tss[i]? =some ts'->Typ P f.type ts':=by
 cases h with
 |struct _ fs' tss h hl hf=>rw [hu]at h;cases h;exact⟨tss,rfl,by simpa using hl,λi f ts' h1 h2=>hf i f ts' (by simpa using h1) h2⟩
 |int _ k' n h hw=>rw [hu]at h;simp at h
 |bool _ b h=>rw [hu]at h;simp at h
 |str _ s h=>rw [hu]at h;simp at h
 |slice _ e nn l h=>rw [hu]at h;simp at h
 |array _ n e tss h=>rw [hu]at h;simp at h
theorem Ju{ts:List TypeId}{tds:List TD}{d:TypeDesc}(hu:P.underlying t=some d)(ha:aN d=false)(h:gU P (t::ts) tds):∃x r,tds= .one x::r/\Typ P t [x]/\gU P ts r:=by
 cases h with
 |cons t ts td ds h hr=>
  cases h with
  |one x h _=>exact⟨x,ds,rfl,h,hr⟩
  |agg xs h h2=>obtain⟨d',h3,h4⟩:=h2;rw [hu]at h3;cases h3;rw [ha]at h4;simp at h4
theorem Jv{ts:List TypeId}{tds:List TD}{d:TypeDesc}(hu:P.underlying t=some d)(ha:aN d=true)(h:gU P (t::ts) tds):∃x r,tds= .agg x::r/\Typ P t x/\gU P ts r:=by
 cases h with
 |cons t ts td ds h hr=>
  cases h with
  |agg x h _=>exact⟨x,ds,rfl,h,hr⟩
  |one xs h h2=>obtain⟨d',h3,h4⟩:=h2;rw [hu]at h3;cases h3;rw [ha]at h4;simp at h4
theorem Jw{tds:List TD}(h:gU P [] tds):tds= []:=by cases h;rfl
end
theorem Pj{E:Env}{n:Nat}{k:FuncId}{tds:List TD}(h:RunsP E n k tds (.fresh,[.one (bT true)])):∃m n kind,(cE E m n).1 k tds=some (kind,[.one (.v (.bool true))]):=by
 obtain⟨M,hM⟩:=h;exact⟨M,n,.fresh,hM M (Nat.le_refl _)⟩
theorem oV{A R:Type}{b:A->Option (A ⊕ R)}(n:Nat)(I:Nat->A->Prop)(Q:R->Prop)(hs:∀j a,j<n->I j a->(∃a',b a=some (.inl a')/\I (j+1) a')∨∃r,b a=some (.inr r)/\Q r)(he:∀a,I n a->∃r,b a=some (.inr r)/\Q r)(j:Nat)(hj:j<=n)(a:A)(ha:I j a):∃r,bO b a=some r/\Q r:=by
 obtain⟨k,hk⟩:∃k,n=j+k:=⟨n - j,by omega⟩
 induction k generalizing j a with
 |zero=>
  have:j=n:=by omega
  subst this;obtain⟨r,h1,h2⟩:=he a ha;exact⟨r,fM h1,h2⟩
 |succ k ih=>
  rcases hs j a (by omega) ha with⟨a',h1,h2⟩|⟨r,h1,h2⟩
  .obtain⟨r,h3,h4⟩:=ih (j+1) (by omega) a' h2 (by omega);exact⟨r,(nr h1).trans h3,h4⟩
  .exact⟨r,fM h1,h2⟩
theorem iF{α:Type}{w:Nat}{s:Sl α}(hs:s.l= []∨s.sz=w){j:Nat}(hj:j<s.l.length):atS w s (j:Int)=some s.l[j]:=by
 have hw:s.sz=w:=hs.resolve_left (by intro h;rw [h]at hj;simp at hj);unfold atS;rw [if_pos ⟨by omega,hw⟩];simp
theorem Lz{α:Type}{l:List α}{j:Nat}(hj:j<l.length):atL l (j:Int)=some l[j]:=by
 unfold atL;rw [if_pos (by omega)];simp
theorem gX{α:Type}{l m:List α}(h:l.length+m.length<=ct):app l m=some (l++m):=by unfold app;rw [if_pos h]
theorem gY{j n:Nat}(h:j<n)(hn:n<=9223372036854775807):IntKind.i64.wrap ((j:Int)+1)=((j+1:Nat):Int):=by rw [wrap64 (by omega) (by omega)];rfl
def neL{α:Type}(l:List α):Option Unit:=
 match l with
 | []=>none
 |_::_=>some ()
theorem Jx{α:Type}{l:List α}(h:l≠[]):neL l=some ():=by
 cases l with
 |nil=>exact absurd rfl h
 |cons a l=>rfl
end Ev
end
noncomputable section
namespace Ev
open Go Go.RowKit
section
variable {E : Env} {y : Nat → ea} {n nt : Nat} {f : Nat → D} {L : BL}
def yY(nt:Nat)(f:Nat->D)(l:List Operand):Option (List C):=l.mapM λx=>do match<-ov nt f x with| .one c=>some c|_=>none
theorem LA{fn:Fn}{first cap:Array Operand}{fs cs:List C}(h1:yY nt f first.toList=some fs)(h2:yY nt f cap.toList=some cs):PS E n nt f L (.makeFunc fn first cap) (.one (.clo fn fs cs)):=λh nid hb=>by
 show((first.toList.mapM λx=>(aB (aK (tab nt f)) x).bind λd=>match d with| .one c=>some c|_=>none).bind λa=>(cap.toList.mapM λx=>(aB (aK (tab nt f)) x).bind λd=>match d with| .one c=>some c|_=>none).bind λb=>some (⟨.one (.clo fn a b),[]⟩:Eff))=_;rw [fL];have h1':(first.toList.mapM λx=>(ov nt f x).bind λd=>match d with| .one c=>some c|_=>none)=some fs:=h1;have h2':(cap.toList.mapM λx=>(ov nt f x).bind λd=>match d with| .one c=>some c|_=>none)=some cs:=h2;rw [h1',h2'];rfl
def Jy(k:IntKind)(a:Int):Int:=Ph k (if k.signed then -1 else k.max) a
theorem LC{ty:TypeId}{x:Operand}{fr:Bool}{k:IntKind}{a:Int}(hx:ov nt f x=some (.one (.p fr (.v (.int k a))))):PS E n nt f L (.unOp .xor ty x) (iD k (Jy k a)):=λh nid hb=>by
 show((aB (aK (tab nt f)) x).bind λd=>(plain d).bind λv=>(ao E.P (Op.unary .xor v)).bind mkO)=_;rw [bw,hx];cases k<;>rfl
def fA(args:List D):Nat->D:=λi=>args.getD i bI
theorem Pk{args:List D}{k:Nat}(hl:args.length<=k):args++List.replicate (k - args.length) bI=tab k (fA args):=by
 rw [IR (args++List.replicate (k - args.length) bI)];have hlen:(args++List.replicate (k - args.length) bI).length=k:=by simp;omega
 rw [hlen];refine List.ext_getElem? λi=> ?_;rw [io,io];split
 .rename_i hi;congr 1;unfold fA;rw [List.getD_eq_getElem?_getD,List.getD_eq_getElem?_getD,List.getElem?_append];split
  .rfl
  .rename_i hge;rw [List.getElem?_replicate,if_pos (by omega),List.getElem?_eq_none (by omega)];rfl
 .rfl
def Mp(E:Env)(y:Nat->ea)(n nt:Nat)(ops:Array Oper)(r:List Oper)(K:St->Prop)(f:Nat->D)(d:Nat)(rv:List ResultVar):Ex->St->Prop:=λe s=>(e= .normal∨e= .ret)/\∃ds,rv.mapM (ce E s)=some ds/\iE E y n ops r K {t:=tab nt (up f d (ji ds)),h:=s.h}
variable {ops : Array Oper} {o : Oper} {r : List Oper} {K : St → Prop} {d : Nat} {Q : Ex → St → Prop}
theorem qX{b:Bool}(h:jd ops o nt f=some b):eb ops (aK (tab nt f)) o=some b:=by
 obtain⟨g,g1,g2⟩:=kD h;unfold gOf at g1;unfold eb
 cases ho:o.guard with
 |none=>rw [ho]at g1;simp only [zsI]at g1;subst g1;exact g2
 |some p=>
  obtain⟨j,w⟩:=p;rw [ho]at g1;simp only [Option.map_eq_some_iff]at g1;obtain⟨d,h1,h2⟩:=g1;subst h2;rw [zbE]at h1;obtain⟨o',h3,h4⟩:=h1;have h3':ops[j]? =some o':=by simpa using h3
  simp only [h3',h4,zbB,zbS];exact g2
theorem GB{cp:bJ}{c:Call}{nid:Nat}{H:am}(hw:jd ops o nt f=some true)(hc:be o.op=some c):step E cp ops nid o (aK (tab nt f)) H=gL cp nid c (aK (tab nt f)) H:=by
 unfold step;rw [qX hw];simp only [zbB,zbS,if_true,hc]
def rp(f:Nat->D):List Tmp->List D->Nat->D
 |p::ps,d::ds=>rp (up f p d) ps ds
 |_,_=>f
end
section
variable {X Up KT : Type} {nt : Nat}
variable {ex : Ex} {S : X → KT → (Nat → D) → Nat → D} {SL : X → KT → BL} {J : Up → Ex → St → Prop} {G : Up → Ex → St → Prop}
end
end Ev
end
noncomputable section
namespace Ev
namespace K
open Go Go.RowKit
inductive Ty where
 |I (k:IntKind)
 |B
 |S (e:Ty)
 |U
 |C (x y:Ty)
 deriving DecidableEq,Inhabited
namespace Ty
@[reducible] def val:Ty->Type
 | .I _=>Int
 | .B=>Bool
 | .S e=>Sl e.val
 | .U=>Unit
 | .C x y=>x.val×y.val
def size:Ty->Nat
 | .U=>0
 | .C x y=>x.size+y.size
 |_=>1
def row:(t:Ty)->t.val->List T
 | .I k,x=> [iT k x]
 | .B,x=> [bT x]
 | .S e,x=> [Sl.t e.row x]
 | .U,_=> []
 | .C a b,x=>a.row x.1++b.row x.2
def zero:(t:Ty)->t.val
 | .I _=>(0:Int)
 | .B=>false
 | .S _=>⟨false,0,[]⟩
 | .U=>()
 | .C a b=>(a.zero,b.zero)
def plain:Ty->Bool
 | .S _=>false
 | .C a b=>a.plain && b.plain
 |_=>true
end Ty
def eI(t t':Ty)(x:t.val):Option t'.val:=if h:t=t' then some (h▸x)else none
inductive KC where
 |n (k:IntKind) (x:Int)
 |b (v:Bool)
 |p (tag:Nat) (P:Prop) (d:Decidable P)
 |bv (x:Bool)
 |v (x:Value)
 |nil
 |s (e:Ty) (fr:Bool) (x:Sl e.val)
 |o (e:Ty) (p:Nat)
 |m (e:Ty) (p:Nat)
 |ptr (p j:Nat)
 |pe (p:Nat) (i:Int) (j:Nat)
 |ip (e:Ty) (fr:Bool) (x:Sl e.val) (i:Int) (y:e.val) (j:Nat)
 |clo (fn:FuncId) (ps:List Nat)
 |yld (p:Nat)
inductive KD where
 |one (c:KC)
 |agg (cs:List KC)
 |tup (ds:List (Bool×List KC))
inductive KB where
 |box (cs:List KC)
 |rows (e:Ty) (ne:Bool) (l:List e.val)
 |mrows (e:Ty) (l:List e.val)
 |dead
structure KS where
 sl:List (Nat×KD)
 bl:List (Nat×KB)
 nx:Nat
structure KF where
 nt:Nat:=0
 sl:List (Nat×KD):= []
 bl:List (Nat×KB):= []
def ak{α:Type}:List (Nat×α)->Nat->Option α
 | [],_=>none
 |x::r,i=>cond (Nat.beq x.1 i) (some x.2) (ak r i)
def aO{α:Type}(l m:List (Nat×α))(i:Nat):Option α:=
 match ak l i with
 |some a=>some a
 |none=>ak m i
def eJ(F:KF)(ks:KS)(i:Nat):Option KD:=aO ks.sl F.sl i
def an(F:KF)(ks:KS)(p:Nat):Option KB:=
 match aO ks.bl F.bl p with
 |some .dead=>none
 |x=>x
def bU(fr:Bool):(e:Ty)->e.val->List KC
 | .I k,x=> [.n k x]
 | .B,x=> [.bv x]
 | .S e,x=> [.s e fr x]
 | .U,_=> []
 | .C a b,x=>bU fr a x.1++bU fr b x.2
def jy(B:Nat->Option KB):(e:Ty)->KC->Option e.val
 | .I k,.n k' x=>if k=k' then some x else none
 | .B,.b v=>some v
 | .B,.p _ P d=>some (@decide P d)
 | .B,.bv x=>some x
 | .S e,.nil=>some ⟨false,0,[]⟩
 | .S e,.s e' _ x=>eI (.S e') (.S e) x
 | .S e,.o _ p=>match B p with
  |some (.rows e' _ l)=>eI (.S e') (.S e) ⟨true,e'.size,l⟩
  |_=>none
 | .S e,.m _ p=>match B p with
  |some (.mrows e' l)=>eI (.S e') (.S e) (mo e'.size l)
  |_=>none
 |_,_=>none
def dec(B:Nat->Option KB):(e:Ty)->List KC->Option e.val
 | .U,[]=>some ()
 | .C a b,cs=>(dec B a (cs.take a.size)).bind λx=>(dec B b (cs.drop a.size)).bind λy=>some (x,y)
 |e,[c]=>jy B e c
 |_,_=>none
def noB:Nat->Option KB:=λ_=>none
def frC:KC->Bool
 | .s _ fr _=>fr
 |_=>true
def oW:KC->Bool
 | .n .. | .b _| .p .. | .bv _| .v _| .nil| .s .. =>true
 |_=>false
abbrev TyD:=Bool×Ty
@[reducible] def ba:List TyD->Type
 | []=>Unit
 | [t]=>t.2.val
 |t::r=>t.2.val×ba r
def iG(t:TyD)(x:t.2.val):TD:=
 match t with
 |(true,e)=> .agg (e.row x)
 |(false,e)=>match e.row x with
  | [y]=> .one y
  |ys=> .agg ys
def bW:(ts:List TyD)->ba ts->List TD
 | [],_=> []
 | [t],x=> [iG t x]
 |t::t'::r,x=>iG t x.1::bW (t'::r) x.2
def mkD(x:Bool×List KC):KD:=
 match x with
 |(true,cs)=> .agg cs
 |(false,[c])=> .one c
 |(false,cs)=> .agg cs
def Jz(fr:Bool)(t:TyD)(x:t.2.val):Bool×List KC:=(t.1,bU fr t.2 x)
def kI(fr:Bool):(ts:List TyD)->ba ts->List (Bool×List KC)
 | [],_=> []
 | [t],x=> [Jz fr t x]
 |t::t'::r,x=>Jz fr t x.1::kI fr (t'::r) x.2
def yZ(B:Nat->Option KB)(t:TyD):KD->Option t.2.val
 | .one c=>if t.1 then none else jy B t.2 c
 | .agg cs=>if t.1 then dec B t.2 cs else none
 | .tup _=>none
def ir(B:Nat->Option KB):(ts:List TyD)->List KD->Option (ba ts)
 | [],[]=>some ()
 | [t],[d]=>yZ B t d
 |t::t'::r,d::ds=>(yZ B t d).bind λx=>(ir B (t'::r) ds).bind λy=>some (x,y)
 |_,_=>none
def oX:KD->Bool
 | .one c=>oW c
 | .agg cs=>cs.all oW
 | .tup _=>false
inductive OutK where
 |data (fr:Bool) (ts:List TyD)
 |own (e:Ty)
 |mown (e:Ty)
 |gown (e:Ty)
@[reducible] def OutK.val:OutK->Type
 | .data _ ts=>ba ts
 | .own e=>List e.val
 | .mown e=>List e.val
 | .gown e=>Sl e.val
structure bu where
 k:FuncId
 ins:List TyD
 out:OutK
 f:ba ins->Option out.val
 d:Nat
structure KG where
 ti:List (Nat×TI)
 eqs:List (Nat×List IntKind)
 fns:List bu
 fi:List (FuncId×FI)
def KG.fn(G:KG)(k:FuncId):Option bu:=G.fns.find? λe=>Nat.beq e.k k
def LE(ti:List (Nat×TI)):Nat->TypeId->Option Ty
 |0,_=>none
 |n+1,t=>match ak ti t with
  |none=>none
  |some i=>match i.desc with
   | .int k=>some (.I k)
   | .bool=>some .B
   | .slice e=>(LE ti n e).map .S
   | .array m e=>(LE ti n e).bind λx=>prod (List.replicate m x)
   | .struct fs=>(seqO (fs.toList.map λf=>LE ti n f.type)).bind prod
   |_=>none
where
 prod:List Ty->Option Ty
  | []=>some .U
  | [x]=>some x
  |x::y::r=>(prod (y::r)).map (.C x)
 seqO:List (Option Ty)->Option (List Ty)
  | []=>some []
  |none::_=>none
  |some x::r=>(seqO r).map (x::·)
def KG.ty(G:KG)(t:TypeId):Option Ty:=LE G.ti 9 t
def KG.elem(G:KG)(t:TypeId):Option (TypeId×Ty×Nat):=
 match ak G.ti t with
 |some i=>match aR i with
  |some e=>match ak G.ti e with
   |some te=>(G.ty e).map λx=>(e,x,te.size)
   |none=>none
  |none=>none
 |none=>none
structure KE where
 v:KD
 upd:Option (Nat×KB):=none
 new:Option KB:=none
def kC:Value->KC
 | .int k n=> .n k n
 | .bool b=> .b b
 | .slice none 0 0=> .nil
 |x=> .v x
def qv:Value->Option KD
 | .agg cs=>if cs.toList.all one1 then some (.agg (cs.toList.map kC))else none
 | .tuple _=>none
 |v=>some (.one (kC v))
def kO(F:KF)(ks:KS):Operand->Option KD
 | .tmp i=>eJ F ks i
 | .const v=>qv v
 | .global _=>none
 | .func f=>some (.one (.v (.func (.func f) #[] #[])))
def kUn:KD:= .tup []
def Pm(tag:Nat)(op:BinOp)(k k':IntKind)(a b:Int){R:Type}(κ:KE->Option R):Option R:=
 match op with
 | .shl=>(Pg k a b).bind λz=>κ ⟨.one (.n k z),none,none⟩
 | .shr=>(Jr k a b).bind λz=>κ ⟨.one (.n k z),none,none⟩
 |op=>if k=k' then match op with
  | .add=>κ ⟨.one (.n k (k.wrap (a+b))),none,none⟩
  | .sub=>κ ⟨.one (.n k (k.wrap (a - b))),none,none⟩
  | .mul=>κ ⟨.one (.n k (k.wrap (a*b))),none,none⟩
  | .and=>κ ⟨.one (.n k (QY k a b)),none,none⟩
  | .or=>κ ⟨.one (.n k (orI k a b)),none,none⟩
  | .xor=>κ ⟨.one (.n k (Ph k a b)),none,none⟩
  | .andNot=>κ ⟨.one (.n k (Ey k a b)),none,none⟩
  | .quo=>(Jo k a b).bind λz=>κ ⟨.one (.n k z),none,none⟩
  | .rem=>(yX a b).bind λz=>κ ⟨.one (.n k z),none,none⟩
  | .eql=>κ ⟨.one (.p tag (a=b) (Int.instDecidableEq a b)),none,none⟩
  | .neq=>κ ⟨.one (.p tag (a≠b) (@instDecidableNot _ (Int.instDecidableEq a b))),none,none⟩
  | .lss=>κ ⟨.one (.p tag (a<b) (Int.decLt a b)),none,none⟩
  | .leq=>κ ⟨.one (.p tag (a<=b) (Int.decLe a b)),none,none⟩
  | .gtr=>κ ⟨.one (.p tag (a>b) (Int.decLt b a)),none,none⟩
  | .geq=>κ ⟨.one (.p tag (a >= b) (Int.decLe b a)),none,none⟩
  |_=>none
 else none
def uj:Operand->Bool
 | .const (.slice none 0 0)=>true
 |_=>false
def qw(op:BinOp)(tag:Nat)(P:Prop)(d:Decidable P):Option KC:=
 match op with
 | .eql=>some (.p tag P d)
 | .neq=>some (.p tag (¬P) (@instDecidableNot P d))
 |_=>none
def Ez(op:BinOp)(v:Bool):Option KC:=
 match op with
 | .eql=>some (.b v)
 | .neq=>some (.b (!v))
 |_=>none
def eqP:List (Int×Int)->Prop
 | []=>True
 | [x]=>x.1=x.2
 |x::y::r=>x.1=x.2/\eqP (y::r)
def eqD:(l:List (Int×Int))->Decidable (eqP l)
 | []=> .isTrue trivial
 | [x]=>Int.instDecidableEq x.1 x.2
 |x::y::r=> @instDecidableAnd _ _ (Int.instDecidableEq x.1 x.2) (eqD (y::r))
def ez:List IntKind->List KC->List KC->Option (List (Int×Int))
 | [],[],[]=>some []
 |k::ks,.n k1 x::r,.n k2 y::s=>if k1=k/\k2=k then(ez ks r s).map ((x,y)::·)else none
 |_,_,_=>none
def EA:KC->Option Bool
 | .b v=>some v
 | .p _ P d=>some (@decide P d)
 | .bv x=>some x
 |_=>none
def ze(ti:List (Nat×TI))(t:TypeId):Bool:=match ak ti t with
 |some i=>match i.desc with
  | .bool=>true
  |_=>false
 |none=>false
def Lm(G:KG)(F:KF)(ks:KS)(tag:Nat)(op:BinOp)(ty:TypeId)(y:Operand)(a b:KD){R:Type}(κ:KE->Option R):Option R:=
 match a,b with
 | .one (.n k x),.one (.n k' x')=>Pm tag op k k' x x' κ
 | .one (.s e fr x),_=>match uj y,G.elem ty with
  |true,some _=>(qw op tag (x.nn=false) (instDecidableEqBool x.nn false)).bind λc=>κ ⟨.one c,none,none⟩
  |_,_=>none
 | .one (.o e p),_=>match uj y,G.elem ty,an F ks p with
  |true,some _,some (.rows _ _ _)=>(Ez op false).bind λc=>κ ⟨.one c,none,none⟩
  |_,_,_=>none
 | .one .nil,_=>match uj y,G.elem ty with
  |true,some _=>(Ez op true).bind λc=>κ ⟨.one c,none,none⟩
  |_,_=>none
 | .agg cs,.agg ds=>match ak G.eqs ty with
  |some kinds=>match ez kinds cs ds with
   |some l=>(qw op tag (eqP l) (eqD l)).bind λc=>κ ⟨.one c,none,none⟩
   |none=>none
  |none=>none
 | .one c,.one d=>match ze G.ti ty,EA c,EA d with
  |true,some x,some x'=>(qw op tag (x=x') (instDecidableEqBool x x')).bind λc=>κ ⟨.one c,none,none⟩
  |_,_,_=>none
 |_,_=>none
def kOf(agg:Bool)(cs:List KC):Option KD:=
 if agg then some (.agg cs)else match cs with
  | [c]=>some (.one c)
  |_=>none
def kCs:KD->Option (List KC)
 | .one c=>some [c]
 | .agg cs=>some cs
 | .tup _=>none
def wd(z:Nat×Bool):Nat:=cond z.2 z.1 1
def JA(ti:List (Nat×TI))(t:TypeId):Option (Nat×Bool):=match ak ti t with
 |some i=>some (i.size,aN i.desc)
 |none=>none
def LG(ti:List (Nat×TI))(t:TypeId)(m:Nat):Option (Nat×Nat×Bool):=match ak ti t with
 |some i=>match fQ i m with
  |some fd=>match ak ti fd.type with
   |some ft=>some (fd.offset,ft.size,aN ft.desc)
   |none=>none
  |none=>none
 |none=>none
def fF(F:KF)(ks:KS)(z:Nat×Bool)(a:KD){R:Type}(κ:KD->Option R):Option R:=
 match a with
 | .one (.ptr p j)=>match an F ks p with
  |some (.box cs)=>((cut cs j (wd z)).bind (kOf z.2)).bind κ
  |_=>none
 | .one (.ip e fr x i y j)=>((cut (bU fr e y) j (wd z)).bind (kOf z.2)).bind κ
 | .one (.pe p i j)=>match an F ks p with
  |some (.rows e _ l)=>(atL l i).bind λy=>((cut (bU true e y) j (wd z)).bind (kOf z.2)).bind κ
  |some (.mrows e l)=>(atL l i).bind λy=>((cut (bU true e y) j (wd z)).bind (kOf z.2)).bind κ
  |_=>none
 |_=>none
def uh(ks:KS)(sz:Nat)(a x:KD){R:Type}(κ:KE->Option R):Option R:=
 match kCs x with
 |none=>none
 |some cs=>if cs.length=sz then match a with
  | .one (.ptr p j)=>match ak ks.bl p with
   |some (.box es)=>(patch es j cs).bind λes'=>κ ⟨kUn,some (p,.box es'),none⟩
   |_=>none
  | .one (.pe p i j)=>match ak ks.bl p with
   |some (.rows e ne l)=>if cs.all frC then(atL l i).bind λy=>(patch (bU true e y) j cs).bind λes'=>(dec noB e es').bind λy'=>κ ⟨kUn,some (p,.rows e ne (l.set i.toNat y')),none⟩else none
   |some (.mrows e l)=>if cs.all frC then(atL l i).bind λy=>(patch (bU true e y) j cs).bind λes'=>(dec noB e es').bind λy'=>κ ⟨kUn,some (p,.mrows e (l.set i.toNat y')),none⟩else none
   |_=>none
  |_=>none
 else none
def kPlaces(ti:List (Nat×TI))(t:TypeId):Option (Nat->Option (Nat×Nat)):=match ak ti t with
 |some i=>match i.desc with
  | .struct fs=>(seqP (fs.toList.map λf=>match ak ti f.type with
   |some q=>some (f.offset,q.size)
   |none=>none)).map λl n=>l[n]?
  | .array _ e=>match ak ti e with
   |some te=>some λn=>some (n*te.size,te.size)
   |none=>none
  |_=>none
 |none=>none
where
 seqP:List (Option (Nat×Nat))->Option (List (Nat×Nat))
  | []=>some []
  |none::_=>none
  |some x::r=>(seqP r).map (x::·)
def Bo(place:Nat->Option (Nat×Nat))(cells:List KC):List (Nat×KD)->Option (List KC)
 | []=>some cells
 |(i,d)::r=>match place i,kCs d with
  |some (off,size),some cs=>if cs.length=size then(patch cells off cs).bind λc=>Bo place c r else none
  |_,_=>none
def uk(F:KF)(ks:KS):List (Nat×Operand)->Option (List (Nat×KD))
 | []=>some []
 |(i,x)::r=>(kO F ks x).bind λd=>(uk F ks r).bind λl=>some ((i,d)::l)
def gw(F:KF)(ks:KS):List Operand->Option (List KD)
 | []=>some []
 |x::r=>(kO F ks x).bind λd=>(gw F ks r).bind λl=>some (d::l)
def lQ(e:Ty):List (List KC)->Option (List e.val)
 | []=>some []
 |cs::r=>if cs.all frC=true then(dec noB e cs).bind λx=>(lQ e r).bind λl=>some (x::l)else none
def xe(z:Nat)(cs:List KC):Nat->Nat->Option (List (List KC))
 |0,_=>some []
 |n+1,i=>(cut cs (i*z) z).bind λa=>(xe z cs n (i+1)).bind λl=>some (a::l)
def zf(F:KF)(ks:KS)(e:Ty):KC->Option (List e.val×Bool)
 | .nil=>some ([],false)
 | .s e' fr x=>if(fr||e'.plain)=true then(eI (.S e') (.S e) x).map λx=>(x.l,false)else none
 | .o _ p=>match an F ks p with
  |some (.rows e' ne l)=>(eI (.S e') (.S e) ⟨true,0,l⟩).map λx=>(x.l,ne)
  |_=>none
 | .m _ p=>match an F ks p with
  |some (.mrows e' l)=>(eI (.S e') (.S e) ⟨true,0,l⟩).map λx=>(x.l,false)
  |_=>none
 |_=>none
def zg(F:KF)(ks:KS)(nid:Nat)(e:Ty)(a x:KC){R:Type}(κ:KE->Option R):Option R:=
 match zf F ks e x with
 |none=>none
 |some (xs,ne)=>match a with
  | .nil=>(app [] xs).bind λlm=>cond ne (κ ⟨.one (.o e nid),none,some (.rows e true lm)⟩) (κ ⟨.one (.m e nid),none,some (.mrows e lm)⟩)
  | .o _ p=>match ak ks.bl p with
   |some (.rows e' ne' l)=>(eI (.S e') (.S e) ⟨true,0,l⟩).bind λl=>(app l.l xs).bind λlm=>κ ⟨.one (.o e nid),some (p,.dead),some (.rows e (ne||ne') lm)⟩
   |_=>none
  | .m _ p=>match ak ks.bl p with
   |some (.mrows e' l)=>(eI (.S e') (.S e) ⟨true,0,l⟩).bind λl=>(app l.l xs).bind λlm=>cond ne (κ ⟨.one (.o e nid),some (p,.dead),some (.rows e true lm)⟩) (κ ⟨.one (.m e nid),some (p,.dead),some (.mrows e lm)⟩)
   |_=>none
  |_=>none
def Pn(F:KF)(ks:KS):KC->Option Int
 | .nil=>some 0
 | .s _ _ x=>some ((x.l.length:Nat):Int)
 | .o _ p=>match an F ks p with
  |some (.rows _ _ l)=>some ((l.length:Nat):Int)
  |_=>none
 | .m _ p=>match an F ks p with
  |some (.mrows _ l)=>some ((l.length:Nat):Int)
  |_=>none
 |_=>none
def um(G:KG)(F:KF)(ks:KS)(nid:Nat)(c:Call)(b:Builtin)(args:List KD){R:Type}(κ:KE->Option R):Option R:=
 match c.argTypes[0]? with
 |none=>none
 |some ty=>match b,args with
  | .len,[.one x]=>match G.elem ty with
   |some _=>(Pn F ks x).bind λn=>κ ⟨.one (.n .i64 n),none,none⟩
   |none=>none
  | .min,[.one (.n k x),.one (.n _ y)]=>match ak G.ti ty with
   |some _=>κ ⟨.one (.n k (Rc x y)),none,none⟩
   |none=>none
  | .max,[.one (.n k x),.one (.n _ y)]=>match ak G.ti ty with
   |some _=>κ ⟨.one (.n k (Re x y)),none,none⟩
   |none=>none
  | .append,[.one a,.one x]=>match G.elem ty,(c.argTypes[1]?).bind G.elem with
   |some (_,e,z),some _=>if e.size=z/\z≠0 then zg F ks nid e a x κ else none
   |_,_=>none
  | .copy,[.one (.o _ p),.one x]=>match G.elem ty,(c.argTypes[1]?).bind G.elem,ak ks.bl p with
   |some (_,e,z),some _,some (.rows e' ne l)=>if e.size=z/\z≠0 then match zf F ks e x with
    |some (xs,_)=>(eI (.S e') (.S e) ⟨true,0,l⟩).bind λl=>(cpL l.l xs).bind λlm=>κ ⟨.one (.n .i64 ((xs.length:Nat):Int)),some (p,.rows e ne lm),none⟩
    |none=>none
    else none
   |_,_,_=>none
  |_,_=>none
def JB:List (Bool×List KC)->KD
 | [d]=>mkD d
 |ds=> .tup ds
def Po(nid:Nat):(o:OutK)->o.val->KE
 | .data fr ts,x=>⟨JB (kI fr ts x),none,none⟩
 | .own e,l=>⟨.one (.o e nid),none,some (.rows e false l)⟩
 | .mown e,l=>⟨.one (.m e nid),none,some (.mrows e l)⟩
 | .gown _,_=>⟨.one .nil,none,none⟩
def Di(F:KF)(ks:KS)(nid:Nat)(en:bu)(args:List KD){R:Type}(κ:KE->Option R):Option R:=
 match en.out with
 | .data false _=>if args.all oX then(ir (an F ks) en.ins args).bind λa=>(en.f a).bind λout=>κ (Po nid en.out out)else none
 | .gown _=>none
 |_=>(ir (an F ks) en.ins args).bind λa=>(en.f a).bind λout=>κ (Po nid en.out out)
def kJ(F:KF)(ks:KS)(c:Call):Option (FuncId×List KD):=
 match c.callee with
 | .value f=>match kO F ks f,gw F ks c.args.toList with
  |some (.one (.v (.func (.func k) first cap))),some args=>if first.size=0/\cap.size=0 then some (k,args)else none
  |some (.one (.clo k ps)),some args=>some (k,args++ps.map λp=> .one (.ptr p 0))
  |_,_=>none
 |_=>none
def EB:List KD->Option (List Nat)
 | []=>some []
 | .one (.ptr p j)::r=>if j=0 then(EB r).map (p::·)else none
 |_=>none
def uq(F:KF)(ks:KS)(o:Option Operand)(d:Int):Option Int:=
 match o with
 |none=>some d
 |some x=>match kO F ks x with
  |some (.one (.n _ i))=>some i
  |_=>none
def Pp{R:Type}(b:Bool)(n:Nat)(j m:Int)(x:Option R):Option R:=cond b (if j<=m/\m<=(n:Int)then x else none) x
theorem GC{R:Type}{b:Bool}{n:Nat}{j m:Int}{x:Option R}{r:R}(h:Pp b n j m x=some r):x=some r/\(b=true->j<=m/\m<=(n:Int)):=by
 unfold Pp at h
 cases b with
 |false=>exact⟨h,λh=>by simp at h⟩
 |true=>
  simp only [cond_true]at h;split at h
  .rename_i hc;exact⟨h,λ_=>hc⟩
  .simp at h
def bG(G:KG)(F:KF)(ks:KS)(tag nid:Nat)(op:Op){R:Type}(κ:KE->Option R):Option R:=
 match op with
 | .move x| .assign x=>(kO F ks x).bind λd=>κ ⟨d,none,none⟩
 | .alloc t=>match ak G.ti t with
  |some i=>κ ⟨.one (.ptr nid 0),none,some (.box (i.zero.map kC))⟩
  |none=>none
 | .box t x=>match ak G.ti t,(kO F ks x).bind kCs with
  |some _,some cs=>κ ⟨.one (.ptr nid 0),none,some (.box cs)⟩
  |_,_=>none
 | .build t parts=>match ak G.ti t,kPlaces G.ti t,uk F ks parts.toList with
  |some i,some pl,some ps=>(Bo pl (i.zero.map kC) ps).bind λcs=>κ ⟨.agg cs,none,none⟩
  |_,_,_=>none
 | .buildSlice t len parts=>match G.elem t,uk F ks parts.toList with
  |some (te,e,z),some ps=>match ak G.ti te with
   |some i=>if e.size=z/\z*len<=1000000 then(Bo (λn=>some (n*z,z)) ((List.replicate len (i.zero.map kC)).flatten) ps).bind λcs=>(xe z cs len 0).bind λrs=>(lQ e rs).bind λl=>κ ⟨.one (.o e nid),none,some (.rows e (Nat.blt 0 len) l)⟩else none
   |none=>none
  |_,_=>none
 | .load t a=>match JA G.ti t,kO F ks a with
  |some z,some d=>fF F ks z d λv=>κ ⟨v,none,none⟩
  |_,_=>none
 | .store t a x=>match JA G.ti t,kO F ks a,kO F ks x with
  |some z,some d,some v=>uh ks z.1 d v κ
  |_,_,_=>none
 | .binOp op ty x y _=>match kO F ks x,kO F ks y with
  |some a,some b=>Lm G F ks tag op ty y a b κ
  |_,_=>none
 | .unOp op _ x=>match op,kO F ks x with
  | .not,some (.one (.b v))=>κ ⟨.one (.b (!v)),none,none⟩
  | .not,some (.one (.p _ P d))=>κ ⟨.one (.p tag (¬P) (@instDecidableNot P d)),none,none⟩
  | .not,some (.one (.bv x))=>κ ⟨.one (.p tag (¬x=true) (@instDecidableNot _ (instDecidableEqBool x true))),none,none⟩
  | .neg,some (.one (.n k x))=>κ ⟨.one (.n k (k.wrap (0 - x))),none,none⟩
  | .xor,some (.one (.n k x))=>κ ⟨.one (.n k (Jy k x)),none,none⟩
  |_,_=>none
 | .convert src dst x=>match kO F ks x with
  |some (.one (.o e0 p))=>match Nat.beq src dst,G.elem dst,ak ks.bl p with
   |true,some (te,_,_),some (.rows e ne l)=>match ak G.ti te with
    |some i=>cond (wv i.desc && Nat.beq e.size 1) (κ ⟨.one (.o e0 p),some (p,.rows e ne l),none⟩) none
    |none=>none
   |_,_,_=>none
  |some (.one (.n k a))=>match ak G.ti src,ak G.ti dst with
   |some s,some d=>match s.desc,d.desc with
    | .int k1,.int k2=>if k1=k then κ ⟨.one (.n k2 (k2.wrap a)),none,none⟩else none
    |_,_=>none
   |_,_=>none
  |_=>none
 | .makeFunc fn first cap=>match fn,first.toList,(gw F ks cap.toList).bind EB with
  | .func k,[],some ps=>κ ⟨.one (.clo k ps),none,none⟩
  |_,_,_=>none
 | .makeSlice t l c=>match G.elem t,kO F ks l,kO F ks c with
  |some (te,e,z),some (.one (.n _ n)),some (.one (.n _ m))=>match ak G.ti te with
   |some i=>if e.size=z/\z≠0 then(Jq n m).bind λ_=>(Jp n).bind λ_=>(dec noB e (i.zero.map kC)).bind λx=>κ ⟨.one (.o e nid),none,some (.rows e false (List.replicate n.toNat x))⟩else none
   |none=>none
  |_,_,_=>none
 | .slice t x lo hi mx=>match mx.isSome && hi.isNone,G.elem t,kO F ks x with
  |false,some (te,e,z),some (.one (.s e' fr s))=>match uq F ks lo 0,uq F ks hi ((s.l.length:Nat):Int),uq F ks mx ((s.l.length:Nat):Int)with
   |some i,some j,some m=>Pp mx.isSome s.l.length j m ((Dg z s i j).bind λs'=>κ ⟨.one (.s e' fr s'),none,none⟩)
   |_,_,_=>none
  |_,_,_=>none
 | .fieldAddr t x f=>match LG G.ti t f,kO F ks x with
  |some (off,sz,_),some (.one (.ptr p j))=>if sz=0 then none else κ ⟨.one (.ptr p (j+off)),none,none⟩
  |some (off,sz,_),some (.one (.pe p i j))=>if sz=0 then none else κ ⟨.one (.pe p i (j+off)),none,none⟩
  |some (off,sz,_),some (.one (.ip e fr x i y j))=>if sz=0 then none else κ ⟨.one (.ip e fr x i y (j+off)),none,none⟩
  |_,_=>none
 | .field t x f=>match LG G.ti t f,kO F ks x with
  |some (off,sz,ag),some (.agg cs)=>((cut cs off (wd (sz,ag))).bind (kOf ag)).bind λd=>κ ⟨d,none,none⟩
  |_,_=>none
 | .indexAddr t x ix=>match kO F ks x,kO F ks ix with
  |some (.one (.s e fr s)),some (.one (.n _ i))=>match G.elem t with
   |some (_,_,z)=>(atS z s i).bind λy=>κ ⟨.one (.ip e fr s i y 0),none,none⟩
   |none=>none
  |some (.one (.o _ p)),some (.one (.n _ i))=>match G.elem t,an F ks p with
   |some (_,_,z),some (.rows e _ l)=>if e.size=z then(atL l i).bind λ_=>κ ⟨.one (.pe p i 0),none,none⟩else none
   |_,_=>none
  |some (.one (.m _ p)),some (.one (.n _ i))=>match G.elem t,an F ks p with
   |some (_,_,z),some (.mrows e l)=>if e.size=z then(atL l i).bind λ_=>κ ⟨.one (.pe p i 0),none,none⟩else none
   |_,_=>none
  |some (.one (.ptr p j)),some (.one (.n _ (.ofNat a)))=>match ak G.ti t with
   |some ti=>match ti.desc with
    | .array n e=>match ak G.ti e with
     |some te=>if a<n then κ ⟨.one (.ptr p (j+a*te.size)),none,none⟩else none
     |none=>none
    |_=>none
   |none=>none
  |some (.one (.ip e fr s i y j)),some (.one (.n _ (.ofNat a)))=>match ak G.ti t with
   |some ti=>match ti.desc with
    | .array n e'=>match ak G.ti e' with
     |some te=>if a<n then κ ⟨.one (.ip e fr s i y (j+a*te.size)),none,none⟩else none
     |none=>none
    |_=>none
   |none=>none
  |_,_=>none
 | .index t x ix=>match ak G.ti t,kO F ks x,kO F ks ix with
  |some ti,some (.agg cs),some (.one (.n _ (.ofNat a)))=>match ti.desc with
   | .array n e=>match ak G.ti e with
    |some te=>if a<n then((cut cs (a*te.size) (wd (te.size,aN te.desc))).bind (kOf (aN te.desc))).bind λd=>κ ⟨d,none,none⟩else none
    |none=>none
   |_=>none
  |_,_,_=>none
 | .extract x i=>match kO F ks x with
  |some (.tup ds)=>(ds[i]?).bind λd=>κ ⟨mkD d,none,none⟩
  |_=>none
 | .call c=>match c.callee with
  | .builtin b=>(gw F ks c.args.toList).bind λargs=>um G F ks nid c b args κ
  |_=>match kJ F ks c with
   |some (k,args)=>match G.fn k with
    |some en=>Di F ks nid en args κ
    |none=>none
   |none=>none
 |_=>none
def kK(tag:Nat)(v:Bool):KC->KC
 | .p t P d=>cond (Nat.beq t tag) (.b v) (.p t P d)
 |c=>c
def Pq(tag:Nat)(v:Bool):KD->KD
 | .one c=> .one (kK tag v c)
 | .agg cs=> .agg (cs.map (kK tag v))
 | .tup ds=> .tup ds
def JC(tag:Nat)(v:Bool):KB->KB
 | .box cs=> .box (cs.map (kK tag v))
 |b=>b
def subst(tag:Nat)(v:Bool)(ks:KS):KS:={ks with sl:=ks.sl.map λx=>(x.1,Pq tag v x.2),bl:=ks.bl.map λx=>(x.1,JC tag v x.2)}
def kIf(c:KC)(ks:KS){R:Type}(κ:Bool->KS->Option R):Option R:=
 match c with
 | .b v=>κ v ks
 | .p tag P d=> @ite _ P d (κ true (subst tag true ks)) (κ false (subst tag false ks))
 | .bv x=>if x=true then κ true ks else κ false ks
 |_=>none
def jJ(tag:Nat):KD->KD
 | .one (.bv x)=> .one (.p tag (x=true) (instDecidableEqBool x true))
 |d=>d
def blU(e:KE)(bl:List (Nat×KB)):List (Nat×KB):=
 match e.upd with
 |some x=>x::bl
 |none=>bl
def blE(e:KE)(nid:Nat)(bl:List (Nat×KB)):List (Nat×KB):=
 match e.new with
 |some b=>(nid,b)::blU e bl
 |none=>blU e bl
def slE(dst:Option Tmp)(v:KD)(sl:List (Nat×KD)):List (Nat×KD):=
 match dst with
 |some d=>(d,v)::sl
 |none=>sl
def Dj(dst:Option Tmp)(tag nid:Nat)(e:KE)(ks:KS):KS:={sl:=slE dst (jJ tag e.v) ks.sl,bl:=blE e nid ks.bl,nx:=ks.nx+2}
def gc(F:KF):Option Tmp->Bool
 |some d=>Nat.blt d F.nt
 |none=>true
def xf(dst:Option Tmp)(ks:KS):KS:={ks with sl:=slE dst kUn ks.sl}
def xg(F:KF)(op:Op)(ks:KS){R:Type}(κ:Op->KS->Option R):Option R:=
 match op with
 | .pick c a b=>match kO F ks c with
  |some (.one c)=>kIf c ks λt ks=>κ (.move (cond t a b)) ks
  |_=>none
 |op=>κ op ks
def xh(F:KF)(ops:List Oper)(o:Oper)(ks:KS){R:Type}(κ:Bool->KS->Option R):Option R:=
 cond (gc F o.dst) (match o.guard with
 |none=>κ true ks
 |some (j,w)=>match(ops[j]?).bind λg=>g.dst with
  |some d=>match eJ F ks d with
   |some (.one c)=>kIf c ks λb ks=>κ (b==w) ks
   |some (.tup [])=>κ false ks
   |_=>none
  |none=>none) none
abbrev xi:=(R:Type)->KF->FuncId->List KD->KS->(KD->KS->Option R)->Option R
def ur(G:KG)(F:KF)(ks:KS)(op:Op):Option (FuncId×List KD):=
 match op with
 | .call c=>match c.callee with
  | .builtin _=>none
  |_=>match kJ F ks c with
   |some (k,args)=>match ak G.fi k with
    |some _=>some (k,args)
    |none=>none
   |none=>none
 |_=>none
def vZ(G:KG)(call:xi)(F:KF)(ops:List Oper){R:Type}(κ:KS->Option R):List Oper->KS->Option R
 | [],ks=>κ ks
 |o::r,ks=>xh F ops o ks λw ks=>cond w
   (xg F o.op ks λop ks=>match ur G F ks op with
    |some (k,args)=>match o.dst with
     |some d=>call R F k args ks λv ks2=>vZ G call F ops κ r {ks2 with sl:=(d,v)::ks.sl}
     |none=>none
    |none=>bG G F ks ks.nx (ks.nx+1) op λe=>vZ G call F ops κ r (Dj o.dst ks.nx (ks.nx+1) e ks))
   (vZ G call F ops κ r (xf o.dst ks))
def kP(G:KG)(F:KF)(ops:List Oper){R:Type}(κ:KS->Option R):List Oper->KS->Option R
 | [],ks=>κ ks
 |o::r,ks=>xh F ops o ks λw ks=>cond w
   (xg F o.op ks λop ks=>bG G F ks ks.nx (ks.nx+1) op λe=>match e.upd,e.new with
    |none,none=>kP G F ops κ r (Dj o.dst ks.nx (ks.nx+1) e ks)
    |_,_=>none)
   (kP G F ops κ r (xf o.dst ks))
end K
end Ev
end
noncomputable section
namespace Ev
namespace K
open Go Go.RowKit
inductive Sh where
 |d (fr:Bool) (t:Ty)
 |o (e:Ty)
 |m (e:Ty)
 |w (e:Ty)
@[reducible] def Sh.T:Sh->Type
 | .d _ t=>t.val
 | .o e=>List e.val
 | .m e=>List e.val
 | .w e=>List e.val
@[reducible] def cj:List Sh->Type
 | []=>Unit
 | [h]=>h.T
 |h::r=>h.T×cj r
inductive BR where
 |sl (i j:Nat)
 |bx (i j:Nat)
structure Pt where
 vs:List (Nat×Bool×List Sh)
 bs:List (Nat×List Sh)
 ws:List (BR×Ty):= []
def wSh(x:BR×Ty):Sh:= .w x.2
def Pt.sh(p:Pt):List Sh:=p.vs.flatMap (·.2.2)++(p.bs.flatMap (·.2)++p.ws.map wSh)
@[reducible] def XT:List (Ex×Pt)->Type
 | []=>Empty
 |x::r=>cj x.2.sh ⊕ XT r
structure Bp where
 join:Bool:=false
 key:Nat
 sz:Nat:=0
 keep:List Nat
 head:Pt
 exs:List (Ex×Pt)
def xj(ks:KS):(h:Sh)->KC->{R:Type}->(h.T->Option R)->Option R
 | .d fr t,c,_,κ=>if fr=true/\frC c=false then none else(jy noB t c).bind κ
 | .o e,.o _ p,_,κ=>match ak ks.bl p with
  |some (.rows e' _ l)=>(eI (.S e') (.S e) ⟨true,0,l⟩).bind λl=>κ l.l
  |_=>none
 | .w e,.o _ p,_,κ=>match ak ks.bl p with
  |some (.rows e' _ l)=>(eI (.S e') (.S e) ⟨true,0,l⟩).bind λl=>κ l.l
  |_=>none
 | .m e,.nil,_,κ=>κ []
 | .m e,.m _ p,_,κ=>match ak ks.bl p with
  |some (.mrows e' l)=>(eI (.S e') (.S e) ⟨true,0,l⟩).bind λl=>κ l.l
  |_=>none
 | .m e,.o _ p,_,κ=>match ak ks.bl p with
  |some (.rows e' ne l)=>(eI (.S e') (.S e) ⟨true,0,l⟩).bind λl=>cond ne (κ l.l) ((neL l.l).bind λ_=>κ l.l)
  |_=>none
 |_,_,_,_=>none
def jz(ks:KS):(hs:List Sh)->List KC->{R:Type}->(cj hs->Option R)->Option R
 | [],[],_,κ=>κ ()
 | [h],[c],_,κ=>xj ks h c κ
 |h::h'::r,c::cs,_,κ=>xj ks h c λx=>jz ks (h'::r) cs λy=>κ (x,y)
 |_,_,_,_=>none
def bm(q:Nat):(h:Sh)->h.T->KC×List (Nat×KB)
 | .d _ .B,x=>(.bv x,[])
 | .d fr t,x=>(match bU fr t x with
  |c::_=>c
  | []=> .nil,[])
 | .o e,l=>(.o e q,[(q,.rows e false l)])
 | .m e,l=>(.m e q,[(q,.mrows e l)])
 | .w e,l=>(.o e q,[])
def wC:(h:Sh)->h.T->KB
 | .w e,l=> .rows e false l
 |_,_=> .dead
def wCs:(hs:List Sh)->cj hs->List KB
 | [],_=> []
 | [h],x=> [wC h x]
 |h::h'::r,x=>wC h x.1::wCs (h'::r) x.2
def aG:(hs:List Sh)->cj hs->Nat->List (KC×List (Nat×KB))
 | [],_,_=> []
 | [h],x,q=> [bm q h x]
 |h::h'::r,x,q=>bm q h x.1::aG (h'::r) x.2 (q+1)
def kQ(F:KF)(ks:KS):List (Nat×Bool×List Sh)->Option (List KC)
 | []=>some []
 |v::r=>match eJ F ks v.1 with
  |some (.one c)=>if v.2.1 then none else if v.2.2.length=1 then(kQ F ks r).map (c::·)else none
  |some (.agg cs)=>if v.2.1 then if v.2.2.length=cs.length then(kQ F ks r).map (cs++·)else none else none
  |_=>none
def cH(F:KF)(ks:KS)(i:Nat):Option Nat:=
 match eJ F ks i with
 |some (.one (.ptr p j))=>if j=0 then some p else none
 |_=>none
def bZ(F:KF)(ks:KS):List (Nat×List Sh)->Option (List KC)
 | []=>some []
 |v::r=>match(cH F ks v.1).bind (ak ks.bl)with
  |some (.box cs)=>if v.2.length=cs.length then(bZ F ks r).map (cs++·)else none
  |_=>none
def brC(F:KF)(ks:KS):BR->Option KC
 | .sl i j=>match eJ F ks i with
  |some (.one c)=>some c
  |some (.agg cs)=>cs[j]?
  |_=>none
 | .bx i j=>match cH F ks i with
  |some p=>match aO ks.bl F.bl p with
   |some (.box cs)=>cs[j]?
   |_=>none
  |none=>none
def eK(F:KF)(ks:KS)(w:BR):Option Nat:=
 match brC F ks w with
 |some (.o _ p)=>some p
 |_=>none
def ut(F:KF)(ks:KS):List (BR×Ty)->Option (List KC)
 | []=>some []
 |v::r=>match eK F ks v.1 with
  |some p=>(ut F ks r).map (.o v.2 p::·)
  |none=>none
def du(F:KF)(ks:KS)(p:Pt):Option (List KC):=(kQ F ks p.vs).bind λa=>(bZ F ks p.bs).bind λb=>(ut F ks p.ws).map λc=>a++(b++c)
def bp:List KC->List Nat
 | []=> []
 | .o _ p::r=>p::bp r
 | .m _ p::r=>p::bp r
 |_::r=>bp r
def gm:List Nat->Bool
 | []=>true
 |a::r=> !(r.any (Nat.beq a))&& gm r
def oY(F:KF)(ks:KS)(p:Pt){R:Type}(κ:cj p.sh->Option R):Option R:=
 match du F ks p with
 |some cs=>cond (gm (bp cs)) (jz ks p.sh cs κ) none
 |none=>none
def fN:List (Nat×Bool×List Sh)->List KC->List (Nat×KD)
 | [],_=> []
 |v::r,cs=>(v.1,if v.2.1 then .agg (cs.take v.2.2.length)else match cs with
  |c::_=> .one c
  | []=>kUn)::fN r (cs.drop v.2.2.length)
def dv(F:KF)(ks:KS):List (Nat×List Sh)->List KC->List (Nat×KB)
 | [],_=> []
 |v::r,cs=>match cH F ks v.1 with
  |some p=>(p,.box (cs.take v.2.length))::dv F ks r (cs.drop v.2.length)
  |none=>dv F ks r (cs.drop v.2.length)
def dX(F:KF)(ks:KS):List (BR×Ty)->List KB->List (Nat×KB)
 | [],_=> []
 |_,[]=> []
 |v::r,b::bs=>match eK F ks v.1 with
  |some p=>(p,b)::dX F ks r bs
  |none=>dX F ks r bs
def gA(l:List (Nat×Bool×List Sh)):Nat:=(l.flatMap (·.2.2)).length
def mh(l:List (Nat×List Sh)):Nat:=(l.flatMap (·.2)).length
def eY(F:KF)(ks:KS):Bool:=F.sl.all λx=>(ak ks.sl x.1).isNone
def mD(F:KF)(ks:KS):List Nat->List (Nat×KD)
 | []=> []
 |i::r=>match ak ks.sl i with
  |some d=>(i,d)::mD F ks r
  |none=>mD F ks r
def kS(F:KF)(ks:KS):List (Nat×List Sh)->List Nat
 | []=> []
 |v::r=>match cH F ks v.1 with
  |some p=>p::kS F ks r
  |none=>kS F ks r
def ck(F:KF)(ks:KS)(a:Bp)(cs:List KC):List Nat:=bp cs++kS F ks a.head.bs
def au(F:KF)(ks:KS)(a:Bp)(cs:List KC):KF:={nt:=F.nt,sl:=mD F ks a.keep++F.sl,bl:=(ck F ks a cs).map (λp=>(p,.dead))++(ks.bl++F.bl)}
def bg(F:KF)(ks:KS)(p:Pt)(x:cj p.sh):KS:=
 let w:=aG p.sh x ks.nx
 let cs:=w.map (·.1)
 {sl:=fN p.vs cs,bl:=dv F ks p.bs (cs.drop (gA p.vs))++(dX F ks p.ws ((wCs p.sh x).drop (gA p.vs+mh p.bs))++w.flatMap (·.2)),nx:=ks.nx+p.sh.length}
def oZ:Ex->Ex->Bool
 | .normal,.normal=>true
 | .ret,.ret=>true
 | .exit a,.exit b=>Nat.beq a b
 |_,_=>false
def pc(F:KF)(ks:KS)(e:Ex):(l:List (Ex×Pt))->{R:Type}->(XT l->Option R)->Option R
 | [],_,_=>none
 |x::r,_,κ=>cond (oZ e x.1) (oY F ks x.2 λv=>κ (.inl v)) (pc F ks e r λv=>κ (.inr v))
def uv(F:KF)(ks:KS)(keep dead:List Nat)(p:Pt)(v:cj p.sh):KS:=
 let s:=bg F ks p v
 {s with sl:=s.sl++mD F ks keep,bl:=s.bl++(dead.map (λp=>(p,.dead))++ks.bl)}
def afterX(F:KF)(ks:KS)(keep:List Nat)(dead:List Nat):(l:List (Ex×Pt))->XT l->{R:Type}->(Ex->KS->Option R)->Option R
 | [],x,_,_=>nomatch x
 |x::r,v,_,κ=>Sum.elim (λv=>κ x.1 (uv F ks keep dead x.2 v)) (λv=>afterX F ks keep dead r v κ) v
def kNil:KS:=⟨[],[],0⟩
def ml(F0:KF)(ks:KS)(F:KF)(p:Pt):Bool:=(p.bs.all λv=>(ak F.sl v.1).isSome)&& p.ws.all λv=>match eK F0 ks v.1,eK F kNil v.1 with
 |some a,some b=>Nat.beq a b
 |_,_=>false
def dY:Code->Option Nat
 | .region id _ _=>some id
 | .seq a b=>match dY a with
  |some i=>some i
  |none=>dY b
 | .cond _ a b=>match dY a with
  |some i=>some i
  |none=>dY b
 | .block _ b=>dY b
 | .loop b=>dY b
 | .scope b=>dY b
 |_=>none
def pd:Code->Nat
 | .seq a b=>pd a+pd b+1
 | .cond _ a b=>pd a+pd b+1
 | .block _ b=>pd b+1
 | .loop b=>pd b+1
 | .scope b=>pd b+1
 |_=>1
structure Rh where
 old:List (List BR)
 new:List (Bool×List Nat)
structure LH where
 lp:List Bp:= []
 tn:List (Nat×Rh):= []
def Pr:KC->Option Nat
 | .o _ p=>some p
 | .m _ p=>some p
 | .ptr p _=>some p
 |_=>none
def Mq(F:KF)(ks:KS):List BR->Option (List Nat)
 | []=>some []
 |b::r=>match brC F ks b,Mq F ks r with
  |some .nil,l=>l
  |some c,some l=>match Pr c with
   |some p=>some (p::l)
   |none=>none
  |_,_=>none
def Dk(F:KF)(ks:KS):List (List BR)->Option (List (List Nat))
 | []=>some []
 |b::r=>match Mq F ks b,Dk F ks r with
  |some p,some l=>some (p::l)
  |_,_=>none
def pf(ids:List Nat)(ks:KS):KS:={ks with bl:=ids.map (λp=>(p,.dead))++ks.bl}
def Ri:Option Nat->List Nat
 |some p=> [p]
 |none=> []
def eA(Rl O:List (List Nat))(N:List (Bool×List Nat))(nw:List (Nat×Nat))(i:Nat):List Nat:=
 (Rl.getD i []).flatMap λj=>O.getD j []++((N.getD j (false,[])).2.flatMap (λq=>Ri (ak nw q))++cond (N.getD j (false,[])).1 (Ri (ak nw j)) [])
def Rj:KC->Option Nat
 | .o _ p=>some p
 | .m _ p=>some p
 |_=>none
def qY(ids:List Nat)(c:KC):Bool:=
 match Rj c with
 |some p=> !(ids.any (Nat.beq p))
 |none=>true
def uw(ids:List Nat):KD->Bool
 | .one c=>qY ids c
 | .agg cs=>cs.all (qY ids)
 | .tup ts=>ts.all λx=>x.2.all (qY ids)
def JD(ids:List Nat):KB->Bool
 | .box cs=>cs.all (qY ids)
 |_=>true
def isM:KB->Bool
 | .mrows _ _=>true
 |_=>false
def JE(ks0 ks:KS)(p:Nat):Bool:=
 match ak ks0.bl p,ak ks.bl p with
 |some x,some y=>(match x with
  | .dead=>false
  |_=>isM x==isM y)
 |_,_=>false
def Dl(ks:KS)(nw:List (Nat×Nat))(p j:Nat):Bool:=
 (match ak nw j with
  |some q=>Nat.beq p q
  |none=>false)&&(match ak ks.bl p with
  |some y=> !isM y
  |none=>false)
def xk(ks0 ks:KS)(nw:List (Nat×Nat))(p:Nat):List Nat->List Nat->Bool
 | [q],[]=>Nat.beq p q && JE ks0 ks p
 | [],[j]=>Dl ks nw p j
 |_,_=>false
def xl(ks0 ks:KS)(O:List (List Nat))(N:List (Bool×List Nat))(nw:List (Nat×Nat))(i:Nat)(ids:List Nat)(e:KE):Bool:=
 uw ids e.v &&(match e.upd with
  |none=>(O.getD i []).isEmpty &&(N.getD i (false,[])).2.isEmpty
  |some (p,b)=>JD ids b && xk ks0 ks nw p (O.getD i []) (N.getD i (false,[])).2)&&(match e.new with
  |none=> !(N.getD i (false,[])).1
  |some b=>(N.getD i (false,[])).1 && JD ids b && !isM b)
def nwE(e:KE)(i nid:Nat)(nw:List (Nat×Nat)):List (Nat×Nat):=
 match e.new with
 |some _=>(i,nid)::nw
 |none=>nw
def Dn(O:List (List Nat))(N:List (Bool×List Nat))(i:Nat):Bool:=(O.getD i []).isEmpty &&(N.getD i (false,[])).2.isEmpty && !(N.getD i (false,[])).1
def qZ(G:KG)(F:KF)(ops:List Oper)(Rl O:List (List Nat))(N:List (Bool×List Nat))(ks0:KS){R:Type}(κ:KS->Option R):Nat->List (Nat×Nat)->List Oper->KS->Option R
 |_,_,[],ks=>κ ks
 |i,nw,o::r,ks=>xh F ops o ks λw ks=>cond w
   (xg F o.op ks λop ks=>bG G F (pf (eA Rl O N nw i) ks) ks.nx (ks.nx+1) op λe=>
    cond (xl ks0 ks O N nw i (eA Rl O N nw i) e) (qZ G F ops Rl O N ks0 κ (i+1) (nwE e i (ks.nx+1) nw) r (Dj o.dst ks.nx (ks.nx+1) e ks)) none)
   (cond (Dn O N i) (qZ G F ops Rl O N ks0 κ (i+1) nw r (xf o.dst ks)) none)
def JF(a b:List Nat):Bool:=a.all λx=> !(b.any (Nat.beq x))
def djB:List (List Nat)->List (List Nat)->List (List Nat)->Bool
 |o::os,r::rs,O=>(r.all λj=>JF o (O.getD j []))&& djB os rs O
 |_,_,_=>true
def zh(ks:KS)(O:List (List Nat)):Bool:=O.all λl=>l.all λp=>match ak ks.bl p with
 |some .dead=>false
 |some _=>true
 |none=>false
def sm(F:KF)(ks:KS)(b:BR){R:Type}(κ:KS->Option R):Option R:=
 match b with
 | .bx i j=>match cH F ks i with
  |some q=>match ak ks.bl q with
   |some (.box cs)=>match cs[j]? with
    |some (.m e p)=>match ak ks.bl p with
     |some (.mrows e' l)=>if l.length=0 then κ {ks with bl:=(q,.box (cs.set j .nil))::(p,.dead)::ks.bl}else κ {ks with bl:=(q,.box (cs.set j (.o e ks.nx)))::(ks.nx,.rows e' true l)::(p,.dead)::ks.bl,nx:=ks.nx+1}
     |_=>κ ks
    |_=>κ ks
   |_=>κ ks
  |none=>κ ks
 | .sl i j=>match eJ F ks i with
  |some (.one (.m e p))=>match ak ks.bl p with
   |some (.mrows e' l)=>if l.length=0 then κ {ks with sl:=(i,.one .nil)::ks.sl,bl:=(p,.dead)::ks.bl}else κ {ks with sl:=(i,.one (.o e ks.nx))::ks.sl,bl:=(ks.nx,.rows e' true l)::(p,.dead)::ks.bl,nx:=ks.nx+1}
   |_=>κ ks
  |_=>κ ks
def ux(F:KF){R:Type}(κ:KS->Option R):List BR->KS->Option R
 | [],ks=>κ ks
 |b::r,ks=>sm F ks b λks=>ux F κ r ks
def eC(G:KG)(A:LH)(call:xi):Code->(R:Type)->KF->KS->(Ex->KS->Option R)->Option R
 | .skip,_,F,ks,κ=>κ .normal ks
 | .region id ops draw,R,F,ks,κ=>cond draw
   (cond (dI ops) (match ak A.tn id with
    |none=>kP G F ops.toList (κ .normal) ops.toList ks
    |some T=>ux F (λks=>match Dk F ks T.old with
     |some O=>cond (jI ops T.new && djB O (eF ops) O && zh ks O) (qZ G F ops.toList (eF ops) O T.new ks (κ .normal) 0 [] ops.toList ks) none
     |none=>none) T.old.flatten ks) (match jQ ops with
    |some m=>cond (jx ops) (kP G F ops.toList (vZ G call F ops.toList (κ .normal) (ops.toList.drop m)) (ops.toList.take m) ks) none
    |none=>none))
   (vZ G call F ops.toList (κ .normal) ops.toList ks)
 | .seq a b,R,F,ks,κ=>match A.lp.find? λz=>z.join &&(some z.key==dY a && Nat.beq z.sz (pd a))with
  |none=>eC G A call a R F ks λe ks=>match e with
   | .normal=>eC G A call b R F ks κ
   |e=>κ e ks
  |some z=>match du F ks z.head,eY F ks with
   |some cs,true=>cond (ml F ks (au F ks z cs) z.head && z.exs.all λx=>ml F ks (au F ks z cs) x.2) (oY F ks z.head λx0=>
    let F':=au F ks z cs
    (eC G A call a (XT z.exs) F' (bg F ks z.head x0) λe ks2=>cond (eY F' ks2) (pc F' ks2 e z.exs some) none).bind λy=>afterX F ks z.keep (ck F ks z cs) z.exs y λe ks=>match e with
     | .normal=>eC G A call b R F ks κ
     |e=>κ e ks) none
   |_,_=>none
 | .cond c a b,R,F,ks,κ=>match kO F ks c with
  |some (.one c)=>kIf c ks λt ks=>cond t (eC G A call a R F ks κ) (eC G A call b R F ks κ)
  |_=>none
 | .block id b,R,F,ks,κ=>eC G A call b R F ks λe ks=>κ (cond (oZ e (.exit id)) .normal e) ks
 | .loop b,R,F,ks,κ=>match A.lp.find? λa=> !a.join && some a.key==dY b with
  |none=>none
  |some a=>match du F ks a.head,eY F ks with
   |some cs,true=>cond (ml F ks (au F ks a cs) a.head && a.exs.all λx=>ml F ks (au F ks a cs) x.2 && !oZ x.1 .normal) (oY F ks a.head λx0=>
    let F':=au F ks a cs
    (bO (λx=>eC G A call b (cj a.head.sh ⊕ XT a.exs) F' (bg F ks a.head x) λe ks2=>cond (eY F' ks2) (match e with
     | .normal=>oY F' ks2 a.head λy=>some (.inl y)
     |e=>pc F' ks2 e a.exs λy=>some (.inr y)) none) x0).bind λy=>afterX F ks a.keep (ck F ks a cs) a.exs y κ) none
   |_,_=>none
 | .exit id,_,F,ks,κ=>κ (.exit id) ks
 | .ret,_,F,ks,κ=>κ .ret ks
 | .label _,_,F,ks,κ=>κ .normal ks
 | .scope b,R,F,ks,κ=>eC G A call b R F ks κ
 |_,_,_,_,_=>none
def wg:Nat->List KD->List (Nat×KD)
 |_,[]=> []
 |i,d::r=>(i,d)::wg (i+1) r
def tupK:List KD->Option KD
 | [d]=>some d
 |ds=>(tups ds).map .tup
where
 tups:List KD->Option (List (Bool×List KC))
  | []=>some []
  | .one c::r=>(tups r).map ((false,[c])::·)
  | .agg cs::r=>(tups r).map ((true,cs)::·)
  |_=>none
def zi(G:KG)(F:KF)(ks:KS):List ResultVar->{R:Type}->(List KD->Option R)->Option R
 | [],_,κ=>κ []
 | .tmp t::r,_,κ=>(eJ F ks t).bind λd=>zi G F ks r λl=>κ (d::l)
 | .cell a ty::r,_,κ=>match JA G.ti ty,eJ F ks a with
  |some z,some d=>fF F ks z d λv=>zi G F ks r λl=>κ (v::l)
  |_,_=>none
def rd:Ex->Bool
 | .exit _=>false
 |_=>true
abbrev dH:=List (FuncId×LH)
def Mr(A:dH)(k:FuncId):LH:=
 match ak A k with
 |some l=>l
 |none=>{}
def Bq(G:KG)(A:dH):Nat->xi
 |0,_,_,_,_,_,_=>none
 |n+1,R,F,k,args,ks,κ=>match ak G.fi k with
  |some f=>if args.length<=f.nt then eC G (Mr A k) (Bq G A n) f.body R {F with sl:= [],nt:=f.nt} {ks with sl:=wg 0 args} λe ks2=>cond (rd e) (zi G {F with sl:= [],nt:=f.nt} ks2 f.results λds=>(tupK ds).bind λd=>κ d ks2) none else none
  |none=>none
def frD:KD->Bool
 | .one c=>frC c
 | .agg cs=>cs.all frC
 | .tup _=>false
def qy:List KD->Bool
 | [.one (.o _ _)]=>true
 | [.one (.m _ _)]=>true
 |_=>false
def JG(B:Nat->Option KB)(e:Ty):List KD->Option (List e.val)
 | [.one (.o _ p)]=>match B p with
  |some (.rows e' _ l)=>if e.plain then(eI (.S e') (.S e) ⟨true,0,l⟩).map (·.l)else none
  |_=>none
 |_=>none
def EC(B:Nat->Option KB)(e:Ty):List KD->Option (List e.val)
 | [.one .nil]=>some []
 | [.one (.m _ p)]=>match B p with
  |some (.mrows e' l)=>if e.plain then(eI (.S e') (.S e) ⟨true,0,l⟩).map (·.l)else none
  |_=>none
 | [.one (.o _ p)]=>match B p with
  |some (.rows e' ne l)=>if e.plain then(eI (.S e') (.S e) ⟨true,0,l⟩).bind λs=>cond ne (some s.l) ((neL s.l).map λ_=>s.l)else none
  |_=>none
 |_=>none
def ED(B:Nat->Option KB)(e:Ty):List KD->Option (Sl e.val)
 | [.one .nil]=>some ⟨false,0,[]⟩
 | [.one (.m _ p)]=>match B p with
  |some (.mrows e' l)=>if e.plain then(eI (.S e') (.S e) ⟨true,0,l⟩).map (λs=>mo e.size s.l)else none
  |_=>none
 | [.one (.o _ p)]=>match B p with
  |some (.rows e' ne l)=>if e.plain then(eI (.S e') (.S e) ⟨true,0,l⟩).map (λs=>⟨true,e.size,s.l⟩)else none
  |_=>none
 |_=>none
def zj(B:Nat->Option KB):(o:OutK)->List KD->Option o.val
 | .data fr ts,ds=>if qy ds||(fr && !(ds.all frD))then none else ir B ts ds
 | .own e,ds=>JG B e ds
 | .mown e,ds=>EC B e ds
 | .gown e,ds=>ED B e ds
def EE(ts:List TyD)(x:ba ts):List (Nat×KD):=wg 0 ((kI false ts x).map mkD)
def eG(G:KG)(A:dH)(f:FI)(k:FuncId)(n:Nat)(ins:List TyD)(out:OutK)(x:ba ins):Option out.val:=
 eC G (Mr A k) (Bq G A n) f.body out.val {nt:=f.nt} {sl:=EE ins x,bl:= [],nx:=0} λe ks=>cond (rd e) (zi G {nt:=f.nt} ks f.results λds=>zj (an {nt:=f.nt} ks) out ds) none
end K
end Ev
end
noncomputable section
namespace Ev
namespace K
open Go Go.RowKit
structure Vl where
 id:Nat->Nat
 bo:Nat->Bool
def KB.there:KB->Prop
 | .dead=>False
 | .mrows _ l=>l≠[]
 |_=>True
abbrev BK:=Nat->Option KB
def RC(B:BK)(V:Vl):KC->C->Prop
 | .n k x,c=>c=iC k x
 | .b v,c=>c=bC v
 | .p tag P d,c=>c=bC (V.bo tag)/\V.bo tag= @decide P d
 | .bv x,c=>c=bC x
 | .v x,c=>c= .p true (.v x)
 | .nil,c=>c= .p true (.s false 0 [])
 | .s e fr x,c=>∃f,c= .p f (Sl.t e.row x)/\(fr=true->f=true)
 | .o e p,c=>∀e' ne l,B p=some (.rows e' ne l)->c= .own (V.id p) 0 l.length
 | .m e p,c=>∀e' l,B p=some (.mrows e' l)->c=moC l (V.id p)
 | .ptr p j,c=>c= .ptr (V.id p) 0 j
 | .pe p i j,c=>0<=i/\c= .ptr (V.id p) i.toNat j
 | .ip e fr x i y j,c=>∃f,c= .iptr f x.sz (x.l.map e.row) i.toNat j/\x.l[i.toNat]? =some y/\(fr=true->f=true)
 | .clo fn ps,c=>c= .clo (.func fn) [] (ps.map λp=> .ptr (V.id p) 0 0)
 | .yld p,c=>c= .yld (V.id p)
def Sc(N:Nat):KC->Prop
 | .p tag _ _=>tag<N
 | .o _ p=>p<N
 | .m _ p=>p<N
 | .ptr p _=>p<N
 | .pe p _ _=>p<N
 | .yld p=>p<N
 | .clo _ ps=>∀p∈ps,p<N
 |_=>True
def RCs(B:BK)(V:Vl):List KC->List C->Prop
 | [],cs=>cs= []
 |k::r,cs=>∃c s,cs=c::s/\RC B V k c/\RCs B V r s
def Scs(N:Nat)(l:List KC):Prop:=∀c∈l,Sc N c
def RD1(B:BK)(V:Vl)(k:KD)(d:D):Prop:=
 match k with
 | .one c=>∃c',d= .one c'/\RC B V c c'
 | .agg cs=>∃cs',d= .agg cs'/\RCs B V cs cs'
 | .tup _=>False
def RTs(B:BK)(V:Vl):List (Bool×List KC)->List D->Prop
 | [],ds=>ds= []
 |x::r,ds=>∃d s,ds=d::s/\RD1 B V (mkD x) d/\RTs B V r s
def RD(B:BK)(V:Vl)(k:KD)(d:D):Prop:=
 match k with
 | .tup ts=>∃ds,d= .tup ds/\RTs B V ts ds
 |k=>RD1 B V k d
def ScD(N:Nat):KD->Prop
 | .one c=>Sc N c
 | .agg cs=>Scs N cs
 | .tup ts=>∀x∈ts,Scs N x.2
def BlkIs(B:BK)(V:Vl)(x:Blk):KB->Prop
 | .box cs=>∃sz cs',x= .own sz [cs']/\RCs B V cs cs'
 | .rows e ne l=>x= .own e.size (l.map (cQ e.row))/\(ne=true->l≠[])
 | .mrows e l=>x= .own e.size (l.map (cQ e.row))
 | .dead=>x= .dead
def RB(B:BK)(V:Vl)(h:am)(k:Nat):KB->Prop
 | .box cs=>∃sz cs',ap h k=some (sz,[cs'])/\RCs B V cs cs'
 | .rows e ne l=>ap h k=some (e.size,l.map (cQ e.row))/\(ne=true->l≠[])
 | .mrows e l=>l≠[]->ap h k=some (e.size,l.map (cQ e.row))
 | .dead=>True
def ScB(N:Nat):KB->Prop
 | .box cs=>Scs N cs
 |_=>True
structure Rel(F:KF)(ks:KS)(V:Vl)(f:Nat->D)(h:am):Prop where
 sl:∀i d,eJ F ks i=some d->i<F.nt/\ScD ks.nx d/\RD (an F ks) V d (f i)
 bl:∀p b,an F ks p=some b->p<ks.nx/\ScB ks.nx b/\RB (an F ks) V h (V.id p) b
 inj:∀p q b b',an F ks p=some b->an F ks q=some b'->b.there->b'.there->V.id p=V.id q->p=q
def LeB(N:Nat)(B B':BK):Prop:=∀p,p<N->(∀e ne l',B' p=some (.rows e ne l')->∃e0 ne0 l0,B p=some (.rows e0 ne0 l0)/\l0.length=l'.length)/\∀e l',B' p=some (.mrows e l')->∃e0 l0,B p=some (.mrows e0 l0)/\l0.length=l'.length
def Agree(N:Nat)(V V':Vl):Prop:=∀q,q<N->V'.id q=V.id q/\V'.bo q=V.bo q
theorem LeB.refl(N:Nat)(B:BK):LeB N B B:=λp hp=>⟨λe ne l h=>⟨e,ne,l,h,rfl⟩,λe l h=>⟨e,l,h,rfl⟩⟩
theorem LeB.trans{N M:Nat}{B B' B'':BK}(h:LeB N B B')(h':LeB M B' B'')(hn:N<=M):LeB N B B'':=λp hp=>⟨λe ne l hl=>by
  obtain⟨e1,n1,l1,h1,h2⟩:=(h' p (by omega)).1 e ne l hl;obtain⟨e0,n0,l0,h3,h4⟩:=(h p hp).1 _ _ _ h1
  exact⟨e0,n0,l0,h3,h4.trans h2⟩,λe l hl=>by
  obtain⟨e1,l1,h1,h2⟩:=(h' p (by omega)).2 e l hl;obtain⟨e0,l0,h3,h4⟩:=(h p hp).2 _ _ h1
  exact⟨e0,l0,h3,h4.trans h2⟩⟩
theorem Agree.refl(N:Nat)(V:Vl):Agree N V V:=λq hq=>⟨rfl,rfl⟩
theorem Agree.trans{N M:Nat}{V V' V'':Vl}(h:Agree N V V')(h':Agree M V' V'')(hn:N<=M):Agree N V V'':=λq hq=>⟨((h' q (by omega)).1).trans (h q hq).1,((h' q (by omega)).2).trans (h q hq).2⟩
theorem LI{α β:Type}{l:List α}{m:List β}{k:Nat}(h:l.length=m.length):moC l k=moC m k:=by
 cases l with
 |nil=>cases m with
  |nil=>rfl
  |cons b m=>simp at h
 |cons a l=>cases m with
  |nil=>simp at h
  |cons b m=>show C.own k 0 _=C.own k 0 _;rw [h]
section
variable {N : Nat} {B B' : BK} {V V' : Vl}
theorem RC.mono{c:KC}{x:C}(hs:Sc N c)(hb:LeB N B B')(ha:Agree N V V')(h:RC B V c x):RC B' V' c x:=by
 cases c with
 |n k y=>exact h
 |b v=>exact h
 |p tag P d=>have:=(ha tag hs).2;exact⟨by rw [this];exact h.1,by rw [this];exact h.2⟩
 |bv y=>exact h
 |v y=>exact h
 |nil=>exact h
 |s e fr y=>exact h
 |o e p=>
  intro e' ne l hl;obtain⟨e0,n0,l0,h1,h2⟩:=(hb p hs).1 e' ne l hl;rw [(ha p hs).1,<-h2];exact h e0 n0 l0 h1
 |m e p=>
  intro e' l hl;obtain⟨e0,l0,h1,h2⟩:=(hb p hs).2 e' l hl;rw [(ha p hs).1,<-LI h2];exact h e0 l0 h1
 |ptr p j=>show x=_;rw [(ha p hs).1];exact h
 |pe p i j=>exact⟨h.1,by rw [(ha p hs).1];exact h.2⟩
 |ip e fr y i z j=>exact h
 |clo fn ps=>
  show x=_
  have:(ps.map λp=>C.ptr (V'.id p) 0 0)=ps.map λp=> .ptr (V.id p) 0 0:=List.map_congr_left λp hp=>by rw [(ha p (hs p hp)).1]
  rw [this];exact h
 |yld p=>show x=_;rw [(ha p hs).1];exact h
theorem RCs.mono:∀{l:List KC} {xs:List C},Scs N l->LeB N B B'->Agree N V V'->RCs B V l xs->RCs B' V' l xs
 | [],xs,hs,hb,ha,h=>h
 |c::l,xs,hs,hb,ha,⟨x,s,h1,h2,h3⟩=>⟨x,s,h1,h2.mono (hs c (by simp)) hb ha,h3.mono (λy hy=>hs y (by simp [hy])) hb ha⟩
theorem sn{x:Bool×List KC}(hs:Scs N x.2):ScD N (mkD x):=by
 obtain⟨b,cs⟩:=x
 cases b with
 |true=>exact hs
 |false=>match cs,hs with
  | [],hs=>exact hs
  | [c],hs=>exact hs c (by simp)
  |c::d::r,hs=>exact hs
theorem RD1.mono{k:KD}{d:D}(hs:ScD N k)(hb:LeB N B B')(ha:Agree N V V')(h:RD1 B V k d):RD1 B' V' k d:=by
 cases k with
 |one c=>obtain⟨c',h1,h2⟩:=h;exact⟨c',h1,h2.mono hs hb ha⟩
 |agg cs=>obtain⟨c',h1,h2⟩:=h;exact⟨c',h1,h2.mono hs hb ha⟩
 |tup ts=>exact h
theorem RTs.mono:∀{l:List (Bool×List KC)} {xs:List D},(∀x∈l,Scs N x.2)->LeB N B B'->Agree N V V'->RTs B V l xs->RTs B' V' l xs
 | [],xs,hs,hb,ha,h=>h
 |c::l,xs,hs,hb,ha,⟨x,s,h1,h2,h3⟩=>⟨x,s,h1,h2.mono (sn (hs c (by simp))) hb ha,h3.mono (λy hy=>hs y (by simp [hy])) hb ha⟩
theorem RD.mono{k:KD}{d:D}(hs:ScD N k)(hb:LeB N B B')(ha:Agree N V V')(h:RD B V k d):RD B' V' k d:=by
 cases k with
 |one c=>exact RD1.mono (k:= .one c) hs hb ha h
 |agg cs=>exact RD1.mono (k:= .agg cs) hs hb ha h
 |tup ts=>obtain⟨ds,h1,h2⟩:=h;exact⟨ds,h1,h2.mono hs hb ha⟩
theorem RB.mono{h:am}{k:Nat}{b:KB}(hs:ScB N b)(hb:LeB N B B')(ha:Agree N V V')(hr:RB B V h k b):RB B' V' h k b:=by
 cases b with
 |box cs=>obtain⟨sz,cs',h1,h2⟩:=hr;exact⟨sz,cs',h1,h2.mono hs hb ha⟩
 |rows e ne l=>exact hr
 |mrows e l=>exact hr
 |dead=>trivial
theorem RB.heap{h h':am}{k:Nat}{b:KB}(hh:ap h' k=ap h k)(hr:RB B V h k b):RB B V h' k b:=by
 cases b with
 |box cs=>obtain⟨sz,cs',h1,h2⟩:=hr;exact⟨sz,cs',hh.trans h1,h2⟩
 |rows e ne l=>exact⟨hh.trans hr.1,hr.2⟩
 |mrows e l=>exact λhl=>hh.trans (hr hl)
 |dead=>trivial
end
theorem Sc.mono{N M:Nat}(hn:N<=M){c:KC}(h:Sc N c):Sc M c:=by
 cases c with
 |p tag P d=>exact Nat.lt_of_lt_of_le h hn
 |o e p=>exact Nat.lt_of_lt_of_le h hn
 |m e p=>exact Nat.lt_of_lt_of_le h hn
 |ptr p j=>exact Nat.lt_of_lt_of_le h hn
 |pe p i j=>exact Nat.lt_of_lt_of_le h hn
 |yld p=>exact Nat.lt_of_lt_of_le h hn
 |clo fn ps=>exact λp hp=>Nat.lt_of_lt_of_le (h p hp) hn
 |_=>trivial
theorem Scs.mono{N M:Nat}(hn:N<=M){l:List KC}(h:Scs N l):Scs M l:=λc hc=>(h c hc).mono hn
theorem ScD.mono{N M:Nat}(hn:N<=M){d:KD}(h:ScD N d):ScD M d:=by
 cases d with
 |one c=>exact Sc.mono hn h
 |agg cs=>exact Scs.mono hn h
 |tup ts=>exact λx hx=>(h x hx).mono hn
theorem ScB.mono{N M:Nat}(hn:N<=M){b:KB}(h:ScB N b):ScB M b:=by
 cases b with
 |box cs=>exact Scs.mono hn h
 |_=>trivial
theorem aS{t t':Ty}{x:t.val}{y:t'.val}(h:eI t t' x=some y):∃e:t=t',e▸x=y:=by
 unfold eI at h;split at h
 .rename_i e;exact⟨e,Option.some.inj h⟩
 .simp at h
theorem jA:∀(e:Ty) (x:e.val),(e.row x).length=e.size
 | .I _,_=>rfl
 | .B,_=>rfl
 | .S _,_=>rfl
 | .U,_=>rfl
 | .C a b,x=>by
  show(a.row x.1++b.row x.2).length=a.size+b.size;rw [List.length_append,jA a,jA b]
theorem ns(fr:Bool):∀(e:Ty) (x:e.val),(bU fr e x).length=e.size
 | .I _,_=>rfl
 | .B,_=>rfl
 | .S _,_=>rfl
 | .U,_=>rfl
 | .C a b,x=>by
  show(bU fr a x.1++bU fr b x.2).length=a.size+b.size;rw [List.length_append,ns fr a,ns fr b]
theorem dF(N:Nat)(fr:Bool):∀(e:Ty) (x:e.val),Scs N (bU fr e x)
 | .I _,_=>λc hc=>by rw [List.mem_singleton.1 hc];trivial
 | .B,_=>λc hc=>by rw [List.mem_singleton.1 hc];trivial
 | .S _,_=>λc hc=>by rw [List.mem_singleton.1 hc];trivial
 | .U,_=>λc hc=>by simp [bU]at hc
 | .C a b,x=>λc hc=>by
  rcases List.mem_append.1 (show c∈bU fr a x.1++bU fr b x.2 from hc)with h|h
  .exact dF N fr a x.1 c h
  .exact dF N fr b x.2 c h
section
variable {B : BK} {V : Vl}
theorem RCs.append:∀{k1 k2:List KC} {c1 c2:List C},RCs B V k1 c1->RCs B V k2 c2->RCs B V (k1++k2) (c1++c2)
 | [],k2,c1,c2,h1,h2=>by rw [show c1= []from h1];exact h2
 |k::k1,k2,c1,c2,⟨c,s,e1,h1,h3⟩,h2=>⟨c,s++c2,by rw [e1];rfl,h1,h3.append h2⟩
theorem RCs.len:∀{k:List KC} {c:List C},RCs B V k c->c.length=k.length
 | [],c,h=>by rw [show c= []from h];rfl
 |_::k,c,⟨x,s,e,_,h⟩=>by rw [e,List.length_cons,List.length_cons,h.len]
theorem RCs.drop:∀{k:List KC} {c:List C} (n:Nat),RCs B V k c->RCs B V (k.drop n) (c.drop n)
 |k,c,0,h=>h
 | [],c,n+1,h=>by rw [show c= []from h];exact rfl
 |_::k,c,n+1,⟨x,s,e,_,h⟩=>by rw [e];exact h.drop n
theorem RCs.take:∀{k:List KC} {c:List C} (n:Nat),RCs B V k c->RCs B V (k.take n) (c.take n)
 |k,c,0,h=>rfl
 | [],c,n+1,h=>by rw [show c= []from h];exact rfl
 |_::k,c,n+1,⟨x,s,e,h1,h⟩=>⟨x,s.take n,by rw [e];rfl,h1,h.take n⟩
theorem RCs.cut{k k2:List KC}{c:List C}{i n:Nat}(h:RCs B V k c)(hk:Ev.cut k i n=some k2):∃c2,Ev.cut c i n=some c2/\RCs B V k2 c2:=by
 unfold Ev.cut at hk ⊢;split at hk
 .rename_i hl;rw [if_pos (by rw [h.len];exact hl)];refine⟨_,rfl,?_⟩;rw [<-Option.some.inj hk];exact(h.drop i).take n
 .simp at hk
theorem RCs.patch{k k2 x:List KC}{c y:List C}{i:Nat}(h:RCs B V k c)(hx:RCs B V x y)(hk:Ev.patch k i x=some k2):∃c2,Ev.patch c i y=some c2/\RCs B V k2 c2:=by
 unfold Ev.patch at hk ⊢;split at hk
 .rename_i hl;rw [if_pos (by rw [h.len,hx.len];exact hl)];refine⟨_,rfl,?_⟩;rw [<-Option.some.inj hk,hx.len];exact((h.take i).append hx).append (h.drop _)
 .simp at hk
theorem fT{N:Nat}{k k2:List KC}{i n:Nat}(h:Scs N k)(hk:Ev.cut k i n=some k2):Scs N k2:=by
 unfold Ev.cut at hk;split at hk
 .rw [<-Option.some.inj hk];exact λc hc=>h c (List.mem_of_mem_drop (List.mem_of_mem_take hc))
 .simp at hk
theorem xm{N:Nat}{k k2 x:List KC}{i:Nat}(h:Scs N k)(hx:Scs N x)(hk:Ev.patch k i x=some k2):Scs N k2:=by
 unfold Ev.patch at hk;split at hk
 .rw [<-Option.some.inj hk];intro c hc;simp only [List.mem_append]at hc;rcases hc with(hc|hc)|hc
  .exact h c (List.mem_of_mem_take hc)
  .exact hx c hc
  .exact h c (List.mem_of_mem_drop hc)
 .simp at hk
theorem cD{fr f:Bool}(hf:fr=true->f=true):∀(e:Ty) (x:e.val),RCs B V (bU fr e x) ((e.row x).map (pC f))
 | .I _,_=>⟨_,_,rfl,rfl,rfl⟩
 | .B,_=>⟨_,_,rfl,rfl,rfl⟩
 | .S e,x=>⟨_,_,rfl,⟨f,rfl,hf⟩,rfl⟩
 | .U,_=>rfl
 | .C a b,x=>by
  show RCs B V (bU fr a x.1++bU fr b x.2) ((a.row x.1++b.row x.2).map (pC f));rw [List.map_append];exact(cD hf a x.1).append (cD hf b x.2)
theorem RCs.one{c:KC}{x:C}(h:RC B V c x):RCs B V [c] [x]:=⟨x,[],rfl,h,rfl⟩
theorem RCs.one_inv{c:KC}{xs:List C}(h:RCs B V [c] xs):∃x,xs= [x]/\RC B V c x:=by
 obtain⟨x,s,e,h1,h2⟩:=h;exact⟨x,by rw [e,show s= []from h2],h1⟩
theorem nu{e:Ty}{c:KC}{x:e.val}{y:C}(h:jy noB e c=some x)(hf:frC c=true)(hr:RC B V c y): [y]=(e.row x).map (pC true):=by
 unfold jy at h;split at h
 .rename_i k k' z;split at h
  .rename_i hk;subst hk;rw [<-Option.some.inj h];rw [show y=_ from hr];rfl
  .simp at h
 .rw [<-Option.some.inj h,show y=_ from hr];rfl
 .rename_i tag P d;rw [<-Option.some.inj h,hr.1,hr.2];rfl
 .rw [<-Option.some.inj h,show y=_ from hr];rfl
 .rw [<-Option.some.inj h,show y=_ from hr];rfl
 .rename_i e0 e' fr z;obtain⟨he,hx⟩:=aS h;cases he;obtain⟨f,h1,h2⟩:=hr;rw [<-hx,h1,h2 hf];rfl
 .simp [noB]at h
 .simp [noB]at h
 .simp at h
theorem lS:∀{e:Ty} {cs:List KC} {x:e.val} {ys:List C},dec noB e cs=some x->cs.all frC=true->RCs B V cs ys->ys=(e.row x).map (pC true):=by
 intro e
 induction e with
 |C a b iha ihb=>
  intro cs x ys h hf hr;unfold dec at h;simp only [zbE]at h;obtain⟨x1,h1,y1,h2,h3⟩:=h
  have:=Option.some.inj h3
  subst this;have e1:=iha h1 (List.all_eq_true.2 λc hc=>List.all_eq_true.1 hf c (List.mem_of_mem_take hc)) (hr.take a.size);have e2:=ihb h2 (List.all_eq_true.2 λc hc=>List.all_eq_true.1 hf c (List.mem_of_mem_drop hc)) (hr.drop a.size);show ys=(a.row x1++b.row y1).map (pC true);rw [List.map_append,<-e1,<-e2,List.take_append_drop]
 |U=>
  intro cs x ys h hf hr
  cases cs with
  |nil=>rw [show ys= []from hr];rfl
  |cons c r=>cases r with
   |nil=>simp [dec,jy]at h
   |cons d r=>simp [dec]at h
 |_=>
  intro cs x ys h hf hr
  cases cs with
  |nil=>simp [dec]at h
  |cons c r=>cases r with
   |nil=>
    obtain⟨y,rfl,hy⟩:=hr.one_inv;exact nu (by simpa [dec]using h) (by simpa using hf) hy
   |cons d r=>simp [dec]at h
end
end K
end Ev
end
end Go.Proofs.YtoamaaicfjkmhaaGreat
