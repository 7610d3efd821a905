/- Texts of a claim, joined. -/
import Derived.Test.YtkmbihigeeclbaaZFB5
set_option linter.unusedVariables false
set_option linter.unusedSimpArgs false
namespace Go.Proofs.Ytkmbihigeeclbaa
noncomputable section
namespace Ev
namespace K
open Go Go.RowKit
def RDl(B:BK)(V:Vl):List KD->List D->Prop
 | [],ds=>ds= []
 |k::r,ds=>∃d s,ds=d::s/\RD B V k d/\RDl B V r s
theorem Ep{B:BK}{V:Vl}(v:Value):RC B V (kC v) (fF v):=by
 unfold kC;split
 .rfl
 .rfl
 .rfl
 .rename_i h1 h2 h3;unfold fF;split
  .exact absurd rfl h3
  .rfl
theorem Hb(N:Nat)(v:Value):Sc N (kC v):=by
 unfold kC;split<;>trivial
theorem jV{B:BK}{V:Vl}:∀l:List Value,RCs B V (l.map kC) (l.map fF)
 | []=>rfl
 |v::l=>⟨_,_,rfl,Ep v,jV l⟩
theorem vM(N:Nat)(l:List Value):Scs N (l.map kC):=λc hc=>by
 obtain⟨v,_,rfl⟩:=List.mem_map.1 hc;exact Hb N v
theorem yV{B:BK}{V:Vl}{v:Value}{d:KD}(h:om v=some d):∃d',kM v=some d'/\RD B V d d':=by
 unfold om at h;split at h
 .rename_i cs;split at h
  .rename_i ha;rw [<-Option.some.inj h];refine⟨.agg (cs.toList.map fF),?_,_,rfl,jV _⟩;unfold kM;simp only;rw [if_pos ha]
  .simp at h
 .simp at h
 .rename_i h1 h2;rw [<-Option.some.inj h];refine⟨.one (fF v),?_,_,rfl,Ep v⟩;unfold kM;split
  .exact absurd rfl (h1 _)
  .exact absurd rfl (h2 _)
  .rfl
theorem BQ{N:Nat}{v:Value}{d:KD}(h:om v=some d):ScD N d:=by
 unfold om at h;split at h
 .split at h
  .rw [<-Option.some.inj h];exact vM N _
  .simp at h
 .simp at h
 .rw [<-Option.some.inj h];exact Hb N _
section
variable {F : KF} {ks : KS} {V : Vl} {f : Nat → D} {h : ak}
theorem yW{a b:Nat}(h:a<b):Nat.blt a b=true:=by simpa using h
theorem aT(hr:Rel F ks V f h){x:Operand}{d:KD}(hx:kO F ks x=some d):∃d',ov F.nt f x=some d'/\ScD ks.nx d/\RD (am F ks) V d d':=by
 cases x with
 |tmp i=>
  obtain⟨h1,h2,h3⟩:=hr.sl i d hx;refine⟨f i,?_,h2,h3⟩;show cond (Nat.blt i F.nt) (some (f i)) none=_;rw [yW h1];rfl
 |const v=>
  obtain⟨d',h1,h2⟩:=yV (B:=am F ks) (V:=V) (show om v=some d from hx);exact⟨d',h1,BQ hx,h2⟩
 |global g=>simp [kO]at hx
 |func k=>
  have:=Option.some.inj (show some (KD.one (.v (.func (.func k) #[] #[])))=some d from hx)
  subst this;exact⟨_,rfl,trivial,_,rfl,rfl⟩
theorem rA(hr:Rel F ks V f h):∀{l:List Operand} {ds:List KD},fJ F ks l=some ds->∃ds',l.mapM (ov F.nt f)=some ds'/\(∀d∈ds,ScD ks.nx d)/\RDl (am F ks) V ds ds'
 | [],ds,hx=>by
  have:=Option.some.inj (show some []=some ds from hx)
  subst this;exact⟨[],rfl,by simp,rfl⟩
 |x::l,ds,hx=>by
  simp only [fJ,zbE]at hx;obtain⟨d,h1,r,h2,h3⟩:=hx
  have:=Option.some.inj h3
  subst this;obtain⟨d',g1,g2,g3⟩:=aT hr h1;obtain⟨r',e1,e2,e3⟩:=rA hr h2;refine⟨d'::r',by rw [List.mapM_cons,g1,e1];rfl,?_,d',r',rfl,g3,e3⟩;intro y hy;rcases List.mem_cons.1 hy with rfl|hy
  .exact g2
  .exact e2 y hy
theorem ot(hr:Rel F ks V f h):∀{l:List (Nat×Operand)} {ps:List (Nat×KD)},ro F ks l=some ps->∃ps',pV F.nt f l=some ps'/\(∀x∈ps,ScD ks.nx x.2)/\ps'.map (·.1)=ps.map (·.1)/\RDl (am F ks) V (ps.map (·.2)) (ps'.map (·.2))
 | [],ps,hx=>by
  have:=Option.some.inj (show some []=some ps from hx)
  subst this;exact⟨[],rfl,by simp,rfl,rfl⟩
 |(i,x)::l,ps,hx=>by
  simp only [ro,zbE]at hx;obtain⟨d,h1,r,h2,h3⟩:=hx
  have:=Option.some.inj h3
  subst this;obtain⟨d',g1,g2,g3⟩:=aT hr h1;obtain⟨r',e1,e2,e3,e4⟩:=ot hr h2;refine⟨(i,d')::r',?_,?_,?_,?_⟩
  .unfold pV at e1 ⊢;rw [List.mapM_cons,e1];simp only [g1,Option.map_some,zbB,zbS,Option.pure_def]
  .intro y hy;rcases List.mem_cons.1 hy with rfl|hy
   .exact g2
   .exact e2 y hy
  .simp only [List.map_cons,e3]
  .exact⟨d',r'.map (·.2),rfl,g3,e4⟩
def Bls(B:BK)(V:Vl)(h:ak):Prop:=∀p b,B p=some b->RB B V h (V.id p) b
theorem Rel.bls(hr:Rel F ks V f h):Bls (am F ks) V h:=λp b hb=>(hr.bl p b hb).2.2
theorem fh{k sz:Nat}{es:List (List C)}(hg:ao h k=some (sz,es)):HB h [[(k,sz,es)]]:=⟨by simp,λx hx=>by simp at hx;subst hx;exact hg⟩
theorem aF:HB h []:=⟨List.nodup_nil,λx hx=>by simp at hx⟩
theorem rB{r:List T}(m:Nat):(r.map (pC true)).mapM (dS h (m+1))=some (r.map λt=>(true,t)):=by
 induction r with
 |nil=>rfl
 |cons t r ih=>
  rw [List.map_cons,List.mapM_cons,ih];cases t<;>rfl
theorem xx{B:BK}{e:Ty}{c:KC}{x:e.val}{y:C}(hB:Bls B V h)(hd:iR B e c=some x)(hr:RC B V c y):∃fl t,(∀m,dS h (m+2) y=some (fl,t))/\[t]=e.row x/\(frC c=true->fl=true):=by
 unfold iR at hd;split at hd
 .rename_i k k' z;split at hd
  .rename_i hk;subst hk;rw [<-Option.some.inj hd,show y=_ from hr];exact⟨true,_,λm=>rfl,rfl,λ_=>rfl⟩
  .simp at hd
 .rw [<-Option.some.inj hd,show y=_ from hr];exact⟨true,_,λm=>rfl,rfl,λ_=>rfl⟩
 .rename_i tag P d;rw [<-Option.some.inj hd,hr.1,hr.2];exact⟨true,_,λm=>rfl,rfl,λ_=>rfl⟩
 .rw [<-Option.some.inj hd,show y=_ from hr];exact⟨true,_,λm=>rfl,rfl,λ_=>rfl⟩
 .rw [<-Option.some.inj hd,show y=_ from hr];exact⟨true,_,λm=>rfl,rfl,λ_=>rfl⟩
 .rename_i e0 e' fr z;obtain⟨he,hx⟩:=aQ hd;cases he;obtain⟨fl,h1,h2⟩:=hr;rw [<-hx,h1];exact⟨fl,_,λm=>rfl,rfl,h2⟩
 .rename_i e0 e1 p;split at hd
  .rename_i e' ne l hp;obtain⟨he,hx⟩:=aQ hd;cases he;have h1:=hr _ _ _ hp;have h2:=(hB p _ hp).1;rw [<-hx,h1];exact⟨true,_,λm=>yK (r:=Ty.row _) (L:= [[(V.id p,_,l.map (cK (Ty.row _)))]]) 0 rfl (λx h m=>rB m) h (fh h2) m,rfl,λ_=>rfl⟩
  .simp at hd
 .rename_i e0 e1 p;split at hd
  .rename_i e' l hp;obtain⟨he,hx⟩:=aQ hd;cases he;have h1:=hr _ _ hp;rw [<-hx,h1]
   cases l with
   |nil=>exact⟨true,_,λm=>rfl,rfl,λ_=>rfl⟩
   |cons a l=>
    have h2:=hB p _ hp (by simp);exact⟨true,_,λm=>yK (r:=Ty.row _) (L:= [[(V.id p,_,(a::l).map (cK (Ty.row _)))]]) 0 rfl (λx h m=>rB m) h (fh h2) m,rfl,λ_=>rfl⟩
  .simp at hd
 .simp at hd
theorem BS{B:BK}(hB:Bls B V h):∀{e:Ty} {cs:List KC} {x:e.val} {ys:List C},dec B e cs=some x->RCs B V cs ys->∃l,(∀m,ys.mapM (dS h (m+2))=some l)/\l.map (·.2)=e.row x/\(cs.all frC=true->l.all (·.1)=true):=by
 intro e
 induction e with
 |C a b iha ihb=>
  intro cs x ys hd hr;unfold dec at hd;simp only [zbE]at hd;obtain⟨x1,h1,y1,h2,h3⟩:=hd
  have:=Option.some.inj h3
  subst this;obtain⟨l1,e1,e2,e3⟩:=iha h1 (hr.take a.size);obtain⟨l2,g1,g2,g3⟩:=ihb h2 (hr.drop a.size);refine⟨l1++l2,λm=> ?_,?_,λhf=> ?_⟩
  .have:ys=ys.take a.size++ys.drop a.size:=(List.take_append_drop _ _).symm
   rw [this,List.mapM_append,e1 m,g1 m];rfl
  .rw [List.map_append,e2,g2];rfl
  .rw [List.all_append,e3 (List.all_eq_true.2 λc hc=>List.all_eq_true.1 hf c (List.mem_of_mem_take hc)),g3 (List.all_eq_true.2 λc hc=>List.all_eq_true.1 hf c (List.mem_of_mem_drop hc))];rfl
 |U=>
  intro cs x ys hd hr
  cases cs with
  |nil=>rw [show ys= []from hr];exact⟨[],λm=>rfl,rfl,λ_=>rfl⟩
  |cons c r=>cases r with
   |nil=>simp [dec,iR]at hd
   |cons d r=>simp [dec]at hd
 |_=>
  intro cs x ys hd hr
  cases cs with
  |nil=>simp [dec]at hd
  |cons c r=>cases r with
   |nil=>
    obtain⟨y,rfl,hy⟩:=hr.one_inv;obtain⟨fl,t,h1,h2,h3⟩:=xx hB (by simpa [dec]using hd) hy;exact⟨[(fl,t)],λm=>by rw [List.mapM_cons,h1 m];rfl,h2,λhf=>by simpa using h3 (by simpa using hf)⟩
   |cons d r=>simp [dec]at hd
theorem tW{B:BK}(hB:Bls B V h){t:TyD}{d:KD}{x:t.2.val}{y:D}(hd:vD B t d=some x)(hr:RD B V d y):∃fl,cl h y=some (fl,iy t x)/\(frD d=true->fl=true):=by
 obtain⟨ag,e⟩:=t
 cases d with
 |one c=>
  obtain⟨c',rfl,hc⟩:=hr;simp only [vD]at hd
  cases ag with
  |true=>simp at hd
  |false=>
   obtain⟨fl,t,h1,h2,h3⟩:=xx hB (by simpa using hd) hc;refine⟨fl,?_,h3⟩;show(dS h 6 c').bind _=_;rw [h1 4];show some (fl,TD.one t)=some (fl,iy (false,e) x);unfold iy;simp only [<-h2]
 |agg cs=>
  obtain⟨cs',rfl,hc⟩:=hr;simp only [vD]at hd
  cases ag with
  |false=>simp at hd
  |true=>
   obtain⟨l,h1,h2,h3⟩:=BS hB (by simpa using hd) hc;refine⟨l.all (·.1),?_,h3⟩;show(cs'.mapM (dS h 6)).bind _=_;rw [h1 4];show some (l.all (·.1),TD.agg (l.map (·.2)))=some (_,iy (true,e) x);rw [h2];rfl
 |tup ts=>simp [vD]at hd
theorem lM{B:BK}(hB:Bls B V h):∀{ts:List TyD} {ds:List KD} {x:bE ts} {ys:List D},gM B ts ds=some x->RDl B V ds ys->∃l,ys.mapM (cl h)=some l/\l.map (·.2)=cU ts x/\(ds.all frD=true->l.all (·.1)=true)
 | [],[],x,ys,hd,hr=>by rw [show ys= []from hr];exact⟨[],rfl,rfl,λ_=>rfl⟩
 | [],d::ds,x,ys,hd,hr=>by simp [gM]at hd
 | [t],[],x,ys,hd,hr=>by simp [gM]at hd
 | [t],[d],x,ys,hd,hr=>by
  obtain⟨y,s,rfl,h1,h2⟩:=hr;rw [show s= []from h2];obtain⟨fl,g1,g2⟩:=tW hB (show vD B t d=some x from hd) h1;exact⟨[(fl,iy t x)],by rw [List.mapM_cons,g1];rfl,rfl,λhf=>by simpa using g2 (by simpa using hf)⟩
 | [t],d::d'::ds,x,ys,hd,hr=>by simp [gM]at hd
 |t::t'::r,[],x,ys,hd,hr=>by simp [gM]at hd
 |t::t'::r,d::ds,x,ys,hd,hr=>by
  simp only [gM,zbE]at hd;obtain⟨x1,h1,y1,h2,h3⟩:=hd
  have:=Option.some.inj h3
  subst this;obtain⟨y,s,rfl,e1,e2⟩:=hr;obtain⟨fl,g1,g2⟩:=tW hB h1 e1;obtain⟨l,k1,k2,k3⟩:=lM hB h2 e2;refine⟨(fl,iy t x1)::l,by rw [List.mapM_cons,g1,k1];rfl,by rw [List.map_cons,k2];rfl,λhf=> ?_⟩;simp only [List.all_cons,Bool.and_eq_true]at hf ⊢;exact⟨g2 hf.1,k3 hf.2⟩
theorem Aa{B:BK}{fr fl:Bool}(hf:fr=true->fl=true)(t:TyD)(x:t.2.val):RD1 B V (mkD (Eh fr t x)) (bZ fl (iy t x)):=by
 obtain⟨ag,e⟩:=t;have hc:=cu (B:=B) (V:=V) hf e x
 cases ag with
 |true=>exact⟨_,rfl,hc⟩
 |false=>
  have hl:=lK fr e x;have hl2:=iU e x
  show RD1 B V (mkD (false,bK fr e x)) (bZ fl (match e.row x with
   | [y]=> .one y
   |ys=> .agg ys))
  revert hc hl hl2
  cases bK fr e x with
  |nil=>
   intro hc hl hl2
   cases hrw:e.row x with
   |nil=>exact⟨_,rfl,rfl⟩
   |cons y ys=>rw [hrw]at hl2;simp only [List.length_nil,List.length_cons]at hl hl2;omega
  |cons c r=>
   cases r with
   |nil=>
    intro hc hl hl2
    cases hrw:e.row x with
    |nil=>rw [hrw]at hl2;simp only [List.length_nil,List.length_cons]at hl hl2;omega
    |cons y ys=>cases ys with
     |nil=>
      rw [hrw]at hc;obtain⟨z,hz,hz2⟩:=hc.one_inv;refine⟨z,?_,hz2⟩;show D.one (pC fl y)=_;rw [show pC fl y=z from(List.cons.inj hz).1]
     |cons y2 ys=>rw [hrw]at hl2;simp only [List.length_nil,List.length_cons]at hl hl2;omega
   |cons c2 r=>
    intro hc hl hl2
    cases hrw:e.row x with
    |nil=>rw [hrw]at hl2;simp only [List.length_nil,List.length_cons]at hl hl2;omega
    |cons y ys=>cases ys with
     |nil=>rw [hrw]at hl2;simp only [List.length_nil,List.length_cons]at hl hl2;omega
     |cons y2 ys=>rw [hrw]at hc;exact⟨_,rfl,hc⟩
theorem nu{B:BK}{fr fl:Bool}(hf:fr=true->fl=true):∀(ts:List TyD) (x:bE ts),RTs B V (jy fr ts x) ((cU ts x).map (bZ fl))
 | [],_=>rfl
 | [t],x=>⟨_,_,rfl,Aa hf t x,rfl⟩
 |t::t'::r,x=>⟨_,_,rfl,Aa hf t x.1,nu hf (t'::r) x.2⟩
theorem rC(N:Nat)(fr:Bool):∀(ts:List TyD) (x:bE ts),∀y∈jy fr ts x,Scs N y.2
 | [],_=>λy hy=>by simp [jy]at hy
 | [t],x=>λy hy=>by rw [List.mem_singleton.1 (show y∈ [Eh fr t x]from hy)];exact dj N fr t.2 x
 |t::t'::r,x=>λy hy=>by
  rcases List.mem_cons.1 (show y∈Eh fr t x.1::jy fr (t'::r) x.2 from hy)with rfl|hy
  .exact dj N fr t.2 x.1
  .exact rC N fr (t'::r) x.2 y hy
end
end K
end Ev
end
noncomputable section
namespace Ev
namespace K
open Go Go.RowKit
def Vl.set(V:Vl)(nid k tag:Nat)(bo:Bool):Vl:=⟨λq=>if q=nid then k else V.id q,λq=>if q=tag then bo else V.bo q⟩
theorem Vl.set_agree{N nid tag k:Nat}{bo:Bool}{V:Vl}(h1:N<=nid)(h2:N<=tag):Agree N V (V.set nid k tag bo):=λq hq=>⟨if_neg (by omega),if_neg (by omega)⟩
theorem Vl.set_id{nid tag k:Nat}{bo:Bool}{V:Vl}:(V.set nid k tag bo).id nid=k:=if_pos rfl
theorem Vl.set_bo{nid tag k:Nat}{bo:Bool}{V:Vl}:(V.set nid k tag bo).bo tag=bo:=if_pos rfl
def Be(F:KF)(ks:KS)(nid:Nat)(e:KE):BK:=am F {ks with bl:=blE e nid ks.bl}
def KB.like(b0 b:KB):Prop:=
 match b with
 | .rows _ _ l=>∃e0 n0 l0,b0= .rows e0 n0 l0/\l0.length=l.length
 | .mrows _ l=>∃e0 l0,b0= .mrows e0 l0/\l0.length=l.length
 |_=>True
structure Es(B':BK)(V' V:Vl)(ks:KS)(k:Nat)(e:KE)(u:List (Nat×Blk)):Prop where
 real:∃uo un,u=uo++un/\
  (match e.upd with
   |none=>uo= []
   |some (p,b)=>(∃x,uo= [(V.id p,x)]/\BlkIs B' V' x b/\∀b0,ai ks.bl p=some b0->b0.there)∨(uo= []/\¬b.there/\∀b0,ai ks.bl p=some b0->¬b0.there))/\
  (match e.new with
   |none=>un= []
   |some b=>(∃x,un= [(k,x)]/\BlkIs B' V' x b/\b.there)∨(un= []/\¬b.there))
structure bG(E:Env)(n:Nat)(F:KF)(ks:KS)(V:Vl)(f:Nat->D)(h:ak)(M tag nid:Nat)(op:Op)(e:KE):Prop where
 upd:∀p b,e.upd=some (p,b)->∃b0,ai ks.bl p=some b0/\b0≠ .dead/\ScB ks.nx b/\b0.like b
 new:∀b,e.new=some b->ScB ks.nx b/\b≠ .dead
 sc:ScD M (jg tag e.v)
 run:∃bo,∀k,∃v u,stepG E (cpR E n) none k op (aE (tab F.nt f)) h=some ⟨v,u⟩/\RD (Be F ks nid e) (V.set nid k tag bo) (jg tag e.v) v/\Es (Be F ks nid e) (V.set nid k tag bo) V ks k e u
def Et(P:Program)(ty:TypeId)(kinds:List IntKind):Prop:=∀(x y:Operand) (l:List (Int×Int)),l.length=kinds.length->
 al P (do eqGuard .eql ty x y (.agg ((kinds.zip l).map λz=>Value.int z.1 z.2.1).toArray) (.agg ((kinds.zip l).map λz=>Value.int z.1 z.2.2).toArray);binOp .eql ty (.agg ((kinds.zip l).map λz=>Value.int z.1 z.2.1).toArray) (.agg ((kinds.zip l).map λz=>Value.int z.1 z.2.2).toArray))=some (.bool (@decide (eqP l) (eqD l)))/\
 al P (do eqGuard .neq ty x y (.agg ((kinds.zip l).map λz=>Value.int z.1 z.2.1).toArray) (.agg ((kinds.zip l).map λz=>Value.int z.1 z.2.2).toArray);binOp .neq ty (.agg ((kinds.zip l).map λz=>Value.int z.1 z.2.1).toArray) (.agg ((kinds.zip l).map λz=>Value.int z.1 z.2.2).toArray))=some (.bool (!(@decide (eqP l) (eqD l))))
def Ab(E:Env)(n:Nat)(k:FuncId)(vs:List TD):(o:OutK)->o.val->Prop
 | .data true ts,x=>RunsP E n k vs (.fresh,cU ts x)
 | .data false ts,x=>Km E n k vs (cU ts x)
 | .own e,l=>RunsP E n k vs (.own,[.one (.s true e.size (l.map e.row))])
 | .mown e,l=>RunsP E n k vs (Kx e.size e.row l)
 | .gown e,s=>RunsP E n k vs (bif s.nn then .own else .fresh,[.one (.s s.nn s.sz (s.l.map e.row))])
def aM(E:Env)(en:bW):Prop:=∀m a out,en.f a=some out->Ab E (m+en.d) en.k (cU en.ins a) en.out out
structure GOk(G:KG)(E:Env)(D:Nat):Prop where
 ok:E.Ok
 ti:∀t i,ai G.ti t=some i->E.ti t=some i
 eqs:∀ty kinds,ai G.eqs ty=some kinds->Et E.P ty kinds
 fns:∀en∈G.fns,en.d<=D/\aM E en
 fi:∀k f,ai G.fi k=some f->E.fn k=some f/\E.ax k=some λ_=>none
section
variable {E : Env} {n : Nat} {F : KF} {ks : KS} {V : Vl} {f : Nat → D} {h : ak} {M tag nid : Nat} {op : Op} {G : KG} {D0 : Nat}
theorem Gw{nid:Nat}{v:KD}:Be F ks nid ⟨v,none,none⟩=am F ks:=rfl
theorem aj{α:Type}{q:Nat}{b:α}{l:List (Nat×α)}{p:Nat}:ai ((q,b)::l) p=if p=q then some b else ai l p:=by
 show cond (Nat.beq q p) (some b) (ai l p)=_;by_cases h:p=q
 .subst h;rw [if_pos rfl,show Nat.beq p p=true from Nat.beq_refl p];rfl
 .rw [if_neg h]
  cases hb:Nat.beq q p with
  |true=>exact absurd (Nat.eq_of_beq_eq_true hb).symm h
  |false=>rfl
theorem fj{q:Nat}{b:KB}{bl:List (Nat×KB)}{p:Nat}(hb:b≠ .dead):am F {ks with bl:=(q,b)::bl} p=if p=q then some b else am F {ks with bl:=bl} p:=by
 by_cases hp:p=q
 .subst hp;rw [if_pos rfl];unfold am aI;simp only [aj,if_true]
  cases b with
  |dead=>exact absurd rfl hb
  |_=>rfl
 .rw [if_neg hp];unfold am aI;simp only [aj,if_neg hp]
theorem tX{q:Nat}{bl:List (Nat×KB)}{p:Nat}:am F {ks with bl:=(q,.dead)::bl} p=if p=q then none else am F {ks with bl:=bl} p:=by
 by_cases hp:p=q
 .subst hp;rw [if_pos rfl];unfold am aI;simp only [aj,if_true]
 .rw [if_neg hp];unfold am aI;simp only [aj,if_neg hp]
theorem ah{p:Nat}{b:KB}(h:ai ks.bl p=some b)(hb:b≠ .dead):am F ks p=some b:=by
 unfold am aI;rw [h]
 cases b with
 |dead=>exact absurd rfl hb
 |_=>rfl
theorem vN(hn:ks.nx<=nid){e:KE}(hu:∀p b,e.upd=some (p,b)->∃b0,ai ks.bl p=some b0/\b0≠ .dead/\b0.like b)(hnew:∀b,e.new=some b->b≠ .dead):LeB ks.nx (am F ks) (Be F ks nid e):=by
 have h1:LeB ks.nx (am F ks) (am F {ks with bl:=blU e ks.bl}):=by
  unfold blU
  cases hx:e.upd with
  |none=>exact LeB.refl _ _
  |some x=>
   obtain⟨p0,b⟩:=x;obtain⟨b0,g1,g2,g3⟩:=hu p0 b hx;have g1':=ah (F:=F) g1 g2;intro p hp;by_cases hb:b= .dead
   .subst hb;simp only [tX];by_cases hpp:p=p0
    .simp [hpp]
    .simp only [if_neg hpp];exact⟨λe ne l h=>⟨e,ne,l,h,rfl⟩,λe l h=>⟨e,l,h,rfl⟩⟩
   .simp only [fj hb];by_cases hpp:p=p0
    .subst hpp;simp only [if_pos rfl];refine⟨λe ne l h=> ?_,λe l h=> ?_⟩
     .have:=Option.some.inj h
      subst this;obtain⟨e0,n0,l0,k1,k2⟩:=g3;exact⟨e0,n0,l0,by rw [g1',k1],k2⟩
     .have:=Option.some.inj h
      subst this;obtain⟨e0,l0,k1,k2⟩:=g3;exact⟨e0,l0,by rw [g1',k1],k2⟩
    .simp only [if_neg hpp];exact⟨λe ne l h=>⟨e,ne,l,h,rfl⟩,λe l h=>⟨e,l,h,rfl⟩⟩
 unfold Be blE
 cases hx:e.new with
 |none=>exact h1
 |some b=>
  intro p hp;simp only [fj (hnew b hx),if_neg (show¬p=nid by omega)];exact h1 p hp
theorem fy{d:KD}(h:∀x,d≠ .one (.bv x)):jg tag d=d:=by
 unfold jg;split
 .exact absurd rfl (h _)
 .rfl
theorem aB{d:KD}{v:D}(ht:ks.nx<=tag)(hn:ks.nx<=nid)(htM:tag<M)(hv:∀k,stepG E (cpR E n) none k op (aE (tab F.nt f)) h=some ⟨v,[]⟩)(hs:ScD ks.nx d)(hd:RD (am F ks) V d v):bG E n F ks V f h M tag nid op ⟨d,none,none⟩:=by
 have hM:ks.nx<=M:=by omega
 refine⟨λp b hb=>by simp at hb,λb hb=>by simp at hb,?_,?_⟩
 .unfold jg;split
  .exact htM
  .exact hs.mono hM
 .refine⟨match d with
   | .one (.bv x)=>x
   |_=>false,λk=>⟨v,[],hv k,?_,⟨[],[],rfl,rfl,rfl⟩⟩⟩
  rw [Gw];by_cases hb:∃x,d= .one (.bv x)
  .obtain⟨x,rfl⟩:=hb;obtain⟨c,rfl,hc⟩:=hd;refine⟨_,rfl,?_,?_⟩
   .rw [Vl.set_bo];exact hc
   .rw [Vl.set_bo];cases x<;>rfl
  .rw [fy (λx hx=>hb ⟨x,hx⟩)];exact hd.mono hs (LeB.refl _ _) (Vl.set_agree hn ht)
theorem cH{P:Prop}{d:Decidable P}{b:Bool}(ht:ks.nx<=tag)(hn:ks.nx<=nid)(htM:tag<M)(hv:∀k,stepG E (cpR E n) none k op (aE (tab F.nt f)) h=some ⟨bD b,[]⟩)(hb:b= @decide P d):bG E n F ks V f h M tag nid op ⟨.one (.p tag P d),none,none⟩:=by
 refine⟨λp b hb=>by simp at hb,λb hb=>by simp at hb,htM,b,λk=>⟨_,[],hv k,⟨_,rfl,?_,?_⟩,⟨[],[],rfl,rfl,rfl⟩⟩⟩
 .rw [Vl.set_bo]
 .rw [Vl.set_bo];exact hb
theorem iV{d:KD}{b:KB}(hM:ks.nx<=M)(ht:ks.nx<=tag)(hn:ks.nx<=nid)(hb:ks.nx<=nid->ScB ks.nx b/\b≠ .dead)(hd:ScD M d)(hnb:∀x,d≠ .one (.bv x))
  (hv:∀k,(b.there/\∃v x,stepG E (cpR E n) none k op (aE (tab F.nt f)) h=some ⟨v,[(k,x)]⟩/\RD (Be F ks nid ⟨d,none,some b⟩) (V.set nid k tag false) d v/\BlkIs (Be F ks nid ⟨d,none,some b⟩) (V.set nid k tag false) x b)∨(¬b.there/\∃v,stepG E (cpR E n) none k op (aE (tab F.nt f)) h=some ⟨v,[]⟩/\RD (Be F ks nid ⟨d,none,some b⟩) (V.set nid k tag false) d v)):bG E n F ks V f h M tag nid op ⟨d,none,some b⟩:=by
 refine⟨λp b hb=>by simp at hb,λb' hb'=>by simp at hb';subst hb';exact hb hn,by rw [fy hnb];exact hd,false,λk=> ?_⟩;rcases hv k with⟨h0,v,x,h1,h2,h3⟩|⟨h0,v,h1,h2⟩
 .exact⟨v,_,h1,by rw [fy hnb];exact h2,⟨[],[(k,x)],rfl,rfl,.inl ⟨x,rfl,h3,h0⟩⟩⟩
 .exact⟨v,_,h1,by rw [fy hnb];exact h2,⟨[],[],rfl,rfl,.inr ⟨rfl,h0⟩⟩⟩
theorem rD{d:KD}{v:D}{p:Nat}{b0 b:KB}{x:Blk}(ht:ks.nx<=tag)(hn:ks.nx<=nid)(hM:ks.nx<=M)(hp:ai ks.bl p=some b0)(h0:b0≠ .dead)(hth:b0.there)(hsc:ScB ks.nx b)(hl:b0.like b)(hd:ScD ks.nx d)(hnb:∀x,d≠ .one (.bv x))
  (hv:∀k,stepG E (cpR E n) none k op (aE (tab F.nt f)) h=some ⟨v,[(V.id p,x)]⟩) (hrd:RD (am F ks) V d v) (hx:BlkIs (am F ks) V x b):bG E n F ks V f h M tag nid op ⟨d,some (p,b),none⟩:=by
 have hle:LeB ks.nx (am F ks) (Be F ks nid ⟨d,some (p,b),none⟩):=vN hn (λp' b' hb'=>by simp at hb';obtain⟨rfl,rfl⟩:=hb';exact⟨b0,hp,h0,hl⟩) (λb hb=>by simp at hb);refine⟨λp' b' hb'=>by simp at hb';obtain⟨rfl,rfl⟩:=hb';exact⟨b0,hp,h0,hsc,hl⟩,λb' hb'=>by simp at hb',by rw [fy hnb];exact hd.mono hM,false,λk=>⟨v,_,hv k,by rw [fy hnb];exact hrd.mono hd hle (Vl.set_agree hn ht),⟨[(V.id p,x)],[],rfl,.inl ⟨x,rfl,?_,λb1 hb1=>by rw [hp]at hb1;cases hb1;exact hth⟩,rfl⟩⟩⟩
 cases b with
 |box cs=>obtain⟨sz,cs',g1,g2⟩:=hx;exact⟨sz,cs',g1,g2.mono hsc hle (Vl.set_agree hn ht)⟩
 |rows e ne l=>exact hx
 |mrows e l=>exact hx
 |dead=>exact hx
theorem vO(hG:GOk G E D0){t:TypeId}{z:Nat×Bool}(h:Ei G.ti t=some z):gS E.ti t=some z:=by
 unfold Ei at h;split at h
 .rename_i i hi;unfold gS;rw [hG.ti _ _ hi];exact h
 .simp at h
theorem pY(hG:GOk G E D0){t:TypeId}{m:Nat}{z:Nat×Nat×Bool}(h:Gt G.ti t m=some z):fieldAt E.ti t m=some z:=by
 unfold Gt at h;split at h
 .rename_i i hi;split at h
  .rename_i fd hfd;split at h
   .rename_i ft hft;unfold fieldAt;rw [hG.ti _ _ hi];simp only [zbS,hfd,hG.ti _ _ hft];exact h
   .simp at h
  .simp at h
 .simp at h
theorem bL(hG:GOk G E D0){ty te z:Nat}{e:Ty}(h:G.elem ty=some (te,e,z)):∃t i2,E.ti ty=some t/\aP t=some te/\E.ti te=some i2/\i2.size=z/\ai G.ti te=some i2/\eQ E.ti ty=some z/\t.desc= .slice te:=by
 unfold KG.elem at h;split at h
 .rename_i t ht;split at h
  .rename_i e1 he1;split at h
   .rename_i i2 hi2;simp only [Option.map_eq_some_iff,Prod.mk.injEq]at h;obtain⟨x,_,rfl,rfl,rfl⟩:=h;refine⟨t,i2,hG.ti _ _ ht,he1,hG.ti _ _ hi2,rfl,hi2,?_,?_⟩
    .unfold eQ;rw [hG.ti _ _ ht];simp only [zbS,he1,hG.ti _ _ hi2]
    .unfold aP at he1;split at he1
     .rename_i e2 hd;rw [hd];cases he1;rfl
     .simp at he1
   .simp at h
  .simp at h
 .simp at h
theorem vP{α:Type}{l:List α}{i:Int}{y:α}(h:atL l i=some y):l≠[]:=by
 obtain⟨_,h2⟩:=nf h;intro he;rw [he]at h2;simp at h2
theorem rE(e:Ty)(x:e.val):(cK e.row x).length=e.size:=by
 unfold cK;rw [List.length_map,iU]
theorem jW{e:Ty}{l:List e.val}{i:Int}{y:e.val}(h:atL l i=some y):0<=i/\(l.map (cK e.row))[i.toNat]? =some ((e.row y).map (pC true)):=by
 obtain⟨h1,h2⟩:=nf h;exact⟨h1,vA h2⟩
end
end K
end Ev
end
noncomputable section
namespace Ev
namespace K
open Go Go.RowKit
section
variable {E : Env} {n : Nat} {F : KF} {ks : KS} {V : Vl} {f : Nat → D} {h : ak} {M tag nid : Nat} {op : Op} {G : KG} {D0 : Nat} {R : Type} {κ : KE → Option R} {r : R}
theorem rF{B:BK}{N:Nat}{d:KD}{cs:List KC}{d':D}(hk:kCs d=some cs)(hs:ScD N d)(hd:RD B V d d'):∃cs',eb d'=some cs'/\RCs B V cs cs'/\Scs N cs:=by
 cases d with
 |one c=>
  have:=Option.some.inj (show some [c]=some cs from hk)
  subst this;obtain⟨c',rfl,hc⟩:=hd;exact⟨[c'],rfl,.one hc,λx hx=>by rw [List.mem_singleton.1 hx];exact hs⟩
 |agg l=>
  have:=Option.some.inj (show some l=some cs from hk)
  subst this;obtain⟨c',rfl,hc⟩:=hd;exact⟨c',rfl,hc,hs⟩
 |tup ts=>simp [kCs]at hk
theorem dZ{B:BK}{ag:Bool}{cs:List KC}{cs':List C}{d:KD}{N:Nat}(hk:kOf ag cs=some d)(hs:Scs N cs)(hr:RCs B V cs cs'):∃d',bR ag cs'=some d'/\RD B V d d'/\ScD N d:=by
 unfold kOf at hk
 cases ag with
 |true=>
  have:=Option.some.inj (by simpa using hk)
  subst this;exact⟨.agg cs',rfl,⟨_,rfl,hr⟩,hs⟩
 |false=>
  cases cs with
  |nil=>simp at hk
  |cons c l=>cases l with
   |nil=>
    have:=Option.some.inj (by simpa using hk)
    subst this;obtain⟨y,rfl,hy⟩:=hr.one_inv;exact⟨.one y,rfl,⟨_,rfl,hy⟩,hs c (by simp)⟩
   |cons c2 l=>simp at hk
theorem Ac{e:Ty}{l:List e.val}{i:Nat}{y:e.val}:(l.map (cK e.row)).set i ((e.row y).map (pC true))=(l.set i y).map (cK e.row):=map_set (r:=cK e.row)
theorem Gx(hG:GOk G E D0)(hr:Rel F ks V f h)(ht:ks.nx<=tag)(hn:ks.nx<=nid)(htM:tag<M){t:TypeId}{a:Operand}(hs:bq G F ks tag nid (.load t a) κ=some r):∃e,κ e=some r/\bG E n F ks V f h M tag nid (.load t a) e:=by
 simp only [bq]at hs;split at hs
 .rename_i z d hz hd;have hz':=vO hG hz;obtain⟨d',h1,h2,h3⟩:=aT hr hd
  cases d with
  |tup ts=>simp [eR]at hs
  |agg cs=>simp [eR]at hs
  |one c=>
   obtain⟨c',rfl,hc⟩:=h3
   cases c with
   |ptr p j=>
    simp only [eR]at hs;split at hs
    .rename_i cs hp;simp only [zbE]at hs;obtain⟨d2,⟨cs2,g1,g2⟩,g3⟩:=hs;obtain⟨g4,g5,sz,cs',g6,g7⟩:=hr.bl p _ hp;obtain⟨c2,g8,g9⟩:=g7.cut g1;obtain⟨d3,k1,k2,k3⟩:=dZ g2 (fp g5 g1) g9;rw [show c'=_ from hc]at h1;exact⟨_,g3,aB ht hn htM (λk=>vy (L:= [[(V.id p,sz,[cs'])]]) 0 h1 hz' rfl rfl g8 k1 h k (fh g6)) k3 k2⟩
    .simp at hs
   |ip e fr x i y j=>
    simp only [eR,zbE]at hs;obtain⟨d2,⟨cs2,g1,g2⟩,g3⟩:=hs;obtain⟨fl,e1,e2,e3⟩:=hc;obtain⟨c2,g8,g9⟩:=(cu (B:=am F ks) (V:=V) e3 e y).cut g1;obtain⟨d3,k1,k2,k3⟩:=dZ g2 (fp (dj ks.nx fr e y) g1) g9;rw [e1]at h1;exact⟨_,g3,aB ht hn htM (λk=>Gh (L:= []) h1 hz' (vA e2) g8 k1 h k aF) k3 k2⟩
   |pe p i j=>
    simp only [eR]at hs;rw [hc.2]at h1;split at hs
    .rename_i e ne l hp;simp only [zbE]at hs;obtain⟨y,g0,d2,⟨cs2,g1,g2⟩,g3⟩:=hs;obtain⟨g4,g5,g6,_⟩:=hr.bl p _ hp;obtain⟨c2,g8,g9⟩:=(cu (B:=am F ks) (V:=V) (λ_=>rfl) e y).cut g1;obtain⟨d3,k1,k2,k3⟩:=dZ g2 (fp (dj ks.nx true e y) g1) g9;exact⟨_,g3,aB ht hn htM (λk=>vy (L:= [[(V.id p,_,_)]]) 0 h1 hz' rfl (jW g0).2 g8 k1 h k (fh g6)) k3 k2⟩
    .rename_i e l hp;simp only [zbE]at hs;obtain⟨y,g0,d2,⟨cs2,g1,g2⟩,g3⟩:=hs;obtain⟨g4,g5,g6⟩:=hr.bl p _ hp;have g6:=g6 (vP g0);obtain⟨c2,g8,g9⟩:=(cu (B:=am F ks) (V:=V) (λ_=>rfl) e y).cut g1;obtain⟨d3,k1,k2,k3⟩:=dZ g2 (fp (dj ks.nx true e y) g1) g9;exact⟨_,g3,aB ht hn htM (λk=>vy (L:= [[(V.id p,_,_)]]) 0 h1 hz' rfl (jW g0).2 g8 k1 h k (fh g6)) k3 k2⟩
    .simp at hs
   |_=>simp [eR]at hs
 .simp at hs
theorem Eu(hG:GOk G E D0)(hr:Rel F ks V f h)(ht:ks.nx<=tag)(hn:ks.nx<=nid)(htM:tag<M){t:TypeId}{a x:Operand}(hs:bq G F ks tag nid (.store t a x) κ=some r):∃e,κ e=some r/\bG E n F ks V f h M tag nid (.store t a x) e:=by
 have hM:ks.nx<=M:=by omega
 simp only [bq]at hs;split at hs
 .rename_i z d v hz hd hx;have hz':=vO hG hz;obtain⟨d',h1,h2,h3⟩:=aT hr hd;obtain⟨v',x1,x2,x3⟩:=aT hr hx;unfold rh at hs;split at hs
  .simp at hs
  .rename_i cs hcs;obtain⟨cs',y1,y2,y3⟩:=rF hcs x2 x3;split at hs
   .rename_i hlen;have hlen':Nat.beq cs'.length z.1=true:=by rw [y2.len,hlen];exact Nat.beq_refl _
    split at hs
    .rename_i p j;obtain⟨c',rfl,hc⟩:=h3;rw [show c'=_ from hc]at h1;split at hs
     .rename_i es hp;simp only [zbE]at hs;obtain⟨es',g1,g2⟩:=hs;obtain⟨g4,g5,sz,es2,g6,g7⟩:=hr.bl p _ (ah hp (by simp));obtain⟨e3,k1,k2⟩:=g7.patch y2 g1;exact⟨_,g2,rD ht hn hM hp (by simp) trivial (tV g5 y3 g1) trivial (by intro z hz;simp at hz) (by intro z hz;simp [kUn]at hz) (λk=>(vz (L:= [[(V.id p,sz,[es2])]]) 0 h1 x1 y1 hz' hlen' rfl rfl k1 rfl).2 h k (fh g6)) ⟨[],rfl,rfl⟩ ⟨sz,e3,rfl,k2⟩⟩
     .simp at hs
    .rename_i p i j;obtain⟨c',rfl,hc⟩:=h3;rw [hc.2]at h1;split at hs
     .rename_i e ne l hp;split at hs
      .rename_i hfr;simp only [zbE]at hs;obtain⟨y,g0,es',g1,y',g2,g3⟩:=hs;obtain⟨g4,g5,g6,g7⟩:=hr.bl p _ (ah hp (by simp));obtain⟨e3,k1,k2⟩:=(cu (B:=am F ks) (V:=V) (λ_=>rfl) e y).patch y2 g1
       have hfr2:es'.all frC=true:=by
        have hk:∀c∈bK true e y,frC c=true:=fr_kcells e y;unfold Ev.patch at g1;split at g1
        .rw [<-Option.some.inj g1,List.all_append,List.all_append,hfr];rw [List.all_eq_true.2 λc hc=>hk c (List.mem_of_mem_take hc),List.all_eq_true.2 λc hc=>hk c (List.mem_of_mem_drop hc)];rfl
        .simp at g1
       have:=jU g2 hfr2 k2
       subst this;refine⟨_,g3,rD ht hn hM hp (by simp) trivial trivial ⟨_,_,_,rfl,by rw [List.length_set]⟩ (by intro z hz;simp at hz) (by intro z hz;simp [kUn]at hz) (λk=>(vz (L:= [[(V.id p,_,_)]]) 0 h1 x1 y1 hz' hlen' rfl (jW g0).2 k1 rfl).2 h k (fh g6)) ⟨[],rfl,rfl⟩ ⟨by rw [Ac],λhne=> ?_⟩⟩
       have:=g7 hne
       intro he;exact this (by have:=congrArg List.length he;rw [List.length_set]at this;exact List.length_eq_zero_iff.1 this)
      .simp at hs
     .rename_i e l hp;split at hs
      .rename_i hfr;simp only [zbE]at hs;obtain⟨y,g0,es',g1,y',g2,g3⟩:=hs;obtain⟨g4,g5,g6⟩:=hr.bl p _ (ah hp (by simp));have hne:=vP g0;have g6:=g6 hne;obtain⟨e3,k1,k2⟩:=(cu (B:=am F ks) (V:=V) (λ_=>rfl) e y).patch y2 g1
       have hfr2:es'.all frC=true:=by
        have hk:∀c∈bK true e y,frC c=true:=fr_kcells e y;unfold Ev.patch at g1;split at g1
        .rw [<-Option.some.inj g1,List.all_append,List.all_append,hfr];rw [List.all_eq_true.2 λc hc=>hk c (List.mem_of_mem_take hc),List.all_eq_true.2 λc hc=>hk c (List.mem_of_mem_drop hc)];rfl
        .simp at g1
       have:=jU g2 hfr2 k2
       subst this;exact⟨_,g3,rD ht hn hM hp (by simp) hne trivial ⟨_,_,rfl,by rw [List.length_set]⟩ (by intro z hz;simp at hz) (by intro z hz;simp [kUn]at hz) (λk=>(vz (L:= [[(V.id p,_,_)]]) 0 h1 x1 y1 hz' hlen' rfl (jW g0).2 k1 rfl).2 h k (fh g6)) ⟨[],rfl,rfl⟩ (by rw [Ac];rfl)⟩
      .simp at hs
     .simp at hs
    .simp at hs
   .simp at hs
 .simp at hs
where
 fr_kcells:∀(e:Ty) (y:e.val),∀c∈bK true e y,frC c=true
  | .I _,_=>λc hc=>by rw [List.mem_singleton.1 hc];rfl
  | .B,_=>λc hc=>by rw [List.mem_singleton.1 hc];rfl
  | .S _,_=>λc hc=>by rw [List.mem_singleton.1 hc];rfl
  | .U,_=>λc hc=>by simp [bK]at hc
  | .C a b,x=>λc hc=>by
   rcases List.mem_append.1 (show c∈bK true a x.1++bK true b x.2 from hc)with h|h
   .exact fr_kcells a x.1 c h
   .exact fr_kcells b x.2 c h
theorem Ad(hr:Rel F ks V f h)(ht:ks.nx<=tag)(hn:ks.nx<=nid)(htM:tag<M){x:Operand}{o:Op}(ho:o= .move x∨o= .assign x)(hs:(kO F ks x).bind (λd=>κ ⟨d,none,none⟩)=some r):∃e,κ e=some r/\bG E n F ks V f h M tag nid o e:=by
 simp only [zbE]at hs;obtain⟨d,hx,hk⟩:=hs;obtain⟨d',h1,h2,h3⟩:=aT hr hx;rcases ho with rfl|rfl
 .exact⟨_,hk,aB ht hn htM (λk=>IA (L:= []) h1 h k aF) h2 h3⟩
 .exact⟨_,hk,aB ht hn htM (λk=>DP (L:= []) h1 h k aF) h2 h3⟩
theorem Ew(hG:GOk G E D0)(ht:ks.nx<=tag)(hn:ks.nx<=nid)(htM:tag<M)(hnM:nid<M){t:TypeId}(hs:bq G F ks tag nid (.alloc t) κ=some r):∃e,κ e=some r/\bG E n F ks V f h M tag nid (.alloc t) e:=by
 simp only [bq]at hs;split at hs
 .rename_i i hi;refine⟨_,hs,iV (by omega) ht hn (λ_=>⟨vM _ _,by simp⟩) hnM (by simp) λk=> .inl ⟨trivial,_,_,Gi (L:= []) (hG.ti _ _ hi) rfl rfl h k aF,⟨_,rfl,?_⟩,_,_,rfl,jV _⟩⟩;show C.ptr k 0 0= .ptr _ 0 0;rw [Vl.set_id]
 .simp at hs
theorem IV(hG:GOk G E D0)(hr:Rel F ks V f h)(ht:ks.nx<=tag)(hn:ks.nx<=nid)(htM:tag<M)(hnM:nid<M){t:TypeId}{x:Operand}(hs:bq G F ks tag nid (.box t x) κ=some r):∃e,κ e=some r/\bG E n F ks V f h M tag nid (.box t x) e:=by
 simp only [bq]at hs;split at hs
 .rename_i i cs hi hcs;simp only [zbE]at hcs;obtain⟨d,hd,hcs⟩:=hcs;obtain⟨d',h1,h2,h3⟩:=aT hr hd;obtain⟨cs',y1,y2,y3⟩:=rF hcs h2 h3;refine⟨_,hs,iV (by omega) ht hn (λ_=>⟨y3,by simp⟩) hnM (by simp) λk=> .inl ⟨trivial,_,_,Ki (L:= []) (hG.ti _ _ hi) h1 y1 rfl h k aF,⟨_,rfl,?_⟩,_,_,rfl,y2.mono y3 (vN hn (λp b hb=>by simp at hb) (λb hb=>by simp at hb;subst hb;simp)) (Vl.set_agree hn ht)⟩⟩;show C.ptr k 0 0= .ptr _ 0 0;rw [Vl.set_id]
 .simp at hs
theorem vQ(hG:GOk G E D0)(hr:Rel F ks V f h)(ht:ks.nx<=tag)(hn:ks.nx<=nid)(htM:tag<M){t:TypeId}{x:Operand}{m:Nat}(hs:bq G F ks tag nid (.fieldAddr t x m) κ=some r):∃e,κ e=some r/\bG E n F ks V f h M tag nid (.fieldAddr t x m) e:=by
 simp only [bq]at hs;split at hs
 .rename_i off sz ag p j hf hx;obtain⟨d',h1,h2,c',rfl,hc⟩:=aT hr hx;split at hs
  .simp at hs
  .rename_i hz;rw [show c'=_ from hc]at h1;exact⟨_,hs,aB ht hn htM (λk=>xp (L:= []) h1 (pY hG hf) (by cases hb:Nat.beq sz 0 with|true=>exact absurd (Nat.eq_of_beq_eq_true hb) hz|false=>rfl) h k aF) h2 ⟨_,rfl,rfl⟩⟩
 .rename_i off sz ag p i j hf hx;obtain⟨d',h1,h2,c',rfl,hc⟩:=aT hr hx;split at hs
  .simp at hs
  .rename_i hz;rw [hc.2]at h1;exact⟨_,hs,aB ht hn htM (λk=>xp (L:= []) h1 (pY hG hf) (by cases hb:Nat.beq sz 0 with|true=>exact absurd (Nat.eq_of_beq_eq_true hb) hz|false=>rfl) h k aF) h2 ⟨_,rfl,hc.1,rfl⟩⟩
 .rename_i off sz ag e fr s i y j hf hx;obtain⟨d',h1,h2,c',rfl,fl,hc,hc2,hc3⟩:=aT hr hx;split at hs
  .simp at hs
  .rename_i hz;rw [hc]at h1;exact⟨_,hs,aB ht hn htM (λk=>DT (L:= []) h1 (pY hG hf) (by cases hb:Nat.beq sz 0 with|true=>exact absurd (Nat.eq_of_beq_eq_true hb) hz|false=>rfl) h k aF) h2 ⟨_,rfl,fl,rfl,hc2,hc3⟩⟩
 .simp at hs
theorem Ey(hG:GOk G E D0)(hr:Rel F ks V f h)(ht:ks.nx<=tag)(hn:ks.nx<=nid)(htM:tag<M){t:TypeId}{x:Operand}{m:Nat}(hs:bq G F ks tag nid (.field t x m) κ=some r):∃e,κ e=some r/\bG E n F ks V f h M tag nid (.field t x m) e:=by
 simp only [bq]at hs;split at hs
 .rename_i off sz ag cs hf hx;simp only [zbE]at hs;obtain⟨d2,⟨cs2,g1,g2⟩,g3⟩:=hs;obtain⟨d',h1,h2,cs',rfl,hc⟩:=aT hr hx;obtain⟨c2,g8,g9⟩:=hc.cut g1;obtain⟨d3,k1,k2,k3⟩:=dZ g2 (fp h2 g1) g9;exact⟨_,g3,aB ht hn htM (λk=>DU (L:= []) h1 (pY hG hf) g8 k1 h k aF) k3 k2⟩
 .simp at hs
theorem Ae{B:BK}:∀{l:List (Bool×List KC)} {ds:List D} {i:Nat} {x:Bool×List KC},RTs B V l ds->l[i]? =some x->∃d,ds[i]? =some d/\RD1 B V (mkD x) d
 | [],ds,i,x,hr,hx=>by simp at hx
 |y::l,ds,0,x,⟨d,s,hd,h1,h2⟩,hx=>by simp at hx;subst hx hd;exact⟨d,rfl,h1⟩
 |y::l,ds,i+1,x,⟨d,s,hd,h1,h2⟩,hx=>by subst hd;simpa using Ae h2 (by simpa using hx)
theorem yX{B:BK}{k:KD}{d:D}(h:RD1 B V k d):RD B V k d:=by
 cases k with
 |one c=>exact h
 |agg cs=>exact h
 |tup ts=>exact h.elim
theorem yY(hr:Rel F ks V f h)(ht:ks.nx<=tag)(hn:ks.nx<=nid)(htM:tag<M){x:Operand}{i:Nat}(hs:bq G F ks tag nid (.extract x i) κ=some r):∃e,κ e=some r/\bG E n F ks V f h M tag nid (.extract x i) e:=by
 simp only [bq]at hs;split at hs
 .rename_i ds hx;simp only [zbE]at hs;obtain⟨d,g1,g2⟩:=hs;obtain⟨d',h1,h2,ds',rfl,hc⟩:=aT hr hx;obtain⟨d3,k1,k2⟩:=Ae hc g1;exact⟨_,g2,aB ht hn htM (λk=>Kj (L:= []) h1 k1 h k aF) (pX (h2 _ (List.mem_of_getElem? g1))) (yX k2)⟩
 .simp at hs
theorem Gy(hr:Rel F ks V f h)(ht:ks.nx<=tag)(hn:ks.nx<=nid)(htM:tag<M){o:UnOp}{t:TypeId}{x:Operand}(hs:bq G F ks tag nid (.unOp o t x) κ=some r):∃e,κ e=some r/\bG E n F ks V f h M tag nid (.unOp o t x) e:=by
 simp only [bq]at hs;split at hs
 .rename_i v hx;obtain⟨d',h1,h2,c',rfl,hc⟩:=aT hr hx;rw [show c'=_ from hc]at h1;exact⟨_,hs,aB ht hn htM (λk=>DS (L:= []) h1 h k aF) trivial ⟨_,rfl,rfl⟩⟩
 .rename_i tg P d hx;obtain⟨d',h1,h2,c',rfl,hc,hc2⟩:=aT hr hx;rw [hc]at h1;refine⟨_,hs,cH ht hn htM (λk=>DS (L:= []) h1 h k aF) ?_⟩;rw [hc2];by_cases hP:P<;>simp [hP]
 .rename_i v hx;obtain⟨d',h1,h2,c',rfl,hc⟩:=aT hr hx;rw [show c'=_ from hc]at h1;refine⟨_,hs,cH ht hn htM (λk=>DS (L:= []) h1 h k aF) ?_⟩;cases v<;>rfl
 .rename_i k v hx;obtain⟨d',h1,h2,c',rfl,hc⟩:=aT hr hx;rw [show c'=_ from hc]at h1;exact⟨_,hs,aB ht hn htM (λk=>Kh (L:= []) h1 h k aF) trivial ⟨_,rfl,rfl⟩⟩
 .rename_i k v hx;obtain⟨d',h1,h2,c',rfl,hc⟩:=aT hr hx;rw [show c'=_ from hc]at h1;exact⟨_,hs,aB ht hn htM (λk=>Gq (L:= []) h1 h k aF) trivial ⟨_,rfl,rfl⟩⟩
 .simp at hs
theorem Ez{P:Program}{src dst:TypeId}{d1:TypeDesc}{k k2:IntKind}{a:Int}(h1:P.underlying src=some d1)(h2:P.underlying dst=some (.int k2)):al P (Go.convert src dst (.int k a))=some (.int k2 (k2.wrap a)):=by
 unfold Go.convert;simp only [bp,nh h1,nh h2,zbS];cases d1<;>rfl
theorem Gz{t e:TypeId}{x:Operand}{ti te:TI}{k n m:Nat}{es:List (List C)}(hx:ov F.nt f x=some (.one (.own k 0 n)))(h1:E.ti t=some ti)(h2:aP ti=some e)(h3:E.ti e=some te)(h4:sT te.desc=true)(hb:ao h k=some (1,es))(nid:Nat):stepG E (cpR E m) none nid (.convert t t x) (aE (tab F.nt f)) h=some ⟨.one (.own k 0 n),[(k,.own 1 es)]⟩:=by
 show sem E nid (pG (.convert t t x)) (ay (aE (tab F.nt f))) h=_;unfold sem pG;simp only [bm,hx,zbB,zbS,h1,h2,h3,hb];simp [h4]
theorem yZ(hG:GOk G E D0)(hr:Rel F ks V f h)(ht:ks.nx<=tag)(hn:ks.nx<=nid)(htM:tag<M){s t:TypeId}{x:Operand}(hs:bq G F ks tag nid (.convert s t x) κ=some r):∃e,κ e=some r/\bG E n F ks V f h M tag nid (.convert s t x) e:=by
 simp only [bq]at hs;split at hs
 .rename_i e0 p hx;split at hs
  .rename_i te e1 z e ne l hsd hel hp;obtain⟨ti,i2,t1,t2,t3,t4,t5,t6,t7⟩:=bL hG hel;rw [t5]at hs;simp only at hs
   cases hc:(sT i2.desc && Nat.beq e.size 1)with
   |false=>rw [hc]at hs;simp at hs
   |true=>
    rw [hc]at hs;simp only [cond_true]at hs;simp only [Bool.and_eq_true]at hc;obtain rfl:=Nat.eq_of_beq_eq_true hsd;have hz:=Nat.eq_of_beq_eq_true hc.2;obtain⟨d,d1,d2,cx,rfl,d3⟩:=aT hr hx;have hB:=ah (F:=F) hp (by simp);obtain⟨b1,b2,b3,b4⟩:=hr.bl p _ hB;have hcx:=d3 _ _ _ hB;subst hcx;have hM:ks.nx<=M:=by omega
    refine⟨_,hs,rD ht hn hM hp (by simp) trivial trivial ⟨_,_,_,rfl,rfl⟩ d2 (by intro z hz;simp at hz) (λk=> ?_) ⟨_,rfl,d3⟩ ⟨rfl,b4⟩⟩;rw [hz];rw [hz]at b3;exact Gz d1 t1 t2 t3 hc.1 b3 k
  .simp at hs
 .rename_i k a hx;split at hs
  .rename_i si di h1 h2;split at hs
   .rename_i k1 k2 g1 g2;split at hs
    .obtain⟨d',e1,e2,c',rfl,hc⟩:=aT hr hx;rw [show c'=_ from hc]at e1;have u1:=hG.ok.1.1 _ _ (hG.ti _ _ h1);have u2:=hG.ok.1.1 _ _ (hG.ti _ _ h2);rw [g2]at u2;exact⟨_,hs,aB ht hn htM (λk=>IC (L:= []) e1 (Ez u1 u2) rfl h k aF) trivial ⟨_,rfl,rfl⟩⟩
    .simp at hs
   .simp at hs
  .simp at hs
 .simp at hs
end
end K
end Ev
end
noncomputable section
namespace Ev
namespace K
open Go Go.RowKit
section
variable {E : Env} {n : Nat} {F : KF} {ks : KS} {V : Vl} {f : Nat → D} {h : ak} {M tag nid : Nat} {op : Op} {G : KG} {D0 : Nat} {R : Type} {κ : KE → Option R} {r : R}
theorem vR{L:BL}{nt:Nat}{bop:BinOp}{ty sh e:TypeId}{x:Operand}{t:TI}{fr nn:Bool}{sz:Nat}{l:List (List T)}(hx:ov nt f x=some (.one (.p fr (.s nn sz l))))(ht:E.ti ty=some t)(he:aP t=some e):PS E n nt f L (.binOp .eql ty x (.const (.slice none 0 0)) sh) (bD (!nn))/\PS E n nt f L (.binOp .neq ty x (.const (.slice none 0 0)) sh) (bD nn):=by
 constructor<;>intro h nid hb
 all_goals
  rw [xm,bm,hx];show((E.ti ty).bind λt=>(aP t).bind λe=>_)=_;rw [ht];simp only [zbS,he];rfl
theorem EA{L:BL}{nt:Nat}{bop:BinOp}{ty sh e:TypeId}{x:Operand}{t:TI}{k i m:Nat}(hx:ov nt f x=some (.one (.own k i m)))(ht:E.ti ty=some t)(he:aP t=some e):PS E n nt f L (.binOp .eql ty x (.const (.slice none 0 0)) sh) (bD false)/\PS E n nt f L (.binOp .neq ty x (.const (.slice none 0 0)) sh) (bD true):=by
 constructor<;>intro h nid hb
 all_goals
  rw [xm,bm,hx];show((E.ti ty).bind λt=>(aP t).bind λe=>_)=_;rw [ht];simp only [zbS,he];rfl
theorem rG{y:Operand}(h:rm y=true):y= .const (.slice none 0 0):=by
 unfold rm at h;split at h
 .rfl
 .simp at h
theorem tY{B:BK}:∀{kinds:List IntKind} {cs ds:List KC} {l:List (Int×Int)} {cs' ds':List C},dK kinds cs ds=some l->RCs B V cs cs'->RCs B V ds ds'->dp cs'=some ((kinds.zip l).map λz=>Value.int z.1 z.2.1)/\dp ds'=some ((kinds.zip l).map λz=>Value.int z.1 z.2.2)/\l.length=kinds.length
 | [],[],[],l,cs',ds',hz,hc,hd=>by
  have:=Option.some.inj (show some []=some l from hz)
  subst this;rw [show cs'= []from hc,show ds'= []from hd];exact⟨rfl,rfl,rfl⟩
 |k::ks,.n k1 x::r,.n k2 y::s,l,cs',ds',hz,⟨c,c2,e1,h1,h2⟩,⟨d,d2,e2,h3,h4⟩=>by
  simp only [dK]at hz;split at hz
  .rename_i hk;obtain⟨rfl,rfl⟩:=hk;rw [Option.map_eq_some_iff]at hz;obtain⟨l2,g1,rfl⟩:=hz;obtain⟨k1,k2,k3⟩:=tY g1 h2 h4;subst e1 e2;rw [show c=_ from h1,show d=_ from h3];refine⟨?_,?_,by simp [k3]⟩
   .show(do some ((<-kJ (iC _ x))::(<-dp c2)))=_;rw [k1];rfl
   .show(do some ((<-kJ (iC _ y))::(<-dp d2)))=_;rw [k2];rfl
  .simp at hz
 | [],c::_,_,_,_,_,hz,_,_=>by simp [dK]at hz
 | [],[],_::_,_,_,_,hz,_,_=>by simp [dK]at hz
 |_::_,[],_,_,_,_,hz,_,_=>by simp [dK]at hz
 |_::_,.n _ _::_,[],_,_,_,hz,_,_=>by simp [dK]at hz
 |_::_,.n _ _::_,.b _::_,_,_,_,hz,_,_=>by simp [dK]at hz
 |_::_,.n _ _::_,.p _ _ _::_,_,_,_,hz,_,_=>by simp [dK]at hz
 |_::_,.n _ _::_,.bv _::_,_,_,_,hz,_,_=>by simp [dK]at hz
 |_::_,.n _ _::_,.v _::_,_,_,_,hz,_,_=>by simp [dK]at hz
 |_::_,.n _ _::_,.nil::_,_,_,_,hz,_,_=>by simp [dK]at hz
 |_::_,.n _ _::_,.s _ _ _::_,_,_,_,hz,_,_=>by simp [dK]at hz
 |_::_,.n _ _::_,.o _ _::_,_,_,_,hz,_,_=>by simp [dK]at hz
 |_::_,.n _ _::_,.m _ _::_,_,_,_,hz,_,_=>by simp [dK]at hz
 |_::_,.n _ _::_,.ptr _ _::_,_,_,_,hz,_,_=>by simp [dK]at hz
 |_::_,.n _ _::_,.pe _ _ _::_,_,_,_,hz,_,_=>by simp [dK]at hz
 |_::_,.n _ _::_,.ip _ _ _ _ _ _::_,_,_,_,hz,_,_=>by simp [dK]at hz
 |_::_,.n _ _::_,.clo _ _::_,_,_,_,hz,_,_=>by simp [dK]at hz
 |_::_,.n _ _::_,.yld _::_,_,_,_,hz,_,_=>by simp [dK]at hz
 |_::_,.b _::_,_,_,_,_,hz,_,_=>by simp [dK]at hz
 |_::_,.p _ _ _::_,_,_,_,_,hz,_,_=>by simp [dK]at hz
 |_::_,.bv _::_,_,_,_,_,hz,_,_=>by simp [dK]at hz
 |_::_,.v _::_,_,_,_,_,hz,_,_=>by simp [dK]at hz
 |_::_,.nil::_,_,_,_,_,hz,_,_=>by simp [dK]at hz
 |_::_,.s _ _ _::_,_,_,_,_,hz,_,_=>by simp [dK]at hz
 |_::_,.o _ _::_,_,_,_,_,hz,_,_=>by simp [dK]at hz
 |_::_,.m _ _::_,_,_,_,_,hz,_,_=>by simp [dK]at hz
 |_::_,.ptr _ _::_,_,_,_,_,hz,_,_=>by simp [dK]at hz
 |_::_,.pe _ _ _::_,_,_,_,_,hz,_,_=>by simp [dK]at hz
 |_::_,.ip _ _ _ _ _ _::_,_,_,_,_,hz,_,_=>by simp [dK]at hz
 |_::_,.clo _ _::_,_,_,_,_,hz,_,_=>by simp [dK]at hz
 |_::_,.yld _::_,_,_,_,_,hz,_,_=>by simp [dK]at hz
theorem dM{P:Prop}{d:Decidable P}{b:Bool}(h:b=true↔P):b= @decide P d:=by
 by_cases hP:P
 .rw [h.2 hP,decide_eq_true hP]
 .cases b with
  |true=>exact absurd (h.1 rfl) hP
  |false=>rw [decide_eq_false hP]
theorem IW(ht:ks.nx<=tag)(hn:ks.nx<=nid)(htM:tag<M){bop:BinOp}{ty sh:TypeId}{x y:Operand}{k k':IntKind}{a b:Int}(hx:ov F.nt f x=some (.one (iC k a)))(hy:ov F.nt f y=some (.one (iC k' b)))(hs:IP tag bop k k' a b κ=some r):∃e,κ e=some r/\bG E n F ks V f h M tag nid (.binOp bop ty x y sh) e:=by
 unfold IP at hs;split at hs
 .simp only [zbE]at hs;obtain⟨z,h1,h2⟩:=hs;exact⟨_,h2,aB ht hn htM (λq=>fw (L:= []) hx hy (Kq h1) rfl h q aF) trivial ⟨_,rfl,rfl⟩⟩
 .simp only [zbE]at hs;obtain⟨z,h1,h2⟩:=hs;exact⟨_,h2,aB ht hn htM (λq=>fw (L:= []) hx hy (Kp h1) rfl h q aF) trivial ⟨_,rfl,rfl⟩⟩
 .split at hs
  .rename_i hk;subst hk;split at hs
   .exact⟨_,hs,aB ht hn htM (λq=>fw (L:= []) hx hy (JT _ _ _ _ _ _ _) rfl h q aF) trivial ⟨_,rfl,rfl⟩⟩
   .exact⟨_,hs,aB ht hn htM (λq=>fw (L:= []) hx hy (JU _ _ _ _ _ _ _) rfl h q aF) trivial ⟨_,rfl,rfl⟩⟩
   .exact⟨_,hs,aB ht hn htM (λq=>fw (L:= []) hx hy (JV _ _ _ _ _ _ _) rfl h q aF) trivial ⟨_,rfl,rfl⟩⟩
   .exact⟨_,hs,aB ht hn htM (λq=>fw (L:= []) hx hy (Ks _ _ _ _ _ _ _) rfl h q aF) trivial ⟨_,rfl,rfl⟩⟩
   .exact⟨_,hs,aB ht hn htM (λq=>fw (L:= []) hx hy (Ol _ _ _ _ _ _ _) rfl h q aF) trivial ⟨_,rfl,rfl⟩⟩
   .exact⟨_,hs,aB ht hn htM (λq=>fw (L:= []) hx hy (Kt _ _ _ _ _ _ _) rfl h q aF) trivial ⟨_,rfl,rfl⟩⟩
   .exact⟨_,hs,aB ht hn htM (λq=>fw (L:= []) hx hy (Ea _ _ _ _ _ _ _) rfl h q aF) trivial ⟨_,rfl,rfl⟩⟩
   .simp only [zbE]at hs;obtain⟨z,h1,h2⟩:=hs;exact⟨_,h2,aB ht hn htM (λq=>fw (L:= []) hx hy (IG h1) rfl h q aF) trivial ⟨_,rfl,rfl⟩⟩
   .simp only [zbE]at hs;obtain⟨z,h1,h2⟩:=hs;exact⟨_,h2,aB ht hn htM (λq=>fw (L:= []) hx hy (IH h1) rfl h q aF) trivial ⟨_,rfl,rfl⟩⟩
   .exact⟨_,hs,cH ht hn htM (λq=>fw (L:= []) hx hy (Kd _ _ _ _ _ _ _) rfl h q aF) (dM (by simp))⟩
   .exact⟨_,hs,cH ht hn htM (λq=>fw (L:= []) hx hy (Ke _ _ _ _ _ _ _) rfl h q aF) (dM (by simp))⟩
   .exact⟨_,hs,cH ht hn htM (λq=>fw (L:= []) hx hy (JZ _ _ _ _ _ _ _) rfl h q aF) (dM (by simp))⟩
   .exact⟨_,hs,cH ht hn htM (λq=>fw (L:= []) hx hy (Ka _ _ _ _ _ _ _) rfl h q aF) (dM (by simp))⟩
   .exact⟨_,hs,cH ht hn htM (λq=>fw (L:= []) hx hy (Kb _ _ _ _ _ _ _) rfl h q aF) (dM (by simp))⟩
   .exact⟨_,hs,cH ht hn htM (λq=>fw (L:= []) hx hy (Kc _ _ _ _ _ _ _) rfl h q aF) (dM (by simp))⟩
   .simp at hs
  .simp at hs
theorem GA{P:Program}{t:TypeId}(hu:P.underlying t=some .bool)(x y:Operand)(a b:Bool):al P (do eqGuard .eql t x y (.bool a) (.bool b);binOp .eql t (.bool a) (.bool b))=some (.bool (a==b))/\al P (do eqGuard .neq t x y (.bool a) (.bool b);binOp .neq t (.bool a) (.bool b))=some (.bool (!(a==b))):=by
 have h0:∀d,al P (Op.equalIn (d+1) t (.bool a) (.bool b))=some (a==b):=λd=>by
  simp only [Op.equalIn,bp,nh hu,zbS];rfl
 have h:al P (Op.equalIn 10000 t (.bool a) (.bool b))=some (a==b):=h0 9999;constructor
 .have h1:al P (eqGuard .eql t x y (.bool a) (.bool b))=some ():=rfl;rw [bp,h1];show al P (binOp .eql t (.bool a) (.bool b))=_;have h2:binOp .eql t (.bool a) (.bool b)=(do pure (.bool (<-Op.equal t (.bool a) (.bool b)))):=rfl;rw [h2,bp];unfold Op.equal Op.maxDepth;rw [h];rfl
 .have h1:al P (eqGuard .neq t x y (.bool a) (.bool b))=some ():=rfl;rw [bp,h1];show al P (binOp .neq t (.bool a) (.bool b))=_;have h2:binOp .neq t (.bool a) (.bool b)=(do pure (.bool (!(<-Op.equal t (.bool a) (.bool b))))):=rfl;rw [h2,bp];unfold Op.equal Op.maxDepth;rw [h];rfl
theorem BT(hG:GOk G E D0){t:TypeId}(h:vE G.ti t=true):E.P.underlying t=some .bool:=by
 unfold vE at h;split at h
 .rename_i i hi;have hu:=hG.ok.ti.und _ _ (hG.ti _ _ hi);split at h
  .rename_i hd;rw [hu,hd]
  .simp at h
 .simp at h
theorem xy{B:BK}{V:Vl}{c:KC}{c':C}{x:Bool}(h:zV c=some x)(hr:RC B V c c'):c'=bC x:=by
 cases c with
 |b v=>cases h;exact hr
 |p tag P d=>cases h;obtain⟨h1,h2⟩:=hr;rw [h1,h2]
 |bv v=>cases h;exact hr
 |_=>simp [zV]at h
theorem IX(hG:GOk G E D0)(hr:Rel F ks V f h)(ht:ks.nx<=tag)(hn:ks.nx<=nid)(htM:tag<M){bop:BinOp}{ty sh:TypeId}{x y:Operand}(hs:bq G F ks tag nid (.binOp bop ty x y sh) κ=some r):∃e,κ e=some r/\bG E n F ks V f h M tag nid (.binOp bop ty x y sh) e:=by
 simp only [bq]at hs;split at hs
 .rename_i a b hx hy;obtain⟨a',x1,x2,x3⟩:=aT hr hx;obtain⟨b',y1,y2,y3⟩:=aT hr hy;unfold Gc at hs;split at hs
  .obtain⟨c1,rfl,e1⟩:=x3;obtain⟨c2,rfl,e2⟩:=y3;rw [show c1=_ from e1]at x1;rw [show c2=_ from e2]at y1;exact IW ht hn htM x1 y1 hs
  .split at hs
   .rename_i z hn1 hel;obtain⟨te,e,zz⟩:=z;obtain⟨t,i2,g1,g2,_⟩:=bL hG hel
    have:=rG hn1
    subst this;obtain⟨c1,rfl,fl,e1,e2⟩:=x3;rw [e1]at x1;simp only [zbE]at hs;obtain⟨c,k1,k2⟩:=hs;unfold oo at k1;split at k1
    .cases k1;exact⟨_,k2,cH ht hn htM (λq=>(vR (bop:= .eql) (L:= []) x1 g1 g2).1 h q aF) (dM (by simp))⟩
    .cases k1;exact⟨_,k2,cH ht hn htM (λq=>(vR (bop:= .eql) (L:= []) x1 g1 g2).2 h q aF) (dM (by simp))⟩
    .simp at k1
   .simp at hs
  .split at hs
   .rename_i z e1 ne l hn1 hel hB;obtain⟨te,e,zz⟩:=z;obtain⟨t,i2,g1,g2,_⟩:=bL hG hel
    have:=rG hn1
    subst this;obtain⟨c1,rfl,e1⟩:=x3;rw [e1 _ _ _ hB]at x1;simp only [zbE]at hs;obtain⟨c,k1,k2⟩:=hs;unfold zU at k1;split at k1
    .cases k1;exact⟨_,k2,aB ht hn htM (λq=>(EA (bop:= .eql) (L:= []) x1 g1 g2).1 h q aF) trivial ⟨_,rfl,rfl⟩⟩
    .cases k1;exact⟨_,k2,aB ht hn htM (λq=>(EA (bop:= .eql) (L:= []) x1 g1 g2).2 h q aF) trivial ⟨_,rfl,rfl⟩⟩
    .simp at k1
   .simp at hs
  .split at hs
   .rename_i z hn1 hel;obtain⟨te,e,zz⟩:=z;obtain⟨t,i2,g1,g2,_⟩:=bL hG hel
    have:=rG hn1
    subst this;obtain⟨c1,rfl,e1⟩:=x3;rw [show c1=_ from e1]at x1;simp only [zbE]at hs;obtain⟨c,k1,k2⟩:=hs;unfold zU at k1;split at k1
    .cases k1;exact⟨_,k2,aB ht hn htM (λq=>(vR (bop:= .eql) (L:= []) x1 g1 g2).1 h q aF) trivial ⟨_,rfl,rfl⟩⟩
    .cases k1;exact⟨_,k2,aB ht hn htM (λq=>(vR (bop:= .eql) (L:= []) x1 g1 g2).2 h q aF) trivial ⟨_,rfl,rfl⟩⟩
    .simp at k1
   .simp at hs
  .rename_i cs ds;split at hs
   .rename_i kinds hk;split at hs
    .rename_i l hz;obtain⟨cs',rfl,e1⟩:=x3;obtain⟨ds',rfl,e2⟩:=y3;obtain⟨p1,p2,p3⟩:=tY hz e1 e2;obtain⟨q1,q2⟩:=hG.eqs _ _ hk x y l p3
     have a1:plain (.agg cs')=some (.agg ((kinds.zip l).map λz=>Value.int z.1 z.2.1).toArray):=by
      show(dp cs').bind (λa=>some (Value.agg a.toArray))=_;rw [p1];rfl
     have a2:plain (.agg ds')=some (.agg ((kinds.zip l).map λz=>Value.int z.1 z.2.2).toArray):=by
      show(dp ds').bind (λa=>some (Value.agg a.toArray))=_;rw [p2];rfl
     simp only [zbE]at hs;obtain⟨c,k1,k2⟩:=hs;unfold oo at k1;split at k1
     .cases k1;exact⟨_,k2,cH ht hn htM (λq=>DR (L:= []) x1 y1 a1 a2 q1 rfl h q aF) rfl⟩
     .cases k1;refine⟨_,k2,cH ht hn htM (λq=>DR (L:= []) x1 y1 a1 a2 q2 rfl h q aF) (dM ?_)⟩
      have:= @decide_eq_true_iff (eqP l) (eqD l)
      by_cases hp:eqP l
      .simp [hp]
      .simp [hp]
     .simp at k1
    .simp at hs
   .simp at hs
  .split at hs
   .rename_i u v hT hu hv;have hb:=GA (BT hG hT) x y u v;obtain⟨c1,rfl,e1⟩:=x3;obtain⟨c2,rfl,e2⟩:=y3;rw [xy hu e1]at x1;rw [xy hv e2]at y1;simp only [zbE]at hs;obtain⟨c,k1,k2⟩:=hs;unfold oo at k1;split at k1
    .cases k1;exact⟨_,k2,cH ht hn htM (λq=>DQ (L:= []) x1 y1 hb.1 rfl h q aF) (dM (by simp))⟩
    .cases k1;exact⟨_,k2,cH ht hn htM (λq=>DQ (L:= []) x1 y1 hb.2 rfl h q aF) (dM (by simp))⟩
    .simp at k1
   .simp at hs
  .simp at hs
 .simp at hs
end
end K
end Ev
end
noncomputable section
namespace Ev
namespace K
open Go Go.RowKit
section
variable {E : Env} {n : Nat} {F : KF} {ks : KS} {V : Vl} {f : Nat → D} {h : ak} {M tag nid : Nat} {op : Op} {G : KG} {D0 : Nat} {R : Type} {κ : KE → Option R} {r : R}
theorem rH{B:BK}{N:Nat}{pl:Nat->Option (Nat×Nat)}:∀{ps:List (Nat×KD)} {ps':List (Nat×D)} {cs cs2:List KC} {cs':List C},xu pl cs ps=some cs2->RCs B V cs cs'->Scs N cs->(∀x∈ps,ScD N x.2)->ps'.map (·.1)=ps.map (·.1)->RDl B V (ps.map (·.2)) (ps'.map (·.2))->∃cs3,fill pl cs' ps'=some cs3/\RCs B V cs2 cs3/\Scs N cs2
 | [],[],cs,cs2,cs',hk,hr,hs,hps,h1,h2=>by
  have:=Option.some.inj (show some cs=some cs2 from hk)
  subst this;exact⟨cs',rfl,hr,hs⟩
 | [],y::ps',cs,cs2,cs',hk,hr,hs,hps,h1,h2=>by simp at h1
 |x::ps,[],cs,cs2,cs',hk,hr,hs,hps,h1,h2=>by simp at h1
 |(i,d)::ps,(j,d')::ps',cs,cs2,cs',hk,hr,hs,hps,h1,h2=>by
  simp only [List.map_cons,List.cons.injEq]at h1;obtain⟨rfl,h1⟩:=h1;obtain⟨d2,s,h3,h4,h5⟩:=h2;simp only [List.map_cons,List.cons.injEq]at h3;obtain⟨rfl,rfl⟩:=h3;simp only [xu]at hk;split at hk
  .rename_i off size c hpl hc;split at hk
   .rename_i hlen;simp only [zbE]at hk;obtain⟨c2,g1,g2⟩:=hk;obtain⟨c',e1,e2,e3⟩:=rF hc (hps (j,d) (by simp)) h4;obtain⟨c3,k1,k2⟩:=hr.patch e2 g1;obtain⟨c4,k3,k4,k5⟩:=rH g2 k2 (tV hs e3 g1) (λx hx=>hps x (by simp [hx])) h1 h5;refine⟨c4,?_,k4,k5⟩;simp only [fill,zbB,hpl,zbS,e1];rw [if_pos (by rw [e2.len];exact hlen),k1];exact k3
   .simp at hk
  .simp at hk
theorem tZ{α:Type}{g g':α->Option (Nat×Nat)}(hg:∀a b,g a=some b->g' a=some b):∀{l:List α} {r:List (Nat×Nat)},kPlaces.seqP (l.map g)=some r->l.mapM g'=some r
 | [],r,hs=>by
  have:=Option.some.inj (show some []=some r from hs)
  subst this;rfl
 |a::l,r,hs=>by
  simp only [List.map_cons]at hs
  cases hga:g a with
  |none=>rw [hga]at hs;simp [kPlaces.seqP]at hs
  |some b=>
   rw [hga]at hs;simp only [kPlaces.seqP,Option.map_eq_some_iff]at hs;obtain⟨r2,h1,rfl⟩:=hs;rw [List.mapM_cons,hg a b hga,tZ hg h1];rfl
theorem xz(hG:GOk G E D0){t:TypeId}{i:TI}{pl:Nat->Option (Nat×Nat)}(hi:ai G.ti t=some i)(hp:kPlaces G.ti t=some pl):kK E.ti i=some pl:=by
 unfold kPlaces at hp;rw [hi]at hp;simp only at hp;unfold kK;split at hp
 .rename_i fs hd;rw [Option.map_eq_some_iff]at hp;obtain⟨l,h1,h2⟩:=hp;rw [hd];simp only
  rw [tZ (g':=λf=>(E.ti f.type).map λi=>(f.offset,i.size)) (λa b hab=>by
   split at hab
   .rename_i q hq;rw [hG.ti _ _ hq];exact hab
   .simp at hab) h1]
  rw [Option.map_some,h2]
 .rename_i m e hd;rw [hd];simp only;split at hp
  .rename_i te hte;rw [hG.ti _ _ hte,Option.map_some];exact hp
  .simp at hp
 .simp at hp
theorem EB(hG:GOk G E D0)(hr:Rel F ks V f h)(ht:ks.nx<=tag)(hn:ks.nx<=nid)(htM:tag<M){t:TypeId}{parts:Array (Nat×Operand)}(hs:bq G F ks tag nid (.build t parts) κ=some r):∃e,κ e=some r/\bG E n F ks V f h M tag nid (.build t parts) e:=by
 simp only [bq]at hs;split at hs
 .rename_i i pl ps hi hpl hps;simp only [zbE]at hs;obtain⟨cs,g1,g2⟩:=hs;obtain⟨ps',e1,e2,e3,e4⟩:=ot hr hps;obtain⟨c3,k1,k2,k3⟩:=rH g1 (jV i.zero) (vM ks.nx i.zero) e2 e3 e4;exact⟨_,g2,aB ht hn htM (λk=>Gj (L:= []) (hG.ti _ _ hi) e1 (xz hG hi hpl) k1 h k aF) k3 ⟨_,rfl,k2⟩⟩
 .simp at hs
theorem EC{te:TI}(hz:te.zero.length=te.size):∀len:Nat,ku te len=(List.replicate len (te.zero.map fF)).flatten:=by
 have hl:(fK te).length=te.size:=by unfold fK;rw [List.length_map,hz]
 intro len;unfold ku;refine List.ext_getElem? λi=> ?_
 induction len generalizing i with
 |zero=>simp
 |succ m ih=>
  have e2:(List.replicate (m+1) (te.zero.map fF)).flatten=(fK te)++(List.replicate m (te.zero.map fF)).flatten:=by rw [List.replicate_succ,List.flatten_cons];rfl
  rw [e2,List.getElem?_append,hl];by_cases hi:i<te.size
  .rw [if_pos hi,List.getElem?_map,List.getElem?_range (by rw [Nat.succ_mul];omega)];simp only [Option.map_some];rw [Nat.mod_eq_of_lt hi,List.getD_eq_getElem?_getD,List.getElem?_eq_getElem (by omega)]
   try rfl
  .rw [if_neg hi,<-ih (i - te.size),List.getElem?_map,List.getElem?_map];by_cases h2:i<(m+1)*te.size
   .have h3:i - te.size<m*te.size:=by rw [Nat.succ_mul]at h2;omega
    rw [List.getElem?_range h2,List.getElem?_range h3];simp only [Option.map_some]
    have:i % te.size=(i - te.size)% te.size:=by
     conv=>lhs;rw [show i=(i - te.size)+te.size by omega,Nat.add_mod_right]
    rw [this]
   .have h3:¬i - te.size<m*te.size:=by rw [Nat.succ_mul]at h2;omega
    rw [List.getElem?_eq_none (by simpa using h2),List.getElem?_eq_none (by simpa using h3)];try rfl
theorem Af{B:BK}{k:List KC}{c:List C}(hr:RCs B V k c):∀m:Nat,RCs B V (List.replicate m k).flatten (List.replicate m c).flatten
 |0=>rfl
 |m+1=>by
  rw [List.replicate_succ,List.replicate_succ,List.flatten_cons,List.flatten_cons];exact hr.append (Af hr m)
theorem IY{N:Nat}{k:List KC}(hs:Scs N k)(m:Nat):Scs N (List.replicate m k).flatten:=λc hc=>by
 obtain⟨l,h1,h2⟩:=List.mem_flatten.1 hc;rw [(List.mem_replicate.1 h1).2]at h2;exact hs c h2
theorem xA{B:BK}{e:Ty}{z:Nat}{cs:List KC}{cs':List C}(hr:RCs B V cs cs'):∀(m i:Nat) {rs:List (List KC)} {l:List e.val},tN z cs m i=some rs->jT e rs=some l->(List.range' i m).mapM (λi=>Ev.cut cs' (i*z) z)=some (l.map (cK e.row))
 |0,i,rs,l,h1,h2=>by
  have:=Option.some.inj (show some []=some rs from h1)
  subst this
  have:=Option.some.inj (show some []=some l from h2)
  subst this;rfl
 |m+1,i,rs,l,h1,h2=>by
  simp only [tN,zbE]at h1;obtain⟨a,g1,l1,g2,g3⟩:=h1
  have:=Option.some.inj g3
  subst this;simp only [jT]at h2;split at h2
  .rename_i hfr;simp only [zbE]at h2;obtain⟨x,k1,l2,k2,k3⟩:=h2
   have:=Option.some.inj k3
   subst this;obtain⟨c2,e1,e2⟩:=hr.cut g1
   have:=jU k1 hfr e2
   subst this;rw [List.range'_succ,List.mapM_cons,e1,xA hr m (i+1) g2 k2];rfl
  .simp at h2
theorem ua{z:Nat}{cs:List KC}:∀(m i:Nat) {rs:List (List KC)},tN z cs m i=some rs->rs.length=m
 |0,i,rs,h1=>by
  have:=Option.some.inj (show some []=some rs from h1)
  subst this;rfl
 |m+1,i,rs,h1=>by
  simp only [tN,zbE]at h1;obtain⟨a,g1,l1,g2,g3⟩:=h1
  have:=Option.some.inj g3
  subst this;rw [List.length_cons,ua m (i+1) g2]
theorem pf{e:Ty}:∀{rs:List (List KC)} {l:List e.val},jT e rs=some l->l.length=rs.length
 | [],l,h2=>by
  have:=Option.some.inj (show some []=some l from h2)
  subst this;rfl
 |c::rs,l,h2=>by
  simp only [jT]at h2;split at h2
  .simp only [zbE]at h2;obtain⟨x,k1,l2,k2,k3⟩:=h2
   have:=Option.some.inj k3
   subst this;rw [List.length_cons,List.length_cons,pf k2]
  .simp at h2
theorem BX(hG:GOk G E D0)(hr:Rel F ks V f h)(ht:ks.nx<=tag)(hn:ks.nx<=nid)(htM:tag<M)(hnM:nid<M){t:TypeId}{len:Nat}{parts:Array (Nat×Operand)}(hs:bq G F ks tag nid (.buildSlice t len parts) κ=some r):∃e,κ e=some r/\bG E n F ks V f h M tag nid (.buildSlice t len parts) e:=by
 simp only [bq]at hs;split at hs
 .rename_i te e z ps hel hps;obtain⟨ti,i2,t1,t2,t3,t4,t5,t6,t7⟩:=bL hG hel;rw [t5]at hs;simp only at hs;split at hs
  .rename_i hz;obtain⟨hz1,hz2⟩:=hz;simp only [zbE]at hs;obtain⟨cs,g1,rs,g2,l,g3,g4⟩:=hs;obtain⟨ps',e1,e2,e3,e4⟩:=ot hr hps;obtain⟨c3,k1,k2,k3⟩:=rH g1 (Af (jV i2.zero) len) (IY (vM ks.nx i2.zero) len) e2 e3 e4;rw [<-EC (hG.ok.ti.zero _ _ t3).2.1]at k1;have k4:=xA k2 len 0 g2 g3;rw [<-List.range_eq_range']at k4;have h0:l.length=len:=(pf g3).trans (ua len 0 g2);refine⟨_,g4,iV (by omega) ht hn (λ_=>⟨trivial,by simp⟩) hnM (by simp) λk=> .inl ⟨trivial,_,_,DV (L:= []) t1 t2 t3 t4 e1 k1 k4 (Nat.ble_eq_true_of_le (by rw [Nat.mul_comm];omega)) h k aF,⟨_,rfl,?_⟩,?_,?_⟩⟩
   .intro e' ne l' hl';unfold Be blE blU at hl';simp only [fj (show KB.rows e (Nat.blt 0 len) l≠ .dead by simp),if_true,zsI,KB.rows.injEq]at hl';obtain⟨rfl,rfl,hl'⟩:=hl';rw [<-eq_of_heq hl',h0,Vl.set_id]
   .rw [hz1]
   .intro hb he;rw [he]at h0
    have:(0:Nat)<len:=by simpa using hb
    simp at h0;omega
  .simp at hs
 .simp at hs
theorem ez{e:Ty}{ne:Bool}{l:List e.val}{d:KD}{V:Vl}{k tag:Nat}{bo:Bool}{u:Option (Nat×KB)}:RC (Be F ks nid ⟨d,u,some (.rows e ne l)⟩) (V.set nid k tag bo) (.o e nid) (.own k 0 l.length):=by
 intro e' ne' l' hl';unfold Be blE at hl';simp only [fj (show KB.rows e ne l≠ .dead by simp),if_true,zsI,KB.rows.injEq]at hl';obtain⟨rfl,rfl,hl'⟩:=hl';rw [<-eq_of_heq hl',Vl.set_id]
theorem cZ{e:Ty}{l:List e.val}{d:KD}{V:Vl}{k tag:Nat}{bo:Bool}{u:Option (Nat×KB)}:RC (Be F ks nid ⟨d,u,some (.mrows e l)⟩) (V.set nid k tag bo) (.m e nid) (moC l k):=by
 intro e' l' hl';unfold Be blE at hl';simp only [fj (show KB.mrows e l≠ .dead by simp),if_true,zsI,KB.mrows.injEq]at hl';obtain⟨rfl,hl'⟩:=hl';rw [<-eq_of_heq hl',Vl.set_id]
theorem vS(hG:GOk G E D0)(hr:Rel F ks V f h)(ht:ks.nx<=tag)(hn:ks.nx<=nid)(htM:tag<M)(hnM:nid<M){t:TypeId}{l c:Operand}(hs:bq G F ks tag nid (.makeSlice t l c) κ=some r):∃e,κ e=some r/\bG E n F ks V f h M tag nid (.makeSlice t l c) e:=by
 simp only [bq]at hs;split at hs
 .rename_i te e z ki i kj j hel hl hc;obtain⟨ti,i2,t1,t2,t3,t4,t5,t6,t7⟩:=bL hG hel;rw [t5]at hs;simp only at hs;split at hs
  .rename_i hz;obtain⟨hz1,hz2⟩:=hz;simp only [zbE]at hs;obtain⟨u0,g0,u,g1,x,g2,g3⟩:=hs;obtain⟨b1,b2⟩:=yN g1;have hcp:=yL g0;obtain⟨dl,l1,l2,c1,rfl,lc⟩:=aT hr hl;obtain⟨dc,l3,l4,c2,rfl,lc2⟩:=aT hr hc;rw [show c1=_ from lc]at l1;rw [show c2=_ from lc2]at l3
   have hrow:fK i2=cK e.row x:=by
    have hf:(i2.zero.map kC).all frC=true:=List.all_eq_true.2 λc hc=>by
     obtain⟨v,_,rfl⟩:=List.mem_map.1 hc;unfold kC;split<;>rfl
    exact jU (B:=noB) (V:=V) g2 hf (jV i2.zero)
   refine⟨_,g3,iV (by omega) ht hn (λ_=>⟨trivial,by simp⟩) hnM (by simp) λk=> .inl ⟨trivial,_,_,Gk (L:= []) (r:=cK e.row) t1 t2 t3 l1 l3 b1 (by rcases hcp with hij|⟨hij,_⟩<;>omega) (by rcases hcp with hij|⟨_,hij⟩;rw [<-hij];exact b2;exact hij) hrow t4 h k aF,⟨_,rfl,ez⟩,?_,by simp⟩⟩;rw [hz1]
  .simp at hs
 .simp at hs
theorem lN(hr:Rel F ks V f h){o:Option Operand}{m:Nat}{i:Int}(hk:rq F ks o ((m:Nat):Int)=some i)(h0:0<=i):de (ov F.nt f) o m=some i.toNat:=by
 cases o with
 |none=>
  have:=Option.some.inj (show some ((m:Nat):Int)=some i from hk)
  subst this;exact Gl m
 |some x=>
  simp only [rq]at hk;split at hk
  .rename_i k j hx
   have:=Option.some.inj hk
   subst this;obtain⟨d,g1,g2,c,rfl,g3⟩:=aT hr hx;rw [show c=_ from g3]at g1;exact Gm g1 h0 m
  .simp at hk
theorem ED(hG:GOk G E D0)(hr:Rel F ks V f h)(ht:ks.nx<=tag)(hn:ks.nx<=nid)(htM:tag<M){t:TypeId}{x:Operand}{lo hi mx:Option Operand}(hs:bq G F ks tag nid (.slice t x lo hi mx) κ=some r):∃e,κ e=some r/\bG E n F ks V f h M tag nid (.slice t x lo hi mx) e:=by
 simp only [bq]at hs;split at hs
 .rename_i te e z e' fr s hnh hel hx;obtain⟨ti,i2,t1,t2,t3,t4,t5,t6,t7⟩:=bL hG hel;split at hs
  .rename_i i j m hi hj hm;obtain⟨hs,hcm⟩:=BP hs;simp only [zbE]at hs;obtain⟨s',g1,g2⟩:=hs;obtain⟨d,l1,l2,c,rfl,fl,lc,lc2⟩:=aT hr hx;rw [lc]at l1;subst t4;obtain⟨⟨b1,b2,b3,b4⟩,_⟩:=tL g1
   have hmm:j<=m/\m<=(s.l.length:Int):=by
    cases mx with
    |none=>have:=Option.some.inj (show some ((s.l.length:Nat):Int)=some m from hm);omega
    |some z=>exact hcm rfl
   exact⟨_,g2,aB ht hn htM (λk=>Eb (L:= []) (r:=e'.row) g1 l1 t1 t2 t3 (lN hr (m:=0) hi b1) (lN hr hj (by omega)) (lN hr hm (by omega)) hnh (by omega) (by omega) h k aF) trivial ⟨_,rfl,fl,rfl,lc2⟩⟩
  .simp at hs
 .simp at hs
theorem vT(hG:GOk G E D0)(hr:Rel F ks V f h)(ht:ks.nx<=tag)(hn:ks.nx<=nid)(htM:tag<M){t:TypeId}{x ix:Operand}(hs:bq G F ks tag nid (.indexAddr t x ix) κ=some r):∃e,κ e=some r/\bG E n F ks V f h M tag nid (.indexAddr t x ix) e:=by
 simp only [bq]at hs;split at hs
 .rename_i e fr s k i hx hi;obtain⟨d,l1,l2,c,rfl,fl,lc,lc2⟩:=aT hr hx;obtain⟨d2,l3,l4,c2,rfl,lc3⟩:=aT hr hi;rw [lc]at l1;rw [show c2=_ from lc3]at l3;split at hs
  .rename_i te e2 z hel;obtain⟨ti,i2,t1,t2,t3,t4,t5,t6,t7⟩:=bL hG hel;simp only [zbE]at hs;obtain⟨y,g1,g2⟩:=hs;obtain⟨b1,b2,b3⟩:=DO g1;subst b2;exact⟨_,g2,aB ht hn htM (λk=>Kk (L:= []) (r:=e.row) l1 l3 b1 b3 t6 h k aF) trivial ⟨_,rfl,fl,rfl,b3,lc2⟩⟩
  .simp at hs
 .rename_i e p k i hx hi;obtain⟨d,l1,l2,c,rfl,lc⟩:=aT hr hx;obtain⟨d2,l3,l4,c2,rfl,lc3⟩:=aT hr hi;rw [show c2=_ from lc3]at l3;split at hs
  .rename_i te e2 z e' ne l hel hB;split at hs
   .rename_i hz;subst hz;obtain⟨ti,i2,t1,t2,t3,t4,t5,t6,t7⟩:=bL hG hel;simp only [zbE]at hs;obtain⟨y,g1,g2⟩:=hs;rw [lc _ _ _ hB]at l1;obtain⟨b1,b2⟩:=nf g1;obtain⟨b3,b4,b5,b6⟩:=hr.bl p _ hB;exact⟨_,g2,aB ht hn htM (λk=>GX (L:= [[(V.id p,_,_)]]) (r:=cK _) 0 l1 l3 b1 b2 rfl t6 h k (fh b5)) l2 ⟨_,rfl,b1,rfl⟩⟩
   .simp at hs
  .simp at hs
 .rename_i e p k i hx hi;obtain⟨d,l1,l2,c,rfl,lc⟩:=aT hr hx;obtain⟨d2,l3,l4,c2,rfl,lc3⟩:=aT hr hi;rw [show c2=_ from lc3]at l3;split at hs
  .rename_i te e2 z e' l hel hB;split at hs
   .rename_i hz;subst hz;obtain⟨ti,i2,t1,t2,t3,t4,t5,t6,t7⟩:=bL hG hel;simp only [zbE]at hs;obtain⟨y,g1,g2⟩:=hs;rw [lc _ _ hB]at l1;have hne:=vP g1;obtain⟨b1,b2⟩:=nf g1;obtain⟨b3,b4,b5⟩:=hr.bl p _ hB;have b5:=b5 hne;rw [show moC l (V.id p)= .own (V.id p) 0 l.length by cases l with|nil=>exact absurd rfl hne|cons a l=>rfl]at l1;exact⟨_,g2,aB ht hn htM (λk=>GX (L:= [[(V.id p,_,_)]]) (r:=cK _) 0 l1 l3 b1 b2 rfl t6 h k (fh b5)) l2 ⟨_,rfl,b1,rfl⟩⟩
   .simp at hs
  .simp at hs
 .rename_i p j k a hx hi;obtain⟨d,l1,l2,c,rfl,lc⟩:=aT hr hx;obtain⟨d2,l3,l4,c2,rfl,lc3⟩:=aT hr hi;rw [show c=_ from lc]at l1;rw [show c2=_ from lc3]at l3;split at hs
  .rename_i ti hti;split at hs
   .rename_i m e hd;split at hs
    .rename_i te hte;split at hs
     .rename_i hlt;exact⟨_,hs,aB ht hn htM (λk=>Ku (L:= []) (hG.ti _ _ hti) hd (hG.ti _ _ hte) rfl l1 l3 (yW hlt) h k aF) l2 ⟨_,rfl,rfl⟩⟩
     .simp at hs
    .simp at hs
   .simp at hs
  .simp at hs
 .rename_i e fr s i y j k a hx hi;obtain⟨d,l1,l2,c,rfl,fl,lc,lc2⟩:=aT hr hx;obtain⟨d2,l3,l4,c2,rfl,lc3⟩:=aT hr hi;rw [lc]at l1;rw [show c2=_ from lc3]at l3;split at hs
  .rename_i ti hti;split at hs
   .rename_i m e' hd;split at hs
    .rename_i te hte;split at hs
     .rename_i hlt;exact⟨_,hs,aB ht hn htM (λk=>q_ixAI (hG.ti _ _ hti) hd (hG.ti _ _ hte) l1 l3 hlt k) trivial ⟨_,rfl,fl,rfl,lc2⟩⟩
     .simp at hs
    .simp at hs
   .simp at hs
  .simp at hs
 .simp at hs
where
 q_ixAI {ty e:TypeId} {t te:TI} {m:Nat} {x ix:Operand} {fr fb:Bool} {kb:IntKind} {sz i j a:Nat} {l:List (List T)} (ht:E.ti ty=some t) (hd:t.desc= .array m e) (hte:E.ti e=some te) (hx:ov F.nt f x=some (.one (.iptr fr sz l i j))) (hi:ov F.nt f ix=some (.one (.p fb (.v (.int kb (a:Int)))))) (ha:a<m) (nid:Nat):stepG E (cpR E n) none nid (.indexAddr ty x ix) (aE (tab F.nt f)) h=some ⟨.one (.iptr fr sz l i (j+a*te.size)),[]⟩:=by
  rw [pU,bm,hx,bm,hi];refine Eq.trans (b:=xl E.ti ty h a (.one (.iptr fr sz l i j))) rfl ?_
  show((E.ti ty).bind λt=>match t.desc with
   | .array n e=>(E.ti e).bind λte=>if a<n then some (⟨.one (.iptr fr sz l i (j+a*te.size)),[]⟩:Eff)else none
   |_=>none)=_
  rw [ht];simp only [zbS,hd,hte];rw [if_pos ha]
theorem EE(hG:GOk G E D0)(hr:Rel F ks V f h)(ht:ks.nx<=tag)(hn:ks.nx<=nid)(htM:tag<M){t:TypeId}{x ix:Operand}(hs:bq G F ks tag nid (.index t x ix) κ=some r):∃e,κ e=some r/\bG E n F ks V f h M tag nid (.index t x ix) e:=by
 simp only [bq]at hs;split at hs
 .rename_i ti cs k a hti hx hi;obtain⟨d,l1,l2,c,rfl,lc⟩:=aT hr hx;obtain⟨d2,l3,l4,c2,rfl,lc3⟩:=aT hr hi;rw [show c2=_ from lc3]at l3;split at hs
  .rename_i m e hd;split at hs
   .rename_i te hte;split at hs
    .rename_i hlt;simp only [zbE]at hs;obtain⟨d2,⟨cs2,g1,g2⟩,g3⟩:=hs;obtain⟨c2,g8,g9⟩:=lc.cut g1;obtain⟨d3,k1,k2,k3⟩:=dZ g2 (fp l2 g1) g9;refine⟨_,g3,aB ht hn htM (λk=> ?_) k3 k2⟩
     show((E.ti t).bind λt'=>(ay (aE (tab F.nt f)) ix).bind λdi=>(eC di).bind λi=>(ay (aE (tab F.nt f)) x).bind λdx=>match dx with
      | .agg cs=>match t'.desc with
       | .array n e=>(E.ti e).bind λte=>if i<n then(Ev.cut cs (i*te.size) (if aH te.desc then te.size else 1)).bind λc=>(bR (aH te.desc) c).bind λv=>some (⟨v,[]⟩:Eff)else none
       |_=>none
      |_=>none)=_
     rw [hG.ti _ _ hti,bm,bm,l3,l1];simp only [zbS];rw [show eC (.one (iC _ (Int.ofNat a)))=some a from rfl];simp only [zbS,hd,hG.ti _ _ hte];rw [if_pos hlt]
     have hc':Ev.cut c (a*te.size) (if aH te.desc then te.size else 1)=some c2:=by
      rw [<-g8];unfold wd;cases aH te.desc<;>rfl
     rw [hc'];simp only [zbS,k1]
    .simp at hs
   .simp at hs
  .simp at hs
 .simp at hs
theorem ub(hr:Rel F ks V f h):∀{l:List Operand} {ds:List KD} {ps:List Nat},fJ F ks l=some ds->zW ds=some ps->vC F.nt f l=some (ps.map λp=> .ptr (V.id p) 0 0)/\∀p∈ps,p<ks.nx
 | [],ds,ps,h1,h2=>by
  have:=Option.some.inj (show some []=some ds from h1)
  subst this
  have:=Option.some.inj (show some []=some ps from h2)
  subst this;exact⟨rfl,by simp⟩
 |x::l,ds,ps,h1,h2=>by
  simp only [fJ,zbE]at h1;obtain⟨d,g1,r,g2,g3⟩:=h1
  have:=Option.some.inj g3
  subst this;unfold zW at h2;split at h2
  .rename_i heq;simp at heq
  .rename_i p j r' heq;cases heq;split at h2
   .rename_i hj;subst hj;rw [Option.map_eq_some_iff]at h2;obtain⟨ps2,k1,rfl⟩:=h2;obtain⟨e1,e2⟩:=ub hr g2 k1;obtain⟨d',f1,f2,c,rfl,f3⟩:=aT hr g1;refine⟨?_,λq hq=>by rcases List.mem_cons.1 hq with rfl|hq;exact f2;exact e2 q hq⟩;unfold vC at e1 ⊢;rw [List.mapM_cons,e1,f1,show c=_ from f3];rfl
   .simp at h2
  .simp at h2
theorem xB(hr:Rel F ks V f h)(ht:ks.nx<=tag)(hn:ks.nx<=nid)(htM:tag<M){fn:Fn}{first cap:Array Operand}(hs:bq G F ks tag nid (.makeFunc fn first cap) κ=some r):∃e,κ e=some r/\bG E n F ks V f h M tag nid (.makeFunc fn first cap) e:=by
 simp only [bq]at hs;split at hs
 .rename_i k ps hf hcap;simp only [zbE]at hcap;obtain⟨ds,g1,g2⟩:=hcap;obtain⟨e1,e2⟩:=ub hr g1 g2;exact⟨_,hs,aB ht hn htM (λq=>Gp (L:= []) (fs:= []) (by rw [hf];rfl) e1 h q aF) e2 ⟨_,rfl,rfl⟩⟩
 .simp at hs
end
end K
end Ev
end
noncomputable section
namespace Ev
namespace K
open Go Go.RowKit
section
variable {E : Env} {n : Nat} {F : KF} {ks : KS} {V : Vl} {f : Nat → D} {h : ak} {M tag nid : Nat} {op : Op} {G : KG} {D0 : Nat} {R : Type} {κ : KE → Option R} {r : R}
theorem EF{l:List Operand}{d:KD}(hk:fJ F ks l=some [d]):∃a,l= [a]/\kO F ks a=some d:=by
 cases l with
 |nil=>simp [fJ]at hk
 |cons a l=>
  simp only [fJ,zbE]at hk;obtain⟨x,h1,s,h2,h3⟩:=hk
  have:=Option.some.inj h3
  simp only [List.cons.injEq]at this;obtain⟨rfl,rfl⟩:=this
  cases l with
  |nil=>exact⟨a,rfl,h1⟩
  |cons b l=>
   simp only [fJ,zbE]at h2;obtain⟨y,_,t,_,h4⟩:=h2;simp at h4
theorem vU{l:List Operand}{d e:KD}(hk:fJ F ks l=some [d,e]):∃a b,l= [a,b]/\kO F ks a=some d/\kO F ks b=some e:=by
 cases l with
 |nil=>simp [fJ]at hk
 |cons a l=>
  simp only [fJ,zbE]at hk;obtain⟨x,h1,s,h2,h3⟩:=hk
  have:=Option.some.inj h3
  simp only [List.cons.injEq]at this;obtain⟨rfl,rfl⟩:=this;obtain⟨b,rfl,h4⟩:=EF h2;exact⟨a,b,rfl,h1,h4⟩
theorem ou{fl:Bool}:∀{e:Ty} (y:e.val),e.plain=true->(e.row y).map (pC fl)=(e.row y).map (pC true)
 | .I _,_,_=>rfl
 | .B,_,_=>rfl
 | .S _,_,hp=>by simp [Ty.plain]at hp
 | .U,_,_=>rfl
 | .C a b,x,hp=>by
  simp only [Ty.plain,Bool.and_eq_true]at hp;show(a.row x.1++b.row x.2).map _=(a.row x.1++b.row x.2).map _;rw [List.map_append,List.map_append,ou x.1 hp.1,ou x.2 hp.2]
theorem rI(hr:Rel F ks V f h){e:Ty}{x:KC}{xs:List e.val}{ne:Bool}{c:C}(hk:vG F ks e x=some (xs,ne))(hc:RC (am F ks) V x c):gz h (.one c)=some (xs.map (cK e.row))/\(ne=true->xs≠[]):=by
 unfold vG at hk;split at hk
 .simp only [zsI,Prod.mk.injEq]at hk;obtain⟨rfl,rfl⟩:=hk;rw [show c=_ from hc];exact⟨rfl,by simp⟩
 .rename_i e' fr s;split at hk
  .rename_i hp;simp only [Option.map_eq_some_iff,Prod.mk.injEq]at hk;obtain⟨y,h1,rfl,rfl⟩:=hk;obtain⟨he,h2⟩:=aQ h1;cases he;obtain⟨fl,h3,h4⟩:=hc;refine⟨?_,by simp⟩;rw [h3,<-h2];show some ((s.l.map e.row).map (·.map (pC fl)))=_;rw [List.map_map];congr 1;refine List.map_congr_left λy _=> ?_;show(e.row y).map (pC fl)=(e.row y).map (pC true);rw [Bool.or_eq_true]at hp;rcases hp with hp|hp
   .rw [h4 hp]
   .exact ou y hp
  .simp at hk
 .rename_i e' p;split at hk
  .rename_i e2 ne2 l hB;simp only [Option.map_eq_some_iff,Prod.mk.injEq]at hk;obtain⟨y,h1,rfl,rfl⟩:=hk;obtain⟨he,h2⟩:=aQ h1;cases he;obtain⟨g1,g2,g3,g4⟩:=hr.bl p _ hB;rw [hc _ _ _ hB,<-h2];exact⟨zS (L:= [[(V.id p,_,_)]]) (r:=cK _) 0 rfl h (fh g3),g4⟩
  .simp at hk
 .rename_i e' p;split at hk
  .rename_i e2 l hB;simp only [Option.map_eq_some_iff,Prod.mk.injEq]at hk;obtain⟨y,h1,rfl,rfl⟩:=hk;obtain⟨he,h2⟩:=aQ h1;cases he;obtain⟨g1,g2,g3⟩:=hr.bl p _ hB;rw [hc _ _ hB,<-h2];refine⟨?_,by simp⟩
   cases l with
   |nil=>rfl
   |cons a l=>exact zS (L:= [[(V.id p,_,_)]]) (r:=cK _) 0 rfl h (fh (g3 (by simp)))
  .simp at hk
 .simp at hk
theorem rJ{d:KD}{b b0:KB}{p:Nat}(hM:ks.nx<=M)(hp:ai ks.bl p=some b0)(h0:b0≠ .dead)(hb:ScB ks.nx b/\b≠ .dead)(hbt:b.there)(hd:ScD M d)(hnb:∀x,d≠ .one (.bv x))
  (hv:∀k,∃v x uo,(uo= [(V.id p,Blk.dead)]/\b0.there∨uo= []/\¬b0.there)/\stepG E (cpR E n) none k op (aE (tab F.nt f)) h=some ⟨v,uo++ [(k,x)]⟩/\RD (Be F ks nid ⟨d,some (p,.dead),some b⟩) (V.set nid k tag false) d v/\BlkIs (Be F ks nid ⟨d,some (p,.dead),some b⟩) (V.set nid k tag false) x b):bG E n F ks V f h M tag nid op ⟨d,some (p,.dead),some b⟩:=by
 refine⟨λp' b' hb'=>by simp at hb';obtain⟨rfl,rfl⟩:=hb';exact⟨b0,hp,h0,trivial,trivial⟩,λb' hb'=>by simp at hb';subst hb';exact hb,by rw [fy hnb];exact hd,false,λk=> ?_⟩;obtain⟨v,x,uo,h0,h1,h2,h3⟩:=hv k;refine⟨v,_,h1,by rw [fy hnb];exact h2,⟨uo,_,rfl,?_,.inl ⟨x,rfl,h3,hbt⟩⟩⟩;rcases h0 with⟨rfl,ht⟩|⟨rfl,ht⟩
 .exact .inl ⟨.dead,rfl,rfl,λb1 hb1=>by rw [hp]at hb1;cases hb1;exact ht⟩
 .exact .inr ⟨rfl,id,λb1 hb1=>by rw [hp]at hb1;cases hb1;exact ht⟩
theorem Ag{α:Type}{l m:List α}(h:app [] l=some m):m=l/\l.length<=eh:=by
 obtain⟨h1,h2⟩:=ng h;exact⟨by simpa using h2,by simpa using h1⟩
theorem IZ{c:Call}{a x:Operand}{ty ty1 z e1:TypeId}{t1:TI}{fr:Bool}{bz n:Nat}{h:ak}{d:D}{xs:List (List C)}(ha:ov F.nt f a=some (.one (.p fr (.s false bz []))))(hx:ov F.nt f x=some d)(hxs:gz h d=some xs)(hne:∃y ys,xs=y::ys)(hb:xs.length<=eh)(hall:xs.all (·.length==z)=true)(hz:eQ E.ti ty=some z)(ht1:E.ti ty1=some t1)(he1:aP t1=some e1)
  (hc:c.callee= .builtin .append) (hargs:c.args.toList= [a,x]) (hty:c.argTypes[0]? =some ty) (hty1:c.argTypes[1]? =some ty1) (nid:Nat):stepG E (cpR E n) none nid (.call c) (aE (tab F.nt f)) h=some ⟨.one (.own nid 0 xs.length),[(nid,.own z xs)]⟩:=by
 obtain⟨t,e,te,g1,g2,g3,g4⟩:=gL hz;have h1:aV (.call c)=none:=by unfold aV;simp only [hc]
 rw [lI,h1];unfold sem pG;simp only [hc,hty,g1,hargs,fe,zbB,zbS,List.mapM_cons,List.mapM_nil,ha,hx,Option.pure_def,g2,g3,hty1,ht1,he1,g4];unfold Ev.append;simp only [hxs,zbB,zbS];obtain⟨y,ys,rfl⟩:=hne;rw [if_neg (by simp),if_neg (by simp),if_pos hb,if_pos hall]
theorem Ah{c:Call}{a x:Operand}{ty ty1 z e1:TypeId}{t1:TI}{fr:Bool}{bz n:Nat}{h:ak}{d:D}(ha:ov F.nt f a=some (.one (.p fr (.s false bz []))))(hx:ov F.nt f x=some d)(hxs:gz h d=some [])(hz:eQ E.ti ty=some z)(ht1:E.ti ty1=some t1)(he1:aP t1=some e1)
  (hc:c.callee= .builtin .append) (hargs:c.args.toList= [a,x]) (hty:c.argTypes[0]? =some ty) (hty1:c.argTypes[1]? =some ty1) (nid:Nat):stepG E (cpR E n) none nid (.call c) (aE (tab F.nt f)) h=some ⟨.one (.p fr (.s false bz [])),[]⟩:=by
 obtain⟨t,e,te,g1,g2,g3,g4⟩:=gL hz;have h1:aV (.call c)=none:=by unfold aV;simp only [hc]
 rw [lI,h1];unfold sem pG;simp only [hc,hty,g1,hargs,fe,zbB,zbS,List.mapM_cons,List.mapM_nil,ha,hx,Option.pure_def,g2,g3,hty1,ht1,he1,g4];unfold Ev.append;simp only [hxs,zbB,zbS];rw [if_neg (by simp),if_pos (show([]:List (List C)).length=0 from rfl)]
theorem EG{e:Ty}{c:Call}{a x:Operand}{ty ty1 e1:TypeId}{t1:TI}{k n:Nat}{h:ak}{l xs lm:List e.val}{d:D}(ha:ov F.nt f a=some (.one (.own k 0 l.length)))(hx:ov F.nt f x=some d)(hxs:gz h d=some (xs.map (cK e.row)))(hb:ao h k=some (e.size,l.map (cK e.row)))(hlm:app l xs=some lm)(hz:eQ E.ti ty=some e.size)(ht1:E.ti ty1=some t1)(he1:aP t1=some e1)
  (hc:c.callee= .builtin .append) (hargs:c.args.toList= [a,x]) (hty:c.argTypes[0]? =some ty) (hty1:c.argTypes[1]? =some ty1) (hz0:Nat.beq e.size 0=false) (nid:Nat):stepG E (cpR E n) none nid (.call c) (aE (tab F.nt f)) h=some ⟨.one (.own nid 0 lm.length),[(k,.dead)]++ [(nid,.own e.size (lm.map (cK e.row)))]⟩:=by
 obtain⟨t,e2,te,g1,g2,g3,g4⟩:=gL hz;obtain⟨hbd,rfl⟩:=ng hlm;have h1:aV (.call c)=none:=by unfold aV;simp only [hc]
 rw [lI,h1];unfold sem pG;simp only [hc,hty,g1,hargs,fe,zbB,zbS,List.mapM_cons,List.mapM_nil,ha,hx,Option.pure_def,g2,g3,hty1,ht1,he1,g4];unfold Ev.append;simp only [hxs,zbB,zbS,hb];rw [if_pos ⟨trivial,by simp,by simpa using hbd,trivial,by simp [rE],Nat.ne_of_beq_eq_false hz0⟩];simp
theorem BY(hG:GOk G E D0)(hr:Rel F ks V f h)(ht:ks.nx<=tag)(hn:ks.nx<=nid)(htM:tag<M)(hnM:nid<M){c:Call}{a x:Operand}{ty ty1 te z:Nat}{e:Ty}{ka kx:KC}{z1:TypeId×Ty×Nat}(hc:c.callee= .builtin .append)(hargs:c.args.toList= [a,x])(hty:c.argTypes[0]? =some ty)(hel:G.elem ty=some (te,e,z))(hel1:(c.argTypes[1]?).bind G.elem=some z1)(hz:e.size=z)(hz0:z≠0)(ha:kO F ks a=some (.one ka))(hx:kO F ks x=some (.one kx))(hs:vH F ks nid e ka kx κ=some r):∃eff,κ eff=some r/\bG E n F ks V f h M tag nid (.call c) eff:=by
 have hM:ks.nx<=M:=by omega
 obtain⟨ti,i2,t1,t2,t3,t4,t5,t6,t7⟩:=bL hG hel;rw [zbE]at hel1;obtain⟨ty1,hty1,hel1⟩:=hel1;obtain⟨te1,e1,zz1⟩:=z1;obtain⟨ti1,i21,s1,s2,_⟩:=bL hG hel1;obtain⟨da,a1,a2,ca,rfl,a3⟩:=aT hr ha;obtain⟨dx,x1,x2,cx,rfl,x3⟩:=aT hr hx
 have hz0':Nat.beq z 0=false:=by cases hb:Nat.beq z 0 with|true=>exact absurd (Nat.eq_of_beq_eq_true hb) hz0|false=>rfl
 unfold vH at hs;split at hs
 .simp at hs
 .rename_i xs ne hxs;obtain⟨hel2,hne⟩:=rI hr hxs x3
  -- what is appended,in any heap that agrees
  have key0:∀{fr:Bool} {bz:Nat},ov F.nt f a=some (.one (.p fr (.s false bz [])))->∀(y:e.val) (ys:List e.val),xs=y::ys->xs.length<=eh->∀k,stepG E (cpR E n) none k (.call c) (aE (tab F.nt f)) h=some ⟨.one (.own k 0 xs.length),[(k,.own z (xs.map (cK e.row)))]⟩:=by
   intro fr bz ha y ys he hb k
   have:=IZ (n:=n) (h:=h) ha x1 hel2 ⟨cK e.row y,ys.map (cK e.row),by rw [he];rfl⟩ (by simpa using hb) (by simp [rE,hz]) t6 s1 s2 hc hargs hty hty1 k
   rw [List.length_map]at this;exact this
  split at hs
  ·-- to nothing
   simp only [zbE]at hs;obtain⟨lm,g1,g2⟩:=hs;obtain⟨rfl,hb⟩:=Ag g1;rw [show ca=_ from a3]at a1
   cases ne with
   |true=>
    have hx0:=hne rfl
    match lm,hx0 with
    |y::ys,_=>
     refine⟨_,g2,iV hM ht hn (λ_=>⟨trivial,by simp⟩) hnM (by simp) λk=> .inl ⟨trivial,_,_,key0 a1 y ys rfl hb k,⟨_,rfl,ez⟩,by rw [<-hz],by simp⟩⟩
   |false=>
    refine⟨_,g2,iV hM ht hn (λ_=>⟨trivial,by simp⟩) hnM (by simp) λk=> ?_⟩
    match lm with
    | []=>
     refine .inr ⟨by simp [KB.there],_,Ah (n:=n) a1 x1 hel2 t6 s1 s2 hc hargs hty hty1 k,⟨_,rfl,?_⟩⟩;exact cZ (k:=k)
    |y::ys=>
     refine .inl ⟨by simp [KB.there],_,_,key0 a1 y ys rfl hb k,⟨_,rfl,?_⟩,by rw [<-hz];rfl⟩;exact cZ (k:=k)
  ·-- to rows
   rename_i e' p;split at hs
   .rename_i e2 ne2 l hp;simp only [zbE]at hs;obtain⟨l2,g0,lm,g1,g2⟩:=hs;obtain⟨he,g0⟩:=aQ g0;cases he;subst g0;have hB:=ah (F:=F) hp (by simp);obtain⟨b1,b2,b3,b4⟩:=hr.bl p _ hB;rw [a3 _ _ _ hB]at a1;subst hz;refine⟨_,g2,rJ hM hp (by simp) ⟨trivial,by simp⟩ trivial hnM (by simp) λk=>⟨_,_,_,.inl ⟨rfl,trivial⟩,?_,⟨_,rfl,ez⟩,rfl,λhne2=> ?_⟩⟩
    .exact EG (n:=n) (h:=h) a1 x1 hel2 b3 g1 t6 s1 s2 hc hargs hty hty1 hz0' k
    .obtain⟨_,rfl⟩:=ng g1;rw [Bool.or_eq_true]at hne2;rcases hne2 with h1|h1
     .intro he;exact hne h1 (List.append_eq_nil_iff.1 he).2
     .intro he;exact b4 h1 (List.append_eq_nil_iff.1 he).1
   .simp at hs
  .rename_i e' p;split at hs
   .rename_i e2 l hp;simp only [zbE]at hs;obtain⟨l2,g0,lm,g1,g2⟩:=hs;obtain⟨he,g0⟩:=aQ g0;cases he;subst g0;have hB:=ah (F:=F) hp (by simp);obtain⟨b1,b2,b3⟩:=hr.bl p _ hB;rw [a3 _ _ hB]at a1;subst hz
    match l,b3,a1,g1,hp,hB with
    | [],b3,a1,g1,hp,hB=>
     obtain⟨rfl,hb⟩:=Ag g1
     cases ne with
     |true=>
      have hx0:=hne rfl
      match lm,hx0 with
      |y::ys,_=>
       refine⟨_,g2,rJ hM hp (by simp) ⟨trivial,by simp⟩ trivial hnM (by simp) λk=>⟨_,_,_,.inr ⟨rfl,by simp [KB.there]⟩,?_,⟨_,rfl,ez⟩,rfl,by simp⟩⟩;exact key0 a1 y ys rfl hb k
     |false=>
      match lm with
      | []=>
       refine⟨_,g2,?_⟩;refine⟨λp' b' hb'=>by simp at hb';obtain⟨rfl,rfl⟩:=hb';exact⟨_,hp,by simp,trivial,trivial⟩,λb' hb'=>by simp at hb';subst hb';exact⟨trivial,by simp⟩,hnM,false,λk=>⟨_,_,Ah (n:=n) a1 x1 hel2 t6 s1 s2 hc hargs hty hty1 k,⟨_,rfl,?_⟩,⟨[],[],rfl,.inr ⟨rfl,id,λb1 hb1=>by rw [hp]at hb1;cases hb1;simp [KB.there]⟩,.inr ⟨rfl,by simp [KB.there]⟩⟩⟩⟩;exact cZ (k:=k)
      |y::ys=>
       refine⟨_,g2,rJ hM hp (by simp) ⟨trivial,by simp⟩ (by simp [KB.there]) hnM (by simp) λk=>⟨.one (.own k 0 (y::ys).length),_,_,.inr ⟨rfl,by simp [KB.there]⟩,key0 a1 y ys rfl hb k,⟨_,rfl,cZ (k:=k)⟩,rfl⟩⟩
    |q::l,b3,a1,g1,hp,hB=>
     have b3:=b3 (by simp);have hlm:lm≠[]:=by obtain⟨_,rfl⟩:=ng g1;simp
     have hst:=EG (n:=n) (h:=h) (l:=q::l) a1 x1 hel2 b3 g1 t6 s1 s2 hc hargs hty hty1 hz0'
     cases ne with
     |true=>
      refine⟨_,g2,rJ hM hp (by simp) ⟨trivial,by simp⟩ trivial hnM (by simp) λk=>⟨_,_,_,.inl ⟨rfl,by simp [KB.there]⟩,?_,⟨_,rfl,ez⟩,rfl,λ_=>hlm⟩⟩;exact hst k
     |false=>
      have hmm:∀k,RC (Be F ks nid ⟨.one (.m e nid),some (p,.dead),some (.mrows e lm)⟩) (V.set nid k tag false) (.m e nid) (.own k 0 lm.length):=λk=>by
       have:=cZ (F:=F) (ks:=ks) (nid:=nid) (V:=V) (k:=k) (tag:=tag) (bo:=false) (l:=lm) (d:= .one (.m e nid)) (u:=some (p,.dead))
       rw [show moC lm k= .own k 0 lm.length by cases lm with|nil=>exact absurd rfl hlm|cons a l=>rfl]at this;exact this
      exact⟨_,g2,rJ hM hp (by simp) ⟨trivial,by simp⟩ hlm hnM (by simp) λk=>⟨.one (.own k 0 lm.length),_,_,.inl ⟨rfl,by simp [KB.there]⟩,hst k,⟨_,rfl,hmm k⟩,rfl⟩⟩
   .simp at hs
  .simp at hs
end
end K
end Ev
end
end Go.Proofs.Ytkmbihigeeclbaa
