/- Texts of a claim, joined. -/
import Derived.Test.YtjjbpdldbdmoeaaZM8
set_option linter.unusedVariables false
set_option linter.unusedSimpArgs false
namespace Go.Proofs.Ytjjbpdldbdmoeaa
noncomputable section
namespace Ev
namespace K
open Go Go.RowKit
def RdC(ks:KS):(h:Sh)->KC->h.T->Prop
 | .d fr t,c,x=>(fr=true->frC c=true)/\ij noB t c=some x
 | .o e,c,l=>∃e' p ne,c= .o e' p/\af ks.bl p=some (.rows e ne l)
 | .w e,c,l=>∃e' p ne,c= .o e' p/\af ks.bl p=some (.rows e ne l)
 | .m e,c,l=>(c= .nil/\l= [])∨(∃e' p,c= .m e' p/\af ks.bl p=some (.mrows e l))∨∃e' p ne,c= .o e' p/\af ks.bl p=some (.rows e ne l)/\l≠[]
def RdCs(ks:KS):(hs:List Sh)->List KC->bZ hs->Prop
 | [],cs,_=>cs= []
 | [h],cs,x=>∃c,cs= [c]/\RdC ks h c x
 |h::h'::r,cs,x=>∃c s,cs=c::s/\RdC ks h c x.1/\RdCs ks (h'::r) s x.2
section
variable {ks : KS} {R : Type} {r : R}
theorem xT(hne:∀p e ne l,af ks.bl p=some (.rows e ne l)->ne=true->l≠[]){h:Sh}{c:KC}{κ:h.T->Option R}(hs:tG ks h c κ=some r):∃x,κ x=some r/\RdC ks h c x:=by
 unfold tG at hs;split at hs
 .rename_i fr t _ κ;split at hs
  .simp at hs
  .rename_i hc;rw [zbE]at hs;obtain⟨x,h1,h2⟩:=hs;exact⟨x,h2,λhf=>by cases hb:frC c with|true=>rfl|false=>exact absurd ⟨hf,hb⟩ hc,h1⟩
 .rename_i e e1 p _ κ;split at hs
  .rename_i e' ne l hp;rw [zbE]at hs;obtain⟨l2,h1,h2⟩:=hs;obtain⟨he,h1⟩:=aI h1;cases he;subst h1;exact⟨_,h2,_,_,_,rfl,hp⟩
  .simp at hs
 .rename_i e e1 p _ κ;split at hs
  .rename_i e' ne l hp;rw [zbE]at hs;obtain⟨l2,h1,h2⟩:=hs;obtain⟨he,h1⟩:=aI h1;cases he;subst h1;exact⟨_,h2,_,_,_,rfl,hp⟩
  .simp at hs
 .exact⟨_,hs,.inl ⟨rfl,rfl⟩⟩
 .rename_i e e1 p _ κ;split at hs
  .rename_i e' l hp;rw [zbE]at hs;obtain⟨l2,h1,h2⟩:=hs;obtain⟨he,h1⟩:=aI h1;cases he;subst h1;exact⟨_,h2,.inr (.inl ⟨_,_,rfl,hp⟩)⟩
  .simp at hs
 .rename_i e e1 p _ κ;split at hs
  .rename_i e' ne l hp;rw [zbE]at hs;obtain⟨l2,h1,h2⟩:=hs;obtain⟨he,h1⟩:=aI h1;cases he;subst h1
   cases ne with
   |true=>exact⟨_,h2,.inr (.inr ⟨_,_,true,rfl,hp,hne _ _ _ _ hp rfl⟩)⟩
   |false=>
    simp only [cond_false,zbE]at h2;obtain⟨u,h3,h4⟩:=h2;refine⟨_,h4,.inr (.inr ⟨_,_,false,rfl,hp,?_⟩)⟩;intro he;change neL l=some u at h3;rw [he]at h3;simp [neL]at h3
  .simp at hs
 .simp at hs
theorem tV(hne:∀p e ne l,af ks.bl p=some (.rows e ne l)->ne=true->l≠[]):∀{hs:List Sh} {cs:List KC} {R:Type} {r:R} {κ:bZ hs->Option R},ik ks hs cs κ=some r->∃x,κ x=some r/\RdCs ks hs cs x
 | [],[],R,r,κ,h=>⟨(),h,rfl⟩
 | [h],[c],R,r,κ,hs=>by
  obtain⟨x,h1,h2⟩:=xT hne (show tG ks h c κ=some r from hs);exact⟨x,h1,c,rfl,h2⟩
 |h::h'::t,c::cs,R,r,κ,hs=>by
  obtain⟨x,h1,h2⟩:=xT hne (show tG ks h c (λx=>ik ks (h'::t) cs λy=>κ (x,y))=some r from hs);obtain⟨y,h3,h4⟩:=tV hne h1;exact⟨(x,y),h3,c,cs,rfl,h2,h4⟩
 | [],_::_,_,_,_,h=>by simp [ik]at h
 | [_],[],_,_,_,h=>by simp [ik]at h
 | [_],_::_::_,_,_,_,h=>by simp [ik]at h
 |_::_::_,[],_,_,_,h=>by simp [ik]at h
theorem RdCs.len:∀{hs:List Sh} {cs:List KC} {x:bZ hs},RdCs ks hs cs x->cs.length=hs.length
 | [],cs,x,h=>by rw [show cs= []from h];rfl
 | [h],cs,x,⟨c,e,_⟩=>by rw [e];rfl
 |h::h'::r,cs,x,⟨c,s,e,_,h2⟩=>by rw [e,List.length_cons,h2.len];rfl
end
def dY:KC->Option Nat
 | .o _ p=>some p
 | .m _ p=>some p
 |_=>none
theorem fU:∀{cs:List KC} {j p:Nat} {c:KC},cs[j]? =some c->dY c=some p->p∈aY cs
 | [],j,p,c,h,_=>by simp at h
 |a::cs,0,p,c,h,h2=>by
  simp at h;subst h;cases a<;>simp [dY]at h2<;>subst h2<;>simp [aY]
 |a::cs,j+1,p,c,h,h2=>by
  have:=fU (cs:=cs) (by simpa using h) h2
  cases a<;>simp [aY,this]
theorem kZ:∀{cs:List KC} {i j p:Nat} {c d:KC},fv (aY cs)=true->cs[i]? =some c->cs[j]? =some d->dY c=some p->dY d=some p->i=j
 | [],i,j,p,c,d,_,h,_,_,_=>by simp at h
 |a::cs,0,0,p,c,d,_,_,_,_,_=>rfl
 |a::cs,i+1,j+1,p,c,d,hn,h1,h2,h3,h4=>by
  have:fv (aY cs)=true:=by
   cases a<;>simp only [aY,fv,Bool.and_eq_true]at hn<;>first|exact hn|exact hn.2
  have hh:=kZ (i:=i) (j:=j) this (by simpa using h1) (by simpa using h2) h3 h4;rw [hh]
 |a::cs,0,j+1,p,c,d,hn,h1,h2,h3,h4=>by
  have hm:=fU (cs:=cs) (j:=j) (by simpa using h2) h4;simp at h1;subst h1
  have key:∀q,dY a=some q->aY (a::cs)=q::aY cs:=by
   intro q hq;cases a<;>simp [dY]at hq<;>subst hq<;>rfl
  rw [key p h3]at hn;simp only [fv,Bool.and_eq_true,Bool.not_eq_true',List.any_eq_false]at hn;exact absurd (Nat.beq_refl p) (by simpa using hn.1 p hm)
 |a::cs,i+1,0,p,c,d,hn,h1,h2,h3,h4=>by
  have hm:=fU (cs:=cs) (j:=i) (by simpa using h1) h3;simp at h2;subst h2
  have key:∀q,dY a=some q->aY (a::cs)=q::aY cs:=by
   intro q hq;cases a<;>simp [dY]at hq<;>subst hq<;>rfl
  rw [key p h4]at hn;simp only [fv,Bool.and_eq_true,Bool.not_eq_true',List.any_eq_false]at hn;exact absurd (Nat.beq_refl p) (by simpa using hn.1 p hm)
def hid(V:Vl)(c:KC):Nat:=
 match dY c with
 |some p=>V.id p
 |none=>0
def hbo:(h:Sh)->h.T->Bool
 | .d _ .B,x=>x
 |_,_=>false
def zH:(hs:List Sh)->bZ hs->List Bool
 | [],_=> []
 | [h],x=> [hbo h x]
 |h::h'::r,x=>hbo h x.1::zH (h'::r) x.2
def mkV(V:Vl)(N:Nat)(cs:List KC)(bs:List Bool):Vl:=⟨λq=>if q<N then V.id q else match cs[q - N]? with
 |some c=>hid V c
 |none=>0,λq=>if q<N then V.bo q else bs.getD (q - N) false⟩
theorem Cd{V:Vl}{N:Nat}{cs:List KC}{bs:List Bool}:Agree N V (mkV V N cs bs):=λq hq=>⟨if_pos hq,if_pos hq⟩
theorem FY{V:Vl}{N j:Nat}{cs:List KC}{bs:List Bool}{c:KC}(h:cs[j]? =some c):(mkV V N cs bs).id (N+j)=hid V c:=by
 show(if N+j<N then V.id (N+j)else _)=_;rw [if_neg (by omega),Nat.add_sub_cancel_left,h]
theorem LF{V:Vl}{N j:Nat}{cs:List KC}{bs:List Bool}{b:Bool}(h:bs[j]? =some b):(mkV V N cs bs).bo (N+j)=b:=by
 show(if N+j<N then V.bo (N+j)else _)=_;rw [if_neg (by omega),Nat.add_sub_cancel_left,List.getD_eq_getElem?_getD,h];rfl
def TrL(Ba:BK)(Va:Vl)(Bb:BK)(Vb:Vl)(M:Nat):List KC->List KC->Prop
 | [],ws=>ws= []
 |c::cs,ws=>∃w s,ws=w::s/\(∀x,RC Ba Va c x->RC Bb Vb w x)/\Sc M w/\TrL Ba Va Bb Vb M cs s
section
variable {Ba Bb : BK} {Va Vb : Vl} {M : Nat}
theorem TrL.rcs:∀{cs ws:List KC} {xs:List C},TrL Ba Va Bb Vb M cs ws->RCs Ba Va cs xs->RCs Bb Vb ws xs
 | [],ws,xs,h,hr=>by rw [show ws= []from h];exact hr
 |c::cs,ws,xs,⟨w,s,e,h1,_,h2⟩,⟨x,t,e2,h3,h4⟩=>by
  subst e;exact⟨x,t,e2,h1 x h3,TrL.rcs h2 h4⟩
theorem TrL.scs:∀{cs ws:List KC},TrL Ba Va Bb Vb M cs ws->Scs M ws
 | [],ws,h=>by rw [show ws= []from h];exact λc hc=>by simp at hc
 |c::cs,ws,⟨w,s,e,_,h1,h2⟩=>by
  subst e
  exact λd hd=>by
   rcases List.mem_cons.1 hd with rfl|hd
   .exact h1
   .exact TrL.scs h2 d hd
theorem TrL.take:∀{a b ws:List KC},TrL Ba Va Bb Vb M (a++b) ws->TrL Ba Va Bb Vb M a (ws.take a.length)
 | [],b,ws,h=>rfl
 |c::a,b,ws,⟨w,s,e,h1,h2,h3⟩=>by subst e;exact⟨w,_,rfl,h1,h2,TrL.take h3⟩
theorem TrL.drop:∀{a b ws:List KC},TrL Ba Va Bb Vb M (a++b) ws->TrL Ba Va Bb Vb M b (ws.drop a.length)
 | [],b,ws,h=>h
 |c::a,b,ws,⟨w,s,e,h1,h2,h3⟩=>by subst e;exact TrL.drop (a:=a) h3
theorem rB{ka:KS}{F:KF}{q:Nat}{h:Sh}{c:KC}{x:h.T}(hrd:RdC ka h c x)(hBa:Ba=aj F ka)(hid':Vb.id q=hid Va c)(hbo':Vb.bo q=hbo h x)(hB:∀b,(q,b)∈(aU q h x).2->Bb q=some b)(hw:∀e,h= .w e->∀b,Bb q≠some b)(hq:q<M):(∀y,RC Ba Va c y->RC Bb Vb (aU q h x).1 y)/\Sc M (aU q h x).1:=by
 subst hBa
 cases h with
 |d fr t=>
  obtain⟨h1,h2⟩:=hrd
  cases t with
  |B=>
   refine⟨λy hy=> ?_,trivial⟩
   have hy2:y=bC x:=by
    have h3:frC c=true:=by
     cases c<;>first|rfl|(simp [ij]at h2)
    have:=kU h2 h3 hy
    simpa [Ty.row,pC,bT,bC]using this
   exact hy2
  |I k=>
   refine⟨λy hy=> ?_,trivial⟩
   have h3:frC c=true:=by
    cases c<;>first|rfl|(simp [ij]at h2)
   have:=kU h2 h3 hy
   show y=iC k x;simpa [Ty.row,pC,iT,iC]using this
  |S e=>
   refine⟨λy hy=> ?_,trivial⟩;show∃f,y= .p f (Sl.t e.row x)/\(fr=true->f=true)
   cases c with
   |nil=>
    have:=Option.some.inj (show some (⟨false,0,[]⟩:Sl e.val)=some x from h2)
    subst this;exact⟨true,hy,λ_=>rfl⟩
   |s e' fr' z=>
    obtain⟨he,h3⟩:=aI (show dV (.S e') (.S e) z=some x from h2);cases he;subst h3;obtain⟨f,g1,g2⟩:=hy;exact⟨f,g1,λhf=>g2 (h1 hf)⟩
   |o e' p=>simp [ij,noB]at h2
   |m e' p=>simp [ij,noB]at h2
   |_=>simp [ij]at h2
  |U=>cases c<;>simp [ij]at h2
  |C a b=>cases c<;>simp [ij]at h2
 |o e=>
  obtain⟨e',p,ne,rfl,h2⟩:=hrd;refine⟨λy hy=> ?_,hq⟩;intro e2 ne2 l2 hl;rw [hB (.rows e false x) (by simp [aU])]at hl;simp only [zsI,KB.rows.injEq]at hl;obtain⟨rfl,_,hl⟩:=hl;rw [<-eq_of_heq hl,hid'];exact hy _ _ _ (ah h2 (by simp))
 |w e=>exact⟨λy hy e2 ne2 l2 hl=>absurd hl (hw e rfl _),hq⟩
 |m e=>
  refine⟨λy hy=> ?_,hq⟩;intro e2 l2 hl;rw [hB (.mrows e x) (by simp [aU])]at hl;simp only [zsI,KB.mrows.injEq]at hl;obtain⟨rfl,hl⟩:=hl;rw [<-eq_of_heq hl,hid'];rcases hrd with⟨rfl,h2⟩|⟨e',p,rfl,h2⟩|⟨e',p,ne,rfl,h2,h3⟩
  .change x= []at h2;rw [h2];exact hy
  .exact hy _ _ (ah h2 (by simp))
  .have h4:=hy _ _ _ (ah (F:=F) h2 (by simp));rw [h4];change x≠[]at h3;show _=moC x (hid Va (.o e' p))
   cases hx:x with
   |nil=>exact absurd hx h3
   |cons a l=>rfl
theorem oD{ka:KS}{F:KF}(hBa:Ba=aj F ka):∀{hs:List Sh} {cs:List KC} {x:bZ hs} (q:Nat),RdCs ka hs cs x->(∀j c,cs[j]? =some c->Vb.id (q+j)=hid Va c)->(∀j b,(zH hs x)[j]? =some b->Vb.bo (q+j)=b)->(∀p b,(p,b)∈(an hs x q).flatMap (·.2)->Bb p=some b)->(∀(j:Nat) e,hs[j]? =some (.w e)->∀b,Bb (q+j)≠some b)->q+hs.length<=M->TrL Ba Va Bb Vb M cs ((an hs x q).map (·.1))
 | [],cs,x,q,hrd,h1,h2,h3,h5,h4=>by rw [show cs= []from hrd];exact rfl
 | [h],cs,x,q,⟨c,e,hrd⟩,h1,h2,h3,h5,h4=>by
  subst e;obtain⟨g1,g2⟩:=rB (Bb:=Bb) (Vb:=Vb) (M:=M) hrd hBa (by simpa using h1 0 c rfl) (by simpa using h2 0 (hbo h x) rfl) (λb hb=>h3 q b (by simpa [an]using hb)) (λe he b=>by have:=h5 0 e (by rw [he];rfl) b;simpa using this) (by simp at h4;omega);exact⟨_,[],rfl,g1,g2,rfl⟩
 |h::h'::r,cs,x,q,⟨c,s,e,hrd,hrd2⟩,h1,h2,h3,h5,h4=>by
  subst e;simp only [List.length_cons]at h4;obtain⟨g1,g2⟩:=rB (Bb:=Bb) (Vb:=Vb) (M:=M) hrd hBa (by simpa using h1 0 c rfl) (by simpa using h2 0 (hbo h x.1) rfl) (λb hb=>h3 q b (by simp only [an,List.flatMap_cons,List.mem_append];exact .inl hb)) (λe he b=>by have:=h5 0 e (by rw [he];rfl) b;simpa using this) (by omega);refine⟨_,_,rfl,g1,g2,oD hBa (q+1) hrd2 (λj c hc=> ?_) (λj b hb=> ?_) (λp b hb=>h3 p b (by simp only [an,List.flatMap_cons,List.mem_append];exact .inr hb)) (λj e he b=>by rw [show q+1+j=q+(j+1)by omega];exact h5 (j+1) e (by simpa using he) b) (by simp only [List.length_cons];omega)⟩
  .rw [show q+1+j=q+(j+1)by omega];exact h1 (j+1) c (by simpa using hc)
  .rw [show q+1+j=q+(j+1)by omega];exact h2 (j+1) b (by simpa [zH]using hb)
end
theorem fV{q p:Nat}{h:Sh}{x:h.T}{b:KB}(hb:(p,b)∈(aU q h x).2):p=q/\(aU q h x).2= [(q,b)]:=by
 cases h with
 |d fr t=>cases t<;>simp [aU]at hb
 |o e=>simp only [aU,List.mem_singleton,Prod.mk.injEq]at hb;obtain⟨rfl,rfl⟩:=hb;exact⟨rfl,rfl⟩
 |w e=>simp [aU]at hb
 |m e=>simp only [aU,List.mem_singleton,Prod.mk.injEq]at hb;obtain⟨rfl,rfl⟩:=hb;exact⟨rfl,rfl⟩
theorem gQ{ka:KS}:∀{hs:List Sh} {cs:List KC} {x:bZ hs} {q p:Nat} {b:KB},RdCs ka hs cs x->(p,b)∈(an hs x q).flatMap (·.2)->∃(j:Nat) (c:KC) (h:Sh) (y:h.T),p=q+j/\(j<hs.length/\hs[j]? =some h)/\cs[j]? =some c/\RdC ka h c y/\(aU p h y).2= [(p,b)]
 | [],cs,x,q,p,b,hrd,hb=>by simp [an]at hb
 | [h],cs,x,q,p,b,⟨c,e,hrd⟩,hb=>by
  subst e;obtain⟨rfl,h2⟩:=fV (show(p,b)∈(aU q h x).2 by simpa [an]using hb);exact⟨0,c,h,x,rfl,⟨by simp,rfl⟩,rfl,hrd,h2⟩
 |h::h'::r,cs,x,q,p,b,⟨c,s,e,hrd,hrd2⟩,hb=>by
  subst e;simp only [an,List.flatMap_cons,List.mem_append]at hb;rcases hb with hb|hb
  .obtain⟨rfl,h2⟩:=fV hb;exact⟨0,c,h,x.1,rfl,⟨by simp,rfl⟩,rfl,hrd,h2⟩
  .obtain⟨j,c',h2,y,rfl,⟨g1,g0⟩,g2,g3,g4⟩:=gQ hrd2 hb;exact⟨j+1,c',h2,y,by omega,⟨by simp only [List.length_cons]at g1 ⊢;omega,by simpa using g0⟩,by simpa using g2,g3,g4⟩
theorem AN{ks:KS}:∀{hs:List Sh} {cs:List KC} {x:bZ hs} {j:Nat} {c:KC} {e:Ty},RdCs ks hs cs x->cs[j]? =some c->hs[j]? =some (.w e)->∃e' p ne l,c= .o e' p/\af ks.bl p=some (.rows e ne l)/\(wCs hs x)[j]? =some (.rows e false l)
 | [],cs,x,j,c,e,hrd,hc,hh=>by simp at hh
 | [h],cs,x,j,c,e,⟨c',e1,hrd⟩,hc,hh=>by
  subst e1
  cases j with
  |succ j=>simp at hc
  |zero=>
   simp at hc hh;subst hc hh;obtain⟨e',p,ne,rfl,h2⟩:=hrd;exact⟨e',p,ne,x,rfl,h2,rfl⟩
 |h::h'::r,cs,x,j,c,e,⟨c',s,e1,hrd,hrd2⟩,hc,hh=>by
  subst e1
  cases j with
  |succ j=>
   obtain⟨e',p,ne,l,h1,h2,h3⟩:=AN hrd2 (by simpa using hc) (by simpa using hh);exact⟨e',p,ne,l,h1,h2,by simpa [wCs]using h3⟩
  |zero=>
   simp at hc hh;subst hc hh;obtain⟨e',p,ne,rfl,h2⟩:=hrd;exact⟨e',p,ne,x.1,rfl,h2,rfl⟩
theorem fp{α:Type}:∀{l:List (Nat×α)} {i:Nat} {a:α},af l i=some a->(i,a)∈l
 | [],i,a,h=>by simp [af]at h
 |x::l,i,a,h=>by
  rw [show x::l=(x.1,x.2)::l from rfl,av]at h;split at h
  .rename_i hi;cases h;subst hi;exact List.mem_cons_self
  .exact List.mem_cons_of_mem _ (fp h)
end K
end Ev
end
noncomputable section
namespace Ev
namespace K
open Go Go.RowKit
section
variable {Fa Fb : KF} {ka kb : KS} {Va Vb : Vl} {f : Nat → D} {h : Heap} {M N0 : Nat} {Bb : BK}
theorem fW:∀{vs:List (Nat×Bool×List Sh)} {a:List KC},jg Fa ka vs=some a->a.length=fF vs
 | [],a,ha=>by
  have:=Option.some.inj (show some []=some a from ha)
  subst this;rfl
 |v::r,a,ha=>by
  unfold jg at ha;have hl:fF (v::r)=v.2.2.length+fF r:=by unfold fF;rw [List.flatMap_cons,List.length_append]
  split at ha
  .split at ha
   .simp at ha
   .split at ha
    .rename_i h1;rw [Option.map_eq_some_iff]at ha;obtain⟨a',g1,rfl⟩:=ha;rw [List.length_cons,fW g1,hl,h1];omega
    .simp at ha
  .split at ha
   .split at ha
    .rename_i h1;rw [Option.map_eq_some_iff]at ha;obtain⟨a',g1,rfl⟩:=ha;rw [List.length_append,fW g1,hl,h1]
    .simp at ha
   .simp at ha
  .simp at ha
theorem nH(hr:Rel Fa ka Va f h):∀{vs:List (Nat×Bool×List Sh)} {a b wc:List KC},jg Fa ka vs=some a->TrL (aj Fa ka) Va Bb Vb M (a++b) wc->∀i d,af (eW vs wc) i=some d->i<Fa.nt/\ScD M d/\RD Bb Vb d (f i)
 | [],a,b,wc,ha,hT,i,d,hd=>by simp [eW,af]at hd
 |v::r,a,b,wc,ha,hT,i,d,hd=>by
  unfold jg at ha;unfold eW at hd;rw [av]at hd;split at ha
  .rename_i c hc;obtain⟨s1,s2,c',s3,s4⟩:=hr.sl _ _ hc;split at ha
   .simp at ha
   .rename_i hag;split at ha
    .rename_i h1;rw [Option.map_eq_some_iff]at ha;obtain⟨a',g1,rfl⟩:=ha;obtain⟨w,s,rfl,t1,t2,t3⟩:=hT;rw [h1,if_neg hag]at hd;split at hd
     .rename_i hi;cases hd;subst hi;exact⟨s1,t2,c',s3,t1 _ s4⟩
     .exact nH hr g1 t3 i d hd
    .simp at ha
  .rename_i cs hc;obtain⟨s1,s2,cs',s3,s4⟩:=hr.sl _ _ hc;split at ha
   .rename_i hag;split at ha
    .rename_i h1;rw [Option.map_eq_some_iff]at ha;obtain⟨a',g1,rfl⟩:=ha;rw [List.append_assoc]at hT;have t1:=TrL.take hT;have t2:=TrL.drop hT;rw [h1,if_pos hag]at hd;split at hd
     .rename_i hi;cases hd;subst hi;exact⟨s1,TrL.scs t1,cs',s3,TrL.rcs t1 s4⟩
     .exact nH hr g1 t2 i d hd
    .simp at ha
   .simp at ha
  .simp at ha
theorem tW:∀{bs:List (Nat×List Sh)} {b c wc:List KC},il Fa ka bs=some b->TrL (aj Fa ka) Va Bb Vb M (b++c) wc->∀p x,af (cZ Fa ka bs wc) p=some x->∃v∈bs,cG Fa ka v.1=some p/\∃cs0 ws,af ka.bl p=some (.box cs0)/\x= .box ws/\Scs M ws/\∀xs,RCs (aj Fa ka) Va cs0 xs->RCs Bb Vb ws xs
 | [],b,c,wc,hb,hT,p,x,hx=>by simp [cZ,af]at hx
 |v::r,b,c,wc,hb,hT,p,x,hx=>by
  unfold il at hb;unfold cZ at hx
  cases hp:cG Fa ka v.1 with
  |none=>rw [hp]at hb;simp at hb
  |some q=>
   rw [hp]at hb hx;simp only [zbS]at hb;split at hb
   .rename_i cs hcs;split at hb
    .rename_i h1;rw [Option.map_eq_some_iff]at hb;obtain⟨b',g1,rfl⟩:=hb;rw [List.append_assoc]at hT;have t1:=TrL.take hT;have t2:=TrL.drop hT;simp only [h1]at hx;rw [av]at hx;split at hx
     .rename_i hi;cases hx;subst hi;exact⟨v,by simp,hp,cs,_,hcs,rfl,TrL.scs t1,λxs hxs=>TrL.rcs t1 hxs⟩
     .obtain⟨v',g2,g3⟩:=tW g1 t2 p x hx;exact⟨v',by simp [g2],g3⟩
    .simp at hb
   .simp at hb
theorem fq{F:KF}{ks:KS}:∀{bs:List (Nat×List Sh)} {w:List KC} {p:Nat},(∀v∈bs,cG F ks v.1≠some p)->af (cZ F ks bs w) p=none
 | [],w,p,h=>rfl
 |v::r,w,p,h=>by
  unfold cZ
  cases hp:cG F ks v.1 with
  |none=>exact fq λv' hv=>h v' (by simp [hv])
  |some q=>
   simp only;rw [av,if_neg (λe=>h v (by simp) (by rw [hp,e]))];exact fq λv' hv=>h v' (by simp [hv])
theorem zI{F:KF}{ks:KS}:∀{bs:List (Nat×List Sh)} {w:List KC} {p:Nat} {x:KB},af (cZ F ks bs w) p=some x->∃v∈bs,cG F ks v.1=some p:=by
 intro bs w p x h;refine Classical.byContradiction λhn=> ?_;rw [fq λv hv he=>hn ⟨v,hv,he⟩]at h;simp at h
theorem ld:∀{bs:List (Nat×List Sh)} {b:List KC},il Fa ka bs=some b->b.length=jG bs
 | [],b,hb=>by
  have:=Option.some.inj (show some []=some b from hb)
  subst this;rfl
 |v::r,b,hb=>by
  unfold il at hb;have hl:jG (v::r)=v.2.length+jG r:=by unfold jG;rw [List.flatMap_cons,List.length_append]
  split at hb
  .split at hb
   .rename_i h1;rw [Option.map_eq_some_iff]at hb;obtain⟨b',g1,rfl⟩:=hb;rw [List.length_append,ld g1,hl,h1]
   .simp at hb
  .simp at hb
theorem lf:∀{ws:List (BR×Ty)} {c:List KC} {j:Nat} {v:BR×Ty},qY Fa ka ws=some c->ws[j]? =some v->∃p,dW Fa ka v.1=some p/\c[j]? =some (.o v.2 p)
 | [],c,j,v,hc,hv=>by simp at hv
 |v0::r,c,j,v,hc,hv=>by
  unfold qY at hc;split at hc
  .rename_i p hp;rw [Option.map_eq_some_iff]at hc;obtain⟨c',g1,rfl⟩:=hc
   cases j with
   |zero=>simp at hv;subst hv;exact⟨p,hp,rfl⟩
   |succ j=>
    obtain⟨q,h1,h2⟩:=lf g1 (j:=j) (by simpa using hv);exact⟨q,h1,by simpa using h2⟩
  .simp at hc
theorem dI{pt:Pt}{cs:List KC}(h:cY Fa ka pt=some cs):∃a b c,jg Fa ka pt.vs=some a/\il Fa ka pt.bs=some b/\qY Fa ka pt.ws=some c/\cs=a++(b++c):=by
 unfold cY at h;rw [zbE]at h;obtain⟨a,ha,h⟩:=h;rw [zbE]at h;obtain⟨b,hb,h⟩:=h;rw [Option.map_eq_some_iff]at h;obtain⟨c,hc,rfl⟩:=h;exact⟨a,b,c,ha,hb,hc,rfl⟩
theorem nI:∀{ws:List (BR×Ty)} {bs:List KB} {p:Nat} {x:KB},af (dG Fa ka ws bs) p=some x->∃(j:Nat) (v:BR×Ty),ws[j]? =some v/\bs[j]? =some x/\dW Fa ka v.1=some p
 | [],bs,p,x,h=>by simp [dG,af]at h
 |v::r,[],p,x,h=>by simp [dG,af]at h
 |v::r,b::bs,p,x,h=>by
  unfold dG at h
  have key:af (dG Fa ka r bs) p=some x->∃(j:Nat) (v':BR×Ty),(v::r)[j]? =some v'/\(b::bs)[j]? =some x/\dW Fa ka v'.1=some p:=λh=>by
   obtain⟨j,v',h1,h2,h3⟩:=nI h;exact⟨j+1,v',by simpa using h1,by simpa using h2,h3⟩
  split at h
  .rename_i q hq;rw [av]at h;split at h
   .rename_i hi;cases h;subst hi;exact⟨0,v,rfl,rfl,hq⟩
   .exact key h
  .exact key h
theorem IH{pt:Pt}{j:Nat}{v:BR×Ty}(h:pt.ws[j]? =some v):pt.sh[fF pt.vs+jG pt.bs+j]? =some (.w v.2):=by
 unfold Pt.sh fF jG;rw [<-List.append_assoc,List.getElem?_append_right (by rw [List.length_append];omega),List.length_append,Nat.add_sub_cancel_left,List.getElem?_map,h];rfl
theorem FZ{pt:Pt}{cs:List KC}{y:bZ pt.sh}(hcs:cY Fa ka pt=some cs)(hrd:RdCs ka pt.sh cs y){p:Nat}{x:KB}(h:af (dG Fa ka pt.ws ((wCs pt.sh y).drop (fF pt.vs+jG pt.bs))) p=some x):∃(j:Nat) (v:BR×Ty) (e:Ty) (ne:Bool) (l:List e.val),v∈pt.ws/\dW Fa ka v.1=some p/\af ka.bl p=some (.rows e ne l)/\x= .rows e false l/\cs[j]? =some (.o e p)/\pt.sh[j]? =some (.w e):=by
 obtain⟨j,v,h1,h2,h3⟩:=nI h;obtain⟨a,b,c,ha,hb,hc,rfl⟩:=dI hcs;obtain⟨p',h4,h5⟩:=lf hc h1;rw [h3]at h4;cases h4
 have hj:(a++(b++c))[fF pt.vs+jG pt.bs+j]? =some (.o v.2 p):=by
  rw [<-List.append_assoc,List.getElem?_append_right (by rw [List.length_append,fW ha,ld hb];omega),List.length_append,fW ha,ld hb,Nat.add_sub_cancel_left,h5]
 obtain⟨e',p',ne,l,g1,g2,g3⟩:=AN hrd hj (IH h1);cases g1;rw [List.getElem?_drop,g3]at h2;cases h2;exact⟨_,v,_,ne,l,List.mem_of_getElem? h1,h3,g2,rfl,hj,IH h1⟩
theorem trans{pt:Pt}{cs:List KC}{y:bZ pt.sh}(hr:Rel Fa ka Va f h)(hcs:cY Fa ka pt=some cs)(hrd:RdCs ka pt.sh cs y)(hnd:fv (aY cs)=true)(hN:N0<=ka.nx)(hnt:Fb.nt=Fa.nt)(hnx:kb.nx=N0+pt.sh.length)
  (hS:∀i d,fT Fb kb i=some d->af (eW pt.vs ((an pt.sh y N0).map (·.1))) i=some d∨(fT Fa ka i=some d/\ScD N0 d))
  (hB1:∀p b,aj Fb kb p=some b->af (cZ Fa ka pt.bs (((an pt.sh y N0).map (·.1)).drop (fF pt.vs))) p=some b∨af (dG Fa ka pt.ws ((wCs pt.sh y).drop (fF pt.vs+jG pt.bs))) p=some b∨af ((an pt.sh y N0).flatMap (·.2)) p=some b∨(aj Fa ka p=some b/\p<N0/\ScB N0 b/\p ∉ aY cs/\∀v∈pt.bs,cG Fa ka v.1≠some p))
  (hB2:∀p b,(p,b)∈(an pt.sh y N0).flatMap (·.2)->aj Fb kb p=some b) (hbx:∀v∈pt.bs,∀p,cG Fa ka v.1=some p->p<N0) (hwx:∀v∈pt.ws,∀p,dW Fa ka v.1=some p->p<N0):∃Vb,Rel Fb kb Vb f h/\Agree N0 Va Vb/\LeB N0 (aj Fa ka) (aj Fb kb):=by
 have hlen:=hrd.len;have hag:Agree N0 Va (mkV Va N0 cs (zH pt.sh y)):=Cd;obtain⟨a,b,cw,ha,hb,hcw,hcse⟩:=dI hcs;have hbox0:∀p x,af (cZ Fa ka pt.bs (((an pt.sh y N0).map (·.1)).drop (fF pt.vs))) p=some x->∃v∈pt.bs,cG Fa ka v.1=some p:=λp x hx=>zI hx;have hrow:∀p x,af (dG Fa ka pt.ws ((wCs pt.sh y).drop (fF pt.vs+jG pt.bs))) p=some x->∃(j:Nat) (v:BR×Ty) (e:Ty) (ne:Bool) (l:List e.val),v∈pt.ws/\dW Fa ka v.1=some p/\af ka.bl p=some (.rows e ne l)/\x= .rows e false l/\cs[j]? =some (.o e p)/\pt.sh[j]? =some (.w e):=λp x hx=>FZ hcs hrd hx
 have hvac:∀(j:Nat) e,pt.sh[j]? =some (.w e)->∀x,aj Fb kb (N0+j)≠some x:=by
  intro j e hj x hx;rcases hB1 _ _ hx with h1|h1|h1|h1
  .obtain⟨v,g1,g2⟩:=hbox0 _ _ h1
   have:=hbx v g1 _ g2;omega
  .obtain⟨_,v,_,_,_,g1,g2,_⟩:=hrow _ _ h1
   have:=hwx v g1 _ g2;omega
  .obtain⟨j',c,hh,yy,e1,⟨_,g0⟩,_,_,g4⟩:=gQ hrd (fp h1);obtain rfl:j=j':=by omega
   rw [hj]at g0;cases g0;simp [aU]at g4
  .omega
 have hT:TrL (aj Fa ka) Va (aj Fb kb) (mkV Va N0 cs (zH pt.sh y)) kb.nx cs ((an pt.sh y N0).map (·.1)):=
  oD rfl N0 hrd (λj c hc=>FY hc) (λj b hb=>LF hb) hB2 hvac (by omega)
 have hids:∀(j:Nat) (c:KC),cs[j]? =some c->(mkV Va N0 cs (zH pt.sh y)).id (N0+j)=hid Va c:=λj c hc=>FY hc;generalize mkV Va N0 cs (zH pt.sh y)=Vb at hag hT hids;rw [hcse]at hT;have hT2:=TrL.drop hT;rw [fW ha]at hT2;have hbox:=tW (M:=kb.nx) (c:=cw) hb hT2
 have hle:LeB N0 (aj Fa ka) (aj Fb kb):=by
  intro p hp
  have key:∀x,aj Fb kb p=some x->(∀cs,x≠ .box cs)->aj Fa ka p=some x∨∃e ne l,aj Fa ka p=some (.rows e ne l)/\x= .rows e false l:=by
   intro x hx hnb;rcases hB1 p x hx with h1|h1|h1|h1
   .obtain⟨v,_,_,cs0,ws,_,e,_⟩:=hbox p x h1;exact absurd e (hnb ws)
   .obtain⟨_,v,e,ne,l,_,_,g3,g4,_⟩:=hrow p x h1;exact .inr ⟨e,ne,l,ah g3 (by simp),g4⟩
   .obtain⟨j,c,hh,yy,e,_⟩:=gQ hrd (fp h1);omega
   .exact .inl h1.1
  refine⟨λe ne l hl=> ?_,λe l hl=> ?_⟩
  .rcases key _ hl (by simp)with h1|⟨e0,n0,l0,h1,h2⟩
   .exact⟨e,ne,l,h1,rfl⟩
   .cases h2;exact⟨_,_,_,h1,rfl⟩
  .rcases key _ hl (by simp)with h1|⟨e0,n0,l0,h1,h2⟩
   .exact⟨e,l,h1,rfl⟩
   .cases h2
 -- where a block comes from
 have horg:∀p x,aj Fb kb p=some x->x.there->∃o x0,aj Fa ka o=some x0/\x0.there/\Vb.id p=Va.id o/\((∃j c hh,p=N0+j/\cs[j]? =some c/\dY c=some o/\(∀cs0,x0≠ .box cs0)/\pt.sh[j]? =some hh/\∀e,hh≠ .w e)∨(o=p/\((∃cs0,x0= .box cs0)∨(∃(j:Nat) (e:Ty),cs[j]? =some (.o e p)/\pt.sh[j]? =some (.w e))∨p ∉ aY cs))):=by
  intro p x hx ht;rcases hB1 p x hx with h1|h1|h1|⟨h1,h2,h3,h4,h5⟩
  .obtain⟨v,g1,g2,cs0,ws,g3,e,_⟩:=hbox p x h1;exact⟨p,.box cs0,ah g3 (by simp),trivial,(hag p (hbx v g1 p g2)).1,.inr ⟨rfl,.inl ⟨cs0,rfl⟩⟩⟩
  .obtain⟨j,v,e,ne,l,g1,g2,g3,g4,g5,g6⟩:=hrow p x h1;exact⟨p,_,ah g3 (by simp),trivial,(hag p (hwx v g1 p g2)).1,.inr ⟨rfl,.inr (.inl ⟨j,e,g5,g6⟩)⟩⟩
  .obtain⟨j,c,hh,yy,rfl,⟨g1,g0⟩,g2,g3,g4⟩:=gQ hrd (fp h1);have hidj:Vb.id (N0+j)=hid Va c:=hids j c g2
   cases hh with
   |d fr t=>cases t<;>simp [aU]at g4
   |w e=>simp [aU]at g4
   |o e=>
    obtain⟨e',o,ne,rfl,g5⟩:=g3;exact⟨o,_,ah g5 (by simp),trivial,hidj,.inl ⟨j,_,_,rfl,g2,rfl,by simp,g0,by simp⟩⟩
   |m e=>
    simp only [aU,List.cons.injEq,Prod.mk.injEq,true_and,and_true]at g4;subst g4;rcases g3 with⟨rfl,g5⟩|⟨e',o,rfl,g5⟩|⟨e',o,ne,rfl,g5,g6⟩
    .exact absurd g5 ht
    .exact⟨o,_,ah g5 (by simp),ht,hidj,.inl ⟨j,_,_,rfl,g2,rfl,by simp,g0,by simp⟩⟩
    .exact⟨o,_,ah g5 (by simp),trivial,hidj,.inl ⟨j,_,_,rfl,g2,rfl,by simp,g0,by simp⟩⟩
  .exact⟨p,x,h1,ht,(hag p h2).1,.inr ⟨rfl,.inr (.inr h4)⟩⟩
 refine⟨Vb,⟨?_,?_,?_⟩,hag,hle⟩
 .intro i d hd;rcases hS i d hd with h1|⟨h1,h2⟩
  .obtain⟨g1,g2,g3⟩:=nH (M:=kb.nx) hr ha hT i d h1;exact⟨by rw [hnt];exact g1,g2,g3⟩
  .obtain⟨g1,g2,g3⟩:=hr.sl i d h1;exact⟨by rw [hnt];exact g1,h2.mono (by omega),g3.mono h2 hle hag⟩
 .intro p x hx;rcases hB1 p x hx with h1|h1|h1|⟨h1,h2,h3,h4,h5⟩
  .obtain⟨v,g1,g2,cs0,ws,g3,rfl,g4,g5⟩:=hbox p x h1;obtain⟨k1,k2,sz,cs',k3,k4⟩:=hr.bl p _ (ah g3 (by simp));have hp:=hbx v g1 p g2;exact⟨by omega,g4,sz,cs',by rw [(hag p hp).1];exact k3,g5 _ k4⟩
  .obtain⟨j,v,e,ne,l,g1,g2,g3,rfl,_,_⟩:=hrow p x h1;obtain⟨k1,k2,k3,k4⟩:=hr.bl p _ (ah g3 (by simp));have hp:=hwx v g1 p g2;exact⟨by omega,trivial,by rw [(hag p hp).1];exact k3,by simp⟩
  .obtain⟨j,c,hh,yy,rfl,⟨g1,g0⟩,g2,g3,g4⟩:=gQ hrd (fp h1);have hidj:Vb.id (N0+j)=hid Va c:=hids j c g2;refine⟨by omega,?_⟩;rw [hidj]
   cases hh with
   |d fr t=>cases t<;>simp [aU]at g4
   |w e=>simp [aU]at g4
   |o e=>
    simp only [aU,List.cons.injEq,Prod.mk.injEq,true_and,and_true]at g4;subst g4;obtain⟨e',o,ne,rfl,g5⟩:=g3;obtain⟨k1,k2,k3,k4⟩:=hr.bl o _ (ah g5 (by simp));exact⟨trivial,k3,by simp⟩
   |m e=>
    simp only [aU,List.cons.injEq,Prod.mk.injEq,true_and,and_true]at g4;subst g4;refine⟨trivial,λhne=> ?_⟩;rcases g3 with⟨rfl,g5⟩|⟨e',o,rfl,g5⟩|⟨e',o,ne,rfl,g5,g6⟩
    .exact absurd g5 hne
    .exact(hr.bl o _ (ah g5 (by simp))).2.2 hne
    .exact(hr.bl o _ (ah g5 (by simp))).2.2.1
  .obtain⟨k1,k2,k3⟩:=hr.bl p x h1;exact⟨by omega,h3.mono (by omega),by rw [(hag p h2).1];exact k3.mono h3 hle hag⟩
 .intro p q x x' hp hq tp tq hid;obtain⟨o,x0,g1,g2,g3,g4⟩:=horg p x hp tp;obtain⟨o',x0',g1',g2',g3',g4'⟩:=horg q x' hq tq;rw [g3,g3']at hid;have ho:=hr.inj o o' x0 x0' g1 g1' g2 g2' hid;subst ho;rw [g1]at g1';cases g1'
  have cross:∀(p q:Nat),(∃(j:Nat) (c:KC) (hh:Sh),p=N0+j/\cs[j]? =some c/\dY c=some o/\(∀cs0,x0≠ .box cs0)/\pt.sh[j]? =some hh/\∀e,hh≠ .w e)->(o=q/\((∃cs0,x0= .box cs0)∨(∃(j:Nat) (e:Ty),cs[j]? =some (.o e q)/\pt.sh[j]? =some (.w e))∨q ∉ aY cs))->False:=by
   intro p q ⟨j,c,hh,_,w2,w3,w4,w5,w6⟩ ⟨v1,v2⟩;subst v1;rcases v2 with⟨cs0,v2⟩|⟨j',e,v2,v3⟩|v2
   .exact w4 cs0 v2
   .obtain rfl:=kZ hnd w2 v2 w3 rfl;rw [v3]at w5;cases w5;exact w6 e rfl
   .exact v2 (fU w2 w3)
  rcases g4 with⟨j,c,hh,w1,w2,w3,w4,w5,w6⟩|w
  .rcases g4' with⟨j',c',hh',v1,v2,v3,v4,v5,v6⟩|v
   .have:=kZ hnd w2 v2 w3 v3
    rw [w1,v1,this]
   .exact(cross _ _ ⟨j,c,hh,w1,w2,w3,w4,w5,w6⟩ v).elim
  .rcases g4' with v|v
   .exact(cross _ _ v w).elim
   .rw [<-w.1,<-v.1]
end
end K
end Ev
end
noncomputable section
namespace Ev
namespace K
open Go Go.RowKit
theorem aD{α:Type}:∀(l m:List (Nat×α)) (i:Nat),af (l++m) i=aH l m i
 | [],m,i=>rfl
 |x::l,m,i=>by
  have:=aD l m i
  unfold aH at this ⊢;rw [show x::l++m=(x.1,x.2)::(l++m)from rfl,show x::l=(x.1,x.2)::l from rfl,av,av];split
  .rfl
  .exact this
theorem nJ{l:List Nat}{p:Nat}:af (l.map λp=>(p,KB.dead)) p=none/\p ∉ l∨af (l.map λp=>(p,KB.dead)) p=some .dead/\p∈l:=by
 induction l with
 |nil=>exact .inl ⟨rfl,by simp⟩
 |cons a l ih=>
  rw [List.map_cons,av];by_cases h:p=a
  .subst h;exact .inr ⟨by rw [if_pos rfl],by simp⟩
  .rw [if_neg h];rcases ih with⟨h1,h2⟩|⟨h1,h2⟩
   .exact .inl ⟨h1,by simp [h,h2]⟩
   .exact .inr ⟨h1,by simp [h2]⟩
theorem lh{q0:Nat}:∀{hs:List Sh} {x:bZ hs} {q p:Nat} {b:KB},(p,b)∈(an hs x q).flatMap (·.2)->af ((an hs x q).flatMap (·.2)) p=some b/\q<=p/\b≠ .dead
 | [],x,q,p,b,h=>by simp [an]at h
 | [s],x,q,p,b,h=>by
  have h1:(p,b)∈(aU q s x).2:=by simpa [an]using h
  obtain⟨rfl,h2⟩:=fV h1;have h3:(an [s] x p).flatMap (·.2)= [(p,b)]:=by simpa [an]using h2
  rw [h3,av,if_pos rfl];refine⟨rfl,Nat.le_refl _,?_⟩
  cases s with
  |d fr t=>cases t<;>simp [aU]at h2
  |o e=>simp only [aU,List.cons.injEq,Prod.mk.injEq,true_and,and_true]at h2;subst h2;simp
  |m e=>simp only [aU,List.cons.injEq,Prod.mk.injEq,true_and,and_true]at h2;subst h2;simp
  |w e=>simp [aU]at h2
 |s::s'::r,x,q,p,b,h=>by
  have e1:(an (s::s'::r) x q).flatMap (·.2)=(aU q s x.1).2++(an (s'::r) x.2 (q+1)).flatMap (·.2):=by simp [an]
  rw [e1]at h ⊢;rw [aD];unfold aH;rcases List.mem_append.1 h with h|h
  .obtain⟨rfl,h2⟩:=fV h;rw [h2,av,if_pos rfl];refine⟨rfl,Nat.le_refl _,?_⟩
   cases s with
   |d fr t=>cases t<;>simp [aU]at h2
   |o e=>simp only [aU,List.cons.injEq,Prod.mk.injEq,true_and,and_true]at h2;subst h2;simp
   |m e=>simp only [aU,List.cons.injEq,Prod.mk.injEq,true_and,and_true]at h2;subst h2;simp
   |w e=>simp [aU]at h2
  .obtain⟨g1,g2,g3⟩:=lh (q0:=q0) h
   have:af (aU q s x.1).2 p=none:=by
    cases hl:af (aU q s x.1).2 p with
    |none=>rfl
    |some b'=>obtain⟨h3,_⟩:=fV (fp hl);omega
   rw [this];exact⟨g1,by omega,g3⟩
theorem zJ{hs:List Sh}{x:bZ hs}{q p:Nat}(hp:p<q):af ((an hs x q).flatMap (·.2)) p=none:=by
 cases hl:af ((an hs x q).flatMap (·.2)) p with
 |none=>rfl
 |some b=>have:=(lh (q0:=0) (fp hl)).2.1;omega
theorem Ie{ks:KS}{h:Sh}{c:KC}{x:h.T}{p:Nat}(hrd:RdC ks h c x)(ho:dY c=some p):∃b,af ks.bl p=some b/\b≠ .dead:=by
 cases h with
 |d fr t=>
  obtain⟨_,h2⟩:=hrd;cases c<;>simp [dY]at ho
  .subst ho;cases t<;>simp [ij,noB]at h2
  .subst ho;cases t<;>simp [ij,noB]at h2
 |o e=>obtain⟨e',q,ne,rfl,h2⟩:=hrd;simp [dY]at ho;subst ho;exact⟨_,h2,by simp⟩
 |w e=>obtain⟨e',q,ne,rfl,h2⟩:=hrd;simp [dY]at ho;subst ho;exact⟨_,h2,by simp⟩
 |m e=>
  rcases hrd with⟨rfl,h2⟩|⟨e',q,rfl,h2⟩|⟨e',q,ne,rfl,h2,h3⟩
  .simp [dY]at ho
  .simp [dY]at ho;subst ho;exact⟨_,h2,by simp⟩
  .simp [dY]at ho;subst ho;exact⟨_,h2,by simp⟩
theorem rC:∀{cs:List KC} {p:Nat},p∈aY cs->∃(j:Nat) (c:KC),cs[j]? =some c/\dY c=some p
 | [],p,h=>by simp [aY]at h
 |a::cs,p,h=>by
  by_cases ha:dY a=some p
  .exact⟨0,a,rfl,ha⟩
  .have:p∈aY cs:=by
    cases a<;>simp [aY]at h<;>first|exact h|(rcases h with h|h;exact absurd (by simp [dY,h]) ha;exact h)
   obtain⟨j,c,h1,h2⟩:=rC this;exact⟨j+1,c,by simpa using h1,h2⟩
theorem xU{ks:KS}:∀{hs:List Sh} {cs:List KC} {x:bZ hs} {j:Nat} {c:KC},RdCs ks hs cs x->cs[j]? =some c->∃h y,RdC ks h c y
 | [],cs,x,j,c,hrd,hj=>by rw [show cs= []from hrd]at hj;simp at hj
 | [h],cs,x,j,c,⟨a,e,hrd⟩,hj=>by
  subst e
  cases j with
  |zero=>simp at hj;subst hj;exact⟨h,x,hrd⟩
  |succ j=>simp at hj
 |h::h'::r,cs,x,j,c,⟨a,s,e,hrd,hrd2⟩,hj=>by
  subst e
  cases j with
  |zero=>simp at hj;subst hj;exact⟨h,x.1,hrd⟩
  |succ j=>exact xU hrd2 (by simpa using hj)
theorem mJ{ks:KS}{hs:List Sh}{cs:List KC}{x:bZ hs}{p:Nat}(hrd:RdCs ks hs cs x)(hp:p∈aY cs):∃b,af ks.bl p=some b/\b≠ .dead:=by
 obtain⟨j,c,h1,h2⟩:=rC hp;obtain⟨h,y,h3⟩:=xU hrd h1;exact Ie h3 h2
theorem lk{F:KF}{ks:KS}:∀{l:List Nat} {i:Nat} {d:KD},af (jS F ks l) i=some d->af ks.sl i=some d
 | [],i,d,h=>by simp [jS,af]at h
 |a::l,i,d,h=>by
  unfold jS at h;split at h
  .rename_i d0 h0;rw [av]at h;split at h
   .rename_i hi;cases h;subst hi;exact h0
   .exact lk h
  .exact lk h
theorem ir{F:KF}{ks:KS}(h:ez F ks=true){i:Nat}{d:KD}(hd:af F.sl i=some d):af ks.sl i=none/\fT F ks i=some d:=by
 have h1:af ks.sl i=none:=by
  have:=List.all_eq_true.1 h (i,d) (fp hd)
  simpa using this
 exact⟨h1,by unfold fT aH;rw [h1];exact hd⟩
theorem jk{F F':KF}{ks ks':KS}:∀{bs:List (Nat×List Sh)} {w:List KC},(∀v∈bs,cG F' ks' v.1=cG F ks v.1)->cZ F' ks' bs w=cZ F ks bs w
 | [],w,h=>rfl
 |v::r,w,h=>by
  unfold cZ;rw [h v (by simp)]
  cases cG F ks v.1 with
  |none=>exact jk λv' hv=>h v' (by simp [hv])
  |some q=>simp only;rw [jk λv' hv=>h v' (by simp [hv])]
theorem fX{F:KF}{ks:KS}:∀{bs:List (Nat×List Sh)} {b:List KC},il F ks bs=some b->∀v∈bs,∃p cs,cG F ks v.1=some p/\af ks.bl p=some (.box cs)
 | [],b,hb,v,hv=>by simp at hv
 |v0::r,b,hb,v,hv=>by
  unfold il at hb
  cases hp:cG F ks v0.1 with
  |none=>rw [hp]at hb;simp at hb
  |some q=>
   rw [hp]at hb;simp only [zbS]at hb;split at hb
   .rename_i cs hcs;split at hb
    .rw [Option.map_eq_some_iff]at hb;obtain⟨b',g1,rfl⟩:=hb;rcases List.mem_cons.1 hv with rfl|hv
     .exact⟨q,cs,hp,hcs⟩
     .exact fX g1 v hv
    .simp at hb
   .simp at hb
theorem iu{F:KF}{ks:KS}{V:Vl}{f:Nat->D}{h:Heap}{pt:Pt}{R:Type}{r:R}{κ:bZ pt.sh->Option R}(hr:Rel F ks V f h)(hs:mz F ks pt κ=some r):∃cs x,cY F ks pt=some cs/\fv (aY cs)=true/\RdCs ks pt.sh cs x/\κ x=some r:=by
 unfold mz at hs;split at hs
 .rename_i cs hcs
  cases hn:fv (aY cs)with
  |false=>rw [hn]at hs;simp at hs
  |true=>
   rw [hn]at hs;obtain⟨x,h1,h2⟩:=tV (λp e ne l hl hne=>(hr.bl p _ (ah hl (by simp))).2.2.2 hne) (show ik ks pt.sh cs κ=some r from hs);exact⟨cs,x,hcs,hn,h2,h1⟩
 .simp at hs
theorem zK{F:KF}{ks:KS}{V:Vl}{f:Nat->D}{h:Heap}(hr:Rel F ks V f h){i p:Nat}(hp:cG F ks i=some p):p<ks.nx:=by
 unfold cG at hp;split at hp
 .rename_i q j hd;split at hp
  .cases hp;exact(hr.sl _ _ hd).2.1
  .simp at hp
 .simp at hp
theorem rD{F:KF}{ks:KS}{ws:List (BR×Ty)}{bs:List KB}{p:Nat}(h:∀v∈ws,dW F ks v.1≠some p):af (dG F ks ws bs) p=none:=by
 cases hl:af (dG F ks ws bs) p with
 |none=>rfl
 |some x=>
  obtain⟨j,v,h1,h2,h3⟩:=nI hl;exact absurd h3 (h v (List.mem_of_getElem? h1))
theorem ll{F F':KF}{ks ks':KS}:∀{ws:List (BR×Ty)} {bs:List KB},(∀v∈ws,dW F' ks' v.1=dW F ks v.1)->dG F' ks' ws bs=dG F ks ws bs
 | [],bs,h=>by simp [dG]
 |v::r,[],h=>by simp [dG]
 |v::r,b::bs,h=>by
  unfold dG;rw [h v (by simp)]
  cases dW F ks v.1 with
  |none=>exact ll λv' hv=>h v' (by simp [hv])
  |some q=>simp only;rw [ll λv' hv=>h v' (by simp [hv])]
theorem gu:∀(a b:List KC),aY (a++b)=aY a++aY b
 | [],b=>rfl
 |c::a,b=>by
  have:=gu a b
  cases c<;>simp [aY,this]
theorem ln{F:KF}{ks:KS}{pt:Pt}{cs:List KC}(hcs:cY F ks pt=some cs){v:BR×Ty}(hv:v∈pt.ws):∃p,dW F ks v.1=some p/\p∈aY cs:=by
 obtain⟨a,b,c,ha,hb,hc,rfl⟩:=dI hcs;obtain⟨j,hj⟩:=List.getElem?_of_mem hv;obtain⟨p,h1,h2⟩:=lf hc hj;refine⟨p,h1,?_⟩;rw [gu,gu];exact List.mem_append.2 (.inr (List.mem_append.2 (.inr (fU h2 rfl))))
theorem zL{F:KF}{ks:KS}{V:Vl}{f:Nat->D}{h:Heap}(hr:Rel F ks V f h){w:BR}{p:Nat}(hp:dW F ks w=some p):p<ks.nx:=by
 unfold dW at hp;split at hp
 .rename_i e q hc;cases hp
  cases w with
  |sl i j=>
   simp only [brC]at hc;split at hc
   .rename_i c hd;cases hc;exact(hr.sl _ _ hd).2.1
   .rename_i cs hd;exact(hr.sl _ _ hd).2.1 _ (List.mem_of_getElem? hc)
   .simp at hc
  |bx i j=>
   simp only [brC]at hc;split at hc
   .rename_i q hq;split at hc
    .rename_i cs hb
     have:aj F ks q=some (.box cs):=by unfold aj;rw [hb]
     exact(hr.bl _ _ this).2.1 _ (List.mem_of_getElem? hc)
    .simp at hc
   .simp at hc
 .simp at hp
theorem AO{a b:Ex}(h:mA a b=true):a=b:=by
 cases a<;>cases b<;>simp [mA]at h<;>first|rfl|(subst h;rfl)
theorem lq{F:KF}{ks:KS}:∀{bs:List (Nat×List Sh)} {v:Nat×List Sh} {p:Nat},v∈bs->cG F ks v.1=some p->p∈jh F ks bs
 | [],v,p,hv,_=>by simp at hv
 |w::r,v,p,hv,hp=>by
  unfold jh;rcases List.mem_cons.1 hv with rfl|hv
  .rw [hp];exact List.mem_cons_self
  .have:=lq hv hp
   split
   .exact List.mem_cons_of_mem _ this
   .exact this
theorem xV{F:KF}{ks:KS}{ds:List Nat}{p:Nat}{b:KB}(hl:af (ds.map (λp=>(p,KB.dead))++(ks.bl++F.bl)) p=some b)(hb:b≠ .dead):p ∉ ds/\aj F ks p=some b:=by
 rw [aD]at hl;unfold aH at hl;rcases nJ (l:=ds) (p:=p)with⟨h1,h2⟩|⟨h1,h2⟩
 .rw [h1]at hl;simp only [aD]at hl;refine⟨h2,?_⟩;unfold aj;rw [hl];cases b<;>first|rfl|exact absurd rfl hb
 .rw [h1]at hl;simp only [zsI]at hl;exact absurd hl.symm hb
def PostC(F:KF)(ks:KS)(V:Vl){R:Type}(κ:Ex->KS->Option R)(r:R)(e:Ex)(s:St):Prop:=∃ks' V' f',s.t=tab F.nt f'/\Rel F ks' V' f' s.h/\κ e ks'=some r/\Ext F ks V ks' V'
theorem PostC.ext{F:KF}{ks ks1:KS}{V V1:Vl}{R:Type}{κ:Ex->KS->Option R}{r:R}{e:Ex}{s:St}(he:Ext F ks V ks1 V1)(h:PostC F ks1 V1 κ r e s):PostC F ks V κ r e s:=let⟨ks',V',f',h1,h2,h3,h4⟩:=h;⟨ks',V',f',h1,h2,h3,he.trans h4⟩
def JX(F:KF)(ks:KS)(V:Vl)(keep dead:List Nat):(l:List (Ex×Pt))->XT l->Ex->St->Prop
 | [],x,_,_=>nomatch x
 |x::r,.inl v,e,s=>e=x.1/\∃V' f',s.t=tab F.nt f'/\Rel F (qZ F ks keep dead x.2 v) V' f' s.h/\Ext F ks V (qZ F ks keep dead x.2 v) V'
 |x::r,.inr v,e,s=>JX F ks V keep dead r v e s
theorem sd{F:KF}{ks:KS}{V:Vl}{keep dead:List Nat}:∀{l:List (Ex×Pt)},(∀x∈l,mA x.1 .normal=false)->∀(x:XT l) (s:St),¬JX F ks V keep dead l x .normal s
 | [],hl,x,s=>nomatch x
 |x::r,hl,.inl v,s=>λh=>by have:=hl x (by simp);rw [<-h.1]at this;simp [mA]at this
 |x::r,hl,.inr v,s=>sd (λz hz=>hl z (by simp [hz])) v s
theorem nK{F:KF}{ks:KS}{V:Vl}{keep dead:List Nat}{R:Type}{r:R}{κ:Ex->KS->Option R}:∀{l:List (Ex×Pt)} {x:XT l} {e:Ex} {s:St},afterX F ks keep dead l x κ=some r->JX F ks V keep dead l x e s->PostC F ks V κ r e s
 | [],x,e,s,h,hj=>nomatch x
 |x::l,.inl v,e,s,h,⟨he,V',f',h1,h2,h3⟩=>⟨_,V',f',h1,h2,by rw [he];exact h,h3⟩
 |x::l,.inr v,e,s,h,hj=>nK (l:=l) (x:=v) h hj
end K
end Ev
end
noncomputable section
namespace Ev
namespace K
open Go Go.RowKit
section
variable {E : Env} {y : Nat → cM} {n : Nat} {G : KG} {D0 : Nat}
theorem Ga{id:Nat}{l:List Oper}{Q:Ex->St->Prop}{t:List D}{H:Heap}(m:Nat)(hc:iJ l.toArray=some m)(hq:hZ l.toArray=true)(h1:bm (λt=>fZ E y n l.toArray (l.drop m) (Q .normal) {t,h:=H++List.replicate l.toArray.size .no}) (evR E (cpR E n) l.toArray (H++List.replicate l.toArray.size .no) H.length 0 (l.take m) t)):WpC E y n (.region id l.toArray true) Q {t,h:=H}:=by
 rw [yR]at h1
 cases hs:evQ E (cpR E n) l.toArray (H++List.replicate l.toArray.size .no) H.length 0 (l.take m) t with
 |none=>rw [hs]at h1;exact h1.elim
 |some t'=>
  rw [hs]at h1;obtain⟨s',⟨M1,h2⟩,h3⟩:=h1;obtain⟨M2,h4⟩:=ol _ _ _ _ _ _ _ (nm _ _ _ _ hs);have hq':fL l.toArray H.length (bef l.toArray) (λ_=> [])=true:=hq;refine⟨.normal,s',⟨max M1 M2,λq hm=> ?_⟩,h3⟩;simp only [evC,if_true,hc];unfold zP;simp only [zbB];rw [if_pos hq'];rw [fD,h4 q (by omega)];simp only [zbS]
  have:=h2 q (by omega)
  rw [fD]at this;rw [this];rfl
theorem xW{α:Type}{Q Q':α->Prop}{o:Option α}(h:bm Q o)(hq:∀a,Q a->Q' a):bm Q' o:=by
 cases o with
 |none=>exact h
 |some a=>exact hq a h
section loop
variable {F : KF} {ks : KS} {V : Vl} {f : Nat → D} {h : Heap} {a : xH} {cs : List KC} {x0 : bZ a.head.sh}
theorem rE(hok:ez F ks=true){i:Nat}{d:KD}(hd:af (al F ks a cs).sl i=some d):fT F ks i=some d:=by
 have hd':af (jS F ks a.keep++F.sl) i=some d:=hd;rw [aD]at hd';unfold aH at hd'
 cases hk:af (jS F ks a.keep) i with
 |none=>rw [hk]at hd';exact(ir hok hd').2
 |some d'=>rw [hk]at hd';cases hd';unfold fT aH;rw [lk hk]
theorem tX(hok:ez F ks=true){ks2:KS}(hok2:ez (al F ks a cs) ks2=true){pt:Pt}(hbs:jH F ks (al F ks a cs) pt=true):∀v∈pt.bs,cG (al F ks a cs) ks2 v.1=cG F ks v.1:=by
 intro v hv;have h1:=List.all_eq_true.1 ((Bool.and_eq_true _ _).mp hbs).1 v hv
 cases hl:af (al F ks a cs).sl v.1 with
 |none=>rw [hl]at h1;simp at h1
 |some d=>
  unfold cG;rw [(ir hok2 hl).2,rE hok hl]
theorem oF{pt:Pt}{v:bZ pt.sh}{p:Nat}{b:KB}(hl:af (aP F ks pt v).bl p=some b):af (cZ F ks pt.bs (((an pt.sh v ks.nx).map (·.1)).drop (fF pt.vs))) p=some b∨af (dG F ks pt.ws ((wCs pt.sh v).drop (fF pt.vs+jG pt.bs))) p=some b∨af ((an pt.sh v ks.nx).flatMap (·.2)) p=some b:=by
 have h1:af (cZ F ks pt.bs (((an pt.sh v ks.nx).map (·.1)).drop (fF pt.vs))++(dG F ks pt.ws ((wCs pt.sh v).drop (fF pt.vs+jG pt.bs))++(an pt.sh v ks.nx).flatMap (·.2))) p=some b:=hl;rw [aD]at h1;unfold aH at h1
 cases hb:af (cZ F ks pt.bs (((an pt.sh v ks.nx).map (·.1)).drop (fF pt.vs))) p with
 |some b'=>rw [hb]at h1;exact .inl h1
 |none=>
  rw [hb]at h1;change af (_++_) p=some b at h1;rw [aD]at h1;unfold aH at h1
  cases hc:af (dG F ks pt.ws ((wCs pt.sh v).drop (fF pt.vs+jG pt.bs))) p with
  |some b'=>rw [hc]at h1;exact .inr (.inl h1)
  |none=>rw [hc]at h1;exact .inr (.inr h1)
theorem jm{pt:Pt}{v:bZ pt.sh}{p:Nat}(h1:∀w∈pt.bs,cG F ks w.1≠some p)(h2:∀w∈pt.ws,dW F ks w.1≠some p)(hp:p<ks.nx):af (aP F ks pt v).bl p=none:=by
 cases hl:af (aP F ks pt v).bl p with
 |none=>rfl
 |some b=>
  rcases oF hl with h|h|h
  .rw [fq h1]at h;simp at h
  .rw [rD h2]at h;simp at h
  .rw [zJ hp]at h;simp at h
theorem oG{pt:Pt}{v:bZ pt.sh}{rest:List (Nat×KB)}{G:KF}{kb:KS}{p:Nat}{b:KB}(hkb:∀p,aH kb.bl G.bl p=af ((aP F ks pt v).bl++rest) p)(hb:aj G kb p=some b):af (cZ F ks pt.bs (((an pt.sh v ks.nx).map (·.1)).drop (fF pt.vs))) p=some b∨af (dG F ks pt.ws ((wCs pt.sh v).drop (fF pt.vs+jG pt.bs))) p=some b∨af ((an pt.sh v ks.nx).flatMap (·.2)) p=some b∨(af (aP F ks pt v).bl p=none/\af rest p=some b/\b≠ .dead):=by
 unfold aj at hb;rw [hkb,aD]at hb;unfold aH at hb
 cases hl:af (aP F ks pt v).bl p with
 |some b'=>
  rw [hl]at hb;have hbb:b'=b:=by cases b'<;>simp at hb<;>exact hb
  subst hbb;rcases oF hl with h1|h1|h1
  .exact .inl h1
  .exact .inr (.inl h1)
  .exact .inr (.inr (.inl h1))
 |none=>
  rw [hl]at hb
  cases hr:af rest p with
  |none=>rw [hr]at hb;simp at hb
  |some b'=>
   rw [hr]at hb
   cases b' with
   |dead=>simp at hb
   |_=>simp at hb;subst hb;exact .inr (.inr (.inr ⟨rfl,rfl,by simp⟩))
theorem oH{pt:Pt}{v:bZ pt.sh}{rest:List (Nat×KB)}{G:KF}{kb:KS}(hr:Rel F ks V f h)(hkb:∀p,aH kb.bl G.bl p=af ((aP F ks pt v).bl++rest) p){p:Nat}{b:KB}(hb:(p,b)∈(an pt.sh v ks.nx).flatMap (·.2)):aj G kb p=some b:=by
 obtain⟨g1,g2,g3⟩:=lh (q0:=0) hb;unfold aj;rw [hkb,aD];unfold aH
 have h1:af (aP F ks pt v).bl p=some b:=by
  show af (cZ F ks pt.bs (((an pt.sh v ks.nx).map (·.1)).drop (fF pt.vs))++(dG F ks pt.ws ((wCs pt.sh v).drop (fF pt.vs+jG pt.bs))++(an pt.sh v ks.nx).flatMap (·.2))) p=some b;rw [aD];unfold aH;rw [fq λw hw he=>by have:=zK hr he;omega];show af (_++_) p=some b;rw [aD];unfold aH;rw [rD λw hw he=>by have:=zL hr he;omega];exact g1
 rw [h1];cases b<;>first|rfl|exact absurd rfl g3
theorem Ce(hcs:cY F ks a.head=some cs){x:bZ a.head.sh}{p:Nat}(hp:p<ks.nx)(hd:p ∉ cd F ks a cs):af (aP F ks a.head x).bl p=none:=
 jm (λw hw he=>hd (List.mem_append.2 (.inr (lq hw he)))) (λw hw he=>hd (List.mem_append.2 (.inl (by
  obtain⟨q,h1,h2⟩:=ln hcs hw;rw [he]at h1;cases h1
  exact h2)))) hp
theorem oZ(hr:Rel F ks V f h)(hok:ez F ks=true)(hcs:cY F ks a.head=some cs)(hnd:fv (aY cs)=true)(hrd:RdCs ks a.head.sh cs x0):∃V1,Rel (al F ks a cs) (aP F ks a.head x0) V1 f h/\Agree ks.nx V V1/\LeB ks.nx (aj F ks) (aj (al F ks a cs) (aP F ks a.head x0)):=by
 have hkb:∀p,aH (aP F ks a.head x0).bl (al F ks a cs).bl p=af ((aP F ks a.head x0).bl++((cd F ks a cs).map (λp=>(p,KB.dead))++(ks.bl++F.bl))) p:=λp=>(aD _ _ p).symm;refine trans hr hcs hrd hnd (Nat.le_refl _) rfl rfl (λi d hd=> ?_) (λp b hb=> ?_) (λp b hb=>oH hr hkb hb) (λv hv p hp=>zK hr hp) (λv hv p hp=>zL hr hp)
 .have hd':aH (eW a.head.vs ((an a.head.sh x0 ks.nx).map (·.1))) (al F ks a cs).sl i=some d:=hd;unfold aH at hd'
  cases hl:af (eW a.head.vs ((an a.head.sh x0 ks.nx).map (·.1))) i with
  |some d'=>rw [hl]at hd';cases hd';exact .inl rfl
  |none=>
   rw [hl]at hd';have h1:=rE hok hd';exact .inr ⟨h1,(hr.sl i d h1).2.1⟩
 .rcases oG hkb hb with h1|h1|h1|⟨h1,h2,h3⟩
  .exact .inl h1
  .exact .inr (.inl h1)
  .exact .inr (.inr (.inl h1))
  .obtain⟨g1,g2⟩:=xV h2 h3;obtain⟨k1,k2,_⟩:=hr.bl p b g2;exact .inr (.inr (.inr ⟨g2,k1,k2,λhm=>g1 (List.mem_append.2 (.inl hm)),λv hv he=>g1 (List.mem_append.2 (.inr (lq hv he)))⟩))
variable {ks2 : KS} {V1 V2 : Vl} {f2 : Nat → D} {h2 : Heap} {x1 : bZ a.head.sh} {pt : Pt} {cs2 : List KC} {v : bZ pt.sh}
theorem tY(hr:Rel F ks V f h)(hcs:cY F ks a.head=some cs)(hext:Ext (al F ks a cs) (aP F ks a.head x1) V1 ks2 V2){p:Nat}{b:KB}(hb:af ((cd F ks a cs).map (λp=>(p,KB.dead))++(ks.bl++F.bl)) p=some b)(hd:b≠ .dead):aj (al F ks a cs) ks2 p=some b/\p<ks.nx/\ScB ks.nx b/\af ks2.bl p=none:=by
 obtain⟨g1,g2⟩:=xV hb hd;obtain⟨k1,k2,_⟩:=hr.bl p b g2;have h1:af (aP F ks a.head x1).bl p=none:=Ce hcs k1 g1;have h2:=hext.dom p (by show p<ks.nx+_;omega) h1;refine⟨?_,k1,k2,h2⟩;unfold aj aH;rw [h2]
 show(match af ((cd F ks a cs).map (λp=>(p,KB.dead))++(ks.bl++F.bl)) p with
  |some .dead=>none
  |x=>x)=some b
 rw [hb];cases b<;>first|rfl|exact absurd rfl hd
theorem tZ(hr:Rel F ks V f h)(hok2:ez (al F ks a cs) ks2=true)(hcs:cY F ks a.head=some cs)(hext:Ext (al F ks a cs) (aP F ks a.head x1) V1 ks2 V2)(hbs:jH F ks (al F ks a cs) pt=true):∀w∈pt.ws,∃p,dW (al F ks a cs) ks2 w.1=some p/\dW F ks w.1=some p:=by
 intro w hw;have h1:=List.all_eq_true.1 ((Bool.and_eq_true _ _).mp hbs).2 w hw;split at h1
 .rename_i p q hp hq;have hpq:p=q:=Nat.eq_of_beq_eq_true h1;subst hpq;refine⟨p,?_,hp⟩;have hsl:∀i d,fT (al F ks a cs) kNil i=some d->fT (al F ks a cs) ks2 i=some d:=λi d hd=>(ir hok2 (show af (al F ks a cs).sl i=some d from hd)).2
  have hpt:∀i d,cG (al F ks a cs) kNil i=some d->cG (al F ks a cs) ks2 i=some d:=by
   intro i d hd;unfold cG at hd ⊢;split at hd
   .rename_i p j hg;rw [hsl _ _ hg];exact hd
   .simp at hd
  unfold dW at hq ⊢
  have key:brC (al F ks a cs) kNil w.1=brC (al F ks a cs) ks2 w.1∨brC (al F ks a cs) kNil w.1=none:=by
   cases w.1 with
   |sl i j=>
    simp only [brC]
    cases hg:fT (al F ks a cs) kNil i with
    |none=>exact .inr rfl
    |some d=>rw [hsl _ _ hg];exact .inl rfl
   |bx i j=>
    simp only [brC]
    cases hg:cG (al F ks a cs) kNil i with
    |none=>exact .inr rfl
    |some d=>
     rw [hpt _ _ hg];simp only
     cases hl:aH kNil.bl (al F ks a cs).bl d with
     |none=>exact .inr rfl
     |some b=>
      cases b with
      |box bc=>
       obtain⟨_,_,_,g4⟩:=tY hr hcs hext (show af ((cd F ks a cs).map (λp=>(p,KB.dead))++(ks.bl++F.bl)) d=some (.box bc)from hl) (by simp)
       have:aH ks2.bl (al F ks a cs).bl d=some (.box bc):=by unfold aH;rw [g4];exact hl
       rw [this];exact .inl rfl
      |_=>exact .inr rfl
  rcases key with k|k
  .rw [<-k];exact hq
  .rw [k]at hq;simp at hq
 .simp at h1
theorem LG(hcs:cY F ks a.head=some cs)(hrd:RdCs ks a.head.sh cs x0)(hext:Ext (al F ks a cs) (aP F ks a.head x1) V1 ks2 V2){p:Nat}(hp:p<ks.nx)(hl:af ks.bl p=none):af ks2.bl p=none:=by
 obtain⟨ca,cb,cw,_,hcb,_,_⟩:=dI hcs;refine hext.dom p (by show p<ks.nx+_;omega) (jm (λw hw he=> ?_) (λw hw he=> ?_) hp)
 .obtain⟨q,c,j1,j2⟩:=fX hcb w hw;rw [he]at j1;cases j1;rw [hl]at j2;simp at j2
 .obtain⟨q,j1,j2⟩:=ln hcs hw;rw [he]at j1;cases j1;obtain⟨b,k1,_⟩:=mJ hrd j2;rw [hl]at k1;simp at k1
theorem AP{Fb:KF}{kb:KS}(hr:Rel F ks V f h)(hok:ez F ks=true)(hcs:cY F ks a.head=some cs)(hr2:Rel (al F ks a cs) ks2 V2 f2 h2)(hok2:ez (al F ks a cs) ks2=true)(hext:Ext (al F ks a cs) (aP F ks a.head x1) V1 ks2 V2)(hbs:jH F ks (al F ks a cs) pt=true)(hcs2:cY (al F ks a cs) ks2 pt=some cs2)(hnd2:fv (aY cs2)=true)(hrd2:RdCs ks2 pt.sh cs2 v)
  (hnt:Fb.nt=F.nt) (hnx:kb.nx=ks.nx+pt.sh.length) (hsl:∀i d,fT Fb kb i=some d->af (eW pt.vs ((an pt.sh v ks.nx).map (·.1))) i=some d∨af (al F ks a cs).sl i=some d) (hkb:∀p,aH kb.bl Fb.bl p=af ((aP F ks pt v).bl++((cd F ks a cs).map (λp=>(p,KB.dead))++(ks.bl++F.bl))) p):∃V3,Rel Fb kb V3 f2 h2/\Agree ks.nx V2 V3/\LeB ks.nx (aj (al F ks a cs) ks2) (aj Fb kb):=by
 have hptr:=tX hok hok2 hbs;have hrow:=tZ hr hok2 hcs hext hbs;have hnx2:ks.nx<=ks2.nx:=Nat.le_trans (by show ks.nx<=ks.nx+_;omega) hext.nx;obtain⟨ca,cb,cw,_,hcb2,_,_⟩:=dI hcs2;refine trans (N0:=ks.nx) hr2 hcs2 hrd2 hnd2 hnx2 hnt hnx (λi d hd=> ?_) (λp b hb=> ?_) (λp b hb=>oH hr hkb hb) (λw hw p hp=> ?_) (λw hw p hp=> ?_)
 .rcases hsl i d hd with h1|h1
  .exact .inl h1
  .have h3:=rE hok h1;exact .inr ⟨(ir hok2 h1).2,(hr.sl i d h3).2.1⟩
 .rw [jk hptr,ll (λw hw=>by obtain⟨q,e1,e2⟩:=hrow w hw;exact e1.trans e2.symm)];rcases oG hkb hb with h1|h1|h1|⟨h1,h3,h4⟩
  .exact .inl h1
  .exact .inr (.inl h1)
  .exact .inr (.inr (.inl h1))
  ·-- a block of the head's frame
   obtain⟨g1,g2,g3,g4⟩:=tY hr hcs hext h3 h4;refine .inr (.inr (.inr ⟨g1,g2,g3,λhm=> ?_,λw hw he=> ?_⟩))
   .obtain⟨b',e1,_⟩:=mJ hrd2 hm;rw [g4]at e1;simp at e1
   .obtain⟨p',c,e1,e2⟩:=fX hcb2 w hw;rw [he]at e1;cases e1;rw [g4]at e2;simp at e2
 .rw [hptr w hw]at hp;exact zK hr hp
 .obtain⟨q,e1,e2⟩:=hrow w hw;rw [hp]at e1;cases e1;exact zL hr e2
end loop
end
end K
end Ev
end
noncomputable section
namespace Ev
namespace K
open Go Go.RowKit
theorem vP{ids:List Nat}{p:Nat}(h:(!(ids.any (Nat.beq p)))=true):p ∉ ids:=by
 intro hp
 have:ids.any (Nat.beq p)=true:=List.any_eq_true.2 ⟨p,hp,Nat.beq_refl p⟩
 rw [this]at h;simp at h
theorem Gb{e:KE}{nid p:Nat}{bl bl':List (Nat×KB)}(h:af bl p=af bl' p):af (blE e nid bl) p=af (blE e nid bl') p:=by
 have h1:af (blU e bl) p=af (blU e bl') p:=by
  unfold blU
  cases e.upd with
  |none=>exact h
  |some x=>show af ((x.1,x.2)::bl) p=af ((x.1,x.2)::bl') p;rw [av,av,h]
 unfold blE
 cases e.new with
 |none=>exact h1
 |some b=>simp only [av,h1]
section free
variable {B B' : BK} {V : Vl} {ids : List Nat} (hb : ∀ p, p ∉ ids → B' p = B p)
include hb
theorem RC.free{c:KC}{x:C}(hf:oy ids c=true)(h:RC B V c x):RC B' V c x:=by
 cases c with
 |o e p=>intro e' ne l hl;rw [hb p (vP (ids:=ids) (p:=p) hf)]at hl;exact h e' ne l hl
 |m e p=>intro e' l hl;rw [hb p (vP (ids:=ids) (p:=p) hf)]at hl;exact h e' l hl
 |_=>exact h
theorem RCs.free:∀{l:List KC} {xs:List C},l.all (oy ids)=true->RCs B V l xs->RCs B' V l xs
 | [],xs,hf,h=>h
 |c::l,xs,hf,⟨x,s,e,h1,h2⟩=>by
  rw [List.all_cons,Bool.and_eq_true]at hf;exact⟨x,s,e,RC.free hb hf.1 h1,RCs.free hf.2 h2⟩
theorem RD1.free{k:KD}{d:D}(hf:ra ids k=true)(h:RD1 B V k d):RD1 B' V k d:=by
 cases k with
 |one c=>obtain⟨c',h1,h2⟩:=h;exact⟨c',h1,RC.free hb hf h2⟩
 |agg cs=>obtain⟨c',h1,h2⟩:=h;exact⟨c',h1,RCs.free hb hf h2⟩
 |tup ts=>exact h
omit hb in
theorem Gc{x:Bool×List KC}(hf:x.2.all (oy ids)=true):ra ids (mkD x)=true:=by
 obtain⟨b,cs⟩:=x
 cases b with
 |true=>exact hf
 |false=>match cs,hf with
  | [],hf=>exact hf
  | [c],hf=>simpa [mkD,ra]using hf
  |c::d::r,hf=>exact hf
theorem RTs.free:∀{l:List (Bool×List KC)} {xs:List D},(l.all λx=>x.2.all (oy ids))=true->RTs B V l xs->RTs B' V l xs
 | [],xs,hf,h=>h
 |c::l,xs,hf,⟨x,s,e,h1,h2⟩=>by
  rw [List.all_cons,Bool.and_eq_true]at hf;exact⟨x,s,e,RD1.free hb (Gc hf.1) h1,RTs.free hf.2 h2⟩
theorem RD.free{k:KD}{d:D}(hf:ra ids k=true)(h:RD B V k d):RD B' V k d:=by
 cases k with
 |one c=>exact RD1.free (k:= .one c) hb hf h
 |agg cs=>exact RD1.free (k:= .agg cs) hb hf h
 |tup ts=>obtain⟨ds,h1,h2⟩:=h;exact⟨ds,h1,RTs.free hb hf h2⟩
theorem BlkIs.free{b:KB}{x:Blk}(hf:FA ids b=true)(h:BlkIs B V x b):BlkIs B' V x b:=by
 cases b with
 |box cs=>obtain⟨sz,cs',g1,g2⟩:=h;exact⟨sz,cs',g1,RCs.free hb hf g2⟩
 |rows e ne l=>exact h
 |mrows e l=>exact h
 |dead=>exact h
end free
theorem zM{ids:List Nat}{tag:Nat}{d:KD}:ra ids (iA tag d)=ra ids d:=by
 unfold iA;split<;>rfl
section
variable {E : Env} {y : Nat → cM} {n : Nat} {F : KF} {ks : KS} {V : Vl} {f : Nat → D} {h : Heap} {M tag nid : Nat} {op : Op} {G : KG} {D0 : Nat} {R : Type} {r : R}
theorem fY{ids:List Nat}{p:Nat}:af (mD ids ks).bl p=if p∈ids then some .dead else af ks.bl p:=by
 show af (ids.map (λp=>(p,KB.dead))++ks.bl) p=_;rw [aD];unfold aH;rcases nJ (l:=ids) (p:=p)with⟨h1,h2⟩|⟨h1,h2⟩
 .rw [h1,if_neg h2]
 .rw [h1,if_pos h2]
theorem lr{ids:List Nat}{p:Nat}:aj F (mD ids ks) p=if p∈ids then none else aj F ks p:=by
 unfold aj aH;rw [fY];by_cases hp:p∈ids
 .rw [if_pos hp,if_pos hp]
 .rw [if_neg hp,if_neg hp]
theorem If{ids:List Nat}{e:KE}{p:Nat}(hp:p ∉ ids):Be F (mD ids ks) nid e p=Be F ks nid e p:=by
 have:=Gb (e:=e) (nid:=nid) (show af (mD ids ks).bl p=af ks.bl p by rw [fY,if_neg hp])
 unfold Be aj aH;simp only [this]
theorem Gd{ids ms:List Nat}(hr:Rel F ks V f h)(hm:∀p b,aj F ks p=some b->b.there->V.id p∈ms->p∈ids):Rel F (mD ids ks) V f (mask h ms):=by
 have hle:LeB ks.nx (aj F ks) (aj F (mD ids ks)):=λp hp=>by
  rw [lr];split
  .exact⟨λe ne l h=>by simp at h,λe l h=>by simp at h⟩
  .exact⟨λe ne l h=>⟨e,ne,l,h,rfl⟩,λe l h=>⟨e,l,h,rfl⟩⟩
 refine⟨λi d hd=> ?_,λp b hb=> ?_,λp q b b' hp hq=> ?_⟩
 .obtain⟨g1,g2,g3⟩:=hr.sl i d hd;exact⟨g1,g2,g3.mono g2 hle (Agree.refl _ _)⟩
 .rw [lr]at hb;split at hb
  .simp at hb
  .rename_i hp;obtain⟨g1,g2,g3⟩:=hr.bl p b hb;refine⟨g1,g2,?_⟩;have g4:=g3.mono g2 hle (Agree.refl _ _);by_cases ht:b.there
   .exact g4.heap (by rw [om,if_neg λhh=>hp (hm p b hb ht hh)])
   .cases b with
    |mrows e l=>exact λhl=>absurd hl ht
    |dead=>trivial
    |box cs=>exact absurd trivial ht
    |rows e ne l=>exact absurd trivial ht
 .rw [lr]at hp hq;split at hp
  .simp at hp
  .split at hq
   .simp at hq
   .exact hr.inj p q b b' hp hq
open Classical in
def oId(ks:KS)(V:Vl)(p:Nat):List Nat:=if∃b,af ks.bl p=some b/\b.there then [V.id p]else []
def nL(ks:KS)(V:Vl)(l:List Nat):List Nat:=l.flatMap (oId ks V)
def mK(ks:KS)(V:Vl)(O:List (List Nat)):List (List Nat):=O.map (nL ks V)
theorem jC{O:List (List Nat)}{j:Nat}:(mK ks V O).getD j []=nL ks V (O.getD j []):=by
 unfold mK;rw [List.getD_eq_getElem?_getD,List.getElem?_map,List.getD_eq_getElem?_getD];cases O[j]? <;>rfl
theorem jn{l:List Nat}{x:Nat}(h:x∈nL ks V l):∃p∈l,∃b,af ks.bl p=some b/\b.there/\x=V.id p:=by
 unfold nL at h;obtain⟨p,hp,hx⟩:=List.mem_flatMap.1 h;unfold oId at hx;split at hx
 .rename_i hh;obtain⟨b,h1,h2⟩:=hh;exact⟨p,hp,b,h1,h2,by simpa using hx⟩
 .simp at hx
theorem jo{b:KB}(h:b.there):b≠ .dead:=by rintro rfl;exact h
theorem mL(hr:Rel F ks V f h){p:Nat}{b:KB}(hp:aj F ks p=some b)(ht:b.there):V.id p<h.length:=
 let⟨_,hz⟩:=kX (hr.bl p b hp).2.2 ht;sQ hz
theorem AQ(hr:Rel F ks V f h):∀{os rs O:List (List Nat)},djB os rs O=true->DJ (mK ks V os) rs (mK ks V O)
 | [],rs,O,_=>by cases rs<;>trivial
 |o::os,[],O,_=>trivial
 |o::os,r::rs,O,hd=>by
  have hd':((r.all λj=>FD o (O.getD j []))&& djB os rs O)=true:=hd;rw [Bool.and_eq_true]at hd';refine⟨λj hj x hx=> ?_,AQ hr hd'.2⟩;rw [jC];intro hx2;obtain⟨p,p1,b,p2,p3,rfl⟩:=jn hx;obtain⟨q,q1,b',q2,q3,q4⟩:=jn hx2
  have:=hr.inj p q b b' (ah p2 (jo p3)) (ah q2 (jo q3)) p3 q3 q4
  subst this;have h1:=List.all_eq_true.1 hd'.1 j hj;unfold FD at h1;exact vP (List.all_eq_true.1 h1 p p1) q1
theorem Ig(hr:Rel F ks V f h){O:List (List Nat)}:∀l∈mK ks V O,∀k∈l,k<h.length:=by
 intro l hl k hk;obtain⟨o,h1,rfl⟩:=List.mem_map.1 hl;obtain⟨p,_,b,p2,p3,rfl⟩:=jn hk;exact mL hr (ah p2 (jo p3)) p3
section
variable {Rl O : List (List Nat)} {N : List (Bool × List Nat)} {nw : List (Nat × Nat)} {i j p q : Nat}
theorem xX(hj:j∈Rl.getD i [])(hp:p∈O.getD j []):p∈dR Rl O N nw i:=List.mem_flatMap.2 ⟨j,hj,List.mem_append.2 (.inl hp)⟩
theorem xY(hj:j∈Rl.getD i [])(hq:q∈(N.getD j (false,[])).2)(hp:af nw q=some p):p∈dR Rl O N nw i:=List.mem_flatMap.2 ⟨j,hj,List.mem_append.2 (.inr (List.mem_append.2 (.inl (List.mem_flatMap.2 ⟨q,hq,by rw [hp];exact List.mem_singleton.2 rfl⟩))))⟩
theorem xZ(hj:j∈Rl.getD i [])(hn:(N.getD j (false,[])).1=true)(hp:af nw j=some p):p∈dR Rl O N nw i:=List.mem_flatMap.2 ⟨j,hj,List.mem_append.2 (.inr (List.mem_append.2 (.inr (by rw [hn,hp];exact List.mem_singleton.2 rfl))))⟩
end
structure TInv(F:KF)(ks0:KS)(V0:Vl)(b w:Nat)(nw:List (Nat×Nat))(i:Nat)(ks:KS)(V:Vl)(f:Nat->D)(H:Heap):Prop where
 rel:Rel F ks V f H
 ext:Ext F ks0 V0 ks V
 len:H.length=b+w
 th:∀p bl,aj F ks p=some bl->bl.there->(p<ks0.nx/\∃b0,aj F ks0 p=some b0/\b0.there)∨∃j,af nw j=some p
 nw:∀j q,af nw j=some q->j<i/\V.id q=b+j/\q<ks.nx
 free:∀j,i<=j->ai H (b+j)=none
section
variable {ks0 : KS} {V0 : Vl} {f0 : Nat → D} {h0 : Heap} {w i : Nat} {nw : List (Nat × Nat)} {H : Heap} {Rl O : List (List Nat)} {N : List (Bool × List Nat)}
theorem TInv.mask(hr0:Rel F ks0 V0 f0 h0)(hi:TInv F ks0 V0 h0.length w nw i ks V f H){p:Nat}{bl:KB}(hp:aj F ks p=some bl)(ht:bl.there)(hm:V.id p∈(Rl.getD i []).flatMap (ay h0.length (mK ks0 V0 O) N)):p∈dR Rl O N nw i:=by
 obtain⟨j,hj,hx⟩:=List.mem_flatMap.1 hm;unfold ay at hx;rw [jC]at hx;rcases hi.th p bl hp ht with⟨h1,b0,h2,h3⟩|⟨j0,h1⟩
 .rw [(hi.ext.agree p h1).1]at hx;have hlt:=mL hr0 h2 h3;rcases List.mem_append.1 hx with hx|hx
  .obtain⟨q,q1,b1,q2,q3,q4⟩:=jn hx
   have:=hr0.inj p q b0 b1 h2 (ah q2 (jo q3)) h3 q3 q4
   subst this;exact xX hj q1
  .exfalso;rcases List.mem_append.1 hx with hx|hx
   .obtain⟨k,_,hk⟩:=List.mem_map.1 hx;omega
   .split at hx
    .have:=List.mem_singleton.1 hx;omega
    .simp at hx
 .obtain⟨h2,h3,h4⟩:=hi.nw j0 p h1;rw [h3]at hx;rcases List.mem_append.1 hx with hx|hx
  .obtain⟨q,q1,b1,q2,q3,q4⟩:=jn hx
   have:=mL hr0 (ah q2 (jo q3)) q3
   omega
  .rcases List.mem_append.1 hx with hx|hx
   .obtain⟨k,k1,k2⟩:=List.mem_map.1 hx
    have:k=j0:=by omega
    subst this;exact xY hj k1 h1
   .split at hx
    .rename_i hn
     have:=List.mem_singleton.1 hx
     have:j0=j:=by omega
     subst this;exact xZ hj hn h1
    .simp at hx
theorem jD{b:KB}(h1:isM b=false)(h2:b≠ .dead):b.there:=by
 cases b with
 |mrows e l=>simp [isM]at h1
 |dead=>exact absurd rfl h2
 |box cs=>trivial
 |rows e ne l=>trivial
theorem Ih(hr0:Rel F ks0 V0 f0 h0)(hi:TInv F ks0 V0 h0.length w nw i ks V f H){p:Nat}{b0:KB}(hb:af ks.bl p=some b0)(hd:b0≠ .dead){uo:List (Nat×Blk)}(huo:(b0.there/\∃x,uo= [(V.id p,x)])∨(¬b0.there/\uo= [])):∀(P Q:List Nat),tH ks0 ks nw p P Q=true->uo.map (·.1)=nL ks0 V0 P++Q.map (h0.length+·)/\∀x∈nL ks0 V0 P++Q.map (h0.length+·),x<h0.length+i
 | [q],[],ho=>by
  have ho':(Nat.beq p q && FC ks0 ks p)=true:=ho;rw [Bool.and_eq_true]at ho'
  have:=Nat.eq_of_beq_eq_true ho'.1
  subst this;have h2:=ho'.2;unfold FC at h2;split at h2
  .rename_i x0 y0 hx0 hy0;rw [hb]at hy0;cases hy0;have hx0d:x0≠ .dead:=by rintro rfl;simp at h2
   have hm:isM x0=isM b0:=by
    cases x0 with
    |dead=>exact absurd rfl hx0d
    |_=>simpa using h2
   have hp0:=(hr0.bl p x0 (ah hx0 hx0d)).1
   have key:x0.there↔b0.there:=by
    cases x0 with
    |dead=>exact absurd rfl hx0d
    |box cs=>exact⟨λ_=>jD hm.symm hd,λ_=>trivial⟩
    |rows e ne l=>exact⟨λ_=>jD hm.symm hd,λ_=>trivial⟩
    |mrows e l=>cases b0 with
     |mrows e' l'=>
      obtain⟨e1,l1,g1,g2⟩:=(hi.ext.le p hp0).2 e' l' (ah hb hd);rw [ah hx0 hx0d]at g1;cases g1;show l≠[]↔l'≠[];rw [<-List.length_pos_iff,<-List.length_pos_iff,g2]
     |_=>simp [isM]at hm
   have e1:nL ks0 V0 [p]=oId ks0 V0 p:=by simp [nL]
   rw [e1,List.map_nil,List.append_nil];rcases huo with⟨h3,x,rfl⟩|⟨h3,rfl⟩
   .have h4:oId ks0 V0 p= [V0.id p]:=if_pos ⟨x0,hx0,key.2 h3⟩;rw [h4]
    have:=mL hr0 (ah hx0 hx0d) (key.2 h3)
    exact⟨by show [V.id p]=_;rw [(hi.ext.agree p hp0).1],λz hz=>by have:=List.mem_singleton.1 hz;omega⟩
   .have h4:oId ks0 V0 p= []:=if_neg λ⟨b,g1,g2⟩=>by rw [hx0]at g1;cases g1;exact h3 (key.1 g2)
    rw [h4];exact⟨rfl,λz hz=>by simp at hz⟩
  .simp at h2
 | [],[j],ho=>by
  have ho':zw ks nw p j=true:=ho;unfold zw at ho';rw [Bool.and_eq_true]at ho';obtain⟨h1,h2⟩:=ho';split at h1
  .rename_i q hq
   have:=Nat.eq_of_beq_eq_true h1
   subst this;rw [hb]at h2;have hth:b0.there:=jD (by simpa using h2) hd;obtain⟨k1,k2,k3⟩:=hi.nw j p hq;rcases huo with⟨_,x,rfl⟩|⟨h3,_⟩
   .refine⟨?_,λz hz=> ?_⟩
    .show [V.id p]=_;rw [k2];simp [nL]
    .have:z=h0.length+j:=by simpa [nL]using hz
     omega
   .exact absurd hth h3
  .simp at h1
 | [],[],ho=>by simp [tH]at ho
 | [],_::_::_,ho=>by simp [tH]at ho
 | [_],_::_,ho=>by simp [tH]at ho
 |_::_::_,_,ho=>by simp [tH]at ho
theorem Ge(hr0:Rel F ks0 V0 f0 h0)(hi:TInv F ks0 V0 h0.length w nw i ks V f H){e:KE}{ids:List Nat}(hef:tI ks0 ks O N nw i ids e=true)(hupd:∀p b,e.upd=some (p,b)->∃b0,af ks.bl p=some b0/\b0≠ .dead/\ScB ks.nx b/\b0.like b)(hnew:∀b,e.new=some b->ScB ks.nx b/\b≠ .dead){B':BK}{V':Vl}{u:List (Nat×Blk)}(hreal:FG B' V' V ks (h0.length+i) e u):
  u.map (·.1)=ay h0.length (mK ks0 V0 O) N i/\∀x∈ay h0.length (mK ks0 V0 O) N i,x<h0.length+(i+1):=by
 unfold tI at hef;simp only [Bool.and_eq_true]at hef;obtain⟨⟨_,h2⟩,h3⟩:=hef;obtain⟨uo,un,rfl,huo,hun⟩:=hreal
 have hO:uo.map (·.1)=nL ks0 V0 (O.getD i [])++(N.getD i (false,[])).2.map (h0.length+·)/\∀x∈nL ks0 V0 (O.getD i [])++(N.getD i (false,[])).2.map (h0.length+·),x<h0.length+i:=by
  cases hu:e.upd with
  |none=>
   rw [hu]at huo h2;simp only [Bool.and_eq_true,List.isEmpty_iff]at h2;rw [show uo= []from huo,h2.1,h2.2];exact⟨rfl,λx hx=>by simp [nL]at hx⟩
  |some z=>
   obtain⟨p,b⟩:=z;rw [hu]at huo h2;simp only [Bool.and_eq_true]at h2;obtain⟨b0,g1,g2,_,_⟩:=hupd p b hu;refine Ih hr0 hi g1 g2 ?_ _ _ h2.2;rcases huo with⟨x,k1,_,k2⟩|⟨k1,_,k2⟩
   .exact .inl ⟨k2 b0 g1,x,k1⟩
   .exact .inr ⟨k2 b0 g1,k1⟩
 have hN:un.map (·.1)=(if(N.getD i (false,[])).1 then [h0.length+i]else []):=by
  cases hn:e.new with
  |none=>
   rw [hn]at hun h3;have h3':(N.getD i (false,[])).1=false:=by simpa using h3
   rw [show un= []from hun,h3'];rfl
  |some b=>
   rw [hn]at hun h3;simp only [Bool.and_eq_true]at h3;rw [h3.1.1];have hth:b.there:=jD (by simpa using h3.2) (hnew b hn).2;rcases hun with⟨x,k1,_,_⟩|⟨_,k2⟩
   .rw [k1];rfl
   .exact absurd hth k2
 unfold ay;rw [jC,List.map_append,hO.1,hN,List.append_assoc];refine⟨rfl,λx hx=> ?_⟩;rw [<-List.append_assoc]at hx;rcases List.mem_append.1 hx with hx|hx
 .have:=hO.2 x hx;omega
 .split at hx
  .have:=List.mem_singleton.1 hx;omega
  .simp at hx
theorem ua:∀(u:List (Nat×Blk)) (H:Heap),(∀x∈u,x.1<H.length)->(Ev.apply H u).length=H.length
 | [],H,h=>rfl
 |x::u,H,h=>by
  have h1:=eP x.2 (h x (by simp));show(Ev.apply (ak H x.1 x.2) u).length=_;rw [ua u _ (λz hz=>by rw [h1];exact h z (by simp [hz])),h1]
theorem rF(hG:GOk G E D0)(hD:D0<=n){ops:Array Oper}{κ:KS->Option R}(hr0:Rel F ks0 V0 f0 h0):∀(l:List Oper) (i:Nat) (nw:List (Nat×Nat)) {ks:KS} {V:Vl} {f:Nat->D} {H:Heap},i+l.length=w->oz G F ops.toList Rl O N ks0 κ i nw l ks=some r->TInv F ks0 V0 h0.length w nw i ks V f H->bm (Post F ks0 V0 κ r) (evW E (cpR E n) ops h0.length (ay h0.length (mK ks0 V0 O) N) (λi=>(Rl.getD i []).flatMap (ay h0.length (mK ks0 V0 O) N)) i l {t:=tab F.nt f,h:=H})
 | [],i,nw,ks,V,f,H,hl,hs,hi=>⟨ks,V,f,rfl,hi.rel,hs,hi.ext⟩
 |o::l,i,nw,ks,V,f,H,hl,hs,hi=>by
  unfold oz at hs;obtain⟨bb,ks1,g1,g2,g3,g4,g5,g6⟩:=tT hi.rel hs;obtain⟨g,gg1,gg2⟩:=cC g2;have hl':i+1+l.length=w:=by rw [List.length_cons]at hl;omega
  cases bb with
  |false=>
   simp only [cond_false]at g1
   cases hq:zx O N i with
   |false=>rw [hq]at g1;simp at g1
   |true=>
    rw [hq]at g1;simp only [cond_true]at g1;obtain⟨k1,k2⟩:=rz g4 g3;have hi':TInv F ks0 V0 h0.length w nw (i+1) (tC o.dst ks1) V (upO o.dst aX f) H:=⟨k1,hi.ext.trans (g5.trans k2),hi.len,λp bl hp ht=>let⟨b0,q1,q2⟩:=g6 p bl hp ht;hi.th p b0 q1 q2,λj q hj=>let⟨q1,q2,q3⟩:=hi.nw j q hj;⟨by omega,q2,Nat.lt_of_lt_of_le q3 g5.nx⟩,λj hj=>hi.free j (by omega)⟩;have ih:=rF hG hD hr0 l (i+1) nw hl' g1 hi'
    have hU:ay h0.length (mK ks0 V0 O) N i= []:=by
     unfold zx at hq;simp only [Bool.and_eq_true,List.isEmpty_iff,Bool.not_eq_true']at hq;unfold ay;rw [jC,hq.1.1,hq.1.2,hq.2];rfl
    cases ho:o.dst with
    |none=>rw [ho]at ih;exact EH gg1 ho (eo gg2) (by rw [hU];rfl) (by rw [hU];rfl) (eT _) ih
    |some d=>
     rw [ho]at ih g3;exact xg gg1 ho (cV (by simpa [fk]using g3)) (eo gg2) (by rw [hU];rfl) (by rw [hU];rfl) (eT _) (by rw [fy];exact ih)
  |true=>
   simp only [cond_true]at g1;obtain⟨op',ks2,k1,k2,k3,k4,k5,k6⟩:=tU (E:=E) (n:=n) g4 g1;have hi2:TInv F ks0 V0 h0.length w nw i ks2 V f H:=⟨k4,hi.ext.trans (g5.trans k5),hi.len,λp bl hp ht=>let⟨b0,q1,q2⟩:=(g6.trans k6) p bl hp ht;hi.th p b0 q1 q2,λj q hj=>let⟨q1,q2,q3⟩:=hi.nw j q hj;⟨q1,q2,Nat.lt_of_lt_of_le q3 (g5.trans k5).nx⟩,hi.free⟩;have hmr:=Gd (ids:=dR Rl O N nw i) (ms:=(Rl.getD i []).flatMap (ay h0.length (mK ks0 V0 O) N)) hi2.rel λp bl hp ht hm=>hi2.mask hr0 hp ht hm;obtain⟨e,e1,e2⟩:=rp (M:=ks2.nx+2) hG hD hmr (Nat.le_refl _) (Nat.le_succ _) (by show ks2.nx<_;omega) (by show ks2.nx+1<_;omega) k1;have e1':cond (tI ks0 ks2 O N nw i (dR Rl O N nw i) e) (oz G F ops.toList Rl O N ks0 κ (i+1) (nwE e i (ks2.nx+1) nw) l (zu o.dst ks2.nx (ks2.nx+1) e ks2)) none=some r:=e1
   cases hef:tI ks0 ks2 O N nw i (dR Rl O N nw i) e with
   |false=>rw [hef]at e1';simp at e1'
   |true=>
    rw [hef]at e1';simp only [cond_true]at e1';obtain⟨bo,hrun⟩:=e2.run;obtain⟨v,u,s1,s2,s3⟩:=hrun (h0.length+i)
    have hnot:∀p b,e.upd=some (p,b)->p ∉ dR Rl O N nw i:=λp b hb hp=>by
     obtain⟨b0,q1,q2,_⟩:=e2.upd p b hb;rw [fY,if_pos hp]at q1;cases q1;exact q2 rfl
    have hupd:∀p b,e.upd=some (p,b)->∃b0,af ks2.bl p=some b0/\b0≠ .dead/\ScB ks2.nx b/\b0.like b:=λp b hb=>by
     obtain⟨b0,q1,q2⟩:=e2.upd p b hb;rw [fY,if_neg (hnot p b hb)]at q1;exact⟨b0,q1,q2⟩
    have hfr:=hef;unfold tI at hfr;simp only [Bool.and_eq_true]at hfr;obtain⟨⟨f1,f2⟩,f3⟩:=hfr;have hbe:∀p,p ∉ dR Rl O N nw i->Be F ks2 (ks2.nx+1) e p=Be F (mD (dR Rl O N nw i) ks2) (ks2.nx+1) e p:=λp hp=>(If hp).symm;have s2':RD (Be F ks2 (ks2.nx+1) e) (V.set (ks2.nx+1) (h0.length+i) ks2.nx bo) (iA ks2.nx e.v) v:=RD.free hbe (by rw [zM];exact f1) s2
    have s3':FG (Be F ks2 (ks2.nx+1) e) (V.set (ks2.nx+1) (h0.length+i) ks2.nx bo) V ks2 (h0.length+i) e u:=by
     obtain⟨uo,un,q1,q2,q3⟩:=s3;refine⟨uo,un,q1,?_,?_⟩
     .cases hu:e.upd with
      |none=>rw [hu]at q2;exact q2
      |some z=>
       obtain⟨p,b⟩:=z;have hp:=hnot p b hu;rw [hu]at q2 f2;simp only [Bool.and_eq_true]at f2;have hlk:af (mD (dR Rl O N nw i) ks2).bl p=af ks2.bl p:=by rw [fY,if_neg hp]
       rcases q2 with⟨x,z1,z2,z3⟩|⟨z1,z2,z3⟩
       .exact .inl ⟨x,z1,BlkIs.free hbe f2.1 z2,λb0 hb0=>z3 b0 (by rw [hlk];exact hb0)⟩
       .exact .inr ⟨z1,z2,λb0 hb0=>z3 b0 (by rw [hlk];exact hb0)⟩
     .cases hn:e.new with
      |none=>rw [hn]at q3;exact q3
      |some b=>
       rw [hn]at q3 f3;simp only [Bool.and_eq_true]at f3;rcases q3 with⟨x,z1,z2,z3⟩|⟨z1,z2⟩
       .exact .inl ⟨x,z1,BlkIs.free hbe f3.1.2 z2,z3⟩
       .exact .inr ⟨z1,z2⟩
    obtain⟨t1,t2⟩:=Ge hr0 hi2 hef hupd e2.new s3';have hnone:ai H (h0.length+i)=none:=hi2.free i (Nat.le_refl _);have hh:=kY u H (ru k4 hupd s3' hnone);obtain⟨w1,w2⟩:=rt (M:=ks2.nx+2) k4 (Nat.le_refl _) (Nat.le_succ _) (by omega) (by omega) g3 hupd e2.new e2.sc s2' s3' (λ_=>hnone) hh;have hult:∀x∈u,x.1<h0.length+(i+1):=λx hx=>t2 x.1 (t1▸List.mem_map_of_mem hx)
    have hi':TInv F ks0 V0 h0.length w (nwE e i (ks2.nx+1) nw) (i+1) (zu o.dst ks2.nx (ks2.nx+1) e ks2) (V.set (ks2.nx+1) (h0.length+i) ks2.nx bo) (upO o.dst v f) (Ev.apply H u):=by
     have hnwl:∀j q,af nw j=some q->af (nwE e i (ks2.nx+1) nw) j=some q:=λj q hj=>by
      unfold nwE;split
      .rw [av,if_neg (by have:=(hi2.nw j q hj).1;omega)];exact hj
      .exact hj
     refine⟨w1,hi2.ext.trans w2,?_,?_,?_,?_⟩
     .rw [ua u H (λx hx=>by have:=hult x hx;rw [hi2.len];omega),hi2.len]
     .intro p bl hp ht
      have hold:∀b0,aj F ks2 p=some b0->b0.there->(p<ks0.nx/\∃b0,aj F ks0 p=some b0/\b0.there)∨∃j,af (nwE e i (ks2.nx+1) nw) j=some p:=λb0 z1 z2=>by
       rcases hi2.th p b0 z1 z2 with h1|⟨j,hj⟩
       .exact .inl h1
       .exact .inr ⟨j,hnwl j p hj⟩
      have hp':Be F ks2 (ks2.nx+1) e p=some bl:=hp;rcases rq (λb hb=>(e2.new b hb).2) hp' with⟨rfl,h1⟩|h1|⟨h1,h2,h3⟩
      .refine .inr ⟨i,?_⟩;unfold nwE;rw [h1];simp only [av,if_true]
      .obtain⟨b0,z1,z2,_,_⟩:=hupd p bl h1;refine hold b0 (ah z1 z2) ?_;obtain⟨uo,un,q1,q2,q3⟩:=s3';rw [h1]at q2;rcases q2 with⟨x,_,_,z3⟩|⟨_,z3,_⟩
       .exact z3 b0 z1
       .exact absurd ht z3
      .exact hold bl h3 ht
     .intro j q hj
      have hcase:(j=i/\q=ks2.nx+1)∨af nw j=some q:=by
       unfold nwE at hj;split at hj
       .rw [av]at hj;split at hj
        .rename_i hji;cases hj;exact .inl ⟨hji,rfl⟩
        .exact .inr hj
       .exact .inr hj
      rcases hcase with⟨rfl,rfl⟩|hj
      .exact⟨Nat.lt_succ_self _,Vl.set_id,by show _<ks2.nx+2;omega⟩
      .obtain⟨z1,z2,z3⟩:=hi2.nw j q hj;exact⟨by omega,by rw [(w2.agree q z3).1,z2],by show _<ks2.nx+2;omega⟩
     .intro j hj;rw [hh.out _ λx hx=>by have:=hult x hx;omega];exact hi2.free j (by omega)
    have ih:=rF hG hD hr0 l (i+1) _ hl' e1' hi';have hst:=(dC gg2).trans ((k2 (h0.length+i) _).trans s1)
    have hall:(ay h0.length (mK ks0 V0 O) N i).all (·<H.length)=true:=List.all_eq_true.2 λx hx=>by
     have:=t2 x hx
     have h3:=hi2.len;exact decide_eq_true (by omega)
    cases ho:o.dst with
    |none=>rw [ho]at ih;exact EH gg1 ho hst t1 hall rfl ih
    |some d=>
     rw [ho]at ih g3;exact xg gg1 ho (cV (by simpa [fk]using g3)) hst t1 hall rfl (by rw [fy];exact ih)
theorem Cf(hG:GOk G E D0)(hD:D0<=n){id:Nat}{l:List Oper}{κ:Ex->KS->Option R}(hq:cL ⟨l⟩=true)(hn:gI ⟨l⟩ N=true)(hdj:djB O (dz ⟨l⟩) O=true)(hold:vA ks O=true)(hs:oz G F l (dz ⟨l⟩) O N ks (κ .normal) 0 [] l ks=some r)(hr:Rel F ks V f h):WpC E y n (.region id ⟨l⟩ true) (λe s=>∃ks' V' f',s.t=tab F.nt f'/\Rel F ks' V' f' s.h/\κ e ks'=some r/\Ext F ks V ks' V') {t:=tab F.nt f,h:=h}:=by
 refine sY l.length rfl (mK ks V O) N (dz ⟨l⟩) hq hn rfl (AQ hr hdj) (Ig hr) λh' h1 h2=> ?_;refine rF (ops:=⟨l⟩) (w:=l.length) hG hD hr l 0 [] (by omega) hs ⟨hr.heap h2,Ext.refl _ _ _,h1,λp bl hp ht=> .inl ⟨(hr.bl p bl hp).1,bl,hp,ht⟩,λj q hj=>by simp [af]at hj,λj hj=> ?_⟩;rw [h2];unfold ai;rw [List.getElem?_eq_none (by omega)]
end
end
end K
end Ev
end
end Go.Proofs.Ytjjbpdldbdmoeaa
