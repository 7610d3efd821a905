/- Texts of a claim, joined. -/
import Derived.Test.YthkgcllekhnecaaZS7
set_option linter.unusedVariables false
set_option linter.unusedSimpArgs false
namespace Go.Proofs.Ythkgcllekhnecaa
noncomputable section
namespace Ev
namespace K
open Go Go.RowKit
def RdC(ks:KS):(h:Sh)→KC→h.T→Prop
 | .d fr t,c,x=>(fr=true→frC c=true)∧lg noB t c=some x
 | .o e,c,l=>∃e' p ne,c= .o e' p∧ae ks.bl p=some (.rows e ne l)
 | .w e,c,l=>∃e' p ne,c= .o e' p∧ae ks.bl p=some (.rows e ne l)
 | .m e,c,l=>(c= .nil∧l= [])∨(∃e' p,c= .m e' p∧ae ks.bl p=some (.mrows e l))∨∃e' p ne,c= .o e' p∧ae ks.bl p=some (.rows e ne l)∧l≠[]
def RdCs(ks:KS):(hs:List Sh)→List KC→cl hs→Prop
 | [],cs,_=>cs= []
 | [h],cs,x=>∃c,cs= [c]∧RdC ks h c x
 |h::h'::r,cs,x=>∃c s,cs=c::s∧RdC ks h c x.1∧RdCs ks (h'::r) s x.2
section
variable {ks : KS} {R : Type} {r : R}
theorem EL(hne:∀p e ne l,ae ks.bl p=some (.rows e ne l)→ne=true→l≠[]){h:Sh}{c:KC}{κ:h.T→Option R}(hs:Aa ks h c κ=some r):∃x,κ x=some r∧RdC ks h c x:=by
 unfold Aa at hs;split at hs
 ·rename_i fr t _ κ;split at hs
  ·simp at hs
  ·rename_i hc;rw [zbE]at hs;obtain⟨x,h1,h2⟩:=hs;exact⟨x,h2,fun hf=>by cases hb:frC c with|true=>rfl|false=>exact absurd ⟨hf,hb⟩ hc,h1⟩
 ·rename_i e e1 p _ κ;split at hs
  ·rename_i e' ne l hp;rw [zbE]at hs;obtain⟨l2,h1,h2⟩:=hs;obtain⟨he,h1⟩:=aU h1;cases he;subst h1;exact⟨_,h2,_,_,_,rfl,hp⟩
  ·simp at hs
 ·rename_i e e1 p _ κ;split at hs
  ·rename_i e' ne l hp;rw [zbE]at hs;obtain⟨l2,h1,h2⟩:=hs;obtain⟨he,h1⟩:=aU h1;cases he;subst h1;exact⟨_,h2,_,_,_,rfl,hp⟩
  ·simp at hs
 ·exact⟨_,hs,.inl ⟨rfl,rfl⟩⟩
 ·rename_i e e1 p _ κ;split at hs
  ·rename_i e' l hp;rw [zbE]at hs;obtain⟨l2,h1,h2⟩:=hs;obtain⟨he,h1⟩:=aU h1;cases he;subst h1;exact⟨_,h2,.inr (.inl ⟨_,_,rfl,hp⟩)⟩
  ·simp at hs
 ·rename_i e e1 p _ κ;split at hs
  ·rename_i e' ne l hp;rw [zbE]at hs;obtain⟨l2,h1,h2⟩:=hs;obtain⟨he,h1⟩:=aU h1;cases he;subst h1
   cases ne with
   |true=>exact⟨_,h2,.inr (.inr ⟨_,_,true,rfl,hp,hne _ _ _ _ hp rfl⟩)⟩
   |false=>
    simp only [cond_false,zbE]at h2;obtain⟨u,h3,h4⟩:=h2;refine⟨_,h4,.inr (.inr ⟨_,_,false,rfl,hp,?_⟩)⟩;intro he;change neL l=some u at h3;rw [he]at h3;simp [neL]at h3
  ·simp at hs
 ·simp at hs
theorem Ap(hne:∀p e ne l,ae ks.bl p=some (.rows e ne l)→ne=true→l≠[]):∀{hs:List Sh} {cs:List KC} {R:Type} {r:R} {κ:cl hs→Option R},lh ks hs cs κ=some r→∃x,κ x=some r∧RdCs ks hs cs x
 | [],[],R,r,κ,h=>⟨(),h,rfl⟩
 | [h],[c],R,r,κ,hs=>by
  obtain⟨x,h1,h2⟩:=EL hne (show Aa ks h c κ=some r from hs);exact⟨x,h1,c,rfl,h2⟩
 |h::h'::t,c::cs,R,r,κ,hs=>by
  obtain⟨x,h1,h2⟩:=EL hne (show Aa ks h c (fun x=>lh ks (h'::t) cs fun y=>κ (x,y))=some r from hs);obtain⟨y,h3,h4⟩:=Ap hne h1;exact⟨(x,y),h3,c,cs,rfl,h2,h4⟩
 | [],_::_,_,_,_,h=>by simp [lh]at h
 | [_],[],_,_,_,h=>by simp [lh]at h
 | [_],_::_::_,_,_,_,h=>by simp [lh]at h
 |_::_::_,[],_,_,_,h=>by simp [lh]at h
theorem RdCs.len:∀{hs:List Sh} {cs:List KC} {x:cl hs},RdCs ks hs cs x→cs.length=hs.length
 | [],cs,x,h=>by rw [show cs= []from h];rfl
 | [h],cs,x,⟨c,e,_⟩=>by rw [e];rfl
 |h::h'::r,cs,x,⟨c,s,e,_,h2⟩=>by rw [e,List.length_cons,h2.len];rfl
end
def fk:KC→Option Nat
 | .o _ p=>some p
 | .m _ p=>some p
 |_=>none
theorem jg:∀{cs:List KC} {j p:Nat} {c:KC},cs[j]? =some c→fk c=some p→p∈bm cs
 | [],j,p,c,h,_=>by simp at h
 |a::cs,0,p,c,h,h2=>by
  simp at h;subst h;cases a<;>simp [fk]at h2<;>subst h2<;>simp [bm]
 |a::cs,j+1,p,c,h,h2=>by
  have:=jg (cs:=cs) (by simpa using h) h2
  cases a<;>simp [bm,this]
theorem oN:∀{cs:List KC} {i j p:Nat} {c d:KC},ig (bm cs)=true→cs[i]? =some c→cs[j]? =some d→fk c=some p→fk d=some p→i=j
 | [],i,j,p,c,d,_,h,_,_,_=>by simp at h
 |a::cs,0,0,p,c,d,_,_,_,_,_=>rfl
 |a::cs,i+1,j+1,p,c,d,hn,h1,h2,h3,h4=>by
  have:ig (bm cs)=true:=by
   cases a<;>simp only [bm,ig,Bool.and_eq_true]at hn<;>first|exact hn|exact hn.2
  have hh:=oN (i:=i) (j:=j) this (by simpa using h1) (by simpa using h2) h3 h4;rw [hh]
 |a::cs,0,j+1,p,c,d,hn,h1,h2,h3,h4=>by
  have hm:=jg (cs:=cs) (j:=j) (by simpa using h2) h4;simp at h1;subst h1
  have key:∀q,fk a=some q→bm (a::cs)=q::bm cs:=by
   intro q hq;cases a<;>simp [fk]at hq<;>subst hq<;>rfl
  rw [key p h3]at hn;simp only [ig,Bool.and_eq_true,Bool.not_eq_true',List.any_eq_false]at hn;exact absurd (Nat.beq_refl p) (by simpa using hn.1 p hm)
 |a::cs,i+1,0,p,c,d,hn,h1,h2,h3,h4=>by
  have hm:=jg (cs:=cs) (j:=i) (by simpa using h1) h3;simp at h2;subst h2
  have key:∀q,fk a=some q→bm (a::cs)=q::bm cs:=by
   intro q hq;cases a<;>simp [fk]at hq<;>subst hq<;>rfl
  rw [key p h4]at hn;simp only [ig,Bool.and_eq_true,Bool.not_eq_true',List.any_eq_false]at hn;exact absurd (Nat.beq_refl p) (by simpa using hn.1 p hm)
def hid(V:Vl)(c:KC):Nat:=
 match fk c with
 |some p=>V.id p
 |none=>0
def hbo:(h:Sh)→h.T→Bool
 | .d _ .B,x=>x
 |_,_=>false
def GC:(hs:List Sh)→cl hs→List Bool
 | [],_=> []
 | [h],x=> [hbo h x]
 |h::h'::r,x=>hbo h x.1::GC (h'::r) x.2
def mkV(V:Vl)(N:Nat)(cs:List KC)(bs:List Bool):Vl:=⟨fun q=>if q<N then V.id q else match cs[q - N]? with
 |some c=>hid V c
 |none=>0,fun q=>if q<N then V.bo q else bs.getD (q - N) false⟩
theorem Jx{V:Vl}{N:Nat}{cs:List KC}{bs:List Bool}:Agree N V (mkV V N cs bs):=fun q hq=>⟨if_pos hq,if_pos hq⟩
theorem Mc{V:Vl}{N j:Nat}{cs:List KC}{bs:List Bool}{c:KC}(h:cs[j]? =some c):(mkV V N cs bs).id (N+j)=hid V c:=by
 show(if N+j<N then V.id (N+j)else _)=_;rw [if_neg (by omega),Nat.add_sub_cancel_left,h]
theorem Qq{V:Vl}{N j:Nat}{cs:List KC}{bs:List Bool}{b:Bool}(h:bs[j]? =some b):(mkV V N cs bs).bo (N+j)=b:=by
 show(if N+j<N then V.bo (N+j)else _)=_;rw [if_neg (by omega),Nat.add_sub_cancel_left,List.getD_eq_getElem?_getD,h];rfl
def TrL(Ba:BK)(Va:Vl)(Bb:BK)(Vb:Vl)(M:Nat):List KC→List KC→Prop
 | [],ws=>ws= []
 |c::cs,ws=>∃w s,ws=w::s∧(∀x,RC Ba Va c x→RC Bb Vb w x)∧Sc M w∧TrL Ba Va Bb Vb M cs s
section
variable {Ba Bb : BK} {Va Vb : Vl} {M : Nat}
theorem TrL.rcs:∀{cs ws:List KC} {xs:List C},TrL Ba Va Bb Vb M cs ws→RCs Ba Va cs xs→RCs Bb Vb ws xs
 | [],ws,xs,h,hr=>by rw [show ws= []from h];exact hr
 |c::cs,ws,xs,⟨w,s,e,h1,_,h2⟩,⟨x,t,e2,h3,h4⟩=>by
  subst e;exact⟨x,t,e2,h1 x h3,TrL.rcs h2 h4⟩
theorem TrL.scs:∀{cs ws:List KC},TrL Ba Va Bb Vb M cs ws→Scs M ws
 | [],ws,h=>by rw [show ws= []from h];exact fun c hc=>by simp at hc
 |c::cs,ws,⟨w,s,e,_,h1,h2⟩=>by
  subst e
  exact fun d hd=>by
   rcases List.mem_cons.1 hd with rfl|hd
   ·exact h1
   ·exact TrL.scs h2 d hd
theorem TrL.take:∀{a b ws:List KC},TrL Ba Va Bb Vb M (a++b) ws→TrL Ba Va Bb Vb M a (ws.take a.length)
 | [],b,ws,h=>rfl
 |c::a,b,ws,⟨w,s,e,h1,h2,h3⟩=>by subst e;exact⟨w,_,rfl,h1,h2,TrL.take h3⟩
theorem TrL.drop:∀{a b ws:List KC},TrL Ba Va Bb Vb M (a++b) ws→TrL Ba Va Bb Vb M b (ws.drop a.length)
 | [],b,ws,h=>h
 |c::a,b,ws,⟨w,s,e,h1,h2,h3⟩=>by subst e;exact TrL.drop (a:=a) h3
theorem xB{ka:KS}{F:KF}{q:Nat}{h:Sh}{c:KC}{x:h.T}(hrd:RdC ka h c x)(hBa:Ba=ao F ka)(hid':Vb.id q=hid Va c)(hbo':Vb.bo q=hbo h x)(hB:∀b,(q,b)∈(bg q h x).2→Bb q=some b)(hw:∀e,h= .w e→∀b,Bb q≠some b)(hq:q<M):(∀y,RC Ba Va c y→RC Bb Vb (bg q h x).1 y)∧Sc M (bg q h x).1:=by
 subst hBa
 cases h with
 |d fr t=>
  obtain⟨h1,h2⟩:=hrd
  cases t with
  |B=>
   refine⟨fun y hy=> ?_,trivial⟩
   have hy2:y=bC x:=by
    have h3:frC c=true:=by
     cases c<;>first|rfl|(simp [lg]at h2)
    have:=oI h2 h3 hy
    simpa [Ty.row,pC,bT,bC]using this
   exact hy2
  |I k=>
   refine⟨fun y hy=> ?_,trivial⟩
   have h3:frC c=true:=by
    cases c<;>first|rfl|(simp [lg]at h2)
   have:=oI h2 h3 hy
   show y=iC k x;simpa [Ty.row,pC,iT,iC]using this
  |S e=>
   refine⟨fun y hy=> ?_,trivial⟩;show∃f,y= .p f (Sl.t e.row x)∧(fr=true→f=true)
   cases c with
   |nil=>
    have:=Option.some.inj (show some (⟨false,0,[]⟩:Sl e.val)=some x from h2)
    subst this;exact⟨true,hy,fun _=>rfl⟩
   |s e' fr' z=>
    obtain⟨he,h3⟩:=aU (show fg (.S e') (.S e) z=some x from h2);cases he;subst h3;obtain⟨f,g1,g2⟩:=hy;exact⟨f,g1,fun hf=>g2 (h1 hf)⟩
   |o e' p=>simp [lg,noB]at h2
   |m e' p=>simp [lg,noB]at h2
   |_=>simp [lg]at h2
  |U=>cases c<;>simp [lg]at h2
  |C a b=>cases c<;>simp [lg]at h2
 |o e=>
  obtain⟨e',p,ne,rfl,h2⟩:=hrd;refine⟨fun y hy=> ?_,hq⟩;intro e2 ne2 l2 hl;rw [hB (.rows e false x) (by simp [bg])]at hl;simp only [zsI,KB.rows.injEq]at hl;obtain⟨rfl,_,hl⟩:=hl;rw [←eq_of_heq hl,hid'];exact hy _ _ _ (al h2 (by simp))
 |w e=>exact⟨fun y hy e2 ne2 l2 hl=>absurd hl (hw e rfl _),hq⟩
 |m e=>
  refine⟨fun y hy=> ?_,hq⟩;intro e2 l2 hl;rw [hB (.mrows e x) (by simp [bg])]at hl;simp only [zsI,KB.mrows.injEq]at hl;obtain⟨rfl,hl⟩:=hl;rw [←eq_of_heq hl,hid'];rcases hrd with⟨rfl,h2⟩|⟨e',p,rfl,h2⟩|⟨e',p,ne,rfl,h2,h3⟩
  ·change x= []at h2;rw [h2];exact hy
  ·exact hy _ _ (al h2 (by simp))
  ·have h4:=hy _ _ _ (al (F:=F) h2 (by simp));rw [h4];change x≠[]at h3;show _=moC x (hid Va (.o e' p))
   cases hx:x with
   |nil=>exact absurd hx h3
   |cons a l=>rfl
theorem sY{ka:KS}{F:KF}(hBa:Ba=ao F ka):∀{hs:List Sh} {cs:List KC} {x:cl hs} (q:Nat),RdCs ka hs cs x→(∀j c,cs[j]? =some c→Vb.id (q+j)=hid Va c)→(∀j b,(GC hs x)[j]? =some b→Vb.bo (q+j)=b)→(∀p b,(p,b)∈(av hs x q).flatMap (·.2)→Bb p=some b)→(∀(j:Nat) e,hs[j]? =some (.w e)→∀b,Bb (q+j)≠some b)→q+hs.length≤M→TrL Ba Va Bb Vb M cs ((av hs x q).map (·.1))
 | [],cs,x,q,hrd,h1,h2,h3,h5,h4=>by rw [show cs= []from hrd];exact rfl
 | [h],cs,x,q,⟨c,e,hrd⟩,h1,h2,h3,h5,h4=>by
  subst e;obtain⟨g1,g2⟩:=xB (Bb:=Bb) (Vb:=Vb) (M:=M) hrd hBa (by simpa using h1 0 c rfl) (by simpa using h2 0 (hbo h x) rfl) (fun b hb=>h3 q b (by simpa [av]using hb)) (fun e he b=>by have:=h5 0 e (by rw [he];rfl) b;simpa using this) (by simp at h4;omega);exact⟨_,[],rfl,g1,g2,rfl⟩
 |h::h'::r,cs,x,q,⟨c,s,e,hrd,hrd2⟩,h1,h2,h3,h5,h4=>by
  subst e;simp only [List.length_cons]at h4;obtain⟨g1,g2⟩:=xB (Bb:=Bb) (Vb:=Vb) (M:=M) hrd hBa (by simpa using h1 0 c rfl) (by simpa using h2 0 (hbo h x.1) rfl) (fun b hb=>h3 q b (by simp only [av,List.flatMap_cons,List.mem_append];exact .inl hb)) (fun e he b=>by have:=h5 0 e (by rw [he];rfl) b;simpa using this) (by omega);refine⟨_,_,rfl,g1,g2,sY hBa (q+1) hrd2 (fun j c hc=> ?_) (fun j b hb=> ?_) (fun p b hb=>h3 p b (by simp only [av,List.flatMap_cons,List.mem_append];exact .inr hb)) (fun j e he b=>by rw [show q+1+j=q+(j+1)by omega];exact h5 (j+1) e (by simpa using he) b) (by simp only [List.length_cons];omega)⟩
  ·rw [show q+1+j=q+(j+1)by omega];exact h1 (j+1) c (by simpa using hc)
  ·rw [show q+1+j=q+(j+1)by omega];exact h2 (j+1) b (by simpa [GC]using hb)
end
theorem jh{q p:Nat}{h:Sh}{x:h.T}{b:KB}(hb:(p,b)∈(bg q h x).2):p=q∧(bg q h x).2= [(q,b)]:=by
 cases h with
 |d fr t=>cases t<;>simp [bg]at hb
 |o e=>simp only [bg,List.mem_singleton,Prod.mk.injEq]at hb;obtain⟨rfl,rfl⟩:=hb;exact⟨rfl,rfl⟩
 |w e=>simp [bg]at hb
 |m e=>simp only [bg,List.mem_singleton,Prod.mk.injEq]at hb;obtain⟨rfl,rfl⟩:=hb;exact⟨rfl,rfl⟩
theorem kD{ka:KS}:∀{hs:List Sh} {cs:List KC} {x:cl hs} {q p:Nat} {b:KB},RdCs ka hs cs x→(p,b)∈(av hs x q).flatMap (·.2)→∃(j:Nat) (c:KC) (h:Sh) (y:h.T),p=q+j∧(j<hs.length∧hs[j]? =some h)∧cs[j]? =some c∧RdC ka h c y∧(bg p h y).2= [(p,b)]
 | [],cs,x,q,p,b,hrd,hb=>by simp [av]at hb
 | [h],cs,x,q,p,b,⟨c,e,hrd⟩,hb=>by
  subst e;obtain⟨rfl,h2⟩:=jh (show(p,b)∈(bg q h x).2 by simpa [av]using hb);exact⟨0,c,h,x,rfl,⟨by simp,rfl⟩,rfl,hrd,h2⟩
 |h::h'::r,cs,x,q,p,b,⟨c,s,e,hrd,hrd2⟩,hb=>by
  subst e;simp only [av,List.flatMap_cons,List.mem_append]at hb;rcases hb with hb|hb
  ·obtain⟨rfl,h2⟩:=jh hb;exact⟨0,c,h,x.1,rfl,⟨by simp,rfl⟩,rfl,hrd,h2⟩
  ·obtain⟨j,c',h2,y,rfl,⟨g1,g0⟩,g2,g3,g4⟩:=kD hrd2 hb;exact⟨j+1,c',h2,y,by omega,⟨by simp only [List.length_cons]at g1 ⊢;omega,by simpa using g0⟩,by simpa using g2,g3,g4⟩
theorem Ia{ks:KS}:∀{hs:List Sh} {cs:List KC} {x:cl hs} {j:Nat} {c:KC} {e:Ty},RdCs ks hs cs x→cs[j]? =some c→hs[j]? =some (.w e)→∃e' p ne l,c= .o e' p∧ae ks.bl p=some (.rows e ne l)∧(wCs hs x)[j]? =some (.rows e false l)
 | [],cs,x,j,c,e,hrd,hc,hh=>by simp at hh
 | [h],cs,x,j,c,e,⟨c',e1,hrd⟩,hc,hh=>by
  subst e1
  cases j with
  |succ j=>simp at hc
  |zero=>
   simp at hc hh;subst hc hh;obtain⟨e',p,ne,rfl,h2⟩:=hrd;exact⟨e',p,ne,x,rfl,h2,rfl⟩
 |h::h'::r,cs,x,j,c,e,⟨c',s,e1,hrd,hrd2⟩,hc,hh=>by
  subst e1
  cases j with
  |succ j=>
   obtain⟨e',p,ne,l,h1,h2,h3⟩:=Ia hrd2 (by simpa using hc) (by simpa using hh);exact⟨e',p,ne,l,h1,h2,by simpa [wCs]using h3⟩
  |zero=>
   simp at hc hh;subst hc hh;obtain⟨e',p,ne,rfl,h2⟩:=hrd;exact⟨e',p,ne,x.1,rfl,h2,rfl⟩
theorem gZ{α:Type}:∀{l:List (Nat×α)} {i:Nat} {a:α},ae l i=some a→(i,a)∈l
 | [],i,a,h=>by simp [ae]at h
 |x::l,i,a,h=>by
  rw [show x::l=(x.1,x.2)::l from rfl,aB]at h;split at h
  ·rename_i hi;cases h;subst hi;exact List.mem_cons_self
  ·exact List.mem_cons_of_mem _ (gZ h)
end K
end Ev
end
noncomputable section
namespace Ev
namespace K
open Go Go.RowKit
section
variable {Fa Fb : KF} {ka kb : KS} {Va Vb : Vl} {f : Nat → D} {h : ah} {M N0 : Nat} {Bb : BK}
theorem ji:∀{vs:List (Nat×Bool×List Sh)} {a:List KC},mr Fa ka vs=some a→a.length=iv vs
 | [],a,ha=>by
  have:=Option.some.inj (show some []=some a from ha)
  subst this;rfl
 |v::r,a,ha=>by
  unfold mr at ha;have hl:iv (v::r)=v.2.2.length+iv r:=by unfold iv;rw [List.flatMap_cons,List.length_append]
  split at ha
  ·split at ha
   ·simp at ha
   ·split at ha
    ·rename_i h1;rw [Option.map_eq_some_iff]at ha;obtain⟨a',g1,rfl⟩:=ha;rw [List.length_cons,ji g1,hl,h1];omega
    ·simp at ha
  ·split at ha
   ·split at ha
    ·rename_i h1;rw [Option.map_eq_some_iff]at ha;obtain⟨a',g1,rfl⟩:=ha;rw [List.length_append,ji g1,hl,h1]
    ·simp at ha
   ·simp at ha
  ·simp at ha
theorem rZ(hr:Rel Fa ka Va f h):∀{vs:List (Nat×Bool×List Sh)} {a b wc:List KC},mr Fa ka vs=some a→TrL (ao Fa ka) Va Bb Vb M (a++b) wc→∀i d,ae (gA vs wc) i=some d→i<Fa.nt∧ScD M d∧RD Bb Vb d (f i)
 | [],a,b,wc,ha,hT,i,d,hd=>by simp [gA,ae]at hd
 |v::r,a,b,wc,ha,hT,i,d,hd=>by
  unfold mr at ha;unfold gA at hd;rw [aB]at hd;split at ha
  ·rename_i c hc;obtain⟨s1,s2,c',s3,s4⟩:=hr.sl _ _ hc;split at ha
   ·simp at ha
   ·rename_i hag;split at ha
    ·rename_i h1;rw [Option.map_eq_some_iff]at ha;obtain⟨a',g1,rfl⟩:=ha;obtain⟨w,s,rfl,t1,t2,t3⟩:=hT;rw [h1,if_neg hag]at hd;split at hd
     ·rename_i hi;cases hd;subst hi;exact⟨s1,t2,c',s3,t1 _ s4⟩
     ·exact rZ hr g1 t3 i d hd
    ·simp at ha
  ·rename_i cs hc;obtain⟨s1,s2,cs',s3,s4⟩:=hr.sl _ _ hc;split at ha
   ·rename_i hag;split at ha
    ·rename_i h1;rw [Option.map_eq_some_iff]at ha;obtain⟨a',g1,rfl⟩:=ha;rw [List.append_assoc]at hT;have t1:=TrL.take hT;have t2:=TrL.drop hT;rw [h1,if_pos hag]at hd;split at hd
     ·rename_i hi;cases hd;subst hi;exact⟨s1,TrL.scs t1,cs',s3,TrL.rcs t1 s4⟩
     ·exact rZ hr g1 t2 i d hd
    ·simp at ha
   ·simp at ha
  ·simp at ha
theorem Aq:∀{bs:List (Nat×List Sh)} {b c wc:List KC},lk Fa ka bs=some b→TrL (ao Fa ka) Va Bb Vb M (b++c) wc→∀p x,ae (dF Fa ka bs wc) p=some x→∃v∈bs,cQ Fa ka v.1=some p∧∃cs0 ws,ae ka.bl p=some (.box cs0)∧x= .box ws∧Scs M ws∧∀xs,RCs (ao Fa ka) Va cs0 xs→RCs Bb Vb ws xs
 | [],b,c,wc,hb,hT,p,x,hx=>by simp [dF,ae]at hx
 |v::r,b,c,wc,hb,hT,p,x,hx=>by
  unfold lk at hb;unfold dF at hx
  cases hp:cQ Fa ka v.1 with
  |none=>rw [hp]at hb;simp at hb
  |some q=>
   rw [hp]at hb hx;simp only [zbS]at hb;split at hb
   ·rename_i cs hcs;split at hb
    ·rename_i h1;rw [Option.map_eq_some_iff]at hb;obtain⟨b',g1,rfl⟩:=hb;rw [List.append_assoc]at hT;have t1:=TrL.take hT;have t2:=TrL.drop hT;simp only [h1]at hx;rw [aB]at hx;split at hx
     ·rename_i hi;cases hx;subst hi;exact⟨v,by simp,hp,cs,_,hcs,rfl,TrL.scs t1,fun xs hxs=>TrL.rcs t1 hxs⟩
     ·obtain⟨v',g2,g3⟩:=Aq g1 t2 p x hx;exact⟨v',by simp [g2],g3⟩
    ·simp at hb
   ·simp at hb
theorem hX{F:KF}{ks:KS}:∀{bs:List (Nat×List Sh)} {w:List KC} {p:Nat},(∀v∈bs,cQ F ks v.1≠some p)→ae (dF F ks bs w) p=none
 | [],w,p,h=>rfl
 |v::r,w,p,h=>by
  unfold dF
  cases hp:cQ F ks v.1 with
  |none=>exact hX fun v' hv=>h v' (by simp [hv])
  |some q=>
   simp only;rw [aB,if_neg (fun e=>h v (by simp) (by rw [hp,e]))];exact hX fun v' hv=>h v' (by simp [hv])
theorem GD{F:KF}{ks:KS}:∀{bs:List (Nat×List Sh)} {w:List KC} {p:Nat} {x:KB},ae (dF F ks bs w) p=some x→∃v∈bs,cQ F ks v.1=some p:=by
 intro bs w p x h;refine Classical.byContradiction fun hn=> ?_;rw [hX fun v hv he=>hn ⟨v,hv,he⟩]at h;simp at h
theorem oO:∀{bs:List (Nat×List Sh)} {b:List KC},lk Fa ka bs=some b→b.length=nh bs
 | [],b,hb=>by
  have:=Option.some.inj (show some []=some b from hb)
  subst this;rfl
 |v::r,b,hb=>by
  unfold lk at hb;have hl:nh (v::r)=v.2.length+nh r:=by unfold nh;rw [List.flatMap_cons,List.length_append]
  split at hb
  ·split at hb
   ·rename_i h1;rw [Option.map_eq_some_iff]at hb;obtain⟨b',g1,rfl⟩:=hb;rw [List.length_append,oO g1,hl,h1]
   ·simp at hb
  ·simp at hb
theorem oP:∀{ws:List (BR×Ty)} {c:List KC} {j:Nat} {v:BR×Ty},xf Fa ka ws=some c→ws[j]? =some v→∃p,fh Fa ka v.1=some p∧c[j]? =some (.o v.2 p)
 | [],c,j,v,hc,hv=>by simp at hv
 |v0::r,c,j,v,hc,hv=>by
  unfold xf at hc;split at hc
  ·rename_i p hp;rw [Option.map_eq_some_iff]at hc;obtain⟨c',g1,rfl⟩:=hc
   cases j with
   |zero=>simp at hv;subst hv;exact⟨p,hp,rfl⟩
   |succ j=>
    obtain⟨q,h1,h2⟩:=oP g1 (j:=j) (by simpa using hv);exact⟨q,h1,by simpa using h2⟩
  ·simp at hc
theorem eE{pt:Pt}{cs:List KC}(h:dE Fa ka pt=some cs):∃a b c,mr Fa ka pt.vs=some a∧lk Fa ka pt.bs=some b∧xf Fa ka pt.ws=some c∧cs=a++(b++c):=by
 unfold dE at h;rw [zbE]at h;obtain⟨a,ha,h⟩:=h;rw [zbE]at h;obtain⟨b,hb,h⟩:=h;rw [Option.map_eq_some_iff]at h;obtain⟨c,hc,rfl⟩:=h;exact⟨a,b,c,ha,hb,hc,rfl⟩
theorem sa:∀{ws:List (BR×Ty)} {bs:List KB} {p:Nat} {x:KB},ae (eC Fa ka ws bs) p=some x→∃(j:Nat) (v:BR×Ty),ws[j]? =some v∧bs[j]? =some x∧fh Fa ka v.1=some p
 | [],bs,p,x,h=>by simp [eC,ae]at h
 |v::r,[],p,x,h=>by simp [eC,ae]at h
 |v::r,b::bs,p,x,h=>by
  unfold eC at h
  have key:ae (eC Fa ka r bs) p=some x→∃(j:Nat) (v':BR×Ty),(v::r)[j]? =some v'∧(b::bs)[j]? =some x∧fh Fa ka v'.1=some p:=fun h=>by
   obtain⟨j,v',h1,h2,h3⟩:=sa h;exact⟨j+1,v',by simpa using h1,by simpa using h2,h3⟩
  split at h
  ·rename_i q hq;rw [aB]at h;split at h
   ·rename_i hi;cases h;subst hi;exact⟨0,v,rfl,rfl,hq⟩
   ·exact key h
  ·exact key h
theorem Ou{pt:Pt}{j:Nat}{v:BR×Ty}(h:pt.ws[j]? =some v):pt.sh[iv pt.vs+nh pt.bs+j]? =some (.w v.2):=by
 unfold Pt.sh iv nh;rw [←List.append_assoc,List.getElem?_append_right (by rw [List.length_append];omega),List.length_append,Nat.add_sub_cancel_left,List.getElem?_map,h];rfl
theorem Md{pt:Pt}{cs:List KC}{y:cl pt.sh}(hcs:dE Fa ka pt=some cs)(hrd:RdCs ka pt.sh cs y){p:Nat}{x:KB}(h:ae (eC Fa ka pt.ws ((wCs pt.sh y).drop (iv pt.vs+nh pt.bs))) p=some x):∃(j:Nat) (v:BR×Ty) (e:Ty) (ne:Bool) (l:List e.val),v∈pt.ws∧fh Fa ka v.1=some p∧ae ka.bl p=some (.rows e ne l)∧x= .rows e false l∧cs[j]? =some (.o e p)∧pt.sh[j]? =some (.w e):=by
 obtain⟨j,v,h1,h2,h3⟩:=sa h;obtain⟨a,b,c,ha,hb,hc,rfl⟩:=eE hcs;obtain⟨p',h4,h5⟩:=oP hc h1;rw [h3]at h4;cases h4
 have hj:(a++(b++c))[iv pt.vs+nh pt.bs+j]? =some (.o v.2 p):=by
  rw [←List.append_assoc,List.getElem?_append_right (by rw [List.length_append,ji ha,oO hb];omega),List.length_append,ji ha,oO hb,Nat.add_sub_cancel_left,h5]
 obtain⟨e',p',ne,l,g1,g2,g3⟩:=Ia hrd hj (Ou h1);cases g1;rw [List.getElem?_drop,g3]at h2;cases h2;exact⟨_,v,_,ne,l,List.mem_of_getElem? h1,h3,g2,rfl,hj,Ou h1⟩
theorem trans{pt:Pt}{cs:List KC}{y:cl pt.sh}(hr:Rel Fa ka Va f h)(hcs:dE Fa ka pt=some cs)(hrd:RdCs ka pt.sh cs y)(hnd:ig (bm cs)=true)(hN:N0≤ka.nx)(hnt:Fb.nt=Fa.nt)(hnx:kb.nx=N0+pt.sh.length)
  (hS:∀i d,jf Fb kb i=some d→ae (gA pt.vs ((av pt.sh y N0).map (·.1))) i=some d∨(jf Fa ka i=some d∧ScD N0 d))
  (hB1:∀p b,ao Fb kb p=some b→ae (dF Fa ka pt.bs (((av pt.sh y N0).map (·.1)).drop (iv pt.vs))) p=some b∨ae (eC Fa ka pt.ws ((wCs pt.sh y).drop (iv pt.vs+nh pt.bs))) p=some b∨ae ((av pt.sh y N0).flatMap (·.2)) p=some b∨(ao Fa ka p=some b∧p<N0∧ScB N0 b∧p ∉ bm cs∧∀v∈pt.bs,cQ Fa ka v.1≠some p))
  (hB2:∀p b,(p,b)∈(av pt.sh y N0).flatMap (·.2)→ao Fb kb p=some b) (hbx:∀v∈pt.bs,∀p,cQ Fa ka v.1=some p→p<N0) (hwx:∀v∈pt.ws,∀p,fh Fa ka v.1=some p→p<N0):∃Vb,Rel Fb kb Vb f h∧Agree N0 Va Vb∧LeB N0 (ao Fa ka) (ao Fb kb):=by
 have hlen:=hrd.len;have hag:Agree N0 Va (mkV Va N0 cs (GC pt.sh y)):=Jx;obtain⟨a,b,cw,ha,hb,hcw,hcse⟩:=eE hcs;have hbox0:∀p x,ae (dF Fa ka pt.bs (((av pt.sh y N0).map (·.1)).drop (iv pt.vs))) p=some x→∃v∈pt.bs,cQ Fa ka v.1=some p:=fun p x hx=>GD hx;have hrow:∀p x,ae (eC Fa ka pt.ws ((wCs pt.sh y).drop (iv pt.vs+nh pt.bs))) p=some x→∃(j:Nat) (v:BR×Ty) (e:Ty) (ne:Bool) (l:List e.val),v∈pt.ws∧fh Fa ka v.1=some p∧ae ka.bl p=some (.rows e ne l)∧x= .rows e false l∧cs[j]? =some (.o e p)∧pt.sh[j]? =some (.w e):=fun p x hx=>Md hcs hrd hx
 have hvac:∀(j:Nat) e,pt.sh[j]? =some (.w e)→∀x,ao Fb kb (N0+j)≠some x:=by
  intro j e hj x hx;rcases hB1 _ _ hx with h1|h1|h1|h1
  ·obtain⟨v,g1,g2⟩:=hbox0 _ _ h1
   have:=hbx v g1 _ g2;omega
  ·obtain⟨_,v,_,_,_,g1,g2,_⟩:=hrow _ _ h1
   have:=hwx v g1 _ g2;omega
  ·obtain⟨j',c,hh,yy,e1,⟨_,g0⟩,_,_,g4⟩:=kD hrd (gZ h1);obtain rfl:j=j':=by omega
   rw [hj]at g0;cases g0;simp [bg]at g4
  ·omega
 have hT:TrL (ao Fa ka) Va (ao Fb kb) (mkV Va N0 cs (GC pt.sh y)) kb.nx cs ((av pt.sh y N0).map (·.1)):=
  sY rfl N0 hrd (fun j c hc=>Mc hc) (fun j b hb=>Qq hb) hB2 hvac (by omega)
 have hids:∀(j:Nat) (c:KC),cs[j]? =some c→(mkV Va N0 cs (GC pt.sh y)).id (N0+j)=hid Va c:=fun j c hc=>Mc hc;generalize mkV Va N0 cs (GC pt.sh y)=Vb at hag hT hids;rw [hcse]at hT;have hT2:=TrL.drop hT;rw [ji ha]at hT2;have hbox:=Aq (M:=kb.nx) (c:=cw) hb hT2
 have hle:LeB N0 (ao Fa ka) (ao Fb kb):=by
  intro p hp
  have key:∀x,ao Fb kb p=some x→(∀cs,x≠ .box cs)→ao Fa ka p=some x∨∃e ne l,ao Fa ka p=some (.rows e ne l)∧x= .rows e false l:=by
   intro x hx hnb;rcases hB1 p x hx with h1|h1|h1|h1
   ·obtain⟨v,_,_,cs0,ws,_,e,_⟩:=hbox p x h1;exact absurd e (hnb ws)
   ·obtain⟨_,v,e,ne,l,_,_,g3,g4,_⟩:=hrow p x h1;exact .inr ⟨e,ne,l,al g3 (by simp),g4⟩
   ·obtain⟨j,c,hh,yy,e,_⟩:=kD hrd (gZ h1);omega
   ·exact .inl h1.1
  refine⟨fun e ne l hl=> ?_,fun e l hl=> ?_⟩
  ·rcases key _ hl (by simp)with h1|⟨e0,n0,l0,h1,h2⟩
   ·exact⟨e,ne,l,h1,rfl⟩
   ·cases h2;exact⟨_,_,_,h1,rfl⟩
  ·rcases key _ hl (by simp)with h1|⟨e0,n0,l0,h1,h2⟩
   ·exact⟨e,l,h1,rfl⟩
   ·cases h2
 -- where a block comes from
 have horg:∀p x,ao Fb kb p=some x→x.there→∃o x0,ao Fa ka o=some x0∧x0.there∧Vb.id p=Va.id o∧((∃j c hh,p=N0+j∧cs[j]? =some c∧fk c=some o∧(∀cs0,x0≠ .box cs0)∧pt.sh[j]? =some hh∧∀e,hh≠ .w e)∨(o=p∧((∃cs0,x0= .box cs0)∨(∃(j:Nat) (e:Ty),cs[j]? =some (.o e p)∧pt.sh[j]? =some (.w e))∨p ∉ bm cs))):=by
  intro p x hx ht;rcases hB1 p x hx with h1|h1|h1|⟨h1,h2,h3,h4,h5⟩
  ·obtain⟨v,g1,g2,cs0,ws,g3,e,_⟩:=hbox p x h1;exact⟨p,.box cs0,al g3 (by simp),trivial,(hag p (hbx v g1 p g2)).1,.inr ⟨rfl,.inl ⟨cs0,rfl⟩⟩⟩
  ·obtain⟨j,v,e,ne,l,g1,g2,g3,g4,g5,g6⟩:=hrow p x h1;exact⟨p,_,al g3 (by simp),trivial,(hag p (hwx v g1 p g2)).1,.inr ⟨rfl,.inr (.inl ⟨j,e,g5,g6⟩)⟩⟩
  ·obtain⟨j,c,hh,yy,rfl,⟨g1,g0⟩,g2,g3,g4⟩:=kD hrd (gZ h1);have hidj:Vb.id (N0+j)=hid Va c:=hids j c g2
   cases hh with
   |d fr t=>cases t<;>simp [bg]at g4
   |w e=>simp [bg]at g4
   |o e=>
    obtain⟨e',o,ne,rfl,g5⟩:=g3;exact⟨o,_,al g5 (by simp),trivial,hidj,.inl ⟨j,_,_,rfl,g2,rfl,by simp,g0,by simp⟩⟩
   |m e=>
    simp only [bg,List.cons.injEq,Prod.mk.injEq,true_and,and_true]at g4;subst g4;rcases g3 with⟨rfl,g5⟩|⟨e',o,rfl,g5⟩|⟨e',o,ne,rfl,g5,g6⟩
    ·exact absurd g5 ht
    ·exact⟨o,_,al g5 (by simp),ht,hidj,.inl ⟨j,_,_,rfl,g2,rfl,by simp,g0,by simp⟩⟩
    ·exact⟨o,_,al g5 (by simp),trivial,hidj,.inl ⟨j,_,_,rfl,g2,rfl,by simp,g0,by simp⟩⟩
  ·exact⟨p,x,h1,ht,(hag p h2).1,.inr ⟨rfl,.inr (.inr h4)⟩⟩
 refine⟨Vb,⟨?_,?_,?_⟩,hag,hle⟩
 ·intro i d hd;rcases hS i d hd with h1|⟨h1,h2⟩
  ·obtain⟨g1,g2,g3⟩:=rZ (M:=kb.nx) hr ha hT i d h1;exact⟨by rw [hnt];exact g1,g2,g3⟩
  ·obtain⟨g1,g2,g3⟩:=hr.sl i d h1;exact⟨by rw [hnt];exact g1,h2.mono (by omega),g3.mono h2 hle hag⟩
 ·intro p x hx;rcases hB1 p x hx with h1|h1|h1|⟨h1,h2,h3,h4,h5⟩
  ·obtain⟨v,g1,g2,cs0,ws,g3,rfl,g4,g5⟩:=hbox p x h1;obtain⟨k1,k2,sz,cs',k3,k4⟩:=hr.bl p _ (al g3 (by simp));have hp:=hbx v g1 p g2;exact⟨by omega,g4,sz,cs',by rw [(hag p hp).1];exact k3,g5 _ k4⟩
  ·obtain⟨j,v,e,ne,l,g1,g2,g3,rfl,_,_⟩:=hrow p x h1;obtain⟨k1,k2,k3,k4⟩:=hr.bl p _ (al g3 (by simp));have hp:=hwx v g1 p g2;exact⟨by omega,trivial,by rw [(hag p hp).1];exact k3,by simp⟩
  ·obtain⟨j,c,hh,yy,rfl,⟨g1,g0⟩,g2,g3,g4⟩:=kD hrd (gZ h1);have hidj:Vb.id (N0+j)=hid Va c:=hids j c g2;refine⟨by omega,?_⟩;rw [hidj]
   cases hh with
   |d fr t=>cases t<;>simp [bg]at g4
   |w e=>simp [bg]at g4
   |o e=>
    simp only [bg,List.cons.injEq,Prod.mk.injEq,true_and,and_true]at g4;subst g4;obtain⟨e',o,ne,rfl,g5⟩:=g3;obtain⟨k1,k2,k3,k4⟩:=hr.bl o _ (al g5 (by simp));exact⟨trivial,k3,by simp⟩
   |m e=>
    simp only [bg,List.cons.injEq,Prod.mk.injEq,true_and,and_true]at g4;subst g4;refine⟨trivial,fun hne=> ?_⟩;rcases g3 with⟨rfl,g5⟩|⟨e',o,rfl,g5⟩|⟨e',o,ne,rfl,g5,g6⟩
    ·exact absurd g5 hne
    ·exact(hr.bl o _ (al g5 (by simp))).2.2 hne
    ·exact(hr.bl o _ (al g5 (by simp))).2.2.1
  ·obtain⟨k1,k2,k3⟩:=hr.bl p x h1;exact⟨by omega,h3.mono (by omega),by rw [(hag p h2).1];exact k3.mono h3 hle hag⟩
 ·intro p q x x' hp hq tp tq hid;obtain⟨o,x0,g1,g2,g3,g4⟩:=horg p x hp tp;obtain⟨o',x0',g1',g2',g3',g4'⟩:=horg q x' hq tq;rw [g3,g3']at hid;have ho:=hr.inj o o' x0 x0' g1 g1' g2 g2' hid;subst ho;rw [g1]at g1';cases g1'
  have cross:∀(p q:Nat),(∃(j:Nat) (c:KC) (hh:Sh),p=N0+j∧cs[j]? =some c∧fk c=some o∧(∀cs0,x0≠ .box cs0)∧pt.sh[j]? =some hh∧∀e,hh≠ .w e)→(o=q∧((∃cs0,x0= .box cs0)∨(∃(j:Nat) (e:Ty),cs[j]? =some (.o e q)∧pt.sh[j]? =some (.w e))∨q ∉ bm cs))→False:=by
   intro p q ⟨j,c,hh,_,w2,w3,w4,w5,w6⟩ ⟨v1,v2⟩;subst v1;rcases v2 with⟨cs0,v2⟩|⟨j',e,v2,v3⟩|v2
   ·exact w4 cs0 v2
   ·obtain rfl:=oN hnd w2 v2 w3 rfl;rw [v3]at w5;cases w5;exact w6 e rfl
   ·exact v2 (jg w2 w3)
  rcases g4 with⟨j,c,hh,w1,w2,w3,w4,w5,w6⟩|w
  ·rcases g4' with⟨j',c',hh',v1,v2,v3,v4,v5,v6⟩|v
   ·have:=oN hnd w2 v2 w3 v3
    rw [w1,v1,this]
   ·exact(cross _ _ ⟨j,c,hh,w1,w2,w3,w4,w5,w6⟩ v).elim
  ·rcases g4' with v|v
   ·exact(cross _ _ v w).elim
   ·rw [←w.1,←v.1]
end
end K
end Ev
end
noncomputable section
namespace Ev
namespace K
open Go Go.RowKit
theorem aP{α:Type}:∀(l m:List (Nat×α)) (i:Nat),ae (l++m) i=aT l m i
 | [],m,i=>rfl
 |x::l,m,i=>by
  have:=aP l m i
  unfold aT at this ⊢;rw [show x::l++m=(x.1,x.2)::(l++m)from rfl,show x::l=(x.1,x.2)::l from rfl,aB,aB];split
  ·rfl
  ·exact this
theorem sb{l:List Nat}{p:Nat}:ae (l.map fun p=>(p,KB.dead)) p=none∧p ∉ l∨ae (l.map fun p=>(p,KB.dead)) p=some .dead∧p∈l:=by
 induction l with
 |nil=>exact .inl ⟨rfl,by simp⟩
 |cons a l ih=>
  rw [List.map_cons,aB];by_cases h:p=a
  ·subst h;exact .inr ⟨by rw [if_pos rfl],by simp⟩
  ·rw [if_neg h];rcases ih with⟨h1,h2⟩|⟨h1,h2⟩
   ·exact .inl ⟨h1,by simp [h,h2]⟩
   ·exact .inr ⟨h1,by simp [h2]⟩
theorem oQ{q0:Nat}:∀{hs:List Sh} {x:cl hs} {q p:Nat} {b:KB},(p,b)∈(av hs x q).flatMap (·.2)→ae ((av hs x q).flatMap (·.2)) p=some b∧q≤p∧b≠ .dead
 | [],x,q,p,b,h=>by simp [av]at h
 | [s],x,q,p,b,h=>by
  have h1:(p,b)∈(bg q s x).2:=by simpa [av]using h
  obtain⟨rfl,h2⟩:=jh h1;have h3:(av [s] x p).flatMap (·.2)= [(p,b)]:=by simpa [av]using h2
  rw [h3,aB,if_pos rfl];refine⟨rfl,Nat.le_refl _,?_⟩
  cases s with
  |d fr t=>cases t<;>simp [bg]at h2
  |o e=>simp only [bg,List.cons.injEq,Prod.mk.injEq,true_and,and_true]at h2;subst h2;simp
  |m e=>simp only [bg,List.cons.injEq,Prod.mk.injEq,true_and,and_true]at h2;subst h2;simp
  |w e=>simp [bg]at h2
 |s::s'::r,x,q,p,b,h=>by
  have e1:(av (s::s'::r) x q).flatMap (·.2)=(bg q s x.1).2++(av (s'::r) x.2 (q+1)).flatMap (·.2):=by simp [av]
  rw [e1]at h ⊢;rw [aP];unfold aT;rcases List.mem_append.1 h with h|h
  ·obtain⟨rfl,h2⟩:=jh h;rw [h2,aB,if_pos rfl];refine⟨rfl,Nat.le_refl _,?_⟩
   cases s with
   |d fr t=>cases t<;>simp [bg]at h2
   |o e=>simp only [bg,List.cons.injEq,Prod.mk.injEq,true_and,and_true]at h2;subst h2;simp
   |m e=>simp only [bg,List.cons.injEq,Prod.mk.injEq,true_and,and_true]at h2;subst h2;simp
   |w e=>simp [bg]at h2
  ·obtain⟨g1,g2,g3⟩:=oQ (q0:=q0) h
   have:ae (bg q s x.1).2 p=none:=by
    cases hl:ae (bg q s x.1).2 p with
    |none=>rfl
    |some b'=>obtain⟨h3,_⟩:=jh (gZ hl);omega
   rw [this];exact⟨g1,by omega,g3⟩
theorem GE{hs:List Sh}{x:cl hs}{q p:Nat}(hp:p<q):ae ((av hs x q).flatMap (·.2)) p=none:=by
 cases hl:ae ((av hs x q).flatMap (·.2)) p with
 |none=>rfl
 |some b=>have:=(oQ (q0:=0) (gZ hl)).2.1;omega
theorem NR{ks:KS}{h:Sh}{c:KC}{x:h.T}{p:Nat}(hrd:RdC ks h c x)(ho:fk c=some p):∃b,ae ks.bl p=some b∧b≠ .dead:=by
 cases h with
 |d fr t=>
  obtain⟨_,h2⟩:=hrd;cases c<;>simp [fk]at ho
  ·subst ho;cases t<;>simp [lg,noB]at h2
  ·subst ho;cases t<;>simp [lg,noB]at h2
 |o e=>obtain⟨e',q,ne,rfl,h2⟩:=hrd;simp [fk]at ho;subst ho;exact⟨_,h2,by simp⟩
 |w e=>obtain⟨e',q,ne,rfl,h2⟩:=hrd;simp [fk]at ho;subst ho;exact⟨_,h2,by simp⟩
 |m e=>
  rcases hrd with⟨rfl,h2⟩|⟨e',q,rfl,h2⟩|⟨e',q,ne,rfl,h2,h3⟩
  ·simp [fk]at ho
  ·simp [fk]at ho;subst ho;exact⟨_,h2,by simp⟩
  ·simp [fk]at ho;subst ho;exact⟨_,h2,by simp⟩
theorem xC:∀{cs:List KC} {p:Nat},p∈bm cs→∃(j:Nat) (c:KC),cs[j]? =some c∧fk c=some p
 | [],p,h=>by simp [bm]at h
 |a::cs,p,h=>by
  by_cases ha:fk a=some p
  ·exact⟨0,a,rfl,ha⟩
  ·have:p∈bm cs:=by
    cases a<;>simp [bm]at h<;>first|exact h|(rcases h with h|h;exact absurd (by simp [fk,h]) ha;exact h)
   obtain⟨j,c,h1,h2⟩:=xC this;exact⟨j+1,c,by simpa using h1,h2⟩
theorem EM{ks:KS}:∀{hs:List Sh} {cs:List KC} {x:cl hs} {j:Nat} {c:KC},RdCs ks hs cs x→cs[j]? =some c→∃h y,RdC ks h c y
 | [],cs,x,j,c,hrd,hj=>by rw [show cs= []from hrd]at hj;simp at hj
 | [h],cs,x,j,c,⟨a,e,hrd⟩,hj=>by
  subst e
  cases j with
  |zero=>simp at hj;subst hj;exact⟨h,x,hrd⟩
  |succ j=>simp at hj
 |h::h'::r,cs,x,j,c,⟨a,s,e,hrd,hrd2⟩,hj=>by
  subst e
  cases j with
  |zero=>simp at hj;subst hj;exact⟨h,x.1,hrd⟩
  |succ j=>exact EM hrd2 (by simpa using hj)
theorem qJ{ks:KS}{hs:List Sh}{cs:List KC}{x:cl hs}{p:Nat}(hrd:RdCs ks hs cs x)(hp:p∈bm cs):∃b,ae ks.bl p=some b∧b≠ .dead:=by
 obtain⟨j,c,h1,h2⟩:=xC hp;obtain⟨h,y,h3⟩:=EM hrd h1;exact NR h3 h2
theorem oR{F:KF}{ks:KS}:∀{l:List Nat} {i:Nat} {d:KD},ae (nL F ks l) i=some d→ae ks.sl i=some d
 | [],i,d,h=>by simp [nL,ae]at h
 |a::l,i,d,h=>by
  unfold nL at h;split at h
  ·rename_i d0 h0;rw [aB]at h;split at h
   ·rename_i hi;cases h;subst hi;exact h0
   ·exact oR h
  ·exact oR h
theorem lr{F:KF}{ks:KS}(h:fM F ks=true){i:Nat}{d:KD}(hd:ae F.sl i=some d):ae ks.sl i=none∧jf F ks i=some d:=by
 have h1:ae ks.sl i=none:=by
  have:=List.all_eq_true.1 h (i,d) (gZ hd)
  simpa using this
 exact⟨h1,by unfold jf aT;rw [h1];exact hd⟩
theorem mv{F F':KF}{ks ks':KS}:∀{bs:List (Nat×List Sh)} {w:List KC},(∀v∈bs,cQ F' ks' v.1=cQ F ks v.1)→dF F' ks' bs w=dF F ks bs w
 | [],w,h=>rfl
 |v::r,w,h=>by
  unfold dF;rw [h v (by simp)]
  cases cQ F ks v.1 with
  |none=>exact mv fun v' hv=>h v' (by simp [hv])
  |some q=>simp only;rw [mv fun v' hv=>h v' (by simp [hv])]
theorem jk{F:KF}{ks:KS}:∀{bs:List (Nat×List Sh)} {b:List KC},lk F ks bs=some b→∀v∈bs,∃p cs,cQ F ks v.1=some p∧ae ks.bl p=some (.box cs)
 | [],b,hb,v,hv=>by simp at hv
 |v0::r,b,hb,v,hv=>by
  unfold lk at hb
  cases hp:cQ F ks v0.1 with
  |none=>rw [hp]at hb;simp at hb
  |some q=>
   rw [hp]at hb;simp only [zbS]at hb;split at hb
   ·rename_i cs hcs;split at hb
    ·rw [Option.map_eq_some_iff]at hb;obtain⟨b',g1,rfl⟩:=hb;rcases List.mem_cons.1 hv with rfl|hv
     ·exact⟨q,cs,hp,hcs⟩
     ·exact jk g1 v hv
    ·simp at hb
   ·simp at hb
theorem ls{F:KF}{ks:KS}{V:Vl}{f:Nat→D}{h:ah}{pt:Pt}{R:Type}{r:R}{κ:cl pt.sh→Option R}(hr:Rel F ks V f h)(hs:qz F ks pt κ=some r):∃cs x,dE F ks pt=some cs∧ig (bm cs)=true∧RdCs ks pt.sh cs x∧κ x=some r:=by
 unfold qz at hs;split at hs
 ·rename_i cs hcs
  cases hn:ig (bm cs)with
  |false=>rw [hn]at hs;simp at hs
  |true=>
   rw [hn]at hs;obtain⟨x,h1,h2⟩:=Ap (fun p e ne l hl hne=>(hr.bl p _ (al hl (by simp))).2.2.2 hne) (show lh ks pt.sh cs κ=some r from hs);exact⟨cs,x,hcs,hn,h2,h1⟩
 ·simp at hs
theorem GF{F:KF}{ks:KS}{V:Vl}{f:Nat→D}{h:ah}(hr:Rel F ks V f h){i p:Nat}(hp:cQ F ks i=some p):p<ks.nx:=by
 unfold cQ at hp;split at hp
 ·rename_i q j hd;split at hp
  ·cases hp;exact(hr.sl _ _ hd).2.1
  ·simp at hp
 ·simp at hp
theorem xD{F:KF}{ks:KS}{ws:List (BR×Ty)}{bs:List KB}{p:Nat}(h:∀v∈ws,fh F ks v.1≠some p):ae (eC F ks ws bs) p=none:=by
 cases hl:ae (eC F ks ws bs) p with
 |none=>rfl
 |some x=>
  obtain⟨j,v,h1,h2,h3⟩:=sa hl;exact absurd h3 (h v (List.mem_of_getElem? h1))
theorem oS{F F':KF}{ks ks':KS}:∀{ws:List (BR×Ty)} {bs:List KB},(∀v∈ws,fh F' ks' v.1=fh F ks v.1)→eC F' ks' ws bs=eC F ks ws bs
 | [],bs,h=>by simp [eC]
 |v::r,[],h=>by simp [eC]
 |v::r,b::bs,h=>by
  unfold eC;rw [h v (by simp)]
  cases fh F ks v.1 with
  |none=>exact oS fun v' hv=>h v' (by simp [hv])
  |some q=>simp only;rw [oS fun v' hv=>h v' (by simp [hv])]
theorem jT:∀(a b:List KC),bm (a++b)=bm a++bm b
 | [],b=>rfl
 |c::a,b=>by
  have:=jT a b
  cases c<;>simp [bm,this]
theorem oT{F:KF}{ks:KS}{pt:Pt}{cs:List KC}(hcs:dE F ks pt=some cs){v:BR×Ty}(hv:v∈pt.ws):∃p,fh F ks v.1=some p∧p∈bm cs:=by
 obtain⟨a,b,c,ha,hb,hc,rfl⟩:=eE hcs;obtain⟨j,hj⟩:=List.getElem?_of_mem hv;obtain⟨p,h1,h2⟩:=oP hc hj;refine⟨p,h1,?_⟩;rw [jT,jT];exact List.mem_append.2 (.inr (List.mem_append.2 (.inr (jg h2 rfl))))
theorem GG{F:KF}{ks:KS}{V:Vl}{f:Nat→D}{h:ah}(hr:Rel F ks V f h){w:BR}{p:Nat}(hp:fh F ks w=some p):p<ks.nx:=by
 unfold fh at hp;split at hp
 ·rename_i e q hc;cases hp
  cases w with
  |sl i j=>
   simp only [brC]at hc;split at hc
   ·rename_i c hd;cases hc;exact(hr.sl _ _ hd).2.1
   ·rename_i cs hd;exact(hr.sl _ _ hd).2.1 _ (List.mem_of_getElem? hc)
   ·simp at hc
  |bx i j=>
   simp only [brC]at hc;split at hc
   ·rename_i q hq;split at hc
    ·rename_i cs hb
     have:ao F ks q=some (.box cs):=by unfold ao;rw [hb]
     exact(hr.bl _ _ this).2.1 _ (List.mem_of_getElem? hc)
    ·simp at hc
   ·simp at hc
 ·simp at hp
theorem Ib{a b:Ex}(h:qA a b=true):a=b:=by
 cases a<;>cases b<;>simp [qA]at h<;>first|rfl|(subst h;rfl)
theorem oU{F:KF}{ks:KS}:∀{bs:List (Nat×List Sh)} {v:Nat×List Sh} {p:Nat},v∈bs→cQ F ks v.1=some p→p∈mt F ks bs
 | [],v,p,hv,_=>by simp at hv
 |w::r,v,p,hv,hp=>by
  unfold mt;rcases List.mem_cons.1 hv with rfl|hv
  ·rw [hp];exact List.mem_cons_self
  ·have:=oU hv hp
   split
   ·exact List.mem_cons_of_mem _ this
   ·exact this
theorem EN{F:KF}{ks:KS}{ds:List Nat}{p:Nat}{b:KB}(hl:ae (ds.map (fun p=>(p,KB.dead))++(ks.bl++F.bl)) p=some b)(hb:b≠ .dead):p ∉ ds∧ao F ks p=some b:=by
 rw [aP]at hl;unfold aT at hl;rcases sb (l:=ds) (p:=p)with⟨h1,h2⟩|⟨h1,h2⟩
 ·rw [h1]at hl;simp only [aP]at hl;refine⟨h2,?_⟩;unfold ao;rw [hl];cases b<;>first|rfl|exact absurd rfl hb
 ·rw [h1]at hl;simp only [zsI]at hl;exact absurd hl.symm hb
def PostC(F:KF)(ks:KS)(V:Vl){R:Type}(κ:Ex→KS→Option R)(r:R)(e:Ex)(s:St):Prop:=∃ks' V' f',s.t=tab F.nt f'∧Rel F ks' V' f' s.h∧κ e ks'=some r∧Ext F ks V ks' V'
theorem PostC.ext{F:KF}{ks ks1:KS}{V V1:Vl}{R:Type}{κ:Ex→KS→Option R}{r:R}{e:Ex}{s:St}(he:Ext F ks V ks1 V1)(h:PostC F ks1 V1 κ r e s):PostC F ks V κ r e s:=let⟨ks',V',f',h1,h2,h3,h4⟩:=h;⟨ks',V',f',h1,h2,h3,he.trans h4⟩
def JX(F:KF)(ks:KS)(V:Vl)(keep dead:List Nat):(l:List (Ex×Pt))→XT l→Ex→St→Prop
 | [],x,_,_=>nomatch x
 |x::r,.inl v,e,s=>e=x.1∧∃V' f',s.t=tab F.nt f'∧Rel F (xg F ks keep dead x.2 v) V' f' s.h∧Ext F ks V (xg F ks keep dead x.2 v) V'
 |x::r,.inr v,e,s=>JX F ks V keep dead r v e s
theorem Nm{F:KF}{ks:KS}{V:Vl}{keep dead:List Nat}:∀{l:List (Ex×Pt)},(∀x∈l,qA x.1 .normal=false)→∀(x:XT l) (s:St),¬JX F ks V keep dead l x .normal s
 | [],hl,x,s=>nomatch x
 |x::r,hl,.inl v,s=>fun h=>by have:=hl x (by simp);rw [←h.1]at this;simp [qA]at this
 |x::r,hl,.inr v,s=>Nm (fun z hz=>hl z (by simp [hz])) v s
theorem sd{F:KF}{ks:KS}{V:Vl}{keep dead:List Nat}{R:Type}{r:R}{κ:Ex→KS→Option R}:∀{l:List (Ex×Pt)} {x:XT l} {e:Ex} {s:St},afterX F ks keep dead l x κ=some r→JX F ks V keep dead l x e s→PostC F ks V κ r e s
 | [],x,e,s,h,hj=>nomatch x
 |x::l,.inl v,e,s,h,⟨he,V',f',h1,h2,h3⟩=>⟨_,V',f',h1,h2,by rw [he];exact h,h3⟩
 |x::l,.inr v,e,s,h,hj=>sd (l:=l) (x:=v) h hj
end K
end Ev
end
noncomputable section
namespace Ev
namespace K
open Go Go.RowKit
section
variable {E : Env} {y : Nat → dI} {n : Nat} {G : KG} {D0 : Nat}
theorem Me{id:Nat}{l:List Oper}{Q:Ex→St→Prop}{t:List D}{H:ah}(m:Nat)(hc:lM l.toArray=some m)(hq:kY l.toArray=true)(h1:bI (fun t=>jo E y n l.toArray (l.drop m) (Q .normal) {t,h:=H++List.replicate l.toArray.size .no}) (evR E (cpR E n) l.toArray (H++List.replicate l.toArray.size .no) H.length 0 (l.take m) t)):WpC E y n (.region id l.toArray true) Q {t,h:=H}:=by
 rw [FU]at h1
 cases hs:evQ E (cpR E n) l.toArray (H++List.replicate l.toArray.size .no) H.length 0 (l.take m) t with
 |none=>rw [hs]at h1;exact h1.elim
 |some t'=>
  rw [hs]at h1;obtain⟨s',⟨M1,h2⟩,h3⟩:=h1;obtain⟨M2,h4⟩:=sO _ _ _ _ _ _ _ (rP _ _ _ _ hs);have hq':iK l.toArray H.length (bef l.toArray) (fun _=> [])=true:=hq;refine⟨.normal,s',⟨max M1 M2,fun q hm=> ?_⟩,h3⟩;simp only [evC,if_true,hc];unfold GP;simp only [zbB];rw [if_pos hq'];rw [iu,h4 q (by omega)];simp only [zbS]
  have:=h2 q (by omega)
  rw [iu]at this;rw [this];rfl
theorem EO{α:Type}{Q Q':α→Prop}{o:Option α}(h:bI Q o)(hq:∀a,Q a→Q' a):bI Q' o:=by
 cases o with
 |none=>exact h
 |some a=>exact hq a h
section loop
variable {F : KF} {ks : KS} {V : Vl} {f : Nat → D} {h : ah} {a : Ez} {cs : List KC} {x0 : cl a.head.sh}
theorem xE(hok:fM F ks=true){i:Nat}{d:KD}(hd:ae (aq F ks a cs).sl i=some d):jf F ks i=some d:=by
 have hd':ae (nL F ks a.keep++F.sl) i=some d:=hd;rw [aP]at hd';unfold aT at hd'
 cases hk:ae (nL F ks a.keep) i with
 |none=>rw [hk]at hd';exact(lr hok hd').2
 |some d'=>rw [hk]at hd';cases hd';unfold jf aT;rw [oR hk]
theorem Ar(hok:fM F ks=true){ks2:KS}(hok2:fM (aq F ks a cs) ks2=true){pt:Pt}(hbs:ni F ks (aq F ks a cs) pt=true):∀v∈pt.bs,cQ (aq F ks a cs) ks2 v.1=cQ F ks v.1:=by
 intro v hv;have h1:=List.all_eq_true.1 ((Bool.and_eq_true _ _).mp hbs).1 v hv
 cases hl:ae (aq F ks a cs).sl v.1 with
 |none=>rw [hl]at h1;simp at h1
 |some d=>
  unfold cQ;rw [(lr hok2 hl).2,xE hok hl]
theorem sZ{pt:Pt}{v:cl pt.sh}{p:Nat}{b:KB}(hl:ae (ba F ks pt v).bl p=some b):ae (dF F ks pt.bs (((av pt.sh v ks.nx).map (·.1)).drop (iv pt.vs))) p=some b∨ae (eC F ks pt.ws ((wCs pt.sh v).drop (iv pt.vs+nh pt.bs))) p=some b∨ae ((av pt.sh v ks.nx).flatMap (·.2)) p=some b:=by
 have h1:ae (dF F ks pt.bs (((av pt.sh v ks.nx).map (·.1)).drop (iv pt.vs))++(eC F ks pt.ws ((wCs pt.sh v).drop (iv pt.vs+nh pt.bs))++(av pt.sh v ks.nx).flatMap (·.2))) p=some b:=hl;rw [aP]at h1;unfold aT at h1
 cases hb:ae (dF F ks pt.bs (((av pt.sh v ks.nx).map (·.1)).drop (iv pt.vs))) p with
 |some b'=>rw [hb]at h1;exact .inl h1
 |none=>
  rw [hb]at h1;change ae (_++_) p=some b at h1;rw [aP]at h1;unfold aT at h1
  cases hc:ae (eC F ks pt.ws ((wCs pt.sh v).drop (iv pt.vs+nh pt.bs))) p with
  |some b'=>rw [hc]at h1;exact .inr (.inl h1)
  |none=>rw [hc]at h1;exact .inr (.inr h1)
theorem mw{pt:Pt}{v:cl pt.sh}{p:Nat}(h1:∀w∈pt.bs,cQ F ks w.1≠some p)(h2:∀w∈pt.ws,fh F ks w.1≠some p)(hp:p<ks.nx):ae (ba F ks pt v).bl p=none:=by
 cases hl:ae (ba F ks pt v).bl p with
 |none=>rfl
 |some b=>
  rcases sZ hl with h|h|h
  ·rw [hX h1]at h;simp at h
  ·rw [xD h2]at h;simp at h
  ·rw [GE hp]at h;simp at h
theorem tc{pt:Pt}{v:cl pt.sh}{rest:List (Nat×KB)}{G:KF}{kb:KS}{p:Nat}{b:KB}(hkb:∀p,aT kb.bl G.bl p=ae ((ba F ks pt v).bl++rest) p)(hb:ao G kb p=some b):ae (dF F ks pt.bs (((av pt.sh v ks.nx).map (·.1)).drop (iv pt.vs))) p=some b∨ae (eC F ks pt.ws ((wCs pt.sh v).drop (iv pt.vs+nh pt.bs))) p=some b∨ae ((av pt.sh v ks.nx).flatMap (·.2)) p=some b∨(ae (ba F ks pt v).bl p=none∧ae rest p=some b∧b≠ .dead):=by
 unfold ao at hb;rw [hkb,aP]at hb;unfold aT at hb
 cases hl:ae (ba F ks pt v).bl p with
 |some b'=>
  rw [hl]at hb;have hbb:b'=b:=by cases b'<;>simp at hb<;>exact hb
  subst hbb;rcases sZ hl with h1|h1|h1
  ·exact .inl h1
  ·exact .inr (.inl h1)
  ·exact .inr (.inr (.inl h1))
 |none=>
  rw [hl]at hb
  cases hr:ae rest p with
  |none=>rw [hr]at hb;simp at hb
  |some b'=>
   rw [hr]at hb
   cases b' with
   |dead=>simp at hb
   |_=>simp at hb;subst hb;exact .inr (.inr (.inr ⟨rfl,rfl,by simp⟩))
theorem tj{pt:Pt}{v:cl pt.sh}{rest:List (Nat×KB)}{G:KF}{kb:KS}(hr:Rel F ks V f h)(hkb:∀p,aT kb.bl G.bl p=ae ((ba F ks pt v).bl++rest) p){p:Nat}{b:KB}(hb:(p,b)∈(av pt.sh v ks.nx).flatMap (·.2)):ao G kb p=some b:=by
 obtain⟨g1,g2,g3⟩:=oQ (q0:=0) hb;unfold ao;rw [hkb,aP];unfold aT
 have h1:ae (ba F ks pt v).bl p=some b:=by
  show ae (dF F ks pt.bs (((av pt.sh v ks.nx).map (·.1)).drop (iv pt.vs))++(eC F ks pt.ws ((wCs pt.sh v).drop (iv pt.vs+nh pt.bs))++(av pt.sh v ks.nx).flatMap (·.2))) p=some b;rw [aP];unfold aT;rw [hX fun w hw he=>by have:=GF hr he;omega];show ae (_++_) p=some b;rw [aP];unfold aT;rw [xD fun w hw he=>by have:=GG hr he;omega];exact g1
 rw [h1];cases b<;>first|rfl|exact absurd rfl g3
theorem Jy(hcs:dE F ks a.head=some cs){x:cl a.head.sh}{p:Nat}(hp:p<ks.nx)(hd:p ∉ cm F ks a cs):ae (ba F ks a.head x).bl p=none:=
 mw (fun w hw he=>hd (List.mem_append.2 (.inr (oU hw he)))) (fun w hw he=>hd (List.mem_append.2 (.inl (by
  obtain⟨q,h1,h2⟩:=oT hcs hw;rw [he]at h1;cases h1
  exact h2)))) hp
theorem ut(hr:Rel F ks V f h)(hok:fM F ks=true)(hcs:dE F ks a.head=some cs)(hnd:ig (bm cs)=true)(hrd:RdCs ks a.head.sh cs x0):∃V1,Rel (aq F ks a cs) (ba F ks a.head x0) V1 f h∧Agree ks.nx V V1∧LeB ks.nx (ao F ks) (ao (aq F ks a cs) (ba F ks a.head x0)):=by
 have hkb:∀p,aT (ba F ks a.head x0).bl (aq F ks a cs).bl p=ae ((ba F ks a.head x0).bl++((cm F ks a cs).map (fun p=>(p,KB.dead))++(ks.bl++F.bl))) p:=fun p=>(aP _ _ p).symm;refine trans hr hcs hrd hnd (Nat.le_refl _) rfl rfl (fun i d hd=> ?_) (fun p b hb=> ?_) (fun p b hb=>tj hr hkb hb) (fun v hv p hp=>GF hr hp) (fun v hv p hp=>GG hr hp)
 ·have hd':aT (gA a.head.vs ((av a.head.sh x0 ks.nx).map (·.1))) (aq F ks a cs).sl i=some d:=hd;unfold aT at hd'
  cases hl:ae (gA a.head.vs ((av a.head.sh x0 ks.nx).map (·.1))) i with
  |some d'=>rw [hl]at hd';cases hd';exact .inl rfl
  |none=>
   rw [hl]at hd';have h1:=xE hok hd';exact .inr ⟨h1,(hr.sl i d h1).2.1⟩
 ·rcases tc hkb hb with h1|h1|h1|⟨h1,h2,h3⟩
  ·exact .inl h1
  ·exact .inr (.inl h1)
  ·exact .inr (.inr (.inl h1))
  ·obtain⟨g1,g2⟩:=EN h2 h3;obtain⟨k1,k2,_⟩:=hr.bl p b g2;exact .inr (.inr (.inr ⟨g2,k1,k2,fun hm=>g1 (List.mem_append.2 (.inl hm)),fun v hv he=>g1 (List.mem_append.2 (.inr (oU hv he)))⟩))
variable {ks2 : KS} {V1 V2 : Vl} {f2 : Nat → D} {h2 : ah} {x1 : cl a.head.sh} {pt : Pt} {cs2 : List KC} {v : cl pt.sh}
theorem As(hr:Rel F ks V f h)(hcs:dE F ks a.head=some cs)(hext:Ext (aq F ks a cs) (ba F ks a.head x1) V1 ks2 V2){p:Nat}{b:KB}(hb:ae ((cm F ks a cs).map (fun p=>(p,KB.dead))++(ks.bl++F.bl)) p=some b)(hd:b≠ .dead):ao (aq F ks a cs) ks2 p=some b∧p<ks.nx∧ScB ks.nx b∧ae ks2.bl p=none:=by
 obtain⟨g1,g2⟩:=EN hb hd;obtain⟨k1,k2,_⟩:=hr.bl p b g2;have h1:ae (ba F ks a.head x1).bl p=none:=Jy hcs k1 g1;have h2:=hext.dom p (by show p<ks.nx+_;omega) h1;refine⟨?_,k1,k2,h2⟩;unfold ao aT;rw [h2]
 show(match ae ((cm F ks a cs).map (fun p=>(p,KB.dead))++(ks.bl++F.bl)) p with
  |some .dead=>none
  |x=>x)=some b
 rw [hb];cases b<;>first|rfl|exact absurd rfl hd
theorem At(hr:Rel F ks V f h)(hok2:fM (aq F ks a cs) ks2=true)(hcs:dE F ks a.head=some cs)(hext:Ext (aq F ks a cs) (ba F ks a.head x1) V1 ks2 V2)(hbs:ni F ks (aq F ks a cs) pt=true):∀w∈pt.ws,∃p,fh (aq F ks a cs) ks2 w.1=some p∧fh F ks w.1=some p:=by
 intro w hw;have h1:=List.all_eq_true.1 ((Bool.and_eq_true _ _).mp hbs).2 w hw;split at h1
 ·rename_i p q hp hq;have hpq:p=q:=Nat.eq_of_beq_eq_true h1;subst hpq;refine⟨p,?_,hp⟩;have hsl:∀i d,jf (aq F ks a cs) kNil i=some d→jf (aq F ks a cs) ks2 i=some d:=fun i d hd=>(lr hok2 (show ae (aq F ks a cs).sl i=some d from hd)).2
  have hpt:∀i d,cQ (aq F ks a cs) kNil i=some d→cQ (aq F ks a cs) ks2 i=some d:=by
   intro i d hd;unfold cQ at hd ⊢;split at hd
   ·rename_i p j hg;rw [hsl _ _ hg];exact hd
   ·simp at hd
  unfold fh at hq ⊢
  have key:brC (aq F ks a cs) kNil w.1=brC (aq F ks a cs) ks2 w.1∨brC (aq F ks a cs) kNil w.1=none:=by
   cases w.1 with
   |sl i j=>
    simp only [brC]
    cases hg:jf (aq F ks a cs) kNil i with
    |none=>exact .inr rfl
    |some d=>rw [hsl _ _ hg];exact .inl rfl
   |bx i j=>
    simp only [brC]
    cases hg:cQ (aq F ks a cs) kNil i with
    |none=>exact .inr rfl
    |some d=>
     rw [hpt _ _ hg];simp only
     cases hl:aT kNil.bl (aq F ks a cs).bl d with
     |none=>exact .inr rfl
     |some b=>
      cases b with
      |box bc=>
       obtain⟨_,_,_,g4⟩:=As hr hcs hext (show ae ((cm F ks a cs).map (fun p=>(p,KB.dead))++(ks.bl++F.bl)) d=some (.box bc)from hl) (by simp)
       have:aT ks2.bl (aq F ks a cs).bl d=some (.box bc):=by unfold aT;rw [g4];exact hl
       rw [this];exact .inl rfl
      |_=>exact .inr rfl
  rcases key with k|k
  ·rw [←k];exact hq
  ·rw [k]at hq;simp at hq
 ·simp at h1
theorem Qr(hcs:dE F ks a.head=some cs)(hrd:RdCs ks a.head.sh cs x0)(hext:Ext (aq F ks a cs) (ba F ks a.head x1) V1 ks2 V2){p:Nat}(hp:p<ks.nx)(hl:ae ks.bl p=none):ae ks2.bl p=none:=by
 obtain⟨ca,cb,cw,_,hcb,_,_⟩:=eE hcs;refine hext.dom p (by show p<ks.nx+_;omega) (mw (fun w hw he=> ?_) (fun w hw he=> ?_) hp)
 ·obtain⟨q,c,j1,j2⟩:=jk hcb w hw;rw [he]at j1;cases j1;rw [hl]at j2;simp at j2
 ·obtain⟨q,j1,j2⟩:=oT hcs hw;rw [he]at j1;cases j1;obtain⟨b,k1,_⟩:=qJ hrd j2;rw [hl]at k1;simp at k1
theorem Ic{Fb:KF}{kb:KS}(hr:Rel F ks V f h)(hok:fM F ks=true)(hcs:dE F ks a.head=some cs)(hr2:Rel (aq F ks a cs) ks2 V2 f2 h2)(hok2:fM (aq F ks a cs) ks2=true)(hext:Ext (aq F ks a cs) (ba F ks a.head x1) V1 ks2 V2)(hbs:ni F ks (aq F ks a cs) pt=true)(hcs2:dE (aq F ks a cs) ks2 pt=some cs2)(hnd2:ig (bm cs2)=true)(hrd2:RdCs ks2 pt.sh cs2 v)
  (hnt:Fb.nt=F.nt) (hnx:kb.nx=ks.nx+pt.sh.length) (hsl:∀i d,jf Fb kb i=some d→ae (gA pt.vs ((av pt.sh v ks.nx).map (·.1))) i=some d∨ae (aq F ks a cs).sl i=some d) (hkb:∀p,aT kb.bl Fb.bl p=ae ((ba F ks pt v).bl++((cm F ks a cs).map (fun p=>(p,KB.dead))++(ks.bl++F.bl))) p):∃V3,Rel Fb kb V3 f2 h2∧Agree ks.nx V2 V3∧LeB ks.nx (ao (aq F ks a cs) ks2) (ao Fb kb):=by
 have hptr:=Ar hok hok2 hbs;have hrow:=At hr hok2 hcs hext hbs;have hnx2:ks.nx≤ks2.nx:=Nat.le_trans (by show ks.nx≤ks.nx+_;omega) hext.nx;obtain⟨ca,cb,cw,_,hcb2,_,_⟩:=eE hcs2;refine trans (N0:=ks.nx) hr2 hcs2 hrd2 hnd2 hnx2 hnt hnx (fun i d hd=> ?_) (fun p b hb=> ?_) (fun p b hb=>tj hr hkb hb) (fun w hw p hp=> ?_) (fun w hw p hp=> ?_)
 ·rcases hsl i d hd with h1|h1
  ·exact .inl h1
  ·have h3:=xE hok h1;exact .inr ⟨(lr hok2 h1).2,(hr.sl i d h3).2.1⟩
 ·rw [mv hptr,oS (fun w hw=>by obtain⟨q,e1,e2⟩:=hrow w hw;exact e1.trans e2.symm)];rcases tc hkb hb with h1|h1|h1|⟨h1,h3,h4⟩
  ·exact .inl h1
  ·exact .inr (.inl h1)
  ·exact .inr (.inr (.inl h1))
  ·-- a block of the head's frame
   obtain⟨g1,g2,g3,g4⟩:=As hr hcs hext h3 h4;refine .inr (.inr (.inr ⟨g1,g2,g3,fun hm=> ?_,fun w hw he=> ?_⟩))
   ·obtain⟨b',e1,_⟩:=qJ hrd2 hm;rw [g4]at e1;simp at e1
   ·obtain⟨p',c,e1,e2⟩:=jk hcb2 w hw;rw [he]at e1;cases e1;rw [g4]at e2;simp at e2
 ·rw [hptr w hw]at hp;exact GF hr hp
 ·obtain⟨q,e1,e2⟩:=hrow w hw;rw [hp]at e1;cases e1;exact GG hr e2
end loop
end
end K
end Ev
end
noncomputable section
namespace Ev
namespace K
open Go Go.RowKit
theorem CO{ids:List Nat}{p:Nat}(h:(!(ids.any (Nat.beq p)))=true):p ∉ ids:=by
 intro hp
 have:ids.any (Nat.beq p)=true:=List.any_eq_true.2 ⟨p,hp,Nat.beq_refl p⟩
 rw [this]at h;simp at h
theorem Mf{e:KE}{nid p:Nat}{bl bl':List (Nat×KB)}(h:ae bl p=ae bl' p):ae (blE e nid bl) p=ae (blE e nid bl') p:=by
 have h1:ae (blU e bl) p=ae (blU e bl') p:=by
  unfold blU
  cases e.upd with
  |none=>exact h
  |some x=>show ae ((x.1,x.2)::bl) p=ae ((x.1,x.2)::bl') p;rw [aB,aB,h]
 unfold blE
 cases e.new with
 |none=>exact h1
 |some b=>simp only [aB,h1]
section free
variable {B B' : BK} {V : Vl} {ids : List Nat} (hb : ∀ p, p ∉ ids → B' p = B p)
include hb
theorem RC.free{c:KC}{x:C}(hf:sS ids c=true)(h:RC B V c x):RC B' V c x:=by
 cases c with
 |o e p=>intro e' ne l hl;rw [hb p (CO (ids:=ids) (p:=p) hf)]at hl;exact h e' ne l hl
 |m e p=>intro e' l hl;rw [hb p (CO (ids:=ids) (p:=p) hf)]at hl;exact h e' l hl
 |_=>exact h
theorem RCs.free:∀{l:List KC} {xs:List C},l.all (sS ids)=true→RCs B V l xs→RCs B' V l xs
 | [],xs,hf,h=>h
 |c::l,xs,hf,⟨x,s,e,h1,h2⟩=>by
  rw [List.all_cons,Bool.and_eq_true]at hf;exact⟨x,s,e,RC.free hb hf.1 h1,RCs.free hf.2 h2⟩
theorem RD1.free{k:KD}{d:D}(hf:xh ids k=true)(h:RD1 B V k d):RD1 B' V k d:=by
 cases k with
 |one c=>obtain⟨c',h1,h2⟩:=h;exact⟨c',h1,RC.free hb hf h2⟩
 |agg cs=>obtain⟨c',h1,h2⟩:=h;exact⟨c',h1,RCs.free hb hf h2⟩
 |tup ts=>exact h
omit hb in
theorem Mg{x:Bool×List KC}(hf:x.2.all (sS ids)=true):xh ids (mkD x)=true:=by
 obtain⟨b,cs⟩:=x
 cases b with
 |true=>exact hf
 |false=>match cs,hf with
  | [],hf=>exact hf
  | [c],hf=>simpa [mkD,xh]using hf
  |c::d::r,hf=>exact hf
theorem RTs.free:∀{l:List (Bool×List KC)} {xs:List D},(l.all fun x=>x.2.all (sS ids))=true→RTs B V l xs→RTs B' V l xs
 | [],xs,hf,h=>h
 |c::l,xs,hf,⟨x,s,e,h1,h2⟩=>by
  rw [List.all_cons,Bool.and_eq_true]at hf;exact⟨x,s,e,RD1.free hb (Mg hf.1) h1,RTs.free hf.2 h2⟩
theorem RD.free{k:KD}{d:D}(hf:xh ids k=true)(h:RD B V k d):RD B' V k d:=by
 cases k with
 |one c=>exact RD1.free (k:= .one c) hb hf h
 |agg cs=>exact RD1.free (k:= .agg cs) hb hf h
 |tup ts=>obtain⟨ds,h1,h2⟩:=h;exact⟨ds,h1,RTs.free hb hf h2⟩
theorem BlkIs.free{b:KB}{x:Blk}(hf:LI ids b=true)(h:BlkIs B V x b):BlkIs B' V x b:=by
 cases b with
 |box cs=>obtain⟨sz,cs',g1,g2⟩:=h;exact⟨sz,cs',g1,RCs.free hb hf g2⟩
 |rows e ne l=>exact h
 |mrows e l=>exact h
 |dead=>exact h
end free
theorem GH{ids:List Nat}{tag:Nat}{d:KD}:xh ids (lG tag d)=xh ids d:=by
 unfold lG;split<;>rfl
section
variable {E : Env} {y : Nat → dI} {n : Nat} {F : KF} {ks : KS} {V : Vl} {f : Nat → D} {h : ah} {M tag nid : Nat} {op : Op} {G : KG} {D0 : Nat} {R : Type} {r : R}
theorem jm{ids:List Nat}{p:Nat}:ae (qD ids ks).bl p=if p∈ids then some .dead else ae ks.bl p:=by
 show ae (ids.map (fun p=>(p,KB.dead))++ks.bl) p=_;rw [aP];unfold aT;rcases sb (l:=ids) (p:=p)with⟨h1,h2⟩|⟨h1,h2⟩
 ·rw [h1,if_neg h2]
 ·rw [h1,if_pos h2]
theorem oV{ids:List Nat}{p:Nat}:ao F (qD ids ks) p=if p∈ids then none else ao F ks p:=by
 unfold ao aT;rw [jm];by_cases hp:p∈ids
 ·rw [if_pos hp,if_pos hp]
 ·rw [if_neg hp,if_neg hp]
theorem NS{ids:List Nat}{e:KE}{p:Nat}(hp:p ∉ ids):Be F (qD ids ks) nid e p=Be F ks nid e p:=by
 have:=Mf (e:=e) (nid:=nid) (show ae (qD ids ks).bl p=ae ks.bl p by rw [jm,if_neg hp])
 unfold Be ao aT;simp only [this]
theorem Mh{ids ms:List Nat}(hr:Rel F ks V f h)(hm:∀p b,ao F ks p=some b→b.there→V.id p∈ms→p∈ids):Rel F (qD ids ks) V f (mask h ms):=by
 have hle:LeB ks.nx (ao F ks) (ao F (qD ids ks)):=fun p hp=>by
  rw [oV];split
  ·exact⟨fun e ne l h=>by simp at h,fun e l h=>by simp at h⟩
  ·exact⟨fun e ne l h=>⟨e,ne,l,h,rfl⟩,fun e l h=>⟨e,l,h,rfl⟩⟩
 refine⟨fun i d hd=> ?_,fun p b hb=> ?_,fun p q b b' hp hq=> ?_⟩
 ·obtain⟨g1,g2,g3⟩:=hr.sl i d hd;exact⟨g1,g2,g3.mono g2 hle (Agree.refl _ _)⟩
 ·rw [oV]at hb;split at hb
  ·simp at hb
  ·rename_i hp;obtain⟨g1,g2,g3⟩:=hr.bl p b hb;refine⟨g1,g2,?_⟩;have g4:=g3.mono g2 hle (Agree.refl _ _);by_cases ht:b.there
   ·exact g4.heap (by rw [sP,if_neg fun hh=>hp (hm p b hb ht hh)])
   ·cases b with
    |mrows e l=>exact fun hl=>absurd hl ht
    |dead=>trivial
    |box cs=>exact absurd trivial ht
    |rows e ne l=>exact absurd trivial ht
 ·rw [oV]at hp hq;split at hp
  ·simp at hp
  ·split at hq
   ·simp at hq
   ·exact hr.inj p q b b' hp hq
open Classical in
def oId(ks:KS)(V:Vl)(p:Nat):List Nat:=if∃b,ae ks.bl p=some b∧b.there then [V.id p]else []
def se(ks:KS)(V:Vl)(l:List Nat):List Nat:=l.flatMap (oId ks V)
def qK(ks:KS)(V:Vl)(O:List (List Nat)):List (List Nat):=O.map (se ks V)
theorem mW{O:List (List Nat)}{j:Nat}:(qK ks V O).getD j []=se ks V (O.getD j []):=by
 unfold qK;rw [List.getD_eq_getElem?_getD,List.getElem?_map,List.getD_eq_getElem?_getD];cases O[j]? <;>rfl
theorem my{l:List Nat}{x:Nat}(h:x∈se ks V l):∃p∈l,∃b,ae ks.bl p=some b∧b.there∧x=V.id p:=by
 unfold se at h;obtain⟨p,hp,hx⟩:=List.mem_flatMap.1 h;unfold oId at hx;split at hx
 ·rename_i hh;obtain⟨b,h1,h2⟩:=hh;exact⟨p,hp,b,h1,h2,by simpa using hx⟩
 ·simp at hx
theorem mz{b:KB}(h:b.there):b≠ .dead:=by rintro rfl;exact h
theorem qL(hr:Rel F ks V f h){p:Nat}{b:KB}(hp:ao F ks p=some b)(ht:b.there):V.id p<h.length:=
 let⟨_,hz⟩:=oL (hr.bl p b hp).2.2 ht;zG hz
theorem Id(hr:Rel F ks V f h):∀{os rs O:List (List Nat)},djB os rs O=true→DJ (qK ks V os) rs (qK ks V O)
 | [],rs,O,_=>by cases rs<;>trivial
 |o::os,[],O,_=>trivial
 |o::os,r::rs,O,hd=>by
  have hd':((r.all fun j=>LK o (O.getD j []))&& djB os rs O)=true:=hd;rw [Bool.and_eq_true]at hd';refine⟨fun j hj x hx=> ?_,Id hr hd'.2⟩;rw [mW];intro hx2;obtain⟨p,p1,b,p2,p3,rfl⟩:=my hx;obtain⟨q,q1,b',q2,q3,q4⟩:=my hx2
  have:=hr.inj p q b b' (al p2 (mz p3)) (al q2 (mz q3)) p3 q3 q4
  subst this;have h1:=List.all_eq_true.1 hd'.1 j hj;unfold LK at h1;exact CO (List.all_eq_true.1 h1 p p1) q1
theorem NT(hr:Rel F ks V f h){O:List (List Nat)}:∀l∈qK ks V O,∀k∈l,k<h.length:=by
 intro l hl k hk;obtain⟨o,h1,rfl⟩:=List.mem_map.1 hl;obtain⟨p,_,b,p2,p3,rfl⟩:=my hk;exact qL hr (al p2 (mz p3)) p3
section
variable {Rl O : List (List Nat)} {N : List (Bool × List Nat)} {nw : List (Nat × Nat)} {i j p q : Nat}
theorem EP(hj:j∈Rl.getD i [])(hp:p∈O.getD j []):p∈eU Rl O N nw i:=List.mem_flatMap.2 ⟨j,hj,List.mem_append.2 (.inl hp)⟩
theorem EQ(hj:j∈Rl.getD i [])(hq:q∈(N.getD j (false,[])).2)(hp:ae nw q=some p):p∈eU Rl O N nw i:=List.mem_flatMap.2 ⟨j,hj,List.mem_append.2 (.inr (List.mem_append.2 (.inl (List.mem_flatMap.2 ⟨q,hq,by rw [hp];exact List.mem_singleton.2 rfl⟩))))⟩
theorem ER(hj:j∈Rl.getD i [])(hn:(N.getD j (false,[])).1=true)(hp:ae nw j=some p):p∈eU Rl O N nw i:=List.mem_flatMap.2 ⟨j,hj,List.mem_append.2 (.inr (List.mem_append.2 (.inr (by rw [hn,hp];exact List.mem_singleton.2 rfl))))⟩
end
structure TInv(F:KF)(ks0:KS)(V0:Vl)(b w:Nat)(nw:List (Nat×Nat))(i:Nat)(ks:KS)(V:Vl)(f:Nat→D)(H:ah):Prop where
 rel:Rel F ks V f H
 ext:Ext F ks0 V0 ks V
 len:H.length=b+w
 th:∀p bl,ao F ks p=some bl→bl.there→(p<ks0.nx∧∃b0,ao F ks0 p=some b0∧b0.there)∨∃j,ae nw j=some p
 nw:∀j q,ae nw j=some q→j<i∧V.id q=b+j∧q<ks.nx
 free:∀j,i≤j→an H (b+j)=none
section
variable {ks0 : KS} {V0 : Vl} {f0 : Nat → D} {h0 : ah} {w i : Nat} {nw : List (Nat × Nat)} {H : ah} {Rl O : List (List Nat)} {N : List (Bool × List Nat)}
theorem TInv.mask(hr0:Rel F ks0 V0 f0 h0)(hi:TInv F ks0 V0 h0.length w nw i ks V f H){p:Nat}{bl:KB}(hp:ao F ks p=some bl)(ht:bl.there)(hm:V.id p∈(Rl.getD i []).flatMap (aG h0.length (qK ks0 V0 O) N)):p∈eU Rl O N nw i:=by
 obtain⟨j,hj,hx⟩:=List.mem_flatMap.1 hm;unfold aG at hx;rw [mW]at hx;rcases hi.th p bl hp ht with⟨h1,b0,h2,h3⟩|⟨j0,h1⟩
 ·rw [(hi.ext.agree p h1).1]at hx;have hlt:=qL hr0 h2 h3;rcases List.mem_append.1 hx with hx|hx
  ·obtain⟨q,q1,b1,q2,q3,q4⟩:=my hx
   have:=hr0.inj p q b0 b1 h2 (al q2 (mz q3)) h3 q3 q4
   subst this;exact EP hj q1
  ·exfalso;rcases List.mem_append.1 hx with hx|hx
   ·obtain⟨k,_,hk⟩:=List.mem_map.1 hx;omega
   ·split at hx
    ·have:=List.mem_singleton.1 hx;omega
    ·simp at hx
 ·obtain⟨h2,h3,h4⟩:=hi.nw j0 p h1;rw [h3]at hx;rcases List.mem_append.1 hx with hx|hx
  ·obtain⟨q,q1,b1,q2,q3,q4⟩:=my hx
   have:=qL hr0 (al q2 (mz q3)) q3
   omega
  ·rcases List.mem_append.1 hx with hx|hx
   ·obtain⟨k,k1,k2⟩:=List.mem_map.1 hx
    have:k=j0:=by omega
    subst this;exact EQ hj k1 h1
   ·split at hx
    ·rename_i hn
     have:=List.mem_singleton.1 hx
     have:j0=j:=by omega
     subst this;exact ER hj hn h1
    ·simp at hx
theorem mX{b:KB}(h1:isM b=false)(h2:b≠ .dead):b.there:=by
 cases b with
 |mrows e l=>simp [isM]at h1
 |dead=>exact absurd rfl h2
 |box cs=>trivial
 |rows e ne l=>trivial
theorem NU(hr0:Rel F ks0 V0 f0 h0)(hi:TInv F ks0 V0 h0.length w nw i ks V f H){p:Nat}{b0:KB}(hb:ae ks.bl p=some b0)(hd:b0≠ .dead){uo:List (Nat×Blk)}(huo:(b0.there∧∃x,uo= [(V.id p,x)])∨(¬b0.there∧uo= [])):∀(P Q:List Nat),Ab ks0 ks nw p P Q=true→uo.map (·.1)=se ks0 V0 P++Q.map (h0.length+·)∧∀x∈se ks0 V0 P++Q.map (h0.length+·),x<h0.length+i
 | [q],[],ho=>by
  have ho':(Nat.beq p q && LJ ks0 ks p)=true:=ho;rw [Bool.and_eq_true]at ho'
  have:=Nat.eq_of_beq_eq_true ho'.1
  subst this;have h2:=ho'.2;unfold LJ at h2;split at h2
  ·rename_i x0 y0 hx0 hy0;rw [hb]at hy0;cases hy0;have hx0d:x0≠ .dead:=by rintro rfl;simp at h2
   have hm:isM x0=isM b0:=by
    cases x0 with
    |dead=>exact absurd rfl hx0d
    |_=>simpa using h2
   have hp0:=(hr0.bl p x0 (al hx0 hx0d)).1
   have key:x0.there↔b0.there:=by
    cases x0 with
    |dead=>exact absurd rfl hx0d
    |box cs=>exact⟨fun _=>mX hm.symm hd,fun _=>trivial⟩
    |rows e ne l=>exact⟨fun _=>mX hm.symm hd,fun _=>trivial⟩
    |mrows e l=>cases b0 with
     |mrows e' l'=>
      obtain⟨e1,l1,g1,g2⟩:=(hi.ext.le p hp0).2 e' l' (al hb hd);rw [al hx0 hx0d]at g1;cases g1;show l≠[]↔l'≠[];rw [←List.length_pos_iff,←List.length_pos_iff,g2]
     |_=>simp [isM]at hm
   have e1:se ks0 V0 [p]=oId ks0 V0 p:=by simp [se]
   rw [e1,List.map_nil,List.append_nil];rcases huo with⟨h3,x,rfl⟩|⟨h3,rfl⟩
   ·have h4:oId ks0 V0 p= [V0.id p]:=if_pos ⟨x0,hx0,key.2 h3⟩;rw [h4]
    have:=qL hr0 (al hx0 hx0d) (key.2 h3)
    exact⟨by show [V.id p]=_;rw [(hi.ext.agree p hp0).1],fun z hz=>by have:=List.mem_singleton.1 hz;omega⟩
   ·have h4:oId ks0 V0 p= []:=if_neg fun⟨b,g1,g2⟩=>by rw [hx0]at g1;cases g1;exact h3 (key.1 g2)
    rw [h4];exact⟨rfl,fun z hz=>by simp at hz⟩
  ·simp at h2
 | [],[j],ho=>by
  have ho':Gs ks nw p j=true:=ho;unfold Gs at ho';rw [Bool.and_eq_true]at ho';obtain⟨h1,h2⟩:=ho';split at h1
  ·rename_i q hq
   have:=Nat.eq_of_beq_eq_true h1
   subst this;rw [hb]at h2;have hth:b0.there:=mX (by simpa using h2) hd;obtain⟨k1,k2,k3⟩:=hi.nw j p hq;rcases huo with⟨_,x,rfl⟩|⟨h3,_⟩
   ·refine⟨?_,fun z hz=> ?_⟩
    ·show [V.id p]=_;rw [k2];simp [se]
    ·have:z=h0.length+j:=by simpa [se]using hz
     omega
   ·exact absurd hth h3
  ·simp at h1
 | [],[],ho=>by simp [Ab]at ho
 | [],_::_::_,ho=>by simp [Ab]at ho
 | [_],_::_,ho=>by simp [Ab]at ho
 |_::_::_,_,ho=>by simp [Ab]at ho
theorem Mi(hr0:Rel F ks0 V0 f0 h0)(hi:TInv F ks0 V0 h0.length w nw i ks V f H){e:KE}{ids:List Nat}(hef:Ac ks0 ks O N nw i ids e=true)(hupd:∀p b,e.upd=some (p,b)→∃b0,ae ks.bl p=some b0∧b0≠ .dead∧ScB ks.nx b∧b0.like b)(hnew:∀b,e.new=some b→ScB ks.nx b∧b≠ .dead){B':BK}{V':Vl}{u:List (Nat×Blk)}(hreal:LN B' V' V ks (h0.length+i) e u):
  u.map (·.1)=aG h0.length (qK ks0 V0 O) N i∧∀x∈aG h0.length (qK ks0 V0 O) N i,x<h0.length+(i+1):=by
 unfold Ac at hef;simp only [Bool.and_eq_true]at hef;obtain⟨⟨_,h2⟩,h3⟩:=hef;obtain⟨uo,un,rfl,huo,hun⟩:=hreal
 have hO:uo.map (·.1)=se ks0 V0 (O.getD i [])++(N.getD i (false,[])).2.map (h0.length+·)∧∀x∈se ks0 V0 (O.getD i [])++(N.getD i (false,[])).2.map (h0.length+·),x<h0.length+i:=by
  cases hu:e.upd with
  |none=>
   rw [hu]at huo h2;simp only [Bool.and_eq_true,List.isEmpty_iff]at h2;rw [show uo= []from huo,h2.1,h2.2];exact⟨rfl,fun x hx=>by simp [se]at hx⟩
  |some z=>
   obtain⟨p,b⟩:=z;rw [hu]at huo h2;simp only [Bool.and_eq_true]at h2;obtain⟨b0,g1,g2,_,_⟩:=hupd p b hu;refine NU hr0 hi g1 g2 ?_ _ _ h2.2;rcases huo with⟨x,k1,_,k2⟩|⟨k1,_,k2⟩
   ·exact .inl ⟨k2 b0 g1,x,k1⟩
   ·exact .inr ⟨k2 b0 g1,k1⟩
 have hN:un.map (·.1)=(if(N.getD i (false,[])).1 then [h0.length+i]else []):=by
  cases hn:e.new with
  |none=>
   rw [hn]at hun h3;have h3':(N.getD i (false,[])).1=false:=by simpa using h3
   rw [show un= []from hun,h3'];rfl
  |some b=>
   rw [hn]at hun h3;simp only [Bool.and_eq_true]at h3;rw [h3.1.1];have hth:b.there:=mX (by simpa using h3.2) (hnew b hn).2;rcases hun with⟨x,k1,_,_⟩|⟨_,k2⟩
   ·rw [k1];rfl
   ·exact absurd hth k2
 unfold aG;rw [mW,List.map_append,hO.1,hN,List.append_assoc];refine⟨rfl,fun x hx=> ?_⟩;rw [←List.append_assoc]at hx;rcases List.mem_append.1 hx with hx|hx
 ·have:=hO.2 x hx;omega
 ·split at hx
  ·have:=List.mem_singleton.1 hx;omega
  ·simp at hx
theorem Au:∀(u:List (Nat×Blk)) (H:ah),(∀x∈u,x.1<H.length)→(Ev.apply H u).length=H.length
 | [],H,h=>rfl
 |x::u,H,h=>by
  have h1:=gy x.2 (h x (by simp));show(Ev.apply (ap H x.1 x.2) u).length=_;rw [Au u _ (fun z hz=>by rw [h1];exact h z (by simp [hz])),h1]
theorem xF(hG:GOk G E D0)(hD:D0≤n){ops:Array Oper}{κ:KS→Option R}(hr0:Rel F ks0 V0 f0 h0):∀(l:List Oper) (i:Nat) (nw:List (Nat×Nat)) {ks:KS} {V:Vl} {f:Nat→D} {H:ah},i+l.length=w→sU G F ops.toList Rl O N ks0 κ i nw l ks=some r→TInv F ks0 V0 h0.length w nw i ks V f H→bI (Post F ks0 V0 κ r) (evW E (cpR E n) ops h0.length (aG h0.length (qK ks0 V0 O) N) (fun i=>(Rl.getD i []).flatMap (aG h0.length (qK ks0 V0 O) N)) i l {t:=tab F.nt f,h:=H})
 | [],i,nw,ks,V,f,H,hl,hs,hi=>⟨ks,V,f,rfl,hi.rel,hs,hi.ext⟩
 |o::l,i,nw,ks,V,f,H,hl,hs,hi=>by
  unfold sU at hs;obtain⟨bb,ks1,g1,g2,g3,g4,g5,g6⟩:=An hi.rel hs;obtain⟨g,gg1,gg2⟩:=dN g2;have hl':i+1+l.length=w:=by rw [List.length_cons]at hl;omega
  cases bb with
  |false=>
   simp only [cond_false]at g1
   cases hq:Gt O N i with
   |false=>rw [hq]at g1;simp at g1
   |true=>
    rw [hq]at g1;simp only [cond_true]at g1;obtain⟨k1,k2⟩:=xz g4 g3;have hi':TInv F ks0 V0 h0.length w nw (i+1) (zW o.dst ks1) V (upO o.dst bE f) H:=⟨k1,hi.ext.trans (g5.trans k2),hi.len,fun p bl hp ht=>let⟨b0,q1,q2⟩:=g6 p bl hp ht;hi.th p b0 q1 q2,fun j q hj=>let⟨q1,q2,q3⟩:=hi.nw j q hj;⟨by omega,q2,Nat.lt_of_lt_of_le q3 g5.nx⟩,fun j hj=>hi.free j (by omega)⟩;have ih:=xF hG hD hr0 l (i+1) nw hl' g1 hi'
    have hU:aG h0.length (qK ks0 V0 O) N i= []:=by
     unfold Gt at hq;simp only [Bool.and_eq_true,List.isEmpty_iff,Bool.not_eq_true']at hq;unfold aG;rw [mW,hq.1.1,hq.1.2,hq.2];rfl
    cases ho:o.dst with
    |none=>rw [ho]at ih;exact FV gg1 ho (iH gg2) (by rw [hU];rfl) (by rw [hU];rfl) (iG _) ih
    |some d=>
     rw [ho]at ih g3;exact Eg gg1 ho (fF (by simpa [gX]using g3)) (iH gg2) (by rw [hU];rfl) (by rw [hU];rfl) (iG _) (by rw [lF];exact ih)
  |true=>
   simp only [cond_true]at g1;obtain⟨op',ks2,k1,k2,k3,k4,k5,k6⟩:=Ao (E:=E) (n:=n) g4 g1;have hi2:TInv F ks0 V0 h0.length w nw i ks2 V f H:=⟨k4,hi.ext.trans (g5.trans k5),hi.len,fun p bl hp ht=>let⟨b0,q1,q2⟩:=(g6.trans k6) p bl hp ht;hi.th p b0 q1 q2,fun j q hj=>let⟨q1,q2,q3⟩:=hi.nw j q hj;⟨q1,q2,Nat.lt_of_lt_of_le q3 (g5.trans k5).nx⟩,hi.free⟩;have hmr:=Mh (ids:=eU Rl O N nw i) (ms:=(Rl.getD i []).flatMap (aG h0.length (qK ks0 V0 O) N)) hi2.rel fun p bl hp ht hm=>hi2.mask hr0 hp ht hm;obtain⟨e,e1,e2⟩:=xt (M:=ks2.nx+2) hG hD hmr (Nat.le_refl _) (Nat.le_succ _) (by show ks2.nx<_;omega) (by show ks2.nx+1<_;omega) k1;have e1':cond (Ac ks0 ks2 O N nw i (eU Rl O N nw i) e) (sU G F ops.toList Rl O N ks0 κ (i+1) (nwE e i (ks2.nx+1) nw) l (Gq o.dst ks2.nx (ks2.nx+1) e ks2)) none=some r:=e1
   cases hef:Ac ks0 ks2 O N nw i (eU Rl O N nw i) e with
   |false=>rw [hef]at e1';simp at e1'
   |true=>
    rw [hef]at e1';simp only [cond_true]at e1';obtain⟨bo,hrun⟩:=e2.run;obtain⟨v,u,s1,s2,s3⟩:=hrun (h0.length+i)
    have hnot:∀p b,e.upd=some (p,b)→p ∉ eU Rl O N nw i:=fun p b hb hp=>by
     obtain⟨b0,q1,q2,_⟩:=e2.upd p b hb;rw [jm,if_pos hp]at q1;cases q1;exact q2 rfl
    have hupd:∀p b,e.upd=some (p,b)→∃b0,ae ks2.bl p=some b0∧b0≠ .dead∧ScB ks2.nx b∧b0.like b:=fun p b hb=>by
     obtain⟨b0,q1,q2⟩:=e2.upd p b hb;rw [jm,if_neg (hnot p b hb)]at q1;exact⟨b0,q1,q2⟩
    have hfr:=hef;unfold Ac at hfr;simp only [Bool.and_eq_true]at hfr;obtain⟨⟨f1,f2⟩,f3⟩:=hfr;have hbe:∀p,p ∉ eU Rl O N nw i→Be F ks2 (ks2.nx+1) e p=Be F (qD (eU Rl O N nw i) ks2) (ks2.nx+1) e p:=fun p hp=>(NS hp).symm;have s2':RD (Be F ks2 (ks2.nx+1) e) (V.set (ks2.nx+1) (h0.length+i) ks2.nx bo) (lG ks2.nx e.v) v:=RD.free hbe (by rw [GH];exact f1) s2
    have s3':LN (Be F ks2 (ks2.nx+1) e) (V.set (ks2.nx+1) (h0.length+i) ks2.nx bo) V ks2 (h0.length+i) e u:=by
     obtain⟨uo,un,q1,q2,q3⟩:=s3;refine⟨uo,un,q1,?_,?_⟩
     ·cases hu:e.upd with
      |none=>rw [hu]at q2;exact q2
      |some z=>
       obtain⟨p,b⟩:=z;have hp:=hnot p b hu;rw [hu]at q2 f2;simp only [Bool.and_eq_true]at f2;have hlk:ae (qD (eU Rl O N nw i) ks2).bl p=ae ks2.bl p:=by rw [jm,if_neg hp]
       rcases q2 with⟨x,z1,z2,z3⟩|⟨z1,z2,z3⟩
       ·exact .inl ⟨x,z1,BlkIs.free hbe f2.1 z2,fun b0 hb0=>z3 b0 (by rw [hlk];exact hb0)⟩
       ·exact .inr ⟨z1,z2,fun b0 hb0=>z3 b0 (by rw [hlk];exact hb0)⟩
     ·cases hn:e.new with
      |none=>rw [hn]at q3;exact q3
      |some b=>
       rw [hn]at q3 f3;simp only [Bool.and_eq_true]at f3;rcases q3 with⟨x,z1,z2,z3⟩|⟨z1,z2⟩
       ·exact .inl ⟨x,z1,BlkIs.free hbe f3.1.2 z2,z3⟩
       ·exact .inr ⟨z1,z2⟩
    obtain⟨t1,t2⟩:=Mi hr0 hi2 hef hupd e2.new s3';have hnone:an H (h0.length+i)=none:=hi2.free i (Nat.le_refl _);have hh:=oM u H (xw k4 hupd s3' hnone);obtain⟨w1,w2⟩:=xv (M:=ks2.nx+2) k4 (Nat.le_refl _) (Nat.le_succ _) (by omega) (by omega) g3 hupd e2.new e2.sc s2' s3' (fun _=>hnone) hh;have hult:∀x∈u,x.1<h0.length+(i+1):=fun x hx=>t2 x.1 (t1▸List.mem_map_of_mem hx)
    have hi':TInv F ks0 V0 h0.length w (nwE e i (ks2.nx+1) nw) (i+1) (Gq o.dst ks2.nx (ks2.nx+1) e ks2) (V.set (ks2.nx+1) (h0.length+i) ks2.nx bo) (upO o.dst v f) (Ev.apply H u):=by
     have hnwl:∀j q,ae nw j=some q→ae (nwE e i (ks2.nx+1) nw) j=some q:=fun j q hj=>by
      unfold nwE;split
      ·rw [aB,if_neg (by have:=(hi2.nw j q hj).1;omega)];exact hj
      ·exact hj
     refine⟨w1,hi2.ext.trans w2,?_,?_,?_,?_⟩
     ·rw [Au u H (fun x hx=>by have:=hult x hx;rw [hi2.len];omega),hi2.len]
     ·intro p bl hp ht
      have hold:∀b0,ao F ks2 p=some b0→b0.there→(p<ks0.nx∧∃b0,ao F ks0 p=some b0∧b0.there)∨∃j,ae (nwE e i (ks2.nx+1) nw) j=some p:=fun b0 z1 z2=>by
       rcases hi2.th p b0 z1 z2 with h1|⟨j,hj⟩
       ·exact .inl h1
       ·exact .inr ⟨j,hnwl j p hj⟩
      have hp':Be F ks2 (ks2.nx+1) e p=some bl:=hp;rcases xu (fun b hb=>(e2.new b hb).2) hp' with⟨rfl,h1⟩|h1|⟨h1,h2,h3⟩
      ·refine .inr ⟨i,?_⟩;unfold nwE;rw [h1];simp only [aB,if_true]
      ·obtain⟨b0,z1,z2,_,_⟩:=hupd p bl h1;refine hold b0 (al z1 z2) ?_;obtain⟨uo,un,q1,q2,q3⟩:=s3';rw [h1]at q2;rcases q2 with⟨x,_,_,z3⟩|⟨_,z3,_⟩
       ·exact z3 b0 z1
       ·exact absurd ht z3
      ·exact hold bl h3 ht
     ·intro j q hj
      have hcase:(j=i∧q=ks2.nx+1)∨ae nw j=some q:=by
       unfold nwE at hj;split at hj
       ·rw [aB]at hj;split at hj
        ·rename_i hji;cases hj;exact .inl ⟨hji,rfl⟩
        ·exact .inr hj
       ·exact .inr hj
      rcases hcase with⟨rfl,rfl⟩|hj
      ·exact⟨Nat.lt_succ_self _,Vl.set_id,by show _<ks2.nx+2;omega⟩
      ·obtain⟨z1,z2,z3⟩:=hi2.nw j q hj;exact⟨by omega,by rw [(w2.agree q z3).1,z2],by show _<ks2.nx+2;omega⟩
     ·intro j hj;rw [hh.out _ fun x hx=>by have:=hult x hx;omega];exact hi2.free j (by omega)
    have ih:=xF hG hD hr0 l (i+1) _ hl' e1' hi';have hst:=(eA gg2).trans ((k2 (h0.length+i) _).trans s1)
    have hall:(aG h0.length (qK ks0 V0 O) N i).all (·<H.length)=true:=List.all_eq_true.2 fun x hx=>by
     have:=t2 x hx
     have h3:=hi2.len;exact decide_eq_true (by omega)
    cases ho:o.dst with
    |none=>rw [ho]at ih;exact FV gg1 ho hst t1 hall rfl ih
    |some d=>
     rw [ho]at ih g3;exact Eg gg1 ho (fF (by simpa [gX]using g3)) hst t1 hall rfl (by rw [lF];exact ih)
theorem Jz(hG:GOk G E D0)(hD:D0≤n){id:Nat}{l:List Oper}{κ:Ex→KS→Option R}(hq:dB ⟨l⟩=true)(hn:ku ⟨l⟩ N=true)(hdj:djB O (ew ⟨l⟩) O=true)(hold:Cz ks O=true)(hs:sU G F l (ew ⟨l⟩) O N ks (κ .normal) 0 [] l ks=some r)(hr:Rel F ks V f h):WpC E y n (.region id ⟨l⟩ true) (fun e s=>∃ks' V' f',s.t=tab F.nt f'∧Rel F ks' V' f' s.h∧κ e ks'=some r∧Ext F ks V ks' V') {t:=tab F.nt f,h:=h}:=by
 refine zL l.length rfl (qK ks V O) N (ew ⟨l⟩) hq hn rfl (Id hr hdj) (NT hr) fun h' h1 h2=> ?_;refine xF (ops:=⟨l⟩) (w:=l.length) hG hD hr l 0 [] (by omega) hs ⟨hr.heap h2,Ext.refl _ _ _,h1,fun p bl hp ht=> .inl ⟨(hr.bl p bl hp).1,bl,hp,ht⟩,fun j q hj=>by simp [ae]at hj,fun j hj=> ?_⟩;rw [h2];unfold an;rw [List.getElem?_eq_none (by omega)]
end
end
end K
end Ev
end
end Go.Proofs.Ythkgcllekhnecaa
