/- Texts of a claim, joined. -/
import Derived.Test.YtkmbihigeeclbaaZFW7
set_option linter.unusedVariables false
set_option linter.unusedSimpArgs false
namespace Go.Proofs.Ytkmbihigeeclbaa
noncomputable section
namespace Ev
namespace K
open Go Go.RowKit
theorem aM{α:Type}:∀(l m:List (Nat×α)) (i:Nat),ai (l++m) i=aI l m i
 | [],m,i=>rfl
 |x::l,m,i=>by
  have:=aM l m i
  unfold aI at this ⊢;rw [show x::l++m=(x.1,x.2)::(l++m)from rfl,show x::l=(x.1,x.2)::l from rfl,aj,aj];split
  .rfl
  .exact this
theorem oZ{l:List Nat}{p:Nat}:ai (l.map λp=>(p,KB.dead)) p=none/\p ∉ l∨ai (l.map λp=>(p,KB.dead)) p=some .dead/\p∈l:=by
 induction l with
 |nil=>exact .inl ⟨rfl,by simp⟩
 |cons a l ih=>
  rw [List.map_cons,aj];by_cases h:p=a
  .subst h;exact .inr ⟨by rw [if_pos rfl],by simp⟩
  .rw [if_neg h];rcases ih with⟨h1,h2⟩|⟨h1,h2⟩
   .exact .inl ⟨h1,by simp [h,h2]⟩
   .exact .inr ⟨h1,by simp [h2]⟩
theorem mC{q0:Nat}:∀{hs:List Sh} {x:cd hs} {q p:Nat} {b:KB},(p,b)∈(aA hs x q).flatMap (·.2)->ai ((aA hs x q).flatMap (·.2)) p=some b/\q<=p/\b≠ .dead
 | [],x,q,p,b,h=>by simp [aA]at h
 | [s],x,q,p,b,h=>by
  have h1:(p,b)∈(be q s x).2:=by simpa [aA]using h
  obtain⟨rfl,h2⟩:=gJ h1;have h3:(aA [s] x p).flatMap (·.2)= [(p,b)]:=by simpa [aA]using h2
  rw [h3,aj,if_pos rfl];refine⟨rfl,Nat.le_refl _,?_⟩
  cases s with
  |d fr t=>cases t<;>simp [be]at h2
  |o e=>simp only [be,List.cons.injEq,Prod.mk.injEq,true_and,and_true]at h2;subst h2;simp
  |m e=>simp only [be,List.cons.injEq,Prod.mk.injEq,true_and,and_true]at h2;subst h2;simp
  |w e=>simp [be]at h2
 |s::s'::r,x,q,p,b,h=>by
  have e1:(aA (s::s'::r) x q).flatMap (·.2)=(be q s x.1).2++(aA (s'::r) x.2 (q+1)).flatMap (·.2):=by simp [aA]
  rw [e1]at h ⊢;rw [aM];unfold aI;rcases List.mem_append.1 h with h|h
  .obtain⟨rfl,h2⟩:=gJ h;rw [h2,aj,if_pos rfl];refine⟨rfl,Nat.le_refl _,?_⟩
   cases s with
   |d fr t=>cases t<;>simp [be]at h2
   |o e=>simp only [be,List.cons.injEq,Prod.mk.injEq,true_and,and_true]at h2;subst h2;simp
   |m e=>simp only [be,List.cons.injEq,Prod.mk.injEq,true_and,and_true]at h2;subst h2;simp
   |w e=>simp [be]at h2
  .obtain⟨g1,g2,g3⟩:=mC (q0:=q0) h
   have:ai (be q s x.1).2 p=none:=by
    cases hl:ai (be q s x.1).2 p with
    |none=>rfl
    |some b'=>obtain⟨h3,_⟩:=gJ (fR hl);omega
   rw [this];exact⟨g1,by omega,g3⟩
theorem zW{hs:List Sh}{x:cd hs}{q p:Nat}(hp:p<q):ai ((aA hs x q).flatMap (·.2)) p=none:=by
 cases hl:ai ((aA hs x q).flatMap (·.2)) p with
 |none=>rfl
 |some b=>have:=(mC (q0:=0) (fR hl)).2.1;omega
theorem GP{ks:KS}{h:Sh}{c:KC}{x:h.T}{p:Nat}(hrd:RdC ks h c x)(ho:ea c=some p):∃b,ai ks.bl p=some b/\b≠ .dead:=by
 cases h with
 |d fr t=>
  obtain⟨_,h2⟩:=hrd;cases c<;>simp [ea]at ho
  .subst ho;cases t<;>simp [jb,noB]at h2
  .subst ho;cases t<;>simp [jb,noB]at h2
 |o e=>obtain⟨e',q,ne,rfl,h2⟩:=hrd;simp [ea]at ho;subst ho;exact⟨_,h2,by simp⟩
 |w e=>obtain⟨e',q,ne,rfl,h2⟩:=hrd;simp [ea]at ho;subst ho;exact⟨_,h2,by simp⟩
 |m e=>
  rcases hrd with⟨rfl,h2⟩|⟨e',q,rfl,h2⟩|⟨e',q,ne,rfl,h2,h3⟩
  .simp [ea]at ho
  .simp [ea]at ho;subst ho;exact⟨_,h2,by simp⟩
  .simp [ea]at ho;subst ho;exact⟨_,h2,by simp⟩
theorem sJ:∀{cs:List KC} {p:Nat},p∈bk cs->∃(j:Nat) (c:KC),cs[j]? =some c/\ea c=some p
 | [],p,h=>by simp [bk]at h
 |a::cs,p,h=>by
  by_cases ha:ea a=some p
  .exact⟨0,a,rfl,ha⟩
  .have:p∈bk cs:=by
    cases a<;>simp [bk]at h<;>first|exact h|(rcases h with h|h;exact absurd (by simp [ea,h]) ha;exact h)
   obtain⟨j,c,h1,h2⟩:=sJ this;exact⟨j+1,c,by simpa using h1,h2⟩
theorem yB{ks:KS}:∀{hs:List Sh} {cs:List KC} {x:cd hs} {j:Nat} {c:KC},RdCs ks hs cs x->cs[j]? =some c->∃h y,RdC ks h c y
 | [],cs,x,j,c,hrd,hj=>by rw [show cs= []from hrd]at hj;simp at hj
 | [h],cs,x,j,c,⟨a,e,hrd⟩,hj=>by
  subst e
  cases j with
  |zero=>simp at hj;subst hj;exact⟨h,x,hrd⟩
  |succ j=>simp at hj
 |h::h'::r,cs,x,j,c,⟨a,s,e,hrd,hrd2⟩,hj=>by
  subst e
  cases j with
  |zero=>simp at hj;subst hj;exact⟨h,x.1,hrd⟩
  |succ j=>exact yB hrd2 (by simpa using hj)
theorem oh{ks:KS}{hs:List Sh}{cs:List KC}{x:cd hs}{p:Nat}(hrd:RdCs ks hs cs x)(hp:p∈bk cs):∃b,ai ks.bl p=some b/\b≠ .dead:=by
 obtain⟨j,c,h1,h2⟩:=sJ hp;obtain⟨h,y,h3⟩:=yB hrd h1;exact GP h3 h2
theorem mD{F:KF}{ks:KS}:∀{l:List Nat} {i:Nat} {d:KD},ai (lz F ks l) i=some d->ai ks.sl i=some d
 | [],i,d,h=>by simp [lz,ai]at h
 |a::l,i,d,h=>by
  unfold lz at h;split at h
  .rename_i d0 h0;rw [aj]at h;split at h
   .rename_i hi;cases h;subst hi;exact h0
   .exact mD h
  .exact mD h
theorem jh{F:KF}{ks:KS}(h:eD F ks=true){i:Nat}{d:KD}(hd:ai F.sl i=some d):ai ks.sl i=none/\dX F ks i=some d:=by
 have h1:ai ks.sl i=none:=by
  have:=List.all_eq_true.1 h (i,d) (fR hd)
  simpa using this
 exact⟨h1,by unfold dX aI;rw [h1];exact hd⟩
theorem ke{F F':KF}{ks ks':KS}:∀{bs:List (Nat×List Sh)} {w:List KC},(∀v∈bs,cC F' ks' v.1=cC F ks v.1)->dj F' ks' bs w=dj F ks bs w
 | [],w,h=>rfl
 |v::r,w,h=>by
  unfold dj;rw [h v (by simp)]
  cases cC F ks v.1 with
  |none=>exact ke λv' hv=>h v' (by simp [hv])
  |some q=>simp only;rw [ke λv' hv=>h v' (by simp [hv])]
theorem gL{F:KF}{ks:KS}:∀{bs:List (Nat×List Sh)} {b:List KC},bj F ks bs=some b->∀v∈bs,∃p cs,cC F ks v.1=some p/\ai ks.bl p=some (.box cs)
 | [],b,hb,v,hv=>by simp at hv
 |v0::r,b,hb,v,hv=>by
  unfold bj at hb
  cases hp:cC F ks v0.1 with
  |none=>rw [hp]at hb;simp at hb
  |some q=>
   rw [hp]at hb;simp only [zbS]at hb;split at hb
   .rename_i cs hcs;split at hb
    .rw [Option.map_eq_some_iff]at hb;obtain⟨b',g1,rfl⟩:=hb;rcases List.mem_cons.1 hv with rfl|hv
     .exact⟨q,cs,hp,hcs⟩
     .exact gL g1 v hv
    .simp at hb
   .simp at hb
theorem ji{F:KF}{ks:KS}{V:Vl}{f:Nat->D}{h:ak}{pt:Pt}{R:Type}{r:R}{κ:cd pt.sh->Option R}(hr:Rel F ks V f h)(hs:nU F ks pt κ=some r):∃cs x,dh F ks pt=some cs/\fU (bk cs)=true/\RdCs ks pt.sh cs x/\κ x=some r:=by
 unfold nU at hs;split at hs
 .rename_i cs hcs
  cases hn:fU (bk cs)with
  |false=>rw [hn]at hs;simp at hs
  |true=>
   rw [hn]at hs;obtain⟨x,h1,h2⟩:=vc (λp e ne l hl hne=>(hr.bl p _ (ah hl (by simp))).2.2.2 hne) (show jd ks pt.sh cs κ=some r from hs);exact⟨cs,x,hcs,hn,h2,h1⟩
 .simp at hs
theorem zX{F:KF}{ks:KS}{V:Vl}{f:Nat->D}{h:ak}(hr:Rel F ks V f h){i p:Nat}(hp:cC F ks i=some p):p<ks.nx:=by
 unfold cC at hp;split at hp
 .rename_i q j hd;split at hp
  .cases hp;exact(hr.sl _ _ hd).2.1
  .simp at hp
 .simp at hp
theorem sK{F:KF}{ks:KS}{ws:List (BR×Ty)}{bs:List KB}{p:Nat}(h:∀v∈ws,dY F ks v.1≠some p):ai (dD F ks ws bs) p=none:=by
 cases hl:ai (dD F ks ws bs) p with
 |none=>rfl
 |some x=>
  obtain⟨j,v,h1,h2,h3⟩:=oY hl;exact absurd h3 (h v (List.mem_of_getElem? h1))
theorem mE{F F':KF}{ks ks':KS}:∀{ws:List (BR×Ty)} {bs:List KB},(∀v∈ws,dY F' ks' v.1=dY F ks v.1)->dD F' ks' ws bs=dD F ks ws bs
 | [],bs,h=>by simp [dD]
 |v::r,[],h=>by simp [dD]
 |v::r,b::bs,h=>by
  unfold dD;rw [h v (by simp)]
  cases dY F ks v.1 with
  |none=>exact mE λv' hv=>h v' (by simp [hv])
  |some q=>simp only;rw [mE λv' hv=>h v' (by simp [hv])]
theorem ik:∀(a b:List KC),bk (a++b)=bk a++bk b
 | [],b=>rfl
 |c::a,b=>by
  have:=ik a b
  cases c<;>simp [bk,this]
theorem mF{F:KF}{ks:KS}{pt:Pt}{cs:List KC}(hcs:dh F ks pt=some cs){v:BR×Ty}(hv:v∈pt.ws):∃p,dY F ks v.1=some p/\p∈bk cs:=by
 obtain⟨a,b,c,ha,hb,hc,rfl⟩:=dG hcs;obtain⟨j,hj⟩:=List.getElem?_of_mem hv;obtain⟨p,h1,h2⟩:=mB hc hj;refine⟨p,h1,?_⟩;rw [ik,ik];exact List.mem_append.2 (.inr (List.mem_append.2 (.inr (gI h2 rfl))))
theorem zY{F:KF}{ks:KS}{V:Vl}{f:Nat->D}{h:ak}(hr:Rel F ks V f h){w:BR}{p:Nat}(hp:dY F ks w=some p):p<ks.nx:=by
 unfold dY at hp;split at hp
 .rename_i e q hc;cases hp
  cases w with
  |sl i j=>
   simp only [brC]at hc;split at hc
   .rename_i c hd;cases hc;exact(hr.sl _ _ hd).2.1
   .rename_i cs hd;exact(hr.sl _ _ hd).2.1 _ (List.mem_of_getElem? hc)
   .simp at hc
  |bx i j=>
   simp only [brC]at hc;split at hc
   .rename_i q hq;split at hc
    .rename_i cs hb
     have:am F ks q=some (.box cs):=by unfold am;rw [hb]
     exact(hr.bl _ _ this).2.1 _ (List.mem_of_getElem? hc)
    .simp at hc
   .simp at hc
 .simp at hp
theorem AW{a b:Ex}(h:nV a b=true):a=b:=by
 cases a<;>cases b<;>simp [nV]at h<;>first|rfl|(subst h;rfl)
theorem mG{F:KF}{ks:KS}:∀{bs:List (Nat×List Sh)} {v:Nat×List Sh} {p:Nat},v∈bs->cC F ks v.1=some p->p∈jZ F ks bs
 | [],v,p,hv,_=>by simp at hv
 |w::r,v,p,hv,hp=>by
  unfold jZ;rcases List.mem_cons.1 hv with rfl|hv
  .rw [hp];exact List.mem_cons_self
  .have:=mG hv hp
   split
   .exact List.mem_cons_of_mem _ this
   .exact this
theorem yD{F:KF}{ks:KS}{ds:List Nat}{p:Nat}{b:KB}(hl:ai (ds.map (λp=>(p,KB.dead))++(ks.bl++F.bl)) p=some b)(hb:b≠ .dead):p ∉ ds/\am F ks p=some b:=by
 rw [aM]at hl;unfold aI at hl;rcases oZ (l:=ds) (p:=p)with⟨h1,h2⟩|⟨h1,h2⟩
 .rw [h1]at hl;simp only [aM]at hl;refine⟨h2,?_⟩;unfold am;rw [hl];cases b<;>first|rfl|exact absurd rfl hb
 .rw [h1]at hl;simp only [zsI]at hl;exact absurd hl.symm hb
def PostC(F:KF)(ks:KS)(V:Vl){R:Type}(κ:Ex->KS->Option R)(r:R)(e:Ex)(s:St):Prop:=∃ks' V' f',s.t=tab F.nt f'/\Rel F ks' V' f' s.h/\κ e ks'=some r/\Ext F ks V ks' V'
theorem PostC.ext{F:KF}{ks ks1:KS}{V V1:Vl}{R:Type}{κ:Ex->KS->Option R}{r:R}{e:Ex}{s:St}(he:Ext F ks V ks1 V1)(h:PostC F ks1 V1 κ r e s):PostC F ks V κ r e s:=let⟨ks',V',f',h1,h2,h3,h4⟩:=h;⟨ks',V',f',h1,h2,h3,he.trans h4⟩
def JX(F:KF)(ks:KS)(V:Vl)(keep dead:List Nat):(l:List (Ex×Pt))->XT l->Ex->St->Prop
 | [],x,_,_=>nomatch x
 |x::r,.inl v,e,s=>e=x.1/\∃V' f',s.t=tab F.nt f'/\Rel F (sj F ks keep dead x.2 v) V' f' s.h/\Ext F ks V (sj F ks keep dead x.2 v) V'
 |x::r,.inr v,e,s=>JX F ks V keep dead r v e s
theorem IF{F:KF}{ks:KS}{V:Vl}{keep dead:List Nat}:∀{l:List (Ex×Pt)},(∀x∈l,nV x.1 .normal=false)->∀(x:XT l) (s:St),¬JX F ks V keep dead l x .normal s
 | [],hl,x,s=>nomatch x
 |x::r,hl,.inl v,s=>λh=>by have:=hl x (by simp);rw [<-h.1]at this;simp [nV]at this
 |x::r,hl,.inr v,s=>IF (λz hz=>hl z (by simp [hz])) v s
theorem pd{F:KF}{ks:KS}{V:Vl}{keep dead:List Nat}{R:Type}{r:R}{κ:Ex->KS->Option R}:∀{l:List (Ex×Pt)} {x:XT l} {e:Ex} {s:St},afterX F ks keep dead l x κ=some r->JX F ks V keep dead l x e s->PostC F ks V κ r e s
 | [],x,e,s,h,hj=>nomatch x
 |x::l,.inl v,e,s,h,⟨he,V',f',h1,h2,h3⟩=>⟨_,V',f',h1,h2,by rw [he];exact h,h3⟩
 |x::l,.inr v,e,s,h,hj=>pd (l:=l) (x:=v) h hj
end K
end Ev
end
noncomputable section
namespace Ev
namespace K
open Go Go.RowKit
section
variable {E : Env} {y : Nat → dH} {n : Nat} {G : KG} {D0 : Nat}
theorem Fi{id:Nat}{l:List Oper}{Q:Ex->St->Prop}{t:List D}{H:ak}(m:Nat)(hc:jy l.toArray=some m)(hq:ja l.toArray=true)(h1:bU (λt=>ij E y n l.toArray (l.drop m) (Q .normal) {t,h:=H++List.replicate l.toArray.size .no}) (evR E (cpR E n) l.toArray (H++List.replicate l.toArray.size .no) H.length 0 (l.take m) t)):WpC E y n (.region id l.toArray true) Q {t,h:=H}:=by
 rw [zw]at h1
 cases hs:evQ E (cpR E n) l.toArray (H++List.replicate l.toArray.size .no) H.length 0 (l.take m) t with
 |none=>rw [hs]at h1;exact h1.elim
 |some t'=>
  rw [hs]at h1;obtain⟨s',⟨M1,h2⟩,h3⟩:=h1;obtain⟨M2,h4⟩:=pE _ _ _ _ _ _ _ (oR _ _ _ _ hs);have hq':gv l.toArray H.length (bef l.toArray) (λ_=> [])=true:=hq;refine⟨.normal,s',⟨max M1 M2,λq hm=> ?_⟩,h3⟩;simp only [evC,if_true,hc];unfold Ae;simp only [zbB];rw [if_pos hq'];rw [gk,h4 q (by omega)];simp only [zbS]
  have:=h2 q (by omega)
  rw [gk]at this;rw [this];rfl
theorem yE{α:Type}{Q Q':α->Prop}{o:Option α}(h:bU Q o)(hq:∀a,Q a->Q' a):bU Q' o:=by
 cases o with
 |none=>exact h
 |some a=>exact hq a h
section loop
variable {F : KF} {ks : KS} {V : Vl} {f : Nat → D} {h : ak} {a : yl} {cs : List KC} {x0 : cd a.head.sh}
theorem sL(hok:eD F ks=true){i:Nat}{d:KD}(hd:ai (ap F ks a cs).sl i=some d):dX F ks i=some d:=by
 have hd':ai (lz F ks a.keep++F.sl) i=some d:=hd;rw [aM]at hd';unfold aI at hd'
 cases hk:ai (lz F ks a.keep) i with
 |none=>rw [hk]at hd';exact(jh hok hd').2
 |some d'=>rw [hk]at hd';cases hd';unfold dX aI;rw [mD hk]
theorem ve(hok:eD F ks=true){ks2:KS}(hok2:eD (ap F ks a cs) ks2=true){pt:Pt}(hbs:kZ F ks (ap F ks a cs) pt=true):∀v∈pt.bs,cC (ap F ks a cs) ks2 v.1=cC F ks v.1:=by
 intro v hv;have h1:=List.all_eq_true.1 ((Bool.and_eq_true _ _).mp hbs).1 v hv
 cases hl:ai (ap F ks a cs).sl v.1 with
 |none=>rw [hl]at h1;simp at h1
 |some d=>
  unfold cC;rw [(jh hok2 hl).2,sL hok hl]
theorem pN{pt:Pt}{v:cd pt.sh}{p:Nat}{b:KB}(hl:ai (aX F ks pt v).bl p=some b):ai (dj F ks pt.bs (((aA pt.sh v ks.nx).map (·.1)).drop (gl pt.vs))) p=some b∨ai (dD F ks pt.ws ((wCs pt.sh v).drop (gl pt.vs+kW pt.bs))) p=some b∨ai ((aA pt.sh v ks.nx).flatMap (·.2)) p=some b:=by
 have h1:ai (dj F ks pt.bs (((aA pt.sh v ks.nx).map (·.1)).drop (gl pt.vs))++(dD F ks pt.ws ((wCs pt.sh v).drop (gl pt.vs+kW pt.bs))++(aA pt.sh v ks.nx).flatMap (·.2))) p=some b:=hl;rw [aM]at h1;unfold aI at h1
 cases hb:ai (dj F ks pt.bs (((aA pt.sh v ks.nx).map (·.1)).drop (gl pt.vs))) p with
 |some b'=>rw [hb]at h1;exact .inl h1
 |none=>
  rw [hb]at h1;change ai (_++_) p=some b at h1;rw [aM]at h1;unfold aI at h1
  cases hc:ai (dD F ks pt.ws ((wCs pt.sh v).drop (gl pt.vs+kW pt.bs))) p with
  |some b'=>rw [hc]at h1;exact .inr (.inl h1)
  |none=>rw [hc]at h1;exact .inr (.inr h1)
theorem kf{pt:Pt}{v:cd pt.sh}{p:Nat}(h1:∀w∈pt.bs,cC F ks w.1≠some p)(h2:∀w∈pt.ws,dY F ks w.1≠some p)(hp:p<ks.nx):ai (aX F ks pt v).bl p=none:=by
 cases hl:ai (aX F ks pt v).bl p with
 |none=>rfl
 |some b=>
  rcases pN hl with h|h|h
  .rw [fS h1]at h;simp at h
  .rw [sK h2]at h;simp at h
  .rw [zW hp]at h;simp at h
theorem pO{pt:Pt}{v:cd pt.sh}{rest:List (Nat×KB)}{G:KF}{kb:KS}{p:Nat}{b:KB}(hkb:∀p,aI kb.bl G.bl p=ai ((aX F ks pt v).bl++rest) p)(hb:am G kb p=some b):ai (dj F ks pt.bs (((aA pt.sh v ks.nx).map (·.1)).drop (gl pt.vs))) p=some b∨ai (dD F ks pt.ws ((wCs pt.sh v).drop (gl pt.vs+kW pt.bs))) p=some b∨ai ((aA pt.sh v ks.nx).flatMap (·.2)) p=some b∨(ai (aX F ks pt v).bl p=none/\ai rest p=some b/\b≠ .dead):=by
 unfold am at hb;rw [hkb,aM]at hb;unfold aI at hb
 cases hl:ai (aX F ks pt v).bl p with
 |some b'=>
  rw [hl]at hb;have hbb:b'=b:=by cases b'<;>simp at hb<;>exact hb
  subst hbb;rcases pN hl with h1|h1|h1
  .exact .inl h1
  .exact .inr (.inl h1)
  .exact .inr (.inr (.inl h1))
 |none=>
  rw [hl]at hb
  cases hr:ai rest p with
  |none=>rw [hr]at hb;simp at hb
  |some b'=>
   rw [hr]at hb
   cases b' with
   |dead=>simp at hb
   |_=>simp at hb;subst hb;exact .inr (.inr (.inr ⟨rfl,rfl,by simp⟩))
theorem pP{pt:Pt}{v:cd pt.sh}{rest:List (Nat×KB)}{G:KF}{kb:KS}(hr:Rel F ks V f h)(hkb:∀p,aI kb.bl G.bl p=ai ((aX F ks pt v).bl++rest) p){p:Nat}{b:KB}(hb:(p,b)∈(aA pt.sh v ks.nx).flatMap (·.2)):am G kb p=some b:=by
 obtain⟨g1,g2,g3⟩:=mC (q0:=0) hb;unfold am;rw [hkb,aM];unfold aI
 have h1:ai (aX F ks pt v).bl p=some b:=by
  show ai (dj F ks pt.bs (((aA pt.sh v ks.nx).map (·.1)).drop (gl pt.vs))++(dD F ks pt.ws ((wCs pt.sh v).drop (gl pt.vs+kW pt.bs))++(aA pt.sh v ks.nx).flatMap (·.2))) p=some b;rw [aM];unfold aI;rw [fS λw hw he=>by have:=zX hr he;omega];show ai (_++_) p=some b;rw [aM];unfold aI;rw [sK λw hw he=>by have:=zY hr he;omega];exact g1
 rw [h1];cases b<;>first|rfl|exact absurd rfl g3
theorem CG(hcs:dh F ks a.head=some cs){x:cd a.head.sh}{p:Nat}(hp:p<ks.nx)(hd:p ∉ ce F ks a cs):ai (aX F ks a.head x).bl p=none:=
 kf (λw hw he=>hd (List.mem_append.2 (.inr (mG hw he)))) (λw hw he=>hd (List.mem_append.2 (.inl (by
  obtain⟨q,h1,h2⟩:=mF hcs hw;rw [he]at h1;cases h1
  exact h2)))) hp
theorem qx(hr:Rel F ks V f h)(hok:eD F ks=true)(hcs:dh F ks a.head=some cs)(hnd:fU (bk cs)=true)(hrd:RdCs ks a.head.sh cs x0):∃V1,Rel (ap F ks a cs) (aX F ks a.head x0) V1 f h/\Agree ks.nx V V1/\LeB ks.nx (am F ks) (am (ap F ks a cs) (aX F ks a.head x0)):=by
 have hkb:∀p,aI (aX F ks a.head x0).bl (ap F ks a cs).bl p=ai ((aX F ks a.head x0).bl++((ce F ks a cs).map (λp=>(p,KB.dead))++(ks.bl++F.bl))) p:=λp=>(aM _ _ p).symm;refine trans hr hcs hrd hnd (Nat.le_refl _) rfl rfl (λi d hd=> ?_) (λp b hb=> ?_) (λp b hb=>pP hr hkb hb) (λv hv p hp=>zX hr hp) (λv hv p hp=>zY hr hp)
 .have hd':aI (fC a.head.vs ((aA a.head.sh x0 ks.nx).map (·.1))) (ap F ks a cs).sl i=some d:=hd;unfold aI at hd'
  cases hl:ai (fC a.head.vs ((aA a.head.sh x0 ks.nx).map (·.1))) i with
  |some d'=>rw [hl]at hd';cases hd';exact .inl rfl
  |none=>
   rw [hl]at hd';have h1:=sL hok hd';exact .inr ⟨h1,(hr.sl i d h1).2.1⟩
 .rcases pO hkb hb with h1|h1|h1|⟨h1,h2,h3⟩
  .exact .inl h1
  .exact .inr (.inl h1)
  .exact .inr (.inr (.inl h1))
  .obtain⟨g1,g2⟩:=yD h2 h3;obtain⟨k1,k2,_⟩:=hr.bl p b g2;exact .inr (.inr (.inr ⟨g2,k1,k2,λhm=>g1 (List.mem_append.2 (.inl hm)),λv hv he=>g1 (List.mem_append.2 (.inr (mG hv he)))⟩))
variable {ks2 : KS} {V1 V2 : Vl} {f2 : Nat → D} {h2 : ak} {x1 : cd a.head.sh} {pt : Pt} {cs2 : List KC} {v : cd pt.sh}
theorem vh(hr:Rel F ks V f h)(hcs:dh F ks a.head=some cs)(hext:Ext (ap F ks a cs) (aX F ks a.head x1) V1 ks2 V2){p:Nat}{b:KB}(hb:ai ((ce F ks a cs).map (λp=>(p,KB.dead))++(ks.bl++F.bl)) p=some b)(hd:b≠ .dead):am (ap F ks a cs) ks2 p=some b/\p<ks.nx/\ScB ks.nx b/\ai ks2.bl p=none:=by
 obtain⟨g1,g2⟩:=yD hb hd;obtain⟨k1,k2,_⟩:=hr.bl p b g2;have h1:ai (aX F ks a.head x1).bl p=none:=CG hcs k1 g1;have h2:=hext.dom p (by show p<ks.nx+_;omega) h1;refine⟨?_,k1,k2,h2⟩;unfold am aI;rw [h2]
 show(match ai ((ce F ks a cs).map (λp=>(p,KB.dead))++(ks.bl++F.bl)) p with
  |some .dead=>none
  |x=>x)=some b
 rw [hb];cases b<;>first|rfl|exact absurd rfl hd
theorem vi(hr:Rel F ks V f h)(hok2:eD (ap F ks a cs) ks2=true)(hcs:dh F ks a.head=some cs)(hext:Ext (ap F ks a cs) (aX F ks a.head x1) V1 ks2 V2)(hbs:kZ F ks (ap F ks a cs) pt=true):∀w∈pt.ws,∃p,dY (ap F ks a cs) ks2 w.1=some p/\dY F ks w.1=some p:=by
 intro w hw;have h1:=List.all_eq_true.1 ((Bool.and_eq_true _ _).mp hbs).2 w hw;split at h1
 .rename_i p q hp hq;have hpq:p=q:=Nat.eq_of_beq_eq_true h1;subst hpq;refine⟨p,?_,hp⟩;have hsl:∀i d,dX (ap F ks a cs) kNil i=some d->dX (ap F ks a cs) ks2 i=some d:=λi d hd=>(jh hok2 (show ai (ap F ks a cs).sl i=some d from hd)).2
  have hpt:∀i d,cC (ap F ks a cs) kNil i=some d->cC (ap F ks a cs) ks2 i=some d:=by
   intro i d hd;unfold cC at hd ⊢;split at hd
   .rename_i p j hg;rw [hsl _ _ hg];exact hd
   .simp at hd
  unfold dY at hq ⊢
  have key:brC (ap F ks a cs) kNil w.1=brC (ap F ks a cs) ks2 w.1∨brC (ap F ks a cs) kNil w.1=none:=by
   cases w.1 with
   |sl i j=>
    simp only [brC]
    cases hg:dX (ap F ks a cs) kNil i with
    |none=>exact .inr rfl
    |some d=>rw [hsl _ _ hg];exact .inl rfl
   |bx i j=>
    simp only [brC]
    cases hg:cC (ap F ks a cs) kNil i with
    |none=>exact .inr rfl
    |some d=>
     rw [hpt _ _ hg];simp only
     cases hl:aI kNil.bl (ap F ks a cs).bl d with
     |none=>exact .inr rfl
     |some b=>
      cases b with
      |box bc=>
       obtain⟨_,_,_,g4⟩:=vh hr hcs hext (show ai ((ce F ks a cs).map (λp=>(p,KB.dead))++(ks.bl++F.bl)) d=some (.box bc)from hl) (by simp)
       have:aI ks2.bl (ap F ks a cs).bl d=some (.box bc):=by unfold aI;rw [g4];exact hl
       rw [this];exact .inl rfl
      |_=>exact .inr rfl
  rcases key with k|k
  .rw [<-k];exact hq
  .rw [k]at hq;simp at hq
 .simp at h1
theorem Jg(hcs:dh F ks a.head=some cs)(hrd:RdCs ks a.head.sh cs x0)(hext:Ext (ap F ks a cs) (aX F ks a.head x1) V1 ks2 V2){p:Nat}(hp:p<ks.nx)(hl:ai ks.bl p=none):ai ks2.bl p=none:=by
 obtain⟨ca,cb,cw,_,hcb,_,_⟩:=dG hcs;refine hext.dom p (by show p<ks.nx+_;omega) (kf (λw hw he=> ?_) (λw hw he=> ?_) hp)
 .obtain⟨q,c,j1,j2⟩:=gL hcb w hw;rw [he]at j1;cases j1;rw [hl]at j2;simp at j2
 .obtain⟨q,j1,j2⟩:=mF hcs hw;rw [he]at j1;cases j1;obtain⟨b,k1,_⟩:=oh hrd j2;rw [hl]at k1;simp at k1
theorem AX{Fb:KF}{kb:KS}(hr:Rel F ks V f h)(hok:eD F ks=true)(hcs:dh F ks a.head=some cs)(hr2:Rel (ap F ks a cs) ks2 V2 f2 h2)(hok2:eD (ap F ks a cs) ks2=true)(hext:Ext (ap F ks a cs) (aX F ks a.head x1) V1 ks2 V2)(hbs:kZ F ks (ap F ks a cs) pt=true)(hcs2:dh (ap F ks a cs) ks2 pt=some cs2)(hnd2:fU (bk cs2)=true)(hrd2:RdCs ks2 pt.sh cs2 v)
  (hnt:Fb.nt=F.nt) (hnx:kb.nx=ks.nx+pt.sh.length) (hsl:∀i d,dX Fb kb i=some d->ai (fC pt.vs ((aA pt.sh v ks.nx).map (·.1))) i=some d∨ai (ap F ks a cs).sl i=some d) (hkb:∀p,aI kb.bl Fb.bl p=ai ((aX F ks pt v).bl++((ce F ks a cs).map (λp=>(p,KB.dead))++(ks.bl++F.bl))) p):∃V3,Rel Fb kb V3 f2 h2/\Agree ks.nx V2 V3/\LeB ks.nx (am (ap F ks a cs) ks2) (am Fb kb):=by
 have hptr:=ve hok hok2 hbs;have hrow:=vi hr hok2 hcs hext hbs;have hnx2:ks.nx<=ks2.nx:=Nat.le_trans (by show ks.nx<=ks.nx+_;omega) hext.nx;obtain⟨ca,cb,cw,_,hcb2,_,_⟩:=dG hcs2;refine trans (N0:=ks.nx) hr2 hcs2 hrd2 hnd2 hnx2 hnt hnx (λi d hd=> ?_) (λp b hb=> ?_) (λp b hb=>pP hr hkb hb) (λw hw p hp=> ?_) (λw hw p hp=> ?_)
 .rcases hsl i d hd with h1|h1
  .exact .inl h1
  .have h3:=sL hok h1;exact .inr ⟨(jh hok2 h1).2,(hr.sl i d h3).2.1⟩
 .rw [ke hptr,mE (λw hw=>by obtain⟨q,e1,e2⟩:=hrow w hw;exact e1.trans e2.symm)];rcases pO hkb hb with h1|h1|h1|⟨h1,h3,h4⟩
  .exact .inl h1
  .exact .inr (.inl h1)
  .exact .inr (.inr (.inl h1))
  ·-- a block of the head's frame
   obtain⟨g1,g2,g3,g4⟩:=vh hr hcs hext h3 h4;refine .inr (.inr (.inr ⟨g1,g2,g3,λhm=> ?_,λw hw he=> ?_⟩))
   .obtain⟨b',e1,_⟩:=oh hrd2 hm;rw [g4]at e1;simp at e1
   .obtain⟨p',c,e1,e2⟩:=gL hcb2 w hw;rw [he]at e1;cases e1;rw [g4]at e2;simp at e2
 .rw [hptr w hw]at hp;exact zX hr hp
 .obtain⟨q,e1,e2⟩:=hrow w hw;rw [hp]at e1;cases e1;exact zY hr e2
end loop
end
end K
end Ev
end
noncomputable section
namespace Ev
namespace K
open Go Go.RowKit
theorem wV{ids:List Nat}{p:Nat}(h:(!(ids.any (Nat.beq p)))=true):p ∉ ids:=by
 intro hp
 have:ids.any (Nat.beq p)=true:=List.any_eq_true.2 ⟨p,hp,Nat.beq_refl p⟩
 rw [this]at h;simp at h
theorem Fj{e:KE}{nid p:Nat}{bl bl':List (Nat×KB)}(h:ai bl p=ai bl' p):ai (blE e nid bl) p=ai (blE e nid bl') p:=by
 have h1:ai (blU e bl) p=ai (blU e bl') p:=by
  unfold blU
  cases e.upd with
  |none=>exact h
  |some x=>show ai ((x.1,x.2)::bl) p=ai ((x.1,x.2)::bl') p;rw [aj,aj,h]
 unfold blE
 cases e.new with
 |none=>exact h1
 |some b=>simp only [aj,h1]
section free
variable {B B' : BK} {V : Vl} {ids : List Nat} (hb : ∀ p, p ∉ ids → B' p = B p)
include hb
theorem RC.free{c:KC}{x:C}(hf:pH ids c=true)(h:RC B V c x):RC B' V c x:=by
 cases c with
 |o e p=>intro e' ne l hl;rw [hb p (wV (ids:=ids) (p:=p) hf)]at hl;exact h e' ne l hl
 |m e p=>intro e' l hl;rw [hb p (wV (ids:=ids) (p:=p) hf)]at hl;exact h e' l hl
 |_=>exact h
theorem RCs.free:∀{l:List KC} {xs:List C},l.all (pH ids)=true->RCs B V l xs->RCs B' V l xs
 | [],xs,hf,h=>h
 |c::l,xs,hf,⟨x,s,e,h1,h2⟩=>by
  rw [List.all_cons,Bool.and_eq_true]at hf;exact⟨x,s,e,RC.free hb hf.1 h1,RCs.free hf.2 h2⟩
theorem RD1.free{k:KD}{d:D}(hf:sk ids k=true)(h:RD1 B V k d):RD1 B' V k d:=by
 cases k with
 |one c=>obtain⟨c',h1,h2⟩:=h;exact⟨c',h1,RC.free hb hf h2⟩
 |agg cs=>obtain⟨c',h1,h2⟩:=h;exact⟨c',h1,RCs.free hb hf h2⟩
 |tup ts=>exact h
omit hb in
theorem Fk{x:Bool×List KC}(hf:x.2.all (pH ids)=true):sk ids (mkD x)=true:=by
 obtain⟨b,cs⟩:=x
 cases b with
 |true=>exact hf
 |false=>match cs,hf with
  | [],hf=>exact hf
  | [c],hf=>simpa [mkD,sk]using hf
  |c::d::r,hf=>exact hf
theorem RTs.free:∀{l:List (Bool×List KC)} {xs:List D},(l.all λx=>x.2.all (pH ids))=true->RTs B V l xs->RTs B' V l xs
 | [],xs,hf,h=>h
 |c::l,xs,hf,⟨x,s,e,h1,h2⟩=>by
  rw [List.all_cons,Bool.and_eq_true]at hf;exact⟨x,s,e,RD1.free hb (Fk hf.1) h1,RTs.free hf.2 h2⟩
theorem RD.free{k:KD}{d:D}(hf:sk ids k=true)(h:RD B V k d):RD B' V k d:=by
 cases k with
 |one c=>exact RD1.free (k:= .one c) hb hf h
 |agg cs=>exact RD1.free (k:= .agg cs) hb hf h
 |tup ts=>obtain⟨ds,h1,h2⟩:=h;exact⟨ds,h1,RTs.free hb hf h2⟩
theorem BlkIs.free{b:KB}{x:Blk}(hf:EI ids b=true)(h:BlkIs B V x b):BlkIs B' V x b:=by
 cases b with
 |box cs=>obtain⟨sz,cs',g1,g2⟩:=h;exact⟨sz,cs',g1,RCs.free hb hf g2⟩
 |rows e ne l=>exact h
 |mrows e l=>exact h
 |dead=>exact h
end free
theorem zZ{ids:List Nat}{tag:Nat}{d:KD}:sk ids (jt tag d)=sk ids d:=by
 unfold jt;split<;>rfl
section
variable {E : Env} {y : Nat → dH} {n : Nat} {F : KF} {ks : KS} {V : Vl} {f : Nat → D} {h : ak} {M tag nid : Nat} {op : Op} {G : KG} {D0 : Nat} {R : Type} {r : R}
theorem gM{ids:List Nat}{p:Nat}:ai (nZ ids ks).bl p=if p∈ids then some .dead else ai ks.bl p:=by
 show ai (ids.map (λp=>(p,KB.dead))++ks.bl) p=_;rw [aM];unfold aI;rcases oZ (l:=ids) (p:=p)with⟨h1,h2⟩|⟨h1,h2⟩
 .rw [h1,if_neg h2]
 .rw [h1,if_pos h2]
theorem mH{ids:List Nat}{p:Nat}:am F (nZ ids ks) p=if p∈ids then none else am F ks p:=by
 unfold am aI;rw [gM];by_cases hp:p∈ids
 .rw [if_pos hp,if_pos hp]
 .rw [if_neg hp,if_neg hp]
theorem GQ{ids:List Nat}{e:KE}{p:Nat}(hp:p ∉ ids):Be F (nZ ids ks) nid e p=Be F ks nid e p:=by
 have:=Fj (e:=e) (nid:=nid) (show ai (nZ ids ks).bl p=ai ks.bl p by rw [gM,if_neg hp])
 unfold Be am aI;simp only [this]
theorem Fl{ids ms:List Nat}(hr:Rel F ks V f h)(hm:∀p b,am F ks p=some b->b.there->V.id p∈ms->p∈ids):Rel F (nZ ids ks) V f (mask h ms):=by
 have hle:LeB ks.nx (am F ks) (am F (nZ ids ks)):=λp hp=>by
  rw [mH];split
  .exact⟨λe ne l h=>by simp at h,λe l h=>by simp at h⟩
  .exact⟨λe ne l h=>⟨e,ne,l,h,rfl⟩,λe l h=>⟨e,l,h,rfl⟩⟩
 refine⟨λi d hd=> ?_,λp b hb=> ?_,λp q b b' hp hq=> ?_⟩
 .obtain⟨g1,g2,g3⟩:=hr.sl i d hd;exact⟨g1,g2,g3.mono g2 hle (Agree.refl _ _)⟩
 .rw [mH]at hb;split at hb
  .simp at hb
  .rename_i hp;obtain⟨g1,g2,g3⟩:=hr.bl p b hb;refine⟨g1,g2,?_⟩;have g4:=g3.mono g2 hle (Agree.refl _ _);by_cases ht:b.there
   .exact g4.heap (by rw [yb,if_neg λhh=>hp (hm p b hb ht hh)])
   .cases b with
    |mrows e l=>exact λhl=>absurd hl ht
    |dead=>trivial
    |box cs=>exact absurd trivial ht
    |rows e ne l=>exact absurd trivial ht
 .rw [mH]at hp hq;split at hp
  .simp at hp
  .split at hq
   .simp at hq
   .exact hr.inj p q b b' hp hq
open Classical in
def oId(ks:KS)(V:Vl)(p:Nat):List Nat:=if∃b,ai ks.bl p=some b/\b.there then [V.id p]else []
def pf(ks:KS)(V:Vl)(l:List Nat):List Nat:=l.flatMap (oId ks V)
def ol(ks:KS)(V:Vl)(O:List (List Nat)):List (List Nat):=O.map (pf ks V)
theorem kI{O:List (List Nat)}{j:Nat}:(ol ks V O).getD j []=pf ks V (O.getD j []):=by
 unfold ol;rw [List.getD_eq_getElem?_getD,List.getElem?_map,List.getD_eq_getElem?_getD];cases O[j]? <;>rfl
theorem kg{l:List Nat}{x:Nat}(h:x∈pf ks V l):∃p∈l,∃b,ai ks.bl p=some b/\b.there/\x=V.id p:=by
 unfold pf at h;obtain⟨p,hp,hx⟩:=List.mem_flatMap.1 h;unfold oId at hx;split at hx
 .rename_i hh;obtain⟨b,h1,h2⟩:=hh;exact⟨p,hp,b,h1,h2,by simpa using hx⟩
 .simp at hx
theorem kn{b:KB}(h:b.there):b≠ .dead:=by rintro rfl;exact h
theorem om(hr:Rel F ks V f h){p:Nat}{b:KB}(hp:am F ks p=some b)(ht:b.there):V.id p<h.length:=
 let⟨_,hz⟩:=my (hr.bl p b hp).2.2 ht;Co hz
theorem AY(hr:Rel F ks V f h):∀{os rs O:List (List Nat)},djB os rs O=true->DJ (ol ks V os) rs (ol ks V O)
 | [],rs,O,_=>by cases rs<;>trivial
 |o::os,[],O,_=>trivial
 |o::os,r::rs,O,hd=>by
  have hd':((r.all λj=>EK o (O.getD j []))&& djB os rs O)=true:=hd;rw [Bool.and_eq_true]at hd';refine⟨λj hj x hx=> ?_,AY hr hd'.2⟩;rw [kI];intro hx2;obtain⟨p,p1,b,p2,p3,rfl⟩:=kg hx;obtain⟨q,q1,b',q2,q3,q4⟩:=kg hx2
  have:=hr.inj p q b b' (ah p2 (kn p3)) (ah q2 (kn q3)) p3 q3 q4
  subst this;have h1:=List.all_eq_true.1 hd'.1 j hj;unfold EK at h1;exact wV (List.all_eq_true.1 h1 p p1) q1
theorem GR(hr:Rel F ks V f h){O:List (List Nat)}:∀l∈ol ks V O,∀k∈l,k<h.length:=by
 intro l hl k hk;obtain⟨o,h1,rfl⟩:=List.mem_map.1 hl;obtain⟨p,_,b,p2,p3,rfl⟩:=kg hk;exact om hr (ah p2 (kn p3)) p3
section
variable {Rl O : List (List Nat)} {N : List (Bool × List Nat)} {nw : List (Nat × Nat)} {i j p q : Nat}
theorem yF(hj:j∈Rl.getD i [])(hp:p∈O.getD j []):p∈dP Rl O N nw i:=List.mem_flatMap.2 ⟨j,hj,List.mem_append.2 (.inl hp)⟩
theorem yG(hj:j∈Rl.getD i [])(hq:q∈(N.getD j (false,[])).2)(hp:ai nw q=some p):p∈dP Rl O N nw i:=List.mem_flatMap.2 ⟨j,hj,List.mem_append.2 (.inr (List.mem_append.2 (.inl (List.mem_flatMap.2 ⟨q,hq,by rw [hp];exact List.mem_singleton.2 rfl⟩))))⟩
theorem yH(hj:j∈Rl.getD i [])(hn:(N.getD j (false,[])).1=true)(hp:ai nw j=some p):p∈dP Rl O N nw i:=List.mem_flatMap.2 ⟨j,hj,List.mem_append.2 (.inr (List.mem_append.2 (.inr (by rw [hn,hp];exact List.mem_singleton.2 rfl))))⟩
end
structure TInv(F:KF)(ks0:KS)(V0:Vl)(b w:Nat)(nw:List (Nat×Nat))(i:Nat)(ks:KS)(V:Vl)(f:Nat->D)(H:ak):Prop where
 rel:Rel F ks V f H
 ext:Ext F ks0 V0 ks V
 len:H.length=b+w
 th:∀p bl,am F ks p=some bl->bl.there->(p<ks0.nx/\∃b0,am F ks0 p=some b0/\b0.there)∨∃j,ai nw j=some p
 nw:∀j q,ai nw j=some q->j<i/\V.id q=b+j/\q<ks.nx
 free:∀j,i<=j->ao H (b+j)=none
section
variable {ks0 : KS} {V0 : Vl} {f0 : Nat → D} {h0 : ak} {w i : Nat} {nw : List (Nat × Nat)} {H : ak} {Rl O : List (List Nat)} {N : List (Bool × List Nat)}
theorem TInv.mask(hr0:Rel F ks0 V0 f0 h0)(hi:TInv F ks0 V0 h0.length w nw i ks V f H){p:Nat}{bl:KB}(hp:am F ks p=some bl)(ht:bl.there)(hm:V.id p∈(Rl.getD i []).flatMap (aZ h0.length (ol ks0 V0 O) N)):p∈dP Rl O N nw i:=by
 obtain⟨j,hj,hx⟩:=List.mem_flatMap.1 hm;unfold aZ at hx;rw [kI]at hx;rcases hi.th p bl hp ht with⟨h1,b0,h2,h3⟩|⟨j0,h1⟩
 .rw [(hi.ext.agree p h1).1]at hx;have hlt:=om hr0 h2 h3;rcases List.mem_append.1 hx with hx|hx
  .obtain⟨q,q1,b1,q2,q3,q4⟩:=kg hx
   have:=hr0.inj p q b0 b1 h2 (ah q2 (kn q3)) h3 q3 q4
   subst this;exact yF hj q1
  .exfalso;rcases List.mem_append.1 hx with hx|hx
   .obtain⟨k,_,hk⟩:=List.mem_map.1 hx;omega
   .split at hx
    .have:=List.mem_singleton.1 hx;omega
    .simp at hx
 .obtain⟨h2,h3,h4⟩:=hi.nw j0 p h1;rw [h3]at hx;rcases List.mem_append.1 hx with hx|hx
  .obtain⟨q,q1,b1,q2,q3,q4⟩:=kg hx
   have:=om hr0 (ah q2 (kn q3)) q3
   omega
  .rcases List.mem_append.1 hx with hx|hx
   .obtain⟨k,k1,k2⟩:=List.mem_map.1 hx
    have:k=j0:=by omega
    subst this;exact yG hj k1 h1
   .split at hx
    .rename_i hn
     have:=List.mem_singleton.1 hx
     have:j0=j:=by omega
     subst this;exact yH hj hn h1
    .simp at hx
theorem kJ{b:KB}(h1:isM b=false)(h2:b≠ .dead):b.there:=by
 cases b with
 |mrows e l=>simp [isM]at h1
 |dead=>exact absurd rfl h2
 |box cs=>trivial
 |rows e ne l=>trivial
theorem GS(hr0:Rel F ks0 V0 f0 h0)(hi:TInv F ks0 V0 h0.length w nw i ks V f H){p:Nat}{b0:KB}(hb:ai ks.bl p=some b0)(hd:b0≠ .dead){uo:List (Nat×Blk)}(huo:(b0.there/\∃x,uo= [(V.id p,x)])∨(¬b0.there/\uo= [])):∀(P Q:List Nat),uM ks0 ks nw p P Q=true->uo.map (·.1)=pf ks0 V0 P++Q.map (h0.length+·)/\∀x∈pf ks0 V0 P++Q.map (h0.length+·),x<h0.length+i
 | [q],[],ho=>by
  have ho':(Nat.beq p q && EJ ks0 ks p)=true:=ho;rw [Bool.and_eq_true]at ho'
  have:=Nat.eq_of_beq_eq_true ho'.1
  subst this;have h2:=ho'.2;unfold EJ at h2;split at h2
  .rename_i x0 y0 hx0 hy0;rw [hb]at hy0;cases hy0;have hx0d:x0≠ .dead:=by rintro rfl;simp at h2
   have hm:isM x0=isM b0:=by
    cases x0 with
    |dead=>exact absurd rfl hx0d
    |_=>simpa using h2
   have hp0:=(hr0.bl p x0 (ah hx0 hx0d)).1
   have key:x0.there↔b0.there:=by
    cases x0 with
    |dead=>exact absurd rfl hx0d
    |box cs=>exact⟨λ_=>kJ hm.symm hd,λ_=>trivial⟩
    |rows e ne l=>exact⟨λ_=>kJ hm.symm hd,λ_=>trivial⟩
    |mrows e l=>cases b0 with
     |mrows e' l'=>
      obtain⟨e1,l1,g1,g2⟩:=(hi.ext.le p hp0).2 e' l' (ah hb hd);rw [ah hx0 hx0d]at g1;cases g1;show l≠[]↔l'≠[];rw [<-List.length_pos_iff,<-List.length_pos_iff,g2]
     |_=>simp [isM]at hm
   have e1:pf ks0 V0 [p]=oId ks0 V0 p:=by simp [pf]
   rw [e1,List.map_nil,List.append_nil];rcases huo with⟨h3,x,rfl⟩|⟨h3,rfl⟩
   .have h4:oId ks0 V0 p= [V0.id p]:=if_pos ⟨x0,hx0,key.2 h3⟩;rw [h4]
    have:=om hr0 (ah hx0 hx0d) (key.2 h3)
    exact⟨by show [V.id p]=_;rw [(hi.ext.agree p hp0).1],λz hz=>by have:=List.mem_singleton.1 hz;omega⟩
   .have h4:oId ks0 V0 p= []:=if_neg λ⟨b,g1,g2⟩=>by rw [hx0]at g1;cases g1;exact h3 (key.1 g2)
    rw [h4];exact⟨rfl,λz hz=>by simp at hz⟩
  .simp at h2
 | [],[j],ho=>by
  have ho':zK ks nw p j=true:=ho;unfold zK at ho';rw [Bool.and_eq_true]at ho';obtain⟨h1,h2⟩:=ho';split at h1
  .rename_i q hq
   have:=Nat.eq_of_beq_eq_true h1
   subst this;rw [hb]at h2;have hth:b0.there:=kJ (by simpa using h2) hd;obtain⟨k1,k2,k3⟩:=hi.nw j p hq;rcases huo with⟨_,x,rfl⟩|⟨h3,_⟩
   .refine⟨?_,λz hz=> ?_⟩
    .show [V.id p]=_;rw [k2];simp [pf]
    .have:z=h0.length+j:=by simpa [pf]using hz
     omega
   .exact absurd hth h3
  .simp at h1
 | [],[],ho=>by simp [uM]at ho
 | [],_::_::_,ho=>by simp [uM]at ho
 | [_],_::_,ho=>by simp [uM]at ho
 |_::_::_,_,ho=>by simp [uM]at ho
theorem Fm(hr0:Rel F ks0 V0 f0 h0)(hi:TInv F ks0 V0 h0.length w nw i ks V f H){e:KE}{ids:List Nat}(hef:uN ks0 ks O N nw i ids e=true)(hupd:∀p b,e.upd=some (p,b)->∃b0,ai ks.bl p=some b0/\b0≠ .dead/\ScB ks.nx b/\b0.like b)(hnew:∀b,e.new=some b->ScB ks.nx b/\b≠ .dead){B':BK}{V':Vl}{u:List (Nat×Blk)}(hreal:EN B' V' V ks (h0.length+i) e u):
  u.map (·.1)=aZ h0.length (ol ks0 V0 O) N i/\∀x∈aZ h0.length (ol ks0 V0 O) N i,x<h0.length+(i+1):=by
 unfold uN at hef;simp only [Bool.and_eq_true]at hef;obtain⟨⟨_,h2⟩,h3⟩:=hef;obtain⟨uo,un,rfl,huo,hun⟩:=hreal
 have hO:uo.map (·.1)=pf ks0 V0 (O.getD i [])++(N.getD i (false,[])).2.map (h0.length+·)/\∀x∈pf ks0 V0 (O.getD i [])++(N.getD i (false,[])).2.map (h0.length+·),x<h0.length+i:=by
  cases hu:e.upd with
  |none=>
   rw [hu]at huo h2;simp only [Bool.and_eq_true,List.isEmpty_iff]at h2;rw [show uo= []from huo,h2.1,h2.2];exact⟨rfl,λx hx=>by simp [pf]at hx⟩
  |some z=>
   obtain⟨p,b⟩:=z;rw [hu]at huo h2;simp only [Bool.and_eq_true]at h2;obtain⟨b0,g1,g2,_,_⟩:=hupd p b hu;refine GS hr0 hi g1 g2 ?_ _ _ h2.2;rcases huo with⟨x,k1,_,k2⟩|⟨k1,_,k2⟩
   .exact .inl ⟨k2 b0 g1,x,k1⟩
   .exact .inr ⟨k2 b0 g1,k1⟩
 have hN:un.map (·.1)=(if(N.getD i (false,[])).1 then [h0.length+i]else []):=by
  cases hn:e.new with
  |none=>
   rw [hn]at hun h3;have h3':(N.getD i (false,[])).1=false:=by simpa using h3
   rw [show un= []from hun,h3'];rfl
  |some b=>
   rw [hn]at hun h3;simp only [Bool.and_eq_true]at h3;rw [h3.1.1];have hth:b.there:=kJ (by simpa using h3.2) (hnew b hn).2;rcases hun with⟨x,k1,_,_⟩|⟨_,k2⟩
   .rw [k1];rfl
   .exact absurd hth k2
 unfold aZ;rw [kI,List.map_append,hO.1,hN,List.append_assoc];refine⟨rfl,λx hx=> ?_⟩;rw [<-List.append_assoc]at hx;rcases List.mem_append.1 hx with hx|hx
 .have:=hO.2 x hx;omega
 .split at hx
  .have:=List.mem_singleton.1 hx;omega
  .simp at hx
theorem vj:∀(u:List (Nat×Blk)) (H:ak),(∀x∈u,x.1<H.length)->(Ev.apply H u).length=H.length
 | [],H,h=>rfl
 |x::u,H,h=>by
  have h1:=zv x.2 (h x (by simp));show(Ev.apply (av H x.1 x.2) u).length=_;rw [vj u _ (λz hz=>by rw [h1];exact h z (by simp [hz])),h1]
theorem sM(hG:GOk G E D0)(hD:D0<=n){ops:Array Oper}{κ:KS->Option R}(hr0:Rel F ks0 V0 f0 h0):∀(l:List Oper) (i:Nat) (nw:List (Nat×Nat)) {ks:KS} {V:Vl} {f:Nat->D} {H:ak},i+l.length=w->pI G F ops.toList Rl O N ks0 κ i nw l ks=some r->TInv F ks0 V0 h0.length w nw i ks V f H->bU (Post F ks0 V0 κ r) (evW E (cpR E n) ops h0.length (aZ h0.length (ol ks0 V0 O) N) (λi=>(Rl.getD i []).flatMap (aZ h0.length (ol ks0 V0 O) N)) i l {t:=tab F.nt f,h:=H})
 | [],i,nw,ks,V,f,H,hl,hs,hi=>⟨ks,V,f,rfl,hi.rel,hs,hi.ext⟩
 |o::l,i,nw,ks,V,f,H,hl,hs,hi=>by
  unfold pI at hs;obtain⟨bb,ks1,g1,g2,g3,g4,g5,g6⟩:=uY hi.rel hs;obtain⟨g,gg1,gg2⟩:=jS g2;have hl':i+1+l.length=w:=by rw [List.length_cons]at hl;omega
  cases bb with
  |false=>
   simp only [cond_false]at g1
   cases hq:zL O N i with
   |false=>rw [hq]at g1;simp at g1
   |true=>
    rw [hq]at g1;simp only [cond_true]at g1;obtain⟨k1,k2⟩:=sG g4 g3;have hi':TInv F ks0 V0 h0.length w nw (i+1) (uH o.dst ks1) V (upO o.dst bE f) H:=⟨k1,hi.ext.trans (g5.trans k2),hi.len,λp bl hp ht=>let⟨b0,q1,q2⟩:=g6 p bl hp ht;hi.th p b0 q1 q2,λj q hj=>let⟨q1,q2,q3⟩:=hi.nw j q hj;⟨by omega,q2,Nat.lt_of_lt_of_le q3 g5.nx⟩,λj hj=>hi.free j (by omega)⟩;have ih:=sM hG hD hr0 l (i+1) nw hl' g1 hi'
    have hU:aZ h0.length (ol ks0 V0 O) N i= []:=by
     unfold zL at hq;simp only [Bool.and_eq_true,List.isEmpty_iff,Bool.not_eq_true']at hq;unfold aZ;rw [kI,hq.1.1,hq.1.2,hq.2];rfl
    cases ho:o.dst with
    |none=>rw [ho]at ih;exact DY gg1 ho (gq gg2) (by rw [hU];rfl) (by rw [hU];rfl) (ky _) ih
    |some d=>
     rw [ho]at ih g3;exact Hg gg1 ho (jT (by simpa [fP]using g3)) (gq gg2) (by rw [hU];rfl) (by rw [hU];rfl) (ky _) (by rw [rX];exact ih)
  |true=>
   simp only [cond_true]at g1;obtain⟨op',ks2,k1,k2,k3,k4,k5,k6⟩:=uZ (E:=E) (n:=n) g4 g1;have hi2:TInv F ks0 V0 h0.length w nw i ks2 V f H:=⟨k4,hi.ext.trans (g5.trans k5),hi.len,λp bl hp ht=>let⟨b0,q1,q2⟩:=(g6.trans k6) p bl hp ht;hi.th p b0 q1 q2,λj q hj=>let⟨q1,q2,q3⟩:=hi.nw j q hj;⟨q1,q2,Nat.lt_of_lt_of_le q3 (g5.trans k5).nx⟩,hi.free⟩;have hmr:=Fl (ids:=dP Rl O N nw i) (ms:=(Rl.getD i []).flatMap (aZ h0.length (ol ks0 V0 O) N)) hi2.rel λp bl hp ht hm=>hi2.mask hr0 hp ht hm;obtain⟨e,e1,e2⟩:=sA (M:=ks2.nx+2) hG hD hmr (Nat.le_refl _) (Nat.le_succ _) (by show ks2.nx<_;omega) (by show ks2.nx+1<_;omega) k1;have e1':cond (uN ks0 ks2 O N nw i (dP Rl O N nw i) e) (pI G F ops.toList Rl O N ks0 κ (i+1) (nwE e i (ks2.nx+1) nw) l (zI o.dst ks2.nx (ks2.nx+1) e ks2)) none=some r:=e1
   cases hef:uN ks0 ks2 O N nw i (dP Rl O N nw i) e with
   |false=>rw [hef]at e1';simp at e1'
   |true=>
    rw [hef]at e1';simp only [cond_true]at e1';obtain⟨bo,hrun⟩:=e2.run;obtain⟨v,u,s1,s2,s3⟩:=hrun (h0.length+i)
    have hnot:∀p b,e.upd=some (p,b)->p ∉ dP Rl O N nw i:=λp b hb hp=>by
     obtain⟨b0,q1,q2,_⟩:=e2.upd p b hb;rw [gM,if_pos hp]at q1;cases q1;exact q2 rfl
    have hupd:∀p b,e.upd=some (p,b)->∃b0,ai ks2.bl p=some b0/\b0≠ .dead/\ScB ks2.nx b/\b0.like b:=λp b hb=>by
     obtain⟨b0,q1,q2⟩:=e2.upd p b hb;rw [gM,if_neg (hnot p b hb)]at q1;exact⟨b0,q1,q2⟩
    have hfr:=hef;unfold uN at hfr;simp only [Bool.and_eq_true]at hfr;obtain⟨⟨f1,f2⟩,f3⟩:=hfr;have hbe:∀p,p ∉ dP Rl O N nw i->Be F ks2 (ks2.nx+1) e p=Be F (nZ (dP Rl O N nw i) ks2) (ks2.nx+1) e p:=λp hp=>(GQ hp).symm;have s2':RD (Be F ks2 (ks2.nx+1) e) (V.set (ks2.nx+1) (h0.length+i) ks2.nx bo) (jt ks2.nx e.v) v:=RD.free hbe (by rw [zZ];exact f1) s2
    have s3':EN (Be F ks2 (ks2.nx+1) e) (V.set (ks2.nx+1) (h0.length+i) ks2.nx bo) V ks2 (h0.length+i) e u:=by
     obtain⟨uo,un,q1,q2,q3⟩:=s3;refine⟨uo,un,q1,?_,?_⟩
     .cases hu:e.upd with
      |none=>rw [hu]at q2;exact q2
      |some z=>
       obtain⟨p,b⟩:=z;have hp:=hnot p b hu;rw [hu]at q2 f2;simp only [Bool.and_eq_true]at f2;have hlk:ai (nZ (dP Rl O N nw i) ks2).bl p=ai ks2.bl p:=by rw [gM,if_neg hp]
       rcases q2 with⟨x,z1,z2,z3⟩|⟨z1,z2,z3⟩
       .exact .inl ⟨x,z1,BlkIs.free hbe f2.1 z2,λb0 hb0=>z3 b0 (by rw [hlk];exact hb0)⟩
       .exact .inr ⟨z1,z2,λb0 hb0=>z3 b0 (by rw [hlk];exact hb0)⟩
     .cases hn:e.new with
      |none=>rw [hn]at q3;exact q3
      |some b=>
       rw [hn]at q3 f3;simp only [Bool.and_eq_true]at f3;rcases q3 with⟨x,z1,z2,z3⟩|⟨z1,z2⟩
       .exact .inl ⟨x,z1,BlkIs.free hbe f3.1.2 z2,z3⟩
       .exact .inr ⟨z1,z2⟩
    obtain⟨t1,t2⟩:=Fm hr0 hi2 hef hupd e2.new s3';have hnone:ao H (h0.length+i)=none:=hi2.free i (Nat.le_refl _);have hh:=mz u H (sD k4 hupd s3' hnone);obtain⟨w1,w2⟩:=sC (M:=ks2.nx+2) k4 (Nat.le_refl _) (Nat.le_succ _) (by omega) (by omega) g3 hupd e2.new e2.sc s2' s3' (λ_=>hnone) hh;have hult:∀x∈u,x.1<h0.length+(i+1):=λx hx=>t2 x.1 (t1▸List.mem_map_of_mem hx)
    have hi':TInv F ks0 V0 h0.length w (nwE e i (ks2.nx+1) nw) (i+1) (zI o.dst ks2.nx (ks2.nx+1) e ks2) (V.set (ks2.nx+1) (h0.length+i) ks2.nx bo) (upO o.dst v f) (Ev.apply H u):=by
     have hnwl:∀j q,ai nw j=some q->ai (nwE e i (ks2.nx+1) nw) j=some q:=λj q hj=>by
      unfold nwE;split
      .rw [aj,if_neg (by have:=(hi2.nw j q hj).1;omega)];exact hj
      .exact hj
     refine⟨w1,hi2.ext.trans w2,?_,?_,?_,?_⟩
     .rw [vj u H (λx hx=>by have:=hult x hx;rw [hi2.len];omega),hi2.len]
     .intro p bl hp ht
      have hold:∀b0,am F ks2 p=some b0->b0.there->(p<ks0.nx/\∃b0,am F ks0 p=some b0/\b0.there)∨∃j,ai (nwE e i (ks2.nx+1) nw) j=some p:=λb0 z1 z2=>by
       rcases hi2.th p b0 z1 z2 with h1|⟨j,hj⟩
       .exact .inl h1
       .exact .inr ⟨j,hnwl j p hj⟩
      have hp':Be F ks2 (ks2.nx+1) e p=some bl:=hp;rcases sB (λb hb=>(e2.new b hb).2) hp' with⟨rfl,h1⟩|h1|⟨h1,h2,h3⟩
      .refine .inr ⟨i,?_⟩;unfold nwE;rw [h1];simp only [aj,if_true]
      .obtain⟨b0,z1,z2,_,_⟩:=hupd p bl h1;refine hold b0 (ah z1 z2) ?_;obtain⟨uo,un,q1,q2,q3⟩:=s3';rw [h1]at q2;rcases q2 with⟨x,_,_,z3⟩|⟨_,z3,_⟩
       .exact z3 b0 z1
       .exact absurd ht z3
      .exact hold bl h3 ht
     .intro j q hj
      have hcase:(j=i/\q=ks2.nx+1)∨ai nw j=some q:=by
       unfold nwE at hj;split at hj
       .rw [aj]at hj;split at hj
        .rename_i hji;cases hj;exact .inl ⟨hji,rfl⟩
        .exact .inr hj
       .exact .inr hj
      rcases hcase with⟨rfl,rfl⟩|hj
      .exact⟨Nat.lt_succ_self _,Vl.set_id,by show _<ks2.nx+2;omega⟩
      .obtain⟨z1,z2,z3⟩:=hi2.nw j q hj;exact⟨by omega,by rw [(w2.agree q z3).1,z2],by show _<ks2.nx+2;omega⟩
     .intro j hj;rw [hh.out _ λx hx=>by have:=hult x hx;omega];exact hi2.free j (by omega)
    have ih:=sM hG hD hr0 l (i+1) _ hl' e1' hi';have hst:=(nL gg2).trans ((k2 (h0.length+i) _).trans s1)
    have hall:(aZ h0.length (ol ks0 V0 O) N i).all (·<H.length)=true:=List.all_eq_true.2 λx hx=>by
     have:=t2 x hx
     have h3:=hi2.len;exact decide_eq_true (by omega)
    cases ho:o.dst with
    |none=>rw [ho]at ih;exact DY gg1 ho hst t1 hall rfl ih
    |some d=>
     rw [ho]at ih g3;exact Hg gg1 ho (jT (by simpa [fP]using g3)) hst t1 hall rfl (by rw [rX];exact ih)
theorem CH(hG:GOk G E D0)(hD:D0<=n){id:Nat}{l:List Oper}{κ:Ex->KS->Option R}(hq:dq ⟨l⟩=true)(hn:js ⟨l⟩ N=true)(hdj:djB O (dU ⟨l⟩) O=true)(hold:wH ks O=true)(hs:pI G F l (dU ⟨l⟩) O N ks (κ .normal) 0 [] l ks=some r)(hr:Rel F ks V f h):WpC E y n (.region id ⟨l⟩ true) (λe s=>∃ks' V' f',s.t=tab F.nt f'/\Rel F ks' V' f' s.h/\κ e ks'=some r/\Ext F ks V ks' V') {t:=tab F.nt f,h:=h}:=by
 refine Ct l.length rfl (ol ks V O) N (dU ⟨l⟩) hq hn rfl (AY hr hdj) (GR hr) λh' h1 h2=> ?_;refine sM (ops:=⟨l⟩) (w:=l.length) hG hD hr l 0 [] (by omega) hs ⟨hr.heap h2,Ext.refl _ _ _,h1,λp bl hp ht=> .inl ⟨(hr.bl p bl hp).1,bl,hp,ht⟩,λj q hj=>by simp [ai]at hj,λj hj=> ?_⟩;rw [h2];unfold ao;rw [List.getElem?_eq_none (by omega)]
end
end
section
variable {F : KF} {ks : KS} {V : Vl} {f : Nat → D} {h : ak} {R : Type} {r : R}
theorem jk{p:Nat}(hl:ai ks.bl p=some .dead):am F ks p=none:=by
 unfold am aI;rw [hl]
theorem kK{bl bl':List (Nat×KB)}{p:Nat}{sl sl':List (Nat×KD)}{n n':Nat}(hl:ai bl p=ai bl' p):am F ⟨sl,bl,n⟩ p=am F ⟨sl',bl',n'⟩ p:=by
 unfold am aI;simp only [hl]
theorem RCs.set{B:BK}{V:Vl}{c:KC}:∀{cs:List KC} {xs:List C} {j:Nat},RCs B V cs xs->(∀x,xs[j]? =some x->RC B V c x)->RCs B V (cs.set j c) xs
 | [],xs,j,h,_=>h
 |k::cs,xs,0,⟨x,s,e,h1,h2⟩,hc=>⟨x,s,e,hc x (by rw [e];rfl),h2⟩
 |k::cs,xs,j+1,⟨x,s,e,h1,h2⟩,hc=>⟨x,s,e,h1,RCs.set (j:=j) h2 λy hy=>hc y (by rw [e];exact hy)⟩
theorem RCs.get{B:BK}{V:Vl}{c:KC}:∀{cs:List KC} {xs:List C} {j:Nat} {x:C},RCs B V cs xs->cs[j]? =some c->xs[j]? =some x->RC B V c x
 | [],xs,j,x,_,h,_=>by simp at h
 |k::cs,xs,0,x,⟨y,s,e,h1,h2⟩,hc,hx=>by
  subst e;simp only [List.getElem?_cons_zero,zsI]at hc hx;subst hc hx;exact h1
 |k::cs,xs,j+1,x,⟨y,s,e,h1,h2⟩,hc,hx=>by
  subst e;exact RCs.get (j:=j) h2 (by simpa using hc) (by simpa using hx)
theorem Aa{b:BR}{κ:KS->Option R}(hr:Rel F ks V f h)(hs:qC F ks b κ=some r):∃ks' V',κ ks'=some r/\Rel F ks' V' f h/\Ext F ks V ks' V':=by
 have triv:κ ks=some r->∃ks' V',κ ks'=some r/\Rel F ks' V' f h/\Ext F ks V ks' V':=λhk=>⟨ks,V,hk,hr,Ext.refl _ _ _⟩;have hlt:∀{p b},ai ks.bl p=some b->b≠ .dead->p<ks.nx:=λ{p b} hl hd=>(hr.bl p b (ah hl hd)).1
 cases b with
 |sl i j=>
  simp only [qC]at hs;split at hs
  rotate_left
  .exact triv hs
  rename_i e p hi;split at hs
  rotate_left
  .exact triv hs
  rename_i e' l hp;have hpn:=hlt hp (by simp);have hBp:am F ks p=some (.mrows e' l):=ah hp (by simp);obtain⟨s1,s2,s3⟩:=hr.sl i _ hi
  have hc:∃c,f i= .one c/\c=moC l (V.id p):=by
   obtain⟨c,h1,h2⟩:=(show∃c',f i= .one c'/\RC (am F ks) V (.m e p) c' from s3);exact⟨c,h1,h2 e' l hBp⟩
  obtain⟨c,hc1,hc2⟩:=hc;by_cases hl0:l.length=0
  .rw [if_pos hl0]at hs;obtain rfl:l= []:=List.eq_nil_of_length_eq_zero hl0
   have hB:∀x,am F {ks with sl:=(i,.one .nil)::ks.sl,bl:=(p,.dead)::ks.bl} x=if x=p then none else am F ks x:=λx=>by
    by_cases hx:x=p
    .rw [if_pos hx];exact jk (by rw [hx,aj,if_pos rfl])
    .rw [if_neg hx];exact kK (by rw [aj,if_neg hx])
   have hle:LeB ks.nx (am F ks) (am F {ks with sl:=(i,.one .nil)::ks.sl,bl:=(p,.dead)::ks.bl}):=λx hx=>by
    constructor
    .intro e0 ne l' hb;rw [hB]at hb;split at hb
     .cases hb
     .exact⟨e0,ne,l',hb,rfl⟩
    .intro e0 l' hb;rw [hB]at hb;split at hb
     .cases hb
     .exact⟨e0,l',hb,rfl⟩
   refine⟨_,V,hs,⟨λx d hx=> ?_,λx b hb=> ?_,λx y b b' hb hb' t t' e0=> ?_⟩,⟨Nat.le_refl _,Agree.refl _ _,hle,λx hx hn=> ?_⟩⟩
   .by_cases hxi:x=i
    .subst hxi
     have hx':d= .one .nil:=by
      have:dX F {ks with sl:=(x,.one .nil)::ks.sl,bl:=(p,.dead)::ks.bl} x=some (.one .nil):=by unfold dX aI;rw [aj,if_pos rfl]
      rw [this]at hx;exact(Option.some.inj hx).symm
     subst hx';exact⟨s1,trivial,c,hc1,hc2⟩
    .have hx':dX F ks x=some d:=by
      rw [<-hx];unfold dX aI;rw [aj,if_neg hxi]
     obtain⟨g1,g2,g3⟩:=hr.sl x d hx';exact⟨g1,g2,g3.mono g2 hle (Agree.refl _ _)⟩
   .rw [hB]at hb;split at hb
    .cases hb
    .obtain⟨g1,g2,g3⟩:=hr.bl x b hb;exact⟨g1,g2,g3.mono g2 hle (Agree.refl _ _)⟩
   .rw [hB]at hb hb';split at hb
    .cases hb
    .split at hb'
     .cases hb'
     .exact hr.inj x y b b' hb hb' t t' e0
   .have hxp:x≠p:=by rintro rfl;rw [hp]at hn;cases hn
    rw [aj,if_neg hxp];exact hn
  .rw [if_neg hl0]at hs;have hne:l≠[]:=λh=>hl0 (by rw [h];rfl);have hpx:ks.nx≠p:=by omega
   have hB:∀x,am F {ks with sl:=(i,.one (.o e ks.nx))::ks.sl,bl:=(ks.nx,.rows e' true l)::(p,.dead)::ks.bl,nx:=ks.nx+1} x=if x=ks.nx then some (.rows e' true l)else if x=p then none else am F ks x:=λx=>by
    by_cases hx:x=ks.nx
    .rw [if_pos hx];exact ah (by rw [hx,aj,if_pos rfl]) (by simp)
    .rw [if_neg hx];by_cases hx2:x=p
     .rw [if_pos hx2];exact jk (by rw [hx2,aj,if_neg (Ne.symm hpx),aj,if_pos rfl])
     .rw [if_neg hx2];exact kK (by rw [aj,if_neg hx,aj,if_neg hx2])
   have hle:LeB ks.nx (am F ks) (am F {ks with sl:=(i,.one (.o e ks.nx))::ks.sl,bl:=(ks.nx,.rows e' true l)::(p,.dead)::ks.bl,nx:=ks.nx+1}):=λx hx=>by
    constructor
    .intro e0 ne l' hb;rw [hB,if_neg (by omega)]at hb;split at hb
     .cases hb
     .exact⟨e0,ne,l',hb,rfl⟩
    .intro e0 l' hb;rw [hB,if_neg (by omega)]at hb;split at hb
     .cases hb
     .exact⟨e0,l',hb,rfl⟩
   have hag:Agree ks.nx V {V with id:=λx=>if x=ks.nx then V.id p else V.id x}:=λq hq=>⟨if_neg (by omega),rfl⟩;have hid:∀x,x<ks.nx->(if x=ks.nx then V.id p else V.id x)=V.id x:=λx hx=>if_neg (by omega);have hBk:ao h (V.id p)=some (e'.size,l.map (cL e'.row)):=(hr.bl p _ hBp).2.2 hne;refine⟨_,{V with id:=λx=>if x=ks.nx then V.id p else V.id x},hs,⟨λx d hx=> ?_,λx b hb=> ?_,λx y b b' hb hb' t t' e0=> ?_⟩,⟨Nat.le_succ _,hag,hle,λx hx hn=> ?_⟩⟩
   .by_cases hxi:x=i
    .subst hxi
     have hx':d= .one (.o e ks.nx):=by
      have:dX F {ks with sl:=(x,.one (.o e ks.nx))::ks.sl,bl:=(ks.nx,.rows e' true l)::(p,.dead)::ks.bl,nx:=ks.nx+1} x=some (.one (.o e ks.nx)):=by unfold dX aI;rw [aj,if_pos rfl]
      rw [this]at hx;exact(Option.some.inj hx).symm
     subst hx';refine⟨s1,Nat.lt_succ_self _,c,hc1,λe0 ne l0 hb=> ?_⟩;rw [hB,if_pos rfl]at hb;cases hb;rw [hc2];show moC l (V.id p)= .own (if ks.nx=ks.nx then V.id p else V.id ks.nx) 0 l.length;rw [if_pos rfl]
     cases l with
     |nil=>exact absurd rfl hne
     |cons a t=>rfl
    .have hx':dX F ks x=some d:=by
      rw [<-hx];unfold dX aI;rw [aj,if_neg hxi]
     obtain⟨g1,g2,g3⟩:=hr.sl x d hx';exact⟨g1,g2.mono (Nat.le_succ _),g3.mono g2 hle hag⟩
   .rw [hB]at hb;split at hb
    .rename_i hx;cases hb;refine⟨by subst hx;exact Nat.lt_succ_self _,trivial,?_,λ_=>hne⟩;show ao h (if x=ks.nx then V.id p else V.id x)=_;rw [if_pos hx];exact hBk
    .split at hb
     .cases hb
     .obtain⟨g1,g2,g3⟩:=hr.bl x b hb;refine⟨Nat.lt_succ_of_lt g1,g2.mono (Nat.le_succ _),?_⟩
      have:=g3.mono g2 hle hag
      show RB _ _ h (if x=ks.nx then V.id p else V.id x) b;rw [hid x g1];exact this
   .have old:∀{x b},(if x=ks.nx then some (.rows e' true l)else if x=p then none else am F ks x)=some b->x≠ks.nx->x≠p/\am F ks x=some b:=λ{x b} hb hx=>by
     rw [if_neg hx]at hb;split at hb
     .cases hb
     .rename_i hp';exact⟨hp',hb⟩
    rw [hB]at hb hb';change (if x=ks.nx then V.id p else V.id x)=(if y=ks.nx then V.id p else V.id y)at e0;by_cases hx:x=ks.nx
    .by_cases hy:y=ks.nx
     .rw [hx,hy]
     .obtain⟨y1,y2⟩:=old hb' hy;rw [if_pos hx,if_neg hy]at e0;exact absurd (hr.inj p y _ _ hBp y2 hne t' e0).symm y1
    .obtain⟨x1,x2⟩:=old hb hx;by_cases hy:y=ks.nx
     .rw [if_neg hx,if_pos hy]at e0;exact absurd (hr.inj x p _ _ x2 hBp t hne e0) x1
     .obtain⟨y1,y2⟩:=old hb' hy;rw [if_neg hx,if_neg hy]at e0;exact hr.inj x y _ _ x2 y2 t t' e0
   .have hxp:x≠p:=by rintro rfl;rw [hp]at hn;cases hn
    have hxn:ks.nx≠x:=by omega
    rw [aj,if_neg (Ne.symm hxn),aj,if_neg hxp];exact hn
 |bx i j=>
  simp only [qC]at hs;split at hs
  rotate_left
  .exact triv hs
  rename_i q hi;split at hs
  rotate_left
  .exact triv hs
  rename_i cs hq;split at hs
  rotate_left
  .exact triv hs
  rename_i e p hj;split at hs
  rotate_left
  .exact triv hs
  rename_i e' l hp;have hpn:=hlt hp (by simp);have hqn:=hlt hq (by simp);have hBp:am F ks p=some (.mrows e' l):=ah hp (by simp);have hBq:am F ks q=some (.box cs):=ah hq (by simp);have hqp:q≠p:=by rintro rfl;rw [hq]at hp;cases hp
  obtain⟨q1,q2,sz,xs,q3,q4⟩:=hr.bl q _ hBq;by_cases hl0:l.length=0
  .rw [if_pos hl0]at hs;obtain rfl:l= []:=List.eq_nil_of_length_eq_zero hl0
   have hB:∀x,am F {ks with bl:=(q,.box (cs.set j .nil))::(p,.dead)::ks.bl} x=if x=q then some (.box (cs.set j .nil))else if x=p then none else am F ks x:=λx=>by
    by_cases hx:x=q
    .rw [if_pos hx];exact ah (by rw [hx,aj,if_pos rfl]) (by simp)
    .rw [if_neg hx];by_cases hx2:x=p
     .rw [if_pos hx2];exact jk (by rw [hx2,aj,if_neg (Ne.symm hqp),aj,if_pos rfl])
     .rw [if_neg hx2];exact kK (by rw [aj,if_neg hx,aj,if_neg hx2])
   have hle:LeB ks.nx (am F ks) (am F {ks with bl:=(q,.box (cs.set j .nil))::(p,.dead)::ks.bl}):=λx hx=>by
    constructor
    .intro e0 ne l' hb;rw [hB]at hb;split at hb
     .cases hb
     .split at hb
      .cases hb
      .exact⟨e0,ne,l',hb,rfl⟩
    .intro e0 l' hb;rw [hB]at hb;split at hb
     .cases hb
     .split at hb
      .cases hb
      .exact⟨e0,l',hb,rfl⟩
   refine⟨_,V,hs,⟨λx d hx=> ?_,λx b hb=> ?_,λx y b b' hb hb' t t' e0=> ?_⟩,⟨Nat.le_refl _,Agree.refl _ _,hle,λx hx hn=> ?_⟩⟩
   .obtain⟨g1,g2,g3⟩:=hr.sl x d hx;exact⟨g1,g2,g3.mono g2 hle (Agree.refl _ _)⟩
   .rw [hB]at hb;split at hb
    .rename_i hx;cases hb;subst hx;refine⟨q1,λc hc=> ?_,sz,xs,q3,RCs.set (q4.mono q2 hle (Agree.refl _ _)) λx hx=> ?_⟩
     .rcases List.mem_or_eq_of_mem_set hc with hc|rfl
      .exact q2 c hc
      .trivial
     .exact RCs.get q4 hj hx e' [] hBp
    .split at hb
     .cases hb
     .obtain⟨g1,g2,g3⟩:=hr.bl x b hb;exact⟨g1,g2,g3.mono g2 hle (Agree.refl _ _)⟩
   .have old:∀{x b},(if x=q then some (.box (cs.set j .nil))else if x=p then none else am F ks x)=some b->∃b0,am F ks x=some b0/\(b.there->b0.there):=λ{x b} hb=>by
     split at hb
     .rename_i hx;subst hx;exact⟨_,hBq,λ_=>trivial⟩
     .split at hb
      .cases hb
      .exact⟨b,hb,id⟩
    rw [hB]at hb hb';obtain⟨b0,g1,g2⟩:=old hb;obtain⟨b1,g3,g4⟩:=old hb';exact hr.inj x y b0 b1 g1 g3 (g2 t) (g4 t') e0
   .have hxp:x≠p:=by rintro rfl;rw [hp]at hn;cases hn
    have hxq:x≠q:=by rintro rfl;rw [hq]at hn;cases hn
    rw [aj,if_neg hxq,aj,if_neg hxp];exact hn
  .rw [if_neg hl0]at hs;have hne:l≠[]:=λh=>hl0 (by rw [h];rfl);have hpx:ks.nx≠p:=by omega
   have hqx:ks.nx≠q:=by omega
   have hB:∀x,am F {ks with bl:=(q,.box (cs.set j (.o e ks.nx)))::(ks.nx,.rows e' true l)::(p,.dead)::ks.bl,nx:=ks.nx+1} x=if x=q then some (.box (cs.set j (.o e ks.nx)))else if x=ks.nx then some (.rows e' true l)else if x=p then none else am F ks x:=λx=>by
    by_cases hx0:x=q
    .rw [if_pos hx0];exact ah (by rw [hx0,aj,if_pos rfl]) (by simp)
    rw [if_neg hx0];by_cases hx:x=ks.nx
    .rw [if_pos hx];exact ah (by rw [hx,aj,if_neg hqx,aj,if_pos rfl]) (by simp)
    .rw [if_neg hx];by_cases hx2:x=p
     .rw [if_pos hx2];exact jk (by rw [hx2,aj,if_neg (Ne.symm hqp),aj,if_neg (Ne.symm hpx),aj,if_pos rfl])
     .rw [if_neg hx2];exact kK (by rw [aj,if_neg hx0,aj,if_neg hx,aj,if_neg hx2])
   have hle:LeB ks.nx (am F ks) (am F {ks with bl:=(q,.box (cs.set j (.o e ks.nx)))::(ks.nx,.rows e' true l)::(p,.dead)::ks.bl,nx:=ks.nx+1}):=λx hx=>by
    constructor
    .intro e0 ne l' hb;rw [hB]at hb;split at hb
     .cases hb
     .rw [if_neg (by omega)]at hb;split at hb
      .cases hb
      .exact⟨e0,ne,l',hb,rfl⟩
    .intro e0 l' hb;rw [hB]at hb;split at hb
     .cases hb
     .rw [if_neg (by omega)]at hb;split at hb
      .cases hb
      .exact⟨e0,l',hb,rfl⟩
   have hag:Agree ks.nx V {V with id:=λx=>if x=ks.nx then V.id p else V.id x}:=λq hq=>⟨if_neg (by omega),rfl⟩;have hid:∀x,x<ks.nx->(if x=ks.nx then V.id p else V.id x)=V.id x:=λx hx=>if_neg (by omega);have hBk:ao h (V.id p)=some (e'.size,l.map (cL e'.row)):=(hr.bl p _ hBp).2.2 hne;refine⟨_,{V with id:=λx=>if x=ks.nx then V.id p else V.id x},hs,⟨λx d hx=> ?_,λx b hb=> ?_,λx y b b' hb hb' t t' e0=> ?_⟩,⟨Nat.le_succ _,hag,hle,λx hx hn=> ?_⟩⟩
   .obtain⟨g1,g2,g3⟩:=hr.sl x d hx;exact⟨g1,g2.mono (Nat.le_succ _),g3.mono g2 hle hag⟩
   .rw [hB]at hb;split at hb
    .rename_i hx;cases hb;subst hx;refine⟨Nat.lt_succ_of_lt q1,λc hc=> ?_,sz,xs,?_,RCs.set (q4.mono q2 hle hag) λx hx=> ?_⟩
     .rcases List.mem_or_eq_of_mem_set hc with hc|rfl
      .exact(q2 c hc).mono (Nat.le_succ _)
      .exact Nat.lt_succ_self _
     .show ao h (if x=ks.nx then V.id p else V.id x)=_;rw [hid x q1];exact q3
     .have h0:=RCs.get q4 hj hx e' l hBp;intro e0 ne l0 hb;rw [hB,if_neg hqx,if_pos rfl]at hb;cases hb;rw [h0];show moC l (V.id p)= .own (if ks.nx=ks.nx then V.id p else V.id ks.nx) 0 l.length;rw [if_pos rfl]
      cases l with
      |nil=>exact absurd rfl hne
      |cons a t=>rfl
    .split at hb
     .rename_i hx;cases hb;refine⟨by subst hx;exact Nat.lt_succ_self _,trivial,?_,λ_=>hne⟩;show ao h (if x=ks.nx then V.id p else V.id x)=_;rw [if_pos hx];exact hBk
     .split at hb
      .cases hb
      .obtain⟨g1,g2,g3⟩:=hr.bl x b hb;refine⟨Nat.lt_succ_of_lt g1,g2.mono (Nat.le_succ _),?_⟩
       have:=g3.mono g2 hle hag
       show RB _ _ h (if x=ks.nx then V.id p else V.id x) b;rw [hid x g1];exact this
   .have old:∀{x b},(if x=q then some (.box (cs.set j (.o e ks.nx)))else if x=ks.nx then some (.rows e' true l)else if x=p then none else am F ks x)=some b->x≠ks.nx->x≠p/\∃b0,am F ks x=some b0/\(b.there->b0.there):=λ{x b} hb hx=>by
     by_cases hx0:x=q
     .subst hx0;exact⟨hqp,_,hBq,λ_=>trivial⟩
     .rw [if_neg hx0,if_neg hx]at hb;split at hb
      .cases hb
      .rename_i hp';exact⟨hp',b,hb,id⟩
    rw [hB]at hb hb';change (if x=ks.nx then V.id p else V.id x)=(if y=ks.nx then V.id p else V.id y)at e0;by_cases hx:x=ks.nx
    .by_cases hy:y=ks.nx
     .rw [hx,hy]
     .obtain⟨y1,b1,y2,y3⟩:=old hb' hy;rw [if_pos hx,if_neg hy]at e0;exact absurd (hr.inj p y _ _ hBp y2 hne (y3 t') e0).symm y1
    .obtain⟨x1,b0,x2,x3⟩:=old hb hx;by_cases hy:y=ks.nx
     .rw [if_neg hx,if_pos hy]at e0;exact absurd (hr.inj x p _ _ x2 hBp (x3 t) hne e0) x1
     .obtain⟨y1,b1,y2,y3⟩:=old hb' hy;rw [if_neg hx,if_neg hy]at e0;exact hr.inj x y _ _ x2 y2 (x3 t) (y3 t') e0
   .have hxp:x≠p:=by rintro rfl;rw [hp]at hn;cases hn
    have hxq:x≠q:=by rintro rfl;rw [hq]at hn;cases hn
    have hxn:ks.nx≠x:=by omega
    rw [aj,if_neg hxq,aj,if_neg (Ne.symm hxn),aj,if_neg hxp];exact hn
theorem vk{κ:KS->Option R}:∀(bs:List BR) {ks:KS} {V:Vl},Rel F ks V f h->sm F κ bs ks=some r->∃ks' V',κ ks'=some r/\Rel F ks' V' f h/\Ext F ks V ks' V'
 | [],ks,V,hr,hs=>⟨ks,V,hs,hr,Ext.refl _ _ _⟩
 |b::bs,ks,V,hr,hs=>by
  obtain⟨ks1,V1,h1,h2,h3⟩:=Aa (κ:=λks=>sm F κ bs ks) hr hs;obtain⟨ks2,V2,g1,g2,g3⟩:=vk bs h2 h1;exact⟨ks2,V2,g1,g2,h3.trans g3⟩
end
end K
end Ev
end
noncomputable section
namespace Ev
namespace K
open Go Go.RowKit
section
variable {E : Env} {y : Nat → dH} {n : Nat} {G : KG} {D0 : Nat}
section loop
variable {F : KF} {ks : KS} {V : Vl} {f : Nat → D} {h : ak} {a : yl} {cs : List KC} {x0 : cd a.head.sh} {ks2 : KS} {V1 V2 : Vl} {f2 : Nat → D} {x1 : cd a.head.sh}
theorem mI{F:KF}{ks:KS}:∀{bs:List (Nat×List Sh)} {p:Nat},p∈jZ F ks bs->∃v∈bs,cC F ks v.1=some p
 | [],p,h=>by simp [jZ]at h
 |v::r,p,h=>by
  unfold jZ at h;split at h
  .rename_i q hq;rcases List.mem_cons.1 h with rfl|h
   .exact⟨v,by simp,hq⟩
   .obtain⟨w,h1,h2⟩:=mI h;exact⟨w,by simp [h1],h2⟩
  .obtain⟨w,h1,h2⟩:=mI h;exact⟨w,by simp [h1],h2⟩
theorem sN(hr:Rel F ks V f h)(hok:eD F ks=true)(hcs:dh F ks a.head=some cs)(hrd:RdCs ks a.head.sh cs x0)(ha1:Agree ks.nx V V1)(hl1:LeB ks.nx (am F ks) (am (ap F ks a cs) (aX F ks a.head x1))){s:St}(hst:s.t=tab F.nt f2)(hr2:Rel (ap F ks a cs) ks2 V2 f2 s.h)(hok2:eD (ap F ks a cs) ks2=true)(hext:Ext (ap F ks a cs) (aX F ks a.head x1) V1 ks2 V2){e:Ex}:∀{l:List (Ex×Pt)} {R:Type} {r:R} {κ:XT l->Option R},(∀x∈l,kZ F ks (ap F ks a cs) x.2=true)->nW (ap F ks a cs) ks2 e l κ=some r->∃v,κ v=some r/\JX F ks V a.keep (ce F ks a cs) l v e s
 | [],R,r,κ,hb,hs=>by simp [nW]at hs
 |x::l,R,r,κ,hb,hs=>by
  unfold nW at hs
  cases hx:nV e x.1 with
  |false=>
   rw [hx]at hs;obtain⟨v,h1,h2⟩:=sN hr hok hcs hrd ha1 hl1 hst hr2 hok2 hext (λz hz=>hb z (by simp [hz])) hs;exact⟨.inr v,h1,h2⟩
  |true=>
   rw [hx]at hs;obtain⟨cs2,v,g1,g2,g3,g4⟩:=ji hr2 hs;have hbs:=hb x (by simp)
   have hkb:∀p,aI (sj F ks a.keep (ce F ks a cs) x.2 v).bl F.bl p=ai ((aX F ks x.2 v).bl++((ce F ks a cs).map (λp=>(p,KB.dead))++(ks.bl++F.bl))) p:=λp=>by
    rw [<-aM];show ai ((aX F ks x.2 v).bl++((ce F ks a cs).map (λp=>(p,KB.dead))++ks.bl)++F.bl) p=_;rw [List.append_assoc,List.append_assoc]
   obtain⟨V3,hr3,ha3,hl3⟩:=AX (Fb:=F) (kb:=sj F ks a.keep (ce F ks a cs) x.2 v) hr hok hcs hr2 hok2 hext hbs g1 g2 g3 rfl rfl (λi d hd=>by
    have hd':aI (fC x.2.vs ((aA x.2.sh v ks.nx).map (·.1))++lz F ks a.keep) F.sl i=some d:=hd;rw [<-aM,List.append_assoc,aM]at hd';unfold aI at hd'
    cases hl:ai (fC x.2.vs ((aA x.2.sh v ks.nx).map (·.1))) i with
    |some d'=>rw [hl]at hd';cases hd';exact .inl rfl
    |none=>rw [hl]at hd';exact .inr hd') hkb
   have hnx1:ks.nx<=(aX F ks a.head x1).nx:=by show ks.nx<=ks.nx+_;omega
   refine⟨.inl v,g4,AW hx,V3,f2,hst,hr3,⟨by show ks.nx<=ks.nx+_;omega,?_,?_,?_⟩⟩
   .exact(ha1.trans hext.agree hnx1).trans ha3 (Nat.le_refl _)
   .exact(hl1.trans hext.le hnx1).trans hl3 (Nat.le_refl _)
   .intro p hp hl;have h2:=Jg hcs hrd hext hp hl;show ai ((aX F ks x.2 v).bl++((ce F ks a cs).map (λp=>(p,KB.dead))++ks.bl)) p=none;obtain⟨ca,cb,cw,_,hcb2,_,_⟩:=dG g1
    have e1:ai (aX F ks x.2 v).bl p=none:=by
     refine kf (λw hw he=> ?_) (λw hw he=> ?_) hp
     .obtain⟨q,c,j1,j2⟩:=gL hcb2 w hw;rw [ve hok hok2 hbs w hw,he]at j1;cases j1;rw [h2]at j2;simp at j2
     .obtain⟨q,j1,j2⟩:=vi hr hok2 hcs hext hbs w hw;rw [he]at j2;cases j2;obtain⟨q,k1,k2⟩:=mF g1 hw;rw [j1]at k1;cases k1;obtain⟨b,k3,_⟩:=oh g3 k2;rw [h2]at k3;simp at k3
    rw [aM];unfold aI;rw [e1];simp only [aM];unfold aI;rcases oZ (l:=ce F ks a cs) (p:=p)with⟨h1,h2⟩|⟨h1,h2⟩
    .rw [h1];exact hl
    .exfalso;rcases List.mem_append.1 h2 with h2|h2
     .obtain⟨b',k1,_⟩:=oh hrd h2;rw [hl]at k1;simp at k1
     .obtain⟨w,hw,hpw⟩:=mI h2;obtain⟨ca,cb,cw,_,hcb,_,_⟩:=dG hcs;obtain⟨p'',c'',j1,j2⟩:=gL hcb w hw;rw [hpw]at j1;cases j1;rw [hl]at j2;simp at j2
end loop
theorem yI(hG:GOk G E D0)(hD:D0<=n){A:GF}{call:uK}(hcall:zT E n call):∀(c:Code) (R:Type) (F:KF) (ks:KS) (κ:Ex->KS->Option R) (r:R) (V:Vl) (f:Nat->D) (h:ak),dS G A call c R F ks κ=some r->Rel F ks V f h->WpC E y n c (PostC F ks V κ r) {t:=tab F.nt f,h:=h}:=by
 intro c
 induction c with
 |skip=>intro R F ks κ r V f h hs hr;exact DM ⟨ks,V,f,rfl,hr,hs,Ext.refl _ _ _⟩
 |region id ops draw=>
  intro R F ks κ r V f h hs hr;obtain⟨l⟩:=ops
  cases draw with
  |false=>
   have hs':tR G call F (Array.toList ⟨l⟩) (κ .normal) l ks=some r:=hs;exact Ef (og (ops:=⟨l⟩) hG hD hcall l hs' hr)
  |true=>
   have hs':cond (dq ⟨l⟩) (match ai A.tn id with
    |none=>jX G F l (κ .normal) l ks
    |some T=>sm F (λks=>match zJ F ks T.old with
     |some O=>cond (js ⟨l⟩ T.new && djB O (dU ⟨l⟩) O && wH ks O) (pI G F l (dU ⟨l⟩) O T.new ks (κ .normal) 0 [] l ks) none
     |none=>none) T.old.flatten ks) (match jy ⟨l⟩with
    |some m=>cond (ja ⟨l⟩) (jX G F l (tR G call F l (κ .normal) (l.drop m)) (l.take m) ks) none
    |none=>none)=some r:=hs
   cases hq:dq ⟨l⟩with
   |true=>
    rw [hq]at hs';simp only [cond_true]at hs';split at hs'
    .exact zx l.length rfl hq λh' h1 h2=>kH (ops:=⟨l⟩) (κ:=κ .normal) hG hD l 0 hs' (hr.heap h2)
    .rename_i T hT;obtain⟨ks1,V1,hs1,hr1,hx1⟩:=vk _ hr hs';clear hs';rename_i hs0;split at hs1
     .rename_i O hO
      cases hc:(js ⟨l⟩ T.new && djB O (dU ⟨l⟩) O && wH ks1 O)with
      |false=>rw [hc]at hs1;simp at hs1
      |true=>
       rw [hc]at hs1;simp only [Bool.and_eq_true]at hc;exact(CH hG hD hq hc.1.1 hc.1.2 hc.2 hs1 hr1).mono λe s ⟨ks',V',f',a1,a2,a3,a4⟩=>⟨ks',V',f',a1,a2,a3,hx1.trans a4⟩
     .simp at hs1
   |false=>
    rw [hq]at hs';simp only [cond_false]at hs';split at hs'
    .rename_i m hc
     cases hp:ja ⟨l⟩with
     |false=>rw [hp]at hs';simp at hs'
     |true=>
      rw [hp]at hs';have hr':Rel F ks V f (h++List.replicate (Array.mk l).size .no):=hr.heap λk=>mn _ _ _;refine Fi m hc hp (yE (kH (ops:=⟨l⟩) (b:=h.length) (κ:=tR G call F l (κ .normal) (l.drop m)) hG hD (l.take m) 0 hs' hr') λt ht=> ?_);obtain⟨ks',V',f',h1,h2,h3,h4⟩:=ht;simp only at h1 h2;subst h1;exact kG (og (ops:=⟨l⟩) hG hD hcall (l.drop m) h3 h2) λs hs=>Post.ext h4 hs
    .simp at hs'
 |seq a b iha ihb=>
  intro R F ks κ r V f h hs hr
  have hs':(match A.lp.find? λz=>z.join &&(some z.key==dE a && Nat.beq z.sz (nX a))with
   |none=>dS G A call a R F ks λe ks=>match e with
    | .normal=>dS G A call b R F ks κ
    |e=>κ e ks
   |some z=>match dh F ks z.head,eD F ks with
    |some cs,true=>cond (kZ F ks (ap F ks z cs) z.head && z.exs.all λx=>kZ F ks (ap F ks z cs) x.2) (nU F ks z.head λx0=>
     (dS G A call a (XT z.exs) (ap F ks z cs) (aX F ks z.head x0) λe ks2=>cond (eD (ap F ks z cs) ks2) (nW (ap F ks z cs) ks2 e z.exs some) none).bind λy=>afterX F ks z.keep (ce F ks z cs) z.exs y λe ks=>match e with
      | .normal=>dS G A call b R F ks κ
      |e=>κ e ks) none
    |_,_=>none)=some r:=hs
  have key:∀e s,PostC F ks V (λe ks=>match e with
    | .normal=>dS G A call b R F ks κ
    |e=>κ e ks) r e s->Hc (WpC E y n b (PostC F ks V κ r)) (PostC F ks V κ r) e s:=by
   intro e s hp;obtain⟨ks',V',f',h1,h2,h3,h4⟩:=hp;obtain⟨t,hh⟩:=s;simp only at h1 h2;subst h1
   cases e with
   |normal=>exact(ihb R F ks' κ r V' f' hh h3 h2).mono λe s hp=>hp.ext h4
   |ret=>exact⟨ks',V',f',rfl,h2,h3,h4⟩
   |exit id=>exact⟨ks',V',f',rfl,h2,h3,h4⟩
  split at hs'
  .exact Az ((iha R F ks _ r V f h hs' hr).mono key)
  .rename_i z hz;split at hs'
   .rename_i cs hcs hok
    cases hbs:(kZ F ks (ap F ks z cs) z.head && z.exs.all λx=>kZ F ks (ap F ks z cs) x.2)with
    |false=>rw [hbs]at hs';simp at hs'
    |true=>
     rw [hbs]at hs';rw [Bool.and_eq_true]at hbs;obtain⟨hbs0,hbsx⟩:=hbs;obtain⟨cs',x0,g1,g2,g3,g4⟩:=ji hr hs';rw [hcs]at g1;cases g1;rw [zbE]at g4;obtain⟨out,g4,g5⟩:=g4;obtain⟨V1,hr1,ha1,hl1⟩:=qx hr hok hcs g2 g3;refine Az ((iha _ (ap F ks z cs) (aX F ks z.head x0) _ out V1 f h g4 hr1).mono λe s hp=>key e s ?_);obtain⟨ks2,V2,f2,t1,r2,k1,ext⟩:=hp;dsimp only at k1
     cases hok2:eD (ap F ks z cs) ks2 with
     |false=>rw [hok2]at k1;simp at k1
     |true=>
      rw [hok2]at k1;obtain⟨v,j1,j2⟩:=sN hr hok hcs g3 ha1 hl1 t1 r2 hok2 ext (λw hw=>List.all_eq_true.1 hbsx w hw) k1;cases j1;exact pd g5 j2
   .simp at hs'
 |cond c a b iha ihb=>
  intro R F ks κ r V f h hs hr
  have hs':(match kO F ks c with
   |some (.one c)=>kIf c ks λt ks=>cond t (dS G A call a R F ks κ) (dS G A call b R F ks κ)
   |_=>none)=some r:=hs
  split at hs'
  .rename_i c0 hc;obtain⟨d,d1,d2,c',rfl,d3⟩:=aR hr hc;obtain⟨t,ks',g1,rfl,g3,g4⟩:=Je hr d3 hs';have e1:opnd (tab F.nt f) c=some (.one (bC t)):=(bq F.nt f c).trans d1;refine DO e1 rfl ?_
   cases t with
   |true=>exact(iha R F ks' κ r V f h g1 g3).mono λe s hp=>hp.ext g4
   |false=>exact(ihb R F ks' κ r V f h g1 g3).mono λe s hp=>hp.ext g4
  .simp at hs'
 |block id b ih=>
  intro R F ks κ r V f h hs hr;have hs':dS G A call b R F ks (λe ks=>κ (cond (nV e (.exit id)) .normal e) ks)=some r:=hs;refine Cn ((ih R F ks _ r V f h hs' hr).mono λe s hp=> ?_);obtain⟨ks',V',f',h1,h2,h3,h4⟩:=hp;refine⟨ks',V',f',h1,h2,?_,h4⟩;rw [<-h3]
  have:(if e= .exit id then Ex.normal else e)=cond (nV e (.exit id)) .normal e:=by
   cases hx:nV e (.exit id)with
   |true=>rw [if_pos (AW hx)];rfl
   |false=>rw [if_neg (λhe=>by subst he;simp [nV]at hx)];rfl
  rw [this]
 |loop b ih=>
  intro R F ks κ r V f h hs hr
  have hs':(match A.lp.find? λa=> !a.join && some a.key==dE b with
   |none=>none
   |some a=>match dh F ks a.head,eD F ks with
    |some cs,true=>cond (kZ F ks (ap F ks a cs) a.head && a.exs.all λx=>kZ F ks (ap F ks a cs) x.2 && !nV x.1 .normal) (nU F ks a.head λx0=>
     (aU (λx=>dS G A call b (cd a.head.sh ⊕ XT a.exs) (ap F ks a cs) (aX F ks a.head x) λe ks2=>cond (eD (ap F ks a cs) ks2) (match e with
      | .normal=>nU (ap F ks a cs) ks2 a.head λy=>some (.inl y)
      |e=>nW (ap F ks a cs) ks2 e a.exs λy=>some (.inr y)) none) x0).bind λy=>afterX F ks a.keep (ce F ks a cs) a.exs y κ) none
    |_,_=>none)=some r:=hs
  split at hs'
  .simp at hs'
  .rename_i a ha;split at hs'
   .rename_i cs hcs hok
    cases hbs:(kZ F ks (ap F ks a cs) a.head && a.exs.all λx=>kZ F ks (ap F ks a cs) x.2 && !nV x.1 .normal)with
    |false=>rw [hbs]at hs';simp at hs'
    |true=>
     rw [hbs]at hs';rw [Bool.and_eq_true]at hbs;obtain⟨hbs0,hbsx⟩:=hbs;obtain⟨cs',x0,g1,g2,g3,g4⟩:=ji hr hs';rw [hcs]at g1;cases g1;rw [zbE]at g4;obtain⟨out,g4,g5⟩:=g4;obtain⟨V1,hr1,ha1,hl1⟩:=qx hr hok hcs g2 g3;refine WpC.mono (Cu _ (λx s=>∃V1 f1,s.t=tab F.nt f1/\Rel (ap F ks a cs) (aX F ks a.head x) V1 f1 s.h/\Agree ks.nx V V1/\LeB ks.nx (am F ks) (am (ap F ks a cs) (aX F ks a.head x))) (λo e s=>JX F ks V a.keep (ce F ks a cs) a.exs o e s) (λr s=>IF (λz hz=>by have:=List.all_eq_true.1 hbsx z hz;rw [Bool.and_eq_true]at this;simpa using this.2) r s) ?_ x0 out _ g4 ⟨V1,f,rfl,hr1,ha1,hl1⟩) λe s hj=>pd g5 hj;intro x o s hb hI;obtain⟨W1,f1,e1,r1,a1,l1⟩:=hI;obtain⟨t,hh⟩:=s;simp only at e1 r1;subst e1;refine(ih _ (ap F ks a cs) (aX F ks a.head x) _ o W1 f1 hh hb r1).mono λe s hp=> ?_;obtain⟨ks2,V2,f2,t1,r2,k1,ext⟩:=hp;dsimp only at k1
     cases hok2:eD (ap F ks a cs) ks2 with
     |false=>rw [hok2]at k1;simp at k1
     |true=>
      rw [hok2]at k1;simp only [cond_true]at k1
      have hx:e≠ .normal->nW (ap F ks a cs) ks2 e a.exs (λy=>some (.inr y))=some o->∃v,o= .inr v/\JX F ks V a.keep (ce F ks a cs) a.exs v e s:=by
       intro hne hk;obtain⟨v,j1,j2⟩:=sN hr hok hcs g3 a1 l1 t1 r2 hok2 ext (λz hz=>by have:=List.all_eq_true.1 hbsx z hz;rw [Bool.and_eq_true]at this;exact this.1) hk;exact⟨v,(Option.some.inj j1).symm,j2⟩
      cases e with
      |normal=>
       obtain⟨cs2,v,w1,w2,w3,w4⟩:=ji r2 k1;cases w4
       obtain⟨V3,hr3,ha3,hl3⟩:=AX (Fb:=ap F ks a cs) (kb:=aX F ks a.head v) hr hok hcs r2 hok2 ext hbs0 w1 w2 w3 rfl rfl (λi d hd=>by
        have hd':aI (fC a.head.vs ((aA a.head.sh v ks.nx).map (·.1))) (ap F ks a cs).sl i=some d:=hd;unfold aI at hd'
        cases hl:ai (fC a.head.vs ((aA a.head.sh v ks.nx).map (·.1))) i with
        |some d'=>rw [hl]at hd';cases hd';exact .inl rfl
        |none=>rw [hl]at hd';exact .inr hd') (λp=>(aM _ _ p).symm)
       exact⟨rfl,V3,f2,t1,hr3,(a1.trans ext.agree (by show ks.nx<=ks.nx+_;omega)).trans ha3 (Nat.le_refl _),(l1.trans ext.le (by show ks.nx<=ks.nx+_;omega)).trans hl3 (Nat.le_refl _)⟩
      |ret=>obtain⟨v,rfl,j⟩:=hx (by simp) k1;exact j
      |exit id=>obtain⟨v,rfl,j⟩:=hx (by simp) k1;exact j
   .simp at hs'
 |exit id=>intro R F ks κ r V f h hs hr;exact DN ⟨ks,V,f,rfl,hr,hs,Ext.refl _ _ _⟩
 |ret=>intro R F ks κ r V f h hs hr;exact Gk ⟨ks,V,f,rfl,hr,hs,Ext.refl _ _ _⟩
 |label l=>intro R F ks κ r V f h hs hr;exact Cl ⟨ks,V,f,rfl,hr,hs,Ext.refl _ _ _⟩
 |scope b ih=>
  intro R F ks κ r V f h hs hr;exact Cm (ih R F ks κ r V f h hs hr)
 |_=>intro R F ks κ r V f h hs hr;simp [dS]at hs
end
end K
end Ev
end
end Go.Proofs.Ytkmbihigeeclbaa
