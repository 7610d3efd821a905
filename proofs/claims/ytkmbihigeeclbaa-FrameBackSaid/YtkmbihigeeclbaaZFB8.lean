/- Texts of a claim, joined. -/
import Derived.Test.YtkmbihigeeclbaaZFB7
set_option linter.unusedVariables false
set_option linter.unusedSimpArgs false
namespace Go.Proofs.Ytkmbihigeeclbaa
noncomputable section
namespace Ev
namespace K
open Go Go.RowKit
theorem aN{α:Type}:∀(l m:List (Nat×α)) (i:Nat),ai (l++m) i=aI l m i
 | [],m,i=>rfl
 |x::l,m,i=>by
  have:=aN l m i
  unfold aI at this ⊢;rw [show x::l++m=(x.1,x.2)::(l++m)from rfl,show x::l=(x.1,x.2)::l from rfl,aj,aj];split
  .rfl
  .exact this
theorem oz{l:List Nat}{p:Nat}:ai (l.map λp=>(p,KB.dead)) p=none/\p ∉ l∨ai (l.map λp=>(p,KB.dead)) p=some .dead/\p∈l:=by
 induction l with
 |nil=>exact .inl ⟨rfl,by simp⟩
 |cons a l ih=>
  rw [List.map_cons,aj];by_cases h:p=a
  .subst h;exact .inr ⟨by rw [if_pos rfl],by simp⟩
  .rw [if_neg h];rcases ih with⟨h1,h2⟩|⟨h1,h2⟩
   .exact .inl ⟨h1,by simp [h,h2]⟩
   .exact .inr ⟨h1,by simp [h2]⟩
theorem lT{q0:Nat}:∀{hs:List Sh} {x:bX hs} {q p:Nat} {b:KB},(p,b)∈(aA hs x q).flatMap (·.2)->ai ((aA hs x q).flatMap (·.2)) p=some b/\q<=p/\b≠ .dead
 | [],x,q,p,b,h=>by simp [aA]at h
 | [s],x,q,p,b,h=>by
  have h1:(p,b)∈(be q s x).2:=by simpa [aA]using h
  obtain⟨rfl,h2⟩:=gr h1;have h3:(aA [s] x p).flatMap (·.2)= [(p,b)]:=by simpa [aA]using h2
  rw [h3,aj,if_pos rfl];refine⟨rfl,Nat.le_refl _,?_⟩
  cases s with
  |d fr t=>cases t<;>simp [be]at h2
  |o e=>simp only [be,List.cons.injEq,Prod.mk.injEq,true_and,and_true]at h2;subst h2;simp
  |m e=>simp only [be,List.cons.injEq,Prod.mk.injEq,true_and,and_true]at h2;subst h2;simp
  |w e=>simp [be]at h2
 |s::s'::r,x,q,p,b,h=>by
  have e1:(aA (s::s'::r) x q).flatMap (·.2)=(be q s x.1).2++(aA (s'::r) x.2 (q+1)).flatMap (·.2):=by simp [aA]
  rw [e1]at h ⊢;rw [aN];unfold aI;rcases List.mem_append.1 h with h|h
  .obtain⟨rfl,h2⟩:=gr h;rw [h2,aj,if_pos rfl];refine⟨rfl,Nat.le_refl _,?_⟩
   cases s with
   |d fr t=>cases t<;>simp [be]at h2
   |o e=>simp only [be,List.cons.injEq,Prod.mk.injEq,true_and,and_true]at h2;subst h2;simp
   |m e=>simp only [be,List.cons.injEq,Prod.mk.injEq,true_and,and_true]at h2;subst h2;simp
   |w e=>simp [be]at h2
  .obtain⟨g1,g2,g3⟩:=lT (q0:=q0) h
   have:ai (be q s x.1).2 p=none:=by
    cases hl:ai (be q s x.1).2 p with
    |none=>rfl
    |some b'=>obtain⟨h3,_⟩:=gr (fB hl);omega
   rw [this];exact⟨g1,by omega,g3⟩
theorem zf{hs:List Sh}{x:bX hs}{q p:Nat}(hp:p<q):ai ((aA hs x q).flatMap (·.2)) p=none:=by
 cases hl:ai ((aA hs x q).flatMap (·.2)) p with
 |none=>rfl
 |some b=>have:=(lT (q0:=0) (fB hl)).2.1;omega
theorem GE{ks:KS}{h:Sh}{c:KC}{x:h.T}{p:Nat}(hrd:RdC ks h c x)(ho:ea c=some p):∃b,ai ks.bl p=some b/\b≠ .dead:=by
 cases h with
 |d fr t=>
  obtain⟨_,h2⟩:=hrd;cases c<;>simp [ea]at ho
  .subst ho;cases t<;>simp [iR,noB]at h2
  .subst ho;cases t<;>simp [iR,noB]at h2
 |o e=>obtain⟨e',q,ne,rfl,h2⟩:=hrd;simp [ea]at ho;subst ho;exact⟨_,h2,by simp⟩
 |w e=>obtain⟨e',q,ne,rfl,h2⟩:=hrd;simp [ea]at ho;subst ho;exact⟨_,h2,by simp⟩
 |m e=>
  rcases hrd with⟨rfl,h2⟩|⟨e',q,rfl,h2⟩|⟨e',q,ne,rfl,h2,h3⟩
  .simp [ea]at ho
  .simp [ea]at ho;subst ho;exact⟨_,h2,by simp⟩
  .simp [ea]at ho;subst ho;exact⟨_,h2,by simp⟩
theorem rT:∀{cs:List KC} {p:Nat},p∈bj cs->∃(j:Nat) (c:KC),cs[j]? =some c/\ea c=some p
 | [],p,h=>by simp [bj]at h
 |a::cs,p,h=>by
  by_cases ha:ea a=some p
  .exact⟨0,a,rfl,ha⟩
  .have:p∈bj cs:=by
    cases a<;>simp [bj]at h<;>first|exact h|(rcases h with h|h;exact absurd (by simp [ea,h]) ha;exact h)
   obtain⟨j,c,h1,h2⟩:=rT this;exact⟨j+1,c,by simpa using h1,h2⟩
theorem xI{ks:KS}:∀{hs:List Sh} {cs:List KC} {x:bX hs} {j:Nat} {c:KC},RdCs ks hs cs x->cs[j]? =some c->∃h y,RdC ks h c y
 | [],cs,x,j,c,hrd,hj=>by rw [show cs= []from hrd]at hj;simp at hj
 | [h],cs,x,j,c,⟨a,e,hrd⟩,hj=>by
  subst e
  cases j with
  |zero=>simp at hj;subst hj;exact⟨h,x,hrd⟩
  |succ j=>simp at hj
 |h::h'::r,cs,x,j,c,⟨a,s,e,hrd,hrd2⟩,hj=>by
  subst e
  cases j with
  |zero=>simp at hj;subst hj;exact⟨h,x.1,hrd⟩
  |succ j=>exact xI hrd2 (by simpa using hj)
theorem nB{ks:KS}{hs:List Sh}{cs:List KC}{x:bX hs}{p:Nat}(hrd:RdCs ks hs cs x)(hp:p∈bj cs):∃b,ai ks.bl p=some b/\b≠ .dead:=by
 obtain⟨j,c,h1,h2⟩:=rT hp;obtain⟨h,y,h3⟩:=xI hrd h1;exact GE h3 h2
theorem lU{F:KF}{ks:KS}:∀{l:List Nat} {i:Nat} {d:KD},ai (kH F ks l) i=some d->ai ks.sl i=some d
 | [],i,d,h=>by simp [kH,ai]at h
 |a::l,i,d,h=>by
  unfold kH at h;split at h
  .rename_i d0 h0;rw [aj]at h;split at h
   .rename_i hi;cases h;subst hi;exact h0
   .exact lU h
  .exact lU h
theorem iX{F:KF}{ks:KS}(h:ey F ks=true){i:Nat}{d:KD}(hd:ai F.sl i=some d):ai ks.sl i=none/\dX F ks i=some d:=by
 have h1:ai ks.sl i=none:=by
  have:=List.all_eq_true.1 h (i,d) (fB hd)
  simpa using this
 exact⟨h1,by unfold dX aI;rw [h1];exact hd⟩
theorem jF{F F':KF}{ks ks':KS}:∀{bs:List (Nat×List Sh)} {w:List KC},(∀v∈bs,cA F' ks' v.1=cA F ks v.1)->cY F' ks' bs w=cY F ks bs w
 | [],w,h=>rfl
 |v::r,w,h=>by
  unfold cY;rw [h v (by simp)]
  cases cA F ks v.1 with
  |none=>exact jF λv' hv=>h v' (by simp [hv])
  |some q=>simp only;rw [jF λv' hv=>h v' (by simp [hv])]
theorem gv{F:KF}{ks:KS}:∀{bs:List (Nat×List Sh)} {b:List KC},bi F ks bs=some b->∀v∈bs,∃p cs,cA F ks v.1=some p/\ai ks.bl p=some (.box cs)
 | [],b,hb,v,hv=>by simp at hv
 |v0::r,b,hb,v,hv=>by
  unfold bi at hb
  cases hp:cA F ks v0.1 with
  |none=>rw [hp]at hb;simp at hb
  |some q=>
   rw [hp]at hb;simp only [zbS]at hb;split at hb
   .rename_i cs hcs;split at hb
    .rw [Option.map_eq_some_iff]at hb;obtain⟨b',g1,rfl⟩:=hb;rcases List.mem_cons.1 hv with rfl|hv
     .exact⟨q,cs,hp,hcs⟩
     .exact gv g1 v hv
    .simp at hb
   .simp at hb
theorem iY{F:KF}{ks:KS}{V:Vl}{f:Nat->D}{h:ak}{pt:Pt}{R:Type}{r:R}{κ:bX pt.sh->Option R}(hr:Rel F ks V f h)(hs:nm F ks pt κ=some r):∃cs x,cW F ks pt=some cs/\fE (bj cs)=true/\RdCs ks pt.sh cs x/\κ x=some r:=by
 unfold nm at hs;split at hs
 .rename_i cs hcs
  cases hn:fE (bj cs)with
  |false=>rw [hn]at hs;simp at hs
  |true=>
   rw [hn]at hs;obtain⟨x,h1,h2⟩:=uh (λp e ne l hl hne=>(hr.bl p _ (ah hl (by simp))).2.2.2 hne) (show iS ks pt.sh cs κ=some r from hs);exact⟨cs,x,hcs,hn,h2,h1⟩
 .simp at hs
theorem zg{F:KF}{ks:KS}{V:Vl}{f:Nat->D}{h:ak}(hr:Rel F ks V f h){i p:Nat}(hp:cA F ks i=some p):p<ks.nx:=by
 unfold cA at hp;split at hp
 .rename_i q j hd;split at hp
  .cases hp;exact(hr.sl _ _ hd).2.1
  .simp at hp
 .simp at hp
theorem rU{F:KF}{ks:KS}{ws:List (BR×Ty)}{bs:List KB}{p:Nat}(h:∀v∈ws,dY F ks v.1≠some p):ai (dz F ks ws bs) p=none:=by
 cases hl:ai (dz F ks ws bs) p with
 |none=>rfl
 |some x=>
  obtain⟨j,v,h1,h2,h3⟩:=oy hl;exact absurd h3 (h v (List.mem_of_getElem? h1))
theorem lW{F F':KF}{ks ks':KS}:∀{ws:List (BR×Ty)} {bs:List KB},(∀v∈ws,dY F' ks' v.1=dY F ks v.1)->dz F' ks' ws bs=dz F ks ws bs
 | [],bs,h=>by simp [dz]
 |v::r,[],h=>by simp [dz]
 |v::r,b::bs,h=>by
  unfold dz;rw [h v (by simp)]
  cases dY F ks v.1 with
  |none=>exact lW λv' hv=>h v' (by simp [hv])
  |some q=>simp only;rw [lW λv' hv=>h v' (by simp [hv])]
theorem gU:∀(a b:List KC),bj (a++b)=bj a++bj b
 | [],b=>rfl
 |c::a,b=>by
  have:=gU a b
  cases c<;>simp [bj,this]
theorem lY{F:KF}{ks:KS}{pt:Pt}{cs:List KC}(hcs:cW F ks pt=some cs){v:BR×Ty}(hv:v∈pt.ws):∃p,dY F ks v.1=some p/\p∈bj cs:=by
 obtain⟨a,b,c,ha,hb,hc,rfl⟩:=dB hcs;obtain⟨j,hj⟩:=List.getElem?_of_mem hv;obtain⟨p,h1,h2⟩:=lS hc hj;refine⟨p,h1,?_⟩;rw [gU,gU];exact List.mem_append.2 (.inr (List.mem_append.2 (.inr (gq h2 rfl))))
theorem zh{F:KF}{ks:KS}{V:Vl}{f:Nat->D}{h:ak}(hr:Rel F ks V f h){w:BR}{p:Nat}(hp:dY F ks w=some p):p<ks.nx:=by
 unfold dY at hp;split at hp
 .rename_i e q hc;cases hp
  cases w with
  |sl i j=>
   simp only [brC]at hc;split at hc
   .rename_i c hd;cases hc;exact(hr.sl _ _ hd).2.1
   .rename_i cs hd;exact(hr.sl _ _ hd).2.1 _ (List.mem_of_getElem? hc)
   .simp at hc
  |bx i j=>
   simp only [brC]at hc;split at hc
   .rename_i q hq;split at hc
    .rename_i cs hb
     have:am F ks q=some (.box cs):=by unfold am;rw [hb]
     exact(hr.bl _ _ this).2.1 _ (List.mem_of_getElem? hc)
    .simp at hc
   .simp at hc
 .simp at hp
theorem Ak{a b:Ex}(h:np a b=true):a=b:=by
 cases a<;>cases b<;>simp [np]at h<;>first|rfl|(subst h;rfl)
theorem lZ{F:KF}{ks:KS}:∀{bs:List (Nat×List Sh)} {v:Nat×List Sh} {p:Nat},v∈bs->cA F ks v.1=some p->p∈jD F ks bs
 | [],v,p,hv,_=>by simp at hv
 |w::r,v,p,hv,hp=>by
  unfold jD;rcases List.mem_cons.1 hv with rfl|hv
  .rw [hp];exact List.mem_cons_self
  .have:=lZ hv hp
   split
   .exact List.mem_cons_of_mem _ this
   .exact this
theorem xJ{F:KF}{ks:KS}{ds:List Nat}{p:Nat}{b:KB}(hl:ai (ds.map (λp=>(p,KB.dead))++(ks.bl++F.bl)) p=some b)(hb:b≠ .dead):p ∉ ds/\am F ks p=some b:=by
 rw [aN]at hl;unfold aI at hl;rcases oz (l:=ds) (p:=p)with⟨h1,h2⟩|⟨h1,h2⟩
 .rw [h1]at hl;simp only [aN]at hl;refine⟨h2,?_⟩;unfold am;rw [hl];cases b<;>first|rfl|exact absurd rfl hb
 .rw [h1]at hl;simp only [zsI]at hl;exact absurd hl.symm hb
def PostC(F:KF)(ks:KS)(V:Vl){R:Type}(κ:Ex->KS->Option R)(r:R)(e:Ex)(s:St):Prop:=∃ks' V' f',s.t=tab F.nt f'/\Rel F ks' V' f' s.h/\κ e ks'=some r/\Ext F ks V ks' V'
theorem PostC.ext{F:KF}{ks ks1:KS}{V V1:Vl}{R:Type}{κ:Ex->KS->Option R}{r:R}{e:Ex}{s:St}(he:Ext F ks V ks1 V1)(h:PostC F ks1 V1 κ r e s):PostC F ks V κ r e s:=let⟨ks',V',f',h1,h2,h3,h4⟩:=h;⟨ks',V',f',h1,h2,h3,he.trans h4⟩
def JX(F:KF)(ks:KS)(V:Vl)(keep dead:List Nat):(l:List (Ex×Pt))->XT l->Ex->St->Prop
 | [],x,_,_=>nomatch x
 |x::r,.inl v,e,s=>e=x.1/\∃V' f',s.t=tab F.nt f'/\Rel F (rx F ks keep dead x.2 v) V' f' s.h/\Ext F ks V (rx F ks keep dead x.2 v) V'
 |x::r,.inr v,e,s=>JX F ks V keep dead r v e s
theorem Iz{F:KF}{ks:KS}{V:Vl}{keep dead:List Nat}:∀{l:List (Ex×Pt)},(∀x∈l,np x.1 .normal=false)->∀(x:XT l) (s:St),¬JX F ks V keep dead l x .normal s
 | [],hl,x,s=>nomatch x
 |x::r,hl,.inl v,s=>λh=>by have:=hl x (by simp);rw [<-h.1]at this;simp [np]at this
 |x::r,hl,.inr v,s=>Iz (λz hz=>hl z (by simp [hz])) v s
theorem oA{F:KF}{ks:KS}{V:Vl}{keep dead:List Nat}{R:Type}{r:R}{κ:Ex->KS->Option R}:∀{l:List (Ex×Pt)} {x:XT l} {e:Ex} {s:St},afterX F ks keep dead l x κ=some r->JX F ks V keep dead l x e s->PostC F ks V κ r e s
 | [],x,e,s,h,hj=>nomatch x
 |x::l,.inl v,e,s,h,⟨he,V',f',h1,h2,h3⟩=>⟨_,V',f',h1,h2,by rw [he];exact h,h3⟩
 |x::l,.inr v,e,s,h,hj=>oA (l:=l) (x:=v) h hj
end K
end Ev
end
noncomputable section
namespace Ev
namespace K
open Go Go.RowKit
section
variable {E : Env} {y : Nat → dC} {n : Nat} {G : KG} {D0 : Nat}
theorem EL{id:Nat}{l:List Oper}{Q:Ex->St->Prop}{t:List D}{H:ak}(m:Nat)(hc:jm l.toArray=some m)(hq:iQ l.toArray=true)(h1:bP (λt=>gT E y n l.toArray (l.drop m) (Q .normal) {t,h:=H++List.replicate l.toArray.size .no}) (evR E (cpR E n) l.toArray (H++List.replicate l.toArray.size .no) H.length 0 (l.take m) t)):WpC E y n (.region id l.toArray true) Q {t,h:=H}:=by
 rw [yE]at h1
 cases hs:evQ E (cpR E n) l.toArray (H++List.replicate l.toArray.size .no) H.length 0 (l.take m) t with
 |none=>rw [hs]at h1;exact h1.elim
 |some t'=>
  rw [hs]at h1;obtain⟨s',⟨M1,h2⟩,h3⟩:=h1;obtain⟨M2,h4⟩:=oV _ _ _ _ _ _ _ (oh _ _ _ _ hs);have hq':fW l.toArray H.length (bef l.toArray) (λ_=> [])=true:=hq;refine⟨.normal,s',⟨max M1 M2,λq hm=> ?_⟩,h3⟩;simp only [evC,if_true,hc];unfold zn;simp only [zbB];rw [if_pos hq'];rw [fN,h4 q (by omega)];simp only [zbS]
  have:=h2 q (by omega)
  rw [fN]at this;rw [this];rfl
theorem xK{α:Type}{Q Q':α->Prop}{o:Option α}(h:bP Q o)(hq:∀a,Q a->Q' a):bP Q' o:=by
 cases o with
 |none=>exact h
 |some a=>exact hq a h
section loop
variable {F : KF} {ks : KS} {V : Vl} {f : Nat → D} {h : ak} {a : xv} {cs : List KC} {x0 : bX a.head.sh}
theorem rW(hok:ey F ks=true){i:Nat}{d:KD}(hd:ai (aq F ks a cs).sl i=some d):dX F ks i=some d:=by
 have hd':ai (kH F ks a.keep++F.sl) i=some d:=hd;rw [aN]at hd';unfold aI at hd'
 cases hk:ai (kH F ks a.keep) i with
 |none=>rw [hk]at hd';exact(iX hok hd').2
 |some d'=>rw [hk]at hd';cases hd';unfold dX aI;rw [lU hk]
theorem uj(hok:ey F ks=true){ks2:KS}(hok2:ey (aq F ks a cs) ks2=true){pt:Pt}(hbs:kt F ks (aq F ks a cs) pt=true):∀v∈pt.bs,cA (aq F ks a cs) ks2 v.1=cA F ks v.1:=by
 intro v hv;have h1:=List.all_eq_true.1 ((Bool.and_eq_true _ _).mp hbs).1 v hv
 cases hl:ai (aq F ks a cs).sl v.1 with
 |none=>rw [hl]at h1;simp at h1
 |some d=>
  unfold cA;rw [(iX hok2 hl).2,rW hok hl]
theorem pj{pt:Pt}{v:bX pt.sh}{p:Nat}{b:KB}(hl:ai (aX F ks pt v).bl p=some b):ai (cY F ks pt.bs (((aA pt.sh v ks.nx).map (·.1)).drop (fO pt.vs))) p=some b∨ai (dz F ks pt.ws ((wCs pt.sh v).drop (fO pt.vs+kr pt.bs))) p=some b∨ai ((aA pt.sh v ks.nx).flatMap (·.2)) p=some b:=by
 have h1:ai (cY F ks pt.bs (((aA pt.sh v ks.nx).map (·.1)).drop (fO pt.vs))++(dz F ks pt.ws ((wCs pt.sh v).drop (fO pt.vs+kr pt.bs))++(aA pt.sh v ks.nx).flatMap (·.2))) p=some b:=hl;rw [aN]at h1;unfold aI at h1
 cases hb:ai (cY F ks pt.bs (((aA pt.sh v ks.nx).map (·.1)).drop (fO pt.vs))) p with
 |some b'=>rw [hb]at h1;exact .inl h1
 |none=>
  rw [hb]at h1;change ai (_++_) p=some b at h1;rw [aN]at h1;unfold aI at h1
  cases hc:ai (dz F ks pt.ws ((wCs pt.sh v).drop (fO pt.vs+kr pt.bs))) p with
  |some b'=>rw [hc]at h1;exact .inr (.inl h1)
  |none=>rw [hc]at h1;exact .inr (.inr h1)
theorem jG{pt:Pt}{v:bX pt.sh}{p:Nat}(h1:∀w∈pt.bs,cA F ks w.1≠some p)(h2:∀w∈pt.ws,dY F ks w.1≠some p)(hp:p<ks.nx):ai (aX F ks pt v).bl p=none:=by
 cases hl:ai (aX F ks pt v).bl p with
 |none=>rfl
 |some b=>
  rcases pj hl with h|h|h
  .rw [fC h1]at h;simp at h
  .rw [rU h2]at h;simp at h
  .rw [zf hp]at h;simp at h
theorem pk{pt:Pt}{v:bX pt.sh}{rest:List (Nat×KB)}{G:KF}{kb:KS}{p:Nat}{b:KB}(hkb:∀p,aI kb.bl G.bl p=ai ((aX F ks pt v).bl++rest) p)(hb:am G kb p=some b):ai (cY F ks pt.bs (((aA pt.sh v ks.nx).map (·.1)).drop (fO pt.vs))) p=some b∨ai (dz F ks pt.ws ((wCs pt.sh v).drop (fO pt.vs+kr pt.bs))) p=some b∨ai ((aA pt.sh v ks.nx).flatMap (·.2)) p=some b∨(ai (aX F ks pt v).bl p=none/\ai rest p=some b/\b≠ .dead):=by
 unfold am at hb;rw [hkb,aN]at hb;unfold aI at hb
 cases hl:ai (aX F ks pt v).bl p with
 |some b'=>
  rw [hl]at hb;have hbb:b'=b:=by cases b'<;>simp at hb<;>exact hb
  subst hbb;rcases pj hl with h1|h1|h1
  .exact .inl h1
  .exact .inr (.inl h1)
  .exact .inr (.inr (.inl h1))
 |none=>
  rw [hl]at hb
  cases hr:ai rest p with
  |none=>rw [hr]at hb;simp at hb
  |some b'=>
   rw [hr]at hb
   cases b' with
   |dead=>simp at hb
   |_=>simp at hb;subst hb;exact .inr (.inr (.inr ⟨rfl,rfl,by simp⟩))
theorem pm{pt:Pt}{v:bX pt.sh}{rest:List (Nat×KB)}{G:KF}{kb:KS}(hr:Rel F ks V f h)(hkb:∀p,aI kb.bl G.bl p=ai ((aX F ks pt v).bl++rest) p){p:Nat}{b:KB}(hb:(p,b)∈(aA pt.sh v ks.nx).flatMap (·.2)):am G kb p=some b:=by
 obtain⟨g1,g2,g3⟩:=lT (q0:=0) hb;unfold am;rw [hkb,aN];unfold aI
 have h1:ai (aX F ks pt v).bl p=some b:=by
  show ai (cY F ks pt.bs (((aA pt.sh v ks.nx).map (·.1)).drop (fO pt.vs))++(dz F ks pt.ws ((wCs pt.sh v).drop (fO pt.vs+kr pt.bs))++(aA pt.sh v ks.nx).flatMap (·.2))) p=some b;rw [aN];unfold aI;rw [fC λw hw he=>by have:=zg hr he;omega];show ai (_++_) p=some b;rw [aN];unfold aI;rw [rU λw hw he=>by have:=zh hr he;omega];exact g1
 rw [h1];cases b<;>first|rfl|exact absurd rfl g3
theorem Cc(hcs:cW F ks a.head=some cs){x:bX a.head.sh}{p:Nat}(hp:p<ks.nx)(hd:p ∉ bY F ks a cs):ai (aX F ks a.head x).bl p=none:=
 jG (λw hw he=>hd (List.mem_append.2 (.inr (lZ hw he)))) (λw hw he=>hd (List.mem_append.2 (.inl (by
  obtain⟨q,h1,h2⟩:=lY hcs hw;rw [he]at h1;cases h1
  exact h2)))) hp
theorem pS(hr:Rel F ks V f h)(hok:ey F ks=true)(hcs:cW F ks a.head=some cs)(hnd:fE (bj cs)=true)(hrd:RdCs ks a.head.sh cs x0):∃V1,Rel (aq F ks a cs) (aX F ks a.head x0) V1 f h/\Agree ks.nx V V1/\LeB ks.nx (am F ks) (am (aq F ks a cs) (aX F ks a.head x0)):=by
 have hkb:∀p,aI (aX F ks a.head x0).bl (aq F ks a cs).bl p=ai ((aX F ks a.head x0).bl++((bY F ks a cs).map (λp=>(p,KB.dead))++(ks.bl++F.bl))) p:=λp=>(aN _ _ p).symm;refine trans hr hcs hrd hnd (Nat.le_refl _) rfl rfl (λi d hd=> ?_) (λp b hb=> ?_) (λp b hb=>pm hr hkb hb) (λv hv p hp=>zg hr hp) (λv hv p hp=>zh hr hp)
 .have hd':aI (fg a.head.vs ((aA a.head.sh x0 ks.nx).map (·.1))) (aq F ks a cs).sl i=some d:=hd;unfold aI at hd'
  cases hl:ai (fg a.head.vs ((aA a.head.sh x0 ks.nx).map (·.1))) i with
  |some d'=>rw [hl]at hd';cases hd';exact .inl rfl
  |none=>
   rw [hl]at hd';have h1:=rW hok hd';exact .inr ⟨h1,(hr.sl i d h1).2.1⟩
 .rcases pk hkb hb with h1|h1|h1|⟨h1,h2,h3⟩
  .exact .inl h1
  .exact .inr (.inl h1)
  .exact .inr (.inr (.inl h1))
  .obtain⟨g1,g2⟩:=xJ h2 h3;obtain⟨k1,k2,_⟩:=hr.bl p b g2;exact .inr (.inr (.inr ⟨g2,k1,k2,λhm=>g1 (List.mem_append.2 (.inl hm)),λv hv he=>g1 (List.mem_append.2 (.inr (lZ hv he)))⟩))
variable {ks2 : KS} {V1 V2 : Vl} {f2 : Nat → D} {h2 : ak} {x1 : bX a.head.sh} {pt : Pt} {cs2 : List KC} {v : bX pt.sh}
theorem uk(hr:Rel F ks V f h)(hcs:cW F ks a.head=some cs)(hext:Ext (aq F ks a cs) (aX F ks a.head x1) V1 ks2 V2){p:Nat}{b:KB}(hb:ai ((bY F ks a cs).map (λp=>(p,KB.dead))++(ks.bl++F.bl)) p=some b)(hd:b≠ .dead):am (aq F ks a cs) ks2 p=some b/\p<ks.nx/\ScB ks.nx b/\ai ks2.bl p=none:=by
 obtain⟨g1,g2⟩:=xJ hb hd;obtain⟨k1,k2,_⟩:=hr.bl p b g2;have h1:ai (aX F ks a.head x1).bl p=none:=Cc hcs k1 g1;have h2:=hext.dom p (by show p<ks.nx+_;omega) h1;refine⟨?_,k1,k2,h2⟩;unfold am aI;rw [h2]
 show(match ai ((bY F ks a cs).map (λp=>(p,KB.dead))++(ks.bl++F.bl)) p with
  |some .dead=>none
  |x=>x)=some b
 rw [hb];cases b<;>first|rfl|exact absurd rfl hd
theorem um(hr:Rel F ks V f h)(hok2:ey (aq F ks a cs) ks2=true)(hcs:cW F ks a.head=some cs)(hext:Ext (aq F ks a cs) (aX F ks a.head x1) V1 ks2 V2)(hbs:kt F ks (aq F ks a cs) pt=true):∀w∈pt.ws,∃p,dY (aq F ks a cs) ks2 w.1=some p/\dY F ks w.1=some p:=by
 intro w hw;have h1:=List.all_eq_true.1 ((Bool.and_eq_true _ _).mp hbs).2 w hw;split at h1
 .rename_i p q hp hq;have hpq:p=q:=Nat.eq_of_beq_eq_true h1;subst hpq;refine⟨p,?_,hp⟩;have hsl:∀i d,dX (aq F ks a cs) kNil i=some d->dX (aq F ks a cs) ks2 i=some d:=λi d hd=>(iX hok2 (show ai (aq F ks a cs).sl i=some d from hd)).2
  have hpt:∀i d,cA (aq F ks a cs) kNil i=some d->cA (aq F ks a cs) ks2 i=some d:=by
   intro i d hd;unfold cA at hd ⊢;split at hd
   .rename_i p j hg;rw [hsl _ _ hg];exact hd
   .simp at hd
  unfold dY at hq ⊢
  have key:brC (aq F ks a cs) kNil w.1=brC (aq F ks a cs) ks2 w.1∨brC (aq F ks a cs) kNil w.1=none:=by
   cases w.1 with
   |sl i j=>
    simp only [brC]
    cases hg:dX (aq F ks a cs) kNil i with
    |none=>exact .inr rfl
    |some d=>rw [hsl _ _ hg];exact .inl rfl
   |bx i j=>
    simp only [brC]
    cases hg:cA (aq F ks a cs) kNil i with
    |none=>exact .inr rfl
    |some d=>
     rw [hpt _ _ hg];simp only
     cases hl:aI kNil.bl (aq F ks a cs).bl d with
     |none=>exact .inr rfl
     |some b=>
      cases b with
      |box bc=>
       obtain⟨_,_,_,g4⟩:=uk hr hcs hext (show ai ((bY F ks a cs).map (λp=>(p,KB.dead))++(ks.bl++F.bl)) d=some (.box bc)from hl) (by simp)
       have:aI ks2.bl (aq F ks a cs).bl d=some (.box bc):=by unfold aI;rw [g4];exact hl
       rw [this];exact .inl rfl
      |_=>exact .inr rfl
  rcases key with k|k
  .rw [<-k];exact hq
  .rw [k]at hq;simp at hq
 .simp at h1
theorem Jc(hcs:cW F ks a.head=some cs)(hrd:RdCs ks a.head.sh cs x0)(hext:Ext (aq F ks a cs) (aX F ks a.head x1) V1 ks2 V2){p:Nat}(hp:p<ks.nx)(hl:ai ks.bl p=none):ai ks2.bl p=none:=by
 obtain⟨ca,cb,cw,_,hcb,_,_⟩:=dB hcs;refine hext.dom p (by show p<ks.nx+_;omega) (jG (λw hw he=> ?_) (λw hw he=> ?_) hp)
 .obtain⟨q,c,j1,j2⟩:=gv hcb w hw;rw [he]at j1;cases j1;rw [hl]at j2;simp at j2
 .obtain⟨q,j1,j2⟩:=lY hcs hw;rw [he]at j1;cases j1;obtain⟨b,k1,_⟩:=nB hrd j2;rw [hl]at k1;simp at k1
theorem Al{Fb:KF}{kb:KS}(hr:Rel F ks V f h)(hok:ey F ks=true)(hcs:cW F ks a.head=some cs)(hr2:Rel (aq F ks a cs) ks2 V2 f2 h2)(hok2:ey (aq F ks a cs) ks2=true)(hext:Ext (aq F ks a cs) (aX F ks a.head x1) V1 ks2 V2)(hbs:kt F ks (aq F ks a cs) pt=true)(hcs2:cW (aq F ks a cs) ks2 pt=some cs2)(hnd2:fE (bj cs2)=true)(hrd2:RdCs ks2 pt.sh cs2 v)
  (hnt:Fb.nt=F.nt) (hnx:kb.nx=ks.nx+pt.sh.length) (hsl:∀i d,dX Fb kb i=some d->ai (fg pt.vs ((aA pt.sh v ks.nx).map (·.1))) i=some d∨ai (aq F ks a cs).sl i=some d) (hkb:∀p,aI kb.bl Fb.bl p=ai ((aX F ks pt v).bl++((bY F ks a cs).map (λp=>(p,KB.dead))++(ks.bl++F.bl))) p):∃V3,Rel Fb kb V3 f2 h2/\Agree ks.nx V2 V3/\LeB ks.nx (am (aq F ks a cs) ks2) (am Fb kb):=by
 have hptr:=uj hok hok2 hbs;have hrow:=um hr hok2 hcs hext hbs;have hnx2:ks.nx<=ks2.nx:=Nat.le_trans (by show ks.nx<=ks.nx+_;omega) hext.nx;obtain⟨ca,cb,cw,_,hcb2,_,_⟩:=dB hcs2;refine trans (N0:=ks.nx) hr2 hcs2 hrd2 hnd2 hnx2 hnt hnx (λi d hd=> ?_) (λp b hb=> ?_) (λp b hb=>pm hr hkb hb) (λw hw p hp=> ?_) (λw hw p hp=> ?_)
 .rcases hsl i d hd with h1|h1
  .exact .inl h1
  .have h3:=rW hok h1;exact .inr ⟨(iX hok2 h1).2,(hr.sl i d h3).2.1⟩
 .rw [jF hptr,lW (λw hw=>by obtain⟨q,e1,e2⟩:=hrow w hw;exact e1.trans e2.symm)];rcases pk hkb hb with h1|h1|h1|⟨h1,h3,h4⟩
  .exact .inl h1
  .exact .inr (.inl h1)
  .exact .inr (.inr (.inl h1))
  ·-- a block of the head's frame
   obtain⟨g1,g2,g3,g4⟩:=uk hr hcs hext h3 h4;refine .inr (.inr (.inr ⟨g1,g2,g3,λhm=> ?_,λw hw he=> ?_⟩))
   .obtain⟨b',e1,_⟩:=nB hrd2 hm;rw [g4]at e1;simp at e1
   .obtain⟨p',c,e1,e2⟩:=gv hcb2 w hw;rw [he]at e1;cases e1;rw [g4]at e2;simp at e2
 .rw [hptr w hw]at hp;exact zg hr hp
 .obtain⟨q,e1,e2⟩:=hrow w hw;rw [hp]at e1;cases e1;exact zh hr e2
end loop
end
end K
end Ev
end
noncomputable section
namespace Ev
namespace K
open Go Go.RowKit
theorem vX{ids:List Nat}{p:Nat}(h:(!(ids.any (Nat.beq p)))=true):p ∉ ids:=by
 intro hp
 have:ids.any (Nat.beq p)=true:=List.any_eq_true.2 ⟨p,hp,Nat.beq_refl p⟩
 rw [this]at h;simp at h
theorem EM{e:KE}{nid p:Nat}{bl bl':List (Nat×KB)}(h:ai bl p=ai bl' p):ai (blE e nid bl) p=ai (blE e nid bl') p:=by
 have h1:ai (blU e bl) p=ai (blU e bl') p:=by
  unfold blU
  cases e.upd with
  |none=>exact h
  |some x=>show ai ((x.1,x.2)::bl) p=ai ((x.1,x.2)::bl') p;rw [aj,aj,h]
 unfold blE
 cases e.new with
 |none=>exact h1
 |some b=>simp only [aj,h1]
section free
variable {B B' : BK} {V : Vl} {ids : List Nat} (hb : ∀ p, p ∉ ids → B' p = B p)
include hb
theorem RC.free{c:KC}{x:C}(hf:oY ids c=true)(h:RC B V c x):RC B' V c x:=by
 cases c with
 |o e p=>intro e' ne l hl;rw [hb p (vX (ids:=ids) (p:=p) hf)]at hl;exact h e' ne l hl
 |m e p=>intro e' l hl;rw [hb p (vX (ids:=ids) (p:=p) hf)]at hl;exact h e' l hl
 |_=>exact h
theorem RCs.free:∀{l:List KC} {xs:List C},l.all (oY ids)=true->RCs B V l xs->RCs B' V l xs
 | [],xs,hf,h=>h
 |c::l,xs,hf,⟨x,s,e,h1,h2⟩=>by
  rw [List.all_cons,Bool.and_eq_true]at hf;exact⟨x,s,e,RC.free hb hf.1 h1,RCs.free hf.2 h2⟩
theorem RD1.free{k:KD}{d:D}(hf:ry ids k=true)(h:RD1 B V k d):RD1 B' V k d:=by
 cases k with
 |one c=>obtain⟨c',h1,h2⟩:=h;exact⟨c',h1,RC.free hb hf h2⟩
 |agg cs=>obtain⟨c',h1,h2⟩:=h;exact⟨c',h1,RCs.free hb hf h2⟩
 |tup ts=>exact h
omit hb in
theorem EN{x:Bool×List KC}(hf:x.2.all (oY ids)=true):ry ids (mkD x)=true:=by
 obtain⟨b,cs⟩:=x
 cases b with
 |true=>exact hf
 |false=>match cs,hf with
  | [],hf=>exact hf
  | [c],hf=>simpa [mkD,ry]using hf
  |c::d::r,hf=>exact hf
theorem RTs.free:∀{l:List (Bool×List KC)} {xs:List D},(l.all λx=>x.2.all (oY ids))=true->RTs B V l xs->RTs B' V l xs
 | [],xs,hf,h=>h
 |c::l,xs,hf,⟨x,s,e,h1,h2⟩=>by
  rw [List.all_cons,Bool.and_eq_true]at hf;exact⟨x,s,e,RD1.free hb (EN hf.1) h1,RTs.free hf.2 h2⟩
theorem RD.free{k:KD}{d:D}(hf:ry ids k=true)(h:RD B V k d):RD B' V k d:=by
 cases k with
 |one c=>exact RD1.free (k:= .one c) hb hf h
 |agg cs=>exact RD1.free (k:= .agg cs) hb hf h
 |tup ts=>obtain⟨ds,h1,h2⟩:=h;exact⟨ds,h1,RTs.free hb hf h2⟩
theorem BlkIs.free{b:KB}{x:Blk}(hf:El ids b=true)(h:BlkIs B V x b):BlkIs B' V x b:=by
 cases b with
 |box cs=>obtain⟨sz,cs',g1,g2⟩:=h;exact⟨sz,cs',g1,RCs.free hb hf g2⟩
 |rows e ne l=>exact h
 |mrows e l=>exact h
 |dead=>exact h
end free
theorem zi{ids:List Nat}{tag:Nat}{d:KD}:ry ids (jg tag d)=ry ids d:=by
 unfold jg;split<;>rfl
section
variable {E : Env} {y : Nat → dC} {n : Nat} {F : KF} {ks : KS} {V : Vl} {f : Nat → D} {h : ak} {M tag nid : Nat} {op : Op} {G : KG} {D0 : Nat} {R : Type} {r : R}
theorem gw{ids:List Nat}{p:Nat}:ai (ns ids ks).bl p=if p∈ids then some .dead else ai ks.bl p:=by
 show ai (ids.map (λp=>(p,KB.dead))++ks.bl) p=_;rw [aN];unfold aI;rcases oz (l:=ids) (p:=p)with⟨h1,h2⟩|⟨h1,h2⟩
 .rw [h1,if_neg h2]
 .rw [h1,if_pos h2]
theorem ma{ids:List Nat}{p:Nat}:am F (ns ids ks) p=if p∈ids then none else am F ks p:=by
 unfold am aI;rw [gw];by_cases hp:p∈ids
 .rw [if_pos hp,if_pos hp]
 .rw [if_neg hp,if_neg hp]
theorem GF{ids:List Nat}{e:KE}{p:Nat}(hp:p ∉ ids):Be F (ns ids ks) nid e p=Be F ks nid e p:=by
 have:=EM (e:=e) (nid:=nid) (show ai (ns ids ks).bl p=ai ks.bl p by rw [gw,if_neg hp])
 unfold Be am aI;simp only [this]
theorem EO{ids ms:List Nat}(hr:Rel F ks V f h)(hm:∀p b,am F ks p=some b->b.there->V.id p∈ms->p∈ids):Rel F (ns ids ks) V f (mask h ms):=by
 have hle:LeB ks.nx (am F ks) (am F (ns ids ks)):=λp hp=>by
  rw [ma];split
  .exact⟨λe ne l h=>by simp at h,λe l h=>by simp at h⟩
  .exact⟨λe ne l h=>⟨e,ne,l,h,rfl⟩,λe l h=>⟨e,l,h,rfl⟩⟩
 refine⟨λi d hd=> ?_,λp b hb=> ?_,λp q b b' hp hq=> ?_⟩
 .obtain⟨g1,g2,g3⟩:=hr.sl i d hd;exact⟨g1,g2,g3.mono g2 hle (Agree.refl _ _)⟩
 .rw [ma]at hb;split at hb
  .simp at hb
  .rename_i hp;obtain⟨g1,g2,g3⟩:=hr.bl p b hb;refine⟨g1,g2,?_⟩;have g4:=g3.mono g2 hle (Agree.refl _ _);by_cases ht:b.there
   .exact g4.heap (by rw [xj,if_neg λhh=>hp (hm p b hb ht hh)])
   .cases b with
    |mrows e l=>exact λhl=>absurd hl ht
    |dead=>trivial
    |box cs=>exact absurd trivial ht
    |rows e ne l=>exact absurd trivial ht
 .rw [ma]at hp hq;split at hp
  .simp at hp
  .split at hq
   .simp at hq
   .exact hr.inj p q b b' hp hq
open Classical in
def oId(ks:KS)(V:Vl)(p:Nat):List Nat:=if∃b,ai ks.bl p=some b/\b.there then [V.id p]else []
def oB(ks:KS)(V:Vl)(l:List Nat):List Nat:=l.flatMap (oId ks V)
def nC(ks:KS)(V:Vl)(O:List (List Nat)):List (List Nat):=O.map (oB ks V)
theorem jZ{O:List (List Nat)}{j:Nat}:(nC ks V O).getD j []=oB ks V (O.getD j []):=by
 unfold nC;rw [List.getD_eq_getElem?_getD,List.getElem?_map,List.getD_eq_getElem?_getD];cases O[j]? <;>rfl
theorem jH{l:List Nat}{x:Nat}(h:x∈oB ks V l):∃p∈l,∃b,ai ks.bl p=some b/\b.there/\x=V.id p:=by
 unfold oB at h;obtain⟨p,hp,hx⟩:=List.mem_flatMap.1 h;unfold oId at hx;split at hx
 .rename_i hh;obtain⟨b,h1,h2⟩:=hh;exact⟨p,hp,b,h1,h2,by simpa using hx⟩
 .simp at hx
theorem jI{b:KB}(h:b.there):b≠ .dead:=by rintro rfl;exact h
theorem nD(hr:Rel F ks V f h){p:Nat}{b:KB}(hp:am F ks p=some b)(ht:b.there):V.id p<h.length:=
 let⟨_,hz⟩:=lO (hr.bl p b hp).2.2 ht;BE hz
theorem Am(hr:Rel F ks V f h):∀{os rs O:List (List Nat)},djB os rs O=true->DJ (nC ks V os) rs (nC ks V O)
 | [],rs,O,_=>by cases rs<;>trivial
 |o::os,[],O,_=>trivial
 |o::os,r::rs,O,hd=>by
  have hd':((r.all λj=>En o (O.getD j []))&& djB os rs O)=true:=hd;rw [Bool.and_eq_true]at hd';refine⟨λj hj x hx=> ?_,Am hr hd'.2⟩;rw [jZ];intro hx2;obtain⟨p,p1,b,p2,p3,rfl⟩:=jH hx;obtain⟨q,q1,b',q2,q3,q4⟩:=jH hx2
  have:=hr.inj p q b b' (ah p2 (jI p3)) (ah q2 (jI q3)) p3 q3 q4
  subst this;have h1:=List.all_eq_true.1 hd'.1 j hj;unfold En at h1;exact vX (List.all_eq_true.1 h1 p p1) q1
theorem GG(hr:Rel F ks V f h){O:List (List Nat)}:∀l∈nC ks V O,∀k∈l,k<h.length:=by
 intro l hl k hk;obtain⟨o,h1,rfl⟩:=List.mem_map.1 hl;obtain⟨p,_,b,p2,p3,rfl⟩:=jH hk;exact nD hr (ah p2 (jI p3)) p3
section
variable {Rl O : List (List Nat)} {N : List (Bool × List Nat)} {nw : List (Nat × Nat)} {i j p q : Nat}
theorem xL(hj:j∈Rl.getD i [])(hp:p∈O.getD j []):p∈dL Rl O N nw i:=List.mem_flatMap.2 ⟨j,hj,List.mem_append.2 (.inl hp)⟩
theorem xM(hj:j∈Rl.getD i [])(hq:q∈(N.getD j (false,[])).2)(hp:ai nw q=some p):p∈dL Rl O N nw i:=List.mem_flatMap.2 ⟨j,hj,List.mem_append.2 (.inr (List.mem_append.2 (.inl (List.mem_flatMap.2 ⟨q,hq,by rw [hp];exact List.mem_singleton.2 rfl⟩))))⟩
theorem xN(hj:j∈Rl.getD i [])(hn:(N.getD j (false,[])).1=true)(hp:ai nw j=some p):p∈dL Rl O N nw i:=List.mem_flatMap.2 ⟨j,hj,List.mem_append.2 (.inr (List.mem_append.2 (.inr (by rw [hn,hp];exact List.mem_singleton.2 rfl))))⟩
end
structure TInv(F:KF)(ks0:KS)(V0:Vl)(b w:Nat)(nw:List (Nat×Nat))(i:Nat)(ks:KS)(V:Vl)(f:Nat->D)(H:ak):Prop where
 rel:Rel F ks V f H
 ext:Ext F ks0 V0 ks V
 len:H.length=b+w
 th:∀p bl,am F ks p=some bl->bl.there->(p<ks0.nx/\∃b0,am F ks0 p=some b0/\b0.there)∨∃j,ai nw j=some p
 nw:∀j q,ai nw j=some q->j<i/\V.id q=b+j/\q<ks.nx
 free:∀j,i<=j->ao H (b+j)=none
section
variable {ks0 : KS} {V0 : Vl} {f0 : Nat → D} {h0 : ak} {w i : Nat} {nw : List (Nat × Nat)} {H : ak} {Rl O : List (List Nat)} {N : List (Bool × List Nat)}
theorem TInv.mask(hr0:Rel F ks0 V0 f0 h0)(hi:TInv F ks0 V0 h0.length w nw i ks V f H){p:Nat}{bl:KB}(hp:am F ks p=some bl)(ht:bl.there)(hm:V.id p∈(Rl.getD i []).flatMap (aZ h0.length (nC ks0 V0 O) N)):p∈dL Rl O N nw i:=by
 obtain⟨j,hj,hx⟩:=List.mem_flatMap.1 hm;unfold aZ at hx;rw [jZ]at hx;rcases hi.th p bl hp ht with⟨h1,b0,h2,h3⟩|⟨j0,h1⟩
 .rw [(hi.ext.agree p h1).1]at hx;have hlt:=nD hr0 h2 h3;rcases List.mem_append.1 hx with hx|hx
  .obtain⟨q,q1,b1,q2,q3,q4⟩:=jH hx
   have:=hr0.inj p q b0 b1 h2 (ah q2 (jI q3)) h3 q3 q4
   subst this;exact xL hj q1
  .exfalso;rcases List.mem_append.1 hx with hx|hx
   .obtain⟨k,_,hk⟩:=List.mem_map.1 hx;omega
   .split at hx
    .have:=List.mem_singleton.1 hx;omega
    .simp at hx
 .obtain⟨h2,h3,h4⟩:=hi.nw j0 p h1;rw [h3]at hx;rcases List.mem_append.1 hx with hx|hx
  .obtain⟨q,q1,b1,q2,q3,q4⟩:=jH hx
   have:=nD hr0 (ah q2 (jI q3)) q3
   omega
  .rcases List.mem_append.1 hx with hx|hx
   .obtain⟨k,k1,k2⟩:=List.mem_map.1 hx
    have:k=j0:=by omega
    subst this;exact xM hj k1 h1
   .split at hx
    .rename_i hn
     have:=List.mem_singleton.1 hx
     have:j0=j:=by omega
     subst this;exact xN hj hn h1
    .simp at hx
theorem kd{b:KB}(h1:isM b=false)(h2:b≠ .dead):b.there:=by
 cases b with
 |mrows e l=>simp [isM]at h1
 |dead=>exact absurd rfl h2
 |box cs=>trivial
 |rows e ne l=>trivial
theorem GH(hr0:Rel F ks0 V0 f0 h0)(hi:TInv F ks0 V0 h0.length w nw i ks V f H){p:Nat}{b0:KB}(hb:ai ks.bl p=some b0)(hd:b0≠ .dead){uo:List (Nat×Blk)}(huo:(b0.there/\∃x,uo= [(V.id p,x)])∨(¬b0.there/\uo= [])):∀(P Q:List Nat),tT ks0 ks nw p P Q=true->uo.map (·.1)=oB ks0 V0 P++Q.map (h0.length+·)/\∀x∈oB ks0 V0 P++Q.map (h0.length+·),x<h0.length+i
 | [q],[],ho=>by
  have ho':(Nat.beq p q && Em ks0 ks p)=true:=ho;rw [Bool.and_eq_true]at ho'
  have:=Nat.eq_of_beq_eq_true ho'.1
  subst this;have h2:=ho'.2;unfold Em at h2;split at h2
  .rename_i x0 y0 hx0 hy0;rw [hb]at hy0;cases hy0;have hx0d:x0≠ .dead:=by rintro rfl;simp at h2
   have hm:isM x0=isM b0:=by
    cases x0 with
    |dead=>exact absurd rfl hx0d
    |_=>simpa using h2
   have hp0:=(hr0.bl p x0 (ah hx0 hx0d)).1
   have key:x0.there↔b0.there:=by
    cases x0 with
    |dead=>exact absurd rfl hx0d
    |box cs=>exact⟨λ_=>kd hm.symm hd,λ_=>trivial⟩
    |rows e ne l=>exact⟨λ_=>kd hm.symm hd,λ_=>trivial⟩
    |mrows e l=>cases b0 with
     |mrows e' l'=>
      obtain⟨e1,l1,g1,g2⟩:=(hi.ext.le p hp0).2 e' l' (ah hb hd);rw [ah hx0 hx0d]at g1;cases g1;show l≠[]↔l'≠[];rw [<-List.length_pos_iff,<-List.length_pos_iff,g2]
     |_=>simp [isM]at hm
   have e1:oB ks0 V0 [p]=oId ks0 V0 p:=by simp [oB]
   rw [e1,List.map_nil,List.append_nil];rcases huo with⟨h3,x,rfl⟩|⟨h3,rfl⟩
   .have h4:oId ks0 V0 p= [V0.id p]:=if_pos ⟨x0,hx0,key.2 h3⟩;rw [h4]
    have:=nD hr0 (ah hx0 hx0d) (key.2 h3)
    exact⟨by show [V.id p]=_;rw [(hi.ext.agree p hp0).1],λz hz=>by have:=List.mem_singleton.1 hz;omega⟩
   .have h4:oId ks0 V0 p= []:=if_neg λ⟨b,g1,g2⟩=>by rw [hx0]at g1;cases g1;exact h3 (key.1 g2)
    rw [h4];exact⟨rfl,λz hz=>by simp at hz⟩
  .simp at h2
 | [],[j],ho=>by
  have ho':yS ks nw p j=true:=ho;unfold yS at ho';rw [Bool.and_eq_true]at ho';obtain⟨h1,h2⟩:=ho';split at h1
  .rename_i q hq
   have:=Nat.eq_of_beq_eq_true h1
   subst this;rw [hb]at h2;have hth:b0.there:=kd (by simpa using h2) hd;obtain⟨k1,k2,k3⟩:=hi.nw j p hq;rcases huo with⟨_,x,rfl⟩|⟨h3,_⟩
   .refine⟨?_,λz hz=> ?_⟩
    .show [V.id p]=_;rw [k2];simp [oB]
    .have:z=h0.length+j:=by simpa [oB]using hz
     omega
   .exact absurd hth h3
  .simp at h1
 | [],[],ho=>by simp [tT]at ho
 | [],_::_::_,ho=>by simp [tT]at ho
 | [_],_::_,ho=>by simp [tT]at ho
 |_::_::_,_,ho=>by simp [tT]at ho
theorem EP(hr0:Rel F ks0 V0 f0 h0)(hi:TInv F ks0 V0 h0.length w nw i ks V f H){e:KE}{ids:List Nat}(hef:tU ks0 ks O N nw i ids e=true)(hupd:∀p b,e.upd=some (p,b)->∃b0,ai ks.bl p=some b0/\b0≠ .dead/\ScB ks.nx b/\b0.like b)(hnew:∀b,e.new=some b->ScB ks.nx b/\b≠ .dead){B':BK}{V':Vl}{u:List (Nat×Blk)}(hreal:Es B' V' V ks (h0.length+i) e u):
  u.map (·.1)=aZ h0.length (nC ks0 V0 O) N i/\∀x∈aZ h0.length (nC ks0 V0 O) N i,x<h0.length+(i+1):=by
 unfold tU at hef;simp only [Bool.and_eq_true]at hef;obtain⟨⟨_,h2⟩,h3⟩:=hef;obtain⟨uo,un,rfl,huo,hun⟩:=hreal
 have hO:uo.map (·.1)=oB ks0 V0 (O.getD i [])++(N.getD i (false,[])).2.map (h0.length+·)/\∀x∈oB ks0 V0 (O.getD i [])++(N.getD i (false,[])).2.map (h0.length+·),x<h0.length+i:=by
  cases hu:e.upd with
  |none=>
   rw [hu]at huo h2;simp only [Bool.and_eq_true,List.isEmpty_iff]at h2;rw [show uo= []from huo,h2.1,h2.2];exact⟨rfl,λx hx=>by simp [oB]at hx⟩
  |some z=>
   obtain⟨p,b⟩:=z;rw [hu]at huo h2;simp only [Bool.and_eq_true]at h2;obtain⟨b0,g1,g2,_,_⟩:=hupd p b hu;refine GH hr0 hi g1 g2 ?_ _ _ h2.2;rcases huo with⟨x,k1,_,k2⟩|⟨k1,_,k2⟩
   .exact .inl ⟨k2 b0 g1,x,k1⟩
   .exact .inr ⟨k2 b0 g1,k1⟩
 have hN:un.map (·.1)=(if(N.getD i (false,[])).1 then [h0.length+i]else []):=by
  cases hn:e.new with
  |none=>
   rw [hn]at hun h3;have h3':(N.getD i (false,[])).1=false:=by simpa using h3
   rw [show un= []from hun,h3'];rfl
  |some b=>
   rw [hn]at hun h3;simp only [Bool.and_eq_true]at h3;rw [h3.1.1];have hth:b.there:=kd (by simpa using h3.2) (hnew b hn).2;rcases hun with⟨x,k1,_,_⟩|⟨_,k2⟩
   .rw [k1];rfl
   .exact absurd hth k2
 unfold aZ;rw [jZ,List.map_append,hO.1,hN,List.append_assoc];refine⟨rfl,λx hx=> ?_⟩;rw [<-List.append_assoc]at hx;rcases List.mem_append.1 hx with hx|hx
 .have:=hO.2 x hx;omega
 .split at hx
  .have:=List.mem_singleton.1 hx;omega
  .simp at hx
theorem uq:∀(u:List (Nat×Blk)) (H:ak),(∀x∈u,x.1<H.length)->(Ev.apply H u).length=H.length
 | [],H,h=>rfl
 |x::u,H,h=>by
  have h1:=yD x.2 (h x (by simp));show(Ev.apply (av H x.1 x.2) u).length=_;rw [uq u _ (λz hz=>by rw [h1];exact h z (by simp [hz])),h1]
theorem rX(hG:GOk G E D0)(hD:D0<=n){ops:Array Oper}{κ:KS->Option R}(hr0:Rel F ks0 V0 f0 h0):∀(l:List Oper) (i:Nat) (nw:List (Nat×Nat)) {ks:KS} {V:Vl} {f:Nat->D} {H:ak},i+l.length=w->oZ G F ops.toList Rl O N ks0 κ i nw l ks=some r->TInv F ks0 V0 h0.length w nw i ks V f H->bP (Post F ks0 V0 κ r) (evW E (cpR E n) ops h0.length (aZ h0.length (nC ks0 V0 O) N) (λi=>(Rl.getD i []).flatMap (aZ h0.length (nC ks0 V0 O) N)) i l {t:=tab F.nt f,h:=H})
 | [],i,nw,ks,V,f,H,hl,hs,hi=>⟨ks,V,f,rfl,hi.rel,hs,hi.ext⟩
 |o::l,i,nw,ks,V,f,H,hl,hs,hi=>by
  unfold oZ at hs;obtain⟨bb,ks1,g1,g2,g3,g4,g5,g6⟩:=uf hi.rel hs;obtain⟨g,gg1,gg2⟩:=jw g2;have hl':i+1+l.length=w:=by rw [List.length_cons]at hl;omega
  cases bb with
  |false=>
   simp only [cond_false]at g1
   cases hq:yU O N i with
   |false=>rw [hq]at g1;simp at g1
   |true=>
    rw [hq]at g1;simp only [cond_true]at g1;obtain⟨k1,k2⟩:=rQ g4 g3;have hi':TInv F ks0 V0 h0.length w nw (i+1) (tO o.dst ks1) V (upO o.dst bu f) H:=⟨k1,hi.ext.trans (g5.trans k2),hi.len,λp bl hp ht=>let⟨b0,q1,q2⟩:=g6 p bl hp ht;hi.th p b0 q1 q2,λj q hj=>let⟨q1,q2,q3⟩:=hi.nw j q hj;⟨by omega,q2,Nat.lt_of_lt_of_le q3 g5.nx⟩,λj hj=>hi.free j (by omega)⟩;have ih:=rX hG hD hr0 l (i+1) nw hl' g1 hi'
    have hU:aZ h0.length (nC ks0 V0 O) N i= []:=by
     unfold yU at hq;simp only [Bool.and_eq_true,List.isEmpty_iff,Bool.not_eq_true']at hq;unfold aZ;rw [jZ,hq.1.1,hq.1.2,hq.2];rfl
    cases ho:o.dst with
    |none=>rw [ho]at ih;exact DF gg1 ho (fT gg2) (by rw [hU];rfl) (by rw [hU];rfl) (jS _) ih
    |some d=>
     rw [ho]at ih g3;exact GW gg1 ho (jx (by simpa [fx]using g3)) (fT gg2) (by rw [hU];rfl) (by rw [hU];rfl) (jS _) (by rw [ri];exact ih)
  |true=>
   simp only [cond_true]at g1;obtain⟨op',ks2,k1,k2,k3,k4,k5,k6⟩:=ug (E:=E) (n:=n) g4 g1;have hi2:TInv F ks0 V0 h0.length w nw i ks2 V f H:=⟨k4,hi.ext.trans (g5.trans k5),hi.len,λp bl hp ht=>let⟨b0,q1,q2⟩:=(g6.trans k6) p bl hp ht;hi.th p b0 q1 q2,λj q hj=>let⟨q1,q2,q3⟩:=hi.nw j q hj;⟨q1,q2,Nat.lt_of_lt_of_le q3 (g5.trans k5).nx⟩,hi.free⟩;have hmr:=EO (ids:=dL Rl O N nw i) (ms:=(Rl.getD i []).flatMap (aZ h0.length (nC ks0 V0 O) N)) hi2.rel λp bl hp ht hm=>hi2.mask hr0 hp ht hm;obtain⟨e,e1,e2⟩:=rK (M:=ks2.nx+2) hG hD hmr (Nat.le_refl _) (Nat.le_succ _) (by show ks2.nx<_;omega) (by show ks2.nx+1<_;omega) k1;have e1':cond (tU ks0 ks2 O N nw i (dL Rl O N nw i) e) (oZ G F ops.toList Rl O N ks0 κ (i+1) (nwE e i (ks2.nx+1) nw) l (yQ o.dst ks2.nx (ks2.nx+1) e ks2)) none=some r:=e1
   cases hef:tU ks0 ks2 O N nw i (dL Rl O N nw i) e with
   |false=>rw [hef]at e1';simp at e1'
   |true=>
    rw [hef]at e1';simp only [cond_true]at e1';obtain⟨bo,hrun⟩:=e2.run;obtain⟨v,u,s1,s2,s3⟩:=hrun (h0.length+i)
    have hnot:∀p b,e.upd=some (p,b)->p ∉ dL Rl O N nw i:=λp b hb hp=>by
     obtain⟨b0,q1,q2,_⟩:=e2.upd p b hb;rw [gw,if_pos hp]at q1;cases q1;exact q2 rfl
    have hupd:∀p b,e.upd=some (p,b)->∃b0,ai ks2.bl p=some b0/\b0≠ .dead/\ScB ks2.nx b/\b0.like b:=λp b hb=>by
     obtain⟨b0,q1,q2⟩:=e2.upd p b hb;rw [gw,if_neg (hnot p b hb)]at q1;exact⟨b0,q1,q2⟩
    have hfr:=hef;unfold tU at hfr;simp only [Bool.and_eq_true]at hfr;obtain⟨⟨f1,f2⟩,f3⟩:=hfr;have hbe:∀p,p ∉ dL Rl O N nw i->Be F ks2 (ks2.nx+1) e p=Be F (ns (dL Rl O N nw i) ks2) (ks2.nx+1) e p:=λp hp=>(GF hp).symm;have s2':RD (Be F ks2 (ks2.nx+1) e) (V.set (ks2.nx+1) (h0.length+i) ks2.nx bo) (jg ks2.nx e.v) v:=RD.free hbe (by rw [zi];exact f1) s2
    have s3':Es (Be F ks2 (ks2.nx+1) e) (V.set (ks2.nx+1) (h0.length+i) ks2.nx bo) V ks2 (h0.length+i) e u:=by
     obtain⟨uo,un,q1,q2,q3⟩:=s3;refine⟨uo,un,q1,?_,?_⟩
     .cases hu:e.upd with
      |none=>rw [hu]at q2;exact q2
      |some z=>
       obtain⟨p,b⟩:=z;have hp:=hnot p b hu;rw [hu]at q2 f2;simp only [Bool.and_eq_true]at f2;have hlk:ai (ns (dL Rl O N nw i) ks2).bl p=ai ks2.bl p:=by rw [gw,if_neg hp]
       rcases q2 with⟨x,z1,z2,z3⟩|⟨z1,z2,z3⟩
       .exact .inl ⟨x,z1,BlkIs.free hbe f2.1 z2,λb0 hb0=>z3 b0 (by rw [hlk];exact hb0)⟩
       .exact .inr ⟨z1,z2,λb0 hb0=>z3 b0 (by rw [hlk];exact hb0)⟩
     .cases hn:e.new with
      |none=>rw [hn]at q3;exact q3
      |some b=>
       rw [hn]at q3 f3;simp only [Bool.and_eq_true]at f3;rcases q3 with⟨x,z1,z2,z3⟩|⟨z1,z2⟩
       .exact .inl ⟨x,z1,BlkIs.free hbe f3.1.2 z2,z3⟩
       .exact .inr ⟨z1,z2⟩
    obtain⟨t1,t2⟩:=EP hr0 hi2 hef hupd e2.new s3';have hnone:ao H (h0.length+i)=none:=hi2.free i (Nat.le_refl _);have hh:=lP u H (rN k4 hupd s3' hnone);obtain⟨w1,w2⟩:=rM (M:=ks2.nx+2) k4 (Nat.le_refl _) (Nat.le_succ _) (by omega) (by omega) g3 hupd e2.new e2.sc s2' s3' (λ_=>hnone) hh;have hult:∀x∈u,x.1<h0.length+(i+1):=λx hx=>t2 x.1 (t1▸List.mem_map_of_mem hx)
    have hi':TInv F ks0 V0 h0.length w (nwE e i (ks2.nx+1) nw) (i+1) (yQ o.dst ks2.nx (ks2.nx+1) e ks2) (V.set (ks2.nx+1) (h0.length+i) ks2.nx bo) (upO o.dst v f) (Ev.apply H u):=by
     have hnwl:∀j q,ai nw j=some q->ai (nwE e i (ks2.nx+1) nw) j=some q:=λj q hj=>by
      unfold nwE;split
      .rw [aj,if_neg (by have:=(hi2.nw j q hj).1;omega)];exact hj
      .exact hj
     refine⟨w1,hi2.ext.trans w2,?_,?_,?_,?_⟩
     .rw [uq u H (λx hx=>by have:=hult x hx;rw [hi2.len];omega),hi2.len]
     .intro p bl hp ht
      have hold:∀b0,am F ks2 p=some b0->b0.there->(p<ks0.nx/\∃b0,am F ks0 p=some b0/\b0.there)∨∃j,ai (nwE e i (ks2.nx+1) nw) j=some p:=λb0 z1 z2=>by
       rcases hi2.th p b0 z1 z2 with h1|⟨j,hj⟩
       .exact .inl h1
       .exact .inr ⟨j,hnwl j p hj⟩
      have hp':Be F ks2 (ks2.nx+1) e p=some bl:=hp;rcases rL (λb hb=>(e2.new b hb).2) hp' with⟨rfl,h1⟩|h1|⟨h1,h2,h3⟩
      .refine .inr ⟨i,?_⟩;unfold nwE;rw [h1];simp only [aj,if_true]
      .obtain⟨b0,z1,z2,_,_⟩:=hupd p bl h1;refine hold b0 (ah z1 z2) ?_;obtain⟨uo,un,q1,q2,q3⟩:=s3';rw [h1]at q2;rcases q2 with⟨x,_,_,z3⟩|⟨_,z3,_⟩
       .exact z3 b0 z1
       .exact absurd ht z3
      .exact hold bl h3 ht
     .intro j q hj
      have hcase:(j=i/\q=ks2.nx+1)∨ai nw j=some q:=by
       unfold nwE at hj;split at hj
       .rw [aj]at hj;split at hj
        .rename_i hji;cases hj;exact .inl ⟨hji,rfl⟩
        .exact .inr hj
       .exact .inr hj
      rcases hcase with⟨rfl,rfl⟩|hj
      .exact⟨Nat.lt_succ_self _,Vl.set_id,by show _<ks2.nx+2;omega⟩
      .obtain⟨z1,z2,z3⟩:=hi2.nw j q hj;exact⟨by omega,by rw [(w2.agree q z3).1,z2],by show _<ks2.nx+2;omega⟩
     .intro j hj;rw [hh.out _ λx hx=>by have:=hult x hx;omega];exact hi2.free j (by omega)
    have ih:=rX hG hD hr0 l (i+1) _ hl' e1' hi';have hst:=(nd gg2).trans ((k2 (h0.length+i) _).trans s1)
    have hall:(aZ h0.length (nC ks0 V0 O) N i).all (·<H.length)=true:=List.all_eq_true.2 λx hx=>by
     have:=t2 x hx
     have h3:=hi2.len;exact decide_eq_true (by omega)
    cases ho:o.dst with
    |none=>rw [ho]at ih;exact DF gg1 ho hst t1 hall rfl ih
    |some d=>
     rw [ho]at ih g3;exact GW gg1 ho (jx (by simpa [fx]using g3)) hst t1 hall rfl (by rw [ri];exact ih)
theorem Cd(hG:GOk G E D0)(hD:D0<=n){id:Nat}{l:List Oper}{κ:Ex->KS->Option R}(hq:dn ⟨l⟩=true)(hn:jf ⟨l⟩ N=true)(hdj:djB O (dQ ⟨l⟩) O=true)(hold:vJ ks O=true)(hs:oZ G F l (dQ ⟨l⟩) O N ks (κ .normal) 0 [] l ks=some r)(hr:Rel F ks V f h):WpC E y n (.region id ⟨l⟩ true) (λe s=>∃ks' V' f',s.t=tab F.nt f'/\Rel F ks' V' f' s.h/\κ e ks'=some r/\Ext F ks V ks' V') {t:=tab F.nt f,h:=h}:=by
 refine BJ l.length rfl (nC ks V O) N (dQ ⟨l⟩) hq hn rfl (Am hr hdj) (GG hr) λh' h1 h2=> ?_;refine rX (ops:=⟨l⟩) (w:=l.length) hG hD hr l 0 [] (by omega) hs ⟨hr.heap h2,Ext.refl _ _ _,h1,λp bl hp ht=> .inl ⟨(hr.bl p bl hp).1,bl,hp,ht⟩,λj q hj=>by simp [ai]at hj,λj hj=> ?_⟩;rw [h2];unfold ao;rw [List.getElem?_eq_none (by omega)]
end
end
section
variable {F : KF} {ks : KS} {V : Vl} {f : Nat → D} {h : ak} {R : Type} {r : R}
theorem iZ{p:Nat}(hl:ai ks.bl p=some .dead):am F ks p=none:=by
 unfold am aI;rw [hl]
theorem ke{bl bl':List (Nat×KB)}{p:Nat}{sl sl':List (Nat×KD)}{n n':Nat}(hl:ai bl p=ai bl' p):am F ⟨sl,bl,n⟩ p=am F ⟨sl',bl',n'⟩ p:=by
 unfold am aI;simp only [hl]
theorem RCs.set{B:BK}{V:Vl}{c:KC}:∀{cs:List KC} {xs:List C} {j:Nat},RCs B V cs xs->(∀x,xs[j]? =some x->RC B V c x)->RCs B V (cs.set j c) xs
 | [],xs,j,h,_=>h
 |k::cs,xs,0,⟨x,s,e,h1,h2⟩,hc=>⟨x,s,e,hc x (by rw [e];rfl),h2⟩
 |k::cs,xs,j+1,⟨x,s,e,h1,h2⟩,hc=>⟨x,s,e,h1,RCs.set (j:=j) h2 λy hy=>hc y (by rw [e];exact hy)⟩
theorem RCs.get{B:BK}{V:Vl}{c:KC}:∀{cs:List KC} {xs:List C} {j:Nat} {x:C},RCs B V cs xs->cs[j]? =some c->xs[j]? =some x->RC B V c x
 | [],xs,j,x,_,h,_=>by simp at h
 |k::cs,xs,0,x,⟨y,s,e,h1,h2⟩,hc,hx=>by
  subst e;simp only [List.getElem?_cons_zero,zsI]at hc hx;subst hc hx;exact h1
 |k::cs,xs,j+1,x,⟨y,s,e,h1,h2⟩,hc,hx=>by
  subst e;exact RCs.get (j:=j) h2 (by simpa using hc) (by simpa using hx)
theorem zj{b:BR}{κ:KS->Option R}(hr:Rel F ks V f h)(hs:pW F ks b κ=some r):∃ks' V',κ ks'=some r/\Rel F ks' V' f h/\Ext F ks V ks' V':=by
 have triv:κ ks=some r->∃ks' V',κ ks'=some r/\Rel F ks' V' f h/\Ext F ks V ks' V':=λhk=>⟨ks,V,hk,hr,Ext.refl _ _ _⟩;have hlt:∀{p b},ai ks.bl p=some b->b≠ .dead->p<ks.nx:=λ{p b} hl hd=>(hr.bl p b (ah hl hd)).1
 cases b with
 |sl i j=>
  simp only [pW]at hs;split at hs
  rotate_left
  .exact triv hs
  rename_i e p hi;split at hs
  rotate_left
  .exact triv hs
  rename_i e' l hp;have hpn:=hlt hp (by simp);have hBp:am F ks p=some (.mrows e' l):=ah hp (by simp);obtain⟨s1,s2,s3⟩:=hr.sl i _ hi
  have hc:∃c,f i= .one c/\c=moC l (V.id p):=by
   obtain⟨c,h1,h2⟩:=(show∃c',f i= .one c'/\RC (am F ks) V (.m e p) c' from s3);exact⟨c,h1,h2 e' l hBp⟩
  obtain⟨c,hc1,hc2⟩:=hc;by_cases hl0:l.length=0
  .rw [if_pos hl0]at hs;obtain rfl:l= []:=List.eq_nil_of_length_eq_zero hl0
   have hB:∀x,am F {ks with sl:=(i,.one .nil)::ks.sl,bl:=(p,.dead)::ks.bl} x=if x=p then none else am F ks x:=λx=>by
    by_cases hx:x=p
    .rw [if_pos hx];exact iZ (by rw [hx,aj,if_pos rfl])
    .rw [if_neg hx];exact ke (by rw [aj,if_neg hx])
   have hle:LeB ks.nx (am F ks) (am F {ks with sl:=(i,.one .nil)::ks.sl,bl:=(p,.dead)::ks.bl}):=λx hx=>by
    constructor
    .intro e0 ne l' hb;rw [hB]at hb;split at hb
     .cases hb
     .exact⟨e0,ne,l',hb,rfl⟩
    .intro e0 l' hb;rw [hB]at hb;split at hb
     .cases hb
     .exact⟨e0,l',hb,rfl⟩
   refine⟨_,V,hs,⟨λx d hx=> ?_,λx b hb=> ?_,λx y b b' hb hb' t t' e0=> ?_⟩,⟨Nat.le_refl _,Agree.refl _ _,hle,λx hx hn=> ?_⟩⟩
   .by_cases hxi:x=i
    .subst hxi
     have hx':d= .one .nil:=by
      have:dX F {ks with sl:=(x,.one .nil)::ks.sl,bl:=(p,.dead)::ks.bl} x=some (.one .nil):=by unfold dX aI;rw [aj,if_pos rfl]
      rw [this]at hx;exact(Option.some.inj hx).symm
     subst hx';exact⟨s1,trivial,c,hc1,hc2⟩
    .have hx':dX F ks x=some d:=by
      rw [<-hx];unfold dX aI;rw [aj,if_neg hxi]
     obtain⟨g1,g2,g3⟩:=hr.sl x d hx';exact⟨g1,g2,g3.mono g2 hle (Agree.refl _ _)⟩
   .rw [hB]at hb;split at hb
    .cases hb
    .obtain⟨g1,g2,g3⟩:=hr.bl x b hb;exact⟨g1,g2,g3.mono g2 hle (Agree.refl _ _)⟩
   .rw [hB]at hb hb';split at hb
    .cases hb
    .split at hb'
     .cases hb'
     .exact hr.inj x y b b' hb hb' t t' e0
   .have hxp:x≠p:=by rintro rfl;rw [hp]at hn;cases hn
    rw [aj,if_neg hxp];exact hn
  .rw [if_neg hl0]at hs;have hne:l≠[]:=λh=>hl0 (by rw [h];rfl);have hpx:ks.nx≠p:=by omega
   have hB:∀x,am F {ks with sl:=(i,.one (.o e ks.nx))::ks.sl,bl:=(ks.nx,.rows e' true l)::(p,.dead)::ks.bl,nx:=ks.nx+1} x=if x=ks.nx then some (.rows e' true l)else if x=p then none else am F ks x:=λx=>by
    by_cases hx:x=ks.nx
    .rw [if_pos hx];exact ah (by rw [hx,aj,if_pos rfl]) (by simp)
    .rw [if_neg hx];by_cases hx2:x=p
     .rw [if_pos hx2];exact iZ (by rw [hx2,aj,if_neg (Ne.symm hpx),aj,if_pos rfl])
     .rw [if_neg hx2];exact ke (by rw [aj,if_neg hx,aj,if_neg hx2])
   have hle:LeB ks.nx (am F ks) (am F {ks with sl:=(i,.one (.o e ks.nx))::ks.sl,bl:=(ks.nx,.rows e' true l)::(p,.dead)::ks.bl,nx:=ks.nx+1}):=λx hx=>by
    constructor
    .intro e0 ne l' hb;rw [hB,if_neg (by omega)]at hb;split at hb
     .cases hb
     .exact⟨e0,ne,l',hb,rfl⟩
    .intro e0 l' hb;rw [hB,if_neg (by omega)]at hb;split at hb
     .cases hb
     .exact⟨e0,l',hb,rfl⟩
   have hag:Agree ks.nx V {V with id:=λx=>if x=ks.nx then V.id p else V.id x}:=λq hq=>⟨if_neg (by omega),rfl⟩;have hid:∀x,x<ks.nx->(if x=ks.nx then V.id p else V.id x)=V.id x:=λx hx=>if_neg (by omega);have hBk:ao h (V.id p)=some (e'.size,l.map (cK e'.row)):=(hr.bl p _ hBp).2.2 hne;refine⟨_,{V with id:=λx=>if x=ks.nx then V.id p else V.id x},hs,⟨λx d hx=> ?_,λx b hb=> ?_,λx y b b' hb hb' t t' e0=> ?_⟩,⟨Nat.le_succ _,hag,hle,λx hx hn=> ?_⟩⟩
   .by_cases hxi:x=i
    .subst hxi
     have hx':d= .one (.o e ks.nx):=by
      have:dX F {ks with sl:=(x,.one (.o e ks.nx))::ks.sl,bl:=(ks.nx,.rows e' true l)::(p,.dead)::ks.bl,nx:=ks.nx+1} x=some (.one (.o e ks.nx)):=by unfold dX aI;rw [aj,if_pos rfl]
      rw [this]at hx;exact(Option.some.inj hx).symm
     subst hx';refine⟨s1,Nat.lt_succ_self _,c,hc1,λe0 ne l0 hb=> ?_⟩;rw [hB,if_pos rfl]at hb;cases hb;rw [hc2];show moC l (V.id p)= .own (if ks.nx=ks.nx then V.id p else V.id ks.nx) 0 l.length;rw [if_pos rfl]
     cases l with
     |nil=>exact absurd rfl hne
     |cons a t=>rfl
    .have hx':dX F ks x=some d:=by
      rw [<-hx];unfold dX aI;rw [aj,if_neg hxi]
     obtain⟨g1,g2,g3⟩:=hr.sl x d hx';exact⟨g1,g2.mono (Nat.le_succ _),g3.mono g2 hle hag⟩
   .rw [hB]at hb;split at hb
    .rename_i hx;cases hb;refine⟨by subst hx;exact Nat.lt_succ_self _,trivial,?_,λ_=>hne⟩;show ao h (if x=ks.nx then V.id p else V.id x)=_;rw [if_pos hx];exact hBk
    .split at hb
     .cases hb
     .obtain⟨g1,g2,g3⟩:=hr.bl x b hb;refine⟨Nat.lt_succ_of_lt g1,g2.mono (Nat.le_succ _),?_⟩
      have:=g3.mono g2 hle hag
      show RB _ _ h (if x=ks.nx then V.id p else V.id x) b;rw [hid x g1];exact this
   .have old:∀{x b},(if x=ks.nx then some (.rows e' true l)else if x=p then none else am F ks x)=some b->x≠ks.nx->x≠p/\am F ks x=some b:=λ{x b} hb hx=>by
     rw [if_neg hx]at hb;split at hb
     .cases hb
     .rename_i hp';exact⟨hp',hb⟩
    rw [hB]at hb hb';change (if x=ks.nx then V.id p else V.id x)=(if y=ks.nx then V.id p else V.id y)at e0;by_cases hx:x=ks.nx
    .by_cases hy:y=ks.nx
     .rw [hx,hy]
     .obtain⟨y1,y2⟩:=old hb' hy;rw [if_pos hx,if_neg hy]at e0;exact absurd (hr.inj p y _ _ hBp y2 hne t' e0).symm y1
    .obtain⟨x1,x2⟩:=old hb hx;by_cases hy:y=ks.nx
     .rw [if_neg hx,if_pos hy]at e0;exact absurd (hr.inj x p _ _ x2 hBp t hne e0) x1
     .obtain⟨y1,y2⟩:=old hb' hy;rw [if_neg hx,if_neg hy]at e0;exact hr.inj x y _ _ x2 y2 t t' e0
   .have hxp:x≠p:=by rintro rfl;rw [hp]at hn;cases hn
    have hxn:ks.nx≠x:=by omega
    rw [aj,if_neg (Ne.symm hxn),aj,if_neg hxp];exact hn
 |bx i j=>
  simp only [pW]at hs;split at hs
  rotate_left
  .exact triv hs
  rename_i q hi;split at hs
  rotate_left
  .exact triv hs
  rename_i cs hq;split at hs
  rotate_left
  .exact triv hs
  rename_i e p hj;split at hs
  rotate_left
  .exact triv hs
  rename_i e' l hp;have hpn:=hlt hp (by simp);have hqn:=hlt hq (by simp);have hBp:am F ks p=some (.mrows e' l):=ah hp (by simp);have hBq:am F ks q=some (.box cs):=ah hq (by simp);have hqp:q≠p:=by rintro rfl;rw [hq]at hp;cases hp
  obtain⟨q1,q2,sz,xs,q3,q4⟩:=hr.bl q _ hBq;by_cases hl0:l.length=0
  .rw [if_pos hl0]at hs;obtain rfl:l= []:=List.eq_nil_of_length_eq_zero hl0
   have hB:∀x,am F {ks with bl:=(q,.box (cs.set j .nil))::(p,.dead)::ks.bl} x=if x=q then some (.box (cs.set j .nil))else if x=p then none else am F ks x:=λx=>by
    by_cases hx:x=q
    .rw [if_pos hx];exact ah (by rw [hx,aj,if_pos rfl]) (by simp)
    .rw [if_neg hx];by_cases hx2:x=p
     .rw [if_pos hx2];exact iZ (by rw [hx2,aj,if_neg (Ne.symm hqp),aj,if_pos rfl])
     .rw [if_neg hx2];exact ke (by rw [aj,if_neg hx,aj,if_neg hx2])
   have hle:LeB ks.nx (am F ks) (am F {ks with bl:=(q,.box (cs.set j .nil))::(p,.dead)::ks.bl}):=λx hx=>by
    constructor
    .intro e0 ne l' hb;rw [hB]at hb;split at hb
     .cases hb
     .split at hb
      .cases hb
      .exact⟨e0,ne,l',hb,rfl⟩
    .intro e0 l' hb;rw [hB]at hb;split at hb
     .cases hb
     .split at hb
      .cases hb
      .exact⟨e0,l',hb,rfl⟩
   refine⟨_,V,hs,⟨λx d hx=> ?_,λx b hb=> ?_,λx y b b' hb hb' t t' e0=> ?_⟩,⟨Nat.le_refl _,Agree.refl _ _,hle,λx hx hn=> ?_⟩⟩
   .obtain⟨g1,g2,g3⟩:=hr.sl x d hx;exact⟨g1,g2,g3.mono g2 hle (Agree.refl _ _)⟩
   .rw [hB]at hb;split at hb
    .rename_i hx;cases hb;subst hx;refine⟨q1,λc hc=> ?_,sz,xs,q3,RCs.set (q4.mono q2 hle (Agree.refl _ _)) λx hx=> ?_⟩
     .rcases List.mem_or_eq_of_mem_set hc with hc|rfl
      .exact q2 c hc
      .trivial
     .exact RCs.get q4 hj hx e' [] hBp
    .split at hb
     .cases hb
     .obtain⟨g1,g2,g3⟩:=hr.bl x b hb;exact⟨g1,g2,g3.mono g2 hle (Agree.refl _ _)⟩
   .have old:∀{x b},(if x=q then some (.box (cs.set j .nil))else if x=p then none else am F ks x)=some b->∃b0,am F ks x=some b0/\(b.there->b0.there):=λ{x b} hb=>by
     split at hb
     .rename_i hx;subst hx;exact⟨_,hBq,λ_=>trivial⟩
     .split at hb
      .cases hb
      .exact⟨b,hb,id⟩
    rw [hB]at hb hb';obtain⟨b0,g1,g2⟩:=old hb;obtain⟨b1,g3,g4⟩:=old hb';exact hr.inj x y b0 b1 g1 g3 (g2 t) (g4 t') e0
   .have hxp:x≠p:=by rintro rfl;rw [hp]at hn;cases hn
    have hxq:x≠q:=by rintro rfl;rw [hq]at hn;cases hn
    rw [aj,if_neg hxq,aj,if_neg hxp];exact hn
  .rw [if_neg hl0]at hs;have hne:l≠[]:=λh=>hl0 (by rw [h];rfl);have hpx:ks.nx≠p:=by omega
   have hqx:ks.nx≠q:=by omega
   have hB:∀x,am F {ks with bl:=(q,.box (cs.set j (.o e ks.nx)))::(ks.nx,.rows e' true l)::(p,.dead)::ks.bl,nx:=ks.nx+1} x=if x=q then some (.box (cs.set j (.o e ks.nx)))else if x=ks.nx then some (.rows e' true l)else if x=p then none else am F ks x:=λx=>by
    by_cases hx0:x=q
    .rw [if_pos hx0];exact ah (by rw [hx0,aj,if_pos rfl]) (by simp)
    rw [if_neg hx0];by_cases hx:x=ks.nx
    .rw [if_pos hx];exact ah (by rw [hx,aj,if_neg hqx,aj,if_pos rfl]) (by simp)
    .rw [if_neg hx];by_cases hx2:x=p
     .rw [if_pos hx2];exact iZ (by rw [hx2,aj,if_neg (Ne.symm hqp),aj,if_neg (Ne.symm hpx),aj,if_pos rfl])
     .rw [if_neg hx2];exact ke (by rw [aj,if_neg hx0,aj,if_neg hx,aj,if_neg hx2])
   have hle:LeB ks.nx (am F ks) (am F {ks with bl:=(q,.box (cs.set j (.o e ks.nx)))::(ks.nx,.rows e' true l)::(p,.dead)::ks.bl,nx:=ks.nx+1}):=λx hx=>by
    constructor
    .intro e0 ne l' hb;rw [hB]at hb;split at hb
     .cases hb
     .rw [if_neg (by omega)]at hb;split at hb
      .cases hb
      .exact⟨e0,ne,l',hb,rfl⟩
    .intro e0 l' hb;rw [hB]at hb;split at hb
     .cases hb
     .rw [if_neg (by omega)]at hb;split at hb
      .cases hb
      .exact⟨e0,l',hb,rfl⟩
   have hag:Agree ks.nx V {V with id:=λx=>if x=ks.nx then V.id p else V.id x}:=λq hq=>⟨if_neg (by omega),rfl⟩;have hid:∀x,x<ks.nx->(if x=ks.nx then V.id p else V.id x)=V.id x:=λx hx=>if_neg (by omega);have hBk:ao h (V.id p)=some (e'.size,l.map (cK e'.row)):=(hr.bl p _ hBp).2.2 hne;refine⟨_,{V with id:=λx=>if x=ks.nx then V.id p else V.id x},hs,⟨λx d hx=> ?_,λx b hb=> ?_,λx y b b' hb hb' t t' e0=> ?_⟩,⟨Nat.le_succ _,hag,hle,λx hx hn=> ?_⟩⟩
   .obtain⟨g1,g2,g3⟩:=hr.sl x d hx;exact⟨g1,g2.mono (Nat.le_succ _),g3.mono g2 hle hag⟩
   .rw [hB]at hb;split at hb
    .rename_i hx;cases hb;subst hx;refine⟨Nat.lt_succ_of_lt q1,λc hc=> ?_,sz,xs,?_,RCs.set (q4.mono q2 hle hag) λx hx=> ?_⟩
     .rcases List.mem_or_eq_of_mem_set hc with hc|rfl
      .exact(q2 c hc).mono (Nat.le_succ _)
      .exact Nat.lt_succ_self _
     .show ao h (if x=ks.nx then V.id p else V.id x)=_;rw [hid x q1];exact q3
     .have h0:=RCs.get q4 hj hx e' l hBp;intro e0 ne l0 hb;rw [hB,if_neg hqx,if_pos rfl]at hb;cases hb;rw [h0];show moC l (V.id p)= .own (if ks.nx=ks.nx then V.id p else V.id ks.nx) 0 l.length;rw [if_pos rfl]
      cases l with
      |nil=>exact absurd rfl hne
      |cons a t=>rfl
    .split at hb
     .rename_i hx;cases hb;refine⟨by subst hx;exact Nat.lt_succ_self _,trivial,?_,λ_=>hne⟩;show ao h (if x=ks.nx then V.id p else V.id x)=_;rw [if_pos hx];exact hBk
     .split at hb
      .cases hb
      .obtain⟨g1,g2,g3⟩:=hr.bl x b hb;refine⟨Nat.lt_succ_of_lt g1,g2.mono (Nat.le_succ _),?_⟩
       have:=g3.mono g2 hle hag
       show RB _ _ h (if x=ks.nx then V.id p else V.id x) b;rw [hid x g1];exact this
   .have old:∀{x b},(if x=q then some (.box (cs.set j (.o e ks.nx)))else if x=ks.nx then some (.rows e' true l)else if x=p then none else am F ks x)=some b->x≠ks.nx->x≠p/\∃b0,am F ks x=some b0/\(b.there->b0.there):=λ{x b} hb hx=>by
     by_cases hx0:x=q
     .subst hx0;exact⟨hqp,_,hBq,λ_=>trivial⟩
     .rw [if_neg hx0,if_neg hx]at hb;split at hb
      .cases hb
      .rename_i hp';exact⟨hp',b,hb,id⟩
    rw [hB]at hb hb';change (if x=ks.nx then V.id p else V.id x)=(if y=ks.nx then V.id p else V.id y)at e0;by_cases hx:x=ks.nx
    .by_cases hy:y=ks.nx
     .rw [hx,hy]
     .obtain⟨y1,b1,y2,y3⟩:=old hb' hy;rw [if_pos hx,if_neg hy]at e0;exact absurd (hr.inj p y _ _ hBp y2 hne (y3 t') e0).symm y1
    .obtain⟨x1,b0,x2,x3⟩:=old hb hx;by_cases hy:y=ks.nx
     .rw [if_neg hx,if_pos hy]at e0;exact absurd (hr.inj x p _ _ x2 hBp (x3 t) hne e0) x1
     .obtain⟨y1,b1,y2,y3⟩:=old hb' hy;rw [if_neg hx,if_neg hy]at e0;exact hr.inj x y _ _ x2 y2 (x3 t) (y3 t') e0
   .have hxp:x≠p:=by rintro rfl;rw [hp]at hn;cases hn
    have hxq:x≠q:=by rintro rfl;rw [hq]at hn;cases hn
    have hxn:ks.nx≠x:=by omega
    rw [aj,if_neg hxq,aj,if_neg (Ne.symm hxn),aj,if_neg hxp];exact hn
theorem ur{κ:KS->Option R}:∀(bs:List BR) {ks:KS} {V:Vl},Rel F ks V f h->rz F κ bs ks=some r->∃ks' V',κ ks'=some r/\Rel F ks' V' f h/\Ext F ks V ks' V'
 | [],ks,V,hr,hs=>⟨ks,V,hs,hr,Ext.refl _ _ _⟩
 |b::bs,ks,V,hr,hs=>by
  obtain⟨ks1,V1,h1,h2,h3⟩:=zj (κ:=λks=>rz F κ bs ks) hr hs;obtain⟨ks2,V2,g1,g2,g3⟩:=ur bs h2 h1;exact⟨ks2,V2,g1,g2,h3.trans g3⟩
end
end K
end Ev
end
noncomputable section
namespace Ev
namespace K
open Go Go.RowKit
section
variable {E : Env} {y : Nat → dC} {n : Nat} {G : KG} {D0 : Nat}
section loop
variable {F : KF} {ks : KS} {V : Vl} {f : Nat → D} {h : ak} {a : xv} {cs : List KC} {x0 : bX a.head.sh} {ks2 : KS} {V1 V2 : Vl} {f2 : Nat → D} {x1 : bX a.head.sh}
theorem mb{F:KF}{ks:KS}:∀{bs:List (Nat×List Sh)} {p:Nat},p∈jD F ks bs->∃v∈bs,cA F ks v.1=some p
 | [],p,h=>by simp [jD]at h
 |v::r,p,h=>by
  unfold jD at h;split at h
  .rename_i q hq;rcases List.mem_cons.1 h with rfl|h
   .exact⟨v,by simp,hq⟩
   .obtain⟨w,h1,h2⟩:=mb h;exact⟨w,by simp [h1],h2⟩
  .obtain⟨w,h1,h2⟩:=mb h;exact⟨w,by simp [h1],h2⟩
theorem rY(hr:Rel F ks V f h)(hok:ey F ks=true)(hcs:cW F ks a.head=some cs)(hrd:RdCs ks a.head.sh cs x0)(ha1:Agree ks.nx V V1)(hl1:LeB ks.nx (am F ks) (am (aq F ks a cs) (aX F ks a.head x1))){s:St}(hst:s.t=tab F.nt f2)(hr2:Rel (aq F ks a cs) ks2 V2 f2 s.h)(hok2:ey (aq F ks a cs) ks2=true)(hext:Ext (aq F ks a cs) (aX F ks a.head x1) V1 ks2 V2){e:Ex}:∀{l:List (Ex×Pt)} {R:Type} {r:R} {κ:XT l->Option R},(∀x∈l,kt F ks (aq F ks a cs) x.2=true)->nq (aq F ks a cs) ks2 e l κ=some r->∃v,κ v=some r/\JX F ks V a.keep (bY F ks a cs) l v e s
 | [],R,r,κ,hb,hs=>by simp [nq]at hs
 |x::l,R,r,κ,hb,hs=>by
  unfold nq at hs
  cases hx:np e x.1 with
  |false=>
   rw [hx]at hs;obtain⟨v,h1,h2⟩:=rY hr hok hcs hrd ha1 hl1 hst hr2 hok2 hext (λz hz=>hb z (by simp [hz])) hs;exact⟨.inr v,h1,h2⟩
  |true=>
   rw [hx]at hs;obtain⟨cs2,v,g1,g2,g3,g4⟩:=iY hr2 hs;have hbs:=hb x (by simp)
   have hkb:∀p,aI (rx F ks a.keep (bY F ks a cs) x.2 v).bl F.bl p=ai ((aX F ks x.2 v).bl++((bY F ks a cs).map (λp=>(p,KB.dead))++(ks.bl++F.bl))) p:=λp=>by
    rw [<-aN];show ai ((aX F ks x.2 v).bl++((bY F ks a cs).map (λp=>(p,KB.dead))++ks.bl)++F.bl) p=_;rw [List.append_assoc,List.append_assoc]
   obtain⟨V3,hr3,ha3,hl3⟩:=Al (Fb:=F) (kb:=rx F ks a.keep (bY F ks a cs) x.2 v) hr hok hcs hr2 hok2 hext hbs g1 g2 g3 rfl rfl (λi d hd=>by
    have hd':aI (fg x.2.vs ((aA x.2.sh v ks.nx).map (·.1))++kH F ks a.keep) F.sl i=some d:=hd;rw [<-aN,List.append_assoc,aN]at hd';unfold aI at hd'
    cases hl:ai (fg x.2.vs ((aA x.2.sh v ks.nx).map (·.1))) i with
    |some d'=>rw [hl]at hd';cases hd';exact .inl rfl
    |none=>rw [hl]at hd';exact .inr hd') hkb
   have hnx1:ks.nx<=(aX F ks a.head x1).nx:=by show ks.nx<=ks.nx+_;omega
   refine⟨.inl v,g4,Ak hx,V3,f2,hst,hr3,⟨by show ks.nx<=ks.nx+_;omega,?_,?_,?_⟩⟩
   .exact(ha1.trans hext.agree hnx1).trans ha3 (Nat.le_refl _)
   .exact(hl1.trans hext.le hnx1).trans hl3 (Nat.le_refl _)
   .intro p hp hl;have h2:=Jc hcs hrd hext hp hl;show ai ((aX F ks x.2 v).bl++((bY F ks a cs).map (λp=>(p,KB.dead))++ks.bl)) p=none;obtain⟨ca,cb,cw,_,hcb2,_,_⟩:=dB g1
    have e1:ai (aX F ks x.2 v).bl p=none:=by
     refine jG (λw hw he=> ?_) (λw hw he=> ?_) hp
     .obtain⟨q,c,j1,j2⟩:=gv hcb2 w hw;rw [uj hok hok2 hbs w hw,he]at j1;cases j1;rw [h2]at j2;simp at j2
     .obtain⟨q,j1,j2⟩:=um hr hok2 hcs hext hbs w hw;rw [he]at j2;cases j2;obtain⟨q,k1,k2⟩:=lY g1 hw;rw [j1]at k1;cases k1;obtain⟨b,k3,_⟩:=nB g3 k2;rw [h2]at k3;simp at k3
    rw [aN];unfold aI;rw [e1];simp only [aN];unfold aI;rcases oz (l:=bY F ks a cs) (p:=p)with⟨h1,h2⟩|⟨h1,h2⟩
    .rw [h1];exact hl
    .exfalso;rcases List.mem_append.1 h2 with h2|h2
     .obtain⟨b',k1,_⟩:=nB hrd h2;rw [hl]at k1;simp at k1
     .obtain⟨w,hw,hpw⟩:=mb h2;obtain⟨ca,cb,cw,_,hcb,_,_⟩:=dB hcs;obtain⟨p'',c'',j1,j2⟩:=gv hcb w hw;rw [hpw]at j1;cases j1;rw [hl]at j2;simp at j2
end loop
theorem xO(hG:GOk G E D0)(hD:D0<=n){A:Gu}{call:tR}(hcall:zc E n call):∀(c:Code) (R:Type) (F:KF) (ks:KS) (κ:Ex->KS->Option R) (r:R) (V:Vl) (f:Nat->D) (h:ak),dO G A call c R F ks κ=some r->Rel F ks V f h->WpC E y n c (PostC F ks V κ r) {t:=tab F.nt f,h:=h}:=by
 intro c
 induction c with
 |skip=>intro R F ks κ r V f h hs hr;exact Dt ⟨ks,V,f,rfl,hr,hs,Ext.refl _ _ _⟩
 |region id ops draw=>
  intro R F ks κ r V f h hs hr;obtain⟨l⟩:=ops
  cases draw with
  |false=>
   have hs':sL G call F (Array.toList ⟨l⟩) (κ .normal) l ks=some r:=hs;exact DN (nA (ops:=⟨l⟩) hG hD hcall l hs' hr)
  |true=>
   have hs':cond (dn ⟨l⟩) (match ai A.tn id with
    |none=>jB G F l (κ .normal) l ks
    |some T=>rz F (λks=>match yR F ks T.old with
     |some O=>cond (jf ⟨l⟩ T.new && djB O (dQ ⟨l⟩) O && vJ ks O) (oZ G F l (dQ ⟨l⟩) O T.new ks (κ .normal) 0 [] l ks) none
     |none=>none) T.old.flatten ks) (match jm ⟨l⟩with
    |some m=>cond (iQ ⟨l⟩) (jB G F l (sL G call F l (κ .normal) (l.drop m)) (l.take m) ks) none
    |none=>none)=some r:=hs
   cases hq:dn ⟨l⟩with
   |true=>
    rw [hq]at hs';simp only [cond_true]at hs';split at hs'
    .exact yF l.length rfl hq λh' h1 h2=>jY (ops:=⟨l⟩) (κ:=κ .normal) hG hD l 0 hs' (hr.heap h2)
    .rename_i T hT;obtain⟨ks1,V1,hs1,hr1,hx1⟩:=ur _ hr hs';clear hs';rename_i hs0;split at hs1
     .rename_i O hO
      cases hc:(jf ⟨l⟩ T.new && djB O (dQ ⟨l⟩) O && vJ ks1 O)with
      |false=>rw [hc]at hs1;simp at hs1
      |true=>
       rw [hc]at hs1;simp only [Bool.and_eq_true]at hc;exact(Cd hG hD hq hc.1.1 hc.1.2 hc.2 hs1 hr1).mono λe s ⟨ks',V',f',a1,a2,a3,a4⟩=>⟨ks',V',f',a1,a2,a3,hx1.trans a4⟩
     .simp at hs1
   |false=>
    rw [hq]at hs';simp only [cond_false]at hs';split at hs'
    .rename_i m hc
     cases hp:iQ ⟨l⟩with
     |false=>rw [hp]at hs';simp at hs'
     |true=>
      rw [hp]at hs';have hr':Rel F ks V f (h++List.replicate (Array.mk l).size .no):=hr.heap λk=>lH _ _ _;refine EL m hc hp (xK (jY (ops:=⟨l⟩) (b:=h.length) (κ:=sL G call F l (κ .normal) (l.drop m)) hG hD (l.take m) 0 hs' hr') λt ht=> ?_);obtain⟨ks',V',f',h1,h2,h3,h4⟩:=ht;simp only at h1 h2;subst h1;exact jX (nA (ops:=⟨l⟩) hG hD hcall (l.drop m) h3 h2) λs hs=>Post.ext h4 hs
    .simp at hs'
 |seq a b iha ihb=>
  intro R F ks κ r V f h hs hr
  have hs':(match A.lp.find? λz=>z.join &&(some z.key==dA a && Nat.beq z.sz (nr a))with
   |none=>dO G A call a R F ks λe ks=>match e with
    | .normal=>dO G A call b R F ks κ
    |e=>κ e ks
   |some z=>match cW F ks z.head,ey F ks with
    |some cs,true=>cond (kt F ks (aq F ks z cs) z.head && z.exs.all λx=>kt F ks (aq F ks z cs) x.2) (nm F ks z.head λx0=>
     (dO G A call a (XT z.exs) (aq F ks z cs) (aX F ks z.head x0) λe ks2=>cond (ey (aq F ks z cs) ks2) (nq (aq F ks z cs) ks2 e z.exs some) none).bind λy=>afterX F ks z.keep (bY F ks z cs) z.exs y λe ks=>match e with
      | .normal=>dO G A call b R F ks κ
      |e=>κ e ks) none
    |_,_=>none)=some r:=hs
  have key:∀e s,PostC F ks V (λe ks=>match e with
    | .normal=>dO G A call b R F ks κ
    |e=>κ e ks) r e s->GT (WpC E y n b (PostC F ks V κ r)) (PostC F ks V κ r) e s:=by
   intro e s hp;obtain⟨ks',V',f',h1,h2,h3,h4⟩:=hp;obtain⟨t,hh⟩:=s;simp only at h1 h2;subst h1
   cases e with
   |normal=>exact(ihb R F ks' κ r V' f' hh h3 h2).mono λe s hp=>hp.ext h4
   |ret=>exact⟨ks',V',f',rfl,h2,h3,h4⟩
   |exit id=>exact⟨ks',V',f',rfl,h2,h3,h4⟩
  split at hs'
  .exact zN ((iha R F ks _ r V f h hs' hr).mono key)
  .rename_i z hz;split at hs'
   .rename_i cs hcs hok
    cases hbs:(kt F ks (aq F ks z cs) z.head && z.exs.all λx=>kt F ks (aq F ks z cs) x.2)with
    |false=>rw [hbs]at hs';simp at hs'
    |true=>
     rw [hbs]at hs';rw [Bool.and_eq_true]at hbs;obtain⟨hbs0,hbsx⟩:=hbs;obtain⟨cs',x0,g1,g2,g3,g4⟩:=iY hr hs';rw [hcs]at g1;cases g1;rw [zbE]at g4;obtain⟨out,g4,g5⟩:=g4;obtain⟨V1,hr1,ha1,hl1⟩:=pS hr hok hcs g2 g3;refine zN ((iha _ (aq F ks z cs) (aX F ks z.head x0) _ out V1 f h g4 hr1).mono λe s hp=>key e s ?_);obtain⟨ks2,V2,f2,t1,r2,k1,ext⟩:=hp;dsimp only at k1
     cases hok2:ey (aq F ks z cs) ks2 with
     |false=>rw [hok2]at k1;simp at k1
     |true=>
      rw [hok2]at k1;obtain⟨v,j1,j2⟩:=rY hr hok hcs g3 ha1 hl1 t1 r2 hok2 ext (λw hw=>List.all_eq_true.1 hbsx w hw) k1;cases j1;exact oA g5 j2
   .simp at hs'
 |cond c a b iha ihb=>
  intro R F ks κ r V f h hs hr
  have hs':(match kO F ks c with
   |some (.one c)=>kIf c ks λt ks=>cond t (dO G A call a R F ks κ) (dO G A call b R F ks κ)
   |_=>none)=some r:=hs
  split at hs'
  .rename_i c0 hc;obtain⟨d,d1,d2,c',rfl,d3⟩:=aT hr hc;obtain⟨t,ks',g1,rfl,g3,g4⟩:=Ja hr d3 hs';have e1:opnd (tab F.nt f) c=some (.one (bC t)):=(bm F.nt f c).trans d1;refine Dv e1 rfl ?_
   cases t with
   |true=>exact(iha R F ks' κ r V f h g1 g3).mono λe s hp=>hp.ext g4
   |false=>exact(ihb R F ks' κ r V f h g1 g3).mono λe s hp=>hp.ext g4
  .simp at hs'
 |block id b ih=>
  intro R F ks κ r V f h hs hr;have hs':dO G A call b R F ks (λe ks=>κ (cond (np e (.exit id)) .normal e) ks)=some r:=hs;refine BD ((ih R F ks _ r V f h hs' hr).mono λe s hp=> ?_);obtain⟨ks',V',f',h1,h2,h3,h4⟩:=hp;refine⟨ks',V',f',h1,h2,?_,h4⟩;rw [<-h3]
  have:(if e= .exit id then Ex.normal else e)=cond (np e (.exit id)) .normal e:=by
   cases hx:np e (.exit id)with
   |true=>rw [if_pos (Ak hx)];rfl
   |false=>rw [if_neg (λhe=>by subst he;simp [np]at hx)];rfl
  rw [this]
 |loop b ih=>
  intro R F ks κ r V f h hs hr
  have hs':(match A.lp.find? λa=> !a.join && some a.key==dA b with
   |none=>none
   |some a=>match cW F ks a.head,ey F ks with
    |some cs,true=>cond (kt F ks (aq F ks a cs) a.head && a.exs.all λx=>kt F ks (aq F ks a cs) x.2 && !np x.1 .normal) (nm F ks a.head λx0=>
     (bI (λx=>dO G A call b (bX a.head.sh ⊕ XT a.exs) (aq F ks a cs) (aX F ks a.head x) λe ks2=>cond (ey (aq F ks a cs) ks2) (match e with
      | .normal=>nm (aq F ks a cs) ks2 a.head λy=>some (.inl y)
      |e=>nq (aq F ks a cs) ks2 e a.exs λy=>some (.inr y)) none) x0).bind λy=>afterX F ks a.keep (bY F ks a cs) a.exs y κ) none
    |_,_=>none)=some r:=hs
  split at hs'
  .simp at hs'
  .rename_i a ha;split at hs'
   .rename_i cs hcs hok
    cases hbs:(kt F ks (aq F ks a cs) a.head && a.exs.all λx=>kt F ks (aq F ks a cs) x.2 && !np x.1 .normal)with
    |false=>rw [hbs]at hs';simp at hs'
    |true=>
     rw [hbs]at hs';rw [Bool.and_eq_true]at hbs;obtain⟨hbs0,hbsx⟩:=hbs;obtain⟨cs',x0,g1,g2,g3,g4⟩:=iY hr hs';rw [hcs]at g1;cases g1;rw [zbE]at g4;obtain⟨out,g4,g5⟩:=g4;obtain⟨V1,hr1,ha1,hl1⟩:=pS hr hok hcs g2 g3;refine WpC.mono (BM _ (λx s=>∃V1 f1,s.t=tab F.nt f1/\Rel (aq F ks a cs) (aX F ks a.head x) V1 f1 s.h/\Agree ks.nx V V1/\LeB ks.nx (am F ks) (am (aq F ks a cs) (aX F ks a.head x))) (λo e s=>JX F ks V a.keep (bY F ks a cs) a.exs o e s) (λr s=>Iz (λz hz=>by have:=List.all_eq_true.1 hbsx z hz;rw [Bool.and_eq_true]at this;simpa using this.2) r s) ?_ x0 out _ g4 ⟨V1,f,rfl,hr1,ha1,hl1⟩) λe s hj=>oA g5 hj;intro x o s hb hI;obtain⟨W1,f1,e1,r1,a1,l1⟩:=hI;obtain⟨t,hh⟩:=s;simp only at e1 r1;subst e1;refine(ih _ (aq F ks a cs) (aX F ks a.head x) _ o W1 f1 hh hb r1).mono λe s hp=> ?_;obtain⟨ks2,V2,f2,t1,r2,k1,ext⟩:=hp;dsimp only at k1
     cases hok2:ey (aq F ks a cs) ks2 with
     |false=>rw [hok2]at k1;simp at k1
     |true=>
      rw [hok2]at k1;simp only [cond_true]at k1
      have hx:e≠ .normal->nq (aq F ks a cs) ks2 e a.exs (λy=>some (.inr y))=some o->∃v,o= .inr v/\JX F ks V a.keep (bY F ks a cs) a.exs v e s:=by
       intro hne hk;obtain⟨v,j1,j2⟩:=rY hr hok hcs g3 a1 l1 t1 r2 hok2 ext (λz hz=>by have:=List.all_eq_true.1 hbsx z hz;rw [Bool.and_eq_true]at this;exact this.1) hk;exact⟨v,(Option.some.inj j1).symm,j2⟩
      cases e with
      |normal=>
       obtain⟨cs2,v,w1,w2,w3,w4⟩:=iY r2 k1;cases w4
       obtain⟨V3,hr3,ha3,hl3⟩:=Al (Fb:=aq F ks a cs) (kb:=aX F ks a.head v) hr hok hcs r2 hok2 ext hbs0 w1 w2 w3 rfl rfl (λi d hd=>by
        have hd':aI (fg a.head.vs ((aA a.head.sh v ks.nx).map (·.1))) (aq F ks a cs).sl i=some d:=hd;unfold aI at hd'
        cases hl:ai (fg a.head.vs ((aA a.head.sh v ks.nx).map (·.1))) i with
        |some d'=>rw [hl]at hd';cases hd';exact .inl rfl
        |none=>rw [hl]at hd';exact .inr hd') (λp=>(aN _ _ p).symm)
       exact⟨rfl,V3,f2,t1,hr3,(a1.trans ext.agree (by show ks.nx<=ks.nx+_;omega)).trans ha3 (Nat.le_refl _),(l1.trans ext.le (by show ks.nx<=ks.nx+_;omega)).trans hl3 (Nat.le_refl _)⟩
      |ret=>obtain⟨v,rfl,j⟩:=hx (by simp) k1;exact j
      |exit id=>obtain⟨v,rfl,j⟩:=hx (by simp) k1;exact j
   .simp at hs'
 |exit id=>intro R F ks κ r V f h hs hr;exact Du ⟨ks,V,f,rfl,hr,hs,Ext.refl _ _ _⟩
 |ret=>intro R F ks κ r V f h hs hr;exact FZ ⟨ks,V,f,rfl,hr,hs,Ext.refl _ _ _⟩
 |label l=>intro R F ks κ r V f h hs hr;exact Bz ⟨ks,V,f,rfl,hr,hs,Ext.refl _ _ _⟩
 |scope b ih=>
  intro R F ks κ r V f h hs hr;exact BC (ih R F ks κ r V f h hs hr)
 |_=>intro R F ks κ r V f h hs hr;simp [dO]at hs
end
end K
end Ev
end
end Go.Proofs.Ytkmbihigeeclbaa
