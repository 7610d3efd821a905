/- Texts of a claim, joined. -/
import Derived.Test.YtoamaaicfjkmhaaGreatZCU7
set_option linter.unusedVariables false
set_option linter.unusedSimpArgs false
namespace Go.Proofs.YtoamaaicfjkmhaaGreat
noncomputable section
namespace Ev
namespace K
open Go Go.RowKit
theorem aQ{α:Type}:∀(l m:List (Nat×α)) (i:Nat),ak (l++m) i=aO l m i
 | [],m,i=>rfl
 |x::l,m,i=>by
  have:=aQ l m i
  unfold aO at this ⊢;rw [show x::l++m=(x.1,x.2)::(l++m)from rfl,show x::l=(x.1,x.2)::l from rfl,al,al];split
  .rfl
  .exact this
theorem qD{l:List Nat}{p:Nat}:ak (l.map λp=>(p,KB.dead)) p=none/\p ∉ l∨ak (l.map λp=>(p,KB.dead)) p=some .dead/\p∈l:=by
 induction l with
 |nil=>exact .inl ⟨rfl,by simp⟩
 |cons a l ih=>
  rw [List.map_cons,al];by_cases h:p=a
  .subst h;exact .inr ⟨by rw [if_pos rfl],by simp⟩
  .rw [if_neg h];rcases ih with⟨h1,h2⟩|⟨h1,h2⟩
   .exact .inl ⟨h1,by simp [h,h2]⟩
   .exact .inr ⟨h1,by simp [h2]⟩
theorem nD{q0:Nat}:∀{hs:List Sh} {x:cj hs} {q p:Nat} {b:KB},(p,b)∈(aG hs x q).flatMap (·.2)->ak ((aG hs x q).flatMap (·.2)) p=some b/\q<=p/\b≠ .dead
 | [],x,q,p,b,h=>by simp [aG]at h
 | [s],x,q,p,b,h=>by
  have h1:(p,b)∈(bm q s x).2:=by simpa [aG]using h
  obtain⟨rfl,h2⟩:=hZ h1;have h3:(aG [s] x p).flatMap (·.2)= [(p,b)]:=by simpa [aG]using h2
  rw [h3,al,if_pos rfl];refine⟨rfl,Nat.le_refl _,?_⟩
  cases s with
  |d fr t=>cases t<;>simp [bm]at h2
  |o e=>simp only [bm,List.cons.injEq,Prod.mk.injEq,true_and,and_true]at h2;subst h2;simp
  |m e=>simp only [bm,List.cons.injEq,Prod.mk.injEq,true_and,and_true]at h2;subst h2;simp
  |w e=>simp [bm]at h2
 |s::s'::r,x,q,p,b,h=>by
  have e1:(aG (s::s'::r) x q).flatMap (·.2)=(bm q s x.1).2++(aG (s'::r) x.2 (q+1)).flatMap (·.2):=by simp [aG]
  rw [e1]at h ⊢;rw [aQ];unfold aO;rcases List.mem_append.1 h with h|h
  .obtain⟨rfl,h2⟩:=hZ h;rw [h2,al,if_pos rfl];refine⟨rfl,Nat.le_refl _,?_⟩
   cases s with
   |d fr t=>cases t<;>simp [bm]at h2
   |o e=>simp only [bm,List.cons.injEq,Prod.mk.injEq,true_and,and_true]at h2;subst h2;simp
   |m e=>simp only [bm,List.cons.injEq,Prod.mk.injEq,true_and,and_true]at h2;subst h2;simp
   |w e=>simp [bm]at h2
  .obtain⟨g1,g2,g3⟩:=nD (q0:=q0) h
   have:ak (bm q s x.1).2 p=none:=by
    cases hl:ak (bm q s x.1).2 p with
    |none=>rfl
    |some b'=>obtain⟨h3,_⟩:=hZ (gh hl);omega
   rw [this];exact⟨g1,by omega,g3⟩
theorem Dy{hs:List Sh}{x:cj hs}{q p:Nat}(hp:p<q):ak ((aG hs x q).flatMap (·.2)) p=none:=by
 cases hl:ak ((aG hs x q).flatMap (·.2)) p with
 |none=>rfl
 |some b=>have:=(nD (q0:=0) (gh hl)).2.1;omega
theorem LS{ks:KS}{h:Sh}{c:KC}{x:h.T}{p:Nat}(hrd:RdC ks h c x)(ho:eM c=some p):∃b,ak ks.bl p=some b/\b≠ .dead:=by
 cases h with
 |d fr t=>
  obtain⟨_,h2⟩:=hrd;cases c<;>simp [eM]at ho
  .subst ho;cases t<;>simp [jy,noB]at h2
  .subst ho;cases t<;>simp [jy,noB]at h2
 |o e=>obtain⟨e',q,ne,rfl,h2⟩:=hrd;simp [eM]at ho;subst ho;exact⟨_,h2,by simp⟩
 |w e=>obtain⟨e',q,ne,rfl,h2⟩:=hrd;simp [eM]at ho;subst ho;exact⟨_,h2,by simp⟩
 |m e=>
  rcases hrd with⟨rfl,h2⟩|⟨e',q,rfl,h2⟩|⟨e',q,ne,rfl,h2,h3⟩
  .simp [eM]at ho
  .simp [eM]at ho;subst ho;exact⟨_,h2,by simp⟩
  .simp [eM]at ho;subst ho;exact⟨_,h2,by simp⟩
theorem uR:∀{cs:List KC} {p:Nat},p∈bp cs->∃(j:Nat) (c:KC),cs[j]? =some c/\eM c=some p
 | [],p,h=>by simp [bp]at h
 |a::cs,p,h=>by
  by_cases ha:eM a=some p
  .exact⟨0,a,rfl,ha⟩
  .have:p∈bp cs:=by
    cases a<;>simp [bp]at h<;>first|exact h|(rcases h with h|h;exact absurd (by simp [eM,h]) ha;exact h)
   obtain⟨j,c,h1,h2⟩:=uR this;exact⟨j+1,c,by simpa using h1,h2⟩
theorem BF{ks:KS}:∀{hs:List Sh} {cs:List KC} {x:cj hs} {j:Nat} {c:KC},RdCs ks hs cs x->cs[j]? =some c->∃h y,RdC ks h c y
 | [],cs,x,j,c,hrd,hj=>by rw [show cs= []from hrd]at hj;simp at hj
 | [h],cs,x,j,c,⟨a,e,hrd⟩,hj=>by
  subst e
  cases j with
  |zero=>simp at hj;subst hj;exact⟨h,x,hrd⟩
  |succ j=>simp at hj
 |h::h'::r,cs,x,j,c,⟨a,s,e,hrd,hrd2⟩,hj=>by
  subst e
  cases j with
  |zero=>simp at hj;subst hj;exact⟨h,x.1,hrd⟩
  |succ j=>exact BF hrd2 (by simpa using hj)
theorem pn{ks:KS}{hs:List Sh}{cs:List KC}{x:cj hs}{p:Nat}(hrd:RdCs ks hs cs x)(hp:p∈bp cs):∃b,ak ks.bl p=some b/\b≠ .dead:=by
 obtain⟨j,c,h1,h2⟩:=uR hp;obtain⟨h,y,h3⟩:=BF hrd h1;exact LS h3 h2
theorem nG{F:KF}{ks:KS}:∀{l:List Nat} {i:Nat} {d:KD},ak (mD F ks l) i=some d->ak ks.sl i=some d
 | [],i,d,h=>by simp [mD,ak]at h
 |a::l,i,d,h=>by
  unfold mD at h;split at h
  .rename_i d0 h0;rw [al]at h;split at h
   .rename_i hi;cases h;subst hi;exact h0
   .exact nG h
  .exact nG h
theorem jD{F:KF}{ks:KS}(h:eY F ks=true){i:Nat}{d:KD}(hd:ak F.sl i=some d):ak ks.sl i=none/\eJ F ks i=some d:=by
 have h1:ak ks.sl i=none:=by
  have:=List.all_eq_true.1 h (i,d) (gh hd)
  simpa using this
 exact⟨h1,by unfold eJ aO;rw [h1];exact hd⟩
theorem la{F F':KF}{ks ks':KS}:∀{bs:List (Nat×List Sh)} {w:List KC},(∀v∈bs,cH F' ks' v.1=cH F ks v.1)->dv F' ks' bs w=dv F ks bs w
 | [],w,h=>rfl
 |v::r,w,h=>by
  unfold dv;rw [h v (by simp)]
  cases cH F ks v.1 with
  |none=>exact la λv' hv=>h v' (by simp [hv])
  |some q=>simp only;rw [la λv' hv=>h v' (by simp [hv])]
theorem ib{F:KF}{ks:KS}:∀{bs:List (Nat×List Sh)} {b:List KC},bZ F ks bs=some b->∀v∈bs,∃p cs,cH F ks v.1=some p/\ak ks.bl p=some (.box cs)
 | [],b,hb,v,hv=>by simp at hv
 |v0::r,b,hb,v,hv=>by
  unfold bZ at hb
  cases hp:cH F ks v0.1 with
  |none=>rw [hp]at hb;simp at hb
  |some q=>
   rw [hp]at hb;simp only [zbS]at hb;split at hb
   .rename_i cs hcs;split at hb
    .rw [Option.map_eq_some_iff]at hb;obtain⟨b',g1,rfl⟩:=hb;rcases List.mem_cons.1 hv with rfl|hv
     .exact⟨q,cs,hp,hcs⟩
     .exact ib g1 v hv
    .simp at hb
   .simp at hb
theorem jE{F:KF}{ks:KS}{V:Vl}{f:Nat->D}{h:am}{pt:Pt}{R:Type}{r:R}{κ:cj pt.sh->Option R}(hr:Rel F ks V f h)(hs:oY F ks pt κ=some r):∃cs x,du F ks pt=some cs/\gm (bp cs)=true/\RdCs ks pt.sh cs x/\κ x=some r:=by
 unfold oY at hs;split at hs
 .rename_i cs hcs
  cases hn:gm (bp cs)with
  |false=>rw [hn]at hs;simp at hs
  |true=>
   rw [hn]at hs;obtain⟨x,h1,h2⟩:=xA (λp e ne l hl hne=>(hr.bl p _ (ai hl (by simp))).2.2.2 hne) (show jz ks pt.sh cs κ=some r from hs);exact⟨cs,x,hcs,hn,h2,h1⟩
 .simp at hs
theorem Dz{F:KF}{ks:KS}{V:Vl}{f:Nat->D}{h:am}(hr:Rel F ks V f h){i p:Nat}(hp:cH F ks i=some p):p<ks.nx:=by
 unfold cH at hp;split at hp
 .rename_i q j hd;split at hp
  .cases hp;exact(hr.sl _ _ hd).2.1
  .simp at hp
 .simp at hp
theorem uS{F:KF}{ks:KS}{ws:List (BR×Ty)}{bs:List KB}{p:Nat}(h:∀v∈ws,eK F ks v.1≠some p):ak (dX F ks ws bs) p=none:=by
 cases hl:ak (dX F ks ws bs) p with
 |none=>rfl
 |some x=>
  obtain⟨j,v,h1,h2,h3⟩:=qC hl;exact absurd h3 (h v (List.mem_of_getElem? h1))
theorem nH{F F':KF}{ks ks':KS}:∀{ws:List (BR×Ty)} {bs:List KB},(∀v∈ws,eK F' ks' v.1=eK F ks v.1)->dX F' ks' ws bs=dX F ks ws bs
 | [],bs,h=>by simp [dX]
 |v::r,[],h=>by simp [dX]
 |v::r,b::bs,h=>by
  unfold dX;rw [h v (by simp)]
  cases eK F ks v.1 with
  |none=>exact nH λv' hv=>h v' (by simp [hv])
  |some q=>simp only;rw [nH λv' hv=>h v' (by simp [hv])]
theorem iH:∀(a b:List KC),bp (a++b)=bp a++bp b
 | [],b=>rfl
 |c::a,b=>by
  have:=iH a b
  cases c<;>simp [bp,this]
theorem nI{F:KF}{ks:KS}{pt:Pt}{cs:List KC}(hcs:du F ks pt=some cs){v:BR×Ty}(hv:v∈pt.ws):∃p,eK F ks v.1=some p/\p∈bp cs:=by
 obtain⟨a,b,c,ha,hb,hc,rfl⟩:=dZ hcs;obtain⟨j,hj⟩:=List.getElem?_of_mem hv;obtain⟨p,h1,h2⟩:=nC hc hj;refine⟨p,h1,?_⟩;rw [iH,iH];exact List.mem_append.2 (.inr (List.mem_append.2 (.inr (gZ h2 rfl))))
theorem DA{F:KF}{ks:KS}{V:Vl}{f:Nat->D}{h:am}(hr:Rel F ks V f h){w:BR}{p:Nat}(hp:eK F ks w=some p):p<ks.nx:=by
 unfold eK at hp;split at hp
 .rename_i e q hc;cases hp
  cases w with
  |sl i j=>
   simp only [brC]at hc;split at hc
   .rename_i c hd;cases hc;exact(hr.sl _ _ hd).2.1
   .rename_i cs hd;exact(hr.sl _ _ hd).2.1 _ (List.mem_of_getElem? hc)
   .simp at hc
  |bx i j=>
   simp only [brC]at hc;split at hc
   .rename_i q hq;split at hc
    .rename_i cs hb
     have:an F ks q=some (.box cs):=by unfold an;rw [hb]
     exact(hr.bl _ _ this).2.1 _ (List.mem_of_getElem? hc)
    .simp at hc
   .simp at hc
 .simp at hp
theorem EQ{a b:Ex}(h:oZ a b=true):a=b:=by
 cases a<;>cases b<;>simp [oZ]at h<;>first|rfl|(subst h;rfl)
theorem nJ{F:KF}{ks:KS}:∀{bs:List (Nat×List Sh)} {v:Nat×List Sh} {p:Nat},v∈bs->cH F ks v.1=some p->p∈kS F ks bs
 | [],v,p,hv,_=>by simp at hv
 |w::r,v,p,hv,hp=>by
  unfold kS;rcases List.mem_cons.1 hv with rfl|hv
  .rw [hp];exact List.mem_cons_self
  .have:=nJ hv hp
   split
   .exact List.mem_cons_of_mem _ this
   .exact this
theorem BG{F:KF}{ks:KS}{ds:List Nat}{p:Nat}{b:KB}(hl:ak (ds.map (λp=>(p,KB.dead))++(ks.bl++F.bl)) p=some b)(hb:b≠ .dead):p ∉ ds/\an F ks p=some b:=by
 rw [aQ]at hl;unfold aO at hl;rcases qD (l:=ds) (p:=p)with⟨h1,h2⟩|⟨h1,h2⟩
 .rw [h1]at hl;simp only [aQ]at hl;refine⟨h2,?_⟩;unfold an;rw [hl];cases b<;>first|rfl|exact absurd rfl hb
 .rw [h1]at hl;simp only [zsI]at hl;exact absurd hl.symm hb
def PostC(F:KF)(ks:KS)(V:Vl){R:Type}(κ:Ex->KS->Option R)(r:R)(e:Ex)(s:St):Prop:=∃ks' V' f',s.t=tab F.nt f'/\Rel F ks' V' f' s.h/\κ e ks'=some r/\Ext F ks V ks' V'
theorem PostC.ext{F:KF}{ks ks1:KS}{V V1:Vl}{R:Type}{κ:Ex->KS->Option R}{r:R}{e:Ex}{s:St}(he:Ext F ks V ks1 V1)(h:PostC F ks1 V1 κ r e s):PostC F ks V κ r e s:=let⟨ks',V',f',h1,h2,h3,h4⟩:=h;⟨ks',V',f',h1,h2,h3,he.trans h4⟩
def JX(F:KF)(ks:KS)(V:Vl)(keep dead:List Nat):(l:List (Ex×Pt))->XT l->Ex->St->Prop
 | [],x,_,_=>nomatch x
 |x::r,.inl v,e,s=>e=x.1/\∃V' f',s.t=tab F.nt f'/\Rel F (uv F ks keep dead x.2 v) V' f' s.h/\Ext F ks V (uv F ks keep dead x.2 v) V'
 |x::r,.inr v,e,s=>JX F ks V keep dead r v e s
theorem OY{F:KF}{ks:KS}{V:Vl}{keep dead:List Nat}:∀{l:List (Ex×Pt)},(∀x∈l,oZ x.1 .normal=false)->∀(x:XT l) (s:St),¬JX F ks V keep dead l x .normal s
 | [],hl,x,s=>nomatch x
 |x::r,hl,.inl v,s=>λh=>by have:=hl x (by simp);rw [<-h.1]at this;simp [oZ]at this
 |x::r,hl,.inr v,s=>OY (λz hz=>hl z (by simp [hz])) v s
theorem qE{F:KF}{ks:KS}{V:Vl}{keep dead:List Nat}{R:Type}{r:R}{κ:Ex->KS->Option R}:∀{l:List (Ex×Pt)} {x:XT l} {e:Ex} {s:St},afterX F ks keep dead l x κ=some r->JX F ks V keep dead l x e s->PostC F ks V κ r e s
 | [],x,e,s,h,hj=>nomatch x
 |x::l,.inl v,e,s,h,⟨he,V',f',h1,h2,h3⟩=>⟨_,V',f',h1,h2,by rw [he];exact h,h3⟩
 |x::l,.inr v,e,s,h,hj=>qE (l:=l) (x:=v) h hj
end K
end Ev
end
noncomputable section
namespace Ev
namespace K
open Go Go.RowKit
section
variable {E : Env} {y : Nat → ea} {n : Nat} {G : KG} {D0 : Nat}
theorem Ka{id:Nat}{l:List Oper}{Q:Ex->St->Prop}{t:List D}{H:am}(m:Nat)(hc:jQ l.toArray=some m)(hq:jx l.toArray=true)(h1:bS (λt=>iE E y n l.toArray (l.drop m) (Q .normal) {t,h:=H++List.replicate l.toArray.size .no}) (evR E (cpR E n) l.toArray (H++List.replicate l.toArray.size .no) H.length 0 (l.take m) t)):WpC E y n (.region id l.toArray true) Q {t,h:=H}:=by
 rw [CW]at h1
 cases hs:evQ E (cpR E n) l.toArray (H++List.replicate l.toArray.size .no) H.length 0 (l.take m) t with
 |none=>rw [hs]at h1;exact h1.elim
 |some t'=>
  rw [hs]at h1;obtain⟨s',⟨M1,h2⟩,h3⟩:=h1;obtain⟨M2,h4⟩:=qV _ _ _ _ _ _ _ (qu _ _ _ _ hs);have hq':gM l.toArray H.length (bef l.toArray) (λ_=> [])=true:=hq;refine⟨.normal,s',⟨max M1 M2,λq hm=> ?_⟩,h3⟩;simp only [evC,if_true,hc];unfold DP;simp only [zbB];rw [if_pos hq'];rw [gz,h4 q (by omega)];simp only [zbS]
  have:=h2 q (by omega)
  rw [gz]at this;rw [this];rfl
theorem BI{α:Type}{Q Q':α->Prop}{o:Option α}(h:bS Q o)(hq:∀a,Q a->Q' a):bS Q' o:=by
 cases o with
 |none=>exact h
 |some a=>exact hq a h
section loop
variable {F : KF} {ks : KS} {V : Vl} {f : Nat → D} {h : am} {a : Bp} {cs : List KC} {x0 : cj a.head.sh}
theorem uT(hok:eY F ks=true){i:Nat}{d:KD}(hd:ak (au F ks a cs).sl i=some d):eJ F ks i=some d:=by
 have hd':ak (mD F ks a.keep++F.sl) i=some d:=hd;rw [aQ]at hd';unfold aO at hd'
 cases hk:ak (mD F ks a.keep) i with
 |none=>rw [hk]at hd';exact(jD hok hd').2
 |some d'=>rw [hk]at hd';cases hd';unfold eJ aO;rw [nG hk]
theorem xC(hok:eY F ks=true){ks2:KS}(hok2:eY (au F ks a cs) ks2=true){pt:Pt}(hbs:ml F ks (au F ks a cs) pt=true):∀v∈pt.bs,cH (au F ks a cs) ks2 v.1=cH F ks v.1:=by
 intro v hv;have h1:=List.all_eq_true.1 ((Bool.and_eq_true _ _).mp hbs).1 v hv
 cases hl:ak (au F ks a cs).sl v.1 with
 |none=>rw [hl]at h1;simp at h1
 |some d=>
  unfold cH;rw [(jD hok2 hl).2,uT hok hl]
theorem rj{pt:Pt}{v:cj pt.sh}{p:Nat}{b:KB}(hl:ak (bg F ks pt v).bl p=some b):ak (dv F ks pt.bs (((aG pt.sh v ks.nx).map (·.1)).drop (gA pt.vs))) p=some b∨ak (dX F ks pt.ws ((wCs pt.sh v).drop (gA pt.vs+mh pt.bs))) p=some b∨ak ((aG pt.sh v ks.nx).flatMap (·.2)) p=some b:=by
 have h1:ak (dv F ks pt.bs (((aG pt.sh v ks.nx).map (·.1)).drop (gA pt.vs))++(dX F ks pt.ws ((wCs pt.sh v).drop (gA pt.vs+mh pt.bs))++(aG pt.sh v ks.nx).flatMap (·.2))) p=some b:=hl;rw [aQ]at h1;unfold aO at h1
 cases hb:ak (dv F ks pt.bs (((aG pt.sh v ks.nx).map (·.1)).drop (gA pt.vs))) p with
 |some b'=>rw [hb]at h1;exact .inl h1
 |none=>
  rw [hb]at h1;change ak (_++_) p=some b at h1;rw [aQ]at h1;unfold aO at h1
  cases hc:ak (dX F ks pt.ws ((wCs pt.sh v).drop (gA pt.vs+mh pt.bs))) p with
  |some b'=>rw [hc]at h1;exact .inr (.inl h1)
  |none=>rw [hc]at h1;exact .inr (.inr h1)
theorem ld{pt:Pt}{v:cj pt.sh}{p:Nat}(h1:∀w∈pt.bs,cH F ks w.1≠some p)(h2:∀w∈pt.ws,eK F ks w.1≠some p)(hp:p<ks.nx):ak (bg F ks pt v).bl p=none:=by
 cases hl:ak (bg F ks pt v).bl p with
 |none=>rfl
 |some b=>
  rcases rj hl with h|h|h
  .rw [gk h1]at h;simp at h
  .rw [uS h2]at h;simp at h
  .rw [Dy hp]at h;simp at h
theorem rk{pt:Pt}{v:cj pt.sh}{rest:List (Nat×KB)}{G:KF}{kb:KS}{p:Nat}{b:KB}(hkb:∀p,aO kb.bl G.bl p=ak ((bg F ks pt v).bl++rest) p)(hb:an G kb p=some b):ak (dv F ks pt.bs (((aG pt.sh v ks.nx).map (·.1)).drop (gA pt.vs))) p=some b∨ak (dX F ks pt.ws ((wCs pt.sh v).drop (gA pt.vs+mh pt.bs))) p=some b∨ak ((aG pt.sh v ks.nx).flatMap (·.2)) p=some b∨(ak (bg F ks pt v).bl p=none/\ak rest p=some b/\b≠ .dead):=by
 unfold an at hb;rw [hkb,aQ]at hb;unfold aO at hb
 cases hl:ak (bg F ks pt v).bl p with
 |some b'=>
  rw [hl]at hb;have hbb:b'=b:=by cases b'<;>simp at hb<;>exact hb
  subst hbb;rcases rj hl with h1|h1|h1
  .exact .inl h1
  .exact .inr (.inl h1)
  .exact .inr (.inr (.inl h1))
 |none=>
  rw [hl]at hb
  cases hr:ak rest p with
  |none=>rw [hr]at hb;simp at hb
  |some b'=>
   rw [hr]at hb
   cases b' with
   |dead=>simp at hb
   |_=>simp at hb;subst hb;exact .inr (.inr (.inr ⟨rfl,rfl,by simp⟩))
theorem rl{pt:Pt}{v:cj pt.sh}{rest:List (Nat×KB)}{G:KF}{kb:KS}(hr:Rel F ks V f h)(hkb:∀p,aO kb.bl G.bl p=ak ((bg F ks pt v).bl++rest) p){p:Nat}{b:KB}(hb:(p,b)∈(aG pt.sh v ks.nx).flatMap (·.2)):an G kb p=some b:=by
 obtain⟨g1,g2,g3⟩:=nD (q0:=0) hb;unfold an;rw [hkb,aQ];unfold aO
 have h1:ak (bg F ks pt v).bl p=some b:=by
  show ak (dv F ks pt.bs (((aG pt.sh v ks.nx).map (·.1)).drop (gA pt.vs))++(dX F ks pt.ws ((wCs pt.sh v).drop (gA pt.vs+mh pt.bs))++(aG pt.sh v ks.nx).flatMap (·.2))) p=some b;rw [aQ];unfold aO;rw [gk λw hw he=>by have:=Dz hr he;omega];show ak (_++_) p=some b;rw [aQ];unfold aO;rw [uS λw hw he=>by have:=DA hr he;omega];exact g1
 rw [h1];cases b<;>first|rfl|exact absurd rfl g3
theorem GM(hcs:du F ks a.head=some cs){x:cj a.head.sh}{p:Nat}(hp:p<ks.nx)(hd:p ∉ ck F ks a cs):ak (bg F ks a.head x).bl p=none:=
 ld (λw hw he=>hd (List.mem_append.2 (.inr (nJ hw he)))) (λw hw he=>hd (List.mem_append.2 (.inl (by
  obtain⟨q,h1,h2⟩:=nI hcs hw;rw [he]at h1;cases h1
  exact h2)))) hp
theorem sf(hr:Rel F ks V f h)(hok:eY F ks=true)(hcs:du F ks a.head=some cs)(hnd:gm (bp cs)=true)(hrd:RdCs ks a.head.sh cs x0):∃V1,Rel (au F ks a cs) (bg F ks a.head x0) V1 f h/\Agree ks.nx V V1/\LeB ks.nx (an F ks) (an (au F ks a cs) (bg F ks a.head x0)):=by
 have hkb:∀p,aO (bg F ks a.head x0).bl (au F ks a cs).bl p=ak ((bg F ks a.head x0).bl++((ck F ks a cs).map (λp=>(p,KB.dead))++(ks.bl++F.bl))) p:=λp=>(aQ _ _ p).symm;refine trans hr hcs hrd hnd (Nat.le_refl _) rfl rfl (λi d hd=> ?_) (λp b hb=> ?_) (λp b hb=>rl hr hkb hb) (λv hv p hp=>Dz hr hp) (λv hv p hp=>DA hr hp)
 .have hd':aO (fN a.head.vs ((aG a.head.sh x0 ks.nx).map (·.1))) (au F ks a cs).sl i=some d:=hd;unfold aO at hd'
  cases hl:ak (fN a.head.vs ((aG a.head.sh x0 ks.nx).map (·.1))) i with
  |some d'=>rw [hl]at hd';cases hd';exact .inl rfl
  |none=>
   rw [hl]at hd';have h1:=uT hok hd';exact .inr ⟨h1,(hr.sl i d h1).2.1⟩
 .rcases rk hkb hb with h1|h1|h1|⟨h1,h2,h3⟩
  .exact .inl h1
  .exact .inr (.inl h1)
  .exact .inr (.inr (.inl h1))
  .obtain⟨g1,g2⟩:=BG h2 h3;obtain⟨k1,k2,_⟩:=hr.bl p b g2;exact .inr (.inr (.inr ⟨g2,k1,k2,λhm=>g1 (List.mem_append.2 (.inl hm)),λv hv he=>g1 (List.mem_append.2 (.inr (nJ hv he)))⟩))
variable {ks2 : KS} {V1 V2 : Vl} {f2 : Nat → D} {h2 : am} {x1 : cj a.head.sh} {pt : Pt} {cs2 : List KC} {v : cj pt.sh}
theorem xD(hr:Rel F ks V f h)(hcs:du F ks a.head=some cs)(hext:Ext (au F ks a cs) (bg F ks a.head x1) V1 ks2 V2){p:Nat}{b:KB}(hb:ak ((ck F ks a cs).map (λp=>(p,KB.dead))++(ks.bl++F.bl)) p=some b)(hd:b≠ .dead):an (au F ks a cs) ks2 p=some b/\p<ks.nx/\ScB ks.nx b/\ak ks2.bl p=none:=by
 obtain⟨g1,g2⟩:=BG hb hd;obtain⟨k1,k2,_⟩:=hr.bl p b g2;have h1:ak (bg F ks a.head x1).bl p=none:=GM hcs k1 g1;have h2:=hext.dom p (by show p<ks.nx+_;omega) h1;refine⟨?_,k1,k2,h2⟩;unfold an aO;rw [h2]
 show(match ak ((ck F ks a cs).map (λp=>(p,KB.dead))++(ks.bl++F.bl)) p with
  |some .dead=>none
  |x=>x)=some b
 rw [hb];cases b<;>first|rfl|exact absurd rfl hd
theorem xE(hr:Rel F ks V f h)(hok2:eY (au F ks a cs) ks2=true)(hcs:du F ks a.head=some cs)(hext:Ext (au F ks a cs) (bg F ks a.head x1) V1 ks2 V2)(hbs:ml F ks (au F ks a cs) pt=true):∀w∈pt.ws,∃p,eK (au F ks a cs) ks2 w.1=some p/\eK F ks w.1=some p:=by
 intro w hw;have h1:=List.all_eq_true.1 ((Bool.and_eq_true _ _).mp hbs).2 w hw;split at h1
 .rename_i p q hp hq;have hpq:p=q:=Nat.eq_of_beq_eq_true h1;subst hpq;refine⟨p,?_,hp⟩;have hsl:∀i d,eJ (au F ks a cs) kNil i=some d->eJ (au F ks a cs) ks2 i=some d:=λi d hd=>(jD hok2 (show ak (au F ks a cs).sl i=some d from hd)).2
  have hpt:∀i d,cH (au F ks a cs) kNil i=some d->cH (au F ks a cs) ks2 i=some d:=by
   intro i d hd;unfold cH at hd ⊢;split at hd
   .rename_i p j hg;rw [hsl _ _ hg];exact hd
   .simp at hd
  unfold eK at hq ⊢
  have key:brC (au F ks a cs) kNil w.1=brC (au F ks a cs) ks2 w.1∨brC (au F ks a cs) kNil w.1=none:=by
   cases w.1 with
   |sl i j=>
    simp only [brC]
    cases hg:eJ (au F ks a cs) kNil i with
    |none=>exact .inr rfl
    |some d=>rw [hsl _ _ hg];exact .inl rfl
   |bx i j=>
    simp only [brC]
    cases hg:cH (au F ks a cs) kNil i with
    |none=>exact .inr rfl
    |some d=>
     rw [hpt _ _ hg];simp only
     cases hl:aO kNil.bl (au F ks a cs).bl d with
     |none=>exact .inr rfl
     |some b=>
      cases b with
      |box bc=>
       obtain⟨_,_,_,g4⟩:=xD hr hcs hext (show ak ((ck F ks a cs).map (λp=>(p,KB.dead))++(ks.bl++F.bl)) d=some (.box bc)from hl) (by simp)
       have:aO ks2.bl (au F ks a cs).bl d=some (.box bc):=by unfold aO;rw [g4];exact hl
       rw [this];exact .inl rfl
      |_=>exact .inr rfl
  rcases key with k|k
  .rw [<-k];exact hq
  .rw [k]at hq;simp at hq
 .simp at h1
theorem PA(hcs:du F ks a.head=some cs)(hrd:RdCs ks a.head.sh cs x0)(hext:Ext (au F ks a cs) (bg F ks a.head x1) V1 ks2 V2){p:Nat}(hp:p<ks.nx)(hl:ak ks.bl p=none):ak ks2.bl p=none:=by
 obtain⟨ca,cb,cw,_,hcb,_,_⟩:=dZ hcs;refine hext.dom p (by show p<ks.nx+_;omega) (ld (λw hw he=> ?_) (λw hw he=> ?_) hp)
 .obtain⟨q,c,j1,j2⟩:=ib hcb w hw;rw [he]at j1;cases j1;rw [hl]at j2;simp at j2
 .obtain⟨q,j1,j2⟩:=nI hcs hw;rw [he]at j1;cases j1;obtain⟨b,k1,_⟩:=pn hrd j2;rw [hl]at k1;simp at k1
theorem ER{Fb:KF}{kb:KS}(hr:Rel F ks V f h)(hok:eY F ks=true)(hcs:du F ks a.head=some cs)(hr2:Rel (au F ks a cs) ks2 V2 f2 h2)(hok2:eY (au F ks a cs) ks2=true)(hext:Ext (au F ks a cs) (bg F ks a.head x1) V1 ks2 V2)(hbs:ml F ks (au F ks a cs) pt=true)(hcs2:du (au F ks a cs) ks2 pt=some cs2)(hnd2:gm (bp cs2)=true)(hrd2:RdCs ks2 pt.sh cs2 v)
  (hnt:Fb.nt=F.nt) (hnx:kb.nx=ks.nx+pt.sh.length) (hsl:∀i d,eJ Fb kb i=some d->ak (fN pt.vs ((aG pt.sh v ks.nx).map (·.1))) i=some d∨ak (au F ks a cs).sl i=some d) (hkb:∀p,aO kb.bl Fb.bl p=ak ((bg F ks pt v).bl++((ck F ks a cs).map (λp=>(p,KB.dead))++(ks.bl++F.bl))) p):∃V3,Rel Fb kb V3 f2 h2/\Agree ks.nx V2 V3/\LeB ks.nx (an (au F ks a cs) ks2) (an Fb kb):=by
 have hptr:=xC hok hok2 hbs;have hrow:=xE hr hok2 hcs hext hbs;have hnx2:ks.nx<=ks2.nx:=Nat.le_trans (by show ks.nx<=ks.nx+_;omega) hext.nx;obtain⟨ca,cb,cw,_,hcb2,_,_⟩:=dZ hcs2;refine trans (N0:=ks.nx) hr2 hcs2 hrd2 hnd2 hnx2 hnt hnx (λi d hd=> ?_) (λp b hb=> ?_) (λp b hb=>rl hr hkb hb) (λw hw p hp=> ?_) (λw hw p hp=> ?_)
 .rcases hsl i d hd with h1|h1
  .exact .inl h1
  .have h3:=uT hok h1;exact .inr ⟨(jD hok2 h1).2,(hr.sl i d h3).2.1⟩
 .rw [la hptr,nH (λw hw=>by obtain⟨q,e1,e2⟩:=hrow w hw;exact e1.trans e2.symm)];rcases rk hkb hb with h1|h1|h1|⟨h1,h3,h4⟩
  .exact .inl h1
  .exact .inr (.inl h1)
  .exact .inr (.inr (.inl h1))
  ·-- a block of the head's frame
   obtain⟨g1,g2,g3,g4⟩:=xD hr hcs hext h3 h4;refine .inr (.inr (.inr ⟨g1,g2,g3,λhm=> ?_,λw hw he=> ?_⟩))
   .obtain⟨b',e1,_⟩:=pn hrd2 hm;rw [g4]at e1;simp at e1
   .obtain⟨p',c,e1,e2⟩:=ib hcb2 w hw;rw [he]at e1;cases e1;rw [g4]at e2;simp at e2
 .rw [hptr w hw]at hp;exact Dz hr hp
 .obtain⟨q,e1,e2⟩:=hrow w hw;rw [hp]at e1;cases e1;exact DA hr e2
end loop
end
end K
end Ev
end
noncomputable section
namespace Ev
namespace K
open Go Go.RowKit
theorem zw{ids:List Nat}{p:Nat}(h:(!(ids.any (Nat.beq p)))=true):p ∉ ids:=by
 intro hp
 have:ids.any (Nat.beq p)=true:=List.any_eq_true.2 ⟨p,hp,Nat.beq_refl p⟩
 rw [this]at h;simp at h
theorem Kb{e:KE}{nid p:Nat}{bl bl':List (Nat×KB)}(h:ak bl p=ak bl' p):ak (blE e nid bl) p=ak (blE e nid bl') p:=by
 have h1:ak (blU e bl) p=ak (blU e bl') p:=by
  unfold blU
  cases e.upd with
  |none=>exact h
  |some x=>show ak ((x.1,x.2)::bl) p=ak ((x.1,x.2)::bl') p;rw [al,al,h]
 unfold blE
 cases e.new with
 |none=>exact h1
 |some b=>simp only [al,h1]
section free
variable {B B' : BK} {V : Vl} {ids : List Nat} (hb : ∀ p, p ∉ ids → B' p = B p)
include hb
theorem RC.free{c:KC}{x:C}(hf:qY ids c=true)(h:RC B V c x):RC B' V c x:=by
 cases c with
 |o e p=>intro e' ne l hl;rw [hb p (zw (ids:=ids) (p:=p) hf)]at hl;exact h e' ne l hl
 |m e p=>intro e' l hl;rw [hb p (zw (ids:=ids) (p:=p) hf)]at hl;exact h e' l hl
 |_=>exact h
theorem RCs.free:∀{l:List KC} {xs:List C},l.all (qY ids)=true->RCs B V l xs->RCs B' V l xs
 | [],xs,hf,h=>h
 |c::l,xs,hf,⟨x,s,e,h1,h2⟩=>by
  rw [List.all_cons,Bool.and_eq_true]at hf;exact⟨x,s,e,RC.free hb hf.1 h1,RCs.free hf.2 h2⟩
theorem RD1.free{k:KD}{d:D}(hf:uw ids k=true)(h:RD1 B V k d):RD1 B' V k d:=by
 cases k with
 |one c=>obtain⟨c',h1,h2⟩:=h;exact⟨c',h1,RC.free hb hf h2⟩
 |agg cs=>obtain⟨c',h1,h2⟩:=h;exact⟨c',h1,RCs.free hb hf h2⟩
 |tup ts=>exact h
omit hb in
theorem Kc{x:Bool×List KC}(hf:x.2.all (qY ids)=true):uw ids (mkD x)=true:=by
 obtain⟨b,cs⟩:=x
 cases b with
 |true=>exact hf
 |false=>match cs,hf with
  | [],hf=>exact hf
  | [c],hf=>simpa [mkD,uw]using hf
  |c::d::r,hf=>exact hf
theorem RTs.free:∀{l:List (Bool×List KC)} {xs:List D},(l.all λx=>x.2.all (qY ids))=true->RTs B V l xs->RTs B' V l xs
 | [],xs,hf,h=>h
 |c::l,xs,hf,⟨x,s,e,h1,h2⟩=>by
  rw [List.all_cons,Bool.and_eq_true]at hf;exact⟨x,s,e,RD1.free hb (Kc hf.1) h1,RTs.free hf.2 h2⟩
theorem RD.free{k:KD}{d:D}(hf:uw ids k=true)(h:RD B V k d):RD B' V k d:=by
 cases k with
 |one c=>exact RD1.free (k:= .one c) hb hf h
 |agg cs=>exact RD1.free (k:= .agg cs) hb hf h
 |tup ts=>obtain⟨ds,h1,h2⟩:=h;exact⟨ds,h1,RTs.free hb hf h2⟩
theorem BlkIs.free{b:KB}{x:Blk}(hf:JD ids b=true)(h:BlkIs B V x b):BlkIs B' V x b:=by
 cases b with
 |box cs=>obtain⟨sz,cs',g1,g2⟩:=h;exact⟨sz,cs',g1,RCs.free hb hf g2⟩
 |rows e ne l=>exact h
 |mrows e l=>exact h
 |dead=>exact h
end free
theorem DB{ids:List Nat}{tag:Nat}{d:KD}:uw ids (jJ tag d)=uw ids d:=by
 unfold jJ;split<;>rfl
section
variable {E : Env} {y : Nat → ea} {n : Nat} {F : KF} {ks : KS} {V : Vl} {f : Nat → D} {h : am} {M tag nid : Nat} {op : Op} {G : KG} {D0 : Nat} {R : Type} {r : R}
theorem ic{ids:List Nat}{p:Nat}:ak (pf ids ks).bl p=if p∈ids then some .dead else ak ks.bl p:=by
 show ak (ids.map (λp=>(p,KB.dead))++ks.bl) p=_;rw [aQ];unfold aO;rcases qD (l:=ids) (p:=p)with⟨h1,h2⟩|⟨h1,h2⟩
 .rw [h1,if_neg h2]
 .rw [h1,if_pos h2]
theorem nK{ids:List Nat}{p:Nat}:an F (pf ids ks) p=if p∈ids then none else an F ks p:=by
 unfold an aO;rw [ic];by_cases hp:p∈ids
 .rw [if_pos hp,if_pos hp]
 .rw [if_neg hp,if_neg hp]
theorem LT{ids:List Nat}{e:KE}{p:Nat}(hp:p ∉ ids):Be F (pf ids ks) nid e p=Be F ks nid e p:=by
 have:=Kb (e:=e) (nid:=nid) (show ak (pf ids ks).bl p=ak ks.bl p by rw [ic,if_neg hp])
 unfold Be an aO;simp only [this]
theorem Kd{ids ms:List Nat}(hr:Rel F ks V f h)(hm:∀p b,an F ks p=some b->b.there->V.id p∈ms->p∈ids):Rel F (pf ids ks) V f (mask h ms):=by
 have hle:LeB ks.nx (an F ks) (an F (pf ids ks)):=λp hp=>by
  rw [nK];split
  .exact⟨λe ne l h=>by simp at h,λe l h=>by simp at h⟩
  .exact⟨λe ne l h=>⟨e,ne,l,h,rfl⟩,λe l h=>⟨e,l,h,rfl⟩⟩
 refine⟨λi d hd=> ?_,λp b hb=> ?_,λp q b b' hp hq=> ?_⟩
 .obtain⟨g1,g2,g3⟩:=hr.sl i d hd;exact⟨g1,g2,g3.mono g2 hle (Agree.refl _ _)⟩
 .rw [nK]at hb;split at hb
  .simp at hb
  .rename_i hp;obtain⟨g1,g2,g3⟩:=hr.bl p b hb;refine⟨g1,g2,?_⟩;have g4:=g3.mono g2 hle (Agree.refl _ _);by_cases ht:b.there
   .exact g4.heap (by rw [Bf,if_neg λhh=>hp (hm p b hb ht hh)])
   .cases b with
    |mrows e l=>exact λhl=>absurd hl ht
    |dead=>trivial
    |box cs=>exact absurd trivial ht
    |rows e ne l=>exact absurd trivial ht
 .rw [nK]at hp hq;split at hp
  .simp at hp
  .split at hq
   .simp at hq
   .exact hr.inj p q b b' hp hq
open Classical in
def oId(ks:KS)(V:Vl)(p:Nat):List Nat:=if∃b,ak ks.bl p=some b/\b.there then [V.id p]else []
def qF(ks:KS)(V:Vl)(l:List Nat):List Nat:=l.flatMap (oId ks V)
def po(ks:KS)(V:Vl)(O:List (List Nat)):List (List Nat):=O.map (qF ks V)
theorem lY{O:List (List Nat)}{j:Nat}:(po ks V O).getD j []=qF ks V (O.getD j []):=by
 unfold po;rw [List.getD_eq_getElem?_getD,List.getElem?_map,List.getD_eq_getElem?_getD];cases O[j]? <;>rfl
theorem lf{l:List Nat}{x:Nat}(h:x∈qF ks V l):∃p∈l,∃b,ak ks.bl p=some b/\b.there/\x=V.id p:=by
 unfold qF at h;obtain⟨p,hp,hx⟩:=List.mem_flatMap.1 h;unfold oId at hx;split at hx
 .rename_i hh;obtain⟨b,h1,h2⟩:=hh;exact⟨p,hp,b,h1,h2,by simpa using hx⟩
 .simp at hx
theorem lg{b:KB}(h:b.there):b≠ .dead:=by rintro rfl;exact h
theorem pq(hr:Rel F ks V f h){p:Nat}{b:KB}(hp:an F ks p=some b)(ht:b.there):V.id p<h.length:=
 let⟨_,hz⟩:=nz (hr.bl p b hp).2.2 ht;Gt hz
theorem ES(hr:Rel F ks V f h):∀{os rs O:List (List Nat)},djB os rs O=true->DJ (po ks V os) rs (po ks V O)
 | [],rs,O,_=>by cases rs<;>trivial
 |o::os,[],O,_=>trivial
 |o::os,r::rs,O,hd=>by
  have hd':((r.all λj=>JF o (O.getD j []))&& djB os rs O)=true:=hd;rw [Bool.and_eq_true]at hd';refine⟨λj hj x hx=> ?_,ES hr hd'.2⟩;rw [lY];intro hx2;obtain⟨p,p1,b,p2,p3,rfl⟩:=lf hx;obtain⟨q,q1,b',q2,q3,q4⟩:=lf hx2
  have:=hr.inj p q b b' (ai p2 (lg p3)) (ai q2 (lg q3)) p3 q3 q4
  subst this;have h1:=List.all_eq_true.1 hd'.1 j hj;unfold JF at h1;exact zw (List.all_eq_true.1 h1 p p1) q1
theorem LU(hr:Rel F ks V f h){O:List (List Nat)}:∀l∈po ks V O,∀k∈l,k<h.length:=by
 intro l hl k hk;obtain⟨o,h1,rfl⟩:=List.mem_map.1 hl;obtain⟨p,_,b,p2,p3,rfl⟩:=lf hk;exact pq hr (ai p2 (lg p3)) p3
section
variable {Rl O : List (List Nat)} {N : List (Bool × List Nat)} {nw : List (Nat × Nat)} {i j p q : Nat}
theorem BJ(hj:j∈Rl.getD i [])(hp:p∈O.getD j []):p∈eA Rl O N nw i:=List.mem_flatMap.2 ⟨j,hj,List.mem_append.2 (.inl hp)⟩
theorem BM(hj:j∈Rl.getD i [])(hq:q∈(N.getD j (false,[])).2)(hp:ak nw q=some p):p∈eA Rl O N nw i:=List.mem_flatMap.2 ⟨j,hj,List.mem_append.2 (.inr (List.mem_append.2 (.inl (List.mem_flatMap.2 ⟨q,hq,by rw [hp];exact List.mem_singleton.2 rfl⟩))))⟩
theorem BN(hj:j∈Rl.getD i [])(hn:(N.getD j (false,[])).1=true)(hp:ak nw j=some p):p∈eA Rl O N nw i:=List.mem_flatMap.2 ⟨j,hj,List.mem_append.2 (.inr (List.mem_append.2 (.inr (by rw [hn,hp];exact List.mem_singleton.2 rfl))))⟩
end
structure TInv(F:KF)(ks0:KS)(V0:Vl)(b w:Nat)(nw:List (Nat×Nat))(i:Nat)(ks:KS)(V:Vl)(f:Nat->D)(H:am):Prop where
 rel:Rel F ks V f H
 ext:Ext F ks0 V0 ks V
 len:H.length=b+w
 th:∀p bl,an F ks p=some bl->bl.there->(p<ks0.nx/\∃b0,an F ks0 p=some b0/\b0.there)∨∃j,ak nw j=some p
 nw:∀j q,ak nw j=some q->j<i/\V.id q=b+j/\q<ks.nx
 free:∀j,i<=j->ap H (b+j)=none
section
variable {ks0 : KS} {V0 : Vl} {f0 : Nat → D} {h0 : am} {w i : Nat} {nw : List (Nat × Nat)} {H : am} {Rl O : List (List Nat)} {N : List (Bool × List Nat)}
theorem TInv.mask(hr0:Rel F ks0 V0 f0 h0)(hi:TInv F ks0 V0 h0.length w nw i ks V f H){p:Nat}{bl:KB}(hp:an F ks p=some bl)(ht:bl.there)(hm:V.id p∈(Rl.getD i []).flatMap (bj h0.length (po ks0 V0 O) N)):p∈eA Rl O N nw i:=by
 obtain⟨j,hj,hx⟩:=List.mem_flatMap.1 hm;unfold bj at hx;rw [lY]at hx;rcases hi.th p bl hp ht with⟨h1,b0,h2,h3⟩|⟨j0,h1⟩
 .rw [(hi.ext.agree p h1).1]at hx;have hlt:=pq hr0 h2 h3;rcases List.mem_append.1 hx with hx|hx
  .obtain⟨q,q1,b1,q2,q3,q4⟩:=lf hx
   have:=hr0.inj p q b0 b1 h2 (ai q2 (lg q3)) h3 q3 q4
   subst this;exact BJ hj q1
  .exfalso;rcases List.mem_append.1 hx with hx|hx
   .obtain⟨k,_,hk⟩:=List.mem_map.1 hx;omega
   .split at hx
    .have:=List.mem_singleton.1 hx;omega
    .simp at hx
 .obtain⟨h2,h3,h4⟩:=hi.nw j0 p h1;rw [h3]at hx;rcases List.mem_append.1 hx with hx|hx
  .obtain⟨q,q1,b1,q2,q3,q4⟩:=lf hx
   have:=pq hr0 (ai q2 (lg q3)) q3
   omega
  .rcases List.mem_append.1 hx with hx|hx
   .obtain⟨k,k1,k2⟩:=List.mem_map.1 hx
    have:k=j0:=by omega
    subst this;exact BM hj k1 h1
   .split at hx
    .rename_i hn
     have:=List.mem_singleton.1 hx
     have:j0=j:=by omega
     subst this;exact BN hj hn h1
    .simp at hx
theorem lZ{b:KB}(h1:isM b=false)(h2:b≠ .dead):b.there:=by
 cases b with
 |mrows e l=>simp [isM]at h1
 |dead=>exact absurd rfl h2
 |box cs=>trivial
 |rows e ne l=>trivial
theorem LV(hr0:Rel F ks0 V0 f0 h0)(hi:TInv F ks0 V0 h0.length w nw i ks V f H){p:Nat}{b0:KB}(hb:ak ks.bl p=some b0)(hd:b0≠ .dead){uo:List (Nat×Blk)}(huo:(b0.there/\∃x,uo= [(V.id p,x)])∨(¬b0.there/\uo= [])):∀(P Q:List Nat),xk ks0 ks nw p P Q=true->uo.map (·.1)=qF ks0 V0 P++Q.map (h0.length+·)/\∀x∈qF ks0 V0 P++Q.map (h0.length+·),x<h0.length+i
 | [q],[],ho=>by
  have ho':(Nat.beq p q && JE ks0 ks p)=true:=ho;rw [Bool.and_eq_true]at ho'
  have:=Nat.eq_of_beq_eq_true ho'.1
  subst this;have h2:=ho'.2;unfold JE at h2;split at h2
  .rename_i x0 y0 hx0 hy0;rw [hb]at hy0;cases hy0;have hx0d:x0≠ .dead:=by rintro rfl;simp at h2
   have hm:isM x0=isM b0:=by
    cases x0 with
    |dead=>exact absurd rfl hx0d
    |_=>simpa using h2
   have hp0:=(hr0.bl p x0 (ai hx0 hx0d)).1
   have key:x0.there↔b0.there:=by
    cases x0 with
    |dead=>exact absurd rfl hx0d
    |box cs=>exact⟨λ_=>lZ hm.symm hd,λ_=>trivial⟩
    |rows e ne l=>exact⟨λ_=>lZ hm.symm hd,λ_=>trivial⟩
    |mrows e l=>cases b0 with
     |mrows e' l'=>
      obtain⟨e1,l1,g1,g2⟩:=(hi.ext.le p hp0).2 e' l' (ai hb hd);rw [ai hx0 hx0d]at g1;cases g1;show l≠[]↔l'≠[];rw [<-List.length_pos_iff,<-List.length_pos_iff,g2]
     |_=>simp [isM]at hm
   have e1:qF ks0 V0 [p]=oId ks0 V0 p:=by simp [qF]
   rw [e1,List.map_nil,List.append_nil];rcases huo with⟨h3,x,rfl⟩|⟨h3,rfl⟩
   .have h4:oId ks0 V0 p= [V0.id p]:=if_pos ⟨x0,hx0,key.2 h3⟩;rw [h4]
    have:=pq hr0 (ai hx0 hx0d) (key.2 h3)
    exact⟨by show [V.id p]=_;rw [(hi.ext.agree p hp0).1],λz hz=>by have:=List.mem_singleton.1 hz;omega⟩
   .have h4:oId ks0 V0 p= []:=if_neg λ⟨b,g1,g2⟩=>by rw [hx0]at g1;cases g1;exact h3 (key.1 g2)
    rw [h4];exact⟨rfl,λz hz=>by simp at hz⟩
  .simp at h2
 | [],[j],ho=>by
  have ho':Dl ks nw p j=true:=ho;unfold Dl at ho';rw [Bool.and_eq_true]at ho';obtain⟨h1,h2⟩:=ho';split at h1
  .rename_i q hq
   have:=Nat.eq_of_beq_eq_true h1
   subst this;rw [hb]at h2;have hth:b0.there:=lZ (by simpa using h2) hd;obtain⟨k1,k2,k3⟩:=hi.nw j p hq;rcases huo with⟨_,x,rfl⟩|⟨h3,_⟩
   .refine⟨?_,λz hz=> ?_⟩
    .show [V.id p]=_;rw [k2];simp [qF]
    .have:z=h0.length+j:=by simpa [qF]using hz
     omega
   .exact absurd hth h3
  .simp at h1
 | [],[],ho=>by simp [xk]at ho
 | [],_::_::_,ho=>by simp [xk]at ho
 | [_],_::_,ho=>by simp [xk]at ho
 |_::_::_,_,ho=>by simp [xk]at ho
theorem Ke(hr0:Rel F ks0 V0 f0 h0)(hi:TInv F ks0 V0 h0.length w nw i ks V f H){e:KE}{ids:List Nat}(hef:xl ks0 ks O N nw i ids e=true)(hupd:∀p b,e.upd=some (p,b)->∃b0,ak ks.bl p=some b0/\b0≠ .dead/\ScB ks.nx b/\b0.like b)(hnew:∀b,e.new=some b->ScB ks.nx b/\b≠ .dead){B':BK}{V':Vl}{u:List (Nat×Blk)}(hreal:JI B' V' V ks (h0.length+i) e u):
  u.map (·.1)=bj h0.length (po ks0 V0 O) N i/\∀x∈bj h0.length (po ks0 V0 O) N i,x<h0.length+(i+1):=by
 unfold xl at hef;simp only [Bool.and_eq_true]at hef;obtain⟨⟨_,h2⟩,h3⟩:=hef;obtain⟨uo,un,rfl,huo,hun⟩:=hreal
 have hO:uo.map (·.1)=qF ks0 V0 (O.getD i [])++(N.getD i (false,[])).2.map (h0.length+·)/\∀x∈qF ks0 V0 (O.getD i [])++(N.getD i (false,[])).2.map (h0.length+·),x<h0.length+i:=by
  cases hu:e.upd with
  |none=>
   rw [hu]at huo h2;simp only [Bool.and_eq_true,List.isEmpty_iff]at h2;rw [show uo= []from huo,h2.1,h2.2];exact⟨rfl,λx hx=>by simp [qF]at hx⟩
  |some z=>
   obtain⟨p,b⟩:=z;rw [hu]at huo h2;simp only [Bool.and_eq_true]at h2;obtain⟨b0,g1,g2,_,_⟩:=hupd p b hu;refine LV hr0 hi g1 g2 ?_ _ _ h2.2;rcases huo with⟨x,k1,_,k2⟩|⟨k1,_,k2⟩
   .exact .inl ⟨k2 b0 g1,x,k1⟩
   .exact .inr ⟨k2 b0 g1,k1⟩
 have hN:un.map (·.1)=(if(N.getD i (false,[])).1 then [h0.length+i]else []):=by
  cases hn:e.new with
  |none=>
   rw [hn]at hun h3;have h3':(N.getD i (false,[])).1=false:=by simpa using h3
   rw [show un= []from hun,h3'];rfl
  |some b=>
   rw [hn]at hun h3;simp only [Bool.and_eq_true]at h3;rw [h3.1.1];have hth:b.there:=lZ (by simpa using h3.2) (hnew b hn).2;rcases hun with⟨x,k1,_,_⟩|⟨_,k2⟩
   .rw [k1];rfl
   .exact absurd hth k2
 unfold bj;rw [lY,List.map_append,hO.1,hN,List.append_assoc];refine⟨rfl,λx hx=> ?_⟩;rw [<-List.append_assoc]at hx;rcases List.mem_append.1 hx with hx|hx
 .have:=hO.2 x hx;omega
 .split at hx
  .have:=List.mem_singleton.1 hx;omega
  .simp at hx
theorem xF:∀(u:List (Nat×Blk)) (H:am),(∀x∈u,x.1<H.length)->(Ev.apply H u).length=H.length
 | [],H,h=>rfl
 |x::u,H,h=>by
  have h1:=CV x.2 (h x (by simp));show(Ev.apply (aA H x.1 x.2) u).length=_;rw [xF u _ (λz hz=>by rw [h1];exact h z (by simp [hz])),h1]
theorem uU(hG:GOk G E D0)(hD:D0<=n){ops:Array Oper}{κ:KS->Option R}(hr0:Rel F ks0 V0 f0 h0):∀(l:List Oper) (i:Nat) (nw:List (Nat×Nat)) {ks:KS} {V:Vl} {f:Nat->D} {H:am},i+l.length=w->qZ G F ops.toList Rl O N ks0 κ i nw l ks=some r->TInv F ks0 V0 h0.length w nw i ks V f H->bS (Post F ks0 V0 κ r) (evW E (cpR E n) ops h0.length (bj h0.length (po ks0 V0 O) N) (λi=>(Rl.getD i []).flatMap (bj h0.length (po ks0 V0 O) N)) i l {t:=tab F.nt f,h:=H})
 | [],i,nw,ks,V,f,H,hl,hs,hi=>⟨ks,V,f,rfl,hi.rel,hs,hi.ext⟩
 |o::l,i,nw,ks,V,f,H,hl,hs,hi=>by
  unfold qZ at hs;obtain⟨bb,ks1,g1,g2,g3,g4,g5,g6⟩:=xy hi.rel hs;obtain⟨g,gg1,gg2⟩:=kD g2;have hl':i+1+l.length=w:=by rw [List.length_cons]at hl;omega
  cases bb with
  |false=>
   simp only [cond_false]at g1
   cases hq:Dn O N i with
   |false=>rw [hq]at g1;simp at g1
   |true=>
    rw [hq]at g1;simp only [cond_true]at g1;obtain⟨k1,k2⟩:=uO g4 g3;have hi':TInv F ks0 V0 h0.length w nw (i+1) (xf o.dst ks1) V (upO o.dst bI f) H:=⟨k1,hi.ext.trans (g5.trans k2),hi.len,λp bl hp ht=>let⟨b0,q1,q2⟩:=g6 p bl hp ht;hi.th p b0 q1 q2,λj q hj=>let⟨q1,q2,q3⟩:=hi.nw j q hj;⟨by omega,q2,Nat.lt_of_lt_of_le q3 g5.nx⟩,λj hj=>hi.free j (by omega)⟩;have ih:=uU hG hD hr0 l (i+1) nw hl' g1 hi'
    have hU:bj h0.length (po ks0 V0 O) N i= []:=by
     unfold Dn at hq;simp only [Bool.and_eq_true,List.isEmpty_iff,Bool.not_eq_true']at hq;unfold bj;rw [lY,hq.1.1,hq.1.2,hq.2];rfl
    cases ho:o.dst with
    |none=>rw [ho]at ih;exact IW gg1 ho (gI gg2) (by rw [hU];rfl) (by rw [hU];rfl) (lP _) ih
    |some d=>
     rw [ho]at ih g3;exact Mn gg1 ho (kH (by simpa [gc]using g3)) (gI gg2) (by rw [hU];rfl) (by rw [hU];rfl) (lP _) (by rw [ui];exact ih)
  |true=>
   simp only [cond_true]at g1;obtain⟨op',ks2,k1,k2,k3,k4,k5,k6⟩:=xz (E:=E) (n:=n) g4 g1;have hi2:TInv F ks0 V0 h0.length w nw i ks2 V f H:=⟨k4,hi.ext.trans (g5.trans k5),hi.len,λp bl hp ht=>let⟨b0,q1,q2⟩:=(g6.trans k6) p bl hp ht;hi.th p b0 q1 q2,λj q hj=>let⟨q1,q2,q3⟩:=hi.nw j q hj;⟨q1,q2,Nat.lt_of_lt_of_le q3 (g5.trans k5).nx⟩,hi.free⟩;have hmr:=Kd (ids:=eA Rl O N nw i) (ms:=(Rl.getD i []).flatMap (bj h0.length (po ks0 V0 O) N)) hi2.rel λp bl hp ht hm=>hi2.mask hr0 hp ht hm;obtain⟨e,e1,e2⟩:=uI (M:=ks2.nx+2) hG hD hmr (Nat.le_refl _) (Nat.le_succ _) (by show ks2.nx<_;omega) (by show ks2.nx+1<_;omega) k1;have e1':cond (xl ks0 ks2 O N nw i (eA Rl O N nw i) e) (qZ G F ops.toList Rl O N ks0 κ (i+1) (nwE e i (ks2.nx+1) nw) l (Dj o.dst ks2.nx (ks2.nx+1) e ks2)) none=some r:=e1
   cases hef:xl ks0 ks2 O N nw i (eA Rl O N nw i) e with
   |false=>rw [hef]at e1';simp at e1'
   |true=>
    rw [hef]at e1';simp only [cond_true]at e1';obtain⟨bo,hrun⟩:=e2.run;obtain⟨v,u,s1,s2,s3⟩:=hrun (h0.length+i)
    have hnot:∀p b,e.upd=some (p,b)->p ∉ eA Rl O N nw i:=λp b hb hp=>by
     obtain⟨b0,q1,q2,_⟩:=e2.upd p b hb;rw [ic,if_pos hp]at q1;cases q1;exact q2 rfl
    have hupd:∀p b,e.upd=some (p,b)->∃b0,ak ks2.bl p=some b0/\b0≠ .dead/\ScB ks2.nx b/\b0.like b:=λp b hb=>by
     obtain⟨b0,q1,q2⟩:=e2.upd p b hb;rw [ic,if_neg (hnot p b hb)]at q1;exact⟨b0,q1,q2⟩
    have hfr:=hef;unfold xl at hfr;simp only [Bool.and_eq_true]at hfr;obtain⟨⟨f1,f2⟩,f3⟩:=hfr;have hbe:∀p,p ∉ eA Rl O N nw i->Be F ks2 (ks2.nx+1) e p=Be F (pf (eA Rl O N nw i) ks2) (ks2.nx+1) e p:=λp hp=>(LT hp).symm;have s2':RD (Be F ks2 (ks2.nx+1) e) (V.set (ks2.nx+1) (h0.length+i) ks2.nx bo) (jJ ks2.nx e.v) v:=RD.free hbe (by rw [DB];exact f1) s2
    have s3':JI (Be F ks2 (ks2.nx+1) e) (V.set (ks2.nx+1) (h0.length+i) ks2.nx bo) V ks2 (h0.length+i) e u:=by
     obtain⟨uo,un,q1,q2,q3⟩:=s3;refine⟨uo,un,q1,?_,?_⟩
     .cases hu:e.upd with
      |none=>rw [hu]at q2;exact q2
      |some z=>
       obtain⟨p,b⟩:=z;have hp:=hnot p b hu;rw [hu]at q2 f2;simp only [Bool.and_eq_true]at f2;have hlk:ak (pf (eA Rl O N nw i) ks2).bl p=ak ks2.bl p:=by rw [ic,if_neg hp]
       rcases q2 with⟨x,z1,z2,z3⟩|⟨z1,z2,z3⟩
       .exact .inl ⟨x,z1,BlkIs.free hbe f2.1 z2,λb0 hb0=>z3 b0 (by rw [hlk];exact hb0)⟩
       .exact .inr ⟨z1,z2,λb0 hb0=>z3 b0 (by rw [hlk];exact hb0)⟩
     .cases hn:e.new with
      |none=>rw [hn]at q3;exact q3
      |some b=>
       rw [hn]at q3 f3;simp only [Bool.and_eq_true]at f3;rcases q3 with⟨x,z1,z2,z3⟩|⟨z1,z2⟩
       .exact .inl ⟨x,z1,BlkIs.free hbe f3.1.2 z2,z3⟩
       .exact .inr ⟨z1,z2⟩
    obtain⟨t1,t2⟩:=Ke hr0 hi2 hef hupd e2.new s3';have hnone:ap H (h0.length+i)=none:=hi2.free i (Nat.le_refl _);have hh:=nA u H (uL k4 hupd s3' hnone);obtain⟨w1,w2⟩:=uK (M:=ks2.nx+2) k4 (Nat.le_refl _) (Nat.le_succ _) (by omega) (by omega) g3 hupd e2.new e2.sc s2' s3' (λ_=>hnone) hh;have hult:∀x∈u,x.1<h0.length+(i+1):=λx hx=>t2 x.1 (t1▸List.mem_map_of_mem hx)
    have hi':TInv F ks0 V0 h0.length w (nwE e i (ks2.nx+1) nw) (i+1) (Dj o.dst ks2.nx (ks2.nx+1) e ks2) (V.set (ks2.nx+1) (h0.length+i) ks2.nx bo) (upO o.dst v f) (Ev.apply H u):=by
     have hnwl:∀j q,ak nw j=some q->ak (nwE e i (ks2.nx+1) nw) j=some q:=λj q hj=>by
      unfold nwE;split
      .rw [al,if_neg (by have:=(hi2.nw j q hj).1;omega)];exact hj
      .exact hj
     refine⟨w1,hi2.ext.trans w2,?_,?_,?_,?_⟩
     .rw [xF u H (λx hx=>by have:=hult x hx;rw [hi2.len];omega),hi2.len]
     .intro p bl hp ht
      have hold:∀b0,an F ks2 p=some b0->b0.there->(p<ks0.nx/\∃b0,an F ks0 p=some b0/\b0.there)∨∃j,ak (nwE e i (ks2.nx+1) nw) j=some p:=λb0 z1 z2=>by
       rcases hi2.th p b0 z1 z2 with h1|⟨j,hj⟩
       .exact .inl h1
       .exact .inr ⟨j,hnwl j p hj⟩
      have hp':Be F ks2 (ks2.nx+1) e p=some bl:=hp;rcases uJ (λb hb=>(e2.new b hb).2) hp' with⟨rfl,h1⟩|h1|⟨h1,h2,h3⟩
      .refine .inr ⟨i,?_⟩;unfold nwE;rw [h1];simp only [al,if_true]
      .obtain⟨b0,z1,z2,_,_⟩:=hupd p bl h1;refine hold b0 (ai z1 z2) ?_;obtain⟨uo,un,q1,q2,q3⟩:=s3';rw [h1]at q2;rcases q2 with⟨x,_,_,z3⟩|⟨_,z3,_⟩
       .exact z3 b0 z1
       .exact absurd ht z3
      .exact hold bl h3 ht
     .intro j q hj
      have hcase:(j=i/\q=ks2.nx+1)∨ak nw j=some q:=by
       unfold nwE at hj;split at hj
       .rw [al]at hj;split at hj
        .rename_i hji;cases hj;exact .inl ⟨hji,rfl⟩
        .exact .inr hj
       .exact .inr hj
      rcases hcase with⟨rfl,rfl⟩|hj
      .exact⟨Nat.lt_succ_self _,Vl.set_id,by show _<ks2.nx+2;omega⟩
      .obtain⟨z1,z2,z3⟩:=hi2.nw j q hj;exact⟨by omega,by rw [(w2.agree q z3).1,z2],by show _<ks2.nx+2;omega⟩
     .intro j hj;rw [hh.out _ λx hx=>by have:=hult x hx;omega];exact hi2.free j (by omega)
    have ih:=uU hG hD hr0 l (i+1) _ hl' e1' hi';have hst:=(oP gg2).trans ((k2 (h0.length+i) _).trans s1)
    have hall:(bj h0.length (po ks0 V0 O) N i).all (·<H.length)=true:=List.all_eq_true.2 λx hx=>by
     have:=t2 x hx
     have h3:=hi2.len;exact decide_eq_true (by omega)
    cases ho:o.dst with
    |none=>rw [ho]at ih;exact IW gg1 ho hst t1 hall rfl ih
    |some d=>
     rw [ho]at ih g3;exact Mn gg1 ho (kH (by simpa [gc]using g3)) hst t1 hall rfl (by rw [ui];exact ih)
theorem GN(hG:GOk G E D0)(hD:D0<=n){id:Nat}{l:List Oper}{κ:Ex->KS->Option R}(hq:dI ⟨l⟩=true)(hn:jI ⟨l⟩ N=true)(hdj:djB O (eF ⟨l⟩) O=true)(hold:zh ks O=true)(hs:qZ G F l (eF ⟨l⟩) O N ks (κ .normal) 0 [] l ks=some r)(hr:Rel F ks V f h):WpC E y n (.region id ⟨l⟩ true) (λe s=>∃ks' V' f',s.t=tab F.nt f'/\Rel F ks' V' f' s.h/\κ e ks'=some r/\Ext F ks V ks' V') {t:=tab F.nt f,h:=h}:=by
 refine Gy l.length rfl (po ks V O) N (eF ⟨l⟩) hq hn rfl (ES hr hdj) (LU hr) λh' h1 h2=> ?_;refine uU (ops:=⟨l⟩) (w:=l.length) hG hD hr l 0 [] (by omega) hs ⟨hr.heap h2,Ext.refl _ _ _,h1,λp bl hp ht=> .inl ⟨(hr.bl p bl hp).1,bl,hp,ht⟩,λj q hj=>by simp [ak]at hj,λj hj=> ?_⟩;rw [h2];unfold ap;rw [List.getElem?_eq_none (by omega)]
end
end
section
variable {F : KF} {ks : KS} {V : Vl} {f : Nat → D} {h : am} {R : Type} {r : R}
theorem jF{p:Nat}(hl:ak ks.bl p=some .dead):an F ks p=none:=by
 unfold an aO;rw [hl]
theorem ma{bl bl':List (Nat×KB)}{p:Nat}{sl sl':List (Nat×KD)}{n n':Nat}(hl:ak bl p=ak bl' p):an F ⟨sl,bl,n⟩ p=an F ⟨sl',bl',n'⟩ p:=by
 unfold an aO;simp only [hl]
theorem RCs.set{B:BK}{V:Vl}{c:KC}:∀{cs:List KC} {xs:List C} {j:Nat},RCs B V cs xs->(∀x,xs[j]? =some x->RC B V c x)->RCs B V (cs.set j c) xs
 | [],xs,j,h,_=>h
 |k::cs,xs,0,⟨x,s,e,h1,h2⟩,hc=>⟨x,s,e,hc x (by rw [e];rfl),h2⟩
 |k::cs,xs,j+1,⟨x,s,e,h1,h2⟩,hc=>⟨x,s,e,h1,RCs.set (j:=j) h2 λy hy=>hc y (by rw [e];exact hy)⟩
theorem RCs.get{B:BK}{V:Vl}{c:KC}:∀{cs:List KC} {xs:List C} {j:Nat} {x:C},RCs B V cs xs->cs[j]? =some c->xs[j]? =some x->RC B V c x
 | [],xs,j,x,_,h,_=>by simp at h
 |k::cs,xs,0,x,⟨y,s,e,h1,h2⟩,hc,hx=>by
  subst e;simp only [List.getElem?_cons_zero,zsI]at hc hx;subst hc hx;exact h1
 |k::cs,xs,j+1,x,⟨y,s,e,h1,h2⟩,hc,hx=>by
  subst e;exact RCs.get (j:=j) h2 (by simpa using hc) (by simpa using hx)
theorem DC{b:BR}{κ:KS->Option R}(hr:Rel F ks V f h)(hs:sm F ks b κ=some r):∃ks' V',κ ks'=some r/\Rel F ks' V' f h/\Ext F ks V ks' V':=by
 have triv:κ ks=some r->∃ks' V',κ ks'=some r/\Rel F ks' V' f h/\Ext F ks V ks' V':=λhk=>⟨ks,V,hk,hr,Ext.refl _ _ _⟩;have hlt:∀{p b},ak ks.bl p=some b->b≠ .dead->p<ks.nx:=λ{p b} hl hd=>(hr.bl p b (ai hl hd)).1
 cases b with
 |sl i j=>
  simp only [sm]at hs;split at hs
  rotate_left
  .exact triv hs
  rename_i e p hi;split at hs
  rotate_left
  .exact triv hs
  rename_i e' l hp;have hpn:=hlt hp (by simp);have hBp:an F ks p=some (.mrows e' l):=ai hp (by simp);obtain⟨s1,s2,s3⟩:=hr.sl i _ hi
  have hc:∃c,f i= .one c/\c=moC l (V.id p):=by
   obtain⟨c,h1,h2⟩:=(show∃c',f i= .one c'/\RC (an F ks) V (.m e p) c' from s3);exact⟨c,h1,h2 e' l hBp⟩
  obtain⟨c,hc1,hc2⟩:=hc;by_cases hl0:l.length=0
  .rw [if_pos hl0]at hs;obtain rfl:l= []:=List.eq_nil_of_length_eq_zero hl0
   have hB:∀x,an F {ks with sl:=(i,.one .nil)::ks.sl,bl:=(p,.dead)::ks.bl} x=if x=p then none else an F ks x:=λx=>by
    by_cases hx:x=p
    .rw [if_pos hx];exact jF (by rw [hx,al,if_pos rfl])
    .rw [if_neg hx];exact ma (by rw [al,if_neg hx])
   have hle:LeB ks.nx (an F ks) (an F {ks with sl:=(i,.one .nil)::ks.sl,bl:=(p,.dead)::ks.bl}):=λx hx=>by
    constructor
    .intro e0 ne l' hb;rw [hB]at hb;split at hb
     .cases hb
     .exact⟨e0,ne,l',hb,rfl⟩
    .intro e0 l' hb;rw [hB]at hb;split at hb
     .cases hb
     .exact⟨e0,l',hb,rfl⟩
   refine⟨_,V,hs,⟨λx d hx=> ?_,λx b hb=> ?_,λx y b b' hb hb' t t' e0=> ?_⟩,⟨Nat.le_refl _,Agree.refl _ _,hle,λx hx hn=> ?_⟩⟩
   .by_cases hxi:x=i
    .subst hxi
     have hx':d= .one .nil:=by
      have:eJ F {ks with sl:=(x,.one .nil)::ks.sl,bl:=(p,.dead)::ks.bl} x=some (.one .nil):=by unfold eJ aO;rw [al,if_pos rfl]
      rw [this]at hx;exact(Option.some.inj hx).symm
     subst hx';exact⟨s1,trivial,c,hc1,hc2⟩
    .have hx':eJ F ks x=some d:=by
      rw [<-hx];unfold eJ aO;rw [al,if_neg hxi]
     obtain⟨g1,g2,g3⟩:=hr.sl x d hx';exact⟨g1,g2,g3.mono g2 hle (Agree.refl _ _)⟩
   .rw [hB]at hb;split at hb
    .cases hb
    .obtain⟨g1,g2,g3⟩:=hr.bl x b hb;exact⟨g1,g2,g3.mono g2 hle (Agree.refl _ _)⟩
   .rw [hB]at hb hb';split at hb
    .cases hb
    .split at hb'
     .cases hb'
     .exact hr.inj x y b b' hb hb' t t' e0
   .have hxp:x≠p:=by rintro rfl;rw [hp]at hn;cases hn
    rw [al,if_neg hxp];exact hn
  .rw [if_neg hl0]at hs;have hne:l≠[]:=λh=>hl0 (by rw [h];rfl);have hpx:ks.nx≠p:=by omega
   have hB:∀x,an F {ks with sl:=(i,.one (.o e ks.nx))::ks.sl,bl:=(ks.nx,.rows e' true l)::(p,.dead)::ks.bl,nx:=ks.nx+1} x=if x=ks.nx then some (.rows e' true l)else if x=p then none else an F ks x:=λx=>by
    by_cases hx:x=ks.nx
    .rw [if_pos hx];exact ai (by rw [hx,al,if_pos rfl]) (by simp)
    .rw [if_neg hx];by_cases hx2:x=p
     .rw [if_pos hx2];exact jF (by rw [hx2,al,if_neg (Ne.symm hpx),al,if_pos rfl])
     .rw [if_neg hx2];exact ma (by rw [al,if_neg hx,al,if_neg hx2])
   have hle:LeB ks.nx (an F ks) (an F {ks with sl:=(i,.one (.o e ks.nx))::ks.sl,bl:=(ks.nx,.rows e' true l)::(p,.dead)::ks.bl,nx:=ks.nx+1}):=λx hx=>by
    constructor
    .intro e0 ne l' hb;rw [hB,if_neg (by omega)]at hb;split at hb
     .cases hb
     .exact⟨e0,ne,l',hb,rfl⟩
    .intro e0 l' hb;rw [hB,if_neg (by omega)]at hb;split at hb
     .cases hb
     .exact⟨e0,l',hb,rfl⟩
   have hag:Agree ks.nx V {V with id:=λx=>if x=ks.nx then V.id p else V.id x}:=λq hq=>⟨if_neg (by omega),rfl⟩;have hid:∀x,x<ks.nx->(if x=ks.nx then V.id p else V.id x)=V.id x:=λx hx=>if_neg (by omega);have hBk:ap h (V.id p)=some (e'.size,l.map (cQ e'.row)):=(hr.bl p _ hBp).2.2 hne;refine⟨_,{V with id:=λx=>if x=ks.nx then V.id p else V.id x},hs,⟨λx d hx=> ?_,λx b hb=> ?_,λx y b b' hb hb' t t' e0=> ?_⟩,⟨Nat.le_succ _,hag,hle,λx hx hn=> ?_⟩⟩
   .by_cases hxi:x=i
    .subst hxi
     have hx':d= .one (.o e ks.nx):=by
      have:eJ F {ks with sl:=(x,.one (.o e ks.nx))::ks.sl,bl:=(ks.nx,.rows e' true l)::(p,.dead)::ks.bl,nx:=ks.nx+1} x=some (.one (.o e ks.nx)):=by unfold eJ aO;rw [al,if_pos rfl]
      rw [this]at hx;exact(Option.some.inj hx).symm
     subst hx';refine⟨s1,Nat.lt_succ_self _,c,hc1,λe0 ne l0 hb=> ?_⟩;rw [hB,if_pos rfl]at hb;cases hb;rw [hc2];show moC l (V.id p)= .own (if ks.nx=ks.nx then V.id p else V.id ks.nx) 0 l.length;rw [if_pos rfl]
     cases l with
     |nil=>exact absurd rfl hne
     |cons a t=>rfl
    .have hx':eJ F ks x=some d:=by
      rw [<-hx];unfold eJ aO;rw [al,if_neg hxi]
     obtain⟨g1,g2,g3⟩:=hr.sl x d hx';exact⟨g1,g2.mono (Nat.le_succ _),g3.mono g2 hle hag⟩
   .rw [hB]at hb;split at hb
    .rename_i hx;cases hb;refine⟨by subst hx;exact Nat.lt_succ_self _,trivial,?_,λ_=>hne⟩;show ap h (if x=ks.nx then V.id p else V.id x)=_;rw [if_pos hx];exact hBk
    .split at hb
     .cases hb
     .obtain⟨g1,g2,g3⟩:=hr.bl x b hb;refine⟨Nat.lt_succ_of_lt g1,g2.mono (Nat.le_succ _),?_⟩
      have:=g3.mono g2 hle hag
      show RB _ _ h (if x=ks.nx then V.id p else V.id x) b;rw [hid x g1];exact this
   .have old:∀{x b},(if x=ks.nx then some (.rows e' true l)else if x=p then none else an F ks x)=some b->x≠ks.nx->x≠p/\an F ks x=some b:=λ{x b} hb hx=>by
     rw [if_neg hx]at hb;split at hb
     .cases hb
     .rename_i hp';exact⟨hp',hb⟩
    rw [hB]at hb hb';change (if x=ks.nx then V.id p else V.id x)=(if y=ks.nx then V.id p else V.id y)at e0;by_cases hx:x=ks.nx
    .by_cases hy:y=ks.nx
     .rw [hx,hy]
     .obtain⟨y1,y2⟩:=old hb' hy;rw [if_pos hx,if_neg hy]at e0;exact absurd (hr.inj p y _ _ hBp y2 hne t' e0).symm y1
    .obtain⟨x1,x2⟩:=old hb hx;by_cases hy:y=ks.nx
     .rw [if_neg hx,if_pos hy]at e0;exact absurd (hr.inj x p _ _ x2 hBp t hne e0) x1
     .obtain⟨y1,y2⟩:=old hb' hy;rw [if_neg hx,if_neg hy]at e0;exact hr.inj x y _ _ x2 y2 t t' e0
   .have hxp:x≠p:=by rintro rfl;rw [hp]at hn;cases hn
    have hxn:ks.nx≠x:=by omega
    rw [al,if_neg (Ne.symm hxn),al,if_neg hxp];exact hn
 |bx i j=>
  simp only [sm]at hs;split at hs
  rotate_left
  .exact triv hs
  rename_i q hi;split at hs
  rotate_left
  .exact triv hs
  rename_i cs hq;split at hs
  rotate_left
  .exact triv hs
  rename_i e p hj;split at hs
  rotate_left
  .exact triv hs
  rename_i e' l hp;have hpn:=hlt hp (by simp);have hqn:=hlt hq (by simp);have hBp:an F ks p=some (.mrows e' l):=ai hp (by simp);have hBq:an F ks q=some (.box cs):=ai hq (by simp);have hqp:q≠p:=by rintro rfl;rw [hq]at hp;cases hp
  obtain⟨q1,q2,sz,xs,q3,q4⟩:=hr.bl q _ hBq;by_cases hl0:l.length=0
  .rw [if_pos hl0]at hs;obtain rfl:l= []:=List.eq_nil_of_length_eq_zero hl0
   have hB:∀x,an F {ks with bl:=(q,.box (cs.set j .nil))::(p,.dead)::ks.bl} x=if x=q then some (.box (cs.set j .nil))else if x=p then none else an F ks x:=λx=>by
    by_cases hx:x=q
    .rw [if_pos hx];exact ai (by rw [hx,al,if_pos rfl]) (by simp)
    .rw [if_neg hx];by_cases hx2:x=p
     .rw [if_pos hx2];exact jF (by rw [hx2,al,if_neg (Ne.symm hqp),al,if_pos rfl])
     .rw [if_neg hx2];exact ma (by rw [al,if_neg hx,al,if_neg hx2])
   have hle:LeB ks.nx (an F ks) (an F {ks with bl:=(q,.box (cs.set j .nil))::(p,.dead)::ks.bl}):=λx hx=>by
    constructor
    .intro e0 ne l' hb;rw [hB]at hb;split at hb
     .cases hb
     .split at hb
      .cases hb
      .exact⟨e0,ne,l',hb,rfl⟩
    .intro e0 l' hb;rw [hB]at hb;split at hb
     .cases hb
     .split at hb
      .cases hb
      .exact⟨e0,l',hb,rfl⟩
   refine⟨_,V,hs,⟨λx d hx=> ?_,λx b hb=> ?_,λx y b b' hb hb' t t' e0=> ?_⟩,⟨Nat.le_refl _,Agree.refl _ _,hle,λx hx hn=> ?_⟩⟩
   .obtain⟨g1,g2,g3⟩:=hr.sl x d hx;exact⟨g1,g2,g3.mono g2 hle (Agree.refl _ _)⟩
   .rw [hB]at hb;split at hb
    .rename_i hx;cases hb;subst hx;refine⟨q1,λc hc=> ?_,sz,xs,q3,RCs.set (q4.mono q2 hle (Agree.refl _ _)) λx hx=> ?_⟩
     .rcases List.mem_or_eq_of_mem_set hc with hc|rfl
      .exact q2 c hc
      .trivial
     .exact RCs.get q4 hj hx e' [] hBp
    .split at hb
     .cases hb
     .obtain⟨g1,g2,g3⟩:=hr.bl x b hb;exact⟨g1,g2,g3.mono g2 hle (Agree.refl _ _)⟩
   .have old:∀{x b},(if x=q then some (.box (cs.set j .nil))else if x=p then none else an F ks x)=some b->∃b0,an F ks x=some b0/\(b.there->b0.there):=λ{x b} hb=>by
     split at hb
     .rename_i hx;subst hx;exact⟨_,hBq,λ_=>trivial⟩
     .split at hb
      .cases hb
      .exact⟨b,hb,id⟩
    rw [hB]at hb hb';obtain⟨b0,g1,g2⟩:=old hb;obtain⟨b1,g3,g4⟩:=old hb';exact hr.inj x y b0 b1 g1 g3 (g2 t) (g4 t') e0
   .have hxp:x≠p:=by rintro rfl;rw [hp]at hn;cases hn
    have hxq:x≠q:=by rintro rfl;rw [hq]at hn;cases hn
    rw [al,if_neg hxq,al,if_neg hxp];exact hn
  .rw [if_neg hl0]at hs;have hne:l≠[]:=λh=>hl0 (by rw [h];rfl);have hpx:ks.nx≠p:=by omega
   have hqx:ks.nx≠q:=by omega
   have hB:∀x,an F {ks with bl:=(q,.box (cs.set j (.o e ks.nx)))::(ks.nx,.rows e' true l)::(p,.dead)::ks.bl,nx:=ks.nx+1} x=if x=q then some (.box (cs.set j (.o e ks.nx)))else if x=ks.nx then some (.rows e' true l)else if x=p then none else an F ks x:=λx=>by
    by_cases hx0:x=q
    .rw [if_pos hx0];exact ai (by rw [hx0,al,if_pos rfl]) (by simp)
    rw [if_neg hx0];by_cases hx:x=ks.nx
    .rw [if_pos hx];exact ai (by rw [hx,al,if_neg hqx,al,if_pos rfl]) (by simp)
    .rw [if_neg hx];by_cases hx2:x=p
     .rw [if_pos hx2];exact jF (by rw [hx2,al,if_neg (Ne.symm hqp),al,if_neg (Ne.symm hpx),al,if_pos rfl])
     .rw [if_neg hx2];exact ma (by rw [al,if_neg hx0,al,if_neg hx,al,if_neg hx2])
   have hle:LeB ks.nx (an F ks) (an F {ks with bl:=(q,.box (cs.set j (.o e ks.nx)))::(ks.nx,.rows e' true l)::(p,.dead)::ks.bl,nx:=ks.nx+1}):=λx hx=>by
    constructor
    .intro e0 ne l' hb;rw [hB]at hb;split at hb
     .cases hb
     .rw [if_neg (by omega)]at hb;split at hb
      .cases hb
      .exact⟨e0,ne,l',hb,rfl⟩
    .intro e0 l' hb;rw [hB]at hb;split at hb
     .cases hb
     .rw [if_neg (by omega)]at hb;split at hb
      .cases hb
      .exact⟨e0,l',hb,rfl⟩
   have hag:Agree ks.nx V {V with id:=λx=>if x=ks.nx then V.id p else V.id x}:=λq hq=>⟨if_neg (by omega),rfl⟩;have hid:∀x,x<ks.nx->(if x=ks.nx then V.id p else V.id x)=V.id x:=λx hx=>if_neg (by omega);have hBk:ap h (V.id p)=some (e'.size,l.map (cQ e'.row)):=(hr.bl p _ hBp).2.2 hne;refine⟨_,{V with id:=λx=>if x=ks.nx then V.id p else V.id x},hs,⟨λx d hx=> ?_,λx b hb=> ?_,λx y b b' hb hb' t t' e0=> ?_⟩,⟨Nat.le_succ _,hag,hle,λx hx hn=> ?_⟩⟩
   .obtain⟨g1,g2,g3⟩:=hr.sl x d hx;exact⟨g1,g2.mono (Nat.le_succ _),g3.mono g2 hle hag⟩
   .rw [hB]at hb;split at hb
    .rename_i hx;cases hb;subst hx;refine⟨Nat.lt_succ_of_lt q1,λc hc=> ?_,sz,xs,?_,RCs.set (q4.mono q2 hle hag) λx hx=> ?_⟩
     .rcases List.mem_or_eq_of_mem_set hc with hc|rfl
      .exact(q2 c hc).mono (Nat.le_succ _)
      .exact Nat.lt_succ_self _
     .show ap h (if x=ks.nx then V.id p else V.id x)=_;rw [hid x q1];exact q3
     .have h0:=RCs.get q4 hj hx e' l hBp;intro e0 ne l0 hb;rw [hB,if_neg hqx,if_pos rfl]at hb;cases hb;rw [h0];show moC l (V.id p)= .own (if ks.nx=ks.nx then V.id p else V.id ks.nx) 0 l.length;rw [if_pos rfl]
      cases l with
      |nil=>exact absurd rfl hne
      |cons a t=>rfl
    .split at hb
     .rename_i hx;cases hb;refine⟨by subst hx;exact Nat.lt_succ_self _,trivial,?_,λ_=>hne⟩;show ap h (if x=ks.nx then V.id p else V.id x)=_;rw [if_pos hx];exact hBk
     .split at hb
      .cases hb
      .obtain⟨g1,g2,g3⟩:=hr.bl x b hb;refine⟨Nat.lt_succ_of_lt g1,g2.mono (Nat.le_succ _),?_⟩
       have:=g3.mono g2 hle hag
       show RB _ _ h (if x=ks.nx then V.id p else V.id x) b;rw [hid x g1];exact this
   .have old:∀{x b},(if x=q then some (.box (cs.set j (.o e ks.nx)))else if x=ks.nx then some (.rows e' true l)else if x=p then none else an F ks x)=some b->x≠ks.nx->x≠p/\∃b0,an F ks x=some b0/\(b.there->b0.there):=λ{x b} hb hx=>by
     by_cases hx0:x=q
     .subst hx0;exact⟨hqp,_,hBq,λ_=>trivial⟩
     .rw [if_neg hx0,if_neg hx]at hb;split at hb
      .cases hb
      .rename_i hp';exact⟨hp',b,hb,id⟩
    rw [hB]at hb hb';change (if x=ks.nx then V.id p else V.id x)=(if y=ks.nx then V.id p else V.id y)at e0;by_cases hx:x=ks.nx
    .by_cases hy:y=ks.nx
     .rw [hx,hy]
     .obtain⟨y1,b1,y2,y3⟩:=old hb' hy;rw [if_pos hx,if_neg hy]at e0;exact absurd (hr.inj p y _ _ hBp y2 hne (y3 t') e0).symm y1
    .obtain⟨x1,b0,x2,x3⟩:=old hb hx;by_cases hy:y=ks.nx
     .rw [if_neg hx,if_pos hy]at e0;exact absurd (hr.inj x p _ _ x2 hBp (x3 t) hne e0) x1
     .obtain⟨y1,b1,y2,y3⟩:=old hb' hy;rw [if_neg hx,if_neg hy]at e0;exact hr.inj x y _ _ x2 y2 (x3 t) (y3 t') e0
   .have hxp:x≠p:=by rintro rfl;rw [hp]at hn;cases hn
    have hxq:x≠q:=by rintro rfl;rw [hq]at hn;cases hn
    have hxn:ks.nx≠x:=by omega
    rw [al,if_neg hxq,al,if_neg (Ne.symm hxn),al,if_neg hxp];exact hn
theorem xG{κ:KS->Option R}:∀(bs:List BR) {ks:KS} {V:Vl},Rel F ks V f h->ux F κ bs ks=some r->∃ks' V',κ ks'=some r/\Rel F ks' V' f h/\Ext F ks V ks' V'
 | [],ks,V,hr,hs=>⟨ks,V,hs,hr,Ext.refl _ _ _⟩
 |b::bs,ks,V,hr,hs=>by
  obtain⟨ks1,V1,h1,h2,h3⟩:=DC (κ:=λks=>ux F κ bs ks) hr hs;obtain⟨ks2,V2,g1,g2,g3⟩:=xG bs h2 h1;exact⟨ks2,V2,g1,g2,h3.trans g3⟩
end
end K
end Ev
end
noncomputable section
namespace Ev
namespace K
open Go Go.RowKit
section
variable {E : Env} {y : Nat → ea} {n : Nat} {G : KG} {D0 : Nat}
section loop
variable {F : KF} {ks : KS} {V : Vl} {f : Nat → D} {h : am} {a : Bp} {cs : List KC} {x0 : cj a.head.sh} {ks2 : KS} {V1 V2 : Vl} {f2 : Nat → D} {x1 : cj a.head.sh}
theorem nL{F:KF}{ks:KS}:∀{bs:List (Nat×List Sh)} {p:Nat},p∈kS F ks bs->∃v∈bs,cH F ks v.1=some p
 | [],p,h=>by simp [kS]at h
 |v::r,p,h=>by
  unfold kS at h;split at h
  .rename_i q hq;rcases List.mem_cons.1 h with rfl|h
   .exact⟨v,by simp,hq⟩
   .obtain⟨w,h1,h2⟩:=nL h;exact⟨w,by simp [h1],h2⟩
  .obtain⟨w,h1,h2⟩:=nL h;exact⟨w,by simp [h1],h2⟩
theorem uV(hr:Rel F ks V f h)(hok:eY F ks=true)(hcs:du F ks a.head=some cs)(hrd:RdCs ks a.head.sh cs x0)(ha1:Agree ks.nx V V1)(hl1:LeB ks.nx (an F ks) (an (au F ks a cs) (bg F ks a.head x1))){s:St}(hst:s.t=tab F.nt f2)(hr2:Rel (au F ks a cs) ks2 V2 f2 s.h)(hok2:eY (au F ks a cs) ks2=true)(hext:Ext (au F ks a cs) (bg F ks a.head x1) V1 ks2 V2){e:Ex}:∀{l:List (Ex×Pt)} {R:Type} {r:R} {κ:XT l->Option R},(∀x∈l,ml F ks (au F ks a cs) x.2=true)->pc (au F ks a cs) ks2 e l κ=some r->∃v,κ v=some r/\JX F ks V a.keep (ck F ks a cs) l v e s
 | [],R,r,κ,hb,hs=>by simp [pc]at hs
 |x::l,R,r,κ,hb,hs=>by
  unfold pc at hs
  cases hx:oZ e x.1 with
  |false=>
   rw [hx]at hs;obtain⟨v,h1,h2⟩:=uV hr hok hcs hrd ha1 hl1 hst hr2 hok2 hext (λz hz=>hb z (by simp [hz])) hs;exact⟨.inr v,h1,h2⟩
  |true=>
   rw [hx]at hs;obtain⟨cs2,v,g1,g2,g3,g4⟩:=jE hr2 hs;have hbs:=hb x (by simp)
   have hkb:∀p,aO (uv F ks a.keep (ck F ks a cs) x.2 v).bl F.bl p=ak ((bg F ks x.2 v).bl++((ck F ks a cs).map (λp=>(p,KB.dead))++(ks.bl++F.bl))) p:=λp=>by
    rw [<-aQ];show ak ((bg F ks x.2 v).bl++((ck F ks a cs).map (λp=>(p,KB.dead))++ks.bl)++F.bl) p=_;rw [List.append_assoc,List.append_assoc]
   obtain⟨V3,hr3,ha3,hl3⟩:=ER (Fb:=F) (kb:=uv F ks a.keep (ck F ks a cs) x.2 v) hr hok hcs hr2 hok2 hext hbs g1 g2 g3 rfl rfl (λi d hd=>by
    have hd':aO (fN x.2.vs ((aG x.2.sh v ks.nx).map (·.1))++mD F ks a.keep) F.sl i=some d:=hd;rw [<-aQ,List.append_assoc,aQ]at hd';unfold aO at hd'
    cases hl:ak (fN x.2.vs ((aG x.2.sh v ks.nx).map (·.1))) i with
    |some d'=>rw [hl]at hd';cases hd';exact .inl rfl
    |none=>rw [hl]at hd';exact .inr hd') hkb
   have hnx1:ks.nx<=(bg F ks a.head x1).nx:=by show ks.nx<=ks.nx+_;omega
   refine⟨.inl v,g4,EQ hx,V3,f2,hst,hr3,⟨by show ks.nx<=ks.nx+_;omega,?_,?_,?_⟩⟩
   .exact(ha1.trans hext.agree hnx1).trans ha3 (Nat.le_refl _)
   .exact(hl1.trans hext.le hnx1).trans hl3 (Nat.le_refl _)
   .intro p hp hl;have h2:=PA hcs hrd hext hp hl;show ak ((bg F ks x.2 v).bl++((ck F ks a cs).map (λp=>(p,KB.dead))++ks.bl)) p=none;obtain⟨ca,cb,cw,_,hcb2,_,_⟩:=dZ g1
    have e1:ak (bg F ks x.2 v).bl p=none:=by
     refine ld (λw hw he=> ?_) (λw hw he=> ?_) hp
     .obtain⟨q,c,j1,j2⟩:=ib hcb2 w hw;rw [xC hok hok2 hbs w hw,he]at j1;cases j1;rw [h2]at j2;simp at j2
     .obtain⟨q,j1,j2⟩:=xE hr hok2 hcs hext hbs w hw;rw [he]at j2;cases j2;obtain⟨q,k1,k2⟩:=nI g1 hw;rw [j1]at k1;cases k1;obtain⟨b,k3,_⟩:=pn g3 k2;rw [h2]at k3;simp at k3
    rw [aQ];unfold aO;rw [e1];simp only [aQ];unfold aO;rcases qD (l:=ck F ks a cs) (p:=p)with⟨h1,h2⟩|⟨h1,h2⟩
    .rw [h1];exact hl
    .exfalso;rcases List.mem_append.1 h2 with h2|h2
     .obtain⟨b',k1,_⟩:=pn hrd h2;rw [hl]at k1;simp at k1
     .obtain⟨w,hw,hpw⟩:=nL h2;obtain⟨ca,cb,cw,_,hcb,_,_⟩:=dZ hcs;obtain⟨p'',c'',j1,j2⟩:=ib hcb w hw;rw [hpw]at j1;cases j1;rw [hl]at j2;simp at j2
end loop
theorem BO(hG:GOk G E D0)(hD:D0<=n){A:LH}{call:xi}(hcall:Dv E n call):∀(c:Code) (R:Type) (F:KF) (ks:KS) (κ:Ex->KS->Option R) (r:R) (V:Vl) (f:Nat->D) (h:am),eC G A call c R F ks κ=some r->Rel F ks V f h->WpC E y n c (PostC F ks V κ r) {t:=tab F.nt f,h:=h}:=by
 intro c
 induction c with
 |skip=>intro R F ks κ r V f h hs hr;exact IK ⟨ks,V,f,rfl,hr,hs,Ext.refl _ _ _⟩
 |region id ops draw=>
  intro R F ks κ r V f h hs hr;obtain⟨l⟩:=ops
  cases draw with
  |false=>
   have hs':vZ G call F (Array.toList ⟨l⟩) (κ .normal) l ks=some r:=hs;exact Jd (pm (ops:=⟨l⟩) hG hD hcall l hs' hr)
  |true=>
   have hs':cond (dI ⟨l⟩) (match ak A.tn id with
    |none=>kP G F l (κ .normal) l ks
    |some T=>ux F (λks=>match Dk F ks T.old with
     |some O=>cond (jI ⟨l⟩ T.new && djB O (eF ⟨l⟩) O && zh ks O) (qZ G F l (eF ⟨l⟩) O T.new ks (κ .normal) 0 [] l ks) none
     |none=>none) T.old.flatten ks) (match jQ ⟨l⟩with
    |some m=>cond (jx ⟨l⟩) (kP G F l (vZ G call F l (κ .normal) (l.drop m)) (l.take m) ks) none
    |none=>none)=some r:=hs
   cases hq:dI ⟨l⟩with
   |true=>
    rw [hq]at hs';simp only [cond_true]at hs';split at hs'
    .exact CX l.length rfl hq λh' h1 h2=>lX (ops:=⟨l⟩) (κ:=κ .normal) hG hD l 0 hs' (hr.heap h2)
    .rename_i T hT;obtain⟨ks1,V1,hs1,hr1,hx1⟩:=xG _ hr hs';clear hs';rename_i hs0;split at hs1
     .rename_i O hO
      cases hc:(jI ⟨l⟩ T.new && djB O (eF ⟨l⟩) O && zh ks1 O)with
      |false=>rw [hc]at hs1;simp at hs1
      |true=>
       rw [hc]at hs1;simp only [Bool.and_eq_true]at hc;exact(GN hG hD hq hc.1.1 hc.1.2 hc.2 hs1 hr1).mono λe s ⟨ks',V',f',a1,a2,a3,a4⟩=>⟨ks',V',f',a1,a2,a3,hx1.trans a4⟩
     .simp at hs1
   |false=>
    rw [hq]at hs';simp only [cond_false]at hs';split at hs'
    .rename_i m hc
     cases hp:jx ⟨l⟩with
     |false=>rw [hp]at hs';simp at hs'
     |true=>
      rw [hp]at hs';have hr':Rel F ks V f (h++List.replicate (Array.mk l).size .no):=hr.heap λk=>nm _ _ _;refine Ka m hc hp (BI (lX (ops:=⟨l⟩) (b:=h.length) (κ:=vZ G call F l (κ .normal) (l.drop m)) hG hD (l.take m) 0 hs' hr') λt ht=> ?_);obtain⟨ks',V',f',h1,h2,h3,h4⟩:=ht;simp only at h1 h2;subst h1;exact lW (pm (ops:=⟨l⟩) hG hD hcall (l.drop m) h3 h2) λs hs=>Post.ext h4 hs
    .simp at hs'
 |seq a b iha ihb=>
  intro R F ks κ r V f h hs hr
  have hs':(match A.lp.find? λz=>z.join &&(some z.key==dY a && Nat.beq z.sz (pd a))with
   |none=>eC G A call a R F ks λe ks=>match e with
    | .normal=>eC G A call b R F ks κ
    |e=>κ e ks
   |some z=>match du F ks z.head,eY F ks with
    |some cs,true=>cond (ml F ks (au F ks z cs) z.head && z.exs.all λx=>ml F ks (au F ks z cs) x.2) (oY F ks z.head λx0=>
     (eC G A call a (XT z.exs) (au F ks z cs) (bg F ks z.head x0) λe ks2=>cond (eY (au F ks z cs) ks2) (pc (au F ks z cs) ks2 e z.exs some) none).bind λy=>afterX F ks z.keep (ck F ks z cs) z.exs y λe ks=>match e with
      | .normal=>eC G A call b R F ks κ
      |e=>κ e ks) none
    |_,_=>none)=some r:=hs
  have key:∀e s,PostC F ks V (λe ks=>match e with
    | .normal=>eC G A call b R F ks κ
    |e=>κ e ks) r e s->Mk (WpC E y n b (PostC F ks V κ r)) (PostC F ks V κ r) e s:=by
   intro e s hp;obtain⟨ks',V',f',h1,h2,h3,h4⟩:=hp;obtain⟨t,hh⟩:=s;simp only at h1 h2;subst h1
   cases e with
   |normal=>exact(ihb R F ks' κ r V' f' hh h3 h2).mono λe s hp=>hp.ext h4
   |ret=>exact⟨ks',V',f',rfl,h2,h3,h4⟩
   |exit id=>exact⟨ks',V',f',rfl,h2,h3,h4⟩
  split at hs'
  .exact Ep ((iha R F ks _ r V f h hs' hr).mono key)
  .rename_i z hz;split at hs'
   .rename_i cs hcs hok
    cases hbs:(ml F ks (au F ks z cs) z.head && z.exs.all λx=>ml F ks (au F ks z cs) x.2)with
    |false=>rw [hbs]at hs';simp at hs'
    |true=>
     rw [hbs]at hs';rw [Bool.and_eq_true]at hbs;obtain⟨hbs0,hbsx⟩:=hbs;obtain⟨cs',x0,g1,g2,g3,g4⟩:=jE hr hs';rw [hcs]at g1;cases g1;rw [zbE]at g4;obtain⟨out,g4,g5⟩:=g4;obtain⟨V1,hr1,ha1,hl1⟩:=sf hr hok hcs g2 g3;refine Ep ((iha _ (au F ks z cs) (bg F ks z.head x0) _ out V1 f h g4 hr1).mono λe s hp=>key e s ?_);obtain⟨ks2,V2,f2,t1,r2,k1,ext⟩:=hp;dsimp only at k1
     cases hok2:eY (au F ks z cs) ks2 with
     |false=>rw [hok2]at k1;simp at k1
     |true=>
      rw [hok2]at k1;obtain⟨v,j1,j2⟩:=uV hr hok hcs g3 ha1 hl1 t1 r2 hok2 ext (λw hw=>List.all_eq_true.1 hbsx w hw) k1;cases j1;exact qE g5 j2
   .simp at hs'
 |cond c a b iha ihb=>
  intro R F ks κ r V f h hs hr
  have hs':(match kO F ks c with
   |some (.one c)=>kIf c ks λt ks=>cond t (eC G A call a R F ks κ) (eC G A call b R F ks κ)
   |_=>none)=some r:=hs
  split at hs'
  .rename_i c0 hc;obtain⟨d,d1,d2,c',rfl,d3⟩:=aX hr hc;obtain⟨t,ks',g1,rfl,g3,g4⟩:=Py hr d3 hs';have e1:opnd (tab F.nt f) c=some (.one (bC t)):=(bw F.nt f c).trans d1;refine IM e1 rfl ?_
   cases t with
   |true=>exact(iha R F ks' κ r V f h g1 g3).mono λe s hp=>hp.ext g4
   |false=>exact(ihb R F ks' κ r V f h g1 g3).mono λe s hp=>hp.ext g4
  .simp at hs'
 |block id b ih=>
  intro R F ks κ r V f h hs hr;have hs':eC G A call b R F ks (λe ks=>κ (cond (oZ e (.exit id)) .normal e) ks)=some r:=hs;refine Gs ((ih R F ks _ r V f h hs' hr).mono λe s hp=> ?_);obtain⟨ks',V',f',h1,h2,h3,h4⟩:=hp;refine⟨ks',V',f',h1,h2,?_,h4⟩;rw [<-h3]
  have:(if e= .exit id then Ex.normal else e)=cond (oZ e (.exit id)) .normal e:=by
   cases hx:oZ e (.exit id)with
   |true=>rw [if_pos (EQ hx)];rfl
   |false=>rw [if_neg (λhe=>by subst he;simp [oZ]at hx)];rfl
  rw [this]
 |loop b ih=>
  intro R F ks κ r V f h hs hr
  have hs':(match A.lp.find? λa=> !a.join && some a.key==dY b with
   |none=>none
   |some a=>match du F ks a.head,eY F ks with
    |some cs,true=>cond (ml F ks (au F ks a cs) a.head && a.exs.all λx=>ml F ks (au F ks a cs) x.2 && !oZ x.1 .normal) (oY F ks a.head λx0=>
     (bO (λx=>eC G A call b (cj a.head.sh ⊕ XT a.exs) (au F ks a cs) (bg F ks a.head x) λe ks2=>cond (eY (au F ks a cs) ks2) (match e with
      | .normal=>oY (au F ks a cs) ks2 a.head λy=>some (.inl y)
      |e=>pc (au F ks a cs) ks2 e a.exs λy=>some (.inr y)) none) x0).bind λy=>afterX F ks a.keep (ck F ks a cs) a.exs y κ) none
    |_,_=>none)=some r:=hs
  split at hs'
  .simp at hs'
  .rename_i a ha;split at hs'
   .rename_i cs hcs hok
    cases hbs:(ml F ks (au F ks a cs) a.head && a.exs.all λx=>ml F ks (au F ks a cs) x.2 && !oZ x.1 .normal)with
    |false=>rw [hbs]at hs';simp at hs'
    |true=>
     rw [hbs]at hs';rw [Bool.and_eq_true]at hbs;obtain⟨hbs0,hbsx⟩:=hbs;obtain⟨cs',x0,g1,g2,g3,g4⟩:=jE hr hs';rw [hcs]at g1;cases g1;rw [zbE]at g4;obtain⟨out,g4,g5⟩:=g4;obtain⟨V1,hr1,ha1,hl1⟩:=sf hr hok hcs g2 g3;refine WpC.mono (Gz _ (λx s=>∃V1 f1,s.t=tab F.nt f1/\Rel (au F ks a cs) (bg F ks a.head x) V1 f1 s.h/\Agree ks.nx V V1/\LeB ks.nx (an F ks) (an (au F ks a cs) (bg F ks a.head x))) (λo e s=>JX F ks V a.keep (ck F ks a cs) a.exs o e s) (λr s=>OY (λz hz=>by have:=List.all_eq_true.1 hbsx z hz;rw [Bool.and_eq_true]at this;simpa using this.2) r s) ?_ x0 out _ g4 ⟨V1,f,rfl,hr1,ha1,hl1⟩) λe s hj=>qE g5 hj;intro x o s hb hI;obtain⟨W1,f1,e1,r1,a1,l1⟩:=hI;obtain⟨t,hh⟩:=s;simp only at e1 r1;subst e1;refine(ih _ (au F ks a cs) (bg F ks a.head x) _ o W1 f1 hh hb r1).mono λe s hp=> ?_;obtain⟨ks2,V2,f2,t1,r2,k1,ext⟩:=hp;dsimp only at k1
     cases hok2:eY (au F ks a cs) ks2 with
     |false=>rw [hok2]at k1;simp at k1
     |true=>
      rw [hok2]at k1;simp only [cond_true]at k1
      have hx:e≠ .normal->pc (au F ks a cs) ks2 e a.exs (λy=>some (.inr y))=some o->∃v,o= .inr v/\JX F ks V a.keep (ck F ks a cs) a.exs v e s:=by
       intro hne hk;obtain⟨v,j1,j2⟩:=uV hr hok hcs g3 a1 l1 t1 r2 hok2 ext (λz hz=>by have:=List.all_eq_true.1 hbsx z hz;rw [Bool.and_eq_true]at this;exact this.1) hk;exact⟨v,(Option.some.inj j1).symm,j2⟩
      cases e with
      |normal=>
       obtain⟨cs2,v,w1,w2,w3,w4⟩:=jE r2 k1;cases w4
       obtain⟨V3,hr3,ha3,hl3⟩:=ER (Fb:=au F ks a cs) (kb:=bg F ks a.head v) hr hok hcs r2 hok2 ext hbs0 w1 w2 w3 rfl rfl (λi d hd=>by
        have hd':aO (fN a.head.vs ((aG a.head.sh v ks.nx).map (·.1))) (au F ks a cs).sl i=some d:=hd;unfold aO at hd'
        cases hl:ak (fN a.head.vs ((aG a.head.sh v ks.nx).map (·.1))) i with
        |some d'=>rw [hl]at hd';cases hd';exact .inl rfl
        |none=>rw [hl]at hd';exact .inr hd') (λp=>(aQ _ _ p).symm)
       exact⟨rfl,V3,f2,t1,hr3,(a1.trans ext.agree (by show ks.nx<=ks.nx+_;omega)).trans ha3 (Nat.le_refl _),(l1.trans ext.le (by show ks.nx<=ks.nx+_;omega)).trans hl3 (Nat.le_refl _)⟩
      |ret=>obtain⟨v,rfl,j⟩:=hx (by simp) k1;exact j
      |exit id=>obtain⟨v,rfl,j⟩:=hx (by simp) k1;exact j
   .simp at hs'
 |exit id=>intro R F ks κ r V f h hs hr;exact IL ⟨ks,V,f,rfl,hr,hs,Ext.refl _ _ _⟩
 |ret=>intro R F ks κ r V f h hs hr;exact Lj ⟨ks,V,f,rfl,hr,hs,Ext.refl _ _ _⟩
 |label l=>intro R F ks κ r V f h hs hr;exact Gp ⟨ks,V,f,rfl,hr,hs,Ext.refl _ _ _⟩
 |scope b ih=>
  intro R F ks κ r V f h hs hr;exact Gq (ih R F ks κ r V f h hs hr)
 |_=>intro R F ks κ r V f h hs hr;simp [eC]at hs
end
end K
end Ev
end
end Go.Proofs.YtoamaaicfjkmhaaGreat
