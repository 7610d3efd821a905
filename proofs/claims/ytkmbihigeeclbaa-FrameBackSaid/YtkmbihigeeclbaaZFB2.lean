/- Texts of a claim, joined. -/
import Derived.Test.YtkmbihigeeclbaaZFB1
import Derived.RangeFuncRecord
import Derived.RangeFuncCalls
import Derived.OrdersIn
import Derived.TacticsIn
set_option linter.unusedVariables false
set_option linter.unusedSimpArgs false
namespace Go.Proofs.Ytkmbihigeeclbaa
noncomputable section
namespace Ev
open Go Go.RowKit
def oc(P:Program)(cp:bw):Prop:=∀k vs kind rs,cp k vs=some (kind,rs)->fY P k vs kind rs/\Enters P k
def wV(P:Program)(cf:zl):Prop:=∀k args H v H',cf k args H=some (v,H')->Enters P k/\
 ∀(w:World) (base:Nat) (F0:Nat->Prop) (ρ:Nat->Nat) (ys:List Value),base<=w.heap.size->(∀b,F0 b->b<base)->HRel w base F0 ρ H->args.length=ys.length->
  (∀(i:Nat) d,args[i]? =some d->∃y,ys[i]? =some y/\RepD w base (Fb F0 ρ H) ρ H d y)->
  Calls P k ys.toArray w λe w'=>∃y ρ',e= .returned y/\HRel w' base F0 ρ' H'/\Ext w ρ H w' ρ' H'/\RepD w' base (Fb F0 ρ' H') ρ' H' v y
section
variable {E : Env} {cp : bw} {w : World} {base : Nat} {F0 : Nat → Prop} {ρ : Nat → Nat} {H : ak}
theorem vq{P:Program}{o:Oper}{c:Call}(hc:aV o.op=some c):∀(ev:Operand->Value),execOp ev o=(do let d<-resolve ev c o.type;invoke d.target d.args):=by
 intro ev;unfold aV at hc;split at hc
 .rename_i c' ho;split at hc
  .simp at hc
  .simp only [zsI]at hc;subst hc;unfold execOp;rw [ho]
 .simp at hc
theorem iO{F:Nat->Prop}{t:Tmp->Option D}{a:Act}(T:RelG w base F ρ H t a){ops:Array Oper}{o:Oper}{b:Bool}(h:dD ops t o=some b):Region.wanted o (yielded ops a.tmps)=b:=by
 unfold dD at h;unfold Region.wanted;split at h
 .rename_i hg;simp only [zsI]at h;rw [hg];simpa using h
 .rename_i j want hg;rw [hg];simp only [zbB,zbE]at h;obtain⟨g,h1,d,h2,x,h3,h4⟩:=h;obtain⟨y,y1,y2⟩:=T d x h3;split at h4
  .rename_i fr b';simp only [zsI]at h4;subst h4
   have:=cq (x:= .bool b') y2 rfl
   subst this;simp [yielded,h1,h2,y1]
  .simp only [zsI]at h4;subst h4
   cases y2 with
   |tup ds ys yy hl he hr=>simp [yielded,h1,h2,y1]
  .simp at h4
def After(base:Nat)(F0:Nat->Prop)(w:World)(ρ:Nat->Nat)(H:ak)(a:Act)(o:Oper)(e:Eff)(a':Act)(w':World):Prop:=
 ∃y ρ',a'=a.put o.dst y/\HRel w' base F0 ρ' (apply H e.upd)/\Ext w ρ H w' ρ' (apply H e.upd)/\RepD w' base (Fb F0 ρ' (apply H e.upd)) ρ' (apply H e.upd) e.v y
def qS(P:Program)(ops:Array Oper)(o:Oper)(a:Act)(w:World)(K:Act->World->Prop)(Q:Exit->Act->World->Prop):Prop:=
 if Region.wanted o (yielded ops a.tmps)then o.wp P a w K Q∨(o.asks P a w/\LetsOut Q)else K (a.put o.dst undef) w
theorem Bp(R:HRel w base F0 ρ H){w':World}(hbl:Below w.heap.size w w'):HRel w' base F0 ρ H/\Ext w ρ H w' ρ H:=by
 have X:Ext w ρ H w' ρ H:=⟨hbl.os,hbl.tape,hbl.output,hbl.size,λb hb' _=>hbl.block b hb',λ_ _ h=>h,λb hb'=>by unfold aU;rw [hbl.block b hb'],λk B hB hn=>⟨B,hB,hn,λsz es h=>⟨es,h,rfl⟩⟩,λk es _ hk=>⟨hk,hbl.block _ (R.lt k _ _ hk)⟩⟩;exact⟨eF R X (λk sz es hk=> .inl ⟨hk,rfl,hbl.block _ (R.lt k sz es hk)⟩) λk k' _ _ _ _ q1 q2 q3=>R.inj k k' _ _ _ _ q1 q2 q3,X⟩
theorem zJ(R:HRel w base F0 ρ H)(hb:base<=w.heap.size){w':World}(hbl:Below w.heap.size w w'){nid:Nat}(hn:∀B,H[nid]? =some B->B= .no){b c sz:Nat}{l:List (List T)}(hlc:l.length<=c)(h1:w.heap.size<=b)(h2:b<w'.heap.size)(h3:c*sz<=aU w' b)(h4:Clean w' b)
  (h5:∀(i:Nat) e,l[i]? =some e->e.length=sz) (h6:∀(i j:Nat) e t,l[i]? =some e->e[j]? =some t->∃x,t= .v x/\x.oneCell'=true/\w'.cell? ⟨b,i*sz+j,none⟩=some x):
  HRel w' base F0 (λk=>if k=nid then b else ρ k) (av H nid (.own sz (l.map (·.map (pC true)))))/\Ext w ρ H w' (λk=>if k=nid then b else ρ k) (av H nid (.own sz (l.map (·.map (pC true))))):=by
 have X:Ext w ρ H w' (λk=>if k=nid then b else ρ k) (av H nid (.own sz (l.map (·.map (pC true))))):=by
  refine⟨hbl.os,hbl.tape,hbl.output,hbl.size,λb hb' _=>hbl.block b hb',λq hq ⟨k,sz',es',k1,k2⟩=> ?_,λb hb'=>by unfold aU;rw [hbl.block b hb'],λk B hB hno=> ?_,λk es1 _ hB=> ?_⟩
  .by_cases hk:k=nid
   .simp only [hk,if_true]at k2;omega
   .simp only [hk,if_false]at k2;exact⟨k,sz',es',ba hk (by simp) k1,k2⟩
  .have hk:k≠nid:=λhk=>hno (hn B (hk▸hB));exact⟨B,bJ hk hB,hno,λsz' es' he=>⟨es',he,by simp [hk]⟩⟩
  .have hk:k≠nid:=λhk=>by have:=hn _ (hk▸hB);simp at this
   exact⟨bJ hk hB,hbl.block _ (R.lt k _ _ hB)⟩
 refine⟨eF R X (λk sz' es' h=> ?_) λk k' s1 e1 s2 e2 g1 g2 g3=> ?_,X⟩
 .by_cases hk:k=nid
  .subst hk;rw [aR]at h;cases h;simp only [if_true];refine .inr ⟨by omega,h2,h4,?_,λi e hi=> ?_,λi j e cc hi hj=> ?_⟩
   .refine Nat.le_trans ?_ h3;simp only [List.length_map];exact Nat.mul_le_mul_right _ hlc
   .simp only [List.getElem?_map,Option.map_eq_some_iff]at hi;obtain⟨e0,q1,rfl⟩:=hi;simpa using h5 i e0 q1
   .simp only [List.getElem?_map,Option.map_eq_some_iff]at hi;obtain⟨e0,q1,rfl⟩:=hi;simp only [List.getElem?_map,Option.map_eq_some_iff]at hj;obtain⟨t0,q2,rfl⟩:=hj;obtain⟨x,rfl,q3,q4⟩:=h6 i j e0 t0 q1 q2;exact⟨x,q4,nJ q3⟩
  .have h1:=ba hk (by simp) h;exact .inl ⟨h1,by simp [hk],hbl.block _ (R.lt k _ _ h1)⟩
 .by_cases hk:k=nid<;>by_cases hk':k'=nid
  .omega
  .have:=R.lt k' _ _ (ba hk' (by simp) g2)
   simp [hk,hk']at g3;omega
  .have:=R.lt k _ _ (ba hk (by simp) g1)
   simp [hk,hk']at g3;omega
  .simp only [hk,hk',if_false]at g3;exact R.inj k k' _ _ _ _ (ba hk (by simp) g1) (ba hk' (by simp) g2) g3
theorem Di{P:Program}(hcp:oc P cp)(R:HRel w base F0 ρ H)(hb:base<=w.heap.size)(hF:∀b,F0 b->b<base){nid:Nat}(hn:∀B,H[nid]? =some B->B= .no){t:Tmp->Option D}{a:Act}(T:RelG w base (Fb F0 ρ H) ρ H t a){o:Oper}{c:Call}(hc:aV o.op=some c){e:Eff}(h:fV cp nid c t H=some e)
  {K:Act->World->Prop} {Q:Exit->Act->World->Prop} (hK:∀a' w',After base F0 w ρ H a o e a' w'->K a' w'):o.wp P a w K Q:=by
 unfold fV at h;simp only [zbB,zbE]at h;obtain⟨⟨k,args⟩,h1,vs,h2,⟨kind,rs⟩,h3,h4⟩:=h;obtain⟨hpure,hent⟩:=hcp _ _ _ _ h3;obtain⟨ys,r1,r2,r3⟩:=qn (P:=P) T h1 hent o.type;obtain⟨m1,m2,m3⟩:=ce h2
 have hFb:∀b,Fb F0 ρ H b->b<w.heap.size:=λb hbb=>by
  rcases hbb with h|⟨k,sz,es,q1,q2⟩
  .have:=hF b h;omega
  .rw [<-q2];exact R.lt k sz es q1
 have run:∀(F:Nat->Prop),(∀b,F b->b<w.heap.size)->gO w F (vs.map (·.2)) ys->(∀y w',lf w' (λb=>b<w.heap.size/\(kind≠ .any∨F b)) rs y->(kind= .own->Cn w' w.heap.size rs y)->Below w.heap.size w w'->After base F0 w ρ H a o e (a.put o.dst y) w')->o.wp P a w K Q:=by
  intro F hFlt hargs hfin;unfold Oper.wp;rw [vq (P:=P) hc a.eval,r1];show Calls P k ys.toArray w _;refine(hpure w F ys (R.laid.up hb) hFlt hargs).mono λe' w' ⟨y,he',hres,hown,hbl⟩=> ?_;subst he';exact hK _ _ (hfin y w' hres hown hbl)
 have key:∀(F:Nat->Prop) (fr:Bool),(∀b,F b->b<w.heap.size)->gO w F (vs.map (·.2)) ys->(∀b,Frs (Fb F0 ρ H) base fr b->kind≠ .any∨F b)->e={v:=iF (rs.map (bZ fr))}->o.wp P a w K Q:=by
  intro F fr hFlt hargs hsub he;refine run F hFlt hargs λy w' hres hown hbl=> ?_;obtain⟨x1,x2⟩:=Bp R hbl;refine⟨y,ρ,rfl,?_,?_,?_⟩
  all_goals subst he
  all_goals simp only [apply,List.foldl_nil]
  .exact x1
  .exact x2
  .refine Fh (λb hbb=>⟨?_,hsub b hbb⟩) hres;rcases hbb with h|h
   .exact hFb b h
   .have:=h.2;omega
 have hviews:∀(i:Nat) td,(vs.map (·.2))[i]? =some td->∃d b y,args[i]? =some d/\cl H d=some (b,td)/\(b,td)∈vs/\ys[i]? =some y/\RepD w base (Fb F0 ρ H) ρ H d y:=by
  intro i td hi;simp only [List.getElem?_map,Option.map_eq_some_iff]at hi;obtain⟨p,p1,rfl⟩:=hi;obtain⟨d,d1,d2⟩:=m3 i p p1;obtain⟨y,y1,y2⟩:=r3 i d d1;exact⟨d,p.1,y,d1,d2,List.mem_of_getElem? p1,y1,y2⟩
 have hlen:(vs.map (·.2)).length=ys.length:=by simp [m1,r2]
 have hnone:gO w (λ_=>False) (vs.map (·.2)) ys:=⟨hlen,λi td hi=>by
  obtain⟨d,b,y,k1,k2,k3,k4,k5⟩:=hviews i td hi
  exact⟨y,k4,(ww R k2 k5).1⟩⟩
 cases kind with
 |own=>
  simp only at h4;split at h4
  .rename_i sz l;simp only [zsI]at h4;refine run (λ_=>False) (λ_ h=>h.elim) hnone λy w' hres hown hbl=> ?_;obtain⟨b,cc,sz',l',e1,e2,e3,e4,e5,e6,e7,e8,e9⟩:=hown rfl;simp only [List.cons.injEq,TD.one.injEq,Ev.T.s.injEq,true_and,and_true]at e1;obtain⟨rfl,rfl⟩:=e1;obtain⟨x1,x2⟩:=zJ R hb hbl hn e3 e4 e5 e6 e7 e8 e9;subst h4;refine⟨y,_,rfl,x1,x2,?_⟩;simp only [apply,List.foldl_cons,List.foldl_nil];subst e2;refine .one _ _ (.own nid 0 l.length cc _ ⟨_,aR _ _ _,by simp⟩ e3 λsz2 es2 hb2=> ?_);rw [aR]at hb2;cases hb2;simp only [if_true,Nat.zero_mul,Nat.zero_add];exact⟨trivial,e6⟩
  .simp at h4
 |fresh=>
  simp only [zsI]at h4;exact key (λ_=>False) true (λ_ h=>h.elim) hnone (λ_ _=> .inl (by simp)) h4.symm
 |any=>
  simp only at h4;split at h4
  .simp at h4
  .rename_i hno;simp only [zsI]at h4
   have hno':∀d∈args,iE d=false:=λd hd=>by
    cases hh:iE d with
    |false=>rfl
    |true=>exact absurd (List.any_eq_true.2 ⟨d,hd,hh⟩) hno
   refine key (Frs (Fb F0 ρ H) base (vs.all (·.1))) (vs.all (·.1)) (λb hbb=> ?_) ⟨hlen,λi td hi=> ?_⟩ (λ_ h=> .inr h) h4.symm
   .rcases hbb with h|h
    .exact hFb b h
    .have:=h.2;omega
   .obtain⟨d,b,y,k1,k2,k3,k4,k5⟩:=hviews i td hi
    have:=(ww R k2 k5).2 (hno' d (List.mem_of_getElem? k1))
    refine⟨y,k4,?_⟩;have hsub:∀q,Frs (Fb F0 ρ H) base (vs.all (·.1)) q->Frs (Fb F0 ρ H) base b q:=λq hq=>hq.imp id λ⟨g1,g2⟩=>⟨List.all_eq_true.1 g1 _ k3,g2⟩
    cases this with
    |one t y h=>exact .one _ _ (h.weak hsub)
    |agg ts ys h=>exact .agg _ _ (h.weak λt y h=>h.weak hsub)
theorem vr(hE:dr E.P E.ti)(hcp:oc E.P cp)(R:HRel w base F0 ρ H)(hb:base<=w.heap.size)(hF:∀b,F0 b->b<base){nid:Nat}(hn:∀B,H[nid]? =some B->B= .no){t:Tmp->Option D}{a:Act}(T:RelG w base (Fb F0 ρ H) ρ H t a)
  {ops:Array Oper} {o:Oper} {e:Eff} (h:step E cp ops nid o t H=some e) {K:Act->World->Prop} {Q:Exit->Act->World->Prop} (hK:∀a' w',After base F0 w ρ H a o e a' w'->K a' w'):qS E.P ops o a w K Q:=by
 unfold step at h;simp only [zbB,zbE]at h;obtain⟨b,h1,h2⟩:=h;unfold qS;rw [iO T h1]
 cases b with
 |false=>
  simp only [Bool.false_eq_true,if_false,zsI]at h2 ⊢;subst h2;exact hK _ _ ⟨undef,ρ,rfl,R,Ext.refl _ _ _,nK⟩
 |true=>
  simp only [if_true]at h2 ⊢
  left
  split at h2
  .rename_i c hc;exact Di hcp R hb hF hn T hc h2 hK
  .obtain⟨y,w',ρ',g1,g2,g3,g4⟩:=Id hE R hb hn T h2;unfold Oper.wp;rcases g1 with g1|⟨g1,rfl⟩
   .rw [g1];exact hK _ _ ⟨y,ρ',rfl,g2,g3,g4⟩
   .rw [g1];exact hK _ _ ⟨undef,ρ',rfl,g2,g3,g4⟩
structure Rel(base:Nat)(F0:Nat->Prop)(ρ:Nat->Nat)(s:St)(a:Act)(w:World):Prop where
 heap:HRel w base F0 ρ s.h
 tmps:RelT w base (Fb F0 ρ s.h) ρ s.h s.t a
 base:base<=w.heap.size
theorem lD{a:Act}{d:Option Tmp}{v:Value}:(a.put d v).defers=a.defers:=by unfold Act.put;split<;>rfl
theorem After.rel{s s':St}{a a':Act}{w':World}{o:Oper}{e:Eff}(R:Rel base F0 ρ s a w)(hp:put o s e=some s')(h:After base F0 w ρ s.h a o e a' w'):∃ρ',Rel base F0 ρ' s' a' w'/\Ext w ρ s.h w' ρ' s'.h/\a'.defers=a.defers:=by
 unfold put at hp;simp only [zbB,zbE,zsI]at hp;obtain⟨t,h1,rfl⟩:=hp;obtain⟨y,ρ',rfl,h2,h3,h4⟩:=h;exact⟨ρ',⟨h2,(R.tmps.mono λc y hc=>hc.ext R.heap.lt h3).set h1 h4,Nat.le_trans R.base h3.size⟩,h3,lD⟩
structure YOk(P:Program)(base:Nat)(F0:Nat->Prop)(y:dC)(A B:Nat->Prop)(J:ak->(Nat->Nat)->World->Prop):Prop where
 sub:∀k,A k->B k
 lt:∀H ρ w k,J H ρ w->B k->∃es,H[k]? =some (.own 0 es)
 keep:∀H ρ w H' ρ' w',HRel w base F0 ρ H->J H ρ w->ExtA (λk=>¬B k) w ρ H w' ρ' H'->HRel w' base F0 ρ' H'->J H' ρ' w'
 obj:∀H ρ w l o o',HRel w base F0 ρ H->J H ρ w->w.heap[l]? =some o->o.isCells=false->o'.isCells=false->(∀k,B k->ρ k≠l)->J H ρ (w.putObj l o')
 round:∀k args H e H1,y k args H=some (e,H1)->A k/\∀(w:World) (ρ:Nat->Nat) (ys:List Value),HRel w base F0 ρ H->base<=w.heap.size->J H ρ w->H[k]? =some (.own 0 [])->args.length=ys.length->
  (∀(i:Nat) d,args[i]? =some d->∃y,ys[i]? =some y/\RepD w base (Fb F0 ρ H) ρ H d y)->
  ∃f tmps asg body,(Instr.yield (ρ k) ys.toArray).run P w= .ok (.round (ρ k) f tmps asg body) w/\
   ∀n,RoundIn Fence.wide n P (ρ k) f tmps asg body w λe' w'=>e'= .returned (.bool (e== .normal))/\∃ρ',HRel w' base F0 ρ' (av H1 k (jh e))/\ExtA A w ρ H w' ρ' (av H1 k (jh e))/\J (av H1 k (jh e)) ρ' w'
theorem wW{P:Program}:YOk P base F0 noY noA noA λ_ _ _=>True:=⟨λ_ h=>h,λ_ _ _ _ _ h=>h.elim,λ_ _ _ _ _ _ _ _ _ _=>trivial,λ_ _ _ _ _ _ _ _ _ _ _ _=>trivial,λk args H e H1 h=>by simp [noY]at h⟩
abbrev FR(r:Option Nat):Fence:={Fence.wide with round:=r}
def Bq(P:Program)(r:Option Nat)(n:Nat)(ops:Array Oper)(o:Oper)(a:Act)(w:World)(K:Act->World->Prop)(Q:Exit->Act->World->Prop):Prop:=
 if Region.wanted o (yielded ops a.tmps)then o.wpIn (FR r) n P a w K Q else K (a.put o.dst undef) w
theorem Br{P:Program}{o:Oper}{a:Act}{next:Act->World->Prop}{Q:Exit->Act->World->Prop}{r:Option Nat}{n:Nat}:∀{x:Result Next},o.upon P a next Q x->o.uponIn (FR r) n P a next Q x
 | .ok (.value _) _,h=>h
 | .ok .skip _,h=>h
 | .ok (.defer _) _,h=>h
 | .ok (.enter _ _) _,h=>⟨λhd=>by simp [Fence.wide]at hd,callsIn_wide.2 h⟩
 | .ok (.row _ _) _,h=>⟨λhd=>by simp [Fence.wide]at hd,λc cs _=>by obtain⟨v,w',x,s⟩:=h c cs;exact⟨v,w',x,stepsIn_wide.2 s⟩⟩
 | .ok (.round ..) _,h=>h.elim
 | .halt (.panic _) _,h=>h
theorem oP{r:Option Nat}{o:Oper}(hd:dE o=true)(ev:Operand->Value):o.semAt r ev=execOp ev o:=by
 cases r with
 |none=>rfl
 |some l=>exact Oper.semAt_some l _ _ λc h=>by unfold dE at hd;rw [h]at hd;simp at hd
theorem iP{P:Program}{o:Oper}{a:Act}{w:World}{K:Act->World->Prop}{Q:Exit->Act->World->Prop}{r:Option Nat}{n:Nat}(hd:dE o=true)(h:o.wp P a w K Q):o.wpIn (FR r) n P a w K Q:=by
 refine⟨λ_ _=>trivial,?_⟩;rw [show(FR r).round=r from rfl,oP hd];exact Br h
theorem yl{ops:Array Oper}{nid:Nat}{o:Oper}{t:Tmp->Option D}{e:Eff}(h:step E cp ops nid o t H=some e)(hw:dD ops t o=some true):dE o=true:=by
 unfold dE;split
 .rename_i c ho;unfold step at h;simp only [zbB,hw,zbS,if_true,aV,ho]at h;simp [sem,ho]at h
 .rfl
theorem qT{o:Oper}{c:Call}(hc:aV o.op=some c):dE o=true:=by
 unfold dE;split
 .rename_i c' ho;simp [aV,ho]at hc
 .rfl
theorem FS{ops:Array Oper}{o:Oper}{a:Act}{K:Act->World->Prop}{Q:Exit->Act->World->Prop}{r:Option Nat}{n:Nat}(hno:¬LetsOut Q)(hd:Region.wanted o (yielded ops a.tmps)=true->dE o=true)(h:qS E.P ops o a w K Q):Bq E.P r n ops o a w K Q:=by
 unfold qS at h;unfold Bq;split
 .rename_i hw;rw [if_pos hw]at h;rcases h with h|⟨_,h⟩
  .exact iP (hd hw) h
  .exact absurd h hno
 .rename_i hw;rw [if_neg hw]at h;exact h
theorem FT{cf:fG}{A B:Nat->Prop}{J:ak->(Nat->Nat)->World->Prop}(hE:dr E.P E.ti)(hcp:oc E.P cp)(hcf:wV E.P cf.f)(hY:YOk E.P base F0 cf.y A B J)(hF:∀b,F0 b->b<base){ops:Array Oper}{o:Oper}{s s':St}{a:Act}(R:Rel base F0 ρ s a w)(hJ:J s.h ρ w)(h:AC E cp cf ops o s=some s')
  {K:Act->World->Prop} {Q:Exit->Act->World->Prop} {r:Option Nat} {n:Nat} (hno:¬LetsOut Q) (hK:∀a' w' ρ',Rel base F0 ρ' s' a' w'->ExtA A w ρ s.h w' ρ' s'.h->J s'.h ρ' w'->a'.defers=a.defers->K a' w'):Bq E.P r n ops o a w K Q:=by
 unfold AC at h;split at h
 .rename_i e he;refine FS hno (λhw=> ?_) (vr hE hcp R.heap R.base hF (λB hB=>by have:=(List.getElem?_eq_some_iff.1 hB).1;omega) R.tmps.g he λa' w' ha=>let⟨ρ',r1,r2,r3⟩:=ha.rel R h;hK a' w' ρ' r1 r2.toA (hY.keep _ _ _ _ _ _ R.heap hJ r2.toA r1.heap) r3);have hh:=he;unfold step at hh;simp only [zbB,zbE]at hh;obtain⟨b,h1,h2⟩:=hh
  have:=iO R.tmps.g h1
  rw [this]at hw;subst hw;exact yl he h1
 .rw [Option.or_eq_some_iff]at h;rcases h with h|⟨_,h⟩
  .unfold zm at h;simp only [zbB,zbE]at h;obtain⟨b,h1,h2⟩:=h;unfold Bq;rw [iO R.tmps.g h1]
   cases b with
   |false=>simp at h2
   |true=>
    simp only [if_true]at h2 ⊢;split at h2
    .rename_i c hc;refine iP (qT hc) ?_;simp only [zbE,zsI]at h2;obtain⟨⟨k,args⟩,h3,⟨v,H'⟩,h4,t,h5,rfl⟩:=h2;obtain⟨hent,hcall⟩:=hcf _ _ _ _ _ h4;obtain⟨ys,r1,r2,r3⟩:=qn (P:=E.P) R.tmps.g h3 hent o.type;unfold Oper.wp;rw [vq (P:=E.P) hc a.eval,r1];show Calls E.P k ys.toArray w _;refine(hcall w base F0 ρ ys R.base hF R.heap r2 r3).mono λe' w' ⟨y,ρ',he',g1,g2,g3⟩=> ?_;subst he';exact hK _ _ ρ' ⟨g1,(R.tmps.mono λc y hc=>hc.ext R.heap.lt g2).set h5 g3,Nat.le_trans R.base g2.size⟩ g2.toA (hY.keep _ _ _ _ _ _ R.heap hJ g2.toA g1) lD
    .simp at h2
  .unfold GL at h;simp only [zbB,zbE]at h;obtain⟨b,h1,h2⟩:=h;unfold Bq;rw [iO R.tmps.g h1]
   cases b with
   |false=>simp at h2
   |true=>
    simp only [if_true]at h2 ⊢;split at h2
    .rename_i c hc;split at h2
     .rename_i f hf;simp only [zbE]at h2;obtain⟨args,h3,df,h4,h5⟩:=h2;split at h5
      .rename_i k;simp only [zbE]at h5;obtain⟨⟨sz,es⟩,h6,h7⟩:=h5;split at h7
       .rename_i hz;obtain⟨rfl,rfl⟩:=hz;simp only [zbE,zsI]at h7;obtain⟨⟨e,H1⟩,h8,t,h9,rfl⟩:=h7;have hbk:=bk h6;obtain⟨hA,hr⟩:=hY.round _ _ _ _ _ h8;obtain⟨g1,g2⟩:=mr R.tmps.g _ _ h3
        have hv:a.eval f= .func (.yield (ρ k)) #[] #[]:=by
         have hfr:=R.tmps.g.opnd h4;generalize a.eval f=vf at hfr
         cases hfr with
         |one cc y hc=>cases hc with|yld k y q1 q2 q3=>exact q3 _ _ hbk
        obtain⟨fn,tmps,asg,body,q1,q2⟩:=hr w ρ (c.args.toList.map a.eval) R.heap R.base hJ hbk (by simpa using g1) g2;refine⟨λ_ _=>trivial,?_⟩;rw [show(FR r).round=r from rfl,oP (qT hc),vq (P:=E.P) hc a.eval];have hmap:c.args.map a.eval=(c.args.toList.map a.eval).toArray:=by apply Array.ext';simp
        have hrun:(do let d<-resolve a.eval c o.type;invoke d.target d.args:Sem Next)=Instr.yield (ρ k) (c.args.map a.eval):=by
         unfold resolve;rw [hf];simp only [hv];show Instr.yield (ρ k) (#[]++c.args.map a.eval++ #[])=_;simp
        rw [hrun,hmap,q1];refine⟨λhd=>by simp [Fence.wide]at hd,?_⟩;refine RoundIn.mono (F:=FR r) (q2 (n - 1)) λe' w' ⟨he,ρ',z1,z2,z3⟩=> ?_;subst he;exact hK _ _ ρ' ⟨z1,(R.tmps.mono λc y hc=>hc.ext R.heap.lt z2).set h9 (eD rfl),Nat.le_trans R.base z2.size⟩ z2 z3 lD
       .simp at h7
      .simp at h5
     .simp at h2
    .simp at h2
theorem qU{cf:fG}{A B:Nat->Prop}{J:ak->(Nat->Nat)->World->Prop}(hE:dr E.P E.ti)(hcp:oc E.P cp)(hcf:wV E.P cf.f)(hY:YOk E.P base F0 cf.y A B J)(hF:∀b,F0 b->b<base){ops:Array Oper}{Q:Exit->Act->World->Prop}{r:Option Nat}{n:Nat}(hno:¬LetsOut Q):∀(l:List Oper) (is:List Nat) (s s':St) (a:Act) (w:World) (ρ:Nat->Nat),
  (is.length=l.length/\∀(i:Nat) n,is[i]? =some n->ops[n]? =l[i]?)->Rel base F0 ρ s a w->J s.h ρ w->oD E cp cf ops l s=some s'->(∀a' w' ρ',Rel base F0 ρ' s' a' w'->ExtA A w ρ s.h w' ρ' s'.h->J s'.h ρ' w'->a'.defers=a.defers->Q .normal a' w')->wpOpsIn (FR r) n E.P ops Q is a w
 | [],is,s,s',a,w,ρ,hi,R,hJ,h,hQ=>by
  have:is= []:=List.length_eq_zero_iff.1 hi.1
  subst this;simp only [oD,zsI]at h;subst h;exact hQ a w ρ R (ExtA.refl _ _ _) hJ rfl
 |o::l,[],s,s',a,w,ρ,hi,R,hJ,h,hQ=>by simp at hi
 |o::l,i::is,s,s',a,w,ρ,hi,R,hJ,h,hQ=>by
  simp only [oD,zbB,zbE]at h;obtain⟨s1,h1,h2⟩:=h;have ho:ops[i]? =some o:=by simpa using hi.2 0 i rfl
  have:=FT (r:=r) (n:=n) (Q:=Q) (K:=wpOpsIn (FR r) n E.P ops Q is) hE hcp hcf hY hF R hJ h1 hno λa' w' ρ' R' X J' hd=>qU hE hcp hcf hY hF hno l is s1 s' a' w' ρ' ⟨by simpa using hi.1,λj n hj=>by simpa using hi.2 (j+1) n (by simpa using hj)⟩ R' J' h2 λa2 w2 ρ2 R2 X2 J2 hd2=>hQ a2 w2 ρ2 R2 (X.trans X2) J2 (hd2.trans hd)
  unfold wpOpsIn;rw [ho];dsimp only;unfold Bq at this;split
  .rename_i hw;rw [if_pos hw]at this;exact this
  .rename_i hw;rw [if_neg hw]at this;exact⟨λ_ _=>trivial,this⟩
end
end Ev
end
noncomputable section
namespace Ev
open Go Go.RowKit
def Le(H1 H2:ak):Prop:=∀k x,ao H1 k=some x->ao H2 k=some x
theorem ju:∀(l:List Nat) (H:ak) (k:Nat),(mask H l)[k]? =if k∈l/\k<H.length then some .no else H[k]?
 | [],H,k=>by simp [mask]
 |j::l,H,k=>by
  have:=ju l (if j<H.length then H.set j .no else H) k
  unfold mask at this ⊢;simp only [List.foldl_cons];rw [this];have hl:(if j<H.length then H.set j Blk.no else H).length=H.length:=by split<;>simp
  rw [hl];by_cases hk:k∈l/\k<H.length
  .rw [if_pos hk,if_pos ⟨List.mem_cons_of_mem _ hk.1,hk.2⟩]
  .rw [if_neg hk];by_cases hkj:k=j
   .subst hkj;by_cases hlt:k<H.length
    .rw [if_pos hlt,if_pos ⟨List.mem_cons_self,hlt⟩];simp [hlt]
    .rw [if_neg hlt,if_neg (λh=>hlt h.2)]
   .have e1:¬(k∈j::l/\k<H.length):=λh=>hk ⟨(List.mem_cons.1 h.1).resolve_left hkj,h.2⟩;rw [if_neg e1];by_cases hj:j<H.length
    .rw [if_pos hj,List.getElem?_set,if_neg (λh=>hkj h.symm)]
    .rw [if_neg hj]
theorem vt(H:ak)(l:List Nat):Le (mask H l) H:=by
 intro k x h;unfold ao at*;rw [ju]at h;split at h
 .rename_i sz es hb;split at hb
  .cases hb
  .rw [hb];exact h
 .simp at h
theorem Bs{H1 H2:ak}(hL:Le H1 H2){agg:Bool}{sz:Nat}{d e:D}(h:load H1 agg sz d=some e):load H2 agg sz d=some e:=by
 unfold load at*;split at h
 .simp only [zbB,zbE]at h ⊢;obtain⟨x,h1,r⟩:=h;exact⟨x,hL _ _ h1,r⟩
 .exact h
 .simp at h
theorem ym{H1 H2:ak}(hL:Le H1 H2){sz:Nat}{a x:D}{e:Eff}(h:store H1 sz a x=some e):store H2 sz a x=some e:=by
 unfold store at*;split at h
 .simp only [zbB,zbE]at h ⊢;obtain⟨cs,h1,h2⟩:=h;refine⟨cs,h1,?_⟩;split at h2
  .rename_i hl;rw [if_pos hl];simp only [zbE]at h2 ⊢;obtain⟨x,h3,r⟩:=h2;exact⟨x,hL _ _ h3,r⟩
  .simp at h2
 .simp at h
theorem qV{H1 H2:ak}(hL:Le H1 H2){d:D}{e:List (List C)}(h:gz H1 d=some e):gz H2 d=some e:=by
 unfold gz at*;split at h
 .exact h
 .simp only [zbB,zbE]at h ⊢;obtain⟨x,h1,r⟩:=h;exact⟨x,hL _ _ h1,r⟩
 .simp at h
theorem wX{H1 H2:ak}(hL:Le H1 H2){nid sz:Nat}{a x:D}{e:Eff}(h:append H1 nid sz a x=some e):append H2 nid sz a x=some e:=by
 unfold Ev.append at*;simp only [zbB,zbE]at h ⊢;obtain⟨xs,h1,h2⟩:=h;refine⟨xs,qV hL h1,?_⟩;split at h2
 .exact h2
 .simp only [zbE]at h2 ⊢;obtain⟨x,h3,r⟩:=h2;exact⟨x,hL _ _ h3,r⟩
 .simp at h2
theorem yn{H1 H2:ak}(hL:Le H1 H2){sz:Nat}{a x:D}{e:Eff}(h:qa H1 sz a x=some e):qa H2 sz a x=some e:=by
 unfold qa at*;simp only [zbB,zbE]at h ⊢;obtain⟨xs,h1,h2⟩:=h;refine⟨xs,qV hL h1,?_⟩;split at h2
 .simp only [zbE]at h2 ⊢;obtain⟨x,h3,r⟩:=h2;exact⟨x,hL _ _ h3,r⟩
 .exact h2
 .simp at h2
theorem Dj{H1 H2:ak}(hL:Le H1 H2){E:Env}{nid:Nat}{o:Oper}{ρ:Operand->Option D}{e:Eff}(h:sem E nid o ρ H1=some e):sem E nid o ρ H2=some e:=by
 unfold sem at*
 cases ho:o.op with
 |load ty a=>
  simp only [ho,zbB,zbE,zsI]at h ⊢;obtain⟨i,h1,d,h2,d2,h3,rfl⟩:=h;exact⟨i,h1,d,h2,d2,Bs hL h3,rfl⟩
 |store ty a x=>
  simp only [ho,zbB,zbE]at h ⊢;obtain⟨i,h1,d,h2,d2,h3,h4⟩:=h;exact⟨i,h1,d,h2,d2,h3,ym hL h4⟩
 |slice ty x lo hi mx=>
  simp only [ho]at h ⊢;split at h
  .simp at h
  .rename_i hm;rw [if_neg hm];simp only [zbB,zbE]at h ⊢;obtain⟨i,h1,et,h2,te,h3,d,h4,n,h5,h',h6,l,h7,m,h7m,h8⟩:=h;refine⟨i,h1,et,h2,te,h3,d,h4,n,h5,h',h6,l,h7,m,h7m,?_⟩;split at h8
   .rename_i hle;rw [if_pos hle];split at h8
    .exact h8
    .simp only [zbE]at h8 ⊢;obtain⟨x,h9,r⟩:=h8;exact⟨x,hL _ _ h9,r⟩
    .simp at h8
   .simp at h8
 |indexAddr ty x ix=>
  simp only [ho,zbB,zbE]at h ⊢;obtain⟨i,h1,di,h2,n,h3,d,h5,h6⟩:=h;refine⟨i,h1,di,h2,n,h3,d,h5,?_⟩;split at h6
  .exact h6
  .simp only [zbE]at h6 ⊢;obtain⟨et,h7,te,h8,x,h9,r⟩:=h6;exact⟨et,h7,te,h8,x,hL _ _ h9,r⟩
  .exact h6
  .exact h6
  .simp at h6
 |convert src dst x=>
  simp only [ho,zbB,zbE]at h ⊢;obtain⟨d,h1,h2⟩:=h;refine⟨d,h1,?_⟩;split at h2
  .simp only [zbE]at h2 ⊢;obtain⟨td,g1,et,g2,te,g3,b,g4,r⟩:=h2;exact⟨td,g1,et,g2,te,g3,b,hL _ _ g4,r⟩
  .exact h2
 |call c=>
  simp only [ho]at h ⊢;split at h
  .simp only [zbB,zbE]at h ⊢;obtain⟨ty,h1,i,h2,args,h3,h4⟩:=h;refine⟨ty,h1,i,h2,args,h3,?_⟩;split at h4
   .exact h4
   .simp only [zbE]at h4 ⊢;obtain⟨et,h5,te,h6,ty1,h7,t1,h8,et1,h9,h10⟩:=h4;exact⟨et,h5,te,h6,ty1,h7,t1,h8,et1,h9,wX hL h10⟩
   .simp only [zbE]at h4 ⊢;obtain⟨et,h5,te,h6,ty1,h7,t1,h8,et1,h9,h10⟩:=h4;exact⟨et,h5,te,h6,ty1,h7,t1,h8,et1,h9,yn hL h10⟩
   .exact h4
   .exact h4
   .simp at h4
  .simp at h
 |_=>simp only [ho]at h ⊢;exact h
theorem iu{α β:Type}{f g:α->Option β}:∀{l:List α} {r:List β},(∀x∈l,∀y,f x=some y->g x=some y)->l.mapM f=some r->l.mapM g=some r
 | [],r,_,h=>by simpa using h
 |x::l,r,hf,h=>by
  simp only [List.mapM_cons,zbB,zbE,Option.pure_def,zsI]at h ⊢;obtain⟨y,h1,r',h2,rfl⟩:=h;exact⟨y,hf x List.mem_cons_self y h1,r',iu (λx hx=>hf x (List.mem_cons_of_mem _ hx)) h2,rfl⟩
theorem od{H1 H2:ak}(hL:Le H1 H2):∀(d:Nat) (c:C) (x:Bool×T),dS H1 d c=some x->dS H2 d c=some x
 |0,c,x,h=>by cases c<;>simp only [dS]at h ⊢<;>first|exact h|simp at h
 |d+1,c,x,h=>by
  cases c with
  |own k off n=>
   simp only [dS,zbB,zbE]at h ⊢;obtain⟨b,h1,es,h2,r,h3,h4⟩:=h;exact⟨b,hL _ _ h1,es,h2,r,iu (λe _ y hy=>iu (λc _ z hz=>od hL d c z hz) hy) h3,h4⟩
  |p fr t=>simpa only [dS]using h
  |_=>simp [dS]at h
theorem yo{H1 H2:ak}(hL:Le H1 H2){d:D}{x:Bool×TD}(h:cl H1 d=some x):cl H2 d=some x:=by
 cases d with
 |one c=>
  simp only [cl,zbB,zbE]at h ⊢;obtain⟨y,h1,h2⟩:=h;exact⟨y,od hL _ _ _ h1,h2⟩
 |agg cs=>
  simp only [cl,zbB,zbE]at h ⊢;obtain⟨r,h1,h2⟩:=h;exact⟨r,iu (λc _ z hz=>od hL _ c z hz) h1,h2⟩
 |tup ds=>simp [cl]at h
theorem oe{H1 H2:ak}(hL:Le H1 H2){E:Env}{cp:bw}{ops:Array Oper}{nid:Nat}{o:Oper}{g:Tmp->Option D}{e:Eff}(h:step E cp ops nid o g H1=some e):step E cp ops nid o g H2=some e:=by
 unfold step at*;simp only [zbB,zbE]at h ⊢;obtain⟨b,h1,h2⟩:=h;refine⟨b,h1,?_⟩;split at h2
 .rename_i hb;rw [if_pos hb];split at h2
  .unfold fV at*;simp only [zbB,zbE]at h2 ⊢;obtain⟨x,h3,vs,h4,r⟩:=h2;exact⟨x,h3,vs,iu (λd _ z hz=>yo hL hz) h4,r⟩
  .exact Dj hL h2
 .rename_i hb;rw [if_neg hb];exact h2
theorem cT:∀(u:List (Nat×Blk)) (H:ak),(∀x∈u.map (·.1),x<H.length)->(apply H u).length=H.length/\(∀k,k ∉ u.map (·.1)->(apply H u)[k]? =H[k]?)/\
  ∀k,k∈u.map (·.1)->∀H',H'.length=H.length->(apply H u)[k]? =(apply H' u)[k]?
 | [],H,h=>⟨rfl,λk _=>rfl,λk hk=>by simp at hk⟩
 |(j,b)::u,H,h=>by
  have hj:j<H.length:=h j (by simp);have e1:∀H':ak,H'.length=H.length->apply H' ((j,b)::u)=apply (H'.set j b) u:=λH' hl=>by simp [apply,av,hl,hj]
  obtain⟨g1,g2,g3⟩:=cT u (H.set j b) (λx hx=>by simpa using h x (by simp at hx ⊢;exact .inr hx));refine⟨by rw [e1 H rfl];simpa using g1,λk hk=> ?_,λk hk H' hl=> ?_⟩
  .rw [e1 H rfl,g2 k (λhh=>hk (by simp at hh ⊢;exact .inr hh)),List.getElem?_set,if_neg (λhh=>hk (by simp [hh]))]
  .rw [e1 H rfl,e1 H' hl];by_cases hku:k∈u.map (·.1)
   .exact g3 k hku _ (by simp [hl])
   .obtain⟨g1',g2',g3'⟩:=cT u (H'.set j b) (λx hx=>by simpa [hl]using h x (by simp at hx ⊢;exact .inr hx));rw [g2 k hku,g2' k hku]
    have hkj:k=j:=by
     simp only [List.map_cons,List.mem_cons]at hk;exact hk.resolve_right hku
    subst hkj;simp [hj,hl]
theorem yp{H:ak}{u v:List (Nat×Blk)}(hu:∀x∈u.map (·.1),x<H.length)(hv:∀x∈v.map (·.1),x<H.length)(hd:∀x∈u.map (·.1),x ∉ v.map (·.1)):apply (apply H u) v=apply (apply H v) u:=by
 obtain⟨u1,u2,u3⟩:=cT u H hu;obtain⟨v1,v2,v3⟩:=cT v H hv;obtain⟨a1,a2,a3⟩:=cT v (apply H u) (λx hx=>by rw [u1];exact hv x hx);obtain⟨b1,b2,b3⟩:=cT u (apply H v) (λx hx=>by rw [v1];exact hu x hx);refine List.ext_getElem? λk=> ?_;by_cases hku:k∈u.map (·.1)
 .rw [a2 k (hd k hku),b3 k hku H v1.symm]
 .by_cases hkv:k∈v.map (·.1)
  .rw [a3 k hkv H u1.symm,b2 k hku]
  .rw [a2 k hkv,b2 k hku,u2 k hku,v2 k hkv]
theorem qW{H:ak}{u:List (Nat×Blk)}{l:List Nat}(hu:∀x∈u.map (·.1),x<H.length)(hs:∀x∈u.map (·.1),x∈l):mask (apply H u) l=mask H l:=by
 obtain⟨u1,u2,u3⟩:=cT u H hu;refine List.ext_getElem? λk=> ?_;rw [ju,ju,u1];by_cases hk:k∈l/\k<H.length
 .rw [if_pos hk,if_pos hk]
 .rw [if_neg hk,if_neg hk];exact u2 k λhh=>hk ⟨hs k hh,hu k hh⟩
section
variable {E : Env} {cp : bw} {ops : Array Oper} {b : Nat} {U M : Nat → List Nat}
inductive wY(E:Env)(cp:bw)(ops:Array Oper)(b:Nat)(U M:Nat->List Nat):List (Nat×Oper)->St->St->Prop
 |nil (s:St):wY E cp ops b U M [] s s
 |cons (i:Nat) (o:Oper) (l:List (Nat×Oper)) (s s1 s':St) (e:Eff) (h1:step E cp ops (b+i) o (only (dq ops o) s.t) (mask s.h (M i))=some e) (h2:ids e=U i) (h3:∀x∈U i,x<s.h.length) (h4:put o s e=some s1)
   (h5:wY E cp ops b U M l s1 s'):wY E cp ops b U M ((i,o)::l) s s'
theorem jv:∀(l:List Oper) (i:Nat) (s s':St),bN E cp ops b U M i l s=some s'->wY E cp ops b U M ((l.zipIdx i).map λx=>(x.2,x.1)) s s'
 | [],i,s,s',h=>by simp only [bN,zsI]at h;subst h;exact .nil s
 |o::l,i,s,s',h=>by
  simp only [bN,zbB,zbE]at h;obtain⟨e,h1,h2⟩:=h;split at h2
  .rename_i hc;simp only [zbE]at h2;obtain⟨s1,h3,h4⟩:=h2;exact .cons i o _ s s1 s' e h1 hc.1 (λx hx=>by have:=List.all_eq_true.1 hc.2 x hx;simpa using this) h3 (jv l (i+1) s1 s' h4)
  .simp at h2
structure FU(ops:Array Oper)(U M:Nat->List Nat)(i j:Nat)(oi oj:Oper):Prop where
 lj:∀d,oi.dst=some d->d ∉ dq ops oj
 li:∀d,oj.dst=some d->d ∉ dq ops oi
 dd:∀d,oi.dst=some d->oj.dst≠some d
 uu:∀x∈U i,x ∉ U j
 mi:∀x∈U j,x∈M i
 mj:∀x∈U i,x∈M j
theorem eN{o:Oper}{s s1:St}{e:Eff}(h:put o s e=some s1):s1.h=apply s.h e.upd/\s1.t.length=s.t.length/\(∀d,o.dst=some d->d<s.t.length/\s1.t=s.t.set d e.v)/\(o.dst=none->s1.t=s.t):=by
 unfold put at h;simp only [zbB,zbE,zsI]at h;obtain⟨t,h1,rfl⟩:=h;unfold jk at h1
 cases ho:o.dst with
 |none=>rw [ho]at h1;simp only [zsI]at h1;exact⟨rfl,by rw [h1],λd hd=>by simp at hd,λ_=>h1.symm⟩
 |some d=>
  rw [ho]at h1;simp only at h1;split at h1
  .rename_i hlt;simp only [zsI]at h1;exact⟨rfl,by rw [<-h1];simp,λd' hd=>by cases hd;exact⟨hlt,h1.symm⟩,λhd=>by simp at hd⟩
  .simp at h1
theorem wZ{o:Oper}{s s1:St}{e:Eff}(h:put o s e=some s1){l:List Tmp}(hl:∀d,o.dst=some d->d ∉ l):only l s1.t=only l s.t:=by
 obtain⟨_,_,h1,h2⟩:=eN h;funext i;unfold only;split
 .rename_i hi
  cases ho:o.dst with
  |none=>rw [h2 ho]
  |some d=>
   rw [(h1 d ho).2,List.getElem?_set,if_neg (λhh=>hl d ho (by subst hh;simpa using hi))]
 .rfl
theorem zK{o:Oper}{s s0 s1:St}{e e':Eff}(h:put o s e=some s1)(hl:s0.t.length=s.t.length):∃s2,put o s0 e'=some s2:=by
 unfold put at*;simp only [zbB,zbE,zsI]at h ⊢;obtain⟨t,h1,_⟩:=h;unfold jk at*
 cases ho:o.dst with
 |none=>exact⟨_,_,rfl,rfl⟩
 |some d=>
  rw [ho]at h1;simp only at h1;split at h1
  .rename_i hlt;simp only [hl,hlt,if_true];exact⟨_,_,rfl,rfl⟩
  .simp at h1
theorem Dk{oi oj:Oper}{s s1 s2 r1 r2:St}{ei ej:Eff}(hj:put oj s ej=some s1)(hi:put oi s1 ei=some s2)(gi:put oi s ei=some r1)(gj:put oj r1 ej=some r2)(hd:∀d,oi.dst=some d->oj.dst≠some d)
  (hu:∀x∈ids ej,x<s.h.length) (hv:∀x∈ids ei,x<s.h.length) (hh:∀x∈ids ej,x ∉ ids ei):r2=s2:=by
 obtain⟨a1,a2,a3,a4⟩:=eN hj;obtain⟨b1,b2,b3,b4⟩:=eN hi;obtain⟨c1,c2,c3,c4⟩:=eN gi;obtain⟨d1,d2,d3,d4⟩:=eN gj;have hheap:r2.h=s2.h:=by rw [d1,c1,b1,a1];exact(yp hu hv hh).symm
 have htm:r2.t=s2.t:=by
  cases hoi:oi.dst with
  |none=>
   cases hoj:oj.dst with
   |none=>rw [d4 hoj,c4 hoi,b4 hoi,a4 hoj]
   |some d=>rw [(d3 d hoj).2,c4 hoi,b4 hoi,(a3 d hoj).2]
  |some d'=>
   cases hoj:oj.dst with
   |none=>rw [d4 hoj,(c3 d' hoi).2,(b3 d' hoi).2,a4 hoj]
   |some d=>
    have hne:d'≠d:=λhh=>hd d' hoi (by rw [hoj,hh]);rw [(d3 d hoj).2,(c3 d' hoi).2,(b3 d' hoi).2,(a3 d hoj).2,List.set_comm _ _ hne]
 cases r2;cases s2;simp_all
theorem lE{i:Nat}{oi:Oper}{l2:List (Nat×Oper)}:∀(l1:List (Nat×Oper)) (s s':St),(∀x∈l1,FU ops U M i x.1 oi x.2)->wY E cp ops b U M (l1++(i,oi)::l2) s s'->
  ∃e s1,step E cp ops (b+i) oi (only (dq ops oi) s.t) (mask s.h (M i))=some e/\ids e=U i/\(∀x∈U i,x<s.h.length)/\put oi s e=some s1/\wY E cp ops b U M (l1++l2) s1 s'
 | [],s,s',_,h=>by
  cases h with
  |cons _ _ _ _ s1 _ e h1 h2 h3 h4 h5=>exact⟨e,s1,h1,h2,h3,h4,h5⟩
 |(j,oj)::l1,s,s',hs,h=>by
  cases h with
  |cons _ _ _ _ s1 _ ej h1 h2 h3 h4 h5=>
   obtain⟨ei,s2,g1,g2,g3,g4,g5⟩:=lE l1 s1 s' (λx hx=>hs x (List.mem_cons_of_mem _ hx)) h5;have W:=hs (j,oj) List.mem_cons_self;simp only at W;obtain⟨p1,p2,p3,p4⟩:=eN h4;have hidj:∀x∈ids ej,x<s.h.length:=λx hx=>h3 x (by rw [<-h2];exact hx);have hlen:s1.h.length=s.h.length:=by rw [p1];exact(cT _ _ hidj).1
   have e1:step E cp ops (b+i) oi (only (dq ops oi) s.t) (mask s.h (M i))=some ei:=by
    rw [<-wZ h4 W.li,<-qW (l:=M i) hidj (λx hx=>W.mi x (by rw [<-h2];exact hx)),<-p1];exact g1
   obtain⟨r1,hr1⟩:=zK (e':=ei) g4 (s0:=s) p2.symm;have hidi:∀x∈ids ei,x<s.h.length:=λx hx=>by rw [<-hlen];exact g3 x (by rw [<-g2];exact hx)
   obtain⟨q1,q2,q3,q4⟩:=eN hr1;have hlen2:r1.h.length=s.h.length:=by rw [q1];exact(cT _ _ hidi).1
   have e2:step E cp ops (b+j) oj (only (dq ops oj) r1.t) (mask r1.h (M j))=some ej:=by
    rw [wZ hr1 W.lj,q1,qW (l:=M j) hidi (λx hx=>W.mj x (by rw [<-g2];exact hx))];exact h1
   obtain⟨r2,hr2⟩:=zK (e':=ej) h4 (s0:=r1) q2
   have:r2=s2:=Dk h4 g4 hr1 hr2 W.dd hidj hidi (λx hx hx2=>W.uu x (by rw [<-g2];exact hx2) (by rw [<-h2];exact hx))
   subst this;exact⟨ei,r1,e1,g2,λx hx=>by rw [<-hlen];exact g3 x hx,hr1,.cons j oj _ r1 r2 s' ej e2 h2 (λx hx=>by rw [hlen2];exact h3 x hx) hr2 g5⟩
end
end Ev
end
noncomputable section
namespace Ev
open Go Go.RowKit
theorem tA(acc:Array Nat):∀(l:List Edge) (s:Nat) (j:Nat),(l.foldl (λs e=>if Region.binds .any e then s|||2 ^ e.on|||acc.getD e.on 0 else s) s).testBit j=true->
  s.testBit j=true∨∃e∈l,Region.binds .any e=true/\(e.on=j∨(acc.getD e.on 0).testBit j=true)
 | [],s,j,h=> .inl h
 |e::l,s,j,h=>by
  simp only [List.foldl_cons]at h;rcases tA acc l _ j h with h1|⟨e',h1,h2⟩
  .split at h1
   .rename_i hb;simp only [Nat.testBit_or,Bool.or_eq_true,Nat.testBit_two_pow,decide_eq_true_eq]at h1;rcases h1 with(h1|h1)|h1
    .exact .inl h1
    .exact .inr ⟨e,List.mem_cons_self,hb,.inl h1⟩
    .exact .inr ⟨e,List.mem_cons_self,hb,.inr h1⟩
   .exact .inl h1
  .exact .inr ⟨e',List.mem_cons_of_mem _ h1,h2⟩
theorem oQ:∀(l:List Oper) (acc:Array Nat),acc.size<=(l.foldl (λacc o=>acc.push (o.after.foldl (λs e=>if Region.binds .any e then s|||2 ^ e.on|||acc.getD e.on 0 else s) 0)) acc).size/\
  (∀i,i<acc.size->(l.foldl (λacc o=>acc.push (o.after.foldl (λs e=>if Region.binds .any e then s|||2 ^ e.on|||acc.getD e.on 0 else s) 0)) acc).getD i 0=acc.getD i 0)/\
  ∀(i:Nat) o j,l[i]? =some o->((l.foldl (λacc o=>acc.push (o.after.foldl (λs e=>if Region.binds .any e then s|||2 ^ e.on|||acc.getD e.on 0 else s) 0)) acc).getD (acc.size+i) 0).testBit j=true->
   ∃e∈o.after.toList,Region.binds .any e=true/\(e.on=j∨((l.foldl (λacc o=>acc.push (o.after.foldl (λs e=>if Region.binds .any e then s|||2 ^ e.on|||acc.getD e.on 0 else s) 0)) acc).getD e.on 0).testBit j=true)
 | [],acc=>⟨Nat.le_refl _,λ_ _=>rfl,λi o j h=>by simp at h⟩
 |o::l,acc=>by
  obtain⟨h1,h2,h3⟩:=oQ l (acc.push (o.after.foldl (λs e=>if Region.binds .any e then s|||2 ^ e.on|||acc.getD e.on 0 else s) 0));simp only [List.foldl_cons];simp only [Array.size_push]at h1 h2 h3
  have keep:∀i,i<acc.size->(List.foldl (λacc o=>acc.push (o.after.foldl (λs e=>if Region.binds .any e then s|||2 ^ e.on|||acc.getD e.on 0 else s) 0)) (acc.push (o.after.foldl (λs e=>if Region.binds .any e then s|||2 ^ e.on|||acc.getD e.on 0 else s) 0)) l).getD i 0=acc.getD i 0:=λi hi=>by
   rw [h2 i (by omega)];simp [Array.getD_eq_getD_getElem?,Array.getElem?_push,show¬i=acc.size by omega]
  refine⟨by omega,keep,λi o' j hi hb=> ?_⟩
  cases i with
  |zero=>
   simp only [List.getElem?_cons_zero,zsI]at hi;subst hi;rw [Nat.add_zero,h2 acc.size (by omega)]at hb
   have e1:(acc.push (o.after.foldl (λs e=>if Region.binds .any e then s|||2 ^ e.on|||acc.getD e.on 0 else s) 0)).getD acc.size 0=o.after.foldl (λs e=>if Region.binds .any e then s|||2 ^ e.on|||acc.getD e.on 0 else s) 0:=by
    simp [Array.getD_eq_getD_getElem?]
   rw [e1,<-Array.foldl_toList]at hb;rcases tA acc o.after.toList 0 j hb with h|⟨e,g1,g2,g3⟩
   .simp at h
   .refine⟨e,g1,g2,g3.imp id λg=> ?_⟩;by_cases hlt:e.on<acc.size
    .rw [keep e.on hlt];exact g
    .rw [Array.getD_eq_getD_getElem?,Array.getElem?_eq_none (by omega)]at g;simp at g
  |succ i=>
   exact h3 i o' j (by simpa using hi) (by rw [show acc.size+1+i=acc.size+(i+1)by omega];exact hb)
theorem xa(ops:Array Oper){i:Nat}{o:Oper}(ho:ops[i]? =some o){j:Nat}(h:((Region.before ops).getD i 0).testBit j=true):
  ∃e∈o.after.toList,Region.binds .any e=true/\(e.on=j∨((Region.before ops).getD e.on 0).testBit j=true):=by
 have hb:Region.before ops=ops.toList.foldl (λacc o=>acc.push (o.after.foldl (λs e=>if Region.binds .any e then s|||2 ^ e.on|||acc.getD e.on 0 else s) 0)) #[]:=by
  unfold Region.before;rw [<-Array.foldl_toList]
 rw [hb]at h ⊢;exact(oQ ops.toList #[]).2.2 i o j (by simpa using ho) (by simpa using h)
section
variable {E : Env} {cp : bw} {ops : Array Oper} {b : Nat} {U M : Nat → List Nat} {base : Nat} {F0 : Nat → Prop}
structure Inv(ops:Array Oper)(A:Nat->Nat)(listed:Array Bool)(l:List (Nat×Oper)):Prop where
 mem:∀i,i<ops.size->(listed.getD i true=false↔∃o,(i,o)∈l)
 size:listed.size=ops.size
 op:∀x∈l,ops[x.1]? =some x.2
 sorted:l.Pairwise λx y=>x.1<y.1
 closed:∀i,i<ops.size->listed.getD i true=true->∀j,j<ops.size->(A i).testBit j=true->listed.getD j true=true
structure qX(ops:Array Oper)(b:Nat)(A:Nat->Nat)(U M:Nat->List Nat):Prop where
 slot:∀(i j:Nat),i<ops.size->j<ops.size->i≠j->(A i).testBit j=false->b+j ∉ U i
 edges:∀(i:Nat) o,ops[i]? =some o->∀e∈o.after.toList,Region.binds .any e=true->e.on<i
 spec:∀(i:Nat) o,ops[i]? =some o->∀j,(A i).testBit j=true->∃e∈o.after.toList,Region.binds .any e=true/\(e.on=j∨(A e.on).testBit j=true)
 back:∀(i j:Nat),j<ops.size->i<j->(A i).testBit j=false
 swap:∀(i j:Nat) oi oj,ops[i]? =some oi->ops[j]? =some oj->bf A i j=true->FU ops U M i j oi oj
theorem Dl(hE:dr E.P E.ti)(hcp:oc E.P cp)(hF:∀b,F0 b->b<base){A:Nat->Nat}(S:qX ops b A U M){Q:Exit->Act->World->Prop}:
  ∀(fuel:Nat) (l:List (Nat×Oper)) (listed:Array Bool) (s s':St) (a:Act) (w:World) (ρ:Nat->Nat),l.length=fuel->Inv ops A listed l->wY E cp ops b U M l s s'->(∀x∈l,∀B,s.h[b+x.1]? =some B->B= .no)->
   Rel base F0 ρ s a w->(∀a' w' ρ',Rel base F0 ρ' s' a' w'->Ext w ρ s.h w' ρ' s'.h->a'.defers=a.defers->Q .normal a' w')->wpAny E.P .any ops Q fuel listed a w:=by
 intro fuel
 induction fuel with
 |zero=>
  intro l listed s s' a w ρ hl I hM hno R hQ
  have:l= []:=List.length_eq_zero_iff.1 hl
  subst this;cases hM;refine⟨?_,hQ a w ρ R (Ext.refl _ _ _) rfl⟩;unfold Region.ready;refine List.filter_eq_nil_iff.2 λi hi hh=> ?_;have hlt:i<ops.size:=by simpa using hi
  have:=(I.mem i hlt).1 (by simp only [Bool.and_eq_true,Bool.not_eq_true']at hh;exact hh.1)
  obtain⟨o,ho⟩:=this;simp at ho
 |succ fuel ih=>
  intro l listed s s' a w ρ hl I hM hno R hQ;refine⟨λhr=> ?_,λi hi=> ?_⟩
  ·-- the first that is left is ready
   exfalso
   match l,hl with
   |(i,o)::l',_=>
    have ho:=I.op (i,o) List.mem_cons_self;simp only at ho;have hlt:i<ops.size:=(Array.getElem?_eq_some_iff.1 ho).1
    have hmem:i∈Region.ready .any ops listed:=by
     unfold Region.ready;rw [List.mem_filter];refine⟨by simpa using hlt,?_⟩;rw [(I.mem i hlt).2 ⟨o,List.mem_cons_self⟩,ho];simp only [Bool.not_false,Bool.true_and,Option.map_some,Option.getD_some];rw [<-Array.all_toList,List.all_eq_true];intro e he
     cases hb:Region.binds .any e with
     |false=>rfl
     |true=>
      have hlt2:=S.edges i o ho e he hb
      have:listed.getD e.on true=true:=by
       cases hh:listed.getD e.on true with
       |true=>rfl
       |false=>
        obtain⟨o2,ho2⟩:=(I.mem e.on (by omega)).1 hh;have hs:=I.sorted;rw [List.pairwise_cons]at hs;rcases List.mem_cons.1 ho2 with h|h
        .simp only [Prod.mk.injEq]at h;omega
        .have:=hs.1 _ h;simp only at this;omega
      have e2:listed.getD e.on false=true:=by
       have hsz:e.on<listed.size:=by rw [I.size];omega
       simpa [Array.getD_eq_getD_getElem?,Array.getElem?_eq_getElem hsz]using this
      simp [e2]
    rw [hr]at hmem;simp at hmem
  .unfold Region.ready at hi;rw [List.mem_filter]at hi;obtain⟨hi1,hi2⟩:=hi;have hlt:i<ops.size:=by simpa using hi1
   simp only [Bool.and_eq_true,Bool.not_eq_true']at hi2;obtain⟨hnl,hpre⟩:=hi2;obtain⟨o,hol⟩:=(I.mem i hlt).1 hnl;have ho:=I.op (i,o) hol;simp only at ho;rw [ho]at hpre;simp only [Option.map_some,Option.getD_some]at hpre;rw [<-Array.all_toList,List.all_eq_true]at hpre
   have hdir:∀e∈o.after.toList,Region.binds .any e=true->listed.getD e.on true=true:=λe he hb=>by
    have:=hpre e he
    rw [hb]at this;simp only [Bool.not_true,Bool.false_or]at this;have hsz:e.on<listed.size:=by rw [I.size];have:=S.edges i o ho e he hb;omega
    simpa [Array.getD_eq_getD_getElem?,Array.getElem?_eq_getElem hsz]using this
   have hanc:∀j,j<ops.size->(A i).testBit j=true->listed.getD j true=true:=λj hj hb=>by
    obtain⟨e,g1,g2,g3⟩:=S.spec i o ho j hb;rcases g3 with g3|g3
    .rw [<-g3];exact hdir e g1 g2
    .exact I.closed e.on (by have:=S.edges i o ho e g1 g2;omega) (hdir e g1 g2) j hj g3
   obtain⟨l1,l2,rfl⟩:=List.append_of_mem hol;have hsort:=I.sorted;rw [List.pairwise_append]at hsort
   have hne:∀x∈l1++l2,x.1≠i:=λx hx=>by
    rcases List.mem_append.1 hx with h|h
    .have:=hsort.2.2 x h (i,o) List.mem_cons_self;simp only at this;omega
    .have:=(List.pairwise_cons.1 hsort.2.1).1 x h;simp only at this;omega
   have hsw:∀x∈l1,FU ops U M i x.1 o x.2:=λx hx=>by
    have hxo:=I.op x (List.mem_append_left _ hx);have hxlt:x.1<ops.size:=(Array.getElem?_eq_some_iff.1 hxo).1;have hlti:=hsort.2.2 x hx (i,o) List.mem_cons_self;simp only at hlti;refine S.swap i x.1 o x.2 ho hxo ?_
    have h1:(A i).testBit x.1=false:=by
     cases hh:(A i).testBit x.1 with
     |false=>rfl
     |true=>
      have:=hanc x.1 hxlt hh
      have h2:=(I.mem x.1 hxlt).2 ⟨x.2,List.mem_append_left _ hx⟩;rw [this]at h2;simp at h2
    have h2:=S.back x.1 i hlt hlti;unfold bf;simp [h1,h2];omega
   obtain⟨e,s1,g1,g2,g3,g4,g5⟩:=lE l1 s s' hsw hM;have hstep:=oe (vt s.h (M i)) g1;have hids:∀x∈ids e,x<s.h.length:=λx hx=>g3 x (by rw [<-g2];exact hx);have hlen:s1.h=apply s.h e.upd:=(eN g4).1
   have hG:RelG w base (Fb F0 ρ s.h) ρ s.h (only (dq ops o) s.t) a:=λk d hk=>by
    unfold only at hk;split at hk
    .exact R.tmps.2.2 k d hk
    .simp at hk
   have hst:=vr (Q:=Q) hE hcp R.heap R.base hF (nid:=b+i) (hno (i,o) (List.mem_append_right _ List.mem_cons_self)) hG hstep (K:=wpAny E.P .any ops Q fuel (listed.setIfInBounds i true)) (λa' w' haft=>by
    obtain⟨ρ',R',X',D'⟩:=haft.rel R g4;refine ih (l1++l2) (listed.setIfInBounds i true) s1 s' a' w' ρ' (by simp at hl ⊢;omega) ?_ g5 (λx hx B hB=> ?_) R' λa2 w2 ρ2 R2 X2 D2=>hQ a2 w2 ρ2 R2 (X'.trans X2) (D2.trans D')
    .have hsub:∀x,x∈l1++l2->x∈l1++(i,o)::l2:=λx hx=>by
      rcases List.mem_append.1 hx with h|h
      .exact List.mem_append_left _ h
      .exact List.mem_append_right _ (List.mem_cons_of_mem _ h)
     refine⟨λk hk=> ?_,by simp [I.size],λx hx=>I.op x (hsub x hx),?_,λk hk hl k2 hk2 hb=> ?_⟩
     .by_cases hki:k=i
      .subst hki;have hsz:k<listed.size:=by rw [I.size];exact hk
       constructor
       .intro h;simp [Array.getD_eq_getD_getElem?,Array.getElem?_setIfInBounds,hsz]at h
       .rintro⟨o2,ho2⟩;exact absurd rfl (hne _ ho2)
      .have e1:(listed.setIfInBounds i true).getD k true=listed.getD k true:=by
        simp [Array.getD_eq_getD_getElem?,Array.getElem?_setIfInBounds,show¬i=k by omega]
       rw [e1,I.mem k hk];constructor
       .rintro⟨o2,ho2⟩;refine⟨o2,?_⟩;rcases List.mem_append.1 ho2 with h|h
        .exact List.mem_append_left _ h
        .rcases List.mem_cons.1 h with h|h
         .simp only [Prod.mk.injEq]at h;exact absurd h.1 hki
         .exact List.mem_append_right _ h
       .rintro⟨o2,ho2⟩;refine⟨o2,?_⟩;rcases List.mem_append.1 ho2 with h|h
        .exact List.mem_append_left _ h
        .exact List.mem_append_right _ (List.mem_cons_of_mem _ h)
     .rw [List.pairwise_append];exact⟨hsort.1,(List.pairwise_cons.1 hsort.2.1).2,λx hx y hy=>hsort.2.2 x hx y (List.mem_cons_of_mem _ hy)⟩
     .have up:∀q,listed.getD q true=true->(listed.setIfInBounds i true).getD q true=true:=λq hq=>by
       simp only [Array.getD_eq_getD_getElem?,Array.getElem?_setIfInBounds]at hq ⊢;split
       .split<;>simp
       .exact hq
      by_cases hki:k=i
      .subst hki;exact up _ (hanc k2 hk2 hb)
      .have e1:(listed.setIfInBounds i true).getD k true=listed.getD k true:=by
        simp [Array.getD_eq_getD_getElem?,Array.getElem?_setIfInBounds,show¬i=k by omega]
       rw [e1]at hl;exact up _ (I.closed k hk hl k2 hk2 hb)
    .have hxl:x∈l1++(i,o)::l2:=by
      rcases List.mem_append.1 hx with h|h
      .exact List.mem_append_left _ h
      .exact List.mem_append_right _ (List.mem_cons_of_mem _ h)
     have hxlt:x.1<ops.size:=(Array.getElem?_eq_some_iff.1 (I.op x hxl)).1
     have hord:(A i).testBit x.1=false:=by
      cases hh:(A i).testBit x.1 with
      |false=>rfl
      |true=>
       have h1:=hanc x.1 hxlt hh;have h2:=(I.mem x.1 hxlt).2 ⟨x.2,hxl⟩;rw [h1]at h2;simp at h2
     have hin:b+x.1 ∉ ids e:=by rw [g2];exact S.slot i x.1 hlt hxlt (Ne.symm (hne x hx)) hord
     rw [hlen,(cT _ _ hids).2.1 _ hin]at hB
     exact hno x hxl B hB)
   unfold wpOp;rw [ho];exact hst
structure Of(ops:Array Oper)(m:Nat)(A:Nat->Nat)(listed:Array Bool)(l:List (Nat×Oper)):Prop where
 mem:∀i,i<m->(listed.getD i true=false↔∃o,(i,o)∈l)
 tail:∀i,m<=i->i<ops.size->listed.getD i true=false
 size:listed.size=ops.size
 op:∀x∈l,ops[x.1]? =some x.2
 lt:∀x∈l,x.1<m
 sorted:l.Pairwise λx y=>x.1<y.1
 closed:∀i,i<ops.size->listed.getD i true=true->∀j,j<ops.size->(A i).testBit j=true->listed.getD j true=true
theorem xb{F:Fence}{n:Nat}{P:Program}{Q:Exit->Act->World->Prop}{A:Nat->Nat}(S:qX ops b A U M):∀(k i:Nat) (listed:Array Bool) (a:Act) (w:World),i+k=ops.size->(∀j,j<ops.size->listed.getD j true=decide (j<i))->listed.size=ops.size->
  (∀i',i<=i'->i'<ops.size->∀j,j<i'->(A i').testBit j=true)->wpOpsIn F n P ops Q (List.range' i k) a w->wpAnyIn F n P .any ops Q k listed a w
 |0,i,listed,a,w,hk,hl,hs,hc,h=>by
  refine⟨?_,h⟩;unfold Region.ready;refine List.filter_eq_nil_iff.2 λj hj hh=> ?_;have hlt:j<ops.size:=by simpa using hj
  simp only [Bool.and_eq_true,Bool.not_eq_true']at hh
  have:=hl j hlt
  rw [hh.1,decide_eq_true (show j<i by omega)]at this;simp at this
 |k+1,i,listed,a,w,hk,hl,hs,hc,h=>by
  have hi:i<ops.size:=by omega
  have ho:ops[i]? =some ops[i]:=Array.getElem?_eq_getElem hi
  have on:∀q,q<ops.size->listed.getD q false=decide (q<i):=λq hq=>by
   rw [<-hl q hq];simp [Array.getD_eq_getD_getElem?,Array.getElem?_eq_getElem (show q<listed.size by omega)]
  refine⟨λhr=> ?_,λj hj=> ?_⟩
  .exfalso
   have:i∈Region.ready .any ops listed:=by
    refine mem_ready.2 ⟨by rw [hl i hi];simp,_,ho,λe he hb=> ?_⟩
    have:=S.edges i _ ho e (by simpa using he) hb
    rw [on e.on (by omega),decide_eq_true this]
   rw [hr]at this;simp at this
  .obtain⟨h1,o,h2,h3⟩:=mem_ready.1 hj;have hjlt:j<ops.size:=(Array.getElem?_eq_some_iff.1 h2).1;rw [hl j hjlt]at h1
   have hji:j=i:=by
    by_cases hh:j=i
    .exact hh
    .exfalso;have hgt:i<j:=by simp at h1;omega
     obtain⟨e,g1,g2,g3⟩:=S.spec j o h2 i (hc j (by omega) hjlt i hgt);have g4:=h3 e (by simpa using g1) g2;have g5:=S.edges j o h2 e g1 g2;rw [on e.on (by omega)]at g4;have g6:e.on<i:=by simpa using g4
     rcases g3 with g3|g3
     .omega
     .rw [S.back e.on i hi g6]at g3;simp at g3
   subst hji;rw [List.range'_succ,wpOpsIn_cons]at h;refine wpOpIn_mono (λa' w' h'=>xb S k (j+1) _ a' w' (by omega) (λq hq=> ?_) (by simp [hs]) (λi' h1=>hc i' (by omega)) h') h;by_cases hq2:q=j
   .subst hq2;simp [Array.getD_eq_getD_getElem?,Array.getElem?_setIfInBounds,show q<listed.size by omega]
   .have:=hl q hq
    simp only [Array.getD_eq_getD_getElem?,Array.getElem?_setIfInBounds,show¬j=q by omega,if_false]at this ⊢;rw [this];by_cases hlt:q<j
    .rw [decide_eq_true hlt,decide_eq_true (by omega)]
    .rw [decide_eq_false hlt,decide_eq_false (by omega)]
theorem Bt(hE:dr E.P E.ti)(hcp:oc E.P cp)(hF:∀b,F0 b->b<base){A:Nat->Nat}(S:qX ops b A U M){m k n:Nat}{r:Option Nat}(hm:m+k=ops.size)(hcut:∀i,m<=i->i<ops.size->∀j,j<i->(A i).testBit j=true)(hd:∀(i:Nat) o,ops[i]? =some o->dE o=true){Q:Exit->Act->World->Prop}(hno':¬LetsOut Q):
  ∀(fuel:Nat) (l:List (Nat×Oper)) (listed:Array Bool) (s s':St) (a:Act) (w:World) (ρ:Nat->Nat),l.length=fuel->Of ops m A listed l->wY E cp ops b U M l s s'->(∀x∈l,∀B,s.h[b+x.1]? =some B->B= .no)->
   Rel base F0 ρ s a w->(∀a' w' ρ',Rel base F0 ρ' s' a' w'->Ext w ρ s.h w' ρ' s'.h->a'.defers=a.defers->wpOpsIn (FR r) n E.P ops Q (List.range' m k) a' w')->wpAnyIn (FR r) n E.P .any ops Q (fuel+k) listed a w:=by
 intro fuel
 induction fuel with
 |zero=>
  intro l listed s s' a w ρ hl I hM hno R hQ
  have:l= []:=List.length_eq_zero_iff.1 hl
  subst this;cases hM;rw [Nat.zero_add];refine xb S k m listed a w hm (λj hj=> ?_) I.size hcut (hQ a w ρ R (Ext.refl _ _ _) rfl);by_cases hjm:j<m
  .rw [decide_eq_true hjm]
   cases hh:listed.getD j true with
   |true=>rfl
   |false=>obtain⟨o,ho⟩:=(I.mem j hjm).1 hh;simp at ho
  .rw [decide_eq_false hjm];exact I.tail j (by omega) hj
 |succ fuel ih=>
  intro l listed s s' a w ρ hl I hM hno R hQ;rw [show fuel+1+k=(fuel+k)+1 by omega];refine⟨λhr=> ?_,λi hi=> ?_⟩
  ·-- the first that is left is ready
   exfalso
   match l,hl with
   |(i,o)::l',_=>
    have ho:=I.op (i,o) List.mem_cons_self;simp only at ho;have hlt:i<ops.size:=(Array.getElem?_eq_some_iff.1 ho).1
    have hmem:i∈Region.ready .any ops listed:=by
     unfold Region.ready;rw [List.mem_filter];refine⟨by simpa using hlt,?_⟩;have him:i<m:=I.lt (i,o) List.mem_cons_self;rw [(I.mem i him).2 ⟨o,List.mem_cons_self⟩,ho];simp only [Bool.not_false,Bool.true_and,Option.map_some,Option.getD_some];rw [<-Array.all_toList,List.all_eq_true];intro e he
     cases hb:Region.binds .any e with
     |false=>rfl
     |true=>
      have hlt2:=S.edges i o ho e he hb
      have:listed.getD e.on true=true:=by
       cases hh:listed.getD e.on true with
       |true=>rfl
       |false=>
        have him:i<m:=I.lt (i,o) List.mem_cons_self;obtain⟨o2,ho2⟩:=(I.mem e.on (by omega)).1 hh;have hs:=I.sorted;rw [List.pairwise_cons]at hs;rcases List.mem_cons.1 ho2 with h|h
        .simp only [Prod.mk.injEq]at h;omega
        .have:=hs.1 _ h;simp only at this;omega
      have e2:listed.getD e.on false=true:=by
       have hsz:e.on<listed.size:=by rw [I.size];omega
       simpa [Array.getD_eq_getD_getElem?,Array.getElem?_eq_getElem hsz]using this
      simp [e2]
    rw [hr]at hmem;simp at hmem
  .unfold Region.ready at hi;rw [List.mem_filter]at hi;obtain⟨hi1,hi2⟩:=hi;have hlt:i<ops.size:=by simpa using hi1
   simp only [Bool.and_eq_true,Bool.not_eq_true']at hi2;obtain⟨hnl,hpre⟩:=hi2;obtain⟨o,ho⟩:∃o,ops[i]? =some o:=⟨ops[i],Array.getElem?_eq_getElem hlt⟩;rw [ho]at hpre;simp only [Option.map_some,Option.getD_some]at hpre;rw [<-Array.all_toList,List.all_eq_true]at hpre
   have hdir:∀e∈o.after.toList,Region.binds .any e=true->listed.getD e.on true=true:=λe he hb=>by
    have:=hpre e he
    rw [hb]at this;simp only [Bool.not_true,Bool.false_or]at this;have hsz:e.on<listed.size:=by rw [I.size];have:=S.edges i o ho e he hb;omega
    simpa [Array.getD_eq_getD_getElem?,Array.getElem?_eq_getElem hsz]using this
   have hanc:∀j,j<ops.size->(A i).testBit j=true->listed.getD j true=true:=λj hj hb=>by
    obtain⟨e,g1,g2,g3⟩:=S.spec i o ho j hb;rcases g3 with g3|g3
    .rw [<-g3];exact hdir e g1 g2
    .exact I.closed e.on (by have:=S.edges i o ho e g1 g2;omega) (hdir e g1 g2) j hj g3
   have him:i<m:=by
    match l,hl with
    |(i0,o0)::l',_=>
     by_cases hh:i<m
     .exact hh
     .have h0:=I.lt (i0,o0) List.mem_cons_self;simp only at h0;have h1:=hanc i0 (by omega) (hcut i (by omega) hlt i0 (by omega));have h2:=(I.mem i0 h0).2 ⟨o0,List.mem_cons_self⟩;rw [h1]at h2;simp at h2
   have hol:(i,o)∈l:=by
    obtain⟨o',ho'⟩:=(I.mem i him).1 hnl
    have:=I.op (i,o') ho'
    simp only at this;rw [ho]at this;obtain rfl:=Option.some.inj this;exact ho'
   obtain⟨l1,l2,rfl⟩:=List.append_of_mem hol;have hsort:=I.sorted;rw [List.pairwise_append]at hsort
   have hne:∀x∈l1++l2,x.1≠i:=λx hx=>by
    rcases List.mem_append.1 hx with h|h
    .have:=hsort.2.2 x h (i,o) List.mem_cons_self;simp only at this;omega
    .have:=(List.pairwise_cons.1 hsort.2.1).1 x h;simp only at this;omega
   have hsw:∀x∈l1,FU ops U M i x.1 o x.2:=λx hx=>by
    have hxo:=I.op x (List.mem_append_left _ hx);have hxlt:x.1<ops.size:=(Array.getElem?_eq_some_iff.1 hxo).1;have hlti:=hsort.2.2 x hx (i,o) List.mem_cons_self;simp only at hlti;refine S.swap i x.1 o x.2 ho hxo ?_
    have h1:(A i).testBit x.1=false:=by
     cases hh:(A i).testBit x.1 with
     |false=>rfl
     |true=>
      have:=hanc x.1 hxlt hh
      have h2:=(I.mem x.1 (I.lt x (List.mem_append_left _ hx))).2 ⟨x.2,List.mem_append_left _ hx⟩;rw [this]at h2;simp at h2
    have h2:=S.back x.1 i hlt hlti;unfold bf;simp [h1,h2];omega
   obtain⟨e,s1,g1,g2,g3,g4,g5⟩:=lE l1 s s' hsw hM;have hstep:=oe (vt s.h (M i)) g1;have hids:∀x∈ids e,x<s.h.length:=λx hx=>g3 x (by rw [<-g2];exact hx);have hlen:s1.h=apply s.h e.upd:=(eN g4).1
   have hG:RelG w base (Fb F0 ρ s.h) ρ s.h (only (dq ops o) s.t) a:=λk d hk=>by
    unfold only at hk;split at hk
    .exact R.tmps.2.2 k d hk
    .simp at hk
   have hst:=vr (Q:=Q) hE hcp R.heap R.base hF (nid:=b+i) (hno (i,o) (List.mem_append_right _ List.mem_cons_self)) hG hstep (K:=wpAnyIn (FR r) n E.P .any ops Q (fuel+k) (listed.setIfInBounds i true)) (λa' w' haft=>by
    obtain⟨ρ',R',X',D'⟩:=haft.rel R g4;refine ih (l1++l2) (listed.setIfInBounds i true) s1 s' a' w' ρ' (by simp at hl ⊢;omega) ?_ g5 (λx hx B hB=> ?_) R' λa2 w2 ρ2 R2 X2 D2=>hQ a2 w2 ρ2 R2 (X'.trans X2) (D2.trans D')
    .have hsub:∀x,x∈l1++l2->x∈l1++(i,o)::l2:=λx hx=>by
      rcases List.mem_append.1 hx with h|h
      .exact List.mem_append_left _ h
      .exact List.mem_append_right _ (List.mem_cons_of_mem _ h)
     refine⟨λk hk=> ?_,λk hk1 hk2=> ?_,by simp [I.size],λx hx=>I.op x (hsub x hx),λx hx=>I.lt x (hsub x hx),?_,λk hk hl k2 hk2 hb=> ?_⟩
     .by_cases hki:k=i
      .subst hki;have hsz:k<listed.size:=by rw [I.size];omega
       constructor
       .intro h;simp [Array.getD_eq_getD_getElem?,Array.getElem?_setIfInBounds,hsz]at h
       .rintro⟨o2,ho2⟩;exact absurd rfl (hne _ ho2)
      .have e1:(listed.setIfInBounds i true).getD k true=listed.getD k true:=by
        simp [Array.getD_eq_getD_getElem?,Array.getElem?_setIfInBounds,show¬i=k by omega]
       rw [e1,I.mem k hk];constructor
       .rintro⟨o2,ho2⟩;refine⟨o2,?_⟩;rcases List.mem_append.1 ho2 with h|h
        .exact List.mem_append_left _ h
        .rcases List.mem_cons.1 h with h|h
         .simp only [Prod.mk.injEq]at h;exact absurd h.1 hki
         .exact List.mem_append_right _ h
       .rintro⟨o2,ho2⟩;refine⟨o2,?_⟩;rcases List.mem_append.1 ho2 with h|h
        .exact List.mem_append_left _ h
        .exact List.mem_append_right _ (List.mem_cons_of_mem _ h)
     .have e1:(listed.setIfInBounds i true).getD k true=listed.getD k true:=by
       simp [Array.getD_eq_getD_getElem?,Array.getElem?_setIfInBounds,show¬i=k by omega]
      rw [e1];exact I.tail k hk1 hk2
     .rw [List.pairwise_append];exact⟨hsort.1,(List.pairwise_cons.1 hsort.2.1).2,λx hx y hy=>hsort.2.2 x hx y (List.mem_cons_of_mem _ hy)⟩
     .have up:∀q,listed.getD q true=true->(listed.setIfInBounds i true).getD q true=true:=λq hq=>by
       simp only [Array.getD_eq_getD_getElem?,Array.getElem?_setIfInBounds]at hq ⊢;split
       .split<;>simp
       .exact hq
      by_cases hki:k=i
      .subst hki;exact up _ (hanc k2 hk2 hb)
      .have e1:(listed.setIfInBounds i true).getD k true=listed.getD k true:=by
        simp [Array.getD_eq_getD_getElem?,Array.getElem?_setIfInBounds,show¬i=k by omega]
       rw [e1]at hl;exact up _ (I.closed k hk hl k2 hk2 hb)
    .have hxl:x∈l1++(i,o)::l2:=by
      rcases List.mem_append.1 hx with h|h
      .exact List.mem_append_left _ h
      .exact List.mem_append_right _ (List.mem_cons_of_mem _ h)
     have hxlt:x.1<ops.size:=(Array.getElem?_eq_some_iff.1 (I.op x hxl)).1
     have hord:(A i).testBit x.1=false:=by
      cases hh:(A i).testBit x.1 with
      |false=>rfl
      |true=>
       have h1:=hanc x.1 hxlt hh;have h2:=(I.mem x.1 (I.lt x hxl)).2 ⟨x.2,hxl⟩;rw [h1]at h2;simp at h2
     have hin:b+x.1 ∉ ids e:=by rw [g2];exact S.slot i x.1 hlt hxlt (Ne.symm (hne x hx)) hord
     rw [hlen,(cT _ _ hids).2.1 _ hin]at hB
     exact hno x hxl B hB)
   unfold wpOpIn;rw [ho];dsimp only;unfold qS at hst;by_cases hw:Region.wanted o (yielded ops a.tmps)=true
   .rw [if_pos hw]at hst ⊢;rcases hst with h|⟨_,h⟩
    .exact iP (hd i o ho) h
    .exact absurd h hno'
   .rw [if_neg hw]at hst ⊢;exact⟨λ_ _=>trivial,hst⟩
end
end Ev
end
end Go.Proofs.Ytkmbihigeeclbaa
