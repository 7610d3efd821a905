/- Texts of a claim, joined. -/
import Derived.Test.YtkmbihigeeclbaaZFB2
import Derived.RangeFuncNested
import Derived.Deep.Slices
import Derived.OpenShut
import Derived.WideShapes
import Derived.ChangeShapes
set_option linter.unusedVariables false
set_option linter.unusedSimpArgs false
namespace Go.Proofs.Ytkmbihigeeclbaa
noncomputable section
namespace Ev
open Go Go.RowKit
section
variable {w : World} {base : Nat} {F0 : Nat → Prop} {ρ : Nat → Nat} {H : ak}
theorem xc(R:HRel w base F0 ρ H):∀(d:Nat) (c:C) (b:Bool) (t:T) (y:Value),dS H d c=some (b,t)->RepC w base (Fb F0 ρ H) ρ H c y->RepT w (λq=>q<base/\(b=true∨F0 q)) t y:=by
 have hp:∀(fr b:Bool) (t t':T) (y:Value),some ((match t with| .v _=>true|_=>fr),t)=some (b,t')->RepC w base (Fb F0 ρ H) ρ H (.p fr t) y->RepT w (λq=>q<base/\(b=true∨F0 q)) t' y:=by
  intro fr b t t' y h hr;simp only [zsI,Prod.mk.injEq]at h;obtain⟨h1,rfl⟩:=h
  cases hr with
  |p fr t y hr=>
   cases t with
   |v x=>cases hr with|v _ hx=>exact .v _ hx
   |s nn sz l=>
    simp at h1;subst h1;exact hr.weak λq hq=>hq.2.elim (λh=> .inr ⟨h,hq.1⟩) λh=> .inl (.inl h)
 intro d
 induction d with
 |zero=>
  intro c b t y h hr
  cases c with
  |p fr t0=>exact hp fr b t0 t y h hr
  |_=>simp [dS]at h
 |succ d ih=>
  intro c b t y h hr
  cases c with
  |p fr t0=>exact hp fr b t0 t y h hr
  |own k off n=>
   simp only [dS,zbB,zbE,zsI,Prod.mk.injEq]at h;obtain⟨⟨sz,es⟩,h1,es',h2,r,h3,h4,rfl⟩:=h;have hb:=bk h1;obtain⟨m1,m2,m3⟩:=ce h3;obtain⟨c1,c2,c3⟩:=dt h2
   cases hr with
   |own k off n c a hk hn ha=>
    obtain⟨g1,g2⟩:=ha _ _ hb;have hlen:(r.map (·.map (·.2))).length=n:=by simp [m1,c1]
    have:=RepT.s (w:=w) (F:=λq=>q<base/\(b=true∨F0 q)) true sz (r.map (·.map (·.2))) (some a) c (λi j=>(w.cell? (a.add (i*sz+j))).getD .nilFunc) rfl (by omega) (λh=>by cases h)
     (λi e hi=>by
      simp only [List.getElem?_map,Option.map_eq_some_iff]at hi;obtain⟨q,q1,rfl⟩:=hi;obtain⟨x,x1,x2⟩:=m3 i q q1;obtain⟨l1,l2⟩:=gB h2 x1
      have:=R.wid k sz es hb _ x l2
      simp [(ce x2).1,this]) ?_ ?_
    .rwa [hlen]at this
    all_goals
     intro i e j t hi hj;simp only [List.getElem?_map,Option.map_eq_some_iff]at hi;obtain⟨q,q1,rfl⟩:=hi;simp only [List.getElem?_map,Option.map_eq_some_iff]at hj;obtain⟨p,p1,rfl⟩:=hj;obtain⟨x,x1,x2⟩:=m3 i q q1;obtain⟨l1,l2⟩:=gB h2 x1;obtain⟨n1,n2,n3⟩:=ce x2;obtain⟨cc,d1,d2⟩:=n3 j p p1;obtain⟨y,e1,e2⟩:=R.cell k sz es hb _ j x cc l2 d1;have e3:w.cell? (a.add (i*sz+j))=some y:=by rw [g1,Addr.add_mid,<-e1,Nat.add_mul,Nat.add_assoc]
    .refine⟨a,rfl,?_,λh=> ?_,by rw [e3];rfl⟩
     .rw [g1];exact R.lt k sz es hb
     .rw [g1]at h
      have:=(R.lo k sz es hb).1
      have:=h.1
      simp only at this;omega
    .rw [e3];refine(ih cc p.1 p.2 y d2 e2).weak λz hz=>⟨hz.1,hz.2.imp (λhbt=> ?_) id⟩;rw [<-h4]at hbt
     have:=List.all_eq_true.1 hbt q (List.mem_of_getElem? q1)
     exact List.all_eq_true.1 this p (List.mem_of_getElem? p1)
  |_=>simp [dS]at h
theorem Bu(R:HRel w base F0 ρ H){d:D}{b:Bool}{td:TD}{y:Value}(h:cl H d=some (b,td))(hr:RepD w base (Fb F0 ρ H) ρ H d y):RepTD w (λq=>q<base/\(b=true∨F0 q)) td y:=by
 cases hr with
 |one c y hr=>
  simp only [cl,zbB,zbE,zsI,Prod.mk.injEq]at h;obtain⟨⟨b',t⟩,h1,rfl,rfl⟩:=h;exact .one _ _ (xc R _ _ _ _ _ h1 hr)
 |agg cs ys hr=>
  simp only [cl,zbB,zbE,zsI,Prod.mk.injEq]at h;obtain⟨r,h1,rfl,rfl⟩:=h;obtain⟨m1,m2,m3⟩:=ce h1;refine .agg _ _ ⟨by simp [m1,hr.1],λi t hi=> ?_⟩;simp only [List.getElem?_map,Option.map_eq_some_iff]at hi;obtain⟨p,p1,rfl⟩:=hi;obtain⟨c,c1,c2⟩:=m3 i p p1;obtain⟨y,y1,y2⟩:=hr.2 i c c1;refine⟨y,y1,(xc R _ _ _ _ _ c2 y2).weak λz hz=>⟨hz.1,hz.2.imp (λhbt=> ?_) id⟩⟩;exact List.all_eq_true.1 hbt p (List.mem_of_getElem? p1)
 |tup=>simp [cl]at h
end
section
variable {E : Env} {cp : bw} {cf : zl} {base : Nat} {F0 : Nat → Prop}
theorem Rel.drew{s:St}{a:Act}{w:World}{ρ:Nat->Nat}(R:Rel base F0 ρ s a w):Rel base F0 ρ s a w.drew/\Ext w ρ s.h w.drew ρ s.h:=by
 have X:Ext w ρ s.h w.drew ρ s.h:=⟨rfl,rfl,rfl,Nat.le_refl _,λ_ _ _=>rfl,λ_ _ h=>h,λ_ _=>rfl,λk B hB hn=>⟨B,hB,hn,λsz es h=>⟨es,h,rfl⟩⟩,λk es _ h=>⟨h,rfl⟩⟩;exact⟨⟨eF R.heap X (λk sz es h=> .inl ⟨h,rfl,rfl⟩) λk k' _ _ _ _ h1 h2 h3=>R.heap.inj k k' _ _ _ _ h1 h2 h3,R.tmps.mono λc y hc=>hc.ext R.heap.lt X,R.base⟩,X⟩
theorem Rel.pad{s:St}{a:Act}{w:World}{ρ:Nat->Nat}(R:Rel base F0 ρ s a w)(n:Nat):Rel base F0 ρ {s with h:=s.h++List.replicate n .no} a w/\Ext w ρ s.h w ρ (s.h++List.replicate n .no):=by
 have hback:∀(k sz:Nat) (es:List (List C)),(s.h++List.replicate n Blk.no)[k]? =some (.own sz es)->s.h[k]? =some (.own sz es):=λk sz es h=>by
  rw [List.getElem?_append]at h;split at h
  .exact h
  .rw [List.getElem?_replicate]at h;split at h<;>simp at h
 have hkeep:∀(k:Nat) B,s.h[k]? =some B->(s.h++List.replicate n Blk.no)[k]? =some B:=λk B h=>by
  rw [List.getElem?_append_left (List.getElem?_eq_some_iff.1 h).1];exact h
 have X:Ext w ρ s.h w ρ (s.h++List.replicate n .no):=⟨rfl,rfl,rfl,Nat.le_refl _,λ_ _ _=>rfl,λb hb ⟨k,sz,es,h1,h2⟩=>⟨k,sz,es,hback _ _ _ h1,h2⟩,λ_ _=>rfl,λk B hB hn=>⟨B,hkeep k B hB,hn,λsz es h=>⟨es,h,rfl⟩⟩,λk es _ h=>⟨hkeep k _ h,rfl⟩⟩;exact⟨⟨eF R.heap X (λk sz es h=> .inl ⟨hback _ _ _ h,rfl,rfl⟩) λk k' _ _ _ _ h1 h2 h3=>R.heap.inj k k' _ _ _ _ (hback _ _ _ h1) (hback _ _ _ h2) h3,R.tmps.mono λc y hc=>hc.ext R.heap.lt X,R.base⟩,X⟩
theorem lG:∀(l:List Oper) (k:Nat),(((l.zipIdx k).map λx=>(x.2,x.1)).Pairwise λx y:Nat×Oper=>x.1<y.1)/\∀x∈(l.zipIdx k).map λx=>(x.2,x.1),k<=x.1
 | [],k=>⟨by simp,λx hx=>by simp at hx⟩
 |o::l,k=>by
  obtain⟨h1,h2⟩:=lG l (k+1);simp only [List.zipIdx_cons,List.map_cons,List.pairwise_cons];refine⟨⟨λx hx=> ?_,h1⟩,λx hx=> ?_⟩
  .have:=h2 x hx;omega
  .rcases List.mem_cons.1 hx with h|h
   .subst h;exact Nat.le_refl _
   .have:=h2 x h;omega
theorem mem_idx{ops:Array Oper}{i:Nat}{o:Oper}:(i,o)∈(ops.toList.zipIdx 0).map (λx=>(x.2,x.1))↔ops[i]? =some o:=by
 rw [List.mem_map];constructor
 .rintro⟨⟨o',i'⟩,h1,h2⟩;simp only [Prod.mk.injEq]at h2;obtain⟨rfl,rfl⟩:=h2
  have:=List.mk_mem_zipIdx_iff_getElem?.1 h1
  simpa using this
 .intro h;exact⟨(o,i),List.mk_mem_zipIdx_iff_getElem?.2 (by simpa using h),rfl⟩
theorem kE{ops:Array Oper}{b:Nat}{U:Nat->List Nat}(h:fW ops b (λi=>(Region.before ops).toList.getD i 0) U=true):
  qX ops b (λi=>(Region.before ops).toList.getD i 0) U (λi=>((List.range ops.size).map λi=>((List.range ops.size).filter (bf (λi=>(Region.before ops).toList.getD i 0) i)).flatMap U).getD i []):=by
 unfold fW at h;simp only [Bool.and_eq_true,List.all_eq_true]at h;obtain⟨⟨_,h1⟩,h2⟩:=h;have hmem:∀(i:Nat) o,ops[i]? =some o->(o,i)∈ops.toList.zipIdx:=λi o ho=>List.mk_mem_zipIdx_iff_getElem?.2 (by simpa using ho);have hget:∀i,i<ops.size->∃o,ops[i]? =some o:=λi hi=>⟨ops[i],Array.getElem?_eq_getElem hi⟩;have hA:∀i,(Region.before ops).toList.getD i 0=(Region.before ops).getD i 0:=λi=>by simp [List.getD_eq_getElem?_getD,Array.getD_eq_getD_getElem?]
 have hM:∀i j,i<ops.size->j<ops.size->bf (λi=>(Region.before ops).toList.getD i 0) i j=true->∀x∈U j,x∈((List.range ops.size).map λi=>((List.range ops.size).filter (bf (λi=>(Region.before ops).toList.getD i 0) i)).flatMap U).getD i []:=by
  intro i j hi hj hu x hx;rw [List.getD_eq_getElem?_getD,List.getElem?_map,List.getElem?_range hi];simp only [Option.map_some,Option.getD_some];rw [List.mem_flatMap];exact⟨j,by rw [List.mem_filter];exact⟨by simpa using hj,hu⟩,hx⟩
 refine⟨λi j hi hj hne hord=> ?_,λi o ho e he hb=> ?_,λi o ho j hb=> ?_,λi j hj hlt=> ?_,λi j oi oj hoi hoj hu=> ?_⟩
 .obtain⟨oi,ho⟩:=hget i hi;obtain⟨oj,hoj⟩:=hget j hj
  have:=(h2 _ (hmem i oi ho) _ (hmem j oj hoj)).1.2
  simp only [Bool.or_eq_true,beq_iff_eq,Bool.not_eq_true',List.contains_eq_mem,decide_eq_false_iff_not]at this;refine this.resolve_left λh=>h.elim hne λh=> ?_;rw [hord]at h;simp at h
 .have:=h1 _ (hmem i o ho)
  rw [<-Array.all_toList,List.all_eq_true]at this
  have:=this e he
  rw [hb]at this;simpa using this
 .simp only [hA]at hb ⊢;exact xa ops ho hb
 .have hi:i<ops.size:=by omega
  obtain⟨oi,ho⟩:=hget i hi;obtain⟨oj,hoj⟩:=hget j hj
  have:=(h2 _ (hmem i oi ho) _ (hmem j oj hoj)).1.1
  simp only [Bool.or_eq_true,Bool.not_eq_true',decide_eq_false_iff_not]at this;exact this.resolve_left (λhh=>hh hlt)
 .have hi:i<ops.size:=(Array.getElem?_eq_some_iff.1 hoi).1;have hj:j<ops.size:=(Array.getElem?_eq_some_iff.1 hoj).1
  have:=(h2 _ (hmem i oi hoi) _ (hmem j oj hoj)).2
  simp only [Bool.or_eq_true,Bool.not_eq_true']at this;have hs:=this.resolve_left (by rw [hu];simp);simp only [Bool.and_eq_true]at hs;obtain⟨ha,hd⟩:=hs;unfold Ch at ha;simp only [Bool.and_eq_true]at ha;obtain⟨ha1,ha2⟩:=ha
  have hu2:bf (λi=>(Region.before ops).toList.getD i 0) j i=true:=by
   unfold bf at hu ⊢;simp only [Bool.and_eq_true,bne_iff_ne,ne_eq]at hu ⊢;exact⟨⟨λh=>hu.1.1 h.symm,hu.2⟩,hu.1.2⟩
  refine⟨λd hd'=> ?_,λd hd'=> ?_,λd hd'=> ?_,λx hx=> ?_,hM i j hi hj hu,hM j i hj hi hu2⟩
  .rw [hd']at ha1;simp only [Bool.and_eq_true,Bool.not_eq_true',List.contains_eq_mem,decide_eq_false_iff_not]at ha1;exact ha1.1
  .rw [hd']at ha2;simp only [Bool.not_eq_true',List.contains_eq_mem,decide_eq_false_iff_not]at ha2;exact ha2
  .rw [hd']at ha1;simp only [Bool.and_eq_true,bne_iff_ne,ne_eq]at ha1;exact ha1.2
  .unfold ie at hd
   have:=List.all_eq_true.1 hd x hx
   simpa using this
theorem mU{ops:Array Oper}{b:Nat}{A:Nat->Nat}{U:Nat->List Nat}(h:fW ops b A U=true):∀(i:Nat) o,ops[i]? =some o->dE o=true:=by
 unfold fW at h;simp only [Bool.and_eq_true]at h;intro i o ho;exact List.all_eq_true.1 h.1.1 o (by rw [Array.mem_toList_iff];exact Array.mem_of_getElem? ho)
theorem mV{P:Program}{ops:Array Oper}{Q:Exit->Act->World->Prop}{r:Option Nat}{n:Nat}(hd:∀(i:Nat) o,ops[i]? =some o->dE o=true)(hno:¬LetsOut Q):
  ∀(is:List Nat) (a:Act) (w:World),wpOps P ops Q is a w->wpOpsIn (FR r) n P ops Q is a w
 | [],_,_,h=>h
 |i::rest,a,w,h=>by
  unfold wpOps at h;unfold wpOpsIn
  cases ho:ops[i]? with
  |none=>
   rw [ho]at h;exact mV hd hno rest a w h
  |some o=>
   rw [ho]at h;dsimp only at h ⊢;by_cases hw:Region.wanted o (yielded ops a.tmps)=true
   .rw [if_pos hw]at h ⊢;rcases h with h|⟨_,h⟩
    .exact iP (hd i o ho) (Oper.wp_mono (λa w=>mV hd hno rest a w) h)
    .exact absurd h hno
   .rw [if_neg hw]at h ⊢;exact⟨λ_ _=>trivial,mV hd hno rest _ _ h⟩
theorem sJ{P:Program}{id n:Nat}{r:Option Nat}{ops:Array Oper}{Q:Exit->Act->World->Prop}{a:Act}{w:World}(hm:P.follows .mixedOrders=true)(hd:∀(i:Nat) o,ops[i]? =some o->dE o=true)
  (h:wpAny P .any ops (λe a w=>e= .normal/\Q .normal a w) ops.size (Array.replicate ops.size false) a {w with drawn:=w.drawn+1}):(Code.region id ops true).wpIn (FR r) n P Q a w:=by
 have h2:(Code.region id ops true).wpIn (FR r) n P (λe a w=>e= .normal/\Q .normal a w) a w:=
  wpIn_region_draw λt=>by
   simp only [Region.schedule,hm,Bool.true_or,if_true];exact mV (Q:=λe a w=>e= .normal/\Q .normal a w) hd (by rintro⟨_,_,h,_⟩;cases h) _ _ _ (wpAny_sound ops.size t _ a _ h)
 exact Code.wpIn_mono (λe a w ⟨h1,h3⟩=>by subst h1;exact h3) h2
theorem FV(hE:dr E.P E.ti)(hcp:oc E.P cp)(hm:E.P.follows .mixedOrders=true)(hF:∀b,F0 b->b<base){id n:Nat}{r:Option Nat}{ops:Array Oper}{s s':St}{a:Act}{w:World}{ρ:Nat->Nat}(R:Rel base F0 ρ s a w)(h:fX E cp ops s=some s')
  {Q:Exit->Act->World->Prop} (hQ:∀a' w' ρ',Rel base F0 ρ' s' a' w'->Ext w ρ s.h w' ρ' s'.h->a'.defers=a.defers->Q .normal a' w'):(Code.region id ops true).wpIn (FR r) n E.P Q a w:=by
 unfold fX at h;simp only [zbB,zbE]at h;obtain⟨U0,h1,h2⟩:=h;split at h2
 .rename_i hd;refine sJ hm (mU hd) ?_;have S:=kE hd;have hrun:=jv _ _ _ _ h2;obtain⟨R1,X1⟩:=R.drew;obtain⟨R2,X2⟩:=R1.pad ops.size;refine Dl (Q:=λe a w=>e= .normal/\Q .normal a w) hE hcp hF S ops.size ((ops.toList.zipIdx 0).map λx=>(x.2,x.1)) _ _ s' a _ ρ (by simp) ?_ hrun (λx hx B hB=> ?_) R2 λa' w' ρ' R3 X3 D3=>⟨rfl,hQ a' w' ρ' R3 ((X1.trans X2).trans X3) D3⟩
  .refine⟨λi hi=> ?_,by simp,λx hx=>mem_idx.1 (by cases x;exact hx),(lG _ _).1,λi hi hl=> ?_⟩
   .simp only [Array.getD_eq_getD_getElem?,Array.getElem?_replicate,hi,if_true,Option.getD_some,true_iff];exact⟨ops[i],mem_idx.2 (Array.getElem?_eq_getElem hi)⟩
   .simp [Array.getD_eq_getD_getElem?,Array.getElem?_replicate,hi]at hl
  .rw [List.getElem?_append_right (by omega),List.getElem?_replicate]at hB;split at hB
   .simpa using hB.symm
   .simp at hB
 .simp at h2
theorem Dm{ops:Array Oper}{m:Nat}(h:jm ops=some m):m<=ops.size/\∀i,m<=i->i<ops.size->∀j,j<i->((Region.before ops).toList.getD i 0).testBit j=true:=by
 unfold jm at h;simp only at h;split at h
 .split at h
  .rename_i h1;simp only [zsI]at h;subst h;refine⟨h1.1,λi hi hlt j hj=> ?_⟩;have h2:=List.all_eq_true.1 h1.2 i (by simpa using hlt);simp only [Bool.or_eq_true,decide_eq_true_eq]at h2;have h3:=h2.resolve_left (by omega);exact List.all_eq_true.1 h3 j (by simpa using hj)
  .simp at h
 .simp at h
theorem Dn{cf:fG}{A B:Nat->Prop}{J:ak->(Nat->Nat)->World->Prop}(hE:dr E.P E.ti)(hcp:oc E.P cp)(hcf:wV E.P cf.f)(hY:YOk E.P base F0 cf.y A B J)(hm:E.P.follows .mixedOrders=true)(hF:∀b,F0 b->b<base){id n m:Nat}{r:Option Nat}{ops:Array Oper}{s s':St}{a:Act}{w:World}{ρ:Nat->Nat}(hc:jm ops=some m)(R:Rel base F0 ρ s a w)(hJ:J s.h ρ w)(h:zn E cp cf ops m s=some s')
  {Q:Exit->Act->World->Prop} (hno:¬LetsOut Q) (hQ:∀a' w' ρ',Rel base F0 ρ' s' a' w'->ExtA A w ρ s.h w' ρ' s'.h->J s'.h ρ' w'->a'.defers=a.defers->Q .normal a' w'):(Code.region id ops true).wpIn (FR r) n E.P Q a w:=by
 obtain⟨hle,hcut⟩:=Dm hc;unfold zn at h;simp only [zbB]at h;split at h
 .rename_i hd;simp only [zbE]at h;obtain⟨s1,h1,h2⟩:=h;refine wpIn_region_any hm ?_
  have S:qX ops s.h.length (λi=>(Region.before ops).toList.getD i 0) (λ_=> []) (λ_=> []):=by
   have S0:=kE hd
   have e:(λi=>((List.range ops.size).map λi=>((List.range ops.size).filter (bf (λi=>(Region.before ops).toList.getD i 0) i)).flatMap λ_=>([]:List Nat)).getD i [])=λ_=> []:=by
    funext i;rw [List.getD_eq_getElem?_getD,List.getElem?_map];cases (List.range ops.size)[i]? <;>simp
   rw [e]at S0;exact S0
  have hrun:=jv _ _ _ _ h1;obtain⟨R1,X1⟩:=R.drew;obtain⟨R2,X2⟩:=R1.pad ops.size
  have hin:∀i o,(i,o)∈((ops.toList.take m).zipIdx 0).map (λx=>(x.2,x.1))->i<m/\ops[i]? =some o:=λi o hx=>by
   rw [List.mem_map]at hx;obtain⟨⟨o',i'⟩,g1,g2⟩:=hx;simp only [Prod.mk.injEq]at g2;obtain⟨rfl,rfl⟩:=g2
   have:=List.mk_mem_zipIdx_iff_getElem?.1 g1
   rw [List.getElem?_take]at this;split at this
   .rename_i hlt;exact⟨hlt,by simpa using this⟩
   .simp at this
  have hat:∀i o,i<m->ops[i]? =some o->(i,o)∈((ops.toList.take m).zipIdx 0).map (λx=>(x.2,x.1)):=λi o hi ho=>by
   rw [List.mem_map];refine⟨(o,i),List.mk_mem_zipIdx_iff_getElem?.2 ?_,rfl⟩;rw [List.getElem?_take,if_pos hi];simpa using ho
  have key:=Bt (Q:=Q) (n:=n) (r:=r) (m:=m) (k:=ops.size - m) hE hcp hF S (by omega) hcut (mU hd) hno m (((ops.toList.take m).zipIdx 0).map λx=>(x.2,x.1)) (Array.replicate ops.size false) _ _ a _ ρ (by simp;omega) ?_ hrun (λx hx B hB=> ?_) R2 λa' w' ρ' R3 X3 D3=> ?_
  .rw [show m+(ops.size - m)=ops.size by omega]at key;exact key
  .refine⟨λi hi=> ?_,λi h1 h2=> ?_,by simp,λx hx=>(hin x.1 x.2 hx).2,λx hx=>(hin x.1 x.2 hx).1,(lG _ _).1,λi hi hl=> ?_⟩
   .have hlt:i<ops.size:=by omega
    simp only [Array.getD_eq_getD_getElem?,Array.getElem?_replicate,hlt,if_true,Option.getD_some,true_iff];exact⟨ops[i],hat i _ hi (Array.getElem?_eq_getElem hlt)⟩
   .simp [Array.getD_eq_getD_getElem?,Array.getElem?_replicate,h2]
   .simp [Array.getD_eq_getD_getElem?,Array.getElem?_replicate,hi]at hl
  .rw [List.getElem?_append_right (by omega),List.getElem?_replicate]at hB;split at hB
   .simpa using hB.symm
   .simp at hB
  .have X:=(X1.trans X2).trans X3;refine qU hE hcp hcf hY hF hno (ops.toList.drop m) _ s1 s' a' w' ρ' ⟨by simp,λi q hi=> ?_⟩ R3 (hY.keep _ _ _ _ _ _ R.heap hJ X.toA R3.heap) h2 λa2 w2 ρ2 R4 X4 J4 D4=>hQ a2 w2 ρ2 R4 (X.toA.trans X4) J4 (D4.trans D3);have hlt:=(List.getElem?_eq_some_iff.1 hi).1;simp at hlt;rw [List.getElem?_range' (by simpa using hlt)]at hi;simp only [zsI]at hi;subst hi;simp
 .simp at h
def Do:Ex->Exit
 | .normal=> .normal
 | .exit id=> .exit id
 | .ret=> .ret
theorem jR{w:World}{l:Nat}{o o':Obj}(h:w.heap[l]? =some o)(h1:o.isCells=false)(h2:o'.isCells=false)(b:Nat):aU (w.putObj l o') b=aU w b:=by
 unfold aU;by_cases hb:b=l
 .subst hb;rw [World.putObj_heap_same (Array.getElem?_eq_some_iff.1 h).1,h];cases o<;>cases o'<;>simp_all [Obj.isCells]
 .rw [World.putObj_heap_other hb]
theorem xd{w:World}{l:Nat}{o:Obj}(h:w.heap[l]? =some o)(h1:o.isCells=false):aU w l=0:=by
 unfold aU;rw [h];cases o<;>simp_all [Obj.isCells]
theorem xe{w:World}{l:Nat}{o o':Obj}(h:w.heap[l]? =some o)(h1:o.isCells=false){a:Addr}{v:Value}(hc:w.cell? a=some v):(w.putObj l o').cell? a=some v:=by
 have hb:a.block≠l:=λe=>by have:=kN hc;rw [e,xd h h1]at this;omega
 rw [World.cell?_of_block (w:=w) (World.putObj_heap_other hb)];exact hc
theorem Bv{w:World}{l:Nat}{o o':Obj}(h:w.heap[l]? =some o)(h2:o'.isCells=false){b:Nat}(hf:Clean w b):Clean (w.putObj l o') b:=by
 by_cases hb:b=l
 .intro c t lo hi hg;rw [hb,World.putObj_heap_same (Array.getElem?_eq_some_iff.1 h).1]at hg;cases hg;simp [Obj.isCells]at h2
 .exact hf.keep (World.putObj_heap_other hb)
section
variable {w : World} {base : Nat} {F0 : Nat → Prop} {ρ : Nat → Nat} {H : ak} {l : Nat} {o o' : Obj}
theorem RepC.obj{F:Nat->Prop}(h:w.heap[l]? =some o)(h1:o.isCells=false)(h2:o'.isCells=false){c:C}{y:Value}(hr:RepC w base F ρ H c y):RepC (w.putObj l o') base F ρ H c y:=
 hr.mono (Nat.le_of_eq World.putObj_size.symm) (λb hb hp hn=>⟨World.putObj_heap_other λe=>by rw [e,xd h h1]at hp;omega,hn⟩) λk B hB hno=>⟨B,hB,hno,λsz es' he=>⟨es',he,rfl,jR h h1 h2 _⟩⟩
theorem HRel.obj(R:HRel w base F0 ρ H)(h:w.heap[l]? =some o)(h1:o.isCells=false)(h2:o'.isCells=false):HRel (w.putObj l o') base F0 ρ H where
 laid:=R.laid.cells (Nat.le_of_eq World.putObj_size.symm) λa v hc=>xe h h1 hc
 lo:=λk sz es hk=>by rw [World.putObj_size];exact R.lo k sz es hk
 inj:=R.inj
 fz:=λk sz es hk=>Bv h h2 (R.fz k sz es hk)
 fit:=λk sz es hk=>by rw [jR h h1 h2];exact R.fit k sz es hk
 wid:=R.wid
 cell:=λk sz es hk i j e c hi hj=>let⟨y,g1,g2⟩:=R.cell k sz es hk i j e c hi hj;⟨y,xe h h1 g1,g2.obj h h1 h2⟩
theorem Rel.obj{s:St}{a:Act}(R:Rel base F0 ρ s a w)(h:w.heap[l]? =some o)(h1:o.isCells=false)(h2:o'.isCells=false):Rel base F0 ρ s a (w.putObj l o'):=
 ⟨R.heap.obj h h1 h2,R.tmps.mono λc y hc=>hc.obj h h1 h2,by rw [World.putObj_size];exact R.base⟩
theorem mW(R:HRel w base F0 ρ H){A:Nat->Prop}{k:Nat}{es:List (List C)}(hk:H[k]? =some (.own 0 es))(hA:A k)(h:w.heap[ρ k]? =some o)(h1:o.isCells=false)(h2:o'.isCells=false)(e:Ex):
  HRel (w.putObj (ρ k) o') base F0 ρ (av H k (jh e))/\ExtA A w ρ H (w.putObj (ρ k) o') ρ (av H k (jh e)):=by
 have hrows:∀(i:Nat) x,(List.replicate (qc e) ([]:List C))[i]? =some x->x= []:=λi x hx=>List.eq_of_mem_replicate (List.mem_of_getElem? hx)
 have X:ExtA A w ρ H (w.putObj (ρ k) o') ρ (av H k (jh e)):=by
  refine⟨rfl,rfl,rfl,by rw [World.putObj_size];exact Nat.le_refl _,λb hb hn=>World.putObj_heap_other λhh=>hn ⟨k,0,es,hk,hh.symm⟩,λb hb ⟨j,sz',es',g1,g2⟩=> ?_,λb hb=>jR h h1 h2 b,λj B hB hno=> ?_,λj es1 hnA hB=> ?_⟩
  .by_cases hj:j=k
   .subst hj;exact⟨j,0,es,hk,g2⟩
   .exact⟨j,sz',es',ba hj (by simp) g1,g2⟩
  .by_cases hj:j=k
   .subst hj;rw [hk]at hB;cases hB;exact⟨_,aR _ _ _,by simp [jh],λsz2 es2 he=>by unfold jh at he;cases he;exact⟨es,rfl,rfl⟩⟩
   .exact⟨B,bJ hj hB,hno,λsz2 es2 he=>⟨es2,he,rfl⟩⟩
  .have hj:j≠k:=λe=>hnA (e▸hA);exact⟨bJ hj hB,World.putObj_heap_other λhh=>hj (R.inj j k _ _ _ _ hB hk hh)⟩
 have R1:=R.obj (o':=o') h h1 h2;refine⟨?_,X⟩;refine eF R X (λj sz' es' g=> ?_) λj j' s1 e1 s2 e2 g1 g2 g3=> ?_
 .by_cases hj:j=k
  .subst hj;rw [aR]at g;unfold jh at g;cases g;refine .inr ⟨(R1.lo j 0 es hk).1,(R1.lo j 0 es hk).2,R1.fz j 0 es hk,by simp,λi x hx=>by rw [hrows i x hx];rfl,λi q x c hx hc=>by rw [hrows i x hx]at hc;simp at hc⟩
  .have g1:=ba hj (by simp) g;exact .inl ⟨g1,rfl,World.putObj_heap_other λhh=>hj (R.inj j k _ _ _ _ g1 hk hh)⟩
 .have own:∀(j s1:Nat) (e1:List (List C)),(av H k (jh e))[j]? =some (Blk.own s1 e1)->∃s2 e2,H[j]? =some (Blk.own s2 e2):=λj s1 e1 g=>by
   by_cases hj:j=k
   .subst hj;exact⟨_,_,hk⟩
   .exact⟨_,_,ba hj (by simp) g⟩
  obtain⟨_,_,q1⟩:=own j _ _ g1;obtain⟨_,_,q2⟩:=own j' _ _ g2;exact R.inj j j' _ _ _ _ q1 q2 g3
theorem xf{k:Nat}{b:Blk}(h:H[k]? =some b):av H k b=H:=by
 obtain⟨hlt,he⟩:=List.getElem?_eq_some_iff.1 h;unfold av;rw [if_pos hlt];refine List.ext_getElem? λi=> ?_;rw [List.getElem?_set];split
 .rename_i hi;subst hi;exact h.symm
 .rfl
end
theorem ExtA.drop{A A':Nat->Prop}{w w':World}{ρ ρ':Nat->Nat}{H H':ak}(h:ExtA A' w ρ H w' ρ' H')(hA:∀k es,A' k->H[k]? =some (.own 0 es)->A k):ExtA A w ρ H w' ρ' H':=
 ⟨h.os,h.tape,h.output,h.size,h.same,h.own,h.bs,h.ids,λk es hn hk=>h.z k es (λha=>hn (hA k es ha hk)) hk⟩
def Marks(lo:Nat)(ρ:Nat->Nat)(H:ak)(w:World)(ds:List Deferred):Prop:=
 ∃bs:List Nat,ds=bs.map (λD=>{target:= .collected D,args:=#[]})/\bs.Nodup/\∀D∈bs,lo<=D/\D<w.heap.size/\¬sr ρ H D/\w.heap[D]? =some (.deferred (some []))
theorem Marks.ext{A:Nat->Prop}{lo:Nat}{w w':World}{ρ ρ':Nat->Nat}{H H':ak}{ds:List Deferred}(h:Marks lo ρ H w ds)(X:ExtA A w ρ H w' ρ' H'):Marks lo ρ' H' w' ds:=by
 obtain⟨bs,h1,h2,h3⟩:=h;refine⟨bs,h1,h2,λD hD=> ?_⟩;obtain⟨g1,g2,g3,g4⟩:=h3 D hD;exact⟨g1,Nat.lt_of_lt_of_le g2 X.size,λho=>g3 (X.own D g2 ho),(X.same D g2 g3).trans g4⟩
structure Pre(lo base:Nat)(F0:Nat->Prop)(J:ak->(Nat->Nat)->World->Prop)(ρ:Nat->Nat)(s:St)(a:Act)(w:World):Prop where
 r:Rel base F0 ρ s a w
 j:J s.h ρ w
 m:Marks lo ρ s.h w a.defers
 lo:lo<=w.heap.size
def Post(lo base:Nat)(F0:Nat->Prop)(A:Nat->Prop)(J:ak->(Nat->Nat)->World->Prop)(w:World)(ρ:Nat->Nat)(H:ak)(ex:Ex)(s':St)(e:Exit)(a':Act)(w':World):Prop:=e=Do ex/\∃ρ',Pre lo base F0 J ρ' s' a' w'/\ExtA A w ρ H w' ρ' s'.h
theorem pS{lo:Nat}{A:Nat->Prop}{J:ak->(Nat->Nat)->World->Prop}{F:Fence}{n:Nat}{P:Program}{c:Code}{f:St->Option (Ex×St)}(hbody:∀s ex s' a w ρ,Pre lo base F0 J ρ s a w->f s=some (ex,s')->c.wpIn F n P (Post lo base F0 A J w ρ s.h ex s') a w):
  ∀(m:Nat) (s s':St) (ex:Ex) (a:Act) (w:World) (ρ:Nat->Nat),Pre lo base F0 J ρ s a w->gN f m s=some (ex,s')->(Code.loop c).wpIn F n P (Post lo base F0 A J w ρ s.h ex s') a w:=by
 intro m s s' ex a w ρ R h b k cs hro hb hr
 have key:∀(m:Nat) (s:St) (a:Act) (w:World) (ρ:Nat->Nat),Pre lo base F0 J ρ s a w->gN f m s=some (ex,s')->
   ∃e a' w',Post lo base F0 A J w ρ s.h ex s' e a' w'/\ArrivesIn (Machine.fenced P F) P (lone (b.atR a (.code c:: .inLoop c::k)) cs w) b k cs e a' w':=by
  intro m
  induction m with
  |zero=>intro s a w ρ R h;simp [gN]at h
  |succ m ih=>
   intro s a w ρ R h;simp only [gN,zbB,zbE]at h;obtain⟨⟨e1,s1⟩,h1,h2⟩:=h;obtain⟨e,a1,w1,hq,harr⟩:=hbody s e1 s1 a w ρ R h1 b (.inLoop c::k) cs hro hb hr;obtain⟨rfl,ρ1,R1,X1⟩:=hq
   cases e1 with
   |normal=>
    obtain⟨e2,a2,w2,⟨q1,ρ2,R2,X2⟩,harr2⟩:=ih s1 a1 w1 ρ1 R1 h2;exact⟨e2,a2,w2,⟨q1,ρ2,R2,X1.trans X2⟩,.of_steps (StepsIn.trans harr (.one (fenced_calm hb hr rfl) stepR_inLoop)) harr2⟩
   |exit id=>
    simp only [zsI,Prod.mk.injEq]at h2;obtain⟨rfl,rfl⟩:=h2;exact⟨_,a1,w1,⟨rfl,ρ1,R1,X1⟩,.pass (x:= .inLoop c) rfl (λ_ _=> .inl (by simp [Do])) harr⟩
   |ret=>
    simp only [zsI,Prod.mk.injEq]at h2;obtain⟨rfl,rfl⟩:=h2;exact⟨_,a1,w1,⟨rfl,ρ1,R1,X1⟩,.pass (x:= .inLoop c) rfl (λ_ _=> .inl (by simp [Do])) harr⟩
 obtain⟨e,a',w',hq,harr⟩:=key m s a w ρ R h;exact⟨e,a',w',hq,.of_steps (.one (fenced_calm hb hr rfl) stepR_loop) harr⟩
theorem ew{P:Program}{b:Frame}{a:Act}{k:List Item}{cs:List Frame}{w:World}{c:Code}:Go.step P (lone (b.atR a (.code (.scope c)::k)) cs w)= .next (lone (b.atR a (.code c:: .inScope c::k)) cs w):=
 step_lone_go (by simp [stepG,stepG.exec,Frame.atR])
theorem sK{P:Program}{b:Frame}{a:Act}{k:List Item}{cs:List Frame}{w:World}{c:Code}:Go.step P (lone (b.atR a (.inScope c::k)) cs w)= .next (lone (b.atR a k) cs w):=
 step_lone_go (by simp [stepG,stepG.exec,Frame.atR])
theorem yq{F:Fence}{n:Nat}{P:Program}{c:Code}{Q:Exit->Act->World->Prop}{a:Act}{w:World}(h:c.wpIn F n P (λe a w=>(∀l,e≠ .goto l)/\Q e a w) a w):(Code.scope c).wpIn F n P Q a w:=by
 intro b k cs hro hb hr;have h0:(lone (b.atR a (.code (.scope c)::k)) cs w).fenced P F:=fenced_calm hb hr rfl;obtain⟨e,a₁,w₁,⟨hng,hq⟩,harr⟩:=h b (.inScope c::k) cs hro hb hr
 cases e with
 |normal=>exact⟨.normal,a₁,w₁,hq,.head h0 ew (StepsIn.trans harr (.one (fenced_calm hb hr rfl) sK))⟩
 |exit id=>exact⟨.exit id,a₁,w₁,hq,λk' hk=> .head h0 ew (harr.1 k' (by simp [exitTo,hk])),λhr' hk=>let⟨k₁,h1,h2⟩:=harr.2 hr' (by simp [exitTo,hk]);⟨k₁,h1,.head h0 ew h2⟩⟩
 |goto l=>exact absurd rfl (hng l)
 |ret=>exact⟨_,a₁,w₁,hq,.of_steps (.one h0 ew) harr⟩
 |panic ch=>exact⟨_,a₁,w₁,hq,.of_steps (.one h0 ew) harr⟩
 |outgrown=>exact⟨_,a₁,w₁,hq,.of_steps (.one h0 ew) harr⟩
end
end Ev
end
noncomputable section
namespace Ev
open Go Go.RowKit
def FW(P:Program)(rf:Ib):Prop:=∀y f args H H',rf y f args H=some H'->Enters P f/\
 ∀(base:Nat) (F0:Nat->Prop) (A B:Nat->Prop) (J:ak->(Nat->Nat)->World->Prop),YOk P base F0 y A B J->(∀b,F0 b->b<base)->∀(w:World) (ρ:Nat->Nat) (ys:List Value),base<=w.heap.size->HRel w base F0 ρ H->J H ρ w->args.length=ys.length->
  (∀(i:Nat) d,args[i]? =some d->∃y,ys[i]? =some y/\RepD w base (Fb F0 ρ H) ρ H d y)->
  Calls P f ys.toArray w λe w'=>∃y ρ',e= .returned y/\HRel w' base F0 ρ' H'/\ExtA A w ρ H w' ρ' H'/\J H' ρ' w'
def jmp:Ex->Option Code
 | .normal=>none
 | .ret=>some .ret
 | .exit id=>some (.exit id)
theorem yr(e:Ex):Ci (List.replicate (qc e) [])=e:=by
 cases e with
 |normal=>rfl
 |ret=>rfl
 |exit id=>simp [qc,Ci,List.replicate_succ]
theorem Bw{e:Ex}(h:(List.replicate (qc e) []:List (List C))= []):e= .normal:=by
 cases e<;>simp [qc]at h ⊢
theorem xg:jh .normal= .own 0 []:=rfl
section
variable {base : Nat} {F0 : Nat → Prop}
theorem tB{w:World}{F:Nat->Prop}{ρ:Nat->Nat}{H:ak}:∀(ps:List Tmp) (ds:List D) (ys:List Value) (t:List D) (tm:Array Value),ds.length=ys.length->ps.length=ds.length->
  (∀(i:Nat) d,ds[i]? =some d->∃y,ys[i]? =some y/\RepD w base F ρ H d y)->(t.length=tm.size/\∀(i:Nat) d,t[i]? =some d->∃y,tm[i]? =some y/\RepD w base F ρ H d y)->
  ((ml t ps ds).length=((ps.zip ys).foldl (λtm (p,v)=>tm.setIfInBounds p v) tm).size/\∀(i:Nat) d,(ml t ps ds)[i]? =some d->∃y,((ps.zip ys).foldl (λtm (p,v)=>tm.setIfInBounds p v) tm)[i]? =some y/\RepD w base F ρ H d y)
 | [],ds,ys,t,tm,_,_,_,h=>by simpa [ml]using h
 |p::ps,[],ys,t,tm,_,hl,_,_=>by simp at hl
 |p::ps,d::ds,[],t,tm,hl,_,_,_=>by simp at hl
 |p::ps,d::ds,y::ys,t,tm,h1,h2,h3,h=>by
  simp only [ml,List.zip_cons_cons,List.foldl_cons];refine tB ps ds ys _ _ (by simpa using h1) (by simpa using h2) (λi d' hi=>by simpa using h3 (i+1) d' (by simpa using hi)) ⟨by simp [h.1],λi d' hi=> ?_⟩;obtain⟨y0,g1,g2⟩:=h3 0 d rfl;simp at g1;subst g1;rw [List.getElem?_set]at hi;split at hi
  .rename_i hpi;subst hpi;split at hi
   .rename_i hlt;cases hi;exact⟨y,by simp [Array.getElem?_setIfInBounds,<-h.1,hlt],g2⟩
   .simp at hi
  .rename_i hpi;obtain⟨y1,q1,q2⟩:=h.2 i d' hi;exact⟨y1,by rw [Array.getElem?_setIfInBounds_ne hpi];exact q1,q2⟩
theorem Marks.obj{lo:Nat}{w:World}{ρ:Nat->Nat}{H:ak}{ds:List Deferred}{l:Nat}{rc:Loop}(h:Marks lo ρ H w ds)(hl:w.heap[l]? =some (.loop rc))(o':Obj):Marks lo ρ H (w.putObj l o') ds:=by
 obtain⟨bs,h1,h2,h3⟩:=h;refine⟨bs,h1,h2,λD hD=> ?_⟩;obtain⟨g1,g2,g3,g4⟩:=h3 D hD;exact⟨g1,by rw [World.putObj_size];exact g2,g3,by rw [World.putObj_heap_other (λe=>by rw [e,hl]at g4;simp at g4)];exact g4⟩
theorem oR{R:D->Value->Prop}{a b:List D}{x y:List Value}(h1:a.length=x.length/\∀(i:Nat) d,a[i]? =some d->∃v,x[i]? =some v/\R d v)(h2:b.length=y.length/\∀(i:Nat) d,b[i]? =some d->∃v,y[i]? =some v/\R d v):
  (a++b).length=(x++y).length/\∀(i:Nat) d,(a++b)[i]? =some d->∃v,(x++y)[i]? =some v/\R d v:=by
 refine⟨by simp [h1.1,h2.1],λi d hi=> ?_⟩;rw [List.getElem?_append]at hi;rw [List.getElem?_append,<-h1.1];split at hi
 .rename_i hlt;rw [if_pos hlt];exact h1.2 i d hi
 .rename_i hlt;rw [if_neg hlt];exact h2.2 _ d hi
theorem RelT.pair{w:World}{F:Nat->Prop}{ρ:Nat->Nat}{H:ak}{t:List D}{a:Act}(h:RelT w base F ρ H t a):t.length=a.tmps.size/\∀(i:Nat) d,t[i]? =some d->∃y,a.tmps[i]? =some y/\RepD w base F ρ H d y:=h.2
end
section
variable {E : Env} {cp : bw} {cf : fG} {base : Nat} {F0 : Nat → Prop}
theorem Iu(hE:dr E.P E.ti)(hcp:oc E.P cp)(hcf:wV E.P cf.f)(hrf:FW E.P cf.r)(hm:E.P.follows .mixedOrders=true)(hF:∀b,F0 b->b<base)(m lo:Nat):∀(c:Code) (A B:Nat->Prop) (J:ak->(Nat->Nat)->World->Prop) (hY:YOk E.P base F0 cf.y A B J) (r:Option Nat) (n:Nat)
  (hro:∀l,r=some l->∀H ρ w,J H ρ w->∃rec,w.heap[l]? =some (.loop rec)) (s:St) (ex:Ex) (s':St) (a:Act) (w:World) (ρ:Nat->Nat),
  Pre lo base F0 J ρ s a w->evC E cp cf m c s=some (ex,s')->c.wpIn (FR r) n E.P (Post lo base F0 A J w ρ s.h ex s') a w:=by
 intro c
 induction c with
 |skip=>
  intro A B J hY r n hro s ex s' a w ρ R h;simp only [evC,zsI,Prod.mk.injEq]at h;obtain⟨rfl,rfl⟩:=h;exact wpIn_skip ⟨rfl,ρ,R,ExtA.refl _ _ _⟩
 |region id ops draw=>
  intro A B J hY r n hro s ex s' a w ρ R h;simp only [evC]at h
  cases draw with
  |true=>
   simp only [if_true,Option.map_eq_some_iff,Prod.mk.injEq]at h;obtain⟨s1,h1,rfl,rfl⟩:=h
   cases hc:jm ops with
   |some q=>
    rw [hc]at h1;exact Dn hE hcp hcf hY hm hF hc R.r R.j h1 (by rintro⟨_,_,h,_⟩;cases h) λa' w' ρ' R' X' J' D'=>⟨rfl,ρ',⟨R',J',by rw [D'];exact R.m.ext X',Nat.le_trans R.lo X'.size⟩,X'⟩
   |none=>
   rw [hc]at h1;exact FV hE hcp hm hF R.r h1 λa' w' ρ' R' X' D'=>⟨rfl,ρ',⟨R',hY.keep _ _ _ _ _ _ R.r.heap R.j X'.toA R'.heap,by rw [D'];exact R.m.ext X',Nat.le_trans R.lo X'.size⟩,X'.toA⟩
  |false=>
   simp only [Bool.false_eq_true,if_false,Option.map_eq_some_iff,Prod.mk.injEq]at h;obtain⟨s1,h1,rfl,rfl⟩:=h;refine wpIn_region (qU hE hcp hcf hY hF (by rintro⟨_,_,h,_⟩;cases h) ops.toList _ s s1 a w ρ ⟨by simp,λi n hi=> ?_⟩ R.r R.j h1 λa' w' ρ' R' X' J' D'=>⟨rfl,ρ',⟨R',J',by rw [D'];exact R.m.ext X',Nat.le_trans R.lo X'.size⟩,X'⟩);have hlt:=(List.getElem?_eq_some_iff.1 hi).1;simp at hlt;rw [List.getElem?_range hlt]at hi;cases hi;simp
 |seq x y ihx ihy=>
  intro A B J hY r n hro s ex s' a w ρ R h;simp only [evC,zbB,zbE]at h;obtain⟨⟨e1,s1⟩,h1,h2⟩:=h;refine wpIn_seq (wpIn_mono (ihx A B J hY r n hro s e1 s1 a w ρ R h1) λe a' w' ⟨he,ρ',R',X'⟩=> ?_);subst he
  cases e1 with
  |normal=>
   exact wpIn_mono (ihy A B J hY r n hro s1 ex s' a' w' ρ' R' h2) λe2 a2 w2 ⟨he2,ρ2,R2,X2⟩=>⟨he2,ρ2,R2,X'.trans X2⟩
  |exit id=>
   simp only [zsI,Prod.mk.injEq]at h2;obtain⟨rfl,rfl⟩:=h2;exact⟨rfl,ρ',R',X'⟩
  |ret=>
   simp only [zsI,Prod.mk.injEq]at h2;obtain⟨rfl,rfl⟩:=h2;exact⟨rfl,ρ',R',X'⟩
 |cond c x y ihx ihy=>
  intro A B J hY r n hro s ex s' a w ρ R h;simp only [evC,zbB,zbE]at h;obtain⟨d,h1,t,h2,h3⟩:=h;have hc:=qf (R.r.tmps.g.opnd h1) h2;refine wpIn_cond hc ?_
  cases t with
  |true=>simp only [if_true]at h3 ⊢;exact ihx A B J hY r n hro s ex s' a w ρ R h3
  |false=>simp only [Bool.false_eq_true,if_false]at h3 ⊢;exact ihy A B J hY r n hro s ex s' a w ρ R h3
 |block id c ih=>
  intro A B J hY r n hro s ex s' a w ρ R h;simp only [evC,zbB,zbE,zsI,Prod.mk.injEq]at h;obtain⟨⟨e1,s1⟩,h1,h2,rfl⟩:=h;refine wpIn_block (wpIn_mono (ih A B J hY r n hro s e1 s1 a w ρ R h1) λe a' w' ⟨he,ρ',R',X'⟩=> ?_);subst he;simp only at h2
  cases e1 with
  |normal=>simp at h2;subst h2;exact⟨rfl,ρ',R',X'⟩
  |ret=>simp at h2;subst h2;exact⟨rfl,ρ',R',X'⟩
  |exit id'=>
   simp only [Do,Exit.inBlock];by_cases hid:id'=id
   .subst hid;simp at h2;subst h2;simp only [if_true];exact⟨rfl,ρ',R',X'⟩
   .simp [hid]at h2;subst h2;rw [if_neg hid];exact⟨rfl,ρ',R',X'⟩
 |loop c ih=>
  intro A B J hY r n hro s ex s' a w ρ R h;simp only [evC]at h;exact pS (f:=evC E cp cf m c) (λs ex s' a w ρ R h=>ih A B J hY r n hro s ex s' a w ρ R h) m s s' ex a w ρ R h
 |exit id=>
  intro A B J hY r n hro s ex s' a w ρ R h;simp only [evC,zsI,Prod.mk.injEq]at h;obtain⟨rfl,rfl⟩:=h;exact wpIn_exit ⟨rfl,ρ,R,ExtA.refl _ _ _⟩
 |ret=>
  intro A B J hY r n hro s ex s' a w ρ R h;simp only [evC,zsI,Prod.mk.injEq]at h;obtain⟨rfl,rfl⟩:=h;exact wpIn_ret ⟨rfl,ρ,R,ExtA.refl _ _ _⟩
 |rangeFunc g ps asg body iha ihb=>
  intro A B J hY r n hro s ex s' a w ρ R h;simp only [evC,zbB,zbE]at h;obtain⟨dg,h1,h2⟩:=h;split at h2
  .rename_i f first cap;simp only [zbE]at h2;obtain⟨Hf,h3,⟨sz,es⟩,h4,h5⟩:=h2;split at h5
   .rename_i hz;simp only at hz;subst hz;simp only [zsI,Prod.mk.injEq]at h5;obtain⟨rfl,rfl⟩:=h5;obtain⟨hent,hcall⟩:=hrf _ _ _ _ _ h3;generalize hk:s.h.length=k at*;have hnone:s.h[k]? =none:=List.getElem?_eq_none (by omega);have hBk:¬B k:=λhb=>by obtain⟨es0,q⟩:=hY.lt _ _ _ k R.j hb;rw [hnone]at q;simp at q
    have hAk:¬A k:=λha=>hBk (hY.sub k ha)
    -- the function
    obtain⟨v1,v2,hv,l1,l2,e1,e2⟩:∃v1 v2:Array Value,a.eval g= .func (.func f) v1 v2/\first.length=v1.size/\cap.length=v2.size/\
      (∀(i:Nat) c,first[i]? =some c->∃y,v1[i]? =some y/\RepC w base (Fb F0 ρ s.h) ρ s.h c y)/\(∀(i:Nat) c,cap[i]? =some c->∃y,v2[i]? =some y/\RepC w base (Fb F0 ρ s.h) ρ s.h c y):=by
     have hg:=R.r.tmps.g.opnd h1;generalize a.eval g=vg at hg
     cases hg with
     |one c y hc=>cases hc with|clo fn first cap v1 v2 y1 y2 l1 l2 e1 e2 r1 r2=>exact⟨v1,v2,rfl,l1,l2,λi c hi=>⟨_,e1 i c hi,r1 i c hi⟩,λi c hi=>⟨_,e2 i c hi,r2 i c hi⟩⟩
    -- the round,whatever the record
    have main:∀(fnid D0 l:Nat) (w1:World) (mark:List Deferred),Below w.heap.size w w1->w.heap.size<=l->l<w1.heap.size->
      w1.heap[l]? =some (.loop {state:= .ready,pending:=none,fn:=fnid,tmps:=a.tmps,params:=ps,assign:=asg,body:=body,defers:=D0})->
      (∀(ρ':Nat->Nat) (H':ak) (w':World),(∀b,b<w1.heap.size->b≠l->sr ρ' H' b->sr ρ s.h b)->(∀b,w.heap.size<=b->b<w1.heap.size->b≠l->w'.heap[b]? =w1.heap[b]?)->w1.heap.size<=w'.heap.size->ExtA A w ρ s.h w' ρ' H'->Marks lo ρ' H' w' (mark++a.defers))->
      CallsIn (FR r) (n - 1) E.P f (v1++ #[.func (.yield l) #[] #[]]++v2) w1 (rangePost (FR r) n E.P l (Post lo base F0 A J w ρ s.h (Ci es) {t:=s.t,h:=Hf}) {a with defers:=mark++a.defers}):=by
     intro fnid D0 l w1 mark hbl hl1 hl2 hrec0 hmark;obtain⟨rec,hrec⟩:∃rec:LoopState->Option Code->Loop,rec=λst pe=>{state:=st,pending:=pe,fn:=fnid,tmps:=a.tmps,params:=ps,assign:=asg,body:=body,defers:=D0}:=⟨_,rfl⟩;have hr0:w1.heap[l]? =some (.loop (rec .ready none)):=by rw [hrec];exact hrec0
     -- the loop's block
     have hnl:w1.frozen? ⟨l,0,none⟩=false:=by unfold World.frozen?;simp only [hr0]
     have hz0:(([]:List (List T)).map (·.map (pC true)))= []:=rfl;obtain⟨R1,X1⟩:=zJ (nid:=k) (b:=l) (c:=0) (sz:=0) (l:= []) R.r.heap R.r.base hbl (λB hB=>by rw [hnone]at hB;simp at hB) (Nat.le_refl _) hl1 hl2 (by simp) (λc t lo hi hg=>by rw [hr0]at hg;cases hg) (λi e hi=>by simp at hi) (λi j e t hi=>by simp at hi);rw [hz0]at R1 X1;generalize hρ1:(λj=>if j=k then l else ρ j)=ρ1 at R1 X1;have hρk:ρ1 k=l:=by rw [<-hρ1];simp
     -- what is known of the loop
     let J2:ak->(Nat->Nat)->World->Prop:=λH ρ w=>(J H ρ w/\lo<=w.heap.size)/\ρ k=l/\RelT w base (Fb F0 ρ H) ρ H s.t a/\∃e,H[k]? =some (jh e)/\w.heap[l]? =some (.loop (rec (if e= .normal then .ready else .done) (jmp e)))
     let J3:LoopState->ak->(Nat->Nat)->World->Prop:=λst H ρ w=>J H ρ w/\ρ k=l/\H[k]? =some (.own 0 [])/\w.heap[l]? =some (.loop (rec st none))
     have hobj:∀st pe,(Obj.loop (rec st pe)).isCells=false:=λst pe=>rfl
     have hJne:∀{H:ak} {ρ:Nat->Nat} {w:World} {es0:List (List C)},HRel w base F0 ρ H->J H ρ w->ρ k=l->H[k]? =some (.own 0 es0)->∀j,B j->ρ j≠l:=λRR jj hl hkk j hj he=>by
      obtain⟨es1,q⟩:=hY.lt _ _ _ j jj hj
      have:=RR.inj j k _ _ _ _ q hkk (he.trans hl.symm)
      exact hBk (this▸hj)
     have hY3:∀st,YOk E.P base F0 cf.y A (λj=>B j∨j=k) (J3 st):=λst=>by
      refine⟨λj hj=> .inl (hY.sub j hj),λH ρ w j ⟨j1,j2,j3,j4⟩ hj=> ?_,λH ρ w H' ρ' w' RR ⟨j1,j2,j3,j4⟩ X RR'=> ?_,λH ρ w l' o o' RR ⟨j1,j2,j3,j4⟩ ho c1 c2 hne=> ?_,λkk args H e H1 hh=> ?_⟩
      .rcases hj with hj|rfl
       .exact hY.lt _ _ _ j j1 hj
       .exact⟨_,j3⟩
      .obtain⟨z1,z2⟩:=X.z k [] (λhn=>hn (.inr rfl)) j3;refine⟨hY.keep _ _ _ _ _ _ RR j1 (X.weak λq hq hb=>hq (.inl hb)) RR',(X.rho j3 ⟨_,z1⟩).trans j2,z1,?_⟩;rw [j2]at z2;rw [z2];exact j4
      .refine⟨hY.obj _ _ _ _ _ _ RR j1 ho c1 c2 λq hq=>hne q (.inl hq),j2,j3,?_⟩;rw [World.putObj_heap_other (λe=>hne k (.inr rfl) (j2.trans e))];exact j4
      .obtain⟨a1,a2⟩:=hY.round _ _ _ _ _ hh;refine⟨a1,λw ρ ys RR hb ⟨j1,j2,j3,j4⟩ hkk hlen hargs=> ?_⟩;obtain⟨ff,tm,zas,bo,q1,q2⟩:=a2 w ρ ys RR hb j1 hkk hlen hargs;refine⟨ff,tm,zas,bo,q1,λn=>(q2 n).mono λe' w' ⟨he',ρ',g1,g2,g3⟩=>⟨he',ρ',g1,g2,?_⟩⟩;obtain⟨z1,z2⟩:=g2.z k [] hAk j3;refine⟨g3,(g2.rho j3 ⟨_,z1⟩).trans j2,z1,?_⟩;rw [j2]at z2;rw [z2];exact j4
     have hrnd:∀st l',some l=some l'->∀H ρ w,J3 st H ρ w->∃rc,w.heap[l']? =some (.loop rc):=λst l' he H ρ w ⟨_,_,_,j4⟩=>by cases he;exact⟨_,j4⟩
     have hY2:YOk E.P base F0 (λj args h=>if j=k/\args.length=ps.toList.length then do
        let(e,s1)<-evC E cp cf m asg {t:=ml s.t ps.toList args,h:=h}
        match e with
        | .normal=>do
         let(e,s2)<-evC E cp cf m body s1
         some (e,s2.h)
        |_=>none
       else none) (λj=>A j∨j=k) (λj=>B j∨j=k) J2:=by
      refine⟨λj hj=>hj.imp (hY.sub j) id,λH ρ w j ⟨⟨j1,jl⟩,j2,j3,e,j4,j5⟩ hj=> ?_,λH ρ w H' ρ' w' RR ⟨⟨j1,jl⟩,j2,j3,e,j4,j5⟩ X RR'=> ?_,λH ρ w l' o o' RR ⟨⟨j1,jl⟩,j2,j3,e,j4,j5⟩ ho c1 c2 hne=> ?_,λkk args H ex H1 hh=> ?_⟩
      .rcases hj with hj|rfl
       .exact hY.lt _ _ _ j j1 hj
       .exact⟨_,j4⟩
      .obtain⟨z1,z2⟩:=X.z k _ (λhn=>hn (.inr rfl)) j4;refine⟨⟨hY.keep _ _ _ _ _ _ RR j1 (X.weak λq hq hb=>hq (.inl hb)) RR',Nat.le_trans jl X.size⟩,(X.rho j4 ⟨_,z1⟩).trans j2,j3.mono λc y hc=>hc.ext RR.lt X,e,z1,?_⟩;rw [j2]at z2;rw [z2];exact j5
      .refine⟨⟨hY.obj _ _ _ _ _ _ RR j1 ho c1 c2 λq hq=>hne q (.inl hq),by rw [World.putObj_size];exact jl⟩,j2,j3.mono λc y hc=>hc.obj ho c1 c2,e,j4,?_⟩;rw [World.putObj_heap_other (λe=>hne k (.inr rfl) (j2.trans e))];exact j5
      .simp only at hh;split at hh
       .rename_i hcond;obtain⟨hkk0,hlenp⟩:=hcond;rw [hkk0];simp only [zbB,zbE]at hh;obtain⟨⟨e1,s1⟩,h6,h7⟩:=hh;refine⟨.inr rfl,λw ρ ys RR hb ⟨⟨j1,jl⟩,j2,j3,e,j4,j5⟩ hkk hlen hargs=> ?_⟩
        cases e1 with
        |exit id=>simp at h7
        |ret=>simp at h7
        |normal=>
         simp only [zbE,zsI,Prod.mk.injEq]at h7;obtain⟨⟨e2,s2⟩,h8,rfl,rfl⟩:=h7
         have he0:e= .normal:=by
          rw [hkk]at j4
          have:=Option.some.inj j4
          unfold jh at this
          injection this with _ this
          exact Bw this.symm
         subst he0;simp only [if_true,jmp]at j5;rw [j2];have hsz:ys.toArray.size=(rec .ready none).params.size:=by rw [hrec];simp [<-hlen,hlenp]
         refine⟨_,_,_,_,run_yield j5 hsz,λn'=> ?_⟩;have hrecp:(rec .ready none).tmps=a.tmps/\(rec .ready none).params=ps/\(rec .ready none).assign=asg/\(rec .ready none).body=body:=by rw [hrec];exact⟨rfl,rfl,rfl,rfl⟩
         rw [hrecp.1,hrecp.2.1,hrecp.2.2.1,hrecp.2.2.2];refine roundIn_of_wpIn trivial ?_
         have hfold:(ps.zip ys.toArray).foldl (λtm (p,v)=>tm.setIfInBounds p v) a.tmps=(ps.toList.zip ys).foldl (λtm (p,v)=>tm.setIfInBounds p v) a.tmps:=by
          rw [<-Array.foldl_toList];simp
         have hT:=tB ps.toList args ys s.t a.tmps hlen hlenp.symm hargs j3.pair;have R3:Rel base F0 ρ {t:=ml s.t ps.toList args,h:=H} {tmps:=(ps.toList.zip ys).foldl (λtm (p,v)=>tm.setIfInBounds p v) a.tmps,defers:= []} w:=⟨RR,⟨rfl,hT⟩,hb⟩;have hloW:w.heap.size<=w.heap.size:=Nat.le_refl _;have P3:Pre lo base F0 (J3 .ready) ρ {t:=ml s.t ps.toList args,h:=H} {tmps:=(ps.toList.zip ys).foldl (λtm (p,v)=>tm.setIfInBounds p v) a.tmps,defers:= []} w:=⟨R3,⟨j1,j2,hkk,j5⟩,⟨[],rfl,List.nodup_nil,λD hD=>by simp at hD⟩,jl⟩;rw [hfold];refine wpIn_mono (F:=FR (some l)) (iha A _ (J3 .ready) (hY3 .ready) (some l) n' (hrnd .ready) _ _ _ _ _ _ P3 h6) λe' a1 w1' ⟨he',ρ1',P1,X1'⟩=> ?_;subst he';obtain⟨q1,q2,q3,q4⟩:=P1.j;have hbusy:({rec .ready none with state:= .busy}:Loop)=rec .busy none:=by rw [hrec]
         refine⟨_,run_beginRound q4 (by rw [hrec]),?_⟩;rw [hbusy];have hne:=hJne P1.r.heap q1 q2 q3;obtain⟨_,Xb⟩:=mW (A:=λj=>A j∨j=k) (o':= .loop (rec .busy none)) P1.r.heap q3 (.inr rfl) (by rw [q2];exact q4) rfl rfl .normal;rw [xg,xf q3,q2]at Xb;have P2:Pre lo base F0 (J3 .busy) ρ1' s1 a1 (w1'.putObj l (.loop (rec .busy none))):=⟨P1.r.obj q4 rfl rfl,⟨hY.obj _ _ _ _ _ _ P1.r.heap q1 q4 rfl rfl hne,q2,q3,World.putObj_heap_same (Array.getElem?_eq_some_iff.1 q4).1⟩,P1.m.obj q4 _,by rw [World.putObj_size];exact P1.lo⟩;refine wpIn_mono (F:=FR (some l)) (ihb A _ (J3 .busy) (hY3 .busy) (some l) n' (hrnd .busy) _ _ _ _ _ _ P2 h8) λe' a3 w3 ⟨he',ρ3,P4,X3⟩=> ?_;subst he';obtain⟨u1,u2,u3,u4⟩:=P4.j;have hend:∀jj,(Instr.endRound l jj).run E.P w3= .ok (.bool jj.isNone) (w3.putObj l (.loop (rec (if jj.isNone then .ready else .done) jj))):=λjj=>by have:=run_endRound (P:=E.P) jj u4;rw [hrec]at this ⊢;exact this
         have hlt3:=(Array.getElem?_eq_some_iff.1 u4).1
         have fin:∀(st:LoopState),st=(if e2= .normal then .ready else .done)->(Ending.returned (.bool (e2== .normal))= .returned (.bool (e2== .normal))/\∃ρ',HRel (w3.putObj l (.loop (rec st (jmp e2)))) base F0 ρ' (av s2.h k (jh e2))/\ExtA (λj=>A j∨j=k) w ρ H (w3.putObj l (.loop (rec st (jmp e2)))) ρ' (av s2.h k (jh e2))/\J2 (av s2.h k (jh e2)) ρ' (w3.putObj l (.loop (rec st (jmp e2))))):=λst hst=>by
          obtain⟨R4,X4⟩:=mW (A:=λj=>A j∨j=k) (o':= .loop (rec st (jmp e2))) P4.r.heap u3 (.inr rfl) (by rw [u2];exact u4) rfl rfl e2;obtain⟨_,X5⟩:=mW (A:=λj=>¬B j) (o':= .loop (rec st (jmp e2))) P4.r.heap u3 hBk (by rw [u2];exact u4) rfl rfl e2;rw [u2]at R4 X4 X5;have Xt:=((X1'.weak (A':=λj=>A j∨j=k) λ_=> .inl).trans Xb).trans ((X3.weak (A':=λj=>A j∨j=k) λ_=> .inl).trans X4);exact⟨rfl,ρ3,R4,Xt,⟨hY.keep _ _ _ _ _ _ P4.r.heap u1 X5 R4,by rw [World.putObj_size];exact P4.lo⟩,u2,j3.mono λc y hc=>hc.ext RR.lt Xt,e2,aR _ _ _,by rw [<-hst];exact World.putObj_heap_same hlt3⟩
         cases e2 with
         |normal=>exact⟨_,_,hend none,fin .ready rfl⟩
         |ret=>exact⟨_,_,hend (some .ret),fin .done rfl⟩
         |exit id=>exact⟨_,_,hend (some (.exit id)),fin .done rfl⟩
       .simp at hh
     have hown1:∀b,b≠l->sr ρ1 (av s.h k (.own 0 [])) b->sr ρ s.h b:=λb hbl ⟨j,sz',es',g1,g2⟩=>by
      by_cases hj:j=k
      .subst hj;exact absurd (g2.symm.trans hρk) hbl
      .exact⟨j,sz',es',ba hj (by simp) g1,by rw [<-g2,<-hρ1];simp [hj]⟩
     have hJ2:J2 (av s.h k (.own 0 [])) ρ1 w1:=⟨⟨hY.keep _ _ _ _ _ _ R.r.heap R.j X1.toA R1,Nat.le_trans R.lo X1.size⟩,hρk,R.r.tmps.mono λc y hc=>hc.ext R.r.heap.lt X1,.normal,aR _ _ _,hr0⟩;have harr:v1++ #[.func (.yield l) #[] #[]]++v2=(v1.toList++ [Value.func (.yield l) #[] #[]]++v2.toList).toArray:=by apply Array.ext';simp
     rw [harr]
     have hargs:(first.map D.one++ [D.one (.yld k)]++cap.map D.one).length=(v1.toList++ [Value.func (.yield l) #[] #[]]++v2.toList).length/\∀(i:Nat) d,(first.map D.one++ [D.one (.yld k)]++cap.map D.one)[i]? =some d->∃y,(v1.toList++ [Value.func (.yield l) #[] #[]]++v2.toList)[i]? =some y/\RepD w1 base (Fb F0 ρ1 (av s.h k (.own 0 []))) ρ1 (av s.h k (.own 0 [])) d y:=by
      refine oR (oR ⟨by simp [l1],λi d hi=> ?_⟩ ⟨rfl,λi d hi=> ?_⟩) ⟨by simp [l2],λi d hi=> ?_⟩
      .simp only [List.getElem?_map,Option.map_eq_some_iff]at hi;obtain⟨c,c1,rfl⟩:=hi;obtain⟨y,y1,y2⟩:=e1 i c c1;exact⟨y,by simpa using y1,.one _ _ (y2.ext R.r.heap.lt X1)⟩
      .cases i with
       |zero=>simp at hi;subst hi;exact⟨_,rfl,.one _ _ (.yld k _ rfl ⟨_,aR _ _ _,by simp⟩ λsz es _=>by rw [hρk])⟩
       |succ i=>simp at hi
      .simp only [List.getElem?_map,Option.map_eq_some_iff]at hi;obtain⟨c,c1,rfl⟩:=hi;obtain⟨y,y1,y2⟩:=e2 i c c1;exact⟨y,by simpa using y1,.one _ _ (y2.ext R.r.heap.lt X1)⟩
     have hc:=hcall base F0 _ _ J2 hY2 hF w1 ρ1 _ (Nat.le_trans R.r.base X1.size) R1 hJ2 hargs.1 hargs.2;refine CallsIn.mono (F:=FR r) (callsIn_wide.2 hc) λe' w3 ⟨y,ρ',he',g1,g2,g3⟩=> ?_;subst he';obtain⟨⟨u1,ul⟩,u2,u3,e,u4,u5⟩:=g3
     have hes:Ci es=e:=by
      have:=bk h4
      rw [this]at u4
      have:=Option.some.inj u4
      unfold jh at this
      injection this with _ this
      rw [this,yr]
     rw [hes];have hnb:(rec (if e= .normal then .ready else .done) (jmp e)).state≠ .busy:=by rw [hrec];simp only;split<;>simp
     have hend:(Instr.endLoop l).run E.P w3= .ok (jmp e) (w3.putObj l (.loop (rec .exhausted (jmp e)))):=by
      have:=run_endLoop (P:=E.P) u5 hnb
      rw [hrec]at this ⊢;exact this
     have hkk:Hf[k]? =some (.own 0 (List.replicate (qc e) [])):=u4;obtain⟨_,X4⟩:=mW (A:=λj=>A j∨j=k) (o':= .loop (rec .exhausted (jmp e))) g1 hkk (.inr rfl) (by rw [u2];exact u5) rfl rfl e;rw [xf u4,u2]at X4;have Xt:ExtA A w ρ s.h (w3.putObj l (.loop (rec .exhausted (jmp e)))) ρ' Hf:=((X1.toA.trans g2).trans X4).drop λj es0 hj hje=>hj.elim id λhj=>by rw [hj,hnone]at hje;simp at hje
     have Xs:=g2.trans X4
     have fin:∃ρ',Pre lo base F0 J ρ' {t:=s.t,h:=Hf} {a with defers:=mark++a.defers} (w3.putObj l (.loop (rec .exhausted (jmp e))))/\ExtA A w ρ s.h (w3.putObj l (.loop (rec .exhausted (jmp e)))) ρ' Hf:=by
      refine⟨ρ',⟨⟨g1.obj u5 rfl rfl,⟨rfl,(u3.mono λc y hc=>hc.obj u5 rfl rfl).2⟩,?_⟩,hY.obj _ _ _ _ _ _ g1 u1 u5 rfl rfl (hJne g1 u1 u2 hkk),?_,?_⟩,Xt⟩
      .rw [World.putObj_size];exact Nat.le_trans (Nat.le_trans R.r.base X1.size) g2.size
      .refine hmark ρ' Hf _ (λb hb hbl ho=>hown1 b hbl (Xs.own b hb ho)) (λb hb1 hb2 hbl=>Xs.same b hb2 λho=> ?_) Xs.size Xt;obtain⟨j,sz',es',q1,q2⟩:=hown1 b hbl ho
       have:=R.r.heap.lt j _ _ q1
       omega
      .rw [World.putObj_size];exact ul
     refine⟨_,_,hend,?_⟩
     cases e with
     |normal=>exact⟨rfl,fin⟩
     |ret=>exact wpIn_ret ⟨rfl,fin⟩
     |exit id=>exact wpIn_exit ⟨rfl,fin⟩
    refine wpIn_rangeFunc λfnid _=> ?_
    have hres:∀(l:Nat) (w1:World),(resolve a.eval (rangeCall g l) 0).run E.P w1= .ok {target:= .fn (.func f) v2,args:=v1++ #[.func (.yield l) #[] #[]]} w1:=λl w1=>by
     unfold resolve;simp only [hv,Deferred.ofValue];simp [Act.eval]
    have hinv:∀(l:Nat) (w1:World),(invoke (.fn (.func f) v2) (v1++ #[.func (.yield l) #[] #[]])).run E.P w1= .ok (.enter f (v1++ #[.func (.yield l) #[] #[]]++v2)) w1:=λl w1=>nO hent _ w1
    cases r with
    |none=>
     have hs1:((w.alloc (.deferred (some []))).alloc (.loop {state:= .ready,pending:=none,fn:=fnid,tmps:=a.tmps,params:=ps,assign:=asg,body:=body,defers:=w.heap.size})).heap.size=w.heap.size+2:=by simp
     have hD:((w.alloc (.deferred (some []))).alloc (.loop {state:= .ready,pending:=none,fn:=fnid,tmps:=a.tmps,params:=ps,assign:=asg,body:=body,defers:=w.heap.size})).heap[w.heap.size]? =some (.deferred (some [])):=(Below.heap_alloc _ _ _ (by simp)).trans (World.alloc_heap_new w _);refine⟨w.heap.size+1,_,_,_,_,f,_,_,run_enterLoop_outer _ _ _ _ _,hres _ _,λ_ _=>trivial,hinv _ _,λhd=>by simp [Fence.wide]at hd,?_⟩;refine main fnid w.heap.size (w.heap.size+1) _ _ (((Below.refl _ w).alloc (Nat.le_refl _) _).alloc (by simp) _) (by omega) (by omega) ?_ fun ρ' H' w' c1 c2 c3 X=> ?_
     .have:=World.alloc_heap_new (w.alloc (.deferred (some []))) (.loop {state:= .ready,pending:=none,fn:=fnid,tmps:=a.tmps,params:=ps,assign:=asg,body:=body,defers:=w.heap.size})
      rwa [World.size_alloc]at this
     .obtain⟨bs,b1,b2,b3⟩:=R.m;have hm2:=R.m.ext X;refine⟨w.heap.size::bs,by rw [b1];rfl,List.nodup_cons.2 ⟨λhin=>by have:=(b3 _ hin).2.1;omega,b2⟩,λD hD'=> ?_⟩;rcases List.mem_cons.1 hD' with rfl|hin
      .refine⟨R.lo,by omega,λho=> ?_,(c2 _ (Nat.le_refl _) (by omega) (by omega)).trans hD⟩;obtain⟨j,sz',es',q1,q2⟩:=c1 _ (by omega) (by omega) ho
       have:=R.r.heap.lt j _ _ q1
       omega
      .obtain⟨d1,d2,d3,d4⟩:=b3 D hin;exact⟨d1,Nat.lt_of_lt_of_le d2 X.size,λho=>d3 (X.own D d2 ho),(X.same D d2 d3).trans d4⟩
    |some l0=>
     obtain⟨rc,hrc⟩:=hro l0 rfl _ _ _ R.j;refine⟨w.heap.size,_,_,_,_,f,_,_,run_enterLoop_inner hrc _ _ _ _ _,hres _ _,λ_ _=>trivial,hinv _ _,λhd=>by simp [Fence.wide]at hd,?_⟩;refine main fnid rc.defers w.heap.size _ _ ((Below.refl _ w).alloc (Nat.le_refl _) _) (Nat.le_refl _) (by simp) (World.alloc_heap_new w _) fun ρ' H' w' c1 c2 c3 X=>R.m.ext X
   .simp at h5
  .simp at h2
 |scope c ih=>
  intro A B J hY r n hro s ex s' a w ρ R h;simp only [evC]at h;refine yq (wpIn_mono (ih A B J hY r n hro s ex s' a w ρ R h) λe a' w' ⟨he,ρ',R',X'⟩=> ?_);subst he;exact⟨λl=>by cases ex<;>simp [Do],rfl,ρ',R',X'⟩
 |label l=>
  intro A B J hY r n hro s ex s' a w ρ R h;simp only [evC,zsI,Prod.mk.injEq]at h;obtain⟨rfl,rfl⟩:=h;exact wpIn_label ⟨rfl,ρ,R,ExtA.refl _ _ _⟩
 |goto l=>intro A B J hY r n hro s ex s' a w ρ R h;simp [evC]at h
 |refuse why=>intro A B J hY r n hro s ex s' a w ρ R h;simp [evC]at h
end
end Ev
end
noncomputable section
namespace Ev
open Go Go.RowKit
structure Env.Ok(E:Env):Prop where
 ti:dr E.P E.ti
 mixed:E.P.follows .mixedOrders=true
 fn:∀k f,E.fn k=some f->∃fn:Func,E.P.funcs[k]? =some fn/\(fn.name== "runtime.NumGoroutine")=false/\fn.body=some f.body/\fn.ntmps=f.nt/\fn.results.toList=f.results
 ax:∀k F vs kind rs,E.ax k=some F->F vs=some (kind,rs)->fY E.P k vs kind rs/\Enters E.P k
section
variable {E : Env} {cp : bw} {cf : fG} {base : Nat} {F0 : Nat → Prop}
theorem mX(hE:dr E.P E.ti){s:St}{a:Act}{w:World}{ρ:Nat->Nat}(R:Rel base F0 ρ s a w):∀(l:List ResultVar) (rs:List D),l.mapM (bS E s)=some rs->
  ∃ys,(l.mapM fun
   | .tmp t=>pure (a.tmps.getD t undef)
   | .cell x t=>do loadVar t (<-asAddr (a.tmps.getD x undef)):Sem (List Value)).run E.P w= .ok ys w/\rs.length=ys.length/\∀(i:Nat) d,rs[i]? =some d->∃y,ys[i]? =some y/\RepD w base (Fb F0 ρ s.h) ρ s.h d y
 | [],rs,h=>by simp at h;subst h;exact⟨[],by simp,rfl,λi d hi=>by simp at hi⟩
 |r::l,rs,h=>by
  simp only [List.mapM_cons,zbB,zbE,Option.pure_def,zsI]at h;obtain⟨d,h1,r',h2,rfl⟩:=h;obtain⟨ys,g1,g2,g3⟩:=mX hE R l r' h2
  have head:∃y,(match r with
   | .tmp t=>pure (a.tmps.getD t undef)
   | .cell x t=>do loadVar t (<-asAddr (a.tmps.getD x undef)):Sem Value).run E.P w= .ok y w/\RepD w base (Fb F0 ρ s.h) ρ s.h d y:=by
   cases r with
   |tmp t=>
    obtain⟨y,y1,y2⟩:=R.tmps.2.2 t d h1;exact⟨y,by simp [Array.getD_eq_getD_getElem?,y1],y2⟩
   |cell x ty=>
    simp only [bS,zbB,zbE]at h1;obtain⟨i,k1,dx,k2,k3⟩:=h1;obtain⟨y,y1,y2⟩:=R.tmps.2.2 x dx k2;obtain⟨z,z1,z2⟩:=zp hE k1 R.heap y2 k3;have hy:a.tmps.getD x undef=y:=by simp [Array.getD_eq_getD_getElem?,y1]
    refine⟨z,?_,z2⟩;simp only [hy]
    have hp:∃q,y= .pointer (some q):=by
     unfold load at k3;split at k3
     .cases y2 with|one c y hc=>cases hc with|ptr k i j q hk ha=>exact⟨q,rfl⟩
     .cases y2 with|one c y hc=>cases hc with|iptr fr sz l i j q yy hm hr=>exact⟨q,rfl⟩
     .simp at k3
    obtain⟨q,rfl⟩:=hp;simpa [Instr.loadAt,Instr.sureAddr,asAddr]using z1
  obtain⟨y,y1,y2⟩:=head;refine⟨y::ys,?_,by simpa using g2,λi d' hi=> ?_⟩
  .rw [List.mapM_cons,Sem.run_bind,y1];simp only [Result.andThen];rw [Sem.run_bind,g1];rfl
  .cases i with
   |zero=>simp at hi;subst hi;exact⟨y,rfl,y2⟩
   |succ i=>simpa using g3 i d' (by simpa using hi)
theorem yu(hE:dr E.P E.ti){s:St}{a:Act}{w:World}{ρ:Nat->Nat}(R:Rel base F0 ρ s a w){fn:Func}{rs:List D}(h:fn.results.toList.mapM (bS E s)=some rs):
  ∃y,(results fn a.tmps).run E.P w= .ok y w/\RepD w base (Fb F0 ρ s.h) ρ s.h (iF rs) y/\
   ∃ys:List Value,rs.length=ys.length/\(∀(i:Nat) d,rs[i]? =some d->∃y,ys[i]? =some y/\RepD w base (Fb F0 ρ s.h) ρ s.h d y)/\(match ys with| [z]=>y=z|_=>y= .tuple ys.toArray):=by
 obtain⟨ys,g1,g2,g3⟩:=mX hE R _ rs h
 have hrun:∀(k:Array Value->Sem Value),((fn.results.mapM fun
   | .tmp t=>pure (a.tmps.getD t undef)
   | .cell x t=>do loadVar t (<-asAddr (a.tmps.getD x undef)):Sem (Array Value))>>=k).run E.P w=(k ys.toArray).run E.P w:=by
  intro k;rw [Array.mapM_eq_mapM_toList,Sem.run_bind]
  have:(List.toArray<$>(fn.results.toList.mapM fun
   | .tmp t=>pure (a.tmps.getD t undef)
   | .cell x t=>do loadVar t (<-asAddr (a.tmps.getD x undef)):Sem (List Value)):Sem (Array Value)).run E.P w= .ok ys.toArray w:=by
   rw [<-bind_pure_comp,Sem.run_bind,g1];rfl
  rw [this];rfl
 unfold results;refine⟨if h:ys.toArray.size=1 then ys.toArray[0]else .tuple ys.toArray,?_,?_,ys,g2,g3,?_⟩
 .exact hrun λvs=>pure (if h:vs.size=1 then vs[0]else .tuple vs)
 .match ys,rs,g2,g3 with
  | [y],[d],_,g3=>
   obtain⟨y',e1,e2⟩:=g3 0 d rfl;simp at e1;subst e1;exact e2
  | [],[],_,g3=>exact uK rfl g3
  |y::y2::ys,d::d2::ds,g2,g3=>
   rw [dif_neg (by simp)];exact uK g2 g3
 .match ys with
  | [y]=>rfl
  | []=>rfl
  |y::y2::ys=>simp
theorem ExtA.far{A:Nat->Prop}{w w1:World}{ρ ρ':Nat->Nat}{H H':ak}(R:HRel w base F0 ρ H)(h:ExtA A w ρ H w1 ρ' H'){D:Nat}{o o':Obj}(hD:w.heap.size<=D)(ho:w1.heap[D]? =some o)(h1:o.isCells=false)(h2:o'.isCells=false):ExtA A w ρ H (w1.putObj D o') ρ' H':=
 ⟨h.os,h.tape,h.output,by rw [World.putObj_size];exact h.size,λb hb hn=>(World.putObj_heap_other (by omega)).trans (h.same b hb hn),h.own,λb hb=>(jR ho h1 h2 b).trans (h.bs b hb),h.ids,λk es hA hk=>by
  obtain⟨z1,z2⟩:=h.z k es hA hk
  have:=R.lt k _ _ hk
  exact⟨z1,(World.putObj_heap_other (by omega)).trans z2⟩⟩
def yv(base:Nat)(F0:Nat->Prop)(A:Nat->Prop)(J:ak->(Nat->Nat)->World->Prop)(w:World)(ρ:Nat->Nat)(H:ak)(rs:List D)(H':ak)(e:Ending)(w':World):Prop:=
 ∃y ρ',e= .returned y/\HRel w' base F0 ρ' H'/\ExtA A w ρ H w' ρ' H'/\J H' ρ' w'/\RepD w' base (Fb F0 ρ' H') ρ' H' (iF rs) y/\
   ∃zs:List Value,rs.length=zs.length/\(∀(i:Nat) d,rs[i]? =some d->∃y,zs[i]? =some y/\RepD w' base (Fb F0 ρ' H') ρ' H' d y)/\(match zs with| [z]=>y=z|_=>y= .tuple zs.toArray)
theorem oS(hE:dr E.P E.ti){y:dC}{A B:Nat->Prop}{J:ak->(Nat->Nat)->World->Prop}(hY:YOk E.P base F0 y A B J){w:World}{ρ ρ':Nat->Nat}{H:ak}(R0:HRel w base F0 ρ H){s:St}{a:Act}{fn:Func}{rs:List D}(hr:fn.results.toList.mapM (bS E s)=some rs):∀(bs:List Nat) (w1:World),
  Rel base F0 ρ' s a w1->J s.h ρ' w1->ExtA A w ρ H w1 ρ' s.h->bs.Nodup->(∀D∈bs,w.heap.size<=D/\D<w1.heap.size/\¬sr ρ' s.h D/\w1.heap[D]? =some (.deferred (some [])))->
  LeavesInM Fence.wide 0 E.P fn a.tmps (yv base F0 A J w ρ H rs s.h) (bs.map λD=>{target:= .collected D,args:=#[]}) .returning w1
 | [],w1,R,hJ,X,_,_=>by
  obtain⟨y,y1,y2,y3⟩:=yu hE R hr;exact⟨y,y1,y,ρ',rfl,R.heap,X,hJ,y2,y3⟩
 |D::bs,w1,R,hJ,X,hn,h=>by
  obtain⟨g1,g2,g3,g4⟩:=h D List.mem_cons_self;obtain⟨n1,n2⟩:=List.nodup_cons.1 hn;refine⟨by simp,.inl ⟨D,_,rfl,run_takeDeferred g4,?_⟩⟩;refine oS hE hY R0 hr bs _ (R.obj g4 rfl rfl) (hY.obj _ _ _ _ _ _ R.heap hJ g4 rfl rfl λk hk he=> ?_) (X.far R0 g1 g4 rfl rfl) n2 λD' hD'=> ?_
  .obtain⟨es,q⟩:=hY.lt _ _ _ k hJ hk;exact g3 ⟨k,0,es,q,he⟩
  .obtain⟨q1,q2,q3,q4⟩:=h D' (List.mem_cons_of_mem _ hD');have hne:D'≠D:=λe=>n1 (by rw [<-e];exact hD');exact⟨q1,by rw [World.putObj_size];exact q2,q3,(World.putObj_heap_other hne).trans q4⟩
theorem Dp(hO:E.Ok)(hcp:oc E.P cp)(hcf:wV E.P cf.f)(hrf:FW E.P cf.r)(hF:∀b,F0 b->b<base){A B:Nat->Prop}{J:ak->(Nat->Nat)->World->Prop}(hY:YOk E.P base F0 cf.y A B J){m:Nat}{k:FuncId}{f:FI}(hf:E.fn k=some f){args:List D}{H H':ak}{rs:List D}(h:uB E cp cf m f args H=some (rs,H')){w:World}{ρ:Nat->Nat}
  (hb:base<=w.heap.size) (R:HRel w base F0 ρ H) (hJ:J H ρ w) {ys:List Value} (hl:args.length=ys.length) (ha:∀(i:Nat) d,args[i]? =some d->∃y,ys[i]? =some y/\RepD w base (Fb F0 ρ H) ρ H d y):
  Calls E.P k ys.toArray w (yv base F0 A J w ρ H rs H'):=by
 obtain⟨fn,f1,f2,f3,f4,f5⟩:=hO.fn k f hf;unfold uB at h;simp only [zbB,zbE]at h;obtain⟨⟨ex,s⟩,h1,h2⟩:=h
 have R0:Rel base F0 ρ {t:=args++List.replicate (f.nt - args.length) bu,h:=H} {tmps:=ys.toArray++Array.replicate (fn.ntmps - ys.toArray.size) undef,defers:= []} w:=by
  refine⟨R,⟨rfl,by simp [hl,f4],λi d hi=> ?_⟩,hb⟩;rw [List.getElem?_append]at hi;simp only [Array.getElem?_append,List.size_toArray];rw [<-hl];split at hi
  .rename_i hlt;rw [if_pos hlt];simpa using ha i d hi
  .rename_i hlt;rw [if_neg hlt,f4];rw [List.getElem?_replicate]at hi;split at hi
   .rename_i hlt2;cases hi;exact⟨undef,by simp [Array.getElem?_replicate,hlt2],nK⟩
   .simp at hi
 have P0:Pre w.heap.size base F0 J ρ {t:=args++List.replicate (f.nt - args.length) bu,h:=H} {tmps:=ys.toArray++Array.replicate (fn.ntmps - ys.toArray.size) undef,defers:= []} w:=⟨R0,hJ,⟨[],rfl,List.nodup_nil,λD hD=>by simp at hD⟩,Nat.le_refl _⟩;refine callsIn_wide.1 (callsIn_of_wp_marks (F:=Fence.wide) (n:=0) f1 f3 trivial ?_);refine wpIn_mono (F:=FR none) (Iu hO.ti hcp hcf hrf hO.mixed hF m w.heap.size f.body A B J hY none 0 (λl h=>by cases h) _ ex s _ w ρ P0 h1) λe a' w' ⟨he,ρ',P',X'⟩=> ?_;subst he
 have fin:∀(_:fn.results.toList.mapM (bS E s)=some rs) (_:s.h=H'),LeavesInM Fence.wide 0 E.P fn a'.tmps (yv base F0 A J w ρ H rs H') a'.defers .returning w':=by
  intro hr hh;subst hh;obtain⟨bs,b1,b2,b3⟩:=P'.m;rw [b1];exact oS hO.ti hY R hr bs w' P'.r P'.j X' b2 b3
 cases ex with
 |normal=>
  simp only [zbE,zsI,Prod.mk.injEq]at h2;obtain⟨r,g1,rfl,rfl⟩:=h2;exact fin (by rw [f5];exact g1) rfl
 |ret=>
  simp only [zbE,zsI,Prod.mk.injEq]at h2;obtain⟨r,g1,rfl,rfl⟩:=h2;exact fin (by rw [f5];exact g1) rfl
 |exit id=>simp at h2
theorem Dq(w:World)(base:Nat)(F0:Nat->Prop)(ρ:Nat->Nat)(hL:LD base w):HRel w base F0 ρ []:=
 ⟨λk sz es h=>by simp at h,λk k' sz es sz' es' h=>by simp at h,λk sz es h=>by simp at h,λk sz es h=>by simp at h,λk sz es h=>by simp at h,λk sz es h=>by simp at h,hL⟩
theorem Bx(hO:E.Ok)(hcp:oc E.P cp)(hcf:wV E.P cf.f)(hrf:FW E.P cf.r)(hy:cf.y=noY){m:Nat}{k:FuncId}{f:FI}(hf:E.fn k=some f){vs:List TD}{kind:Kind}{tds:List TD}(h:uC E cp cf m f vs=some (kind,tds)):fY E.P k vs kind tds:=by
 intro w F ys hL hFlt hargs;unfold uC at h;simp only [zbB,zbE,zsI,Prod.mk.injEq]at h;obtain⟨⟨rs,H'⟩,h1,l,h2,h3,h4⟩:=h;have hY:YOk E.P w.heap.size F cf.y noA noA λ_ _ _=>True:=by rw [hy];exact wW
 have hcall:=Dp (base:=w.heap.size) (F0:=F) hO hcp hcf hrf hFlt hY hf h1 (w:=w) (ρ:=λ_=>0) (Nat.le_refl _) (Dq _ _ _ _ hL) trivial (ys:=ys) (by simpa using hargs.1) (λi d hi=>by
  simp only [List.getElem?_map,Option.map_eq_some_iff]at hi;obtain⟨td,t1,rfl⟩:=hi;obtain⟨y,y1,y2⟩:=hargs.2 i td t1;refine⟨y,y1,lg (λb hb=> ?_) y2⟩;rcases hb with(hb|⟨k,sz,es,q1,q2⟩)|hb
  .exact hb
  .simp at q1
  .simp at hb)
 refine hcall.mono λe w' ⟨y,ρ',he,R',X',_,_,zs,z1,z2,z3⟩=>⟨y,he,?_,λhk=> ?_,?_⟩
 .obtain⟨m1,m2,m3⟩:=ce h2
  have hreps:gO w' (λb=>b<w.heap.size/\(kind≠ .any∨F b)) tds zs:=by
   refine⟨by rw [<-h4,<-z1];simp [m1],λi td hi=> ?_⟩;rw [<-h4]at hi;simp only [List.getElem?_map,Option.map_eq_some_iff]at hi;obtain⟨⟨pb,ptd⟩,p1,rfl⟩:=hi;obtain⟨d,d1,d2⟩:=m3 i _ p1;obtain⟨y',y1,y2⟩:=z2 i d d1
   have:=Bu R' d2 y2
   refine⟨y',y1,?_⟩
   have hsub:∀q,(q<w.heap.size/\(kind≠ .any∨F q))->(q<w.heap.size/\(pb=true∨F q)):=λq hq=>⟨hq.1,hq.2.imp (λhb=>by
    have hall:l.all (·.1)=true:=by
     rw [<-h3]at hb;by_cases ho:dk H' rs=true
     .unfold dk at ho;split at ho
      .rename_i kk nn _ _
       cases hg:ao H' kk with
       |none=>rw [hg]at ho;simp at ho
       |some p=>
        obtain⟨bz,es⟩:=p;rw [hg]at ho;simp only [Bool.and_eq_true,beq_iff_eq]at ho;simp only [List.mapM_cons,List.mapM_nil,zbB,Option.pure_def,zbE,zsI]at h2;obtain⟨v,v1,_,rfl,rfl⟩:=h2;simp only [List.all_cons,List.all_nil,Bool.and_true];simp only [cl,dS,hg,zbB,zbS,zbE,zsI]at v1;obtain⟨q2,⟨es',c1,r,c2,rfl⟩,rfl⟩:=v1;simp only [List.all_eq_true];intro x hx z hz;obtain⟨n1,n2,n3⟩:=ce c2;obtain⟨i,hi,rfl⟩:=List.getElem_of_mem hx;obtain⟨y0,y1,y2⟩:=n3 i _ (List.getElem?_eq_getElem hi);obtain⟨j,hj,rfl⟩:=List.getElem_of_mem hz;obtain⟨_,_,k3⟩:=ce y2;obtain⟨cc,d1,d2⟩:=k3 j _ (List.getElem?_eq_getElem hj);obtain⟨_,l2⟩:=gB c1 y1;have hp:=List.all_eq_true.1 (List.all_eq_true.1 ho.2 y0 (List.mem_of_getElem? l2)) cc (List.mem_of_getElem? d1);unfold qd at hp;split at hp
        .simp only [dS,zsI]at d2;rw [<-d2]
        .simp at hp
      .simp at ho
     .rw [if_neg ho]at hb;by_cases ha:l.all (·.1)=true
      .exact ha
      .rw [if_neg ha]at hb;simp at hb
    exact List.all_eq_true.1 hall (pb,ptd) (List.mem_of_getElem? p1)) id⟩
   simp only
   cases this with
   |one t y h=>exact .one _ _ (h.weak hsub)
   |agg ts ys h=>exact .agg _ _ (h.weak λt y h=>h.weak hsub)
  have hlen:tds.length=zs.length:=hreps.1
  match tds,zs,hlen,hreps,z3 with
  | [td],[z],_,hreps,z3=>
   obtain⟨z',e1,e2⟩:=hreps.2 0 td rfl;simp at e1;subst e1;subst z3;exact e2
  | [],[],_,hreps,z3=>exact⟨[],z3,hreps⟩
  |t1::t2::ts,q1::q2::qs,_,hreps,z3=>exact⟨_,z3,hreps⟩
 .have ho:dk H' rs=true:=by
   by_cases ho:dk H' rs=true
   .exact ho
   .rw [if_neg ho]at h3;split at h3<;>(rw [hk]at h3;simp at h3)
  unfold dk at ho;split at ho
  .rename_i kk nn _ _
   cases hg:ao H' kk with
   |none=>rw [hg]at ho;simp at ho
   |some p=>
    obtain⟨bz,es⟩:=p;rw [hg]at ho;simp only [Bool.and_eq_true,beq_iff_eq]at ho;obtain⟨hnn,hpl⟩:=ho;have hb:=bk hg;simp only [List.mapM_cons,List.mapM_nil,zbB,Option.pure_def,zbE,zsI]at h2;obtain⟨v,v1,_,rfl,rfl⟩:=h2;simp only [cl,dS,hg,zbB,zbS,zbE,zsI]at v1;obtain⟨q2,⟨es',c1,r,c2,rfl⟩,rfl⟩:=v1;obtain⟨y0,y1,y2⟩:=z2 0 _ rfl
    match zs,z1,y1,z3 with
    | [z],_,y1,z3=>
     simp at y1;subst y1;subst z3;obtain⟨s1,s2,s3⟩:=dt c1;obtain⟨n1,n2,n3⟩:=ce c2;have hlen:(r.map (·.map (·.2))).length=nn:=by simp [n1,s1]
     cases y2 with
     |one c y hc=>
      cases hc with
      |own _ _ _ cap aa hkk hcap haa=>
       obtain⟨a1,a2⟩:=haa _ _ hb;simp only [Nat.zero_mul,Nat.zero_add]at a1 a2;subst a1;have hlo:=R'.lo kk bz es hb;refine⟨ρ' kk,cap,bz,r.map (·.map (·.2)),by rw [<-h4];rfl,by rw [hlen],by rw [hlen];exact hcap,hlo.1,hlo.2,a2,R'.fz kk bz es hb,λi e hi=> ?_,λi j e t hi hj=> ?_⟩
       .simp only [List.getElem?_map,Option.map_eq_some_iff]at hi;obtain⟨q,q1,rfl⟩:=hi;obtain⟨x,x1,x2⟩:=n3 i q q1;obtain⟨_,l2⟩:=gB c1 x1
        have:=R'.wid kk bz es hb _ x l2
        simp [(ce x2).1,this]
       .simp only [List.getElem?_map,Option.map_eq_some_iff]at hi;obtain⟨q,q1,rfl⟩:=hi;simp only [List.getElem?_map,Option.map_eq_some_iff]at hj;obtain⟨p,p1,rfl⟩:=hj;obtain⟨x,x1,x2⟩:=n3 i q q1;obtain⟨_,l2⟩:=gB c1 x1;rw [Nat.zero_add]at l2;obtain⟨_,_,k3⟩:=ce x2;obtain⟨cc,d1,d2⟩:=k3 j p p1;have hp:=List.all_eq_true.1 (List.all_eq_true.1 hpl x (List.mem_of_getElem? l2)) cc (List.mem_of_getElem? d1);obtain⟨yy,f1,f2⟩:=R'.cell kk bz es hb i j x cc l2 d1;unfold qd at hp;split at hp
        .rename_i vv;simp only [dS,zsI]at d2;rw [<-d2]
         have:=kU (x:=vv) f2 rfl
         subst this;exact⟨_,rfl,f2.one,f1⟩
        .simp at hp
  .simp at ho
 .exact⟨X'.os,X'.tape,X'.output,X'.size,λb hb=>X'.same b hb λ⟨k,sz,es,q1,_⟩=>by simp at q1⟩
theorem oT(hO:E.Ok)(m:Nat):∀n,oc E.P (aL E m n).1/\wV E.P (aL E m n).2.1/\FW E.P (aL E m n).2.2
 |0=>⟨λk vs kind rs h=>by simp [aL]at h,λk args H v H' h=>by simp [aL]at h,λy f args H H' h=>by simp [aL]at h⟩
 |n+1=>by
  obtain⟨i1,i2,i3⟩:=oT hO m n
  have hent:∀k f,E.fn k=some f->Enters E.P k:=λk f h=>by
   obtain⟨fn,f1,f2,f3,f4,f5⟩:=hO.fn k f h;exact⟨fn,f.body,f1,f2,f3⟩
  refine⟨λk vs kind rs h=> ?_,λk args H v H' h=> ?_,λy k args H H' h=> ?_⟩
  .simp only [aL]at h;split at h
   .rename_i F hF;exact hO.ax k F vs kind rs hF h
   .simp only [zbB,zbE]at h;obtain⟨f,h1,h2⟩:=h;exact⟨Bx (cf:=⟨_,_,noY⟩) hO i1 i2 i3 rfl h1 h2,hent k f h1⟩
  .simp only [aL,zbB,zbE,zsI,Prod.mk.injEq]at h;obtain⟨f,h1,⟨rs,h0⟩,h2,rfl,rfl⟩:=h;refine⟨hent k f h1,λw base F0 ρ ys hb hF R hl ha=> ?_⟩;exact(Dp (cf:=⟨_,_,noY⟩) hO i1 i2 i3 hF wW h1 h2 hb R trivial hl ha).mono λe w' ⟨y,ρ',q1,q2,q3,_,q4,_⟩=>⟨y,ρ',q1,q2,q3,q4⟩
  .simp only [aL,zbB,zbE,zsI,Prod.mk.injEq]at h;obtain⟨f,h1,⟨rs,h0⟩,h2,rfl⟩:=h;refine⟨hent k f h1,λbase F0 A B J hY hF w ρ ys hb R hJ hl ha=> ?_⟩;exact(Dp (cf:=⟨_,_,y⟩) hO i1 i2 i3 hF hY h1 h2 hb R hJ hl ha).mono λe w' ⟨y,ρ',q1,q2,q3,q4,_⟩=>⟨y,ρ',q1,q2,q3,q4⟩
theorem yw(hO:E.Ok)(m n:Nat):oc E.P (cN E m n).1/\wV E.P (cN E m n).2.f:=
 let h:=oT hO m n
 ⟨h.1,h.2.1⟩
theorem GS(hO:E.Ok){m n:Nat}{k:FuncId}{vs:List TD}{kind:Kind}{rs:List TD}(h:(cN E m n).1 k vs=some (kind,rs)):fY E.P k vs kind rs:=((yw hO m n).1 k vs kind rs h).1
end
end Ev
end
noncomputable section
namespace Ev
open Go Go.RowKit
inductive Typ(P:Program):TypeId->List T->Prop
 |bool (t:TypeId) (b:Bool) (h:P.underlying t=some .bool):Typ P t [.v (.bool b)]
 |int (t:TypeId) (k:IntKind) (n:Int) (h:P.underlying t=some (.int k)) (hw:(Lit.int k n).wf=true):Typ P t [.v (.int k n)]
 |str (t:TypeId) (s:ByteArray) (h:P.underlying t=some .string) (hs:s.size<=maxLen):Typ P t [.v (.string s)]
 |slice (t e:TypeId) (nn:Bool) (l:List (List T)) (h:P.underlying t=some (.slice e)) (hn:nn=false->l= []) (hl:l.length<=maxLen) (he:∀es∈l,es.length=P.cellsOf e) (ht:∀es∈l,Typ P e es):Typ P t [.s nn (P.cellsOf e) l]
 |struct (t:TypeId) (fs:Array Field) (tss:List (List T)) (h:P.underlying t=some (.struct fs)) (hl:tss.length=fs.size) (hf:∀(i:Nat) f ts,fs[i]? =some f->tss[i]? =some ts->Typ P f.type ts):Typ P t tss.flatten
 |array (t:TypeId) (n:Nat) (e:TypeId) (tss:List (List T)) (h:P.underlying t=some (.array n e)) (hl:tss.length=n) (hf:∀ts∈tss,Typ P e ts):Typ P t tss.flatten
def qY(P:Program):Nat->List Field->Nat->Bool
 |o,[],n=>o==n
 |o,f::fs,n=>f.offset==o && qY P (o+P.cellsOf f.type) fs n
def eO(P:Program):Nat->TypeId->Bool
 |0,_=>false
 |d+1,t=>
  match P.underlying t with
  |some .bool|some (.int _)|some .string=>P.cellsOf t==1
  |some (.slice e)=>P.cellsOf t==1 && eO P d e
  |some (.struct fs)=>qY P 0 fs.toList (P.cellsOf t)&& fs.toList.all λf=>eO P d f.type
  |some (.array n e)=>n*P.cellsOf e==P.cellsOf t && eO P d e
  |_=>false
section
variable {H : Type} {enc : TypeId × Value → H} {P : Program} {w : World}
theorem mY{F:Nat->Prop}{a b:List T}{x y:List Value}(h1:RepTs w F a x)(h2:RepTs w F b y):RepTs w F (a++b) (x++y):=by
 refine⟨by simp [h1.1,h2.1],λi t hi=> ?_⟩;rw [List.getElem?_append]at hi;rw [List.getElem?_append,<-h1.1];split at hi
 .rename_i hlt;rw [if_pos hlt];exact h1.2 i t hi
 .rename_i hlt;rw [if_neg hlt];exact h2.2 _ t hi
theorem qZ{α:Type}(l:List α)(o n:Nat):l.drop o=(l.drop o).take n++l.drop (o+n):=by
 rw [<-List.drop_drop];exact(List.take_append_drop n (l.drop o)).symm
theorem oU{Q:TypeId->List T->Prop}:∀(fs:List Field) (o n:Nat) (cs:List Value),qY P o fs n=true->cs.length=n->(∀f∈fs,∃ts,RepTs w (λ_=>False) ts ((cs.drop f.offset).take (P.cellsOf f.type))/\Q f.type ts)->
  ∃tss:List (List T),tss.length=fs.length/\RepTs w (λ_=>False) tss.flatten (cs.drop o)/\∀(i:Nat) f ts,fs[i]? =some f->tss[i]? =some ts->Q f.type ts
 | [],o,n,cs,hc,hl,h=>by
  simp only [qY,beq_iff_eq]at hc;refine⟨[],rfl,⟨by simp;omega,λi t hi=>by simp at hi⟩,λi f ts hi=>by simp at hi⟩
 |f::fs,o,n,cs,hc,hl,h=>by
  simp only [qY,Bool.and_eq_true,beq_iff_eq]at hc;obtain⟨rfl,hc2⟩:=hc;obtain⟨ts,h1,h2⟩:=h f List.mem_cons_self;obtain⟨tss,g1,g2,g3⟩:=oU fs _ n cs hc2 hl λf' hf'=>h f' (List.mem_cons_of_mem _ hf');refine⟨ts::tss,by simp [g1],?_,λi f' ts' hi hj=> ?_⟩
  .rw [List.flatten_cons,qZ cs f.offset (P.cellsOf f.type)];exact mY h1 g2
  .cases i with
   |zero=>simp at hi hj;subst hi hj;exact h2
   |succ i=>exact g3 i f' ts' (by simpa using hi) (by simpa using hj)
theorem ra{Q:List T->Prop}{z:Nat}:∀(n o:Nat) (cs:List Value),cs.length=(o+n)*z->(∀i,o<=i->i<o+n->∃ts,RepTs w (λ_=>False) ts ((cs.drop (i*z)).take z)/\Q ts)->
  ∃tss:List (List T),tss.length=n/\RepTs w (λ_=>False) tss.flatten (cs.drop (o*z))/\∀ts∈tss,Q ts
 |0,o,cs,hl,h=>⟨[],rfl,⟨by simp;rw [Nat.add_zero]at hl;omega,λi t hi=>by simp at hi⟩,λts hi=>by simp at hi⟩
 |n+1,o,cs,hl,h=>by
  obtain⟨ts,h1,h2⟩:=h o (Nat.le_refl _) (by omega);obtain⟨tss,g1,g2,g3⟩:=ra n (o+1) cs (by rw [hl];congr 1;omega) λi hi hj=>h i (by omega) (by omega);refine⟨ts::tss,by simp [g1],?_,λts' ht=> ?_⟩
  .rw [List.flatten_cons,qZ cs (o*z) z,<-Nat.succ_mul];exact mY h1 g2
  .rcases List.mem_cons.1 ht with h|h
   .subst h;exact h2
   .exact g3 ts' h
theorem mZ{F:Nat->Prop}{t:T}{y:Value}(h:RepT w F t y):RepTs w F [t] [y]:=
 ⟨rfl,λi t' hi=>by cases i with|zero=>simp at hi;subst hi;exact⟨y,rfl,h⟩|succ i=>simp at hi⟩
theorem yx{spare:Nat->Bool}{held:Bool}:∀(d:Nat) (t:TypeId) (fuel:Nat) (cs:List Value) (x:DataW H×List MemPlace),eO P d t=true->DataW.trod enc P w 0 spare held fuel t cs=some x->
  ∃ts,RepTs w (λ_=>False) ts cs/\Typ P t ts/\ts.length=P.cellsOf t:=by
 intro d
 induction d with
 |zero=>intro t fuel cs x hp;simp [eO]at hp
 |succ d ih=>
  intro t fuel cs x hp h;unfold eO at hp;split at hp
  .rename_i hu;obtain⟨b,rfl,_⟩:=DataW.trod_bool hu h;exact⟨_,mZ (.v _ rfl),.bool t b hu,by simp at hp;simp [hp]⟩
  .rename_i k hu;obtain⟨n,rfl,_,hw⟩:=DataW.trod_int hu h;exact⟨_,mZ (.v _ rfl),.int t k n hu hw,by simp at hp;simp [hp]⟩
  .rename_i hu;obtain⟨s,rfl,_,hs⟩:=DataW.trod_string hu h;exact⟨_,mZ (.v _ rfl),.str t s hu hs,by simp at hp;simp [hp]⟩
  .rename_i e hu;simp only [Bool.and_eq_true,beq_iff_eq]at hp;rcases Go.Deep.open_slice hu h with⟨rfl,_⟩|⟨a,len,cap,m,n,Dd,Pl,rfl,_,hl,hcm,hm,_,hx⟩
   .refine⟨[.s false (P.cellsOf e) []],mZ (.s false _ [] none 0 (λ_ _=> .nilFunc) rfl (Nat.le_refl _) (λ_=>rfl) (λi e h=>by simp at h) (λi e j t h=>by simp at h) λi e j t h=>by simp at h),.slice t e false [] hu (λ_=>rfl) (by simp) (λes h=>by simp at h) (λes h=>by simp at h),by simp [hp.1]⟩
   .have hlm:len<=m:=by subst hm;split<;>omega
    have each:∀i:Nat,∃(cs':List Value) (ts:List T),i<len->w.cells? 0 (a.add (i*P.cellsOf e)) (P.cellsOf e)=some cs'/\RepTs w (λ_=>False) ts cs'/\Typ P e ts/\ts.length=P.cellsOf e:=by
     intro i;by_cases hi:i<len
     .obtain⟨cs',h1,h2⟩:=hx i (by omega);obtain⟨ts,g1,g2,g3⟩:=ih e n cs' _ hp.2 h2;exact⟨cs',ts,λ_=>⟨h1,g1,g2,g3⟩⟩
     .exact⟨[],[],λhh=>absurd hh hi⟩
    let V:Nat->List Value:=λi=>(each i).choose
    let L:Nat->List T:=λi=>(each i).choose_spec.choose
    have hf:∀i,i<len->w.cells? 0 (a.add (i*P.cellsOf e)) (P.cellsOf e)=some (V i)/\RepTs w (λ_=>False) (L i) (V i)/\Typ P e (L i)/\(L i).length=P.cellsOf e:=λi hi=>(each i).choose_spec.choose_spec hi
    have hget:∀(i:Nat) es,((List.range len).map L)[i]? =some es->i<len/\es=L i:=λi es hi=>by
     obtain⟨hlt,h1⟩:=List.getElem?_eq_some_iff.1 hi;simp at hlt h1;exact⟨hlt,h1.symm⟩
    have hlen:((List.range len).map L).length=len:=by simp
    have hs:=RepT.s (w:=w) (F:=λ_=>False) true (P.cellsOf e) ((List.range len).map L) (some a) cap (λi j=>(V i).getD j .nilFunc) rfl (by rw [hlen];exact hl) (λh=>by cases h)
     (λi es hi=>by obtain⟨h1,rfl⟩:=hget i es hi;exact(hf i h1).2.2.2)
     (λi es j t hi hj=>by
      obtain⟨h1,rfl⟩:=hget i es hi;obtain⟨q1,q2,q3,q4⟩:=hf i h1;obtain⟨c1,c2,c3⟩:=World.cells?_some q1;obtain⟨y,y1,y2⟩:=q2.2 j t hj;have hjl:=(List.getElem?_eq_some_iff.1 y1).1;have hcell:=c3 j (by omega);rw [y1,pI]at hcell;refine⟨a,rfl,?_,λh=>h,by rw [hcell];simp [List.getD_eq_getElem?_getD,y1]⟩
      have:=wi hcell
      rwa [show(a.add (i*P.cellsOf e+j)).block=a.block by unfold Addr.add;split<;>rfl]at this)
     (λi es j t hi hj=>by
      obtain⟨h1,rfl⟩:=hget i es hi;obtain⟨q1,q2,q3,q4⟩:=hf i h1;obtain⟨y,y1,y2⟩:=q2.2 j t hj
      simpa [List.getD_eq_getElem?_getD,y1]using y2)
    rw [hlen]at hs;refine⟨_,mZ hs,.slice t e true _ hu (λh=>by cases h) (by rw [hlen];omega) (λes he=> ?_) (λes he=> ?_),by simp [hp.1]⟩
    .obtain⟨i,hi,rfl⟩:=List.mem_map.1 he;exact(hf i (by simpa using hi)).2.2.2
    .obtain⟨i,hi,rfl⟩:=List.mem_map.1 he;exact(hf i (by simpa using hi)).2.2.1
  .rename_i fs hu;simp only [Bool.and_eq_true,List.all_eq_true]at hp;obtain⟨xs,n,_,_,hcl,hxl,hxs⟩:=DataW.trod_struct hu h
   obtain⟨tss,g1,g2,g3⟩:=oU (P:=P) (w:=w) (Q:=λt ts=>Typ P t ts) fs.toList 0 (P.cellsOf t) cs hp.1 hcl (λf hf=>by
    obtain⟨i,hi,rfl⟩:=List.getElem_of_mem hf;have hi2:i<xs.length:=by rw [hxl];simpa using hi
    have:=hxs i fs.toList[i] (by rw [<-Array.getElem?_toList];simp)
    rw [List.getElem?_eq_getElem hi2]at this;obtain⟨ts,k1,k2,k3⟩:=ih _ _ _ _ (hp.2 _ hf) this
    exact⟨ts,k1,k2⟩)
   rw [List.drop_zero]at g2;exact⟨_,g2,.struct t fs tss hu (by simpa using g1) (λi f ts hi hj=>g3 i f ts (by simpa using hi) hj),by rw [g2.1];exact hcl⟩
  .rename_i n e hu;simp only [Bool.and_eq_true,beq_iff_eq]at hp;obtain⟨xs,m,_,_,hcl,hxl,hxs⟩:=DataW.trod_array hu h
   obtain⟨tss,g1,g2,g3⟩:=ra (w:=w) (Q:=λts=>Typ P e ts) (z:=P.cellsOf e) n 0 cs (by rw [hcl,<-hp.1];simp) (λi _ hi=>by
    have:=hxs i (by omega)
    have hi2:i<xs.length:=by omega
    rw [List.getElem?_eq_getElem hi2]at this;obtain⟨ts,k1,k2,k3⟩:=ih _ _ _ _ hp.2 this
    exact⟨ts,k1,k2⟩)
   rw [Nat.zero_mul,List.drop_zero]at g2;exact⟨_,g2,.array t n e tss hu g1 g3,by rw [g2.1];exact hcl⟩
  .simp at hp
inductive Dr(P:Program):TypeId->TD->Prop
 |agg (t:TypeId) (ts:List T) (h:Typ P t ts) (ha:∃d,P.underlying t=some d/\aH d=true):Dr P t (.agg ts)
 |one (t:TypeId) (x:T) (h:Typ P t [x]) (ha:∃d,P.underlying t=some d/\aH d=false):Dr P t (.one x)
inductive go(P:Program):List TypeId->List TD->Prop
 |nil:go P [] []
 |cons (t:TypeId) (ts:List TypeId) (d:TD) (ds:List TD) (h:Dr P t d) (hr:go P ts ds):go P (t::ts) (d::ds)
theorem yz{d:Nat}{base:Nat}{t:TypeId}{v:Value}{x:DataW H}{ps:List MemPlace}(hp:eO P d t=true)(hv:Value.okWide P w .any base t v)(h:DataW.Trod enc P w 0 (λ_=>true) true t v x ps):∃td,RepTD w (λ_=>False) td v/\Dr P t td:=by
 obtain⟨fuel,hf⟩:=h;obtain⟨ts,h1,h2,h3⟩:=yx d t fuel _ _ hp hf
 have hone:∀y,v=y->y.cells=#[y]->P.cellsOf t=1->(∃d,P.underlying t=some d/\aH d=false)->∃td,RepTD w (λ_=>False) td v/\Dr P t td:=by
  intro y hy hc hz ha;subst hy;rw [hz]at h3
  match ts,h3 with
  | [x],_=>
   obtain⟨y,y1,y2⟩:=h1.2 0 x rfl;rw [hc]at y1;simp at y1;subst y1;exact⟨.one x,.one _ _ y2,.one _ _ h2 ha⟩
 cases d with
 |zero=>simp [eO]at hp
 |succ d=>
  unfold eO at hp;split at hp
  .rename_i hu;obtain⟨b,rfl⟩:=Go.WideShapes.okWide_bool hu hv;exact hone _ rfl rfl (by simpa using hp) ⟨_,hu,rfl⟩
  .rename_i k hu;obtain⟨n,rfl⟩:=Go.WideShapes.okWide_int hu hv;exact hone _ rfl rfl (by simpa using hp) ⟨_,hu,rfl⟩
  .rename_i hu;obtain⟨s,rfl⟩:=Go.WideShapes.okWide_string hu hv;exact hone _ rfl rfl (by simpa using hp) ⟨_,hu,rfl⟩
  .rename_i e hu;obtain⟨a,n,c,rfl⟩:=Go.WideShapes.okWide_slice hu hv;simp only [Bool.and_eq_true,beq_iff_eq]at hp;exact hone _ rfl rfl hp.1 ⟨_,hu,rfl⟩
  .rename_i fs hu;unfold Value.okWide at hv;rw [hu]at hv;obtain⟨cs,rfl,_⟩:=hv;refine⟨.agg ts,?_,.agg _ _ h2 ⟨_,hu,rfl⟩⟩
   have:=RepTD.agg ts cs.toList h1
   simpa using this
  .rename_i n e hu;unfold Value.okWide at hv;rw [hu]at hv;obtain⟨cs,rfl,_⟩:=hv;refine⟨.agg ts,?_,.agg _ _ h2 ⟨_,hu,rfl⟩⟩
   have:=RepTD.agg ts cs.toList h1
   simpa using this
  .simp at hp
theorem tC{d:Nat}{base:Nat}:∀{ts:List TypeId} {vs:List Value} {ds:List (DataW H)} {ps:List MemPlace},(∀t∈ts,eO P d t=true)->DataW.TrodAll enc P w 0 (λ_=>true) true ts vs ds ps->
  (∀(j:Nat) t v,ts[j]? =some t->vs[j]? =some v->Value.okWide P w .any base t v)->∃tds,gO w (λ_=>False) tds vs/\go P ts tds
 | [],[],[],ps,_,_,_=>⟨[],⟨rfl,λi t h=>by simp at h⟩,.nil⟩
 |t::ts,v::vs,x::ds,ps,hp,h,hv=>by
  obtain⟨p,q,h1,h2,_⟩:=h;obtain⟨td,g1,g2⟩:=yz (hp t List.mem_cons_self) (hv 0 t v rfl rfl) h1;obtain⟨tds,k1,k2⟩:=tC (λt ht=>hp t (List.mem_cons_of_mem _ ht)) h2 λj t v hj hjv=>hv (j+1) t v (by simpa using hj) (by simpa using hjv);refine⟨td::tds,⟨by simp [k1.1],λi t' hi=> ?_⟩,.cons _ _ _ _ g2 k2⟩
  cases i with
  |zero=>simp at hi;subst hi;exact⟨v,rfl,g1⟩
  |succ i=>simpa using k1.2 i t' (by simpa using hi)
 | [],_::_,_,_,_,h,_=>h.elim
 | [],[],_::_,_,_,h,_=>h.elim
 |_::_,[],_,_,_,h,_=>h.elim
 |_::_,_::_,[],_,_,h,_=>h.elim
theorem Ds{E:Env}(hO:E.Ok)(hL:LD w.heap.size w){d k base:Nat}{ts:List TypeId}{vs:List Value}{ds:List (DataW H)}{ps:List MemPlace}(hp:∀t∈ts,eO E.P d t=true)(hA:DataW.TrodAll enc E.P w 0 (λ_=>true) true ts vs ds ps)
  (hv:∀(j:Nat) t v,ts[j]? =some t->vs[j]? =some v->Value.okWide E.P w .any base t v) (hlaw:∀tds,go E.P ts tds->∃m n kind,(cN E m n).1 k tds=some (kind,[.one (.v (.bool true))])):
  Calls E.P k vs.toArray w λe w'=>e= .returned (.bool true)/\Below w.heap.size w w':=by
 obtain⟨tds,h1,h2⟩:=tC hp hA hv;obtain⟨m,n,kind,h3⟩:=hlaw tds h2;refine(GS hO h3 w (λ_=>False) vs hL (λ_ h=>h.elim) h1).mono λe w' ⟨y,he,hr,_,hb⟩=>⟨?_,hb⟩;subst he
 cases hr with
 |one t y h=>cases h with|v x hx=>rfl
end
end Ev
end
end Go.Proofs.Ytkmbihigeeclbaa
