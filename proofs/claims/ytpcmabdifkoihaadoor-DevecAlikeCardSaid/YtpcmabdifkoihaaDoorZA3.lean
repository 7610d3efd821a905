/- Texts of a claim, joined. -/
import Derived.Test.YtpcmabdifkoihaaDoorZA2
import Derived.RangeFuncNested
import Derived.Deep.Slices
import Derived.OpenShut
import Derived.WideShapes
import Derived.ChangeShapes
import Derived.IntWalk
set_option linter.unusedVariables false
set_option linter.unusedSimpArgs false
namespace Go.Proofs.YtpcmabdifkoihaaDoor
noncomputable section
namespace Ev
open Go Go.RowKit
def LV(P:Program)(rf:Oa):Prop:=∀y f args H H',rf y f args H=some H'->Enters P f/\
 ∀(base:Nat) (F0:Nat->Prop) (A B:Nat->Prop) (J:aC->(Nat->Nat)->World->Prop),YOk P base F0 y A B J->(∀b,F0 b->b<base)->∀(w:World) (ρ:Nat->Nat) (ys:List Value),base<=w.heap.size->HRel w base F0 ρ H->J H ρ w->args.length=ys.length->
  (∀(i:Nat) d,args[i]? =some d->∃y,ys[i]? =some y/\RepD w base (Fb F0 ρ H) ρ H d y)->
  Calls P f ys.toArray w λe w'=>∃y ρ',e= .returned y/\HRel w' base F0 ρ' H'/\ExtA A w ρ H w' ρ' H'/\J H' ρ' w'
def jmp:Ex->Option Code
 | .normal=>none
 | .ret=>some .ret
 | .exit id=>some (.exit id)
theorem Eu(e:Ex):zy (List.replicate (sY e) [])=e:=by
 cases e with
 |normal=>rfl
 |ret=>rfl
 |exit id=>simp [sY,zy,List.replicate_succ]
theorem HO{e:Ex}(h:(List.replicate (sY e) []:List (List C))= []):e= .normal:=by
 cases e<;>simp [sY]at h ⊢
theorem CC:lV .normal= .own 0 []:=rfl
section
variable {base : Nat} {F0 : Nat → Prop}
theorem yx{w:World}{F:Nat->Prop}{ρ:Nat->Nat}{H:aC}:∀(ps:List Tmp) (ds:List D) (ys:List Value) (t:List D) (tm:Array Value),ds.length=ys.length->ps.length=ds.length->
  (∀(i:Nat) d,ds[i]? =some d->∃y,ys[i]? =some y/\RepD w base F ρ H d y)->(t.length=tm.size/\∀(i:Nat) d,t[i]? =some d->∃y,tm[i]? =some y/\RepD w base F ρ H d y)->
  ((kZ t ps ds).length=((ps.zip ys).foldl (λtm (p,v)=>tm.setIfInBounds p v) tm).size/\∀(i:Nat) d,(kZ t ps ds)[i]? =some d->∃y,((ps.zip ys).foldl (λtm (p,v)=>tm.setIfInBounds p v) tm)[i]? =some y/\RepD w base F ρ H d y)
 | [],ds,ys,t,tm,_,_,_,h=>by simpa [kZ]using h
 |p::ps,[],ys,t,tm,_,hl,_,_=>by simp at hl
 |p::ps,d::ds,[],t,tm,hl,_,_,_=>by simp at hl
 |p::ps,d::ds,y::ys,t,tm,h1,h2,h3,h=>by
  simp only [kZ,List.zip_cons_cons,List.foldl_cons];refine yx ps ds ys _ _ (by simpa using h1) (by simpa using h2) (λi d' hi=>by simpa using h3 (i+1) d' (by simpa using hi)) ⟨by simp [h.1],λi d' hi=> ?_⟩;obtain⟨y0,g1,g2⟩:=h3 0 d rfl;simp at g1;subst g1;rw [List.getElem?_set]at hi;split at hi
  .rename_i hpi;subst hpi;split at hi
   .rename_i hlt;cases hi;exact⟨y,by simp [Array.getElem?_setIfInBounds,<-h.1,hlt],g2⟩
   .simp at hi
  .rename_i hpi;obtain⟨y1,q1,q2⟩:=h.2 i d' hi;exact⟨y1,by rw [Array.getElem?_setIfInBounds_ne hpi];exact q1,q2⟩
theorem Marks.obj{lo:Nat}{w:World}{ρ:Nat->Nat}{H:aC}{ds:List Deferred}{l:Nat}{rc:Loop}(h:Marks lo ρ H w ds)(hl:w.heap[l]? =some (.loop rc))(o':Obj):Marks lo ρ H (w.putObj l o') ds:=by
 obtain⟨bs,h1,h2,h3⟩:=h;refine⟨bs,h1,h2,λD hD=> ?_⟩;obtain⟨g1,g2,g3,g4⟩:=h3 D hD;exact⟨g1,by rw [World.putObj_size];exact g2,g3,by rw [World.putObj_heap_other (λe=>by rw [e,hl]at g4;simp at g4)];exact g4⟩
theorem tC{R:D->Value->Prop}{a b:List D}{x y:List Value}(h1:a.length=x.length/\∀(i:Nat) d,a[i]? =some d->∃v,x[i]? =some v/\R d v)(h2:b.length=y.length/\∀(i:Nat) d,b[i]? =some d->∃v,y[i]? =some v/\R d v):
  (a++b).length=(x++y).length/\∀(i:Nat) d,(a++b)[i]? =some d->∃v,(x++y)[i]? =some v/\R d v:=by
 refine⟨by simp [h1.1,h2.1],λi d hi=> ?_⟩;rw [List.getElem?_append]at hi;rw [List.getElem?_append,<-h1.1];split at hi
 .rename_i hlt;rw [if_pos hlt];exact h1.2 i d hi
 .rename_i hlt;rw [if_neg hlt];exact h2.2 _ d hi
theorem RelT.pair{w:World}{F:Nat->Prop}{ρ:Nat->Nat}{H:aC}{t:List D}{a:Act}(h:RelT w base F ρ H t a):t.length=a.tmps.size/\∀(i:Nat) d,t[i]? =some d->∃y,a.tmps[i]? =some y/\RepD w base F ρ H d y:=h.2
end
section
variable {E : Env} {cp : cU} {cf : kB} {base : Nat} {F0 : Nat → Prop}
theorem OJ(hE:gJ E.P E.ti)(hcp:sw E.P cp)(hcf:Cs E.P cf.f)(hrf:LV E.P cf.r)(hm:E.P.follows .mixedOrders=true)(hF:∀b,F0 b->b<base)(m lo:Nat):∀(c:Code) (A B:Nat->Prop) (J:aC->(Nat->Nat)->World->Prop) (hY:YOk E.P base F0 cf.y A B J) (r:Option Nat) (n:Nat)
  (hro:∀l,r=some l->∀H ρ w,J H ρ w->∃rec,w.heap[l]? =some (.loop rec)) (s:St) (ex:Ex) (s':St) (a:Act) (w:World) (ρ:Nat->Nat),
  Pre lo base F0 J ρ s a w->evC E cp cf m c s=some (ex,s')->c.wpIn (FR r) n E.P (Post lo base F0 A J w ρ s.h ex s') a w:=by
 intro c
 induction c with
 |skip=>
  intro A B J hY r n hro s ex s' a w ρ R h;simp only [evC,zsI,Prod.mk.injEq]at h;obtain⟨rfl,rfl⟩:=h;exact wpIn_skip ⟨rfl,ρ,R,ExtA.refl _ _ _⟩
 |region id ops draw=>
  intro A B J hY r n hro s ex s' a w ρ R h;simp only [evC]at h
  cases draw with
  |true=>
   simp only [if_true,Option.map_eq_some_iff,Prod.mk.injEq]at h;obtain⟨s1,h1,rfl,rfl⟩:=h
   cases hc:nF ops with
   |some q=>
    rw [hc]at h1;exact Js hE hcp hcf hY hm hF hc R.r R.j h1 (by rintro⟨_,_,h,_⟩;cases h) λa' w' ρ' R' X' J' D'=>⟨rfl,ρ',⟨R',J',by rw [D'];exact R.m.ext X',Nat.le_trans R.lo X'.size⟩,X'⟩
   |none=>
   rw [hc]at h1;exact LU hE hcp hm hF R.r h1 λa' w' ρ' R' X' D'=>⟨rfl,ρ',⟨R',hY.keep _ _ _ _ _ _ R.r.heap R.j X'.toA R'.heap,by rw [D'];exact R.m.ext X',Nat.le_trans R.lo X'.size⟩,X'.toA⟩
  |false=>
   simp only [Bool.false_eq_true,if_false,Option.map_eq_some_iff,Prod.mk.injEq]at h;obtain⟨s1,h1,rfl,rfl⟩:=h;refine wpIn_region (vY hE hcp hcf hY hF (by rintro⟨_,_,h,_⟩;cases h) ops.toList _ s s1 a w ρ ⟨by simp,λi n hi=> ?_⟩ R.r R.j h1 λa' w' ρ' R' X' J' D'=>⟨rfl,ρ',⟨R',J',by rw [D'];exact R.m.ext X',Nat.le_trans R.lo X'.size⟩,X'⟩);have hlt:=(List.getElem?_eq_some_iff.1 hi).1;simp at hlt;rw [List.getElem?_range hlt]at hi;cases hi;simp
 |seq x y ihx ihy=>
  intro A B J hY r n hro s ex s' a w ρ R h;simp only [evC,zbB,zbE]at h;obtain⟨⟨e1,s1⟩,h1,h2⟩:=h;refine wpIn_seq (wpIn_mono (ihx A B J hY r n hro s e1 s1 a w ρ R h1) λe a' w' ⟨he,ρ',R',X'⟩=> ?_);subst he
  cases e1 with
  |normal=>
   exact wpIn_mono (ihy A B J hY r n hro s1 ex s' a' w' ρ' R' h2) λe2 a2 w2 ⟨he2,ρ2,R2,X2⟩=>⟨he2,ρ2,R2,X'.trans X2⟩
  |exit id=>
   simp only [zsI,Prod.mk.injEq]at h2;obtain⟨rfl,rfl⟩:=h2;exact⟨rfl,ρ',R',X'⟩
  |ret=>
   simp only [zsI,Prod.mk.injEq]at h2;obtain⟨rfl,rfl⟩:=h2;exact⟨rfl,ρ',R',X'⟩
 |cond c x y ihx ihy=>
  intro A B J hY r n hro s ex s' a w ρ R h;simp only [evC,zbB,zbE]at h;obtain⟨d,h1,t,h2,h3⟩:=h;have hc:=uB (R.r.tmps.g.opnd h1) h2;refine wpIn_cond hc ?_
  cases t with
  |true=>simp only [if_true]at h3 ⊢;exact ihx A B J hY r n hro s ex s' a w ρ R h3
  |false=>simp only [Bool.false_eq_true,if_false]at h3 ⊢;exact ihy A B J hY r n hro s ex s' a w ρ R h3
 |block id c ih=>
  intro A B J hY r n hro s ex s' a w ρ R h;simp only [evC,zbB,zbE,zsI,Prod.mk.injEq]at h;obtain⟨⟨e1,s1⟩,h1,h2,rfl⟩:=h;refine wpIn_block (wpIn_mono (ih A B J hY r n hro s e1 s1 a w ρ R h1) λe a' w' ⟨he,ρ',R',X'⟩=> ?_);subst he;simp only at h2
  cases e1 with
  |normal=>simp at h2;subst h2;exact⟨rfl,ρ',R',X'⟩
  |ret=>simp at h2;subst h2;exact⟨rfl,ρ',R',X'⟩
  |exit id'=>
   simp only [Jt,Exit.inBlock];by_cases hid:id'=id
   .subst hid;simp at h2;subst h2;simp only [if_true];exact⟨rfl,ρ',R',X'⟩
   .simp [hid]at h2;subst h2;rw [if_neg hid];exact⟨rfl,ρ',R',X'⟩
 |loop c ih=>
  intro A B J hY r n hro s ex s' a w ρ R h;simp only [evC]at h;exact uq (f:=evC E cp cf m c) (λs ex s' a w ρ R h=>ih A B J hY r n hro s ex s' a w ρ R h) m s s' ex a w ρ R h
 |exit id=>
  intro A B J hY r n hro s ex s' a w ρ R h;simp only [evC,zsI,Prod.mk.injEq]at h;obtain⟨rfl,rfl⟩:=h;exact wpIn_exit ⟨rfl,ρ,R,ExtA.refl _ _ _⟩
 |ret=>
  intro A B J hY r n hro s ex s' a w ρ R h;simp only [evC,zsI,Prod.mk.injEq]at h;obtain⟨rfl,rfl⟩:=h;exact wpIn_ret ⟨rfl,ρ,R,ExtA.refl _ _ _⟩
 |rangeFunc g ps asg body iha ihb=>
  intro A B J hY r n hro s ex s' a w ρ R h;simp only [evC,zbB,zbE]at h;obtain⟨dg,h1,h2⟩:=h;split at h2
  .rename_i f first cap;simp only [zbE]at h2;obtain⟨Hf,h3,⟨sz,es⟩,h4,h5⟩:=h2;split at h5
   .rename_i hz;simp only at hz;subst hz;simp only [zsI,Prod.mk.injEq]at h5;obtain⟨rfl,rfl⟩:=h5;obtain⟨hent,hcall⟩:=hrf _ _ _ _ _ h3;generalize hk:s.h.length=k at*;have hnone:s.h[k]? =none:=List.getElem?_eq_none (by omega);have hBk:¬B k:=λhb=>by obtain⟨es0,q⟩:=hY.lt _ _ _ k R.j hb;rw [hnone]at q;simp at q
    have hAk:¬A k:=λha=>hBk (hY.sub k ha)
    -- the function
    obtain⟨v1,v2,hv,l1,l2,e1,e2⟩:∃v1 v2:Array Value,a.eval g= .func (.func f) v1 v2/\first.length=v1.size/\cap.length=v2.size/\
      (∀(i:Nat) c,first[i]? =some c->∃y,v1[i]? =some y/\RepC w base (Fb F0 ρ s.h) ρ s.h c y)/\(∀(i:Nat) c,cap[i]? =some c->∃y,v2[i]? =some y/\RepC w base (Fb F0 ρ s.h) ρ s.h c y):=by
     have hg:=R.r.tmps.g.opnd h1;generalize a.eval g=vg at hg
     cases hg with
     |one c y hc=>cases hc with|clo fn first cap v1 v2 y1 y2 l1 l2 e1 e2 r1 r2=>exact⟨v1,v2,rfl,l1,l2,λi c hi=>⟨_,e1 i c hi,r1 i c hi⟩,λi c hi=>⟨_,e2 i c hi,r2 i c hi⟩⟩
    -- the round,whatever the record
    have main:∀(fnid D0 l:Nat) (w1:World) (mark:List Deferred),Below w.heap.size w w1->w.heap.size<=l->l<w1.heap.size->
      w1.heap[l]? =some (.loop {state:= .ready,pending:=none,fn:=fnid,tmps:=a.tmps,params:=ps,assign:=asg,body:=body,defers:=D0})->
      (∀(ρ':Nat->Nat) (H':aC) (w':World),(∀b,b<w1.heap.size->b≠l->xq ρ' H' b->xq ρ s.h b)->(∀b,w.heap.size<=b->b<w1.heap.size->b≠l->w'.heap[b]? =w1.heap[b]?)->w1.heap.size<=w'.heap.size->ExtA A w ρ s.h w' ρ' H'->Marks lo ρ' H' w' (mark++a.defers))->
      CallsIn (FR r) (n - 1) E.P f (v1++ #[.func (.yield l) #[] #[]]++v2) w1 (rangePost (FR r) n E.P l (Post lo base F0 A J w ρ s.h (zy es) {t:=s.t,h:=Hf}) {a with defers:=mark++a.defers}):=by
     intro fnid D0 l w1 mark hbl hl1 hl2 hrec0 hmark;obtain⟨rec,hrec⟩:∃rec:LoopState->Option Code->Loop,rec=λst pe=>{state:=st,pending:=pe,fn:=fnid,tmps:=a.tmps,params:=ps,assign:=asg,body:=body,defers:=D0}:=⟨_,rfl⟩;have hr0:w1.heap[l]? =some (.loop (rec .ready none)):=by rw [hrec];exact hrec0
     -- the loop's block
     have hnl:w1.frozen? ⟨l,0,none⟩=false:=by unfold World.frozen?;simp only [hr0]
     have hz0:(([]:List (List T)).map (·.map (pC true)))= []:=rfl;obtain⟨R1,X1⟩:=FV (nid:=k) (b:=l) (c:=0) (sz:=0) (l:= []) R.r.heap R.r.base hbl (λB hB=>by rw [hnone]at hB;simp at hB) (Nat.le_refl _) hl1 hl2 (by simp) (λo=>by unfold World.frozen?;simp only [hr0]) (λi e hi=>by simp at hi) (λi j e t hi=>by simp at hi);rw [hz0]at R1 X1;generalize hρ1:(λj=>if j=k then l else ρ j)=ρ1 at R1 X1;have hρk:ρ1 k=l:=by rw [<-hρ1];simp
     -- what is known of the loop
     let J2:aC->(Nat->Nat)->World->Prop:=λH ρ w=>(J H ρ w/\lo<=w.heap.size)/\ρ k=l/\RelT w base (Fb F0 ρ H) ρ H s.t a/\∃e,H[k]? =some (lV e)/\w.heap[l]? =some (.loop (rec (if e= .normal then .ready else .done) (jmp e)))
     let J3:LoopState->aC->(Nat->Nat)->World->Prop:=λst H ρ w=>J H ρ w/\ρ k=l/\H[k]? =some (.own 0 [])/\w.heap[l]? =some (.loop (rec st none))
     have hobj:∀st pe,(Obj.loop (rec st pe)).isCells=false:=λst pe=>rfl
     have hJne:∀{H:aC} {ρ:Nat->Nat} {w:World} {es0:List (List C)},HRel w base F0 ρ H->J H ρ w->ρ k=l->H[k]? =some (.own 0 es0)->∀j,B j->ρ j≠l:=λRR jj hl hkk j hj he=>by
      obtain⟨es1,q⟩:=hY.lt _ _ _ j jj hj
      have:=RR.inj j k _ _ _ _ q hkk (he.trans hl.symm)
      exact hBk (this▸hj)
     have hY3:∀st,YOk E.P base F0 cf.y A (λj=>B j∨j=k) (J3 st):=λst=>by
      refine⟨λj hj=> .inl (hY.sub j hj),λH ρ w j ⟨j1,j2,j3,j4⟩ hj=> ?_,λH ρ w H' ρ' w' RR ⟨j1,j2,j3,j4⟩ X RR'=> ?_,λH ρ w l' o o' RR ⟨j1,j2,j3,j4⟩ ho c1 c2 hne=> ?_,λkk args H e H1 hh=> ?_⟩
      .rcases hj with hj|rfl
       .exact hY.lt _ _ _ j j1 hj
       .exact⟨_,j3⟩
      .obtain⟨z1,z2⟩:=X.z k [] (λhn=>hn (.inr rfl)) j3;refine⟨hY.keep _ _ _ _ _ _ RR j1 (X.weak λq hq hb=>hq (.inl hb)) RR',(X.rho j3 ⟨_,z1⟩).trans j2,z1,?_⟩;rw [j2]at z2;rw [z2];exact j4
      .refine⟨hY.obj _ _ _ _ _ _ RR j1 ho c1 c2 λq hq=>hne q (.inl hq),j2,j3,?_⟩;rw [World.putObj_heap_other (λe=>hne k (.inr rfl) (j2.trans e))];exact j4
      .obtain⟨a1,a2⟩:=hY.round _ _ _ _ _ hh;refine⟨a1,λw ρ ys RR hb ⟨j1,j2,j3,j4⟩ hkk hlen hargs=> ?_⟩;obtain⟨ff,tm,zas,bo,q1,q2⟩:=a2 w ρ ys RR hb j1 hkk hlen hargs;refine⟨ff,tm,zas,bo,q1,λn=>(q2 n).mono λe' w' ⟨he',ρ',g1,g2,g3⟩=>⟨he',ρ',g1,g2,?_⟩⟩;obtain⟨z1,z2⟩:=g2.z k [] hAk j3;refine⟨g3,(g2.rho j3 ⟨_,z1⟩).trans j2,z1,?_⟩;rw [j2]at z2;rw [z2];exact j4
     have hrnd:∀st l',some l=some l'->∀H ρ w,J3 st H ρ w->∃rc,w.heap[l']? =some (.loop rc):=λst l' he H ρ w ⟨_,_,_,j4⟩=>by cases he;exact⟨_,j4⟩
     have hY2:YOk E.P base F0 (λj args h=>if j=k/\args.length=ps.toList.length then do
        let(e,s1)<-evC E cp cf m asg {t:=kZ s.t ps.toList args,h:=h}
        match e with
        | .normal=>do
         let(e,s2)<-evC E cp cf m body s1
         some (e,s2.h)
        |_=>none
       else none) (λj=>A j∨j=k) (λj=>B j∨j=k) J2:=by
      refine⟨λj hj=>hj.imp (hY.sub j) id,λH ρ w j ⟨⟨j1,jl⟩,j2,j3,e,j4,j5⟩ hj=> ?_,λH ρ w H' ρ' w' RR ⟨⟨j1,jl⟩,j2,j3,e,j4,j5⟩ X RR'=> ?_,λH ρ w l' o o' RR ⟨⟨j1,jl⟩,j2,j3,e,j4,j5⟩ ho c1 c2 hne=> ?_,λkk args H ex H1 hh=> ?_⟩
      .rcases hj with hj|rfl
       .exact hY.lt _ _ _ j j1 hj
       .exact⟨_,j4⟩
      .obtain⟨z1,z2⟩:=X.z k _ (λhn=>hn (.inr rfl)) j4;refine⟨⟨hY.keep _ _ _ _ _ _ RR j1 (X.weak λq hq hb=>hq (.inl hb)) RR',Nat.le_trans jl X.size⟩,(X.rho j4 ⟨_,z1⟩).trans j2,j3.mono λc y hc=>hc.ext RR.lt X,e,z1,?_⟩;rw [j2]at z2;rw [z2];exact j5
      .refine⟨⟨hY.obj _ _ _ _ _ _ RR j1 ho c1 c2 λq hq=>hne q (.inl hq),by rw [World.putObj_size];exact jl⟩,j2,j3.mono λc y hc=>hc.obj ho c1 c2,e,j4,?_⟩;rw [World.putObj_heap_other (λe=>hne k (.inr rfl) (j2.trans e))];exact j5
      .simp only at hh;split at hh
       .rename_i hcond;obtain⟨hkk0,hlenp⟩:=hcond;rw [hkk0];simp only [zbB,zbE]at hh;obtain⟨⟨e1,s1⟩,h6,h7⟩:=hh;refine⟨.inr rfl,λw ρ ys RR hb ⟨⟨j1,jl⟩,j2,j3,e,j4,j5⟩ hkk hlen hargs=> ?_⟩
        cases e1 with
        |exit id=>simp at h7
        |ret=>simp at h7
        |normal=>
         simp only [zbE,zsI,Prod.mk.injEq]at h7;obtain⟨⟨e2,s2⟩,h8,rfl,rfl⟩:=h7
         have he0:e= .normal:=by
          rw [hkk]at j4
          have:=Option.some.inj j4
          unfold lV at this
          injection this with _ this
          exact HO this.symm
         subst he0;simp only [if_true,jmp]at j5;rw [j2];have hsz:ys.toArray.size=(rec .ready none).params.size:=by rw [hrec];simp [<-hlen,hlenp]
         refine⟨_,_,_,_,run_yield j5 hsz,λn'=> ?_⟩;have hrecp:(rec .ready none).tmps=a.tmps/\(rec .ready none).params=ps/\(rec .ready none).assign=asg/\(rec .ready none).body=body:=by rw [hrec];exact⟨rfl,rfl,rfl,rfl⟩
         rw [hrecp.1,hrecp.2.1,hrecp.2.2.1,hrecp.2.2.2];refine roundIn_of_wpIn trivial ?_
         have hfold:(ps.zip ys.toArray).foldl (λtm (p,v)=>tm.setIfInBounds p v) a.tmps=(ps.toList.zip ys).foldl (λtm (p,v)=>tm.setIfInBounds p v) a.tmps:=by
          rw [<-Array.foldl_toList];simp
         have hT:=yx ps.toList args ys s.t a.tmps hlen hlenp.symm hargs j3.pair;have R3:Rel base F0 ρ {t:=kZ s.t ps.toList args,h:=H} {tmps:=(ps.toList.zip ys).foldl (λtm (p,v)=>tm.setIfInBounds p v) a.tmps,defers:= []} w:=⟨RR,⟨rfl,hT⟩,hb⟩;have hloW:w.heap.size<=w.heap.size:=Nat.le_refl _;have P3:Pre lo base F0 (J3 .ready) ρ {t:=kZ s.t ps.toList args,h:=H} {tmps:=(ps.toList.zip ys).foldl (λtm (p,v)=>tm.setIfInBounds p v) a.tmps,defers:= []} w:=⟨R3,⟨j1,j2,hkk,j5⟩,⟨[],rfl,List.nodup_nil,λD hD=>by simp at hD⟩,jl⟩;rw [hfold];refine wpIn_mono (F:=FR (some l)) (iha A _ (J3 .ready) (hY3 .ready) (some l) n' (hrnd .ready) _ _ _ _ _ _ P3 h6) λe' a1 w1' ⟨he',ρ1',P1,X1'⟩=> ?_;subst he';obtain⟨q1,q2,q3,q4⟩:=P1.j;have hbusy:({rec .ready none with state:= .busy}:Loop)=rec .busy none:=by rw [hrec]
         refine⟨_,run_beginRound q4 (by rw [hrec]),?_⟩;rw [hbusy];have hne:=hJne P1.r.heap q1 q2 q3;obtain⟨_,Xb⟩:=ri (A:=λj=>A j∨j=k) (o':= .loop (rec .busy none)) P1.r.heap q3 (.inr rfl) (by rw [q2];exact q4) rfl rfl .normal;rw [CC,wg q3,q2]at Xb;have P2:Pre lo base F0 (J3 .busy) ρ1' s1 a1 (w1'.putObj l (.loop (rec .busy none))):=⟨P1.r.obj q4 rfl rfl,⟨hY.obj _ _ _ _ _ _ P1.r.heap q1 q4 rfl rfl hne,q2,q3,World.putObj_heap_same (Array.getElem?_eq_some_iff.1 q4).1⟩,P1.m.obj q4 _,by rw [World.putObj_size];exact P1.lo⟩;refine wpIn_mono (F:=FR (some l)) (ihb A _ (J3 .busy) (hY3 .busy) (some l) n' (hrnd .busy) _ _ _ _ _ _ P2 h8) λe' a3 w3 ⟨he',ρ3,P4,X3⟩=> ?_;subst he';obtain⟨u1,u2,u3,u4⟩:=P4.j;have hend:∀jj,(Instr.endRound l jj).run E.P w3= .ok (.bool jj.isNone) (w3.putObj l (.loop (rec (if jj.isNone then .ready else .done) jj))):=λjj=>by have:=run_endRound (P:=E.P) jj u4;rw [hrec]at this ⊢;exact this
         have hlt3:=(Array.getElem?_eq_some_iff.1 u4).1
         have fin:∀(st:LoopState),st=(if e2= .normal then .ready else .done)->(Ending.returned (.bool (e2== .normal))= .returned (.bool (e2== .normal))/\∃ρ',HRel (w3.putObj l (.loop (rec st (jmp e2)))) base F0 ρ' (aK s2.h k (lV e2))/\ExtA (λj=>A j∨j=k) w ρ H (w3.putObj l (.loop (rec st (jmp e2)))) ρ' (aK s2.h k (lV e2))/\J2 (aK s2.h k (lV e2)) ρ' (w3.putObj l (.loop (rec st (jmp e2))))):=λst hst=>by
          obtain⟨R4,X4⟩:=ri (A:=λj=>A j∨j=k) (o':= .loop (rec st (jmp e2))) P4.r.heap u3 (.inr rfl) (by rw [u2];exact u4) rfl rfl e2;obtain⟨_,X5⟩:=ri (A:=λj=>¬B j) (o':= .loop (rec st (jmp e2))) P4.r.heap u3 hBk (by rw [u2];exact u4) rfl rfl e2;rw [u2]at R4 X4 X5;have Xt:=((X1'.weak (A':=λj=>A j∨j=k) λ_=> .inl).trans Xb).trans ((X3.weak (A':=λj=>A j∨j=k) λ_=> .inl).trans X4);exact⟨rfl,ρ3,R4,Xt,⟨hY.keep _ _ _ _ _ _ P4.r.heap u1 X5 R4,by rw [World.putObj_size];exact P4.lo⟩,u2,j3.mono λc y hc=>hc.ext RR.lt Xt,e2,cn _ _ _,by rw [<-hst];exact World.putObj_heap_same hlt3⟩
         cases e2 with
         |normal=>exact⟨_,_,hend none,fin .ready rfl⟩
         |ret=>exact⟨_,_,hend (some .ret),fin .done rfl⟩
         |exit id=>exact⟨_,_,hend (some (.exit id)),fin .done rfl⟩
       .simp at hh
     have hown1:∀b,b≠l->xq ρ1 (aK s.h k (.own 0 [])) b->xq ρ s.h b:=λb hbl ⟨j,sz',es',g1,g2⟩=>by
      by_cases hj:j=k
      .subst hj;exact absurd (g2.symm.trans hρk) hbl
      .exact⟨j,sz',es',cg hj (by simp) g1,by rw [<-g2,<-hρ1];simp [hj]⟩
     have hJ2:J2 (aK s.h k (.own 0 [])) ρ1 w1:=⟨⟨hY.keep _ _ _ _ _ _ R.r.heap R.j X1.toA R1,Nat.le_trans R.lo X1.size⟩,hρk,R.r.tmps.mono λc y hc=>hc.ext R.r.heap.lt X1,.normal,cn _ _ _,hr0⟩;have harr:v1++ #[.func (.yield l) #[] #[]]++v2=(v1.toList++ [Value.func (.yield l) #[] #[]]++v2.toList).toArray:=by apply Array.ext';simp
     rw [harr]
     have hargs:(first.map D.one++ [D.one (.yld k)]++cap.map D.one).length=(v1.toList++ [Value.func (.yield l) #[] #[]]++v2.toList).length/\∀(i:Nat) d,(first.map D.one++ [D.one (.yld k)]++cap.map D.one)[i]? =some d->∃y,(v1.toList++ [Value.func (.yield l) #[] #[]]++v2.toList)[i]? =some y/\RepD w1 base (Fb F0 ρ1 (aK s.h k (.own 0 []))) ρ1 (aK s.h k (.own 0 [])) d y:=by
      refine tC (tC ⟨by simp [l1],λi d hi=> ?_⟩ ⟨rfl,λi d hi=> ?_⟩) ⟨by simp [l2],λi d hi=> ?_⟩
      .simp only [List.getElem?_map,Option.map_eq_some_iff]at hi;obtain⟨c,c1,rfl⟩:=hi;obtain⟨y,y1,y2⟩:=e1 i c c1;exact⟨y,by simpa using y1,.one _ _ (y2.ext R.r.heap.lt X1)⟩
      .cases i with
       |zero=>simp at hi;subst hi;exact⟨_,rfl,.one _ _ (.yld k _ rfl ⟨_,cn _ _ _,by simp⟩ λsz es _=>by rw [hρk])⟩
       |succ i=>simp at hi
      .simp only [List.getElem?_map,Option.map_eq_some_iff]at hi;obtain⟨c,c1,rfl⟩:=hi;obtain⟨y,y1,y2⟩:=e2 i c c1;exact⟨y,by simpa using y1,.one _ _ (y2.ext R.r.heap.lt X1)⟩
     have hc:=hcall base F0 _ _ J2 hY2 hF w1 ρ1 _ (Nat.le_trans R.r.base X1.size) R1 hJ2 hargs.1 hargs.2;refine CallsIn.mono (F:=FR r) (callsIn_wide.2 hc) λe' w3 ⟨y,ρ',he',g1,g2,g3⟩=> ?_;subst he';obtain⟨⟨u1,ul⟩,u2,u3,e,u4,u5⟩:=g3
     have hes:zy es=e:=by
      have:=ct h4
      rw [this]at u4
      have:=Option.some.inj u4
      unfold lV at this
      injection this with _ this
      rw [this,Eu]
     rw [hes];have hnb:(rec (if e= .normal then .ready else .done) (jmp e)).state≠ .busy:=by rw [hrec];simp only;split<;>simp
     have hend:(Instr.endLoop l).run E.P w3= .ok (jmp e) (w3.putObj l (.loop (rec .exhausted (jmp e)))):=by
      have:=run_endLoop (P:=E.P) u5 hnb
      rw [hrec]at this ⊢;exact this
     have hkk:Hf[k]? =some (.own 0 (List.replicate (sY e) [])):=u4;obtain⟨_,X4⟩:=ri (A:=λj=>A j∨j=k) (o':= .loop (rec .exhausted (jmp e))) g1 hkk (.inr rfl) (by rw [u2];exact u5) rfl rfl e;rw [wg u4,u2]at X4;have Xt:ExtA A w ρ s.h (w3.putObj l (.loop (rec .exhausted (jmp e)))) ρ' Hf:=((X1.toA.trans g2).trans X4).drop λj es0 hj hje=>hj.elim id λhj=>by rw [hj,hnone]at hje;simp at hje
     have Xs:=g2.trans X4
     have fin:∃ρ',Pre lo base F0 J ρ' {t:=s.t,h:=Hf} {a with defers:=mark++a.defers} (w3.putObj l (.loop (rec .exhausted (jmp e))))/\ExtA A w ρ s.h (w3.putObj l (.loop (rec .exhausted (jmp e)))) ρ' Hf:=by
      refine⟨ρ',⟨⟨g1.obj u5 rfl rfl,⟨rfl,(u3.mono λc y hc=>hc.obj u5 rfl rfl).2⟩,?_⟩,hY.obj _ _ _ _ _ _ g1 u1 u5 rfl rfl (hJne g1 u1 u2 hkk),?_,?_⟩,Xt⟩
      .rw [World.putObj_size];exact Nat.le_trans (Nat.le_trans R.r.base X1.size) g2.size
      .refine hmark ρ' Hf _ (λb hb hbl ho=>hown1 b hbl (Xs.own b hb ho)) (λb hb1 hb2 hbl=>Xs.same b hb2 λho=> ?_) Xs.size Xt;obtain⟨j,sz',es',q1,q2⟩:=hown1 b hbl ho
       have:=R.r.heap.lt j _ _ q1
       omega
      .rw [World.putObj_size];exact ul
     refine⟨_,_,hend,?_⟩
     cases e with
     |normal=>exact⟨rfl,fin⟩
     |ret=>exact wpIn_ret ⟨rfl,fin⟩
     |exit id=>exact wpIn_exit ⟨rfl,fin⟩
    refine wpIn_rangeFunc λfnid _=> ?_
    have hres:∀(l:Nat) (w1:World),(resolve a.eval (rangeCall g l) 0).run E.P w1= .ok {target:= .fn (.func f) v2,args:=v1++ #[.func (.yield l) #[] #[]]} w1:=λl w1=>by
     unfold resolve;simp only [hv,Deferred.ofValue];simp [Act.eval]
    have hinv:∀(l:Nat) (w1:World),(invoke (.fn (.func f) v2) (v1++ #[.func (.yield l) #[] #[]])).run E.P w1= .ok (.enter f (v1++ #[.func (.yield l) #[] #[]]++v2)) w1:=λl w1=>rV hent _ w1
    cases r with
    |none=>
     have hs1:((w.alloc (.deferred (some []))).alloc (.loop {state:= .ready,pending:=none,fn:=fnid,tmps:=a.tmps,params:=ps,assign:=asg,body:=body,defers:=w.heap.size})).heap.size=w.heap.size+2:=by simp
     have hD:((w.alloc (.deferred (some []))).alloc (.loop {state:= .ready,pending:=none,fn:=fnid,tmps:=a.tmps,params:=ps,assign:=asg,body:=body,defers:=w.heap.size})).heap[w.heap.size]? =some (.deferred (some [])):=(Below.heap_alloc _ _ _ (by simp)).trans (World.alloc_heap_new w _);refine⟨w.heap.size+1,_,_,_,_,f,_,_,run_enterLoop_outer _ _ _ _ _,hres _ _,λ_ _=>trivial,hinv _ _,λhd=>by simp [Fence.wide]at hd,?_⟩;refine main fnid w.heap.size (w.heap.size+1) _ _ (((Below.refl _ w).alloc (Nat.le_refl _) _).alloc (by simp) _) (by omega) (by omega) ?_ fun ρ' H' w' c1 c2 c3 X=> ?_
     .have:=World.alloc_heap_new (w.alloc (.deferred (some []))) (.loop {state:= .ready,pending:=none,fn:=fnid,tmps:=a.tmps,params:=ps,assign:=asg,body:=body,defers:=w.heap.size})
      rwa [World.size_alloc]at this
     .obtain⟨bs,b1,b2,b3⟩:=R.m;have hm2:=R.m.ext X;refine⟨w.heap.size::bs,by rw [b1];rfl,List.nodup_cons.2 ⟨λhin=>by have:=(b3 _ hin).2.1;omega,b2⟩,λD hD'=> ?_⟩;rcases List.mem_cons.1 hD' with rfl|hin
      .refine⟨R.lo,by omega,λho=> ?_,(c2 _ (Nat.le_refl _) (by omega) (by omega)).trans hD⟩;obtain⟨j,sz',es',q1,q2⟩:=c1 _ (by omega) (by omega) ho
       have:=R.r.heap.lt j _ _ q1
       omega
      .obtain⟨d1,d2,d3,d4⟩:=b3 D hin;exact⟨d1,Nat.lt_of_lt_of_le d2 X.size,λho=>d3 (X.own D d2 ho),(X.same D d2 d3).trans d4⟩
    |some l0=>
     obtain⟨rc,hrc⟩:=hro l0 rfl _ _ _ R.j;refine⟨w.heap.size,_,_,_,_,f,_,_,run_enterLoop_inner hrc _ _ _ _ _,hres _ _,λ_ _=>trivial,hinv _ _,λhd=>by simp [Fence.wide]at hd,?_⟩;refine main fnid rc.defers w.heap.size _ _ ((Below.refl _ w).alloc (Nat.le_refl _) _) (Nat.le_refl _) (by simp) (World.alloc_heap_new w _) fun ρ' H' w' c1 c2 c3 X=>R.m.ext X
   .simp at h5
  .simp at h2
 |scope c ih=>
  intro A B J hY r n hro s ex s' a w ρ R h;simp only [evC]at h;refine Et (wpIn_mono (ih A B J hY r n hro s ex s' a w ρ R h) λe a' w' ⟨he,ρ',R',X'⟩=> ?_);subst he;exact⟨λl=>by cases ex<;>simp [Jt],rfl,ρ',R',X'⟩
 |label l=>
  intro A B J hY r n hro s ex s' a w ρ R h;simp only [evC,zsI,Prod.mk.injEq]at h;obtain⟨rfl,rfl⟩:=h;exact wpIn_label ⟨rfl,ρ,R,ExtA.refl _ _ _⟩
 |goto l=>intro A B J hY r n hro s ex s' a w ρ R h;simp [evC]at h
 |refuse why=>intro A B J hY r n hro s ex s' a w ρ R h;simp [evC]at h
end
end Ev
end
noncomputable section
namespace Ev
open Go Go.RowKit
structure Env.Ok(E:Env):Prop where
 ti:gJ E.P E.ti
 mixed:E.P.follows .mixedOrders=true
 fn:∀k f,E.fn k=some f->∃fn:Func,E.P.funcs[k]? =some fn/\(fn.name== "runtime.NumGoroutine")=false/\fn.body=some f.body/\fn.ntmps=f.nt/\fn.results.toList=f.results
 ax:∀k F vs kind rs,E.ax k=some F->F vs=some (kind,rs)->cY E.P k vs kind rs/\Enters E.P k
section
variable {E : Env} {cp : cU} {cf : kB} {base : Nat} {F0 : Nat → Prop}
theorem rj(hE:gJ E.P E.ti){s:St}{a:Act}{w:World}{ρ:Nat->Nat}(R:Rel base F0 ρ s a w):∀(l:List ResultVar) (rs:List D),l.mapM (cQ E s)=some rs->
  ∃ys,(l.mapM fun
   | .tmp t=>pure (a.tmps.getD t undef)
   | .cell x t=>do loadVar t (<-asAddr (a.tmps.getD x undef)):Sem (List Value)).run E.P w= .ok ys w/\rs.length=ys.length/\∀(i:Nat) d,rs[i]? =some d->∃y,ys[i]? =some y/\RepD w base (Fb F0 ρ s.h) ρ s.h d y
 | [],rs,h=>by simp at h;subst h;exact⟨[],by simp,rfl,λi d hi=>by simp at hi⟩
 |r::l,rs,h=>by
  simp only [List.mapM_cons,zbB,zbE,Option.pure_def,zsI]at h;obtain⟨d,h1,r',h2,rfl⟩:=h;obtain⟨ys,g1,g2,g3⟩:=rj hE R l r' h2
  have head:∃y,(match r with
   | .tmp t=>pure (a.tmps.getD t undef)
   | .cell x t=>do loadVar t (<-asAddr (a.tmps.getD x undef)):Sem Value).run E.P w= .ok y w/\RepD w base (Fb F0 ρ s.h) ρ s.h d y:=by
   cases r with
   |tmp t=>
    obtain⟨y,y1,y2⟩:=R.tmps.2.2 t d h1;exact⟨y,by simp [Array.getD_eq_getD_getElem?,y1],y2⟩
   |cell x ty=>
    simp only [cQ,zbB,zbE]at h1;obtain⟨i,k1,dx,k2,k3⟩:=h1;obtain⟨y,y1,y2⟩:=R.tmps.2.2 x dx k2;obtain⟨z,z1,z2⟩:=Fy hE k1 R.heap y2 k3;have hy:a.tmps.getD x undef=y:=by simp [Array.getD_eq_getD_getElem?,y1]
    refine⟨z,?_,z2⟩;simp only [hy]
    have hp:∃q,y= .pointer (some q):=by
     unfold load at k3;split at k3
     .cases y2 with|one c y hc=>cases hc with|ptr k i j q hk ha=>exact⟨q,rfl⟩
     .cases y2 with|one c y hc=>cases hc with|iptr fr sz l i j q yy hm hr=>exact⟨q,rfl⟩
     .simp at k3
    obtain⟨q,rfl⟩:=hp;simpa [Instr.loadAt,Instr.sureAddr,asAddr]using z1
  obtain⟨y,y1,y2⟩:=head;refine⟨y::ys,?_,by simpa using g2,λi d' hi=> ?_⟩
  .rw [List.mapM_cons,Sem.run_bind,y1];simp only [Result.andThen];rw [Sem.run_bind,g1];rfl
  .cases i with
   |zero=>simp at hi;subst hi;exact⟨y,rfl,y2⟩
   |succ i=>simpa using g3 i d' (by simpa using hi)
theorem Ew(hE:gJ E.P E.ti){s:St}{a:Act}{w:World}{ρ:Nat->Nat}(R:Rel base F0 ρ s a w){fn:Func}{rs:List D}(h:fn.results.toList.mapM (cQ E s)=some rs):
  ∃y,(results fn a.tmps).run E.P w= .ok y w/\RepD w base (Fb F0 ρ s.h) ρ s.h (gV rs) y/\
   ∃ys:List Value,rs.length=ys.length/\(∀(i:Nat) d,rs[i]? =some d->∃y,ys[i]? =some y/\RepD w base (Fb F0 ρ s.h) ρ s.h d y)/\(match ys with| [z]=>y=z|_=>y= .tuple ys.toArray):=by
 obtain⟨ys,g1,g2,g3⟩:=rj hE R _ rs h
 have hrun:∀(k:Array Value->Sem Value),((fn.results.mapM fun
   | .tmp t=>pure (a.tmps.getD t undef)
   | .cell x t=>do loadVar t (<-asAddr (a.tmps.getD x undef)):Sem (Array Value))>>=k).run E.P w=(k ys.toArray).run E.P w:=by
  intro k;rw [Array.mapM_eq_mapM_toList,Sem.run_bind]
  have:(List.toArray<$>(fn.results.toList.mapM fun
   | .tmp t=>pure (a.tmps.getD t undef)
   | .cell x t=>do loadVar t (<-asAddr (a.tmps.getD x undef)):Sem (List Value)):Sem (Array Value)).run E.P w= .ok ys.toArray w:=by
   rw [<-bind_pure_comp,Sem.run_bind,g1];rfl
  rw [this];rfl
 unfold results;refine⟨if h:ys.toArray.size=1 then ys.toArray[0]else .tuple ys.toArray,?_,?_,ys,g2,g3,?_⟩
 .exact hrun λvs=>pure (if h:vs.size=1 then vs[0]else .tuple vs)
 .match ys,rs,g2,g3 with
  | [y],[d],_,g3=>
   obtain⟨y',e1,e2⟩:=g3 0 d rfl;simp at e1;subst e1;exact e2
  | [],[],_,g3=>exact zI rfl g3
  |y::y2::ys,d::d2::ds,g2,g3=>
   rw [dif_neg (by simp)];exact zI g2 g3
 .match ys with
  | [y]=>rfl
  | []=>rfl
  |y::y2::ys=>simp
theorem ExtA.far{A:Nat->Prop}{w w1:World}{ρ ρ':Nat->Nat}{H H':aC}(R:HRel w base F0 ρ H)(h:ExtA A w ρ H w1 ρ' H'){D:Nat}{o o':Obj}(hD:w.heap.size<=D)(ho:w1.heap[D]? =some o)(h1:o.isCells=false)(h2:o'.isCells=false):ExtA A w ρ H (w1.putObj D o') ρ' H':=
 ⟨h.os,h.tape,h.output,by rw [World.putObj_size];exact h.size,λb hb hn=>(World.putObj_heap_other (by omega)).trans (h.same b hb hn),h.own,λb hb=>(oJ ho h1 h2 b).trans (h.bs b hb),h.ids,λk es hA hk=>by
  obtain⟨z1,z2⟩:=h.z k es hA hk
  have:=R.lt k _ _ hk
  exact⟨z1,(World.putObj_heap_other (by omega)).trans z2⟩⟩
def Ey(base:Nat)(F0:Nat->Prop)(A:Nat->Prop)(J:aC->(Nat->Nat)->World->Prop)(w:World)(ρ:Nat->Nat)(H:aC)(rs:List D)(H':aC)(e:Ending)(w':World):Prop:=
 ∃y ρ',e= .returned y/\HRel w' base F0 ρ' H'/\ExtA A w ρ H w' ρ' H'/\J H' ρ' w'/\RepD w' base (Fb F0 ρ' H') ρ' H' (gV rs) y/\
   ∃zs:List Value,rs.length=zs.length/\(∀(i:Nat) d,rs[i]? =some d->∃y,zs[i]? =some y/\RepD w' base (Fb F0 ρ' H') ρ' H' d y)/\(match zs with| [z]=>y=z|_=>y= .tuple zs.toArray)
theorem tD(hE:gJ E.P E.ti){y:fu}{A B:Nat->Prop}{J:aC->(Nat->Nat)->World->Prop}(hY:YOk E.P base F0 y A B J){w:World}{ρ ρ':Nat->Nat}{H:aC}(R0:HRel w base F0 ρ H){s:St}{a:Act}{fn:Func}{rs:List D}(hr:fn.results.toList.mapM (cQ E s)=some rs):∀(bs:List Nat) (w1:World),
  Rel base F0 ρ' s a w1->J s.h ρ' w1->ExtA A w ρ H w1 ρ' s.h->bs.Nodup->(∀D∈bs,w.heap.size<=D/\D<w1.heap.size/\¬xq ρ' s.h D/\w1.heap[D]? =some (.deferred (some [])))->
  LeavesInM Fence.wide 0 E.P fn a.tmps (Ey base F0 A J w ρ H rs s.h) (bs.map λD=>{target:= .collected D,args:=#[]}) .returning w1
 | [],w1,R,hJ,X,_,_=>by
  obtain⟨y,y1,y2,y3⟩:=Ew hE R hr;exact⟨y,y1,y,ρ',rfl,R.heap,X,hJ,y2,y3⟩
 |D::bs,w1,R,hJ,X,hn,h=>by
  obtain⟨g1,g2,g3,g4⟩:=h D List.mem_cons_self;obtain⟨n1,n2⟩:=List.nodup_cons.1 hn;refine⟨by simp,.inl ⟨D,_,rfl,run_takeDeferred g4,?_⟩⟩;refine tD hE hY R0 hr bs _ (R.obj g4 rfl rfl) (hY.obj _ _ _ _ _ _ R.heap hJ g4 rfl rfl λk hk he=> ?_) (X.far R0 g1 g4 rfl rfl) n2 λD' hD'=> ?_
  .obtain⟨es,q⟩:=hY.lt _ _ _ k hJ hk;exact g3 ⟨k,0,es,q,he⟩
  .obtain⟨q1,q2,q3,q4⟩:=h D' (List.mem_cons_of_mem _ hD');have hne:D'≠D:=λe=>n1 (by rw [<-e];exact hD');exact⟨q1,by rw [World.putObj_size];exact q2,q3,(World.putObj_heap_other hne).trans q4⟩
theorem Ju(hO:E.Ok)(hcp:sw E.P cp)(hcf:Cs E.P cf.f)(hrf:LV E.P cf.r)(hF:∀b,F0 b->b<base){A B:Nat->Prop}{J:aC->(Nat->Nat)->World->Prop}(hY:YOk E.P base F0 cf.y A B J){m:Nat}{k:FuncId}{f:FI}(hf:E.fn k=some f){args:List D}{H H':aC}{rs:List D}(h:nu E cp cf m f args H=some (rs,H')){w:World}{ρ:Nat->Nat}
  (hb:base<=w.heap.size) (R:HRel w base F0 ρ H) (hJ:J H ρ w) {ys:List Value} (hl:args.length=ys.length) (ha:∀(i:Nat) d,args[i]? =some d->∃y,ys[i]? =some y/\RepD w base (Fb F0 ρ H) ρ H d y):
  Calls E.P k ys.toArray w (Ey base F0 A J w ρ H rs H'):=by
 obtain⟨fn,f1,f2,f3,f4,f5⟩:=hO.fn k f hf;unfold nu at h;simp only [zbB,zbE]at h;obtain⟨⟨ex,s⟩,h1,h2⟩:=h
 have R0:Rel base F0 ρ {t:=args++List.replicate (f.nt - args.length) co,h:=H} {tmps:=ys.toArray++Array.replicate (fn.ntmps - ys.toArray.size) undef,defers:= []} w:=by
  refine⟨R,⟨rfl,by simp [hl,f4],λi d hi=> ?_⟩,hb⟩;rw [List.getElem?_append]at hi;simp only [Array.getElem?_append,List.size_toArray];rw [<-hl];split at hi
  .rename_i hlt;rw [if_pos hlt];simpa using ha i d hi
  .rename_i hlt;rw [if_neg hlt,f4];rw [List.getElem?_replicate]at hi;split at hi
   .rename_i hlt2;cases hi;exact⟨undef,by simp [Array.getElem?_replicate,hlt2],rR⟩
   .simp at hi
 have P0:Pre w.heap.size base F0 J ρ {t:=args++List.replicate (f.nt - args.length) co,h:=H} {tmps:=ys.toArray++Array.replicate (fn.ntmps - ys.toArray.size) undef,defers:= []} w:=⟨R0,hJ,⟨[],rfl,List.nodup_nil,λD hD=>by simp at hD⟩,Nat.le_refl _⟩;refine callsIn_wide.1 (callsIn_of_wp_marks (F:=Fence.wide) (n:=0) f1 f3 trivial ?_);refine wpIn_mono (F:=FR none) (OJ hO.ti hcp hcf hrf hO.mixed hF m w.heap.size f.body A B J hY none 0 (λl h=>by cases h) _ ex s _ w ρ P0 h1) λe a' w' ⟨he,ρ',P',X'⟩=> ?_;subst he
 have fin:∀(_:fn.results.toList.mapM (cQ E s)=some rs) (_:s.h=H'),LeavesInM Fence.wide 0 E.P fn a'.tmps (Ey base F0 A J w ρ H rs H') a'.defers .returning w':=by
  intro hr hh;subst hh;obtain⟨bs,b1,b2,b3⟩:=P'.m;rw [b1];exact tD hO.ti hY R hr bs w' P'.r P'.j X' b2 b3
 cases ex with
 |normal=>
  simp only [zbE,zsI,Prod.mk.injEq]at h2;obtain⟨r,g1,rfl,rfl⟩:=h2;exact fin (by rw [f5];exact g1) rfl
 |ret=>
  simp only [zbE,zsI,Prod.mk.injEq]at h2;obtain⟨r,g1,rfl,rfl⟩:=h2;exact fin (by rw [f5];exact g1) rfl
 |exit id=>simp at h2
theorem Jv(w:World)(base:Nat)(F0:Nat->Prop)(ρ:Nat->Nat)(hL:LD base w):HRel w base F0 ρ []:=
 ⟨λk sz es h=>by simp at h,λk k' sz es sz' es' h=>by simp at h,λk sz es h=>by simp at h,λk sz es h=>by simp at h,λk sz es h=>by simp at h,λk sz es h=>by simp at h,hL⟩
theorem HP(hO:E.Ok)(hcp:sw E.P cp)(hcf:Cs E.P cf.f)(hrf:LV E.P cf.r)(hy:cf.y=noY){m:Nat}{k:FuncId}{f:FI}(hf:E.fn k=some f){vs:List TD}{kind:Kind}{tds:List TD}(h:zA E cp cf m f vs=some (kind,tds)):cY E.P k vs kind tds:=by
 intro w F ys hL hFlt hargs;unfold zA at h;simp only [zbB,zbE,zsI,Prod.mk.injEq]at h;obtain⟨⟨rs,H'⟩,h1,l,h2,h3,h4⟩:=h;have hY:YOk E.P w.heap.size F cf.y noA noA λ_ _ _=>True:=by rw [hy];exact Ct
 have hcall:=Ju (base:=w.heap.size) (F0:=F) hO hcp hcf hrf hFlt hY hf h1 (w:=w) (ρ:=λ_=>0) (Nat.le_refl _) (Jv _ _ _ _ hL) trivial (ys:=ys) (by simpa using hargs.1) (λi d hi=>by
  simp only [List.getElem?_map,Option.map_eq_some_iff]at hi;obtain⟨td,t1,rfl⟩:=hi;obtain⟨y,y1,y2⟩:=hargs.2 i td t1;refine⟨y,y1,pO (λb hb=> ?_) y2⟩;rcases hb with(hb|⟨k,sz,es,q1,q2⟩)|hb
  .exact hb
  .simp at q1
  .simp at hb)
 refine hcall.mono λe w' ⟨y,ρ',he,R',X',_,_,zs,z1,z2,z3⟩=>⟨y,he,?_,λhk=> ?_,?_⟩
 .obtain⟨m1,m2,m3⟩:=ee h2
  have hreps:lZ w' (λb=>b<w.heap.size/\(kind≠ .any∨F b)) tds zs:=by
   refine⟨by rw [<-h4,<-z1];simp [m1],λi td hi=> ?_⟩;rw [<-h4]at hi;simp only [List.getElem?_map,Option.map_eq_some_iff]at hi;obtain⟨⟨pb,ptd⟩,p1,rfl⟩:=hi;obtain⟨d,d1,d2⟩:=m3 i _ p1;obtain⟨y',y1,y2⟩:=z2 i d d1
   have:=HM R' d2 y2
   refine⟨y',y1,?_⟩
   have hsub:∀q,(q<w.heap.size/\(kind≠ .any∨F q))->(q<w.heap.size/\(pb=true∨F q)):=λq hq=>⟨hq.1,hq.2.imp (λhb=>by
    have hall:l.all (·.1)=true:=by
     rw [<-h3]at hb;by_cases ho:cA H' rs=true
     .unfold cA at ho;split at ho
      .rename_i kk nn _ _
       cases hg:aJ H' kk with
       |none=>rw [hg]at ho;simp at ho
       |some p=>
        obtain⟨bz,es⟩:=p;rw [hg]at ho;simp only [Bool.and_eq_true,beq_iff_eq]at ho;simp only [List.mapM_cons,List.mapM_nil,zbB,Option.pure_def,zbE,zsI]at h2;obtain⟨v,v1,_,rfl,rfl⟩:=h2;simp only [List.all_cons,List.all_nil,Bool.and_true];simp only [cz,eN,hg,zbB,zbS,zbE,zsI]at v1;obtain⟨q2,⟨es',c1,r,c2,rfl⟩,rfl⟩:=v1;simp only [List.all_eq_true];intro x hx z hz;obtain⟨n1,n2,n3⟩:=ee c2;obtain⟨i,hi,rfl⟩:=List.getElem_of_mem hx;obtain⟨y0,y1,y2⟩:=n3 i _ (List.getElem?_eq_getElem hi);obtain⟨j,hj,rfl⟩:=List.getElem_of_mem hz;obtain⟨_,_,k3⟩:=ee y2;obtain⟨cc,d1,d2⟩:=k3 j _ (List.getElem?_eq_getElem hj);obtain⟨_,l2⟩:=lC c1 y1;have hp:=List.all_eq_true.1 (List.all_eq_true.1 ho.2 y0 (List.mem_of_getElem? l2)) cc (List.mem_of_getElem? d1);unfold pG at hp;split at hp
        .simp only [eN,zsI]at d2;rw [<-d2]
        .simp at hp
      .simp at ho
     .rw [if_neg ho]at hb;by_cases ha:l.all (·.1)=true
      .exact ha
      .rw [if_neg ha]at hb;simp at hb
    exact List.all_eq_true.1 hall (pb,ptd) (List.mem_of_getElem? p1)) id⟩
   simp only
   cases this with
   |one t y h=>exact .one _ _ (h.weak hsub)
   |agg ts ys h=>exact .agg _ _ (h.weak λt y h=>h.weak hsub)
  have hlen:tds.length=zs.length:=hreps.1
  match tds,zs,hlen,hreps,z3 with
  | [td],[z],_,hreps,z3=>
   obtain⟨z',e1,e2⟩:=hreps.2 0 td rfl;simp at e1;subst e1;subst z3;exact e2
  | [],[],_,hreps,z3=>exact⟨[],z3,hreps⟩
  |t1::t2::ts,q1::q2::qs,_,hreps,z3=>exact⟨_,z3,hreps⟩
 .have ho:cA H' rs=true:=by
   by_cases ho:cA H' rs=true
   .exact ho
   .rw [if_neg ho]at h3;split at h3<;>(rw [hk]at h3;simp at h3)
  unfold cA at ho;split at ho
  .rename_i kk nn _ _
   cases hg:aJ H' kk with
   |none=>rw [hg]at ho;simp at ho
   |some p=>
    obtain⟨bz,es⟩:=p;rw [hg]at ho;simp only [Bool.and_eq_true,beq_iff_eq]at ho;obtain⟨hnn,hpl⟩:=ho;have hb:=ct hg;simp only [List.mapM_cons,List.mapM_nil,zbB,Option.pure_def,zbE,zsI]at h2;obtain⟨v,v1,_,rfl,rfl⟩:=h2;simp only [cz,eN,hg,zbB,zbS,zbE,zsI]at v1;obtain⟨q2,⟨es',c1,r,c2,rfl⟩,rfl⟩:=v1;obtain⟨y0,y1,y2⟩:=z2 0 _ rfl
    match zs,z1,y1,z3 with
    | [z],_,y1,z3=>
     simp at y1;subst y1;subst z3;obtain⟨s1,s2,s3⟩:=gq c1;obtain⟨n1,n2,n3⟩:=ee c2;have hlen:(r.map (·.map (·.2))).length=nn:=by simp [n1,s1]
     cases y2 with
     |one c y hc=>
      cases hc with
      |own _ _ _ cap aa hkk hcap haa=>
       obtain⟨a1,a2⟩:=haa _ _ hb;simp only [Nat.zero_mul,Nat.zero_add]at a1 a2;subst a1;have hlo:=R'.lo kk bz es hb;refine⟨ρ' kk,cap,bz,r.map (·.map (·.2)),by rw [<-h4];rfl,by rw [hlen],by rw [hlen];exact hcap,hlo.1,hlo.2,a2,R'.fz kk bz es hb,λi e hi=> ?_,λi j e t hi hj=> ?_⟩
       .simp only [List.getElem?_map,Option.map_eq_some_iff]at hi;obtain⟨q,q1,rfl⟩:=hi;obtain⟨x,x1,x2⟩:=n3 i q q1;obtain⟨_,l2⟩:=lC c1 x1
        have:=R'.wid kk bz es hb _ x l2
        simp [(ee x2).1,this]
       .simp only [List.getElem?_map,Option.map_eq_some_iff]at hi;obtain⟨q,q1,rfl⟩:=hi;simp only [List.getElem?_map,Option.map_eq_some_iff]at hj;obtain⟨p,p1,rfl⟩:=hj;obtain⟨x,x1,x2⟩:=n3 i q q1;obtain⟨_,l2⟩:=lC c1 x1;rw [Nat.zero_add]at l2;obtain⟨_,_,k3⟩:=ee x2;obtain⟨cc,d1,d2⟩:=k3 j p p1;have hp:=List.all_eq_true.1 (List.all_eq_true.1 hpl x (List.mem_of_getElem? l2)) cc (List.mem_of_getElem? d1);obtain⟨yy,f1,f2⟩:=R'.cell kk bz es hb i j x cc l2 d1;unfold pG at hp;split at hp
        .rename_i vv;simp only [eN,zsI]at d2;rw [<-d2]
         have:=pK (x:=vv) f2 rfl
         subst this;exact⟨_,rfl,f2.one,f1⟩
        .simp at hp
  .simp at ho
 .exact⟨X'.os,X'.tape,X'.output,X'.size,λb hb=>X'.same b hb λ⟨k,sz,es,q1,_⟩=>by simp at q1⟩
theorem tE(hO:E.Ok)(m:Nat):∀n,sw E.P (aN E m n).1/\Cs E.P (aN E m n).2.1/\LV E.P (aN E m n).2.2
 |0=>⟨λk vs kind rs h=>by simp [aN]at h,λk args H v H' h=>by simp [aN]at h,λy f args H H' h=>by simp [aN]at h⟩
 |n+1=>by
  obtain⟨i1,i2,i3⟩:=tE hO m n
  have hent:∀k f,E.fn k=some f->Enters E.P k:=λk f h=>by
   obtain⟨fn,f1,f2,f3,f4,f5⟩:=hO.fn k f h;exact⟨fn,f.body,f1,f2,f3⟩
  refine⟨λk vs kind rs h=> ?_,λk args H v H' h=> ?_,λy k args H H' h=> ?_⟩
  .simp only [aN]at h;split at h
   .rename_i F hF;exact hO.ax k F vs kind rs hF h
   .simp only [zbB,zbE]at h;obtain⟨f,h1,h2⟩:=h;exact⟨HP (cf:=⟨_,_,noY⟩) hO i1 i2 i3 rfl h1 h2,hent k f h1⟩
  .simp only [aN,zbB,zbE,zsI,Prod.mk.injEq]at h;obtain⟨f,h1,⟨rs,h0⟩,h2,rfl,rfl⟩:=h;refine⟨hent k f h1,λw base F0 ρ ys hb hF R hl ha=> ?_⟩;exact(Ju (cf:=⟨_,_,noY⟩) hO i1 i2 i3 hF Ct h1 h2 hb R trivial hl ha).mono λe w' ⟨y,ρ',q1,q2,q3,_,q4,_⟩=>⟨y,ρ',q1,q2,q3,q4⟩
  .simp only [aN,zbB,zbE,zsI,Prod.mk.injEq]at h;obtain⟨f,h1,⟨rs,h0⟩,h2,rfl⟩:=h;refine⟨hent k f h1,λbase F0 A B J hY hF w ρ ys hb R hJ hl ha=> ?_⟩;exact(Ju (cf:=⟨_,_,y⟩) hO i1 i2 i3 hF hY h1 h2 hb R hJ hl ha).mono λe w' ⟨y,ρ',q1,q2,q3,q4,_⟩=>⟨y,ρ',q1,q2,q3,q4⟩
theorem dE(hO:E.Ok)(m n:Nat):sw E.P (bS E m n).1/\Cs E.P (bS E m n).2.f:=
 let h:=tE hO m n
 ⟨h.1,h.2.1⟩
theorem NJ(hO:E.Ok){m n:Nat}{k:FuncId}{vs:List TD}{kind:Kind}{rs:List TD}(h:(bS E m n).1 k vs=some (kind,rs)):cY E.P k vs kind rs:=((dE hO m n).1 k vs kind rs h).1
end
end Ev
end
noncomputable section
namespace Ev
open Go Go.RowKit
inductive Typ(P:Program):TypeId->List T->Prop
 |bool (t:TypeId) (b:Bool) (h:P.underlying t=some .bool):Typ P t [.v (.bool b)]
 |int (t:TypeId) (k:IntKind) (n:Int) (h:P.underlying t=some (.int k)) (hw:(Lit.int k n).wf=true):Typ P t [.v (.int k n)]
 |str (t:TypeId) (s:ByteArray) (h:P.underlying t=some .string) (hs:s.size<=maxLen):Typ P t [.v (.string s)]
 |slice (t e:TypeId) (nn:Bool) (l:List (List T)) (h:P.underlying t=some (.slice e)) (hn:nn=false->l= []) (hl:l.length<=maxLen) (he:∀es∈l,es.length=P.cellsOf e) (ht:∀es∈l,Typ P e es):Typ P t [.s nn (P.cellsOf e) l]
 |struct (t:TypeId) (fs:Array Field) (tss:List (List T)) (h:P.underlying t=some (.struct fs)) (hl:tss.length=fs.size) (hf:∀(i:Nat) f ts,fs[i]? =some f->tss[i]? =some ts->Typ P f.type ts):Typ P t tss.flatten
 |array (t:TypeId) (n:Nat) (e:TypeId) (tss:List (List T)) (h:P.underlying t=some (.array n e)) (hl:tss.length=n) (hf:∀ts∈tss,Typ P e ts):Typ P t tss.flatten
def wh(P:Program):Nat->List Field->Nat->Bool
 |o,[],n=>o==n
 |o,f::fs,n=>f.offset==o && wh P (o+P.cellsOf f.type) fs n
def iW(P:Program):Nat->TypeId->Bool
 |0,_=>false
 |d+1,t=>
  match P.underlying t with
  |some .bool|some (.int _)|some .string=>P.cellsOf t==1
  |some (.slice e)=>P.cellsOf t==1 && iW P d e
  |some (.struct fs)=>wh P 0 fs.toList (P.cellsOf t)&& fs.toList.all λf=>iW P d f.type
  |some (.array n e)=>n*P.cellsOf e==P.cellsOf t && iW P d e
  |_=>false
section
variable {H : Type} {enc : TypeId × Value → H} {P : Program} {w : World}
theorem rk{F:Nat->Prop}{a b:List T}{x y:List Value}(h1:RepTs w F a x)(h2:RepTs w F b y):RepTs w F (a++b) (x++y):=by
 refine⟨by simp [h1.1,h2.1],λi t hi=> ?_⟩;rw [List.getElem?_append]at hi;rw [List.getElem?_append,<-h1.1];split at hi
 .rename_i hlt;rw [if_pos hlt];exact h1.2 i t hi
 .rename_i hlt;rw [if_neg hlt];exact h2.2 _ t hi
theorem wi{α:Type}(l:List α)(o n:Nat):l.drop o=(l.drop o).take n++l.drop (o+n):=by
 rw [<-List.drop_drop];exact(List.take_append_drop n (l.drop o)).symm
theorem tF{Q:TypeId->List T->Prop}:∀(fs:List Field) (o n:Nat) (cs:List Value),wh P o fs n=true->cs.length=n->(∀f∈fs,∃ts,RepTs w (λ_=>False) ts ((cs.drop f.offset).take (P.cellsOf f.type))/\Q f.type ts)->
  ∃tss:List (List T),tss.length=fs.length/\RepTs w (λ_=>False) tss.flatten (cs.drop o)/\∀(i:Nat) f ts,fs[i]? =some f->tss[i]? =some ts->Q f.type ts
 | [],o,n,cs,hc,hl,h=>by
  simp only [wh,beq_iff_eq]at hc;refine⟨[],rfl,⟨by simp;omega,λi t hi=>by simp at hi⟩,λi f ts hi=>by simp at hi⟩
 |f::fs,o,n,cs,hc,hl,h=>by
  simp only [wh,Bool.and_eq_true,beq_iff_eq]at hc;obtain⟨rfl,hc2⟩:=hc;obtain⟨ts,h1,h2⟩:=h f List.mem_cons_self;obtain⟨tss,g1,g2,g3⟩:=tF fs _ n cs hc2 hl λf' hf'=>h f' (List.mem_cons_of_mem _ hf');refine⟨ts::tss,by simp [g1],?_,λi f' ts' hi hj=> ?_⟩
  .rw [List.flatten_cons,wi cs f.offset (P.cellsOf f.type)];exact rk h1 g2
  .cases i with
   |zero=>simp at hi hj;subst hi hj;exact h2
   |succ i=>exact g3 i f' ts' (by simpa using hi) (by simpa using hj)
theorem wj{Q:List T->Prop}{z:Nat}:∀(n o:Nat) (cs:List Value),cs.length=(o+n)*z->(∀i,o<=i->i<o+n->∃ts,RepTs w (λ_=>False) ts ((cs.drop (i*z)).take z)/\Q ts)->
  ∃tss:List (List T),tss.length=n/\RepTs w (λ_=>False) tss.flatten (cs.drop (o*z))/\∀ts∈tss,Q ts
 |0,o,cs,hl,h=>⟨[],rfl,⟨by simp;rw [Nat.add_zero]at hl;omega,λi t hi=>by simp at hi⟩,λts hi=>by simp at hi⟩
 |n+1,o,cs,hl,h=>by
  obtain⟨ts,h1,h2⟩:=h o (Nat.le_refl _) (by omega);obtain⟨tss,g1,g2,g3⟩:=wj n (o+1) cs (by rw [hl];congr 1;omega) λi hi hj=>h i (by omega) (by omega);refine⟨ts::tss,by simp [g1],?_,λts' ht=> ?_⟩
  .rw [List.flatten_cons,wi cs (o*z) z,<-Nat.succ_mul];exact rk h1 g2
  .rcases List.mem_cons.1 ht with h|h
   .subst h;exact h2
   .exact g3 ts' h
theorem rl{F:Nat->Prop}{t:T}{y:Value}(h:RepT w F t y):RepTs w F [t] [y]:=
 ⟨rfl,λi t' hi=>by cases i with|zero=>simp at hi;subst hi;exact⟨y,rfl,h⟩|succ i=>simp at hi⟩
theorem Ez{spare:Nat->Bool}{held:Bool}:∀(d:Nat) (t:TypeId) (fuel:Nat) (cs:List Value) (x:DataW H×List MemPlace),iW P d t=true->DataW.trod enc P w 0 spare held fuel t cs=some x->
  ∃ts,RepTs w (λ_=>False) ts cs/\Typ P t ts/\ts.length=P.cellsOf t:=by
 intro d
 induction d with
 |zero=>intro t fuel cs x hp;simp [iW]at hp
 |succ d ih=>
  intro t fuel cs x hp h;unfold iW at hp;split at hp
  .rename_i hu;obtain⟨b,rfl,_⟩:=DataW.trod_bool hu h;exact⟨_,rl (.v _ rfl),.bool t b hu,by simp at hp;simp [hp]⟩
  .rename_i k hu;obtain⟨n,rfl,_,hw⟩:=DataW.trod_int hu h;exact⟨_,rl (.v _ rfl),.int t k n hu hw,by simp at hp;simp [hp]⟩
  .rename_i hu;obtain⟨s,rfl,_,hs⟩:=DataW.trod_string hu h;exact⟨_,rl (.v _ rfl),.str t s hu hs,by simp at hp;simp [hp]⟩
  .rename_i e hu;simp only [Bool.and_eq_true,beq_iff_eq]at hp;rcases Go.Deep.open_slice hu h with⟨rfl,_⟩|⟨a,len,cap,m,n,Dd,Pl,rfl,_,hl,hcm,hm,_,hx⟩
   .refine⟨[.s false (P.cellsOf e) []],rl (.s false _ [] none 0 (λ_ _=> .nilFunc) rfl (Nat.le_refl _) (λ_=>rfl) (λi e h=>by simp at h) (λi e j t h=>by simp at h) λi e j t h=>by simp at h),.slice t e false [] hu (λ_=>rfl) (by simp) (λes h=>by simp at h) (λes h=>by simp at h),by simp [hp.1]⟩
   .have hlm:len<=m:=by subst hm;split<;>omega
    have each:∀i:Nat,∃(cs':List Value) (ts:List T),i<len->w.cells? 0 (a.add (i*P.cellsOf e)) (P.cellsOf e)=some cs'/\RepTs w (λ_=>False) ts cs'/\Typ P e ts/\ts.length=P.cellsOf e:=by
     intro i;by_cases hi:i<len
     .obtain⟨cs',h1,h2⟩:=hx i (by omega);obtain⟨ts,g1,g2,g3⟩:=ih e n cs' _ hp.2 h2;exact⟨cs',ts,λ_=>⟨h1,g1,g2,g3⟩⟩
     .exact⟨[],[],λhh=>absurd hh hi⟩
    let V:Nat->List Value:=λi=>(each i).choose
    let L:Nat->List T:=λi=>(each i).choose_spec.choose
    have hf:∀i,i<len->w.cells? 0 (a.add (i*P.cellsOf e)) (P.cellsOf e)=some (V i)/\RepTs w (λ_=>False) (L i) (V i)/\Typ P e (L i)/\(L i).length=P.cellsOf e:=λi hi=>(each i).choose_spec.choose_spec hi
    have hget:∀(i:Nat) es,((List.range len).map L)[i]? =some es->i<len/\es=L i:=λi es hi=>by
     obtain⟨hlt,h1⟩:=List.getElem?_eq_some_iff.1 hi;simp at hlt h1;exact⟨hlt,h1.symm⟩
    have hlen:((List.range len).map L).length=len:=by simp
    have hs:=RepT.s (w:=w) (F:=λ_=>False) true (P.cellsOf e) ((List.range len).map L) (some a) cap (λi j=>(V i).getD j .nilFunc) rfl (by rw [hlen];exact hl) (λh=>by cases h)
     (λi es hi=>by obtain⟨h1,rfl⟩:=hget i es hi;exact(hf i h1).2.2.2)
     (λi es j t hi hj=>by
      obtain⟨h1,rfl⟩:=hget i es hi;obtain⟨q1,q2,q3,q4⟩:=hf i h1;obtain⟨c1,c2,c3⟩:=World.cells?_some q1;obtain⟨y,y1,y2⟩:=q2.2 j t hj;have hjl:=(List.getElem?_eq_some_iff.1 y1).1;have hcell:=c3 j (by omega);rw [y1,ui]at hcell;refine⟨a,rfl,?_,λh=>h,by rw [hcell];simp [List.getD_eq_getElem?_getD,y1]⟩
      have:=Bn hcell
      rwa [show(a.add (i*P.cellsOf e+j)).block=a.block by unfold Addr.add;split<;>rfl]at this)
     (λi es j t hi hj=>by
      obtain⟨h1,rfl⟩:=hget i es hi;obtain⟨q1,q2,q3,q4⟩:=hf i h1;obtain⟨y,y1,y2⟩:=q2.2 j t hj
      simpa [List.getD_eq_getElem?_getD,y1]using y2)
    rw [hlen]at hs;refine⟨_,rl hs,.slice t e true _ hu (λh=>by cases h) (by rw [hlen];omega) (λes he=> ?_) (λes he=> ?_),by simp [hp.1]⟩
    .obtain⟨i,hi,rfl⟩:=List.mem_map.1 he;exact(hf i (by simpa using hi)).2.2.2
    .obtain⟨i,hi,rfl⟩:=List.mem_map.1 he;exact(hf i (by simpa using hi)).2.2.1
  .rename_i fs hu;simp only [Bool.and_eq_true,List.all_eq_true]at hp;obtain⟨xs,n,_,_,hcl,hxl,hxs⟩:=DataW.trod_struct hu h
   obtain⟨tss,g1,g2,g3⟩:=tF (P:=P) (w:=w) (Q:=λt ts=>Typ P t ts) fs.toList 0 (P.cellsOf t) cs hp.1 hcl (λf hf=>by
    obtain⟨i,hi,rfl⟩:=List.getElem_of_mem hf;have hi2:i<xs.length:=by rw [hxl];simpa using hi
    have:=hxs i fs.toList[i] (by rw [<-Array.getElem?_toList];simp)
    rw [List.getElem?_eq_getElem hi2]at this;obtain⟨ts,k1,k2,k3⟩:=ih _ _ _ _ (hp.2 _ hf) this
    exact⟨ts,k1,k2⟩)
   rw [List.drop_zero]at g2;exact⟨_,g2,.struct t fs tss hu (by simpa using g1) (λi f ts hi hj=>g3 i f ts (by simpa using hi) hj),by rw [g2.1];exact hcl⟩
  .rename_i n e hu;simp only [Bool.and_eq_true,beq_iff_eq]at hp;obtain⟨xs,m,_,_,hcl,hxl,hxs⟩:=DataW.trod_array hu h
   obtain⟨tss,g1,g2,g3⟩:=wj (w:=w) (Q:=λts=>Typ P e ts) (z:=P.cellsOf e) n 0 cs (by rw [hcl,<-hp.1];simp) (λi _ hi=>by
    have:=hxs i (by omega)
    have hi2:i<xs.length:=by omega
    rw [List.getElem?_eq_getElem hi2]at this;obtain⟨ts,k1,k2,k3⟩:=ih _ _ _ _ hp.2 this
    exact⟨ts,k1,k2⟩)
   rw [Nat.zero_mul,List.drop_zero]at g2;exact⟨_,g2,.array t n e tss hu g1 g3,by rw [g2.1];exact hcl⟩
  .simp at hp
inductive Jw(P:Program):TypeId->TD->Prop
 |agg (t:TypeId) (ts:List T) (h:Typ P t ts) (ha:∃d,P.underlying t=some d/\br d=true):Jw P t (.agg ts)
 |one (t:TypeId) (x:T) (h:Typ P t [x]) (ha:∃d,P.underlying t=some d/\br d=false):Jw P t (.one x)
inductive nX(P:Program):List TypeId->List TD->Prop
 |nil:nX P [] []
 |cons (t:TypeId) (ts:List TypeId) (d:TD) (ds:List TD) (h:Jw P t d) (hr:nX P ts ds):nX P (t::ts) (d::ds)
theorem EA{d:Nat}{base:Nat}{t:TypeId}{v:Value}{x:DataW H}{ps:List MemPlace}(hp:iW P d t=true)(hv:Value.okWide P w .any base t v)(h:DataW.Trod enc P w 0 (λ_=>true) true t v x ps):∃td,RepTD w (λ_=>False) td v/\Jw P t td:=by
 obtain⟨fuel,hf⟩:=h;obtain⟨ts,h1,h2,h3⟩:=Ez d t fuel _ _ hp hf
 have hone:∀y,v=y->y.cells=#[y]->P.cellsOf t=1->(∃d,P.underlying t=some d/\br d=false)->∃td,RepTD w (λ_=>False) td v/\Jw P t td:=by
  intro y hy hc hz ha;subst hy;rw [hz]at h3
  match ts,h3 with
  | [x],_=>
   obtain⟨y,y1,y2⟩:=h1.2 0 x rfl;rw [hc]at y1;simp at y1;subst y1;exact⟨.one x,.one _ _ y2,.one _ _ h2 ha⟩
 cases d with
 |zero=>simp [iW]at hp
 |succ d=>
  unfold iW at hp;split at hp
  .rename_i hu;obtain⟨b,rfl⟩:=Go.WideShapes.okWide_bool hu hv;exact hone _ rfl rfl (by simpa using hp) ⟨_,hu,rfl⟩
  .rename_i k hu;obtain⟨n,rfl⟩:=Go.WideShapes.okWide_int hu hv;exact hone _ rfl rfl (by simpa using hp) ⟨_,hu,rfl⟩
  .rename_i hu;obtain⟨s,rfl⟩:=Go.WideShapes.okWide_string hu hv;exact hone _ rfl rfl (by simpa using hp) ⟨_,hu,rfl⟩
  .rename_i e hu;obtain⟨a,n,c,rfl⟩:=Go.WideShapes.okWide_slice hu hv;simp only [Bool.and_eq_true,beq_iff_eq]at hp;exact hone _ rfl rfl hp.1 ⟨_,hu,rfl⟩
  .rename_i fs hu;unfold Value.okWide at hv;rw [hu]at hv;obtain⟨cs,rfl,_⟩:=hv;refine⟨.agg ts,?_,.agg _ _ h2 ⟨_,hu,rfl⟩⟩
   have:=RepTD.agg ts cs.toList h1
   simpa using this
  .rename_i n e hu;unfold Value.okWide at hv;rw [hu]at hv;obtain⟨cs,rfl,_⟩:=hv;refine⟨.agg ts,?_,.agg _ _ h2 ⟨_,hu,rfl⟩⟩
   have:=RepTD.agg ts cs.toList h1
   simpa using this
  .simp at hp
theorem yz{d:Nat}{base:Nat}:∀{ts:List TypeId} {vs:List Value} {ds:List (DataW H)} {ps:List MemPlace},(∀t∈ts,iW P d t=true)->DataW.TrodAll enc P w 0 (λ_=>true) true ts vs ds ps->
  (∀(j:Nat) t v,ts[j]? =some t->vs[j]? =some v->Value.okWide P w .any base t v)->∃tds,lZ w (λ_=>False) tds vs/\nX P ts tds
 | [],[],[],ps,_,_,_=>⟨[],⟨rfl,λi t h=>by simp at h⟩,.nil⟩
 |t::ts,v::vs,x::ds,ps,hp,h,hv=>by
  obtain⟨p,q,h1,h2,_⟩:=h;obtain⟨td,g1,g2⟩:=EA (hp t List.mem_cons_self) (hv 0 t v rfl rfl) h1;obtain⟨tds,k1,k2⟩:=yz (λt ht=>hp t (List.mem_cons_of_mem _ ht)) h2 λj t v hj hjv=>hv (j+1) t v (by simpa using hj) (by simpa using hjv);refine⟨td::tds,⟨by simp [k1.1],λi t' hi=> ?_⟩,.cons _ _ _ _ g2 k2⟩
  cases i with
  |zero=>simp at hi;subst hi;exact⟨v,rfl,g1⟩
  |succ i=>simpa using k1.2 i t' (by simpa using hi)
 | [],_::_,_,_,_,h,_=>h.elim
 | [],[],_::_,_,_,h,_=>h.elim
 |_::_,[],_,_,_,h,_=>h.elim
 |_::_,_::_,[],_,_,h,_=>h.elim
theorem Jx{E:Env}(hO:E.Ok)(hL:LD w.heap.size w){d k base:Nat}{ts:List TypeId}{vs:List Value}{ds:List (DataW H)}{ps:List MemPlace}(hp:∀t∈ts,iW E.P d t=true)(hA:DataW.TrodAll enc E.P w 0 (λ_=>true) true ts vs ds ps)
  (hv:∀(j:Nat) t v,ts[j]? =some t->vs[j]? =some v->Value.okWide E.P w .any base t v) (hlaw:∀tds,nX E.P ts tds->∃m n kind,(bS E m n).1 k tds=some (kind,[.one (.v (.bool true))])):
  Calls E.P k vs.toArray w λe w'=>e= .returned (.bool true)/\Below w.heap.size w w':=by
 obtain⟨tds,h1,h2⟩:=yz hp hA hv;obtain⟨m,n,kind,h3⟩:=hlaw tds h2;refine(NJ hO h3 w (λ_=>False) vs hL (λ_ h=>h.elim) h1).mono λe w' ⟨y,he,hr,_,hb⟩=>⟨?_,hb⟩;subst he
 cases hr with
 |one t y h=>cases h with|v x hx=>rfl
end
end Ev
end
noncomputable section
namespace Ev
open Go Go.RowKit
def an(P:Program)(t:TypeId):Option TI:=
 match P.info? t,P.underlying t with
 |some i,some d=>match i.zero with
  |some z=>if z.cells.toList.all one1 && z.cells.toList.length==i.size && decide (i.bytes<=65536)then some {desc:=d,zero:=z.cells.toList,size:=i.size,bytes:=i.bytes}else none
  |none=>none
 |_,_=>none
def aY(P:Program)(k:FuncId):Option FI:=
 match P.funcs[k]? with
 |some f=>match f.body with
  |some b=>some {nt:=f.ntmps,results:=f.results.toList,body:=b}
  |none=>none
 |none=>none
abbrev Ax:=FuncId->Option (List TD->Option (Kind×List TD))
def py(P:Program)(ax:Ax):Env:={P,ti:=an P,fn:=aY P,ax}
theorem LW(P:Program):gJ P (an P):=by
 have key:∀t i,an P t=some i->∃(o:TypeInfo) (z:Value),P.info? t=some o/\P.underlying t=some i.desc/\o.zero=some z/\z.cells.toList=i.zero/\o.size=i.size/\o.bytes=i.bytes/\(∀x∈i.zero,x.oneCell'=true)/\i.zero.length=i.size/\i.bytes<=65536:=by
  intro t i h;unfold an at h;split at h
  .rename_i o d h1 h2;split at h
   .rename_i z hz;split at h
    .rename_i hc;simp only [zsI]at h;subst h;simp only [Bool.and_eq_true,List.all_eq_true,beq_iff_eq,decide_eq_true_eq]at hc;exact⟨o,z,h1,h2,hz,rfl,rfl,rfl,λx hx=>by rw [<-zC];exact hc.1.1 x hx,hc.1.2,hc.2⟩
    .simp at h
   .simp at h
  .simp at h
 refine⟨λt i h=> ?_,λt i h=> ?_,λt i h=> ?_⟩
 .obtain⟨o,z,h1,h2,h3,h4,h5,h6,h7⟩:=key t i h;exact h2
 .obtain⟨o,z,h1,h2,h3,h4,h5,h6,h7⟩:=key t i h;exact⟨o,z,h1,h3,h4,h5,h6⟩
 .obtain⟨o,z,h1,h2,h3,h4,h5,h6,h7⟩:=key t i h;exact h7
structure ya(P:Program)(ax:Ax):Prop where
 ok:∀k F vs kind rs,ax k=some F->F vs=some (kind,rs)->cY P k vs kind rs/\Enters P k
def Aw(P:Program):Bool:=P.funcs.toList.all λf=> !(f.name== "runtime.NumGoroutine")
theorem ll{P:Program}{ax:Ax}(hm:P.follows .mixedOrders=true)(hn:Aw P=true)(ha:ya P ax):(py P ax).Ok:=by
 refine⟨LW P,hm,λk f h=> ?_,λk F vs kind rs h1 h2=>ha.ok k F vs kind rs h1 h2⟩;simp only [py,aY]at h;split at h
 .rename_i fn hf;split at h
  .rename_i b hb;simp only [zsI]at h;subst h;refine⟨fn,hf,?_,hb,rfl,rfl⟩
   have:=List.all_eq_true.1 hn fn (by rw [Array.mem_toList_iff];exact Array.mem_of_getElem? hf)
   simpa using this
  .simp at h
 .simp at h
theorem sA(P:Program):ya P λ_=>none:=⟨λk F vs kind rs h=>by simp at h⟩
def cO(ax:Ax)(k:FuncId)(F:List TD->Option (Kind×List TD)):Ax:=λj=>if j=k then some F else ax j
theorem aW{P:Program}{ax:Ax}(h:ya P ax){k:FuncId}{F:List TD->Option (Kind×List TD)}(hF:∀vs kind rs,F vs=some (kind,rs)->cY P k vs kind rs/\Enters P k):ya P (cO ax k F):=by
 refine⟨λj G vs kind rs h1 h2=> ?_⟩;unfold cO at h1;split at h1
 .rename_i hj;simp only [zsI]at h1;subst h1 hj;exact hF vs kind rs h2
 .exact h.ok j G vs kind rs h1 h2
section
variable {E : Env} {y : Nat → fu} {n : Nat}
def RX(E:Env)(y:Nat->fu)(n:Nat)(c:Code)(s:St)(e:Ex)(s':St):Prop:=∃M,∀m,M<=m->evC E (be E y m n).1 (be E y m n).2 m c s=some (e,s')
theorem kJ(E:Env)(y:Nat->fu)(m n:Nat):(be E y m n).1=(bS E m n).1:=rfl
abbrev nY:Nat->fu:=λ_=>noY
def WpC(E:Env)(y:Nat->fu)(n:Nat)(c:Code)(Q:Ex->St->Prop)(s:St):Prop:=∃e s',RX E y n c s e s'/\Q e s'
def RunsP(E:Env)(n:Nat)(k:FuncId)(vs:List TD)(r:Kind×List TD):Prop:=∃M,∀m,M<=m->(bS E m n).1 k vs=some r
theorem WpC.mono{c:Code}{Q Q':Ex->St->Prop}{s:St}(h:WpC E y n c Q s)(hq:∀e s,Q e s->Q' e s):WpC E y n c Q' s:=let⟨e,s',h1,h2⟩:=h;⟨e,s',h1,hq _ _ h2⟩
theorem CD{Q:Ex->St->Prop}{s:St}(h:Q .normal s):WpC E y n .skip Q s:=⟨.normal,s,⟨0,λm _=>rfl⟩,h⟩
theorem FX{Q:Ex->St->Prop}{s:St}(h:Q .ret s):WpC E y n .ret Q s:=⟨.ret,s,⟨0,λm _=>rfl⟩,h⟩
theorem CF{Q:Ex->St->Prop}{s:St}{id:Nat}(h:Q (.exit id) s):WpC E y n (.exit id) Q s:=⟨.exit id,s,⟨0,λm _=>rfl⟩,h⟩
theorem HQ{Q:Ex->St->Prop}{s:St}{l:Nat}(h:Q .normal s):WpC E y n (.label l) Q s:=⟨.normal,s,⟨0,λm _=>rfl⟩,h⟩
theorem HR{c:Code}{Q:Ex->St->Prop}{s:St}(h:WpC E y n c Q s):WpC E y n (.scope c) Q s:=let⟨e,s',⟨M,h1⟩,h2⟩:=h;⟨e,s',⟨M,λm hm=>by simpa [evC]using h1 m hm⟩,h2⟩
def nZ(K:St->Prop)(Q:Ex->St->Prop):Ex->St->Prop
 | .normal,s=>K s
 |e,s=>Q e s
theorem Ay{a b:Code}{Q:Ex->St->Prop}{s:St}(h:WpC E y n a (nZ (WpC E y n b Q) Q) s):WpC E y n (.seq a b) Q s:=by
 obtain⟨e1,s1,⟨M1,h1⟩,h2⟩:=h
 cases e1 with
 |normal=>
  obtain⟨e2,s2,⟨M2,h3⟩,h4⟩:=h2;exact⟨e2,s2,⟨max M1 M2,λm hm=>by simp [evC,h1 m (by omega),h3 m (by omega)]⟩,h4⟩
 |exit id=>exact⟨_,s1,⟨M1,λm hm=>by simp [evC,h1 m hm]⟩,h2⟩
 |ret=>exact⟨_,s1,⟨M1,λm hm=>by simp [evC,h1 m hm]⟩,h2⟩
theorem wk{c:Operand}{a b:Code}{Q:Ex->St->Prop}{s:St}{t:Bool}{d:D}(h1:opnd s.t c=some d)(h2:asBool d=some t)(h:WpC E y n (if t then a else b) Q s):WpC E y n (.cond c a b) Q s:=by
 obtain⟨e,s',⟨M,h3⟩,h4⟩:=h;refine⟨e,s',⟨M,λm hm=> ?_⟩,h4⟩
 have:=h3 m hm
 cases t<;>simpa [evC,h1,h2]using this
theorem yA{id:Nat}{c:Code}{Q:Ex->St->Prop}{s:St}(h:WpC E y n c (λe s=>Q (if e= .exit id then .normal else e) s) s):WpC E y n (.block id c) Q s:=by
 obtain⟨e,s',⟨M,h3⟩,h4⟩:=h;exact⟨_,s',⟨M,λm hm=>by simp [evC,h3 m hm]⟩,h4⟩
theorem Az{k:FuncId}{vs:List TD}{r r':Kind×List TD}(h:RunsP E n k vs r)(h':RunsP E n k vs r'):r=r':=by
 obtain⟨M,hM⟩:=h;obtain⟨M',hM'⟩:=h';have h1:=hM (max M M') (by omega);rw [hM' (max M M') (by omega)]at h1;exact(Option.some.inj h1).symm
open Classical in
def cpR(E:Env)(n:Nat):cU:=λk vs=>if h:∃r,RunsP E n k vs r then some h.choose else none
theorem ln{k:FuncId}{vs:List TD}{r:Kind×List TD}(h:RunsP E n k vs r):cpR E n k vs=some r:=by
 have hx:∃r,RunsP E n k vs r:=⟨r,h⟩;unfold cpR;rw [dif_pos hx];exact congrArg some (Az hx.choose_spec h)
theorem wl{k:FuncId}{vs:List TD}{r:Kind×List TD}(h:cpR E n k vs=some r):RunsP E n k vs r:=by
 unfold cpR at h;split at h
 .rename_i hx;simp only [zsI]at h;rw [<-h];exact hx.choose_spec
 .simp at h
theorem ob{k:FuncId}{vs:List TD}{r:Kind×List TD}{F:List TD->Option (Kind×List TD)}(h1:E.ax k=some F)(h2:F vs=some r):RunsP E (n+1) k vs r:=⟨0,λm _=>by simp only [bS,be,aN,h1];exact h2⟩
theorem wm{ops:Array Oper}{nid:Nat}{o:Oper}{g:Tmp->Option D}{H:aC}{e:Eff}(hs:step E (cpR E n) ops nid o g H=some e):∃M,∀m,M<=m->step E (bS E m n).1 ops nid o g H=some e:=by
 unfold step at*;simp only [zbB,zbE]at hs ⊢;obtain⟨b,h1,h2⟩:=hs;split at h2
 .rename_i hb;split at h2
  .unfold iv at h2;simp only [zbB,zbE]at h2;obtain⟨x,h3,vs,h4,y,h5,h6⟩:=h2;obtain⟨M,hM⟩:=wl h5;refine⟨M,λm hm=>⟨b,h1,?_⟩⟩;rw [if_pos hb];unfold iv;simp only [zbB,zbE];exact⟨x,h3,vs,h4,y,hM m hm,h6⟩
  .exact⟨0,λm _=>⟨b,h1,by rw [if_pos hb];exact h2⟩⟩
 .rename_i hb;exact⟨0,λm _=>⟨b,h1,by rw [if_neg hb];exact h2⟩⟩
theorem tG{ops:Array Oper}:∀(b:Nat) (U M:Nat->List Nat) (l:List Oper) (i:Nat) (s s':St),dI E (cpR E n) ops b U M i l s=some s'->∃K,∀m,K<=m->dI E (bS E m n).1 ops b U M i l s=some s':=by
 intro b U M l
 induction l with
 |nil=>intro i s r hr;exact⟨0,λ_ _=>hr⟩
 |cons o l ih=>
  intro i s r hr;simp only [dI,zbB,zbE]at hr ⊢;obtain⟨e,g1,g2⟩:=hr;obtain⟨M1,hM1⟩:=wm g1;split at g2
  .rename_i hc;simp only [zbE]at g2 ⊢;obtain⟨s1,g3,g4⟩:=g2;obtain⟨M2,hM2⟩:=ih _ _ _ g4;refine⟨max M1 M2,λm hm=>⟨e,hM1 m (by omega),?_⟩⟩;rw [if_pos hc];simp only [zbE];exact⟨s1,g3,hM2 m (by omega)⟩
  .simp at g2
theorem EB{ops:Array Oper}{s s':St}(hs:kY E (cpR E n) ops s=some s'):∃M,∀m,M<=m->kY E (bS E m n).1 ops s=some s':=by
 have h1:∀(b:Nat) (l:List Oper) (i:Nat) (s:St) (r:List (List Nat)),mO E (cpR E n) ops b i l s=some r->∃M,∀m,M<=m->mO E (bS E m n).1 ops b i l s=some r:=by
  intro b l
  induction l with
  |nil=>intro i s r hr;exact⟨0,λ_ _=>hr⟩
  |cons o l ih=>
   intro i s r hr;simp only [mO,zbB,zbE]at hr ⊢;obtain⟨e,g1,s1,g2,l1,g3,g4⟩:=hr;obtain⟨M1,hM1⟩:=wm g1;obtain⟨M2,hM2⟩:=ih _ _ _ g3;exact⟨max M1 M2,λm hm=>⟨e,hM1 m (by omega),s1,g2,l1,hM2 m (by omega),g4⟩⟩
 have h2:= @tG E n ops;unfold kY at hs;simp only [zbB,zbE]at hs;obtain⟨U0,g1,g2⟩:=hs;obtain⟨M1,hM1⟩:=h1 _ _ _ _ _ g1;split at g2
 .rename_i hc;obtain⟨M2,hM2⟩:=h2 _ _ _ _ _ _ _ g2;refine⟨max M1 M2,λm hm=> ?_⟩;unfold kY;simp only [zbB,zbE];refine⟨U0,hM1 m (by omega),?_⟩;rw [if_pos hc];exact hM2 m (by omega)
 .simp at g2
def cH{α:Type}(Q:α->Prop):Option α->Prop
 |some a=>Q a
 |none=>False
theorem Jy{id:Nat}{ops:Array Oper}{Q:Ex->St->Prop}{s:St}(hc:nF ops=none)(h:cH (Q .normal) (kY E (cpR E n) ops s)):WpC E y n (.region id ops true) Q s:=by
 cases hs:kY E (cpR E n) ops s with
 |none=>rw [hs]at h;exact h.elim
 |some s'=>
  rw [hs]at h;obtain⟨M,hM⟩:=EB hs;exact⟨.normal,s',⟨M,λm hm=>by simp only [evC,if_true,hc];rw [kJ,hM m hm];rfl⟩,h⟩
def hZ(E:Env)(rv:List ResultVar)(r:Kind×List TD):Ex->St->Prop
 | .exit _,_=>False
 |_,s=>cH (λl:Kind×List TD=>l=r) ((rv.mapM (cQ E s)).bind λrs=>(rs.mapM (cz s.h)).map λl=>(if cA s.h rs then .own else if l.all (·.1)then .fresh else .any,l.map (·.2)))
theorem Jz{rv:List ResultVar}{r:Kind×List TD}{e:Ex}{s:St}(h:hZ E rv r e s):(e= .normal∨e= .ret)/\∃rs l,rv.mapM (cQ E s)=some rs/\rs.mapM (cz s.h)=some l/\(if cA s.h rs then Kind.own else if l.all (·.1)then .fresh else .any,l.map (·.2))=r:=by
 have key:cH (λl:Kind×List TD=>l=r) ((rv.mapM (cQ E s)).bind λrs=>(rs.mapM (cz s.h)).map λl=>(if cA s.h rs then .own else if l.all (·.1)then .fresh else .any,l.map (·.2)))->∃rs l,rv.mapM (cQ E s)=some rs/\rs.mapM (cz s.h)=some l/\(if cA s.h rs then Kind.own else if l.all (·.1)then .fresh else .any,l.map (·.2))=r:=by
  intro h
  cases h1:rv.mapM (cQ E s)with
  |none=>rw [h1]at h;exact h.elim
  |some rs=>
   rw [h1]at h;simp only [zbS]at h
   cases h2:rs.mapM (cz s.h)with
   |none=>rw [h2]at h;exact h.elim
   |some l=>rw [h2]at h;exact⟨rs,l,rfl,h2,h⟩
 cases e with
 |normal=>exact⟨.inl rfl,key h⟩
 |ret=>exact⟨.inr rfl,key h⟩
 |exit id=>exact h.elim
theorem LX{k:FuncId}{f:FI}{vs:List TD}{r:Kind×List TD}(ha:E.ax k=none)(hf:E.fn k=some f)
  (h:WpC E nY n f.body (hZ E f.results r) {t:=vs.map (cR false)++List.replicate (f.nt - vs.length) co,h:= []}):RunsP E (n+1) k vs r:=by
 obtain⟨e,s',⟨M,h1⟩,h2⟩:=h;obtain⟨h2,rs,l,h3,h4,h5⟩:=Jz h2;refine⟨M,λm hm=> ?_⟩
 have:=h1 m hm
 simp only [bS,be]at this;simp only [bS,be,aN,ha,hf,zbB,zbS,zA,nu,List.length_map];rw [this];rcases h2 with rfl|rfl<;>simp [h3,h4,<-h5]
theorem RunsP.pure(hO:E.Ok){k:FuncId}{vs:List TD}{kind:Kind}{rs:List TD}(h:RunsP E n k vs (kind,rs)):cY E.P k vs kind rs:=let⟨M,hM⟩:=h;NJ hO (hM M (Nat.le_refl _))
end
end Ev
end
noncomputable section
namespace Ev
open Go Go.RowKit
theorem JA(P:Program)(ax:Ax):(py P ax).fn=aY P:=rfl
def cI(P:Program)(t:TypeId):Array Field:=
 match P.underlying t with
 |some (.struct fs)=>fs
 |_=> #[]
def fld(P:Program)(t:TypeId)(i:Nat):Field:=(cI P t).toList.getD i default
section
variable (P : Program) (t : TypeId) (x y : Operand) (k : IntKind) (a b : Int)
theorem NK:aq P (do eqGuard .add t x y (.int k a) (.int k b);binOp .add t (.int k a) (.int k b))=some (.int k (k.wrap (a+b))):=by cases k<;>rfl
theorem NL:aq P (do eqGuard .sub t x y (.int k a) (.int k b);binOp .sub t (.int k a) (.int k b))=some (.int k (k.wrap (a - b))):=by cases k<;>rfl
theorem NM:aq P (do eqGuard .mul t x y (.int k a) (.int k b);binOp .mul t (.int k a) (.int k b))=some (.int k (k.wrap (a*b))):=by cases k<;>rfl
theorem RY(h:b≠0):aq P (do eqGuard .quo t x y (.int k a) (.int k b);binOp .quo t (.int k a) (.int k b))=some (.int k (k.wrap (a.tdiv b))):=by
 have:(do eqGuard .quo t x y (.int k a) (.int k b);binOp .quo t (.int k a) (.int k b))=(pure (.int k (k.wrap (a.tdiv b))):Sem Value):=by
  rw [eqGuard_at_int];show binOp .quo t (.int k a) (.int k b)=_;simp [binOp,Op.intDiv,h]
 rw [this];rfl
theorem RZ(h:b≠0):aq P (do eqGuard .rem t x y (.int k a) (.int k b);binOp .rem t (.int k a) (.int k b))=some (.int k (a.tmod b)):=by
 have:(do eqGuard .rem t x y (.int k a) (.int k b);binOp .rem t (.int k a) (.int k b))=(pure (.int k (a.tmod b)):Sem Value):=by
  rw [eqGuard_at_int];show binOp .rem t (.int k a) (.int k b)=_;simp [binOp,Op.intDiv,h]
 rw [this];rfl
theorem JB:aq P (do eqGuard .lss t x y (.int k a) (.int k b);binOp .lss t (.int k a) (.int k b))=some (.bool (decide (a<b))):=by cases k<;>rfl
theorem JC:aq P (do eqGuard .leq t x y (.int k a) (.int k b);binOp .leq t (.int k a) (.int k b))=some (.bool (decide (a<=b))):=by cases k<;>rfl
theorem JD:aq P (do eqGuard .gtr t x y (.int k a) (.int k b);binOp .gtr t (.int k a) (.int k b))=some (.bool (decide (b<a))):=by cases k<;>rfl
theorem JF:aq P (do eqGuard .geq t x y (.int k a) (.int k b);binOp .geq t (.int k a) (.int k b))=some (.bool (decide (b<=a))):=by cases k<;>rfl
theorem JG:aq P (do eqGuard .eql t x y (.int k a) (.int k b);binOp .eql t (.int k a) (.int k b))=some (.bool (a==b)):=by cases k<;>rfl
theorem JH:aq P (do eqGuard .neq t x y (.int k a) (.int k b);binOp .neq t (.int k a) (.int k b))=some (.bool (a !=b)):=by cases k<;>rfl
end
theorem gO(fr:Bool)(k:IntKind)(n:Int)(h:0<=n):gY (.one (.p fr (.v (.int k n))))=some n.toNat:=by
 obtain⟨m,rfl⟩:=Int.eq_ofNat_of_zero_le h;rfl
theorem wrap64{n:Int}(h1: -9223372036854775808<=n)(h2:n<=9223372036854775807):IntKind.i64.wrap n=n:=by rw [IntKind.wrap_i64];omega
end Ev
end
noncomputable section
namespace Ev
open Go Go.RowKit
theorem fV(h:aC)(k j:Nat)(b:Blk):aJ (aK h k b) j=if j=k then(match b with| .own sz es=>some (sz,es)|_=>none)else aJ h j:=by
 unfold aK;by_cases hk:k<h.length
 .rw [if_pos hk];unfold aJ;rw [List.getElem?_set];by_cases hj:j=k
  .subst hj;rw [if_pos rfl,if_pos rfl,if_pos hk];cases b<;>rfl
  .rw [if_neg (λe=>hj e.symm),if_neg hj]
 .rw [if_neg hk];unfold aJ;by_cases hj:j=k
  .subst hj;rw [if_pos rfl,List.getElem?_append_right (by simp;omega)];simp only [List.length_append,List.length_replicate];rw [show j - (h.length+(j - h.length))=0 from by omega];cases b<;>rfl
  .rw [if_neg hj];by_cases h1:j<h.length
   .rw [List.append_assoc,List.getElem?_append_left h1]
   .rw [List.getElem?_eq_none (show h.length<=j by omega)];by_cases h2:j<k
    .rw [List.getElem?_append_left (by simp;omega),List.getElem?_append_right (by omega),List.getElem?_replicate];split
     .rename_i hx;split at hx<;>simp at hx
     .rfl
    .rw [List.getElem?_eq_none (by simp;omega)]
theorem qd(h:aC)(n j:Nat):aJ (h++List.replicate n .no) j=aJ h j:=by
 unfold aJ;by_cases h1:j<h.length
 .rw [List.getElem?_append_left h1]
 .rw [List.getElem?_eq_none (show h.length<=j by omega),List.getElem?_append_right (by omega),List.getElem?_replicate];split
  .rename_i hx;split at hx<;>simp at hx
  .rfl
theorem tH(h:aC)(l:List Nat)(j:Nat):aJ (mask h l) j=if j∈l then none else aJ h j:=by
 unfold aJ;rw [nV];by_cases hj:j∈l
 .rw [if_pos hj];by_cases hl:j<h.length
  .rw [if_pos ⟨hj,hl⟩]
  .rw [if_neg (λhh=>hl hh.2),List.getElem?_eq_none (by omega)]
 .rw [if_neg hj,if_neg (λhh=>hj hh.1)]
theorem LY(h:aC)(k:Nat)(b:Blk):(aK h k b).length=max h.length (k+1):=by
 unfold aK;split
 .rw [List.length_set];omega
 .simp;omega
theorem gA{h:aC}{k:Nat}(b:Blk)(hk:k<h.length):(aK h k b).length=h.length:=by rw [LY];omega
theorem yB{h:aC}{k:Nat}{x:Nat×List (List C)}(hk:aJ h k=some x):k<h.length:=by
 unfold aJ at hk;by_cases hl:k<h.length
 .exact hl
 .rw [List.getElem?_eq_none (by omega)]at hk;simp at hk
abbrev bef(ops:Array Oper):Nat->Nat:=λi=>(Region.before ops).toList.getD i 0
def gB(ops:Array Oper):List (List Nat):=(List.range ops.size).map λi=>(List.range ops.size).filter (cm (bef ops) i)
def nb(ops:Array Oper):Bool:=kX ops 0 (bef ops) λ_=> []
def fB(ops:Array Oper):Bool:=nb ops &&(nF ops).isNone
theorem yC{ops:Array Oper}(h:fB ops=true):nb ops=true/\nF ops=none:=by
 unfold fB at h;simpa using h
def bg(b:Nat)(O:List (List Nat))(N:List (Bool×List Nat))(i:Nat):List Nat:=O.getD i []++((N.getD i (false,[])).2.map (b+·)++if(N.getD i (false,[])).1 then [b+i]else [])
def mD(ops:Array Oper)(N:List (Bool×List Nat)):Bool:=(List.range ops.size).all λi=>(N.getD i (false,[])).2.all (λj=>(bef ops i).testBit j)&&(List.range ops.size).all λk=> !cm (bef ops) i k||mq (N.getD i (false,[])).2 (N.getD k (false,[])).2
theorem rm{α β:Type}{f g:α->List β}:∀{l:List α},(∀x∈l,f x=g x)->l.flatMap f=l.flatMap g
 | [],_=>rfl
 |x::l,h=>by rw [List.flatMap_cons,List.flatMap_cons,h x List.mem_cons_self,rm λy hy=>h y (List.mem_cons_of_mem _ hy)]
section
variable {E : Env} {cp : cU} {ops : Array Oper} {b : Nat}
theorem wn{U M:Nat->List Nat}:∀(l:List Oper) (i:Nat) (s s':St),dI E cp ops b U M i l s=some s'->mO E cp ops b i l s=some ((List.range' i l.length).map U)
 | [],i,s,s',h=>rfl
 |o::l,i,s,s',h=>by
  simp only [dI,zbB,zbE]at h;obtain⟨e,h1,h2⟩:=h;split at h2
  .rename_i hc;simp only [zbE]at h2;obtain⟨s1,h3,h4⟩:=h2;simp only [mO,zbB,zbE];refine⟨e,sy (Av _ _) h1,s1,h3,_,wn l (i+1) s1 s' h4,?_⟩;simp [List.range'_succ,hc.1]
  .simp at h2
theorem pz{U M U' M':Nat->List Nat}:∀(l:List Oper) (i:Nat) (s:St),(∀j,i<=j->j<i+l.length->U j=U' j/\M j=M' j)->dI E cp ops b U M i l s=dI E cp ops b U' M' i l s
 | [],i,s,h=>rfl
 |o::l,i,s,h=>by
  have h0:=h i (Nat.le_refl _) (by simp);simp only [dI,h0.1,h0.2,zbB];congr 1;funext e;split
  .congr 1;funext s1;exact pz l (i+1) s1 λj hj hl=>h j (by omega) (by simp;omega)
  .rfl
def DJ:List (List Nat)->List (List Nat)->List (List Nat)->Prop
 |o::os,r::rs,O=>(∀j∈r,∀x∈o,x ∉ O.getD j [])/\DJ os rs O
 |_,_,_=>True
theorem NN:∀{os rs O:List (List Nat)},DJ os rs O->∀i j,j∈rs.getD i []->∀x∈os.getD i [],x ∉ O.getD j []
 | [],rs,O,h,i,j,hj,x,hx=>by simp at hx
 |o::os,[],O,h,i,j,hj,x,hx=>by simp at hj
 |o::os,r::rs,O,h,0,j,hj,x,hx=>h.1 j (by simpa using hj) x (by simpa using hx)
 |o::os,r::rs,O,h,i+1,j,hj,x,hx=>NN h.2 i j (by simpa using hj) x (by simpa using hx)
theorem HT{O:List (List Nat)}{N:List (Bool×List Nat)}(hq:fB ops=true)(hn:mD ops N=true)(hO:∀i j,i<ops.size->j<ops.size->cm (bef ops) i j=true->∀x∈O.getD i [],x ∉ O.getD j [])(hb:∀l∈O,∀k∈l,k<b){U:Nat->List Nat}(hU:∀i,i<ops.size->U i=bg b O N i):kX ops b (bef ops) U=true:=by
 replace hq:=(yC hq).1;unfold nb kX at hq;unfold kX;simp only [Bool.and_eq_true,List.all_eq_true]at hq ⊢;refine⟨hq.1,λx hx y hy=> ?_⟩;have q:=hq.2 x hx y hy
 have lt:∀z∈ops.toList.zipIdx,z.2<ops.size:=λz hz=>by
  have:=List.mk_mem_zipIdx_iff_getElem?.1 (show(z.1,z.2)∈ops.toList.zipIdx from hz)
  have:=(List.getElem?_eq_some_iff.1 this).1
  simpa using this
 have hold:∀i x,x∈O.getD i []->x<b:=λi x hx=>by
  rw [List.getD_eq_getElem?_getD]at hx
  cases hi:O[i]? with
  |none=>rw [hi]at hx;simp at hx
  |some l=>rw [hi]at hx;exact hb l (List.mem_of_getElem? hi) x (by simpa using hx)
 have hmem:∀i x,i<ops.size->x∈U i->x∈O.getD i []∨(∃j∈(N.getD i (false,[])).2,x=b+j)∨x=b+i:=λi x hi hx=>by
  rw [hU i hi]at hx;unfold bg at hx;rcases List.mem_append.1 hx with h|h
  .exact .inl h
  .rcases List.mem_append.1 h with h|h
   .obtain⟨j,h1,h2⟩:=List.mem_map.1 h;exact .inr (.inl ⟨j,h1,h2.symm⟩)
   .split at h
    .exact .inr (.inr (by simpa using h))
    .simp at h
 have hN1:∀i j,i<ops.size->j∈(N.getD i (false,[])).2->(bef ops i).testBit j=true:=λi j hi hj=>by
  unfold mD at hn
  have:=List.all_eq_true.1 hn i (by simpa using hi)
  rw [Bool.and_eq_true]at this;exact List.all_eq_true.1 this.1 j hj
 have hN2:∀i k j,i<ops.size->k<ops.size->cm (bef ops) i k=true->j∈(N.getD i (false,[])).2->j ∉(N.getD k (false,[])).2:=λi k j hi hk hu hj=>by
  unfold mD at hn
  have:=List.all_eq_true.1 hn i (by simpa using hi)
  rw [Bool.and_eq_true]at this;have h2:=List.all_eq_true.1 this.2 k (by simpa using hk);rw [hu]at h2;simp only [Bool.not_true,Bool.false_or]at h2;unfold mq at h2
  have:=List.all_eq_true.1 h2 j hj
  simpa using this
 refine⟨⟨q.1.1,?_⟩,?_⟩
 .by_cases he:x.2=y.2
  .simp [he]
  .simp only [Bool.or_eq_true,Bool.not_eq_true',List.contains_eq_mem,decide_eq_false_iff_not];by_cases ht:(bef ops x.2).testBit y.2=true
   .exact .inl (.inr ht)
   refine .inr λhh=> ?_;rcases hmem _ _ (lt x hx) hh with h|⟨j,h1,h2⟩|h
   .have:=hold _ _ h;omega
   .have:j=y.2:=by omega
    subst this;exact ht (hN1 _ _ (lt x hx) h1)
   .omega
 .by_cases hu:cm (bef ops) x.2 y.2=true
  .have hu':=hu;unfold cm at hu';simp only [Bool.and_eq_true,bne_iff_ne,ne_eq,Bool.not_eq_true']at hu';obtain⟨⟨hne,hu1⟩,hu2⟩:=hu';have q2:=q.2;simp only [Bool.or_eq_true,Bool.not_eq_true',Bool.and_eq_true]at q2 ⊢;refine .inr ⟨(q2.resolve_left (by rw [hu];simp)).1,?_⟩;unfold mq;rw [List.all_eq_true];intro z hz;simp only [Bool.not_eq_true',List.contains_eq_mem,decide_eq_false_iff_not];intro hz2;rcases hmem _ _ (lt x hx) hz with h|⟨j,h1,h2⟩|h
   .rcases hmem _ _ (lt y hy) hz2 with g|⟨k,g1,g2⟩|g
    .exact hO _ _ (lt x hx) (lt y hy) hu z h g
    .have:=hold _ _ h;omega
    .have:=hold _ _ h;omega
   .rcases hmem _ _ (lt y hy) hz2 with g|⟨k,g1,g2⟩|g
    .have:=hold _ _ g;omega
    .have:j=k:=by omega
     subst this;exact hN2 _ _ _ (lt x hx) (lt y hy) hu h1 g1
    .have:j=y.2:=by omega
     subst this
     have:=hN1 _ _ (lt x hx) h1
     rw [hu1]at this;simp at this
   .rcases hmem _ _ (lt y hy) hz2 with g|⟨k,g1,g2⟩|g
    .have:=hold _ _ g;omega
    .have:k=x.2:=by omega
     subst this
     have:=hN1 _ _ (lt y hy) g1
     rw [hu2]at this;simp at this
    .omega
  .have hu':cm (bef ops) x.2 y.2=false:=by simpa using hu
   rw [hu'];rfl
theorem HU{O:List (List Nat)}{N:List (Bool×List Nat)}{R:List (List Nat)}{s s':St}(hq:fB ops=true)(hn:mD ops N=true)(hR:gB ops=R)(hO:DJ O R O)(hb:∀l∈O,∀k∈l,k<s.h.length)
  (h:dI E cp ops s.h.length (bg s.h.length O N) (λi=>(R.getD i []).flatMap (bg s.h.length O N)) 0 ops.toList {s with h:=s.h++List.replicate ops.size .no}=some s'):kY E cp ops s=some s':=by
 have h1:=wn _ _ _ _ h;unfold kY;simp only [zbB,zbE];refine⟨_,h1,?_⟩
 have hU:∀i,i<ops.size->((List.range' 0 ops.toList.length).map (bg s.h.length O N)).getD i []=bg s.h.length O N i:=λi hi=>by
  rw [List.getD_eq_getElem?_getD,List.getElem?_map,List.getElem?_range' (by simpa using hi)];simp
 have hO':∀i j,i<ops.size->j<ops.size->cm (bef ops) i j=true->∀x∈O.getD i [],x ∉ O.getD j []:=λi j hi hj hu=>by
  refine NN hO i j ?_;rw [<-hR];unfold gB;rw [List.getD_eq_getElem?_getD,List.getElem?_map,List.getElem?_range hi];simp only [Option.map_some,Option.getD_some];rw [List.mem_filter];exact⟨by simpa using hj,hu⟩
 rw [if_pos (HT hq hn hO' hb hU),<-h];refine pz _ _ _ λj _ hj=>⟨hU j (by simpa using hj),?_⟩;have hj':j<ops.size:=by simpa using hj
 subst hR;unfold gB;rw [List.getD_eq_getElem?_getD,List.getElem?_map,List.getElem?_range hj',List.getD_eq_getElem?_getD,List.getElem?_map,List.getElem?_range hj'];simp only [Option.map_some,Option.getD_some];refine rm λk hk=>hU k ?_
 have:=(List.mem_filter.1 hk).1
 simpa using this
end
section
variable {E : Env} {y : Nat → fu} {n : Nat}
theorem yD{id:Nat}{ops:Array Oper}{Q:Ex->St->Prop}{s:St}(O:List (List Nat))(N:List (Bool×List Nat))(R:List (List Nat))(hq:fB ops=true)(hn:mD ops N=true)(hR:gB ops=R)(hO:DJ O R O)(hb:∀l∈O,∀k∈l,k<s.h.length)
  (h:cH (Q .normal) (dI E (cpR E n) ops s.h.length (bg s.h.length O N) (λi=>(R.getD i []).flatMap (bg s.h.length O N)) 0 ops.toList {s with h:=s.h++List.replicate ops.size .no})):WpC E y n (.region id ops true) Q s:=by
 refine Jy (yC hq).2 ?_
 cases hs:dI E (cpR E n) ops s.h.length (bg s.h.length O N) (λi=>(R.getD i []).flatMap (bg s.h.length O N)) 0 ops.toList {s with h:=s.h++List.replicate ops.size .no}with
 |none=>rw [hs]at h;exact h.elim
 |some s'=>rw [HU hq hn hR hO hb hs];rw [hs]at h;exact h
def evQ(E:Env)(cp:cU)(ops:Array Oper)(H:aC)(b:Nat):Nat->List Oper->List D->Option (List D)
 |_,[],t=>some t
 |i,o::r,t=>do
  let e<-step E cp ops (b+i) o (only (looks ops o) t) H
  if e.upd.isEmpty then evQ E cp ops H b (i+1) r (<-mn t o.dst e.v)else none
theorem sB{cp:cU}{ops:Array Oper}{H:aC}{b:Nat}:∀(l:List Oper) (i:Nat) (t t':List D),evQ E cp ops H b i l t=some t'->dI E cp ops b (λ_=> []) (λ_=> []) i l {t,h:=H}=some {t:=t',h:=H}
 | [],i,t,t',h=>by simp only [evQ,zsI]at h;subst h;rfl
 |o::l,i,t,t',h=>by
  simp only [evQ,zbB,zbE]at h;obtain⟨e,h1,h2⟩:=h;split at h2
  .rename_i hc;have hu:e.upd= []:=by simpa using hc
   simp only [zbE]at h2;obtain⟨t1,h3,h4⟩:=h2;simp only [dI,zbB,zbE];refine⟨e,h1,?_⟩;rw [if_pos (by simp [ids,hu])];simp only [zbE];exact⟨{t:=t1,h:=H},by simp [put,h3,hu,Ev.apply],sB l (i+1) t1 t' h4⟩
  .simp at h2
theorem HV{id:Nat}{ops:Array Oper}{Q:Ex->St->Prop}{s:St}(hq:fB ops=true)(h:cH (λt=>Q .normal {t,h:=s.h++List.replicate ops.size .no}) (evQ E (cpR E n) ops (s.h++List.replicate ops.size .no) s.h.length 0 ops.toList s.t)):WpC E y n (.region id ops true) Q s:=by
 cases hs:evQ E (cpR E n) ops (s.h++List.replicate ops.size .no) s.h.length 0 ops.toList s.t with
 |none=>rw [hs]at h;exact h.elim
 |some t'=>
  rw [hs]at h;refine yD [] [] (gB ops) hq (by unfold mD;simp [mq]) rfl trivial (by simp) ?_;have e1:(bg s.h.length [] [])=λ_=> []:=by funext i;simp [bg]
  have e2:(λi=>((gB ops).getD i []).flatMap (bg s.h.length [] []))=λ_=> []:=by funext i;rw [e1];simp
  rw [e2,e1]
  have:=sB _ _ _ _ hs
  rw [this];exact h
end
end Ev
end
end Go.Proofs.YtpcmabdifkoihaaDoor
