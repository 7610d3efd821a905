/- Texts of a claim, joined. -/
import Derived.Test.YtpcmabdifkoihaaDoorZA7
set_option linter.unusedVariables false
set_option linter.unusedSimpArgs false
namespace Go.Proofs.YtpcmabdifkoihaaDoor
noncomputable section
namespace Ev
namespace K
open Go Go.RowKit
structure Ext(F:KF)(ks:KS)(V:Vl)(ks':KS)(V':Vl):Prop where
 nx:ks.nx<=ks'.nx
 agree:Agree ks.nx V V'
 le:LeB ks.nx (aE F ks) (aE F ks')
 dom:∀p,p<ks.nx->az ks.bl p=none->az ks'.bl p=none
theorem Ext.refl(F:KF)(ks:KS)(V:Vl):Ext F ks V ks V:=⟨Nat.le_refl _,Agree.refl _ _,LeB.refl _ _,λp hp h=>h⟩
theorem Ext.trans{F:KF}{ks ks' ks'':KS}{V V' V'':Vl}(h:Ext F ks V ks' V')(h':Ext F ks' V' ks'' V''):Ext F ks V ks'' V'':=
 ⟨Nat.le_trans h.nx h'.nx,h.agree.trans h'.agree h.nx,h.le.trans h'.le h.nx,λp hp hl=>h'.dom p (Nat.lt_of_lt_of_le hp h.nx) (h.dom p hp hl)⟩
def NW:Blk->Option (Nat×List (List C))
 | .own sz es=>some (sz,es)
 |_=>none
structure Sq(h:aC)(u:List (Nat×Blk))(h':aC):Prop where
 out:∀q,(∀x∈u,x.1≠q)->aJ h' q=aJ h q
 in_:∀x∈u,aJ h' x.1=NW x.2
section
variable {E : Env} {n : Nat} {F : KF} {ks : KS} {V : Vl} {f : Nat → D} {h : aC} {M tag nid : Nat} {op : Op} {G : KG} {D0 : Nat} {R : Type} {r : R}
theorem qo{B:BK}{k:Nat}{b:KB}(hb:RB B V h k b)(ht:b.there):∃z,aJ h k=some z:=by
 cases b with
 |box cs=>obtain⟨sz,cs',h1,_⟩:=hb;exact⟨_,h1⟩
 |rows e ne l=>exact⟨_,hb.1⟩
 |mrows e l=>exact⟨_,hb ht⟩
 |dead=>exact ht.elim
theorem NX{B:BK}{k:Nat}{b:KB}{x:Blk}(hx:BlkIs B V x b)(hg:aJ h k=NW x):RB B V h k b:=by
 cases b with
 |box cs=>obtain⟨sz,cs',rfl,h2⟩:=hx;exact⟨sz,cs',hg,h2⟩
 |rows e ne l=>obtain⟨rfl,h2⟩:=hx;exact⟨hg,h2⟩
 |mrows e l=>rw [show x=_ from hx]at hg;exact λ_=>hg
 |dead=>trivial
theorem wX{e:KE}{p:Nat}{b:KB}(hnew:∀b,e.new=some b->b≠ .dead)(hb:Be F ks nid e p=some b):(p=nid/\e.new=some b)∨(e.upd=some (p,b))∨((∀b',e.new=some b'->p≠nid)/\(∀q b',e.upd=some (q,b')->p≠q)/\aE F ks p=some b):=by
 have h1:∀p b,aE F {ks with bl:=blU e ks.bl} p=some b->(e.upd=some (p,b))∨((∀q b',e.upd=some (q,b')->p≠q)/\aE F ks p=some b):=by
  intro p b hb;unfold blU at hb
  cases hu:e.upd with
  |none=>rw [hu]at hb;exact .inr ⟨λq b' h=>by simp at h,hb⟩
  |some x=>
   obtain⟨q,b'⟩:=x;rw [hu]at hb;simp only at hb;by_cases hd:b'= .dead
   .subst hd;rw [yZ]at hb;split at hb
    .simp at hb
    .rename_i hpq;exact .inr ⟨λq' b2 h=>by simp at h;obtain⟨rfl,rfl⟩:=h;exact hpq,hb⟩
   .rw [jy hd]at hb;split at hb
    .rename_i hpq;subst hpq;cases hb;exact .inl rfl
    .rename_i hpq;exact .inr ⟨λq' b2 h=>by simp at h;obtain⟨rfl,rfl⟩:=h;exact hpq,hb⟩
 unfold Be blE at hb
 cases hn:e.new with
 |none=>
  rw [hn]at hb;rcases h1 p b hb with h|h
  .exact .inr (.inl h)
  .exact .inr (.inr ⟨λb' h=>by simp at h,h.1,h.2⟩)
 |some b0=>
  rw [hn]at hb;simp only [jy (hnew b0 hn)]at hb;split at hb
  .rename_i hp;cases hb;exact .inl ⟨hp,rfl⟩
  .rename_i hp;rcases h1 p b hb with h|h
   .exact .inr (.inl h)
   .exact .inr (.inr ⟨λb' h=>hp,h.1,h.2⟩)
def upO(dst:Option Tmp)(v:D)(f:Nat->D):Nat->D:=
 match dst with
 |some d=>up f d v
 |none=>f
theorem wY(hr:Rel F ks V f h){e:KE}{dst:Option Tmp}{k:Nat}{bo:Bool}{v:D}{u:List (Nat×Blk)}{h':aC}(ht:ks.nx<=tag)(hn:ks.nx<=nid)(htM:tag<M)(hnM:nid<M)(hdst:jU F dst=true)
  (hupd:∀p b,e.upd=some (p,b)->∃b0,az ks.bl p=some b0/\b0≠ .dead/\ScB ks.nx b/\b0.like b) (hnew:∀b,e.new=some b->ScB ks.nx b/\b≠ .dead) (hsc:ScD M (ns tag e.v))
  (hrd:RD (Be F ks nid e) (V.set nid k tag bo) (ns tag e.v) v) (hreal:KH (Be F ks nid e) (V.set nid k tag bo) V ks k e u) (hk:(∃b,e.new=some b)->aJ h k=none) (hh:Sq h u h'):
  Rel F {EY dst tag nid e ks with nx:=M} (V.set nid k tag bo) (upO dst v f) h'/\Ext F ks V {EY dst tag nid e ks with nx:=M} (V.set nid k tag bo):=by
 have hM:ks.nx<=M:=by omega
 have hle:LeB ks.nx (aE F ks) (Be F ks nid e):=AU hn (λp b hb=>by obtain⟨b0,h1,h2,_,h4⟩:=hupd p b hb;exact⟨b0,h1,h2,h4⟩) (λb hb=>(hnew b hb).2);have hag:Agree ks.nx V (V.set nid k tag bo):=Vl.set_agree hn ht;obtain⟨uo,un,hu,huo,hun⟩:=hreal;have hblold:∀p b,aE F ks p=some b->p<ks.nx/\ScB ks.nx b/\RB (aE F ks) V h (V.id p) b:=hr.bl
 have hupdthere:∀p b,e.upd=some (p,b)->b.there->∃b0,aE F ks p=some b0/\b0.there:=by
  intro p b hb hth;obtain⟨b0,g1,g2,_,_⟩:=hupd p b hb;rw [hb]at huo;rcases huo with⟨x,_,_,h3⟩|⟨_,h2,_⟩
  .exact⟨b0,aA g1 g2,h3 b0 g1⟩
  .exact absurd hth h2
 -- a block that is there is not the new one
 have hnk:(∃b,e.new=some b)->∀p b,aE F ks p=some b->b.there->V.id p≠k:=by
  intro hex p b hb hth he;obtain⟨z,hz⟩:=qo (hblold p b hb).2.2 hth;rw [he,hk hex]at hz;simp at hz
 -- what is not turned
 have hkeep:∀p b,aE F ks p=some b->(∀q b',e.upd=some (q,b')->p≠q)->b.there->aJ h' (V.id p)=aJ h (V.id p):=by
  intro p b hb hq hth;refine hh.out _ λx hx=> ?_;rw [hu,List.mem_append]at hx;rcases hx with hx|hx
  .cases he:e.upd with
   |none=>rw [he]at huo;rw [show uo= []from huo]at hx;simp at hx
   |some y=>
    obtain⟨q,b'⟩:=y;rw [he]at huo;rcases huo with⟨y,h1,h2,h3⟩|⟨h1,_⟩
    .rw [h1,List.mem_singleton]at hx;subst hx;intro heq;obtain⟨b0,g1,g2,_,_⟩:=hupd q b' he;exact hq q b' he (hr.inj p q b b0 hb (aA g1 g2) hth (h3 b0 g1) heq.symm)
    .rw [h1]at hx;simp at hx
  .cases he:e.new with
   |none=>rw [he]at hun;rw [show un= []from hun]at hx;simp at hx
   |some b'=>
    rw [he]at hun;rcases hun with⟨y,h1,_⟩|⟨h1,_⟩
    .rw [h1,List.mem_singleton]at hx;subst hx;exact λheq=>hnk ⟨b',he⟩ p b hb hth heq.symm
    .rw [h1]at hx;simp at hx
 have hidold:∀p,p<ks.nx->(V.set nid k tag bo).id p=V.id p:=λp hp=>(hag p hp).1;refine⟨⟨?_,?_,?_⟩,⟨hM,hag,hle,?_⟩⟩
 .intro i d hd
  have hold:ig F ks i=some d->(∀j,dst=some j->i≠j)->i<F.nt/\ScD M d/\RD (Be F ks nid e) (V.set nid k tag bo) d (upO dst v f i):=by
   intro h1 h2;obtain⟨g1,g2,g3⟩:=hr.sl i d h1;refine⟨g1,g2.mono hM,?_⟩;have g4:=g3.mono g2 hle hag
   cases dst with
   |none=>exact g4
   |some j=>
    show RD _ _ d (up f j v i);unfold up
    have:=h2 j rfl
    rw [show Nat.beq i j=false by cases hb:Nat.beq i j with|true=>exact absurd (Nat.eq_of_beq_eq_true hb) this|false=>rfl];exact g4
  cases dst with
  |none=>exact hold hd (λj hj=>by simp at hj)
  |some j=>
   have hd':bA ((j,ns tag e.v)::ks.sl) F.sl i=some d:=hd;unfold bA at hd';rw [aB]at hd';by_cases hij:i=j
   .subst hij;rw [if_pos rfl]at hd';cases hd';refine⟨by simpa [jU]using hdst,hsc,?_⟩;show RD _ _ _ (up f i v i);unfold up;rw [show Nat.beq i i=true from Nat.beq_refl i];exact hrd
   .rw [if_neg hij]at hd';exact hold hd' (λj' hj'=>by cases hj';exact hij)
 .intro p b hb;have hb':Be F ks nid e p=some b:=hb;rcases wX (λb hb=>(hnew b hb).2) hb' with⟨rfl,h1⟩|h1|⟨h1,h2,h3⟩
  .refine⟨hnM,((hnew b h1).1).mono hM,?_⟩;show RB (Be F ks p e) _ h' ((V.set p k tag bo).id p) b;rw [Vl.set_id];rw [h1]at hun;rcases hun with⟨x,g1,g2,g3⟩|⟨g1,g2⟩
   .exact NX g2 (hh.in_ (k,x) (by rw [hu,g1];simp))
   .cases b with
    |mrows e l=>exact λhl=>absurd hl g2
    |dead=>trivial
    |box cs=>exact absurd trivial g2
    |rows e ne l=>exact absurd trivial g2
  .obtain⟨b0,g1,g2,g3,g4⟩:=hupd p b h1;obtain⟨e1,e2,e3⟩:=hblold p b0 (aA g1 g2);refine⟨Nat.lt_of_lt_of_le e1 hM,g3.mono hM,?_⟩;show RB (Be F ks nid e) _ h' ((V.set nid k tag bo).id p) b;rw [hidold p e1];rw [h1]at huo;rcases huo with⟨x,k1,k2,k3⟩|⟨k1,k2,k3⟩
   .exact NX k2 (hh.in_ (V.id p,x) (by rw [hu,k1];simp))
   .cases b with
    |mrows e l=>exact λhl=>absurd hl k2
    |dead=>trivial
    |box cs=>exact absurd trivial k2
    |rows e ne l=>exact absurd trivial k2
  .obtain⟨e1,e2,e3⟩:=hblold p b h3;refine⟨Nat.lt_of_lt_of_le e1 hM,e2.mono hM,?_⟩;show RB (Be F ks nid e) _ h' ((V.set nid k tag bo).id p) b;rw [hidold p e1];have e4:=e3.mono e2 hle hag;by_cases hth:b.there
   .exact e4.heap (hkeep p b h3 h2 hth)
   .cases b with
    |mrows e l=>exact λhl=>absurd hl hth
    |dead=>trivial
    |box cs=>exact absurd trivial hth
    |rows e ne l=>exact absurd trivial hth
 .intro p q b b' hp hq tp tq hid
  have key:∀p b,Be F ks nid e p=some b->b.there->(p=nid/\(V.set nid k tag bo).id p=k/\∃b,e.new=some b)∨(p<ks.nx/\(V.set nid k tag bo).id p=V.id p/\∃b0,aE F ks p=some b0/\b0.there):=by
   intro p b hb hth;rcases wX (λb hb=>(hnew b hb).2) hb with⟨rfl,h1⟩|h1|⟨h1,h2,h3⟩
   .exact .inl ⟨rfl,Vl.set_id,b,h1⟩
   .obtain⟨b0,g1,g2⟩:=hupdthere p b h1 hth;exact .inr ⟨(hblold p b0 g1).1,hidold p (hblold p b0 g1).1,b0,g1,g2⟩
   .exact .inr ⟨(hblold p b h3).1,hidold p (hblold p b h3).1,b,h3,hth⟩
  rcases key p b hp tp with⟨rfl,e1,hx1⟩|⟨l1,e1,b0,g1,g2⟩
  .rcases key q b' hq tq with⟨rfl,e2,hx2⟩|⟨l2,e2,b1,g3,g4⟩
   .rfl
   .rw [e1,e2]at hid;exact absurd hid.symm (hnk hx1 q b1 g3 g4)
  .rcases key q b' hq tq with⟨rfl,e2,hx2⟩|⟨l2,e2,b1,g3,g4⟩
   .rw [e1,e2]at hid;exact absurd hid (hnk hx2 p b0 g1 g2)
   .rw [e1,e2]at hid;exact hr.inj p q b0 b1 g1 g3 g2 g4 hid
 .intro p hp hl;show az (blE e nid ks.bl) p=none
  have h1:az (blU e ks.bl) p=none:=by
   unfold blU
   cases hu':e.upd with
   |none=>exact hl
   |some x=>
    obtain⟨q,b'⟩:=x;obtain⟨b0,g1,_⟩:=hupd q b' hu';simp only [aB];rw [if_neg (λhe=>by subst he;rw [g1]at hl;simp at hl)];exact hl
  unfold blE
  cases hn':e.new with
  |none=>exact h1
  |some b=>simp only [aB];rw [if_neg (by omega)];exact h1
end
end K
end Ev
end
noncomputable section
namespace Ev
namespace K
open Go Go.RowKit
theorem qp:∀(u:List (Nat×Blk)) (h:aC),(u.map (·.1)).Nodup->Sq h u (Ev.apply h u)
 | [],h,hn=>⟨λq _=>rfl,λx hx=>by simp at hx⟩
 |x::u,h,hn=>by
  rw [List.map_cons,List.nodup_cons]at hn;obtain⟨h1,h2⟩:=qp u (aK h x.1 x.2) hn.2;refine⟨λq hq=> ?_,λy hy=> ?_⟩
  .show aJ (Ev.apply (aK h x.1 x.2) u) q=_;rw [h1 q (λy hy=>hq y (by simp [hy])),fV,if_neg (λe=>hq x (by simp) e.symm)]
  .show aJ (Ev.apply (aK h x.1 x.2) u) y.1=_;rcases List.mem_cons.1 hy with rfl|hy
   .rw [h1 y.1 (λz hz he=>hn.1 (he▸List.mem_map_of_mem hz)),fV,if_pos rfl];rfl
   .exact h2 y hy
structure KY(F:KF)(ks:KS)(V:Vl)(h:aC):Prop where
 bl:∀p b,aE F ks p=some b->p<ks.nx/\ScB ks.nx b/\RB (aE F ks) V h (V.id p) b
 inj:∀p q b b',aE F ks p=some b->aE F ks q=some b'->b.there->b'.there->V.id p=V.id q->p=q
def Fl(E:Env)(n:Nat)(call:yT):Prop:=∀(R:Type) (F:KF) (k:FuncId) (args:List KD) (ks:KS) (κ:KD->KS->Option R) (r:R) (V:Vl) (h:aC) (args':List D),call R F k args ks κ=some r->KY F ks V h->(∀d∈args,ScD ks.nx d)->RDl (aE F ks) V args args'->
 ∃n0 fi,n=n0+1/\E.fn k=some fi/\(E.ax k=some λ_=>none)/\args'.length<=fi.nt/\WpC E nY n0 fi.body (λe s=>(e= .normal∨e= .ret)/\∃ds,fi.results.mapM (cQ E s)=some ds/\∃ks' V' v,κ v ks'=some r/\ScD ks'.nx v/\RD (aE F ks') V' v (gV ds)/\KY F ks' V' s.h/\Ext F ks V ks' V') {t:=tab fi.nt (fA args'),h:=h}
section
variable {E : Env} {y : Nat → fu} {n : Nat} {F : KF} {ks : KS} {V : Vl} {f : Nat → D} {h : aC} {M tag nid : Nat} {op : Op} {G : KG} {D0 : Nat} {R : Type} {r : R}
theorem Rel.b(hr:Rel F ks V f h):KY F ks V h:=⟨hr.bl,hr.inj⟩
theorem Rel.heap{h':aC}(hr:Rel F ks V f h)(hh:∀k,aJ h' k=aJ h k):Rel F ks V f h':=⟨hr.sl,λp b hb=>⟨(hr.bl p b hb).1,(hr.bl p b hb).2.1,(hr.bl p b hb).2.2.heap (hh _)⟩,hr.inj⟩
theorem wZ{e:KE}{B':BK}{V':Vl}{k:Nat}{u:List (Nat×Blk)}(hr:Rel F ks V f h)(hupd:∀p b,e.upd=some (p,b)->∃b0,az ks.bl p=some b0/\b0≠ .dead/\ScB ks.nx b/\b0.like b)(hreal:KH B' V' V ks k e u)(hk:aJ h k=none):(u.map (·.1)).Nodup:=by
 obtain⟨uo,un,rfl,huo,hun⟩:=hreal
 have h2:un= []∨∃x,un= [(k,x)]:=by
  cases he:e.new with
  |none=>rw [he]at hun;exact .inl hun
  |some b=>rw [he]at hun;rcases hun with⟨x,h1,_⟩|⟨h1,_⟩;exact .inr ⟨x,h1⟩;exact .inl h1
 have h1:uo= []∨∃p x,uo= [(V.id p,x)]/\V.id p≠k:=by
  cases he:e.upd with
  |none=>rw [he]at huo;exact .inl huo
  |some z=>
   obtain⟨p,b⟩:=z;rw [he]at huo;rcases huo with⟨x,g1,g2,g3⟩|⟨g1,_⟩
   .obtain⟨b0,k1,k2,_,_⟩:=hupd p b he;obtain⟨w,hw⟩:=qo (hr.bl p b0 (aA k1 k2)).2.2 (g3 b0 k1);exact .inr ⟨p,x,g1,λheq=>by rw [heq,hk]at hw;simp at hw⟩
   .exact .inl g1
 rcases h1 with rfl|⟨p,x,rfl,hp⟩
 .rcases h2 with rfl|⟨y,rfl⟩<;>simp
 .rcases h2 with rfl|⟨y,rfl⟩
  .simp
  .simp [hp]
theorem rI{α β:Type}(g:α->β):∀(l:List (Nat×α)) (i:Nat),az (l.map λx=>(x.1,g x.2)) i=(az l i).map g
 | [],i=>rfl
 |x::l,i=>by
  show cond (Nat.beq x.1 i) (some (g x.2)) (az (l.map λx=>(x.1,g x.2)) i)=(cond (Nat.beq x.1 i) (some x.2) (az l i)).map g
  cases Nat.beq x.1 i with
  |true=>rfl
  |false=>exact rI g l i
theorem nl{tag:Nat}{v:Bool}{p:Nat}:aE F (subst tag v ks) p=aE F ks p∨∃cs,aE F ks p=some (.box cs)/\aE F (subst tag v ks) p=some (.box (cs.map (oh tag v))):=by
 unfold aE bA subst;simp only [rI]
 cases hl:az ks.bl p with
 |none=>exact .inl rfl
 |some b=>
  cases b with
  |box cs=>exact .inr ⟨cs,rfl,rfl⟩
  |rows e ne l=>exact .inl rfl
  |mrows e l=>exact .inl rfl
  |dead=>exact .inl rfl
theorem Ik{tag:Nat}{v:Bool}{N:Nat}:LeB N (aE F ks) (aE F (subst tag v ks)):=λp hp=>by
 rcases nl (F:=F) (ks:=ks) (tag:=tag) (v:=v) (p:=p)with h1|⟨cs,h1,h2⟩
 .rw [h1];exact⟨λe ne l h=>⟨e,ne,l,h,rfl⟩,λe l h=>⟨e,l,h,rfl⟩⟩
 .rw [h2];exact⟨λe ne l h=>by simp at h,λe l h=>by simp at h⟩
theorem xa{B:BK}{tag:Nat}{v:Bool}(hv:V.bo tag=v){c:KC}{x:C}(hr:RC B V c x):RC B V (oh tag v c) x:=by
 cases c with
 |p t P d=>
  show RC B V (cond (Nat.beq t tag) (.b v) (.p t P d)) x
  cases hb:Nat.beq t tag with
  |true=>
   have:=Nat.eq_of_beq_eq_true hb
   subst this;show x=bC v;rw [hr.1,hv]
  |false=>exact hr
 |_=>exact hr
theorem zf{N tag:Nat}{v:Bool}{c:KC}(hs:Sc N c):Sc N (oh tag v c):=by
 cases c with
 |p t P d=>
  show Sc N (cond (Nat.beq t tag) (.b v) (.p t P d))
  cases Nat.beq t tag with
  |true=>trivial
  |false=>exact hs
 |_=>exact hs
theorem oq{B:BK}{tag:Nat}{v:Bool}(hv:V.bo tag=v):∀{cs:List KC} {xs:List C},RCs B V cs xs->RCs B V (cs.map (oh tag v)) xs
 | [],xs,h=>h
 |c::cs,xs,⟨x,s,e,h1,h2⟩=>⟨x,s,e,xa hv h1,oq hv h2⟩
theorem xb{N tag:Nat}{v:Bool}{cs:List KC}(hs:Scs N cs):Scs N (cs.map (oh tag v)):=λc hc=>by
 obtain⟨c0,h1,rfl⟩:=List.mem_map.1 hc;exact zf (hs c0 h1)
theorem zg{tag:Nat}{v:Bool}(hv:V.bo tag=v)(hr:Rel F ks V f h):Rel F (subst tag v ks) V f h/\Ext F ks V (subst tag v ks) V:=by
 have hle:∀N,LeB N (aE F ks) (aE F (subst tag v ks)):=λN=>Ik;refine⟨⟨?_,?_,?_⟩,⟨Nat.le_refl _,Agree.refl _ _,hle _,λp hp hl=>by show az (ks.bl.map λx=>(x.1,Ku tag v x.2)) p=none;rw [rI,hl];rfl⟩⟩
 .intro i d hd;unfold ig bA subst at hd;simp only [rI]at hd
  cases hl:az ks.sl i with
  |none=>
   rw [hl]at hd;obtain⟨g1,g2,g3⟩:=hr.sl i d (by unfold ig bA;rw [hl];exact hd);exact⟨g1,g2,g3.mono g2 (hle _) (Agree.refl _ _)⟩
  |some d0=>
   rw [hl]at hd;cases hd;obtain⟨g1,g2,g3⟩:=hr.sl i d0 (by unfold ig bA;rw [hl]);have g4:=g3.mono g2 (hle _) (Agree.refl _ _)
   cases d0 with
   |one c=>obtain⟨c',e1,e2⟩:=g4;exact⟨g1,zf g2,c',e1,xa hv e2⟩
   |agg cs=>obtain⟨c',e1,e2⟩:=g4;exact⟨g1,xb g2,c',e1,oq hv e2⟩
   |tup ts=>exact⟨g1,g2,g4⟩
 .intro p b hb;rcases nl (F:=F) (ks:=ks) (tag:=tag) (v:=v) (p:=p)with h1|⟨cs,h1,h2⟩
  .rw [h1]at hb;obtain⟨g1,g2,g3⟩:=hr.bl p b hb;exact⟨g1,g2,g3.mono g2 (hle _) (Agree.refl _ _)⟩
  .rw [h2]at hb;cases hb;obtain⟨g1,g2,g3⟩:=hr.bl p _ h1;obtain⟨sz,cs',e1,e2⟩:=g3.mono g2 (hle _) (Agree.refl _ _);exact⟨g1,xb g2,sz,cs',e1,oq hv e2⟩
 .intro p q b b' hp hq tp tq hid
  have key:∀p b,aE F (subst tag v ks) p=some b->b.there->∃b0,aE F ks p=some b0/\b0.there:=by
   intro p b hb ht;rcases nl (F:=F) (ks:=ks) (tag:=tag) (v:=v) (p:=p)with h1|⟨cs,h1,h2⟩
   .exact⟨b,h1▸hb,ht⟩
   .exact⟨_,h1,trivial⟩
  obtain⟨b0,g1,g2⟩:=key p b hp tp;obtain⟨b1,g3,g4⟩:=key q b' hq tq;exact hr.inj p q b0 b1 g1 g3 g2 g4 hid
def Th(F:KF)(ks ks':KS):Prop:=∀p b,aE F ks' p=some b->b.there->∃b0,aE F ks p=some b0/\b0.there
theorem Th.refl(F:KF)(ks:KS):Th F ks ks:=λp b h t=>⟨b,h,t⟩
theorem Th.trans{ks' ks'':KS}(h:Th F ks ks')(h':Th F ks' ks''):Th F ks ks'':=λp b hb ht=>let⟨b0,g1,g2⟩:=h' p b hb ht;h p b0 g1 g2
theorem Th.subst{tag:Nat}{v:Bool}:Th F ks (K.subst tag v ks):=λp b hb ht=>by
 rcases nl (F:=F) (ks:=ks) (tag:=tag) (v:=v) (p:=p)with h1|⟨cs,h1,h2⟩
 .exact⟨b,h1▸hb,ht⟩
 .exact⟨_,h1,trivial⟩
theorem Bh{κ:Bool->KS->Option R}{c:KC}{c':C}(hr:Rel F ks V f h)(hc:RC (aE F ks) V c c')(hs:kIf c ks κ=some r):∃b ks',κ b ks'=some r/\c'=bC b/\Rel F ks' V f h/\Ext F ks V ks' V/\Th F ks ks':=by
 unfold kIf at hs;split at hs
 .exact⟨_,ks,hs,hc,hr,Ext.refl _ _ _,Th.refl _ _⟩
 .rename_i tag P d;by_cases hP:P
  .rw [if_pos hP]at hs;have hb:V.bo tag=true:=by rw [hc.2,decide_eq_true hP]
   obtain⟨g1,g2⟩:=zg hb hr;exact⟨true,_,hs,by rw [hc.1,hb],g1,g2,Th.subst⟩
  .rw [if_neg hP]at hs;have hb:V.bo tag=false:=by rw [hc.2,decide_eq_false hP]
   obtain⟨g1,g2⟩:=zg hb hr;exact⟨false,_,hs,by rw [hc.1,hb],g1,g2,Th.subst⟩
 .rename_i x
  cases x with
  |true=>exact⟨true,ks,hs,hc,hr,Ext.refl _ _ _,Th.refl _ _⟩
  |false=>exact⟨false,ks,hs,hc,hr,Ext.refl _ _ _,Th.refl _ _⟩
 .simp at hs
theorem Po{κ:Bool->KS->Option R}{c:KC}{c':C}(hr:Rel F ks V f h)(hc:RC (aE F ks) V c c')(hs:kIf c ks κ=some r):∃b ks',κ b ks'=some r/\c'=bC b/\Rel F ks' V f h/\Ext F ks V ks' V:=let⟨b,ks',h1,h2,h3,h4,_⟩:=Bh hr hc hs;⟨b,ks',h1,h2,h3,h4⟩
theorem zh{κ:Bool->KS->Option R}{ops:Array Oper}{o:Oper}(hr:Rel F ks V f h)(hs:yS F ops.toList o ks κ=some r):∃b ks',κ b ks'=some r/\dn ops o F.nt f=some b/\jU F o.dst=true/\Rel F ks' V f h/\Ext F ks V ks' V/\Th F ks ks':=by
 unfold yS at hs
 cases hd:jU F o.dst with
 |false=>rw [hd]at hs;simp at hs
 |true=>
  rw [hd]at hs;simp only [cond_true]at hs;split at hs
  .rename_i hg;exact⟨true,ks,hs,by unfold dn;rw [hg],rfl,hr,Ext.refl _ _ _,Th.refl _ _⟩
  .rename_i j w hg;split at hs
   .rename_i d hdd
    have hov:∀x,ig F ks d=some x->ov F.nt f (.tmp d)=some (f d):=λx hx=>by
     show cond (Nat.blt d F.nt) (some (f d)) none=_;rw [Ff (hr.sl d x hx).1];rfl
    split at hs
    .rename_i c hx;obtain⟨c',e1,e2⟩:=(hr.sl d _ hx).2.2;obtain⟨b,ks',g1,rfl,g3,g4⟩:=Bh hr e2 hs;refine⟨b==w,ks',g1,?_,rfl,g3,g4⟩;unfold dn;rw [hg];simp only [hdd,hov _ hx,e1];rfl
    .rename_i hx;obtain⟨ds,e1,e2⟩:=(hr.sl d _ hx).2.2;refine⟨false,ks,hs,?_,rfl,hr,Ext.refl _ _ _,Th.refl _ _⟩;unfold dn;rw [hg];simp only [hdd,hov _ hx,e1,show ds= []from e2];rfl
    .simp at hs
   .simp at hs
theorem Dj{κ:Bool->KS->Option R}{ops:Array Oper}{o:Oper}(hr:Rel F ks V f h)(hs:yS F ops.toList o ks κ=some r):∃b ks',κ b ks'=some r/\dn ops o F.nt f=some b/\jU F o.dst=true/\Rel F ks' V f h/\Ext F ks V ks' V:=let⟨b,ks',h1,h2,h3,h4,h5,_⟩:=zh hr hs;⟨b,ks',h1,h2,h3,h4,h5⟩
theorem zi{κ:Op->KS->Option R}{op:Op}(hr:Rel F ks V f h)(hs:yR F op ks κ=some r):∃op' ks',κ op' ks'=some r/\(∀nid H,stepG E (cpR E n) none nid op (aU (tab F.nt f)) H=stepG E (cpR E n) none nid op' (aU (tab F.nt f)) H)/\bi op=bi op'/\Rel F ks' V f h/\Ext F ks V ks' V/\Th F ks ks':=by
 unfold yR at hs;split at hs
 .rename_i c a b;split at hs
  .rename_i c0 hc;obtain⟨d,d1,d2,c',rfl,d3⟩:=bX hr hc;obtain⟨t,ks',g1,rfl,g3,g4⟩:=Bh hr d3 hs;refine⟨_,ks',g1,λnid H=> ?_,rfl,g3,g4⟩;rw [EH,JP,bV,d1,bV,bV,bV];cases t<;>rfl
  .simp at hs
 .exact⟨op,ks,hs,λ_ _=>rfl,rfl,hr,Ext.refl _ _ _,Th.refl _ _⟩
theorem Dk{κ:Op->KS->Option R}{op:Op}(hr:Rel F ks V f h)(hs:yR F op ks κ=some r):∃op' ks',κ op' ks'=some r/\(∀nid H,stepG E (cpR E n) none nid op (aU (tab F.nt f)) H=stepG E (cpR E n) none nid op' (aU (tab F.nt f)) H)/\bi op=bi op'/\Rel F ks' V f h/\Ext F ks V ks' V:=let⟨b,ks',h1,h2,h3,h4,h5,_⟩:=zi hr hs;⟨b,ks',h1,h2,h3,h4,h5⟩
theorem Dl{ops:Array Oper}{o:Oper}{rr:List Oper}{K:St->Prop}{d nt:Nat}{c:Call}{k:FuncId}{args:List D}{fi:FI}{H:aC}(hw:dn ops o nt f=some true)(hc:bi o.op=some c)(hr:bB c (ov nt f)=some (k,args))(hu:E.ax k=some λ_=>none)(hf:E.fn k=some fi)(hl:args.length<=fi.nt)(hd:o.dst=some d)(hn:Nat.blt d nt=true)
  (h:WpC E nY n fi.body (CU E y (n+1) nt ops rr K f d fi.results) {t:=tab fi.nt (fA args),h:=H}):kp E y (n+1) ops (o::rr) K {t:=tab nt f,h:=H}:=by
 obtain⟨e,s',⟨M,h1⟩,h2,ds,h3,h4⟩:=h;refine mG (s1:={t:=tab nt (up f d (gV ds)),h:=s'.h}) ⟨M,λm hm=> ?_⟩ h4;unfold zx
 have hs:step E (be E y m (n+1)).1 ops H.length o (aU (tab nt f)) H=none:=by
  rw [oL hw hc];unfold iv;rw [dY,hr];simp only [zbB,zbS]
  cases args.mapM (cz H)with
  |none=>rfl
  |some vs=>
   have hn:(be E y m (n+1)).1 k (vs.map (·.2))=none:=by
    show(match E.ax k with
     |some F=>F _
     |none=>_)=none
    rw [hu]
   simp only [zbS,hn];rfl
 simp only;rw [hs];have hev:=h1 m hm
 have hsc:ph (be E y m (n+1)).2 ops o {t:=tab nt f,h:=H}=some {t:=tab nt (up f d (gV ds)),h:=s'.h}:=by
  unfold ph;rw [iE hw];simp only [zbB,zbS,if_true,hc]
  have hr':bB c (opnd (tab nt f))=some (k,args):=by
   show bB c (aS (aU (tab nt f)))=_;rw [dY];exact hr
  rw [hr']
  have hcall:(be E y m (n+1)).2.f k args H=some (gV ds,s'.h):=by
   show((E.fn k).bind λf=>(nu E (aN E m n).1 ⟨(aN E m n).2.1,(aN E m n).2.2,noY⟩ m f args H).bind λx=>some (gV x.1,x.2))=_;rw [hf];simp only [zbS]
   have:nu E (aN E m n).1 ⟨(aN E m n).2.1,(aN E m n).2.2,noY⟩ m fi args H=some (ds,s'.h):=by
    unfold nu;rw [AK hl];simp only [be]at hev;rw [hev];rcases h2 with rfl|rfl<;>simp [h3]
   rw [this];rfl
  simp only [zbS,hcall,hd,mn,kK,ew hn,if_true,nc,gS]
 rw [hsc];rfl
theorem Dm{n0:Nat}{ops:Array Oper}{o:Oper}{rr:List Oper}{K:St->Prop}{d nt:Nat}{c:Call}{k:FuncId}{args:List D}{fi:FI}{H:aC}(hn0:n=n0+1)(hw:dn ops o nt f=some true)(hc:bi o.op=some c)(hr:bB c (ov nt f)=some (k,args))(hu:E.ax k=some λ_=>none)(hf:E.fn k=some fi)(hl:args.length<=fi.nt)(hd:o.dst=some d)(hn:Nat.blt d nt=true)
  (h:WpC E nY n0 fi.body (CU E y n nt ops rr K f d fi.results) {t:=tab fi.nt (fA args),h:=H}):kp E y n ops (o::rr) K {t:=tab nt f,h:=H}:=by
 subst hn0;exact Dl hw hc hr hu hf hl hd hn h
def Post(F:KF)(ks:KS)(V:Vl)(κ:KS->Option R)(r:R)(s:St):Prop:=∃ks' V' f',s.t=tab F.nt f'/\Rel F ks' V' f' s.h/\κ ks'=some r/\Ext F ks V ks' V'
theorem Post.ext{κ:KS->Option R}{ks1:KS}{V1:Vl}{s:St}(he:Ext F ks V ks1 V1)(h:Post F ks1 V1 κ r s):Post F ks V κ r s:=let⟨ks',V',f',h1,h2,h3,h4⟩:=h;⟨ks',V',f',h1,h2,h3,he.trans h4⟩
theorem oT{ops:Array Oper}{l:List Oper}{K K':St->Prop}{s:St}(h:kp E y n ops l K s)(hk:∀s,K s->K' s):kp E y n ops l K' s:=let⟨s',h1,h2⟩:=h;⟨s',h1,hk _ h2⟩
theorem xc{dst:Option Tmp}(hr:Rel F ks V f h)(hd:jU F dst=true):Rel F (yQ dst ks) V (upO dst co f) h/\Ext F ks V (yQ dst ks) V:=by
 refine⟨⟨?_,hr.bl,hr.inj⟩,⟨Nat.le_refl _,Agree.refl _ _,LeB.refl _ _,λp hp hl=>hl⟩⟩;intro i d hd'
 cases dst with
 |none=>exact hr.sl i d hd'
 |some j=>
  have h1:bA ((j,kUn)::ks.sl) F.sl i=some d:=hd';unfold bA at h1;rw [aB]at h1;show i<F.nt/\_/\RD _ _ d (up f j co i);unfold up;by_cases hij:i=j
  .subst hij;rw [if_pos rfl]at h1;cases h1;rw [show Nat.beq i i=true from Nat.beq_refl i];exact⟨by simpa [jU]using hd,(λx hx=>by simp at hx),[],rfl,rfl⟩
  .rw [if_neg hij]at h1;rw [show Nat.beq i j=false by cases hb:Nat.beq i j with|true=>exact absurd (Nat.eq_of_beq_eq_true hb) hij|false=>rfl];exact hr.sl i d h1
theorem Il{ops:Array Oper}{o:Oper}{rr:List Oper}{K:St->Prop}(hw:dn ops o F.nt f=some false)(hd:jU F o.dst=true)(hk:kp E y n ops rr K {t:=tab F.nt (upO o.dst co f),h:=h}):kp E y n ops (o::rr) K {t:=tab F.nt f,h:=h}:=by
 obtain⟨g,g1,g2⟩:=du hw
 cases ho:o.dst with
 |none=>rw [ho]at hk;exact sE g1 ho (iB g2) (jt _) hk
 |some d=>
  rw [ho]at hk hd;exact lq g1 ho (ew (by simpa [jU]using hd)) (iB g2) (jt _) (by rw [gS];exact hk)
theorem MR{ops:Array Oper}{o:Oper}{rr:List Oper}{K:St->Prop}{v:D}{u:List (Nat×Blk)}(hw:dn ops o F.nt f=some true)(hd:jU F o.dst=true)(hs:stepG E (cpR E n) none h.length o.op (aU (tab F.nt f)) h=some ⟨v,u⟩)(hk:kp E y n ops rr K {t:=tab F.nt (upO o.dst v f),h:=Ev.apply h u}):kp E y n ops (o::rr) K {t:=tab F.nt f,h:=h}:=by
 obtain⟨g,g1,g2⟩:=du hw
 cases ho:o.dst with
 |none=>rw [ho]at hk;exact sE g1 ho ((eF g2).trans hs) rfl hk
 |some d=>
  rw [ho]at hk hd;exact lq g1 ho (ew (by simpa [jU]using hd)) ((eF g2).trans hs) rfl (by rw [gS];exact hk)
theorem xd:aJ h h.length=none:=by
 unfold aJ;rw [List.getElem?_eq_none (Nat.le_refl _)]
theorem rJ(hG:GOk G E D0)(hD:D0<=n){call:yT}(hcall:Fl E n call){ops:Array Oper}{κ:KS->Option R}:∀(l:List Oper) {ks:KS} {V:Vl} {f:Nat->D} {h:aC},yd G call F ops.toList κ l ks=some r->Rel F ks V f h->kp E y n ops l (Post F ks V κ r) {t:=tab F.nt f,h:=h}
 | [],ks,V,f,h,hs,hr=>CJ ⟨ks,V,f,rfl,hr,hs,Ext.refl _ _ _⟩
 |o::l,ks,V,f,h,hs,hr=>by
  unfold yd at hs;obtain⟨b,ks1,g1,g2,g3,g4,g5⟩:=Dj hr hs
  cases b with
  |false=>
   simp only [cond_false]at g1;obtain⟨k1,k2⟩:=xc g4 g3;exact Il g2 g3 (oT (rJ hG hD hcall l g1 k1) λs hs=>hs.ext (g5.trans k2))
  |true=>
   simp only [cond_true]at g1;obtain⟨op',ks2,k1,k2,k3,k4,k5⟩:=Dk (E:=E) (n:=n) g4 g1;split at k1
   ·-- followed
    rename_i k args hfol;split at k1
    .rename_i d hd;unfold wH at hfol;split at hfol
     .rename_i c;split at hfol
      .simp at hfol
      .rename_i hcal;split at hfol
       .rename_i k' args' hres;split at hfol
        .rename_i fi0 hfi;simp only [zsI,Prod.mk.injEq]at hfol;obtain⟨rfl,rfl⟩:=hfol;obtain⟨zas,r1,r2,r3⟩:=rG k4 hres;obtain⟨n0,fi,hn0,e1,e2,e3,e4⟩:=hcall R F k' args' ks2 _ r V h zas k1 k4.b r2 r3;have hdn:Nat.blt d F.nt=true:=by rw [hd]at g3;simpa [jU]using g3
         refine Dm hn0 g2 (k3.trans (ze hcal)) r1 e2 e1 e3 hd hdn (e4.mono λe s hs=> ?_);obtain⟨q1,ds,q2,ks',V',v,q3,q4,q5,q6,q7⟩:=hs;refine⟨q1,ds,q2,?_⟩
         have hrel:Rel F {ks' with sl:=(d,v)::ks2.sl} V' (up f d (gV ds)) s.h:=by
          refine⟨?_,q6.bl,q6.inj⟩;intro i x hx;have h1:bA ((d,v)::ks2.sl) F.sl i=some x:=hx;unfold bA at h1;rw [aB]at h1;unfold up;by_cases hij:i=d
          .subst hij;rw [if_pos rfl]at h1;cases h1;rw [show Nat.beq i i=true from Nat.beq_refl i];exact⟨by simpa using hdn,q4,q5⟩
          .rw [if_neg hij]at h1;rw [show Nat.beq i d=false by cases hb:Nat.beq i d with|true=>exact absurd (Nat.eq_of_beq_eq_true hb) hij|false=>rfl];obtain⟨w1,w2,w3⟩:=k4.sl i x h1;exact⟨w1,w2.mono q7.nx,w3.mono w2 q7.le q7.agree⟩
         exact oT (rJ hG hD hcall l q3 hrel) λs hs=>hs.ext (g5.trans (k5.trans (q7.trans (show Ext F ks' V' {ks' with sl:=(d,v)::ks2.sl} V' from⟨Nat.le_refl _,Agree.refl _ _,LeB.refl _ _,λp hp hl=>hl⟩))))
        .simp at hfol
       .simp at hfol
     .simp at hfol
    .simp at k1
   .obtain⟨e,e1,e2⟩:=wW (M:=ks2.nx+2) hG hD k4 (Nat.le_refl _) (Nat.le_succ _) (by omega) (by omega) k1;obtain⟨bo,hrun⟩:=e2.run;obtain⟨v,u,s1,s2,s3⟩:=hrun h.length;obtain⟨w1,w2⟩:=wY (M:=ks2.nx+2) k4 (Nat.le_refl _) (Nat.le_succ _) (by omega) (by omega) g3 e2.upd e2.new e2.sc s2 s3 (λ_=>xd) (qp u h (wZ k4 e2.upd s3 xd));exact MR g2 g3 ((k2 _ _).trans s1) (oT (rJ hG hD hcall l e1 w1) λs hs=>hs.ext (g5.trans (k5.trans w2)))
theorem oU(hG:GOk G E D0)(hD:D0<=n){ops:Array Oper}{κ:KS->Option R}{b:Nat}:∀(l:List Oper) (i:Nat) {ks:KS} {V:Vl} {f:Nat->D},ol G F ops.toList κ l ks=some r->Rel F ks V f h->cH (λt=>Post F ks V κ r {t,h}) (evR E (cpR E n) ops h b i l (tab F.nt f))
 | [],i,ks,V,f,hs,hr=>⟨ks,V,f,rfl,hr,hs,Ext.refl _ _ _⟩
 |o::l,i,ks,V,f,hs,hr=>by
  unfold ol at hs;obtain⟨bb,ks1,g1,g2,g3,g4,g5⟩:=Dj hr hs;obtain⟨g,gg1,gg2⟩:=du g2
  cases bb with
  |false=>
   simp only [cond_false]at g1;obtain⟨k1,k2⟩:=xc g4 g3;have ih:=oU (b:=b) hG hD l (i+1) g1 k1
   have ih':cH (λt=>Post F ks V κ r {t,h}) (evR E (cpR E n) ops h b (i+1) l (tab F.nt (upO o.dst co f))):=by
    revert ih
    cases evR E (cpR E n) ops h b (i+1) l (tab F.nt (upO o.dst co f))with
    |none=>exact id
    |some t=>exact λhp=>hp.ext (g5.trans k2)
   cases ho:o.dst with
   |none=>rw [ho]at ih';exact JM gg1 ho (iB gg2) ih'
   |some d=>
    rw [ho]at ih' g3;exact FY gg1 ho (ew (by simpa [jU]using g3)) (iB gg2) (by rw [gS];exact ih')
  |true=>
   simp only [cond_true]at g1;obtain⟨op',ks2,k1,k2,k3,k4,k5⟩:=Dk (E:=E) (n:=n) g4 g1;obtain⟨e,e1,e2⟩:=wW (M:=ks2.nx+2) hG hD k4 (Nat.le_refl _) (Nat.le_succ _) (by omega) (by omega) k1;obtain⟨bo,hrun⟩:=e2.run;obtain⟨v,u,s1,s2,s3⟩:=hrun (b+i);split at e1
   .rename_i hu hn
    have hu0:u= []:=by
     obtain⟨uo,un,h1,h2,h3⟩:=s3;rw [hu]at h2;rw [hn]at h3;rw [h1,show uo= []from h2,show un= []from h3];rfl
    subst hu0
    -- nothing is made:any new number serves
    obtain⟨v',u',t1,t2,t3⟩:=hrun h.length
    have hu1:u'= []:=by
     obtain⟨uo,un,h1,h2,h3⟩:=t3;rw [hu]at h2;rw [hn]at h3;rw [h1,show uo= []from h2,show un= []from h3];rfl
    subst hu1;obtain⟨w1,w2⟩:=wY (M:=ks2.nx+2) k4 (Nat.le_refl _) (Nat.le_succ _) (by omega) (by omega) g3 e2.upd e2.new e2.sc (k:=b+i) s2 s3 (h:=h) (h':=h) (λ⟨b,hb⟩=>by rw [hn]at hb;simp at hb) ⟨λq _=>rfl,λx hx=>by simp at hx⟩;have ih:=oU (b:=b) hG hD l (i+1) e1 w1
    have ih':cH (λt=>Post F ks V κ r {t,h}) (evR E (cpR E n) ops h b (i+1) l (tab F.nt (upO o.dst v f))):=by
     revert ih
     cases evR E (cpR E n) ops h b (i+1) l (tab F.nt (upO o.dst v f))with
     |none=>exact id
     |some t=>exact λhp=>hp.ext (g5.trans (k5.trans w2))
    have hst:=(eF gg2).trans ((k2 (b+i) h).trans s1)
    cases ho:o.dst with
    |none=>rw [ho]at ih';exact JM gg1 ho hst ih'
    |some d=>
     rw [ho]at ih' g3;exact FY gg1 ho (ew (by simpa [jU]using g3)) hst (by rw [gS];exact ih')
   .simp at e1
end
end K
end Ev
end
noncomputable section
namespace Ev
namespace K
open Go Go.RowKit
def RdC(ks:KS):(h:Sh)->KC->h.T->Prop
 | .d fr t,c,x=>(fr=true->frC c=true)/\ng noB t c=some x
 | .o e,c,l=>∃e' p ne,c= .o e' p/\az ks.bl p=some (.rows e ne l)
 | .w e,c,l=>∃e' p ne,c= .o e' p/\az ks.bl p=some (.rows e ne l)
 | .m e,c,l=>(c= .nil/\l= [])∨(∃e' p,c= .m e' p/\az ks.bl p=some (.mrows e l))∨∃e' p ne,c= .o e' p/\az ks.bl p=some (.rows e ne l)/\l≠[]
def RdCs(ks:KS):(hs:List Sh)->List KC->dR hs->Prop
 | [],cs,_=>cs= []
 | [h],cs,x=>∃c,cs= [c]/\RdC ks h c x
 |h::h'::r,cs,x=>∃c s,cs=c::s/\RdC ks h c x.1/\RdCs ks (h'::r) s x.2
section
variable {ks : KS} {R : Type} {r : R}
theorem Do(hne:∀p e ne l,az ks.bl p=some (.rows e ne l)->ne=true->l≠[]){h:Sh}{c:KC}{κ:h.T->Option R}(hs:yU ks h c κ=some r):∃x,κ x=some r/\RdC ks h c x:=by
 unfold yU at hs;split at hs
 .rename_i fr t _ κ;split at hs
  .simp at hs
  .rename_i hc;rw [zbE]at hs;obtain⟨x,h1,h2⟩:=hs;exact⟨x,h2,λhf=>by cases hb:frC c with|true=>rfl|false=>exact absurd ⟨hf,hb⟩ hc,h1⟩
 .rename_i e e1 p _ κ;split at hs
  .rename_i e' ne l hp;rw [zbE]at hs;obtain⟨l2,h1,h2⟩:=hs;obtain⟨he,h1⟩:=bP h1;cases he;subst h1;exact⟨_,h2,_,_,_,rfl,hp⟩
  .simp at hs
 .rename_i e e1 p _ κ;split at hs
  .rename_i e' ne l hp;rw [zbE]at hs;obtain⟨l2,h1,h2⟩:=hs;obtain⟨he,h1⟩:=bP h1;cases he;subst h1;exact⟨_,h2,_,_,_,rfl,hp⟩
  .simp at hs
 .exact⟨_,hs,.inl ⟨rfl,rfl⟩⟩
 .rename_i e e1 p _ κ;split at hs
  .rename_i e' l hp;rw [zbE]at hs;obtain⟨l2,h1,h2⟩:=hs;obtain⟨he,h1⟩:=bP h1;cases he;subst h1;exact⟨_,h2,.inr (.inl ⟨_,_,rfl,hp⟩)⟩
  .simp at hs
 .rename_i e e1 p _ κ;split at hs
  .rename_i e' ne l hp;rw [zbE]at hs;obtain⟨l2,h1,h2⟩:=hs;obtain⟨he,h1⟩:=bP h1;cases he;subst h1
   cases ne with
   |true=>exact⟨_,h2,.inr (.inr ⟨_,_,true,rfl,hp,hne _ _ _ _ hp rfl⟩)⟩
   |false=>
    simp only [cond_false,zbE]at h2;obtain⟨u,h3,h4⟩:=h2;refine⟨_,h4,.inr (.inr ⟨_,_,false,rfl,hp,?_⟩)⟩;intro he;change neL l=some u at h3;rw [he]at h3;simp [neL]at h3
  .simp at hs
 .simp at hs
theorem zj(hne:∀p e ne l,az ks.bl p=some (.rows e ne l)->ne=true->l≠[]):∀{hs:List Sh} {cs:List KC} {R:Type} {r:R} {κ:dR hs->Option R},nh ks hs cs κ=some r->∃x,κ x=some r/\RdCs ks hs cs x
 | [],[],R,r,κ,h=>⟨(),h,rfl⟩
 | [h],[c],R,r,κ,hs=>by
  obtain⟨x,h1,h2⟩:=Do hne (show yU ks h c κ=some r from hs);exact⟨x,h1,c,rfl,h2⟩
 |h::h'::t,c::cs,R,r,κ,hs=>by
  obtain⟨x,h1,h2⟩:=Do hne (show yU ks h c (λx=>nh ks (h'::t) cs λy=>κ (x,y))=some r from hs);obtain⟨y,h3,h4⟩:=zj hne h1;exact⟨(x,y),h3,c,cs,rfl,h2,h4⟩
 | [],_::_,_,_,_,h=>by simp [nh]at h
 | [_],[],_,_,_,h=>by simp [nh]at h
 | [_],_::_::_,_,_,_,h=>by simp [nh]at h
 |_::_::_,[],_,_,_,h=>by simp [nh]at h
theorem RdCs.len:∀{hs:List Sh} {cs:List KC} {x:dR hs},RdCs ks hs cs x->cs.length=hs.length
 | [],cs,x,h=>by rw [show cs= []from h];rfl
 | [h],cs,x,⟨c,e,_⟩=>by rw [e];rfl
 |h::h'::r,cs,x,⟨c,s,e,_,h2⟩=>by rw [e,List.length_cons,h2.len];rfl
end
def il:KC->Option Nat
 | .o _ p=>some p
 | .m _ p=>some p
 |_=>none
theorem lv:∀{cs:List KC} {j p:Nat} {c:KC},cs[j]? =some c->il c=some p->p∈cr cs
 | [],j,p,c,h,_=>by simp at h
 |a::cs,0,p,c,h,h2=>by
  simp at h;subst h;cases a<;>simp [il]at h2<;>subst h2<;>simp [cr]
 |a::cs,j+1,p,c,h,h2=>by
  have:=lv (cs:=cs) (by simpa using h) h2
  cases a<;>simp [cr,this]
theorem qq:∀{cs:List KC} {i j p:Nat} {c d:KC},kz (cr cs)=true->cs[i]? =some c->cs[j]? =some d->il c=some p->il d=some p->i=j
 | [],i,j,p,c,d,_,h,_,_,_=>by simp at h
 |a::cs,0,0,p,c,d,_,_,_,_,_=>rfl
 |a::cs,i+1,j+1,p,c,d,hn,h1,h2,h3,h4=>by
  have:kz (cr cs)=true:=by
   cases a<;>simp only [cr,kz,Bool.and_eq_true]at hn<;>first|exact hn|exact hn.2
  have hh:=qq (i:=i) (j:=j) this (by simpa using h1) (by simpa using h2) h3 h4;rw [hh]
 |a::cs,0,j+1,p,c,d,hn,h1,h2,h3,h4=>by
  have hm:=lv (cs:=cs) (j:=j) (by simpa using h2) h4;simp at h1;subst h1
  have key:∀q,il a=some q->cr (a::cs)=q::cr cs:=by
   intro q hq;cases a<;>simp [il]at hq<;>subst hq<;>rfl
  rw [key p h3]at hn;simp only [kz,Bool.and_eq_true,Bool.not_eq_true',List.any_eq_false]at hn;exact absurd (Nat.beq_refl p) (by simpa using hn.1 p hm)
 |a::cs,i+1,0,p,c,d,hn,h1,h2,h3,h4=>by
  have hm:=lv (cs:=cs) (j:=i) (by simpa using h1) h3;simp at h2;subst h2
  have key:∀q,il a=some q->cr (a::cs)=q::cr cs:=by
   intro q hq;cases a<;>simp [il]at hq<;>subst hq<;>rfl
  rw [key p h4]at hn;simp only [kz,Bool.and_eq_true,Bool.not_eq_true',List.any_eq_false]at hn;exact absurd (Nat.beq_refl p) (by simpa using hn.1 p hm)
def hid(V:Vl)(c:KC):Nat:=
 match il c with
 |some p=>V.id p
 |none=>0
def hbo:(h:Sh)->h.T->Bool
 | .d _ .B,x=>x
 |_,_=>false
def Fm:(hs:List Sh)->dR hs->List Bool
 | [],_=> []
 | [h],x=> [hbo h x]
 |h::h'::r,x=>hbo h x.1::Fm (h'::r) x.2
def mkV(V:Vl)(N:Nat)(cs:List KC)(bs:List Bool):Vl:=⟨λq=>if q<N then V.id q else match cs[q - N]? with
 |some c=>hid V c
 |none=>0,λq=>if q<N then V.bo q else bs.getD (q - N) false⟩
theorem Im{V:Vl}{N:Nat}{cs:List KC}{bs:List Bool}:Agree N V (mkV V N cs bs):=λq hq=>⟨if_pos hq,if_pos hq⟩
theorem KZ{V:Vl}{N j:Nat}{cs:List KC}{bs:List Bool}{c:KC}(h:cs[j]? =some c):(mkV V N cs bs).id (N+j)=hid V c:=by
 show(if N+j<N then V.id (N+j)else _)=_;rw [if_neg (by omega),Nat.add_sub_cancel_left,h]
theorem Pp{V:Vl}{N j:Nat}{cs:List KC}{bs:List Bool}{b:Bool}(h:bs[j]? =some b):(mkV V N cs bs).bo (N+j)=b:=by
 show(if N+j<N then V.bo (N+j)else _)=_;rw [if_neg (by omega),Nat.add_sub_cancel_left,List.getD_eq_getElem?_getD,h];rfl
def TrL(Ba:BK)(Va:Vl)(Bb:BK)(Vb:Vl)(M:Nat):List KC->List KC->Prop
 | [],ws=>ws= []
 |c::cs,ws=>∃w s,ws=w::s/\(∀x,RC Ba Va c x->RC Bb Vb w x)/\Sc M w/\TrL Ba Va Bb Vb M cs s
section
variable {Ba Bb : BK} {Va Vb : Vl} {M : Nat}
theorem TrL.rcs:∀{cs ws:List KC} {xs:List C},TrL Ba Va Bb Vb M cs ws->RCs Ba Va cs xs->RCs Bb Vb ws xs
 | [],ws,xs,h,hr=>by rw [show ws= []from h];exact hr
 |c::cs,ws,xs,⟨w,s,e,h1,_,h2⟩,⟨x,t,e2,h3,h4⟩=>by
  subst e;exact⟨x,t,e2,h1 x h3,TrL.rcs h2 h4⟩
theorem TrL.scs:∀{cs ws:List KC},TrL Ba Va Bb Vb M cs ws->Scs M ws
 | [],ws,h=>by rw [show ws= []from h];exact λc hc=>by simp at hc
 |c::cs,ws,⟨w,s,e,_,h1,h2⟩=>by
  subst e
  exact λd hd=>by
   rcases List.mem_cons.1 hd with rfl|hd
   .exact h1
   .exact TrL.scs h2 d hd
theorem TrL.take:∀{a b ws:List KC},TrL Ba Va Bb Vb M (a++b) ws->TrL Ba Va Bb Vb M a (ws.take a.length)
 | [],b,ws,h=>rfl
 |c::a,b,ws,⟨w,s,e,h1,h2,h3⟩=>by subst e;exact⟨w,_,rfl,h1,h2,TrL.take h3⟩
theorem TrL.drop:∀{a b ws:List KC},TrL Ba Va Bb Vb M (a++b) ws->TrL Ba Va Bb Vb M b (ws.drop a.length)
 | [],b,ws,h=>h
 |c::a,b,ws,⟨w,s,e,h1,h2,h3⟩=>by subst e;exact TrL.drop (a:=a) h3
theorem xe{ka:KS}{F:KF}{q:Nat}{h:Sh}{c:KC}{x:h.T}(hrd:RdC ka h c x)(hBa:Ba=aE F ka)(hid':Vb.id q=hid Va c)(hbo':Vb.bo q=hbo h x)(hB:∀b,(q,b)∈(cl q h x).2->Bb q=some b)(hw:∀e,h= .w e->∀b,Bb q≠some b)(hq:q<M):(∀y,RC Ba Va c y->RC Bb Vb (cl q h x).1 y)/\Sc M (cl q h x).1:=by
 subst hBa
 cases h with
 |d fr t=>
  obtain⟨h1,h2⟩:=hrd
  cases t with
  |B=>
   refine⟨λy hy=> ?_,trivial⟩
   have hy2:y=bC x:=by
    have h3:frC c=true:=by
     cases c<;>first|rfl|(simp [ng]at h2)
    have:=qj h2 h3 hy
    simpa [Ty.row,pC,bT,bC]using this
   exact hy2
  |I k=>
   refine⟨λy hy=> ?_,trivial⟩
   have h3:frC c=true:=by
    cases c<;>first|rfl|(simp [ng]at h2)
   have:=qj h2 h3 hy
   show y=iC k x;simpa [Ty.row,pC,iT,iC]using this
  |S e=>
   refine⟨λy hy=> ?_,trivial⟩;show∃f,y= .p f (Sl.t e.row x)/\(fr=true->f=true)
   cases c with
   |nil=>
    have:=Option.some.inj (show some (⟨false,0,[]⟩:Sl e.val)=some x from h2)
    subst this;exact⟨true,hy,λ_=>rfl⟩
   |s e' fr' z=>
    obtain⟨he,h3⟩:=bP (show ie (.S e') (.S e) z=some x from h2);cases he;subst h3;obtain⟨f,g1,g2⟩:=hy;exact⟨f,g1,λhf=>g2 (h1 hf)⟩
   |o e' p=>simp [ng,noB]at h2
   |m e' p=>simp [ng,noB]at h2
   |_=>simp [ng]at h2
  |U=>cases c<;>simp [ng]at h2
  |C a b=>cases c<;>simp [ng]at h2
 |o e=>
  obtain⟨e',p,ne,rfl,h2⟩:=hrd;refine⟨λy hy=> ?_,hq⟩;intro e2 ne2 l2 hl;rw [hB (.rows e false x) (by simp [cl])]at hl;simp only [zsI,KB.rows.injEq]at hl;obtain⟨rfl,_,hl⟩:=hl;rw [<-eq_of_heq hl,hid'];exact hy _ _ _ (aA h2 (by simp))
 |w e=>exact⟨λy hy e2 ne2 l2 hl=>absurd hl (hw e rfl _),hq⟩
 |m e=>
  refine⟨λy hy=> ?_,hq⟩;intro e2 l2 hl;rw [hB (.mrows e x) (by simp [cl])]at hl;simp only [zsI,KB.mrows.injEq]at hl;obtain⟨rfl,hl⟩:=hl;rw [<-eq_of_heq hl,hid'];rcases hrd with⟨rfl,h2⟩|⟨e',p,rfl,h2⟩|⟨e',p,ne,rfl,h2,h3⟩
  .change x= []at h2;rw [h2];exact hy
  .exact hy _ _ (aA h2 (by simp))
  .have h4:=hy _ _ _ (aA (F:=F) h2 (by simp));rw [h4];change x≠[]at h3;show _=moC x (hid Va (.o e' p))
   cases hx:x with
   |nil=>exact absurd hx h3
   |cons a l=>rfl
theorem tP{ka:KS}{F:KF}(hBa:Ba=aE F ka):∀{hs:List Sh} {cs:List KC} {x:dR hs} (q:Nat),RdCs ka hs cs x->(∀j c,cs[j]? =some c->Vb.id (q+j)=hid Va c)->(∀j b,(Fm hs x)[j]? =some b->Vb.bo (q+j)=b)->(∀p b,(p,b)∈(aZ hs x q).flatMap (·.2)->Bb p=some b)->(∀(j:Nat) e,hs[j]? =some (.w e)->∀b,Bb (q+j)≠some b)->q+hs.length<=M->TrL Ba Va Bb Vb M cs ((aZ hs x q).map (·.1))
 | [],cs,x,q,hrd,h1,h2,h3,h5,h4=>by rw [show cs= []from hrd];exact rfl
 | [h],cs,x,q,⟨c,e,hrd⟩,h1,h2,h3,h5,h4=>by
  subst e;obtain⟨g1,g2⟩:=xe (Bb:=Bb) (Vb:=Vb) (M:=M) hrd hBa (by simpa using h1 0 c rfl) (by simpa using h2 0 (hbo h x) rfl) (λb hb=>h3 q b (by simpa [aZ]using hb)) (λe he b=>by have:=h5 0 e (by rw [he];rfl) b;simpa using this) (by simp at h4;omega);exact⟨_,[],rfl,g1,g2,rfl⟩
 |h::h'::r,cs,x,q,⟨c,s,e,hrd,hrd2⟩,h1,h2,h3,h5,h4=>by
  subst e;simp only [List.length_cons]at h4;obtain⟨g1,g2⟩:=xe (Bb:=Bb) (Vb:=Vb) (M:=M) hrd hBa (by simpa using h1 0 c rfl) (by simpa using h2 0 (hbo h x.1) rfl) (λb hb=>h3 q b (by simp only [aZ,List.flatMap_cons,List.mem_append];exact .inl hb)) (λe he b=>by have:=h5 0 e (by rw [he];rfl) b;simpa using this) (by omega);refine⟨_,_,rfl,g1,g2,tP hBa (q+1) hrd2 (λj c hc=> ?_) (λj b hb=> ?_) (λp b hb=>h3 p b (by simp only [aZ,List.flatMap_cons,List.mem_append];exact .inr hb)) (λj e he b=>by rw [show q+1+j=q+(j+1)by omega];exact h5 (j+1) e (by simpa using he) b) (by simp only [List.length_cons];omega)⟩
  .rw [show q+1+j=q+(j+1)by omega];exact h1 (j+1) c (by simpa using hc)
  .rw [show q+1+j=q+(j+1)by omega];exact h2 (j+1) b (by simpa [Fm]using hb)
end
theorem lw{q p:Nat}{h:Sh}{x:h.T}{b:KB}(hb:(p,b)∈(cl q h x).2):p=q/\(cl q h x).2= [(q,b)]:=by
 cases h with
 |d fr t=>cases t<;>simp [cl]at hb
 |o e=>simp only [cl,List.mem_singleton,Prod.mk.injEq]at hb;obtain⟨rfl,rfl⟩:=hb;exact⟨rfl,rfl⟩
 |w e=>simp [cl]at hb
 |m e=>simp only [cl,List.mem_singleton,Prod.mk.injEq]at hb;obtain⟨rfl,rfl⟩:=hb;exact⟨rfl,rfl⟩
theorem mM{ka:KS}:∀{hs:List Sh} {cs:List KC} {x:dR hs} {q p:Nat} {b:KB},RdCs ka hs cs x->(p,b)∈(aZ hs x q).flatMap (·.2)->∃(j:Nat) (c:KC) (h:Sh) (y:h.T),p=q+j/\(j<hs.length/\hs[j]? =some h)/\cs[j]? =some c/\RdC ka h c y/\(cl p h y).2= [(p,b)]
 | [],cs,x,q,p,b,hrd,hb=>by simp [aZ]at hb
 | [h],cs,x,q,p,b,⟨c,e,hrd⟩,hb=>by
  subst e;obtain⟨rfl,h2⟩:=lw (show(p,b)∈(cl q h x).2 by simpa [aZ]using hb);exact⟨0,c,h,x,rfl,⟨by simp,rfl⟩,rfl,hrd,h2⟩
 |h::h'::r,cs,x,q,p,b,⟨c,s,e,hrd,hrd2⟩,hb=>by
  subst e;simp only [aZ,List.flatMap_cons,List.mem_append]at hb;rcases hb with hb|hb
  .obtain⟨rfl,h2⟩:=lw hb;exact⟨0,c,h,x.1,rfl,⟨by simp,rfl⟩,rfl,hrd,h2⟩
  .obtain⟨j,c',h2,y,rfl,⟨g1,g0⟩,g2,g3,g4⟩:=mM hrd2 hb;exact⟨j+1,c',h2,y,by omega,⟨by simp only [List.length_cons]at g1 ⊢;omega,by simpa using g0⟩,by simpa using g2,g3,g4⟩
theorem Gx{ks:KS}:∀{hs:List Sh} {cs:List KC} {x:dR hs} {j:Nat} {c:KC} {e:Ty},RdCs ks hs cs x->cs[j]? =some c->hs[j]? =some (.w e)->∃e' p ne l,c= .o e' p/\az ks.bl p=some (.rows e ne l)/\(wCs hs x)[j]? =some (.rows e false l)
 | [],cs,x,j,c,e,hrd,hc,hh=>by simp at hh
 | [h],cs,x,j,c,e,⟨c',e1,hrd⟩,hc,hh=>by
  subst e1
  cases j with
  |succ j=>simp at hc
  |zero=>
   simp at hc hh;subst hc hh;obtain⟨e',p,ne,rfl,h2⟩:=hrd;exact⟨e',p,ne,x,rfl,h2,rfl⟩
 |h::h'::r,cs,x,j,c,e,⟨c',s,e1,hrd,hrd2⟩,hc,hh=>by
  subst e1
  cases j with
  |succ j=>
   obtain⟨e',p,ne,l,h1,h2,h3⟩:=Gx hrd2 (by simpa using hc) (by simpa using hh);exact⟨e',p,ne,l,h1,h2,by simpa [wCs]using h3⟩
  |zero=>
   simp at hc hh;subst hc hh;obtain⟨e',p,ne,rfl,h2⟩:=hrd;exact⟨e',p,ne,x.1,rfl,h2,rfl⟩
theorem jW{α:Type}:∀{l:List (Nat×α)} {i:Nat} {a:α},az l i=some a->(i,a)∈l
 | [],i,a,h=>by simp [az]at h
 |x::l,i,a,h=>by
  rw [show x::l=(x.1,x.2)::l from rfl,aB]at h;split at h
  .rename_i hi;cases h;subst hi;exact List.mem_cons_self
  .exact List.mem_cons_of_mem _ (jW h)
end K
end Ev
end
noncomputable section
namespace Ev
namespace K
open Go Go.RowKit
section
variable {Fa Fb : KF} {ka kb : KS} {Va Vb : Vl} {f : Nat → D} {h : aC} {M N0 : Nat} {Bb : BK}
theorem lx:∀{vs:List (Nat×Bool×List Sh)} {a:List KC},om Fa ka vs=some a->a.length=kM vs
 | [],a,ha=>by
  have:=Option.some.inj (show some []=some a from ha)
  subst this;rfl
 |v::r,a,ha=>by
  unfold om at ha;have hl:kM (v::r)=v.2.2.length+kM r:=by unfold kM;rw [List.flatMap_cons,List.length_append]
  split at ha
  .split at ha
   .simp at ha
   .split at ha
    .rename_i h1;rw [Option.map_eq_some_iff]at ha;obtain⟨a',g1,rfl⟩:=ha;rw [List.length_cons,lx g1,hl,h1];omega
    .simp at ha
  .split at ha
   .split at ha
    .rename_i h1;rw [Option.map_eq_some_iff]at ha;obtain⟨a',g1,rfl⟩:=ha;rw [List.length_append,lx g1,hl,h1]
    .simp at ha
   .simp at ha
  .simp at ha
theorem sR(hr:Rel Fa ka Va f h):∀{vs:List (Nat×Bool×List Sh)} {a b wc:List KC},om Fa ka vs=some a->TrL (aE Fa ka) Va Bb Vb M (a++b) wc->∀i d,az (jw vs wc) i=some d->i<Fa.nt/\ScD M d/\RD Bb Vb d (f i)
 | [],a,b,wc,ha,hT,i,d,hd=>by simp [jw,az]at hd
 |v::r,a,b,wc,ha,hT,i,d,hd=>by
  unfold om at ha;unfold jw at hd;rw [aB]at hd;split at ha
  .rename_i c hc;obtain⟨s1,s2,c',s3,s4⟩:=hr.sl _ _ hc;split at ha
   .simp at ha
   .rename_i hag;split at ha
    .rename_i h1;rw [Option.map_eq_some_iff]at ha;obtain⟨a',g1,rfl⟩:=ha;obtain⟨w,s,rfl,t1,t2,t3⟩:=hT;rw [h1,if_neg hag]at hd;split at hd
     .rename_i hi;cases hd;subst hi;exact⟨s1,t2,c',s3,t1 _ s4⟩
     .exact sR hr g1 t3 i d hd
    .simp at ha
  .rename_i cs hc;obtain⟨s1,s2,cs',s3,s4⟩:=hr.sl _ _ hc;split at ha
   .rename_i hag;split at ha
    .rename_i h1;rw [Option.map_eq_some_iff]at ha;obtain⟨a',g1,rfl⟩:=ha;rw [List.append_assoc]at hT;have t1:=TrL.take hT;have t2:=TrL.drop hT;rw [h1,if_pos hag]at hd;split at hd
     .rename_i hi;cases hd;subst hi;exact⟨s1,TrL.scs t1,cs',s3,TrL.rcs t1 s4⟩
     .exact sR hr g1 t2 i d hd
    .simp at ha
   .simp at ha
  .simp at ha
theorem zk:∀{bs:List (Nat×List Sh)} {b c wc:List KC},ni Fa ka bs=some b->TrL (aE Fa ka) Va Bb Vb M (b++c) wc->∀p x,az (fY Fa ka bs wc) p=some x->∃v∈bs,eQ Fa ka v.1=some p/\∃cs0 ws,az ka.bl p=some (.box cs0)/\x= .box ws/\Scs M ws/\∀xs,RCs (aE Fa ka) Va cs0 xs->RCs Bb Vb ws xs
 | [],b,c,wc,hb,hT,p,x,hx=>by simp [fY,az]at hx
 |v::r,b,c,wc,hb,hT,p,x,hx=>by
  unfold ni at hb;unfold fY at hx
  cases hp:eQ Fa ka v.1 with
  |none=>rw [hp]at hb;simp at hb
  |some q=>
   rw [hp]at hb hx;simp only [zbS]at hb;split at hb
   .rename_i cs hcs;split at hb
    .rename_i h1;rw [Option.map_eq_some_iff]at hb;obtain⟨b',g1,rfl⟩:=hb;rw [List.append_assoc]at hT;have t1:=TrL.take hT;have t2:=TrL.drop hT;simp only [h1]at hx;rw [aB]at hx;split at hx
     .rename_i hi;cases hx;subst hi;exact⟨v,by simp,hp,cs,_,hcs,rfl,TrL.scs t1,λxs hxs=>TrL.rcs t1 hxs⟩
     .obtain⟨v',g2,g3⟩:=zk g1 t2 p x hx;exact⟨v',by simp [g2],g3⟩
    .simp at hb
   .simp at hb
theorem jX{F:KF}{ks:KS}:∀{bs:List (Nat×List Sh)} {w:List KC} {p:Nat},(∀v∈bs,eQ F ks v.1≠some p)->az (fY F ks bs w) p=none
 | [],w,p,h=>rfl
 |v::r,w,p,h=>by
  unfold fY
  cases hp:eQ F ks v.1 with
  |none=>exact jX λv' hv=>h v' (by simp [hv])
  |some q=>
   simp only;rw [aB,if_neg (λe=>h v (by simp) (by rw [hp,e]))];exact jX λv' hv=>h v' (by simp [hv])
theorem Fo{F:KF}{ks:KS}:∀{bs:List (Nat×List Sh)} {w:List KC} {p:Nat} {x:KB},az (fY F ks bs w) p=some x->∃v∈bs,eQ F ks v.1=some p:=by
 intro bs w p x h;refine Classical.byContradiction λhn=> ?_;rw [jX λv hv he=>hn ⟨v,hv,he⟩]at h;simp at h
theorem qr:∀{bs:List (Nat×List Sh)} {b:List KC},ni Fa ka bs=some b->b.length=pd bs
 | [],b,hb=>by
  have:=Option.some.inj (show some []=some b from hb)
  subst this;rfl
 |v::r,b,hb=>by
  unfold ni at hb;have hl:pd (v::r)=v.2.length+pd r:=by unfold pd;rw [List.flatMap_cons,List.length_append]
  split at hb
  .split at hb
   .rename_i h1;rw [Option.map_eq_some_iff]at hb;obtain⟨b',g1,rfl⟩:=hb;rw [List.length_append,qr g1,hl,h1]
   .simp at hb
  .simp at hb
theorem qt:∀{ws:List (BR×Ty)} {c:List KC} {j:Nat} {v:BR×Ty},wI Fa ka ws=some c->ws[j]? =some v->∃p,ij Fa ka v.1=some p/\c[j]? =some (.o v.2 p)
 | [],c,j,v,hc,hv=>by simp at hv
 |v0::r,c,j,v,hc,hv=>by
  unfold wI at hc;split at hc
  .rename_i p hp;rw [Option.map_eq_some_iff]at hc;obtain⟨c',g1,rfl⟩:=hc
   cases j with
   |zero=>simp at hv;subst hv;exact⟨p,hp,rfl⟩
   |succ j=>
    obtain⟨q,h1,h2⟩:=qt g1 (j:=j) (by simpa using hv);exact⟨q,h1,by simpa using h2⟩
  .simp at hc
theorem gG{pt:Pt}{cs:List KC}(h:fX Fa ka pt=some cs):∃a b c,om Fa ka pt.vs=some a/\ni Fa ka pt.bs=some b/\wI Fa ka pt.ws=some c/\cs=a++(b++c):=by
 unfold fX at h;rw [zbE]at h;obtain⟨a,ha,h⟩:=h;rw [zbE]at h;obtain⟨b,hb,h⟩:=h;rw [Option.map_eq_some_iff]at h;obtain⟨c,hc,rfl⟩:=h;exact⟨a,b,c,ha,hb,hc,rfl⟩
theorem sS:∀{ws:List (BR×Ty)} {bs:List KB} {p:Nat} {x:KB},az (gE Fa ka ws bs) p=some x->∃(j:Nat) (v:BR×Ty),ws[j]? =some v/\bs[j]? =some x/\ij Fa ka v.1=some p
 | [],bs,p,x,h=>by simp [gE,az]at h
 |v::r,[],p,x,h=>by simp [gE,az]at h
 |v::r,b::bs,p,x,h=>by
  unfold gE at h
  have key:az (gE Fa ka r bs) p=some x->∃(j:Nat) (v':BR×Ty),(v::r)[j]? =some v'/\(b::bs)[j]? =some x/\ij Fa ka v'.1=some p:=λh=>by
   obtain⟨j,v',h1,h2,h3⟩:=sS h;exact⟨j+1,v',by simpa using h1,by simpa using h2,h3⟩
  split at h
  .rename_i q hq;rw [aB]at h;split at h
   .rename_i hi;cases h;subst hi;exact⟨0,v,rfl,rfl,hq⟩
   .exact key h
  .exact key h
theorem NY{pt:Pt}{j:Nat}{v:BR×Ty}(h:pt.ws[j]? =some v):pt.sh[kM pt.vs+pd pt.bs+j]? =some (.w v.2):=by
 unfold Pt.sh kM pd;rw [<-List.append_assoc,List.getElem?_append_right (by rw [List.length_append];omega),List.length_append,Nat.add_sub_cancel_left,List.getElem?_map,h];rfl
theorem La{pt:Pt}{cs:List KC}{y:dR pt.sh}(hcs:fX Fa ka pt=some cs)(hrd:RdCs ka pt.sh cs y){p:Nat}{x:KB}(h:az (gE Fa ka pt.ws ((wCs pt.sh y).drop (kM pt.vs+pd pt.bs))) p=some x):∃(j:Nat) (v:BR×Ty) (e:Ty) (ne:Bool) (l:List e.val),v∈pt.ws/\ij Fa ka v.1=some p/\az ka.bl p=some (.rows e ne l)/\x= .rows e false l/\cs[j]? =some (.o e p)/\pt.sh[j]? =some (.w e):=by
 obtain⟨j,v,h1,h2,h3⟩:=sS h;obtain⟨a,b,c,ha,hb,hc,rfl⟩:=gG hcs;obtain⟨p',h4,h5⟩:=qt hc h1;rw [h3]at h4;cases h4
 have hj:(a++(b++c))[kM pt.vs+pd pt.bs+j]? =some (.o v.2 p):=by
  rw [<-List.append_assoc,List.getElem?_append_right (by rw [List.length_append,lx ha,qr hb];omega),List.length_append,lx ha,qr hb,Nat.add_sub_cancel_left,h5]
 obtain⟨e',p',ne,l,g1,g2,g3⟩:=Gx hrd hj (NY h1);cases g1;rw [List.getElem?_drop,g3]at h2;cases h2;exact⟨_,v,_,ne,l,List.mem_of_getElem? h1,h3,g2,rfl,hj,NY h1⟩
theorem trans{pt:Pt}{cs:List KC}{y:dR pt.sh}(hr:Rel Fa ka Va f h)(hcs:fX Fa ka pt=some cs)(hrd:RdCs ka pt.sh cs y)(hnd:kz (cr cs)=true)(hN:N0<=ka.nx)(hnt:Fb.nt=Fa.nt)(hnx:kb.nx=N0+pt.sh.length)
  (hS:∀i d,ig Fb kb i=some d->az (jw pt.vs ((aZ pt.sh y N0).map (·.1))) i=some d∨(ig Fa ka i=some d/\ScD N0 d))
  (hB1:∀p b,aE Fb kb p=some b->az (fY Fa ka pt.bs (((aZ pt.sh y N0).map (·.1)).drop (kM pt.vs))) p=some b∨az (gE Fa ka pt.ws ((wCs pt.sh y).drop (kM pt.vs+pd pt.bs))) p=some b∨az ((aZ pt.sh y N0).flatMap (·.2)) p=some b∨(aE Fa ka p=some b/\p<N0/\ScB N0 b/\p ∉ cr cs/\∀v∈pt.bs,eQ Fa ka v.1≠some p))
  (hB2:∀p b,(p,b)∈(aZ pt.sh y N0).flatMap (·.2)->aE Fb kb p=some b) (hbx:∀v∈pt.bs,∀p,eQ Fa ka v.1=some p->p<N0) (hwx:∀v∈pt.ws,∀p,ij Fa ka v.1=some p->p<N0):∃Vb,Rel Fb kb Vb f h/\Agree N0 Va Vb/\LeB N0 (aE Fa ka) (aE Fb kb):=by
 have hlen:=hrd.len;have hag:Agree N0 Va (mkV Va N0 cs (Fm pt.sh y)):=Im;obtain⟨a,b,cw,ha,hb,hcw,hcse⟩:=gG hcs;have hbox0:∀p x,az (fY Fa ka pt.bs (((aZ pt.sh y N0).map (·.1)).drop (kM pt.vs))) p=some x->∃v∈pt.bs,eQ Fa ka v.1=some p:=λp x hx=>Fo hx;have hrow:∀p x,az (gE Fa ka pt.ws ((wCs pt.sh y).drop (kM pt.vs+pd pt.bs))) p=some x->∃(j:Nat) (v:BR×Ty) (e:Ty) (ne:Bool) (l:List e.val),v∈pt.ws/\ij Fa ka v.1=some p/\az ka.bl p=some (.rows e ne l)/\x= .rows e false l/\cs[j]? =some (.o e p)/\pt.sh[j]? =some (.w e):=λp x hx=>La hcs hrd hx
 have hvac:∀(j:Nat) e,pt.sh[j]? =some (.w e)->∀x,aE Fb kb (N0+j)≠some x:=by
  intro j e hj x hx;rcases hB1 _ _ hx with h1|h1|h1|h1
  .obtain⟨v,g1,g2⟩:=hbox0 _ _ h1
   have:=hbx v g1 _ g2;omega
  .obtain⟨_,v,_,_,_,g1,g2,_⟩:=hrow _ _ h1
   have:=hwx v g1 _ g2;omega
  .obtain⟨j',c,hh,yy,e1,⟨_,g0⟩,_,_,g4⟩:=mM hrd (jW h1);obtain rfl:j=j':=by omega
   rw [hj]at g0;cases g0;simp [cl]at g4
  .omega
 have hT:TrL (aE Fa ka) Va (aE Fb kb) (mkV Va N0 cs (Fm pt.sh y)) kb.nx cs ((aZ pt.sh y N0).map (·.1)):=
  tP rfl N0 hrd (λj c hc=>KZ hc) (λj b hb=>Pp hb) hB2 hvac (by omega)
 have hids:∀(j:Nat) (c:KC),cs[j]? =some c->(mkV Va N0 cs (Fm pt.sh y)).id (N0+j)=hid Va c:=λj c hc=>KZ hc;generalize mkV Va N0 cs (Fm pt.sh y)=Vb at hag hT hids;rw [hcse]at hT;have hT2:=TrL.drop hT;rw [lx ha]at hT2;have hbox:=zk (M:=kb.nx) (c:=cw) hb hT2
 have hle:LeB N0 (aE Fa ka) (aE Fb kb):=by
  intro p hp
  have key:∀x,aE Fb kb p=some x->(∀cs,x≠ .box cs)->aE Fa ka p=some x∨∃e ne l,aE Fa ka p=some (.rows e ne l)/\x= .rows e false l:=by
   intro x hx hnb;rcases hB1 p x hx with h1|h1|h1|h1
   .obtain⟨v,_,_,cs0,ws,_,e,_⟩:=hbox p x h1;exact absurd e (hnb ws)
   .obtain⟨_,v,e,ne,l,_,_,g3,g4,_⟩:=hrow p x h1;exact .inr ⟨e,ne,l,aA g3 (by simp),g4⟩
   .obtain⟨j,c,hh,yy,e,_⟩:=mM hrd (jW h1);omega
   .exact .inl h1.1
  refine⟨λe ne l hl=> ?_,λe l hl=> ?_⟩
  .rcases key _ hl (by simp)with h1|⟨e0,n0,l0,h1,h2⟩
   .exact⟨e,ne,l,h1,rfl⟩
   .cases h2;exact⟨_,_,_,h1,rfl⟩
  .rcases key _ hl (by simp)with h1|⟨e0,n0,l0,h1,h2⟩
   .exact⟨e,l,h1,rfl⟩
   .cases h2
 -- where a block comes from
 have horg:∀p x,aE Fb kb p=some x->x.there->∃o x0,aE Fa ka o=some x0/\x0.there/\Vb.id p=Va.id o/\((∃j c hh,p=N0+j/\cs[j]? =some c/\il c=some o/\(∀cs0,x0≠ .box cs0)/\pt.sh[j]? =some hh/\∀e,hh≠ .w e)∨(o=p/\((∃cs0,x0= .box cs0)∨(∃(j:Nat) (e:Ty),cs[j]? =some (.o e p)/\pt.sh[j]? =some (.w e))∨p ∉ cr cs))):=by
  intro p x hx ht;rcases hB1 p x hx with h1|h1|h1|⟨h1,h2,h3,h4,h5⟩
  .obtain⟨v,g1,g2,cs0,ws,g3,e,_⟩:=hbox p x h1;exact⟨p,.box cs0,aA g3 (by simp),trivial,(hag p (hbx v g1 p g2)).1,.inr ⟨rfl,.inl ⟨cs0,rfl⟩⟩⟩
  .obtain⟨j,v,e,ne,l,g1,g2,g3,g4,g5,g6⟩:=hrow p x h1;exact⟨p,_,aA g3 (by simp),trivial,(hag p (hwx v g1 p g2)).1,.inr ⟨rfl,.inr (.inl ⟨j,e,g5,g6⟩)⟩⟩
  .obtain⟨j,c,hh,yy,rfl,⟨g1,g0⟩,g2,g3,g4⟩:=mM hrd (jW h1);have hidj:Vb.id (N0+j)=hid Va c:=hids j c g2
   cases hh with
   |d fr t=>cases t<;>simp [cl]at g4
   |w e=>simp [cl]at g4
   |o e=>
    obtain⟨e',o,ne,rfl,g5⟩:=g3;exact⟨o,_,aA g5 (by simp),trivial,hidj,.inl ⟨j,_,_,rfl,g2,rfl,by simp,g0,by simp⟩⟩
   |m e=>
    simp only [cl,List.cons.injEq,Prod.mk.injEq,true_and,and_true]at g4;subst g4;rcases g3 with⟨rfl,g5⟩|⟨e',o,rfl,g5⟩|⟨e',o,ne,rfl,g5,g6⟩
    .exact absurd g5 ht
    .exact⟨o,_,aA g5 (by simp),ht,hidj,.inl ⟨j,_,_,rfl,g2,rfl,by simp,g0,by simp⟩⟩
    .exact⟨o,_,aA g5 (by simp),trivial,hidj,.inl ⟨j,_,_,rfl,g2,rfl,by simp,g0,by simp⟩⟩
  .exact⟨p,x,h1,ht,(hag p h2).1,.inr ⟨rfl,.inr (.inr h4)⟩⟩
 refine⟨Vb,⟨?_,?_,?_⟩,hag,hle⟩
 .intro i d hd;rcases hS i d hd with h1|⟨h1,h2⟩
  .obtain⟨g1,g2,g3⟩:=sR (M:=kb.nx) hr ha hT i d h1;exact⟨by rw [hnt];exact g1,g2,g3⟩
  .obtain⟨g1,g2,g3⟩:=hr.sl i d h1;exact⟨by rw [hnt];exact g1,h2.mono (by omega),g3.mono h2 hle hag⟩
 .intro p x hx;rcases hB1 p x hx with h1|h1|h1|⟨h1,h2,h3,h4,h5⟩
  .obtain⟨v,g1,g2,cs0,ws,g3,rfl,g4,g5⟩:=hbox p x h1;obtain⟨k1,k2,sz,cs',k3,k4⟩:=hr.bl p _ (aA g3 (by simp));have hp:=hbx v g1 p g2;exact⟨by omega,g4,sz,cs',by rw [(hag p hp).1];exact k3,g5 _ k4⟩
  .obtain⟨j,v,e,ne,l,g1,g2,g3,rfl,_,_⟩:=hrow p x h1;obtain⟨k1,k2,k3,k4⟩:=hr.bl p _ (aA g3 (by simp));have hp:=hwx v g1 p g2;exact⟨by omega,trivial,by rw [(hag p hp).1];exact k3,by simp⟩
  .obtain⟨j,c,hh,yy,rfl,⟨g1,g0⟩,g2,g3,g4⟩:=mM hrd (jW h1);have hidj:Vb.id (N0+j)=hid Va c:=hids j c g2;refine⟨by omega,?_⟩;rw [hidj]
   cases hh with
   |d fr t=>cases t<;>simp [cl]at g4
   |w e=>simp [cl]at g4
   |o e=>
    simp only [cl,List.cons.injEq,Prod.mk.injEq,true_and,and_true]at g4;subst g4;obtain⟨e',o,ne,rfl,g5⟩:=g3;obtain⟨k1,k2,k3,k4⟩:=hr.bl o _ (aA g5 (by simp));exact⟨trivial,k3,by simp⟩
   |m e=>
    simp only [cl,List.cons.injEq,Prod.mk.injEq,true_and,and_true]at g4;subst g4;refine⟨trivial,λhne=> ?_⟩;rcases g3 with⟨rfl,g5⟩|⟨e',o,rfl,g5⟩|⟨e',o,ne,rfl,g5,g6⟩
    .exact absurd g5 hne
    .exact(hr.bl o _ (aA g5 (by simp))).2.2 hne
    .exact(hr.bl o _ (aA g5 (by simp))).2.2.1
  .obtain⟨k1,k2,k3⟩:=hr.bl p x h1;exact⟨by omega,h3.mono (by omega),by rw [(hag p h2).1];exact k3.mono h3 hle hag⟩
 .intro p q x x' hp hq tp tq hid;obtain⟨o,x0,g1,g2,g3,g4⟩:=horg p x hp tp;obtain⟨o',x0',g1',g2',g3',g4'⟩:=horg q x' hq tq;rw [g3,g3']at hid;have ho:=hr.inj o o' x0 x0' g1 g1' g2 g2' hid;subst ho;rw [g1]at g1';cases g1'
  have cross:∀(p q:Nat),(∃(j:Nat) (c:KC) (hh:Sh),p=N0+j/\cs[j]? =some c/\il c=some o/\(∀cs0,x0≠ .box cs0)/\pt.sh[j]? =some hh/\∀e,hh≠ .w e)->(o=q/\((∃cs0,x0= .box cs0)∨(∃(j:Nat) (e:Ty),cs[j]? =some (.o e q)/\pt.sh[j]? =some (.w e))∨q ∉ cr cs))->False:=by
   intro p q ⟨j,c,hh,_,w2,w3,w4,w5,w6⟩ ⟨v1,v2⟩;subst v1;rcases v2 with⟨cs0,v2⟩|⟨j',e,v2,v3⟩|v2
   .exact w4 cs0 v2
   .obtain rfl:=qq hnd w2 v2 w3 rfl;rw [v3]at w5;cases w5;exact w6 e rfl
   .exact v2 (lv w2 w3)
  rcases g4 with⟨j,c,hh,w1,w2,w3,w4,w5,w6⟩|w
  .rcases g4' with⟨j',c',hh',v1,v2,v3,v4,v5,v6⟩|v
   .have:=qq hnd w2 v2 w3 v3
    rw [w1,v1,this]
   .exact(cross _ _ ⟨j,c,hh,w1,w2,w3,w4,w5,w6⟩ v).elim
  .rcases g4' with v|v
   .exact(cross _ _ v w).elim
   .rw [<-w.1,<-v.1]
end
end K
end Ev
end
noncomputable section
namespace Ev
namespace K
open Go Go.RowKit
theorem bE{α:Type}:∀(l m:List (Nat×α)) (i:Nat),az (l++m) i=bA l m i
 | [],m,i=>rfl
 |x::l,m,i=>by
  have:=bE l m i
  unfold bA at this ⊢;rw [show x::l++m=(x.1,x.2)::(l++m)from rfl,show x::l=(x.1,x.2)::l from rfl,aB,aB];split
  .rfl
  .exact this
theorem sU{l:List Nat}{p:Nat}:az (l.map λp=>(p,KB.dead)) p=none/\p ∉ l∨az (l.map λp=>(p,KB.dead)) p=some .dead/\p∈l:=by
 induction l with
 |nil=>exact .inl ⟨rfl,by simp⟩
 |cons a l ih=>
  rw [List.map_cons,aB];by_cases h:p=a
  .subst h;exact .inr ⟨by rw [if_pos rfl],by simp⟩
  .rw [if_neg h];rcases ih with⟨h1,h2⟩|⟨h1,h2⟩
   .exact .inl ⟨h1,by simp [h,h2]⟩
   .exact .inr ⟨h1,by simp [h2]⟩
theorem qu{q0:Nat}:∀{hs:List Sh} {x:dR hs} {q p:Nat} {b:KB},(p,b)∈(aZ hs x q).flatMap (·.2)->az ((aZ hs x q).flatMap (·.2)) p=some b/\q<=p/\b≠ .dead
 | [],x,q,p,b,h=>by simp [aZ]at h
 | [s],x,q,p,b,h=>by
  have h1:(p,b)∈(cl q s x).2:=by simpa [aZ]using h
  obtain⟨rfl,h2⟩:=lw h1;have h3:(aZ [s] x p).flatMap (·.2)= [(p,b)]:=by simpa [aZ]using h2
  rw [h3,aB,if_pos rfl];refine⟨rfl,Nat.le_refl _,?_⟩
  cases s with
  |d fr t=>cases t<;>simp [cl]at h2
  |o e=>simp only [cl,List.cons.injEq,Prod.mk.injEq,true_and,and_true]at h2;subst h2;simp
  |m e=>simp only [cl,List.cons.injEq,Prod.mk.injEq,true_and,and_true]at h2;subst h2;simp
  |w e=>simp [cl]at h2
 |s::s'::r,x,q,p,b,h=>by
  have e1:(aZ (s::s'::r) x q).flatMap (·.2)=(cl q s x.1).2++(aZ (s'::r) x.2 (q+1)).flatMap (·.2):=by simp [aZ]
  rw [e1]at h ⊢;rw [bE];unfold bA;rcases List.mem_append.1 h with h|h
  .obtain⟨rfl,h2⟩:=lw h;rw [h2,aB,if_pos rfl];refine⟨rfl,Nat.le_refl _,?_⟩
   cases s with
   |d fr t=>cases t<;>simp [cl]at h2
   |o e=>simp only [cl,List.cons.injEq,Prod.mk.injEq,true_and,and_true]at h2;subst h2;simp
   |m e=>simp only [cl,List.cons.injEq,Prod.mk.injEq,true_and,and_true]at h2;subst h2;simp
   |w e=>simp [cl]at h2
  .obtain⟨g1,g2,g3⟩:=qu (q0:=q0) h
   have:az (cl q s x.1).2 p=none:=by
    cases hl:az (cl q s x.1).2 p with
    |none=>rfl
    |some b'=>obtain⟨h3,_⟩:=lw (jW hl);omega
   rw [this];exact⟨g1,by omega,g3⟩
theorem Fp{hs:List Sh}{x:dR hs}{q p:Nat}(hp:p<q):az ((aZ hs x q).flatMap (·.2)) p=none:=by
 cases hl:az ((aZ hs x q).flatMap (·.2)) p with
 |none=>rfl
 |some b=>have:=(qu (q0:=0) (jW hl)).2.1;omega
theorem MS{ks:KS}{h:Sh}{c:KC}{x:h.T}{p:Nat}(hrd:RdC ks h c x)(ho:il c=some p):∃b,az ks.bl p=some b/\b≠ .dead:=by
 cases h with
 |d fr t=>
  obtain⟨_,h2⟩:=hrd;cases c<;>simp [il]at ho
  .subst ho;cases t<;>simp [ng,noB]at h2
  .subst ho;cases t<;>simp [ng,noB]at h2
 |o e=>obtain⟨e',q,ne,rfl,h2⟩:=hrd;simp [il]at ho;subst ho;exact⟨_,h2,by simp⟩
 |w e=>obtain⟨e',q,ne,rfl,h2⟩:=hrd;simp [il]at ho;subst ho;exact⟨_,h2,by simp⟩
 |m e=>
  rcases hrd with⟨rfl,h2⟩|⟨e',q,rfl,h2⟩|⟨e',q,ne,rfl,h2,h3⟩
  .simp [il]at ho
  .simp [il]at ho;subst ho;exact⟨_,h2,by simp⟩
  .simp [il]at ho;subst ho;exact⟨_,h2,by simp⟩
theorem xf:∀{cs:List KC} {p:Nat},p∈cr cs->∃(j:Nat) (c:KC),cs[j]? =some c/\il c=some p
 | [],p,h=>by simp [cr]at h
 |a::cs,p,h=>by
  by_cases ha:il a=some p
  .exact⟨0,a,rfl,ha⟩
  .have:p∈cr cs:=by
    cases a<;>simp [cr]at h<;>first|exact h|(rcases h with h|h;exact absurd (by simp [il,h]) ha;exact h)
   obtain⟨j,c,h1,h2⟩:=xf this;exact⟨j+1,c,by simpa using h1,h2⟩
theorem Dp{ks:KS}:∀{hs:List Sh} {cs:List KC} {x:dR hs} {j:Nat} {c:KC},RdCs ks hs cs x->cs[j]? =some c->∃h y,RdC ks h c y
 | [],cs,x,j,c,hrd,hj=>by rw [show cs= []from hrd]at hj;simp at hj
 | [h],cs,x,j,c,⟨a,e,hrd⟩,hj=>by
  subst e
  cases j with
  |zero=>simp at hj;subst hj;exact⟨h,x,hrd⟩
  |succ j=>simp at hj
 |h::h'::r,cs,x,j,c,⟨a,s,e,hrd,hrd2⟩,hj=>by
  subst e
  cases j with
  |zero=>simp at hj;subst hj;exact⟨h,x.1,hrd⟩
  |succ j=>exact Dp hrd2 (by simpa using hj)
theorem rK{ks:KS}{hs:List Sh}{cs:List KC}{x:dR hs}{p:Nat}(hrd:RdCs ks hs cs x)(hp:p∈cr cs):∃b,az ks.bl p=some b/\b≠ .dead:=by
 obtain⟨j,c,h1,h2⟩:=xf hp;obtain⟨h,y,h3⟩:=Dp hrd h1;exact MS h3 h2
theorem qv{F:KF}{ks:KS}:∀{l:List Nat} {i:Nat} {d:KD},az (pB F ks l) i=some d->az ks.sl i=some d
 | [],i,d,h=>by simp [pB,az]at h
 |a::l,i,d,h=>by
  unfold pB at h;split at h
  .rename_i d0 h0;rw [aB]at h;split at h
   .rename_i hi;cases h;subst hi;exact h0
   .exact qv h
  .exact qv h
theorem nm{F:KF}{ks:KS}(h:iG F ks=true){i:Nat}{d:KD}(hd:az F.sl i=some d):az ks.sl i=none/\ig F ks i=some d:=by
 have h1:az ks.sl i=none:=by
  have:=List.all_eq_true.1 h (i,d) (jW hd)
  simpa using this
 exact⟨h1,by unfold ig bA;rw [h1];exact hd⟩
theorem ot{F F':KF}{ks ks':KS}:∀{bs:List (Nat×List Sh)} {w:List KC},(∀v∈bs,eQ F' ks' v.1=eQ F ks v.1)->fY F' ks' bs w=fY F ks bs w
 | [],w,h=>rfl
 |v::r,w,h=>by
  unfold fY;rw [h v (by simp)]
  cases eQ F ks v.1 with
  |none=>exact ot λv' hv=>h v' (by simp [hv])
  |some q=>simp only;rw [ot λv' hv=>h v' (by simp [hv])]
theorem ly{F:KF}{ks:KS}:∀{bs:List (Nat×List Sh)} {b:List KC},ni F ks bs=some b->∀v∈bs,∃p cs,eQ F ks v.1=some p/\az ks.bl p=some (.box cs)
 | [],b,hb,v,hv=>by simp at hv
 |v0::r,b,hb,v,hv=>by
  unfold ni at hb
  cases hp:eQ F ks v0.1 with
  |none=>rw [hp]at hb;simp at hb
  |some q=>
   rw [hp]at hb;simp only [zbS]at hb;split at hb
   .rename_i cs hcs;split at hb
    .rw [Option.map_eq_some_iff]at hb;obtain⟨b',g1,rfl⟩:=hb;rcases List.mem_cons.1 hv with rfl|hv
     .exact⟨q,cs,hp,hcs⟩
     .exact ly g1 v hv
    .simp at hb
   .simp at hb
theorem np{F:KF}{ks:KS}{V:Vl}{f:Nat->D}{h:aC}{pt:Pt}{R:Type}{r:R}{κ:dR pt.sh->Option R}(hr:Rel F ks V f h)(hs:rA F ks pt κ=some r):∃cs x,fX F ks pt=some cs/\kz (cr cs)=true/\RdCs ks pt.sh cs x/\κ x=some r:=by
 unfold rA at hs;split at hs
 .rename_i cs hcs
  cases hn:kz (cr cs)with
  |false=>rw [hn]at hs;simp at hs
  |true=>
   rw [hn]at hs;obtain⟨x,h1,h2⟩:=zj (λp e ne l hl hne=>(hr.bl p _ (aA hl (by simp))).2.2.2 hne) (show nh ks pt.sh cs κ=some r from hs);exact⟨cs,x,hcs,hn,h2,h1⟩
 .simp at hs
theorem Fq{F:KF}{ks:KS}{V:Vl}{f:Nat->D}{h:aC}(hr:Rel F ks V f h){i p:Nat}(hp:eQ F ks i=some p):p<ks.nx:=by
 unfold eQ at hp;split at hp
 .rename_i q j hd;split at hp
  .cases hp;exact(hr.sl _ _ hd).2.1
  .simp at hp
 .simp at hp
theorem xg{F:KF}{ks:KS}{ws:List (BR×Ty)}{bs:List KB}{p:Nat}(h:∀v∈ws,ij F ks v.1≠some p):az (gE F ks ws bs) p=none:=by
 cases hl:az (gE F ks ws bs) p with
 |none=>rfl
 |some x=>
  obtain⟨j,v,h1,h2,h3⟩:=sS hl;exact absurd h3 (h v (List.mem_of_getElem? h1))
theorem qw{F F':KF}{ks ks':KS}:∀{ws:List (BR×Ty)} {bs:List KB},(∀v∈ws,ij F' ks' v.1=ij F ks v.1)->gE F' ks' ws bs=gE F ks ws bs
 | [],bs,h=>by simp [gE]
 |v::r,[],h=>by simp [gE]
 |v::r,b::bs,h=>by
  unfold gE;rw [h v (by simp)]
  cases ij F ks v.1 with
  |none=>exact qw λv' hv=>h v' (by simp [hv])
  |some q=>simp only;rw [qw λv' hv=>h v' (by simp [hv])]
theorem mm:∀(a b:List KC),cr (a++b)=cr a++cr b
 | [],b=>rfl
 |c::a,b=>by
  have:=mm a b
  cases c<;>simp [cr,this]
theorem qx{F:KF}{ks:KS}{pt:Pt}{cs:List KC}(hcs:fX F ks pt=some cs){v:BR×Ty}(hv:v∈pt.ws):∃p,ij F ks v.1=some p/\p∈cr cs:=by
 obtain⟨a,b,c,ha,hb,hc,rfl⟩:=gG hcs;obtain⟨j,hj⟩:=List.getElem?_of_mem hv;obtain⟨p,h1,h2⟩:=qt hc hj;refine⟨p,h1,?_⟩;rw [mm,mm];exact List.mem_append.2 (.inr (List.mem_append.2 (.inr (lv h2 rfl))))
theorem Fr{F:KF}{ks:KS}{V:Vl}{f:Nat->D}{h:aC}(hr:Rel F ks V f h){w:BR}{p:Nat}(hp:ij F ks w=some p):p<ks.nx:=by
 unfold ij at hp;split at hp
 .rename_i e q hc;cases hp
  cases w with
  |sl i j=>
   simp only [brC]at hc;split at hc
   .rename_i c hd;cases hc;exact(hr.sl _ _ hd).2.1
   .rename_i cs hd;exact(hr.sl _ _ hd).2.1 _ (List.mem_of_getElem? hc)
   .simp at hc
  |bx i j=>
   simp only [brC]at hc;split at hc
   .rename_i q hq;split at hc
    .rename_i cs hb
     have:aE F ks q=some (.box cs):=by unfold aE;rw [hb]
     exact(hr.bl _ _ this).2.1 _ (List.mem_of_getElem? hc)
    .simp at hc
   .simp at hc
 .simp at hp
theorem Gy{a b:Ex}(h:rB a b=true):a=b:=by
 cases a<;>cases b<;>simp [rB]at h<;>first|rfl|(subst h;rfl)
theorem qy{F:KF}{ks:KS}:∀{bs:List (Nat×List Sh)} {v:Nat×List Sh} {p:Nat},v∈bs->eQ F ks v.1=some p->p∈oo F ks bs
 | [],v,p,hv,_=>by simp at hv
 |w::r,v,p,hv,hp=>by
  unfold oo;rcases List.mem_cons.1 hv with rfl|hv
  .rw [hp];exact List.mem_cons_self
  .have:=qy hv hp
   split
   .exact List.mem_cons_of_mem _ this
   .exact this
theorem Dq{F:KF}{ks:KS}{ds:List Nat}{p:Nat}{b:KB}(hl:az (ds.map (λp=>(p,KB.dead))++(ks.bl++F.bl)) p=some b)(hb:b≠ .dead):p ∉ ds/\aE F ks p=some b:=by
 rw [bE]at hl;unfold bA at hl;rcases sU (l:=ds) (p:=p)with⟨h1,h2⟩|⟨h1,h2⟩
 .rw [h1]at hl;simp only [bE]at hl;refine⟨h2,?_⟩;unfold aE;rw [hl];cases b<;>first|rfl|exact absurd rfl hb
 .rw [h1]at hl;simp only [zsI]at hl;exact absurd hl.symm hb
def PostC(F:KF)(ks:KS)(V:Vl){R:Type}(κ:Ex->KS->Option R)(r:R)(e:Ex)(s:St):Prop:=∃ks' V' f',s.t=tab F.nt f'/\Rel F ks' V' f' s.h/\κ e ks'=some r/\Ext F ks V ks' V'
theorem PostC.ext{F:KF}{ks ks1:KS}{V V1:Vl}{R:Type}{κ:Ex->KS->Option R}{r:R}{e:Ex}{s:St}(he:Ext F ks V ks1 V1)(h:PostC F ks1 V1 κ r e s):PostC F ks V κ r e s:=let⟨ks',V',f',h1,h2,h3,h4⟩:=h;⟨ks',V',f',h1,h2,h3,he.trans h4⟩
def JX(F:KF)(ks:KS)(V:Vl)(keep dead:List Nat):(l:List (Ex×Pt))->XT l->Ex->St->Prop
 | [],x,_,_=>nomatch x
 |x::r,.inl v,e,s=>e=x.1/\∃V' f',s.t=tab F.nt f'/\Rel F (wJ F ks keep dead x.2 v) V' f' s.h/\Ext F ks V (wJ F ks keep dead x.2 v) V'
 |x::r,.inr v,e,s=>JX F ks V keep dead r v e s
theorem kq{F:KF}{ks:KS}{V:Vl}{keep dead:List Nat}:∀{l:List (Ex×Pt)},(∀x∈l,rB x.1 .normal=false)->∀(x:XT l) (s:St),¬JX F ks V keep dead l x .normal s
 | [],hl,x,s=>nomatch x
 |x::r,hl,.inl v,s=>λh=>by have:=hl x (by simp);rw [<-h.1]at this;simp [rB]at this
 |x::r,hl,.inr v,s=>kq (λz hz=>hl z (by simp [hz])) v s
theorem sV{F:KF}{ks:KS}{V:Vl}{keep dead:List Nat}{R:Type}{r:R}{κ:Ex->KS->Option R}:∀{l:List (Ex×Pt)} {x:XT l} {e:Ex} {s:St},afterX F ks keep dead l x κ=some r->JX F ks V keep dead l x e s->PostC F ks V κ r e s
 | [],x,e,s,h,hj=>nomatch x
 |x::l,.inl v,e,s,h,⟨he,V',f',h1,h2,h3⟩=>⟨_,V',f',h1,h2,by rw [he];exact h,h3⟩
 |x::l,.inr v,e,s,h,hj=>sV (l:=l) (x:=v) h hj
end K
end Ev
end
noncomputable section
namespace Ev
namespace K
open Go Go.RowKit
section
variable {E : Env} {y : Nat → fu} {n : Nat} {G : KG} {D0 : Nat}
theorem Lb{id:Nat}{l:List Oper}{Q:Ex->St->Prop}{t:List D}{H:aC}(m:Nat)(hc:nF l.toArray=some m)(hq:nb l.toArray=true)(h1:cH (λt=>kp E y n l.toArray (l.drop m) (Q .normal) {t,h:=H++List.replicate l.toArray.size .no}) (evR E (cpR E n) l.toArray (H++List.replicate l.toArray.size .no) H.length 0 (l.take m) t)):WpC E y n (.region id l.toArray true) Q {t,h:=H}:=by
 rw [EC]at h1
 cases hs:evQ E (cpR E n) l.toArray (H++List.replicate l.toArray.size .no) H.length 0 (l.take m) t with
 |none=>rw [hs]at h1;exact h1.elim
 |some t'=>
  rw [hs]at h1;obtain⟨s',⟨M1,h2⟩,h3⟩:=h1;obtain⟨M2,h4⟩:=tG _ _ _ _ _ _ _ (sB _ _ _ _ hs);have hq':kX l.toArray H.length (bef l.toArray) (λ_=> [])=true:=hq;refine⟨.normal,s',⟨max M1 M2,λq hm=> ?_⟩,h3⟩;simp only [evC,if_true,hc];unfold Fw;simp only [zbB];rw [if_pos hq'];rw [kJ,h4 q (by omega)];simp only [zbS]
  have:=h2 q (by omega)
  rw [kJ]at this;rw [this];rfl
theorem Ds{α:Type}{Q Q':α->Prop}{o:Option α}(h:cH Q o)(hq:∀a,Q a->Q' a):cH Q' o:=by
 cases o with
 |none=>exact h
 |some a=>exact hq a h
section loop
variable {F : KF} {ks : KS} {V : Vl} {f : Nat → D} {h : aC} {a : Da} {cs : List KC} {x0 : dR a.head.sh}
theorem xh(hok:iG F ks=true){i:Nat}{d:KD}(hd:az (aO F ks a cs).sl i=some d):ig F ks i=some d:=by
 have hd':az (pB F ks a.keep++F.sl) i=some d:=hd;rw [bE]at hd';unfold bA at hd'
 cases hk:az (pB F ks a.keep) i with
 |none=>rw [hk]at hd';exact(nm hok hd').2
 |some d'=>rw [hk]at hd';cases hd';unfold ig bA;rw [qv hk]
theorem zl(hok:iG F ks=true){ks2:KS}(hok2:iG (aO F ks a cs) ks2=true){pt:Pt}(hbs:pf F ks (aO F ks a cs) pt=true):∀v∈pt.bs,eQ (aO F ks a cs) ks2 v.1=eQ F ks v.1:=by
 intro v hv;have h1:=List.all_eq_true.1 ((Bool.and_eq_true _ _).mp hbs).1 v hv
 cases hl:az (aO F ks a cs).sl v.1 with
 |none=>rw [hl]at h1;simp at h1
 |some d=>
  unfold eQ;rw [(nm hok2 hl).2,xh hok hl]
theorem tQ{pt:Pt}{v:dR pt.sh}{p:Nat}{b:KB}(hl:az (ce F ks pt v).bl p=some b):az (fY F ks pt.bs (((aZ pt.sh v ks.nx).map (·.1)).drop (kM pt.vs))) p=some b∨az (gE F ks pt.ws ((wCs pt.sh v).drop (kM pt.vs+pd pt.bs))) p=some b∨az ((aZ pt.sh v ks.nx).flatMap (·.2)) p=some b:=by
 have h1:az (fY F ks pt.bs (((aZ pt.sh v ks.nx).map (·.1)).drop (kM pt.vs))++(gE F ks pt.ws ((wCs pt.sh v).drop (kM pt.vs+pd pt.bs))++(aZ pt.sh v ks.nx).flatMap (·.2))) p=some b:=hl;rw [bE]at h1;unfold bA at h1
 cases hb:az (fY F ks pt.bs (((aZ pt.sh v ks.nx).map (·.1)).drop (kM pt.vs))) p with
 |some b'=>rw [hb]at h1;exact .inl h1
 |none=>
  rw [hb]at h1;change az (_++_) p=some b at h1;rw [bE]at h1;unfold bA at h1
  cases hc:az (gE F ks pt.ws ((wCs pt.sh v).drop (kM pt.vs+pd pt.bs))) p with
  |some b'=>rw [hc]at h1;exact .inr (.inl h1)
  |none=>rw [hc]at h1;exact .inr (.inr h1)
theorem ou{pt:Pt}{v:dR pt.sh}{p:Nat}(h1:∀w∈pt.bs,eQ F ks w.1≠some p)(h2:∀w∈pt.ws,ij F ks w.1≠some p)(hp:p<ks.nx):az (ce F ks pt v).bl p=none:=by
 cases hl:az (ce F ks pt v).bl p with
 |none=>rfl
 |some b=>
  rcases tQ hl with h|h|h
  .rw [jX h1]at h;simp at h
  .rw [xg h2]at h;simp at h
  .rw [Fp hp]at h;simp at h
theorem tR{pt:Pt}{v:dR pt.sh}{rest:List (Nat×KB)}{G:KF}{kb:KS}{p:Nat}{b:KB}(hkb:∀p,bA kb.bl G.bl p=az ((ce F ks pt v).bl++rest) p)(hb:aE G kb p=some b):az (fY F ks pt.bs (((aZ pt.sh v ks.nx).map (·.1)).drop (kM pt.vs))) p=some b∨az (gE F ks pt.ws ((wCs pt.sh v).drop (kM pt.vs+pd pt.bs))) p=some b∨az ((aZ pt.sh v ks.nx).flatMap (·.2)) p=some b∨(az (ce F ks pt v).bl p=none/\az rest p=some b/\b≠ .dead):=by
 unfold aE at hb;rw [hkb,bE]at hb;unfold bA at hb
 cases hl:az (ce F ks pt v).bl p with
 |some b'=>
  rw [hl]at hb;have hbb:b'=b:=by cases b'<;>simp at hb<;>exact hb
  subst hbb;rcases tQ hl with h1|h1|h1
  .exact .inl h1
  .exact .inr (.inl h1)
  .exact .inr (.inr (.inl h1))
 |none=>
  rw [hl]at hb
  cases hr:az rest p with
  |none=>rw [hr]at hb;simp at hb
  |some b'=>
   rw [hr]at hb
   cases b' with
   |dead=>simp at hb
   |_=>simp at hb;subst hb;exact .inr (.inr (.inr ⟨rfl,rfl,by simp⟩))
theorem tS{pt:Pt}{v:dR pt.sh}{rest:List (Nat×KB)}{G:KF}{kb:KS}(hr:Rel F ks V f h)(hkb:∀p,bA kb.bl G.bl p=az ((ce F ks pt v).bl++rest) p){p:Nat}{b:KB}(hb:(p,b)∈(aZ pt.sh v ks.nx).flatMap (·.2)):aE G kb p=some b:=by
 obtain⟨g1,g2,g3⟩:=qu (q0:=0) hb;unfold aE;rw [hkb,bE];unfold bA
 have h1:az (ce F ks pt v).bl p=some b:=by
  show az (fY F ks pt.bs (((aZ pt.sh v ks.nx).map (·.1)).drop (kM pt.vs))++(gE F ks pt.ws ((wCs pt.sh v).drop (kM pt.vs+pd pt.bs))++(aZ pt.sh v ks.nx).flatMap (·.2))) p=some b;rw [bE];unfold bA;rw [jX λw hw he=>by have:=Fq hr he;omega];show az (_++_) p=some b;rw [bE];unfold bA;rw [xg λw hw he=>by have:=Fr hr he;omega];exact g1
 rw [h1];cases b<;>first|rfl|exact absurd rfl g3
theorem In(hcs:fX F ks a.head=some cs){x:dR a.head.sh}{p:Nat}(hp:p<ks.nx)(hd:p ∉ dS F ks a cs):az (ce F ks a.head x).bl p=none:=
 ou (λw hw he=>hd (List.mem_append.2 (.inr (qy hw he)))) (λw hw he=>hd (List.mem_append.2 (.inl (by
  obtain⟨q,h1,h2⟩:=qx hcs hw;rw [he]at h1;cases h1
  exact h2)))) hp
theorem uq(hr:Rel F ks V f h)(hok:iG F ks=true)(hcs:fX F ks a.head=some cs)(hnd:kz (cr cs)=true)(hrd:RdCs ks a.head.sh cs x0):∃V1,Rel (aO F ks a cs) (ce F ks a.head x0) V1 f h/\Agree ks.nx V V1/\LeB ks.nx (aE F ks) (aE (aO F ks a cs) (ce F ks a.head x0)):=by
 have hkb:∀p,bA (ce F ks a.head x0).bl (aO F ks a cs).bl p=az ((ce F ks a.head x0).bl++((dS F ks a cs).map (λp=>(p,KB.dead))++(ks.bl++F.bl))) p:=λp=>(bE _ _ p).symm;refine trans hr hcs hrd hnd (Nat.le_refl _) rfl rfl (λi d hd=> ?_) (λp b hb=> ?_) (λp b hb=>tS hr hkb hb) (λv hv p hp=>Fq hr hp) (λv hv p hp=>Fr hr hp)
 .have hd':bA (jw a.head.vs ((aZ a.head.sh x0 ks.nx).map (·.1))) (aO F ks a cs).sl i=some d:=hd;unfold bA at hd'
  cases hl:az (jw a.head.vs ((aZ a.head.sh x0 ks.nx).map (·.1))) i with
  |some d'=>rw [hl]at hd';cases hd';exact .inl rfl
  |none=>
   rw [hl]at hd';have h1:=xh hok hd';exact .inr ⟨h1,(hr.sl i d h1).2.1⟩
 .rcases tR hkb hb with h1|h1|h1|⟨h1,h2,h3⟩
  .exact .inl h1
  .exact .inr (.inl h1)
  .exact .inr (.inr (.inl h1))
  .obtain⟨g1,g2⟩:=Dq h2 h3;obtain⟨k1,k2,_⟩:=hr.bl p b g2;exact .inr (.inr (.inr ⟨g2,k1,k2,λhm=>g1 (List.mem_append.2 (.inl hm)),λv hv he=>g1 (List.mem_append.2 (.inr (qy hv he)))⟩))
variable {ks2 : KS} {V1 V2 : Vl} {f2 : Nat → D} {h2 : aC} {x1 : dR a.head.sh} {pt : Pt} {cs2 : List KC} {v : dR pt.sh}
theorem zm(hr:Rel F ks V f h)(hcs:fX F ks a.head=some cs)(hext:Ext (aO F ks a cs) (ce F ks a.head x1) V1 ks2 V2){p:Nat}{b:KB}(hb:az ((dS F ks a cs).map (λp=>(p,KB.dead))++(ks.bl++F.bl)) p=some b)(hd:b≠ .dead):aE (aO F ks a cs) ks2 p=some b/\p<ks.nx/\ScB ks.nx b/\az ks2.bl p=none:=by
 obtain⟨g1,g2⟩:=Dq hb hd;obtain⟨k1,k2,_⟩:=hr.bl p b g2;have h1:az (ce F ks a.head x1).bl p=none:=In hcs k1 g1;have h2:=hext.dom p (by show p<ks.nx+_;omega) h1;refine⟨?_,k1,k2,h2⟩;unfold aE bA;rw [h2]
 show(match az ((dS F ks a cs).map (λp=>(p,KB.dead))++(ks.bl++F.bl)) p with
  |some .dead=>none
  |x=>x)=some b
 rw [hb];cases b<;>first|rfl|exact absurd rfl hd
theorem zn(hr:Rel F ks V f h)(hok2:iG (aO F ks a cs) ks2=true)(hcs:fX F ks a.head=some cs)(hext:Ext (aO F ks a cs) (ce F ks a.head x1) V1 ks2 V2)(hbs:pf F ks (aO F ks a cs) pt=true):∀w∈pt.ws,∃p,ij (aO F ks a cs) ks2 w.1=some p/\ij F ks w.1=some p:=by
 intro w hw;have h1:=List.all_eq_true.1 ((Bool.and_eq_true _ _).mp hbs).2 w hw;split at h1
 .rename_i p q hp hq;have hpq:p=q:=Nat.eq_of_beq_eq_true h1;subst hpq;refine⟨p,?_,hp⟩;have hsl:∀i d,ig (aO F ks a cs) kNil i=some d->ig (aO F ks a cs) ks2 i=some d:=λi d hd=>(nm hok2 (show az (aO F ks a cs).sl i=some d from hd)).2
  have hpt:∀i d,eQ (aO F ks a cs) kNil i=some d->eQ (aO F ks a cs) ks2 i=some d:=by
   intro i d hd;unfold eQ at hd ⊢;split at hd
   .rename_i p j hg;rw [hsl _ _ hg];exact hd
   .simp at hd
  unfold ij at hq ⊢
  have key:brC (aO F ks a cs) kNil w.1=brC (aO F ks a cs) ks2 w.1∨brC (aO F ks a cs) kNil w.1=none:=by
   cases w.1 with
   |sl i j=>
    simp only [brC]
    cases hg:ig (aO F ks a cs) kNil i with
    |none=>exact .inr rfl
    |some d=>rw [hsl _ _ hg];exact .inl rfl
   |bx i j=>
    simp only [brC]
    cases hg:eQ (aO F ks a cs) kNil i with
    |none=>exact .inr rfl
    |some d=>
     rw [hpt _ _ hg];simp only
     cases hl:bA kNil.bl (aO F ks a cs).bl d with
     |none=>exact .inr rfl
     |some b=>
      cases b with
      |box bc=>
       obtain⟨_,_,_,g4⟩:=zm hr hcs hext (show az ((dS F ks a cs).map (λp=>(p,KB.dead))++(ks.bl++F.bl)) d=some (.box bc)from hl) (by simp)
       have:bA ks2.bl (aO F ks a cs).bl d=some (.box bc):=by unfold bA;rw [g4];exact hl
       rw [this];exact .inl rfl
      |_=>exact .inr rfl
  rcases key with k|k
  .rw [<-k];exact hq
  .rw [k]at hq;simp at hq
 .simp at h1
theorem Pq(hcs:fX F ks a.head=some cs)(hrd:RdCs ks a.head.sh cs x0)(hext:Ext (aO F ks a cs) (ce F ks a.head x1) V1 ks2 V2){p:Nat}(hp:p<ks.nx)(hl:az ks.bl p=none):az ks2.bl p=none:=by
 obtain⟨ca,cb,cw,_,hcb,_,_⟩:=gG hcs;refine hext.dom p (by show p<ks.nx+_;omega) (ou (λw hw he=> ?_) (λw hw he=> ?_) hp)
 .obtain⟨q,c,j1,j2⟩:=ly hcb w hw;rw [he]at j1;cases j1;rw [hl]at j2;simp at j2
 .obtain⟨q,j1,j2⟩:=qx hcs hw;rw [he]at j1;cases j1;obtain⟨b,k1,_⟩:=rK hrd j2;rw [hl]at k1;simp at k1
theorem Gz{Fb:KF}{kb:KS}(hr:Rel F ks V f h)(hok:iG F ks=true)(hcs:fX F ks a.head=some cs)(hr2:Rel (aO F ks a cs) ks2 V2 f2 h2)(hok2:iG (aO F ks a cs) ks2=true)(hext:Ext (aO F ks a cs) (ce F ks a.head x1) V1 ks2 V2)(hbs:pf F ks (aO F ks a cs) pt=true)(hcs2:fX (aO F ks a cs) ks2 pt=some cs2)(hnd2:kz (cr cs2)=true)(hrd2:RdCs ks2 pt.sh cs2 v)
  (hnt:Fb.nt=F.nt) (hnx:kb.nx=ks.nx+pt.sh.length) (hsl:∀i d,ig Fb kb i=some d->az (jw pt.vs ((aZ pt.sh v ks.nx).map (·.1))) i=some d∨az (aO F ks a cs).sl i=some d) (hkb:∀p,bA kb.bl Fb.bl p=az ((ce F ks pt v).bl++((dS F ks a cs).map (λp=>(p,KB.dead))++(ks.bl++F.bl))) p):∃V3,Rel Fb kb V3 f2 h2/\Agree ks.nx V2 V3/\LeB ks.nx (aE (aO F ks a cs) ks2) (aE Fb kb):=by
 have hptr:=zl hok hok2 hbs;have hrow:=zn hr hok2 hcs hext hbs;have hnx2:ks.nx<=ks2.nx:=Nat.le_trans (by show ks.nx<=ks.nx+_;omega) hext.nx;obtain⟨ca,cb,cw,_,hcb2,_,_⟩:=gG hcs2;refine trans (N0:=ks.nx) hr2 hcs2 hrd2 hnd2 hnx2 hnt hnx (λi d hd=> ?_) (λp b hb=> ?_) (λp b hb=>tS hr hkb hb) (λw hw p hp=> ?_) (λw hw p hp=> ?_)
 .rcases hsl i d hd with h1|h1
  .exact .inl h1
  .have h3:=xh hok h1;exact .inr ⟨(nm hok2 h1).2,(hr.sl i d h3).2.1⟩
 .rw [ot hptr,qw (λw hw=>by obtain⟨q,e1,e2⟩:=hrow w hw;exact e1.trans e2.symm)];rcases tR hkb hb with h1|h1|h1|⟨h1,h3,h4⟩
  .exact .inl h1
  .exact .inr (.inl h1)
  .exact .inr (.inr (.inl h1))
  ·-- a block of the head's frame
   obtain⟨g1,g2,g3,g4⟩:=zm hr hcs hext h3 h4;refine .inr (.inr (.inr ⟨g1,g2,g3,λhm=> ?_,λw hw he=> ?_⟩))
   .obtain⟨b',e1,_⟩:=rK hrd2 hm;rw [g4]at e1;simp at e1
   .obtain⟨p',c,e1,e2⟩:=ly hcb2 w hw;rw [he]at e1;cases e1;rw [g4]at e2;simp at e2
 .rw [hptr w hw]at hp;exact Fq hr hp
 .obtain⟨q,e1,e2⟩:=hrow w hw;rw [hp]at e1;cases e1;exact Fr hr e2
end loop
end
end K
end Ev
end
end Go.Proofs.YtpcmabdifkoihaaDoor
