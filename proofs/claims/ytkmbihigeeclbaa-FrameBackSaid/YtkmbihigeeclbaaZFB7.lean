/- Texts of a claim, joined. -/
import Derived.Test.YtkmbihigeeclbaaZFB6
set_option linter.unusedVariables false
set_option linter.unusedSimpArgs false
namespace Go.Proofs.Ytkmbihigeeclbaa
noncomputable section
namespace Ev
namespace K
open Go Go.RowKit
section
variable {E : Env} {n : Nat} {F : KF} {ks : KS} {V : Vl} {f : Nat → D} {h : ak} {M tag nid : Nat} {op : Op} {G : KG} {D0 : Nat} {R : Type} {κ : KE → Option R} {r : R}
theorem EH(hr:Rel F ks V f h){x:KC}{i:Int}{c:C}(hk:IQ F ks x=some i)(hc:RC (am F ks) V x c):∃m:Nat,sq (.one c)=some m/\i=(m:Int):=by
 unfold IQ at hk;split at hk
 .cases hk;rw [show c=_ from hc];exact⟨0,rfl,rfl⟩
 .cases hk;obtain⟨fl,h1,h2⟩:=hc;rw [h1];exact⟨_,DX,rfl⟩
 .split at hk
  .rename_i e ne l hB;cases hk;rw [hc _ _ _ hB];exact⟨_,rfl,rfl⟩
  .simp at hk
 .split at hk
  .rename_i e l hB;cases hk;rw [hc _ _ hB];exact⟨_,IL,rfl⟩
  .simp at hk
 .simp at hk
theorem GB{e:Ty}{c:Call}{a x:Operand}{ty ty1 e1:TypeId}{t1:TI}{k n:Nat}{h:ak}{l xs lm:List e.val}{d:D}(ha:ov F.nt f a=some (.one (.own k 0 l.length)))(hx:ov F.nt f x=some d)(hxs:gz h d=some (xs.map (cK e.row)))(hb:ao h k=some (e.size,l.map (cK e.row)))(hlm:cpL l xs=some lm)(hz:eQ E.ti ty=some e.size)(ht1:E.ti ty1=some t1)(he1:aP t1=some e1)
  (hc:c.callee= .builtin .copy) (hargs:c.args.toList= [a,x]) (hty:c.argTypes[0]? =some ty) (hty1:c.argTypes[1]? =some ty1) (hz0:e.size≠0) (nid:Nat):stepG E (cpR E n) none nid (.call c) (aE (tab F.nt f)) h=some ⟨iD .i64 ((xs.length:Nat):Int),[(k,.own e.size (lm.map (cK e.row)))]⟩:=by
 obtain⟨t,e2,te,g1,g2,g3,g4⟩:=gL hz;obtain⟨hbd,rfl⟩:=xo hlm;have h1:aV (.call c)=none:=by unfold aV;simp only [hc]
 rw [lI,h1];unfold sem pG;simp only [hc,hty,g1,hargs,fe,zbB,zbS,List.mapM_cons,List.mapM_nil,ha,hx,Option.pure_def,g2,g3,hty1,ht1,he1,g4];unfold qa;simp only [hxs,zbB,zbS,hb]
 have hpt:patch (l.map (cK e.row)) 0 (xs.map (cK e.row))=some ((xs++l.drop xs.length).map (cK e.row)):=by
  unfold patch;rw [if_pos (by simpa using hbd)];simp
 rw [hpt];simp only [zbS];rw [if_pos ⟨trivial,by simpa using hbd,by simp [rE],hz0⟩];simp [iD,mk]
theorem za(hG:GOk G E D0)(hr:Rel F ks V f h)(ht:ks.nx<=tag)(hn:ks.nx<=nid)(htM:tag<M)(hnM:nid<M){c:Call}{b:Builtin}{args:List KD}(hc:c.callee= .builtin b)(hargs:fJ F ks c.args.toList=some args)(hs:rp G F ks nid c b args κ=some r):∃eff,κ eff=some r/\bG E n F ks V f h M tag nid (.call c) eff:=by
 have hM:ks.nx<=M:=by omega
 unfold rp at hs;split at hs
 .simp at hs
 .rename_i ty hty;split at hs
  .rename_i x;obtain⟨a,ha,ha2⟩:=EF hargs;obtain⟨d,d1,d2,cx,rfl,d3⟩:=aT hr ha2;split at hs
   .rename_i z hel;obtain⟨te,e,zz⟩:=z;obtain⟨ti,i2,t1,t2,t3,t4,t5,t6,t7⟩:=bL hG hel;simp only [zbE]at hs;obtain⟨i,g1,g2⟩:=hs;obtain⟨m,k1,rfl⟩:=EH hr g1 d3;exact⟨_,g2,aB ht hn htM (λk=>ID (L:= []) hc ha hty t1 t7 d1 k1 h k aF) trivial ⟨_,rfl,rfl⟩⟩
   .simp at hs
  .rename_i k1 x k2 y;obtain⟨a,a',ha,ha2,ha3⟩:=vU hargs;obtain⟨d,d1,d2,cx,rfl,d3⟩:=aT hr ha2;obtain⟨d',e1,e2,cy,rfl,e3⟩:=aT hr ha3;rw [show cx=_ from d3]at d1;rw [show cy=_ from e3]at e1;split at hs
   .rename_i ti hti;exact⟨_,hs,aB ht hn htM (λk=>(xt (L:= []) d1 e1 (hG.ti _ _ hti) ha hty).1 hc h k aF) trivial ⟨_,rfl,rfl⟩⟩
   .simp at hs
  .rename_i k1 x k2 y;obtain⟨a,a',ha,ha2,ha3⟩:=vU hargs;obtain⟨d,d1,d2,cx,rfl,d3⟩:=aT hr ha2;obtain⟨d',e1,e2,cy,rfl,e3⟩:=aT hr ha3;rw [show cx=_ from d3]at d1;rw [show cy=_ from e3]at e1;split at hs
   .rename_i ti hti;exact⟨_,hs,aB ht hn htM (λk=>(xt (L:= []) d1 e1 (hG.ti _ _ hti) ha hty).2 hc h k aF) trivial ⟨_,rfl,rfl⟩⟩
   .simp at hs
  .rename_i a x;obtain⟨oa,ox,ha,ha2,ha3⟩:=vU hargs;split at hs
   .rename_i te e z z1 hel hel1;split at hs
    .rename_i hz;exact BY (ty1:=0) hG hr ht hn htM hnM hc ha hty hel hel1 hz.1 hz.2 ha2 ha3 hs
    .simp at hs
   .simp at hs
  .rename_i e0 p x;obtain⟨oa,ox,ha,ha2,ha3⟩:=vU hargs;split at hs
   .rename_i te e z z1 e' ne l hel hel1 hp;split at hs
    .rename_i hz;obtain⟨rfl,hz0⟩:=hz;obtain⟨ti,i2,t1,t2,t3,t4,t5,t6,t7⟩:=bL hG hel;rw [zbE]at hel1;obtain⟨ty1,hty1,hel1⟩:=hel1;obtain⟨te1,e1,zz1⟩:=z1;obtain⟨ti1,i21,s1,s2,_⟩:=bL hG hel1;split at hs
     .rename_i xs ne2 hxs;simp only [zbE]at hs;obtain⟨l2,g0,lm,g1,g2⟩:=hs;obtain⟨he,g0⟩:=aQ g0;cases he;subst g0;obtain⟨d,d1,d2,cx,rfl,d3⟩:=aT hr ha2;obtain⟨d',f1,f2,cy,rfl,f3⟩:=aT hr ha3;have hB:=ah (F:=F) hp (by simp);obtain⟨b1,b2,b3,b4⟩:=hr.bl p _ hB;rw [d3 _ _ _ hB]at d1;obtain⟨x1,x2⟩:=rI hr hxs f3;refine⟨_,g2,rD ht hn hM hp (by simp) trivial trivial ⟨_,_,_,rfl,(zQ g1).symm⟩ trivial (by simp) (λk=>GB (n:=n) (h:=h) d1 f1 x1 b3 g1 t6 s1 s2 hc ha hty hty1 hz0 k) ⟨_,rfl,rfl⟩ ⟨rfl,λhne=> ?_⟩⟩
      have:=b4 hne
      intro he;have h2:=zQ g1;rw [he]at h2;exact this (List.length_eq_zero_iff.1 h2.symm)
     .simp at hs
    .simp at hs
   .simp at hs
  .simp at hs
theorem RDl.append{B:BK}:∀{k1 k2:List KD} {c1 c2:List D},RDl B V k1 c1->RDl B V k2 c2->RDl B V (k1++k2) (c1++c2)
 | [],k2,c1,c2,h1,h2=>by rw [show c1= []from h1];exact h2
 |k::k1,k2,c1,c2,⟨c,s,e1,h1,h3⟩,h2=>⟨c,s++c2,by rw [e1];rfl,h1,h3.append h2⟩
theorem xC{B:BK}:∀ps:List Nat,RDl B V (ps.map λp=> .one (.ptr p 0)) (ps.map λp=> .one (.ptr (V.id p) 0 0))
 | []=>rfl
 |p::ps=>⟨_,_,rfl,⟨_,rfl,rfl⟩,xC ps⟩
theorem nv(hr:Rel F ks V f h){c:Call}{k:FuncId}{args:List KD}(hk:jz F ks c=some (k,args)):∃args',cr c (ov F.nt f)=some (k,args')/\(∀d∈args,ScD ks.nx d)/\RDl (am F ks) V args args':=by
 unfold jz at hk;split at hk
 .rename_i fo hcal;split at hk
  .rename_i k' first cap args0 hf ha;split at hk
   .rename_i hz;simp only [zsI,Prod.mk.injEq]at hk;obtain⟨rfl,rfl⟩:=hk;obtain⟨d,d1,d2,c1,rfl,d3⟩:=aT hr hf;obtain⟨zas,a1,a2,a3⟩:=rA hr ha;rw [show c1=_ from d3]at d1;refine⟨zas,?_,a2,a3⟩;unfold cr;rw [hcal];simp only [a1,d1,zbB,zbS];rw [if_pos hz]
   .simp at hk
  .rename_i k' ps args0 hf ha;simp only [zsI,Prod.mk.injEq]at hk;obtain⟨rfl,rfl⟩:=hk;obtain⟨d,d1,d2,c1,rfl,d3⟩:=aT hr hf;obtain⟨zas,a1,a2,a3⟩:=rA hr ha;rw [show c1=_ from d3]at d1;refine⟨zas++ps.map λp=> .one (.ptr (V.id p) 0 0),?_,?_,a3.append (xC ps)⟩
   .unfold cr;rw [hcal];simp only [a1,d1,zbB,zbS];simp
   .intro x hx;rcases List.mem_append.1 hx with hx|hx
    .exact a2 x hx
    .obtain⟨p,hp,rfl⟩:=List.mem_map.1 hx;exact d2 p hp
  .simp at hk
 .simp at hk
def Ai(kind:Kind)(rs:List TD)(vs:List (Bool×TD))(args:List D)(nid:Nat):Option Eff:=
 match kind with
 | .own=>match rs with
  | [.one (.s true sz l)]=>some {v:= .one (.own nid 0 l.length),upd:= [(nid,.own sz (l.map (·.map (pC true))))]}
  |_=>none
 | .fresh=>some {v:=iF (rs.map (bZ true))}
 | .any=>if args.any iE then none else some {v:=iF (rs.map (bZ (vs.all (·.1))))}
theorem iz{c:Call}{k:FuncId}{args:List D}{vs:List (Bool×TD)}{kind:Kind}{rs:List TD}{nid:Nat}{e:Eff}(hc:aV (.call c)=some c)(hr:cr c (ov F.nt f)=some (k,args))(hv:args.mapM (cl h)=some vs)(hk:cpR E n k (vs.map (·.2))=some (kind,rs))
  (he:Ai kind rs vs args nid=some e):stepG E (cpR E n) none nid (.call c) (aE (tab F.nt f)) h=some e:=by
 rw [lI,hc];show fV (cpR E n) nid c (aE (tab F.nt f)) h=_;unfold fV;rw [fe,hr];simp only [zbB,zbS,hv,hk];exact he
theorem vV{B:BK}{l:List (Bool×List KC)}{ds:List D}(hr:RTs B V l ds):RD B V (Ej l) (iF ds):=by
 match l,hr with
 | [],hr=>rw [show ds= []from hr];exact⟨[],rfl,rfl⟩
 | [x],⟨d,s,e,h1,h2⟩=>rw [e,show s= []from h2];exact yX h1
 |x::y::l,⟨d,s,e,h1,d2,s2,e2,h3,h4⟩=>exact⟨ds,by rw [e,e2];rfl,d,s,e,h1,d2,s2,e2,h3,h4⟩
theorem zb{N:Nat}{l:List (Bool×List KC)}(hs:∀x∈l,Scs N x.2):ScD N (Ej l):=by
 match l,hs with
 | [],hs=>exact hs
 | [x],hs=>exact pX (hs x (by simp))
 |x::y::l,hs=>exact hs
theorem pg{B:BK}{c:KC}{x:C}(hu:nk c=true)(hr:RC B V c x):fm x=false:=by
 cases c with
 |n k y=>rw [show x=_ from hr];rfl
 |b v=>rw [show x=_ from hr];rfl
 |p t P d=>rw [hr.1];rfl
 |bv y=>rw [show x=_ from hr];rfl
 |v y=>rw [show x=_ from hr];rfl
 |nil=>rw [show x=_ from hr];rfl
 |s e fr y=>obtain⟨fl,h1,_⟩:=hr;rw [h1];rfl
 |_=>simp [nk]at hu
theorem ny{B:BK}:∀{cs:List KC} {xs:List C},cs.all nk=true->RCs B V cs xs->xs.any fm=false
 | [],xs,_,h=>by rw [show xs= []from h];rfl
 |c::cs,xs,hu,⟨x,s,e,h1,h2⟩=>by
  simp only [List.all_cons,Bool.and_eq_true]at hu;rw [e,List.any_cons,pg hu.1 h1,ny hu.2 h2];rfl
theorem kI{B:BK}:∀{ds:List KD} {xs:List D},ds.all nl=true->RDl B V ds xs->xs.any iE=false
 | [],xs,_,h=>by rw [show xs= []from h];rfl
 |d::ds,xs,hu,⟨x,s,e,h1,h2⟩=>by
  simp only [List.all_cons,Bool.and_eq_true]at hu;rw [e,List.any_cons,kI hu.2 h2]
  cases d with
  |one c=>obtain⟨c',rfl,hc⟩:=h1;rw [show iE (.one c')=fm c' from rfl,pg hu.1 hc];rfl
  |agg cs=>obtain⟨c',rfl,hc⟩:=h1;rw [show iE (.agg c')=c'.any fm from rfl,ny hu.1 hc];rfl
  |tup ts=>simp [nl]at hu
theorem GC(hG:GOk G E D0)(hD:D0<=n)(hr:Rel F ks V f h)(ht:ks.nx<=tag)(hn:ks.nx<=nid)(htM:tag<M)(hnM:nid<M){c:Call}{k:FuncId}{args:List KD}{en:bW}(hc:aV (.call c)=some c)(hres:jz F ks c=some (k,args))(hen:G.fn k=some en)(hs:yP F ks nid en args κ=some r):∃eff,κ eff=some r/\bG E n F ks V f h M tag nid (.call c) eff:=by
 have hM:ks.nx<=M:=by omega
 obtain⟨args',r1,r2,r3⟩:=nv hr hres
 have hmem:en∈G.fns/\en.k=k:=by
  unfold KG.fn at hen;have h2:=List.find?_some (p:=λe:bW=>Nat.beq e.k k) hen;exact⟨List.mem_of_find?_eq_some hen,Nat.eq_of_beq_eq_true h2⟩
 obtain⟨hd,hok⟩:=hG.fns en hmem.1
 have key:∃a out,gM (am F ks) en.ins args=some a/\en.f a=some out/\κ (IR nid en.out out)=some r/\(∀ts,en.out= .data false ts->args.all nl=true)/\(∀e,en.out≠ .gown e):=by
  unfold yP at hs;split at hs
  .rename_i ts ho;split at hs
   .rename_i hu;simp only [zbE]at hs;obtain⟨a,g1,out,g2,g3⟩:=hs;exact⟨a,out,g1,g2,g3,λ_ _=>hu,λe h=>by rw [ho]at h;cases h⟩
   .simp at hs
  .simp at hs
  .rename_i ho ho2;simp only [zbE]at hs;obtain⟨a,g1,out,g2,g3⟩:=hs;exact⟨a,out,g1,g2,g3,λts h=>absurd h (ho ts),λe h=>absurd h (ho2 e)⟩
 obtain⟨a,out,g1,g2,g3,g4,g5⟩:=key;obtain⟨vs,v1,v2,v3⟩:=lM hr.bls g1 r3;have hrun:=hok (n - en.d) a out g2;rw [Nat.sub_add_cancel (by omega),hmem.2,<-v2]at hrun;refine⟨_,g3,?_⟩;obtain⟨ek,eins,eout,ef,ed⟩:=en;simp only at hrun g4 g5 ⊢
 cases eout with
 |data fr ts=>
  cases fr with
  |true=>exact aB ht hn htM (λq=>iz hc r1 v1 (og hrun) rfl) (zb (rC _ _ ts out)) (vV (nu (λ_=>rfl) ts out))
  |false=>
   obtain⟨fl,hrun⟩:=hrun;have hu:=kI (g4 ts rfl) r3
   cases fl with
   |true=>exact aB ht hn htM (λq=>iz hc r1 v1 (og hrun) rfl) (zb (rC _ _ ts out)) (vV (nu (λ_=>rfl) ts out))
   |false=>exact aB ht hn htM (λq=>iz hc r1 v1 (og hrun) (by unfold Ai;simp only [hu];rfl)) (zb (rC _ _ ts out)) (vV (nu (fl:=vs.all (·.1)) (λh=>by simp at h) ts out))
 |own e=>
  refine iV hM ht hn (λ_=>⟨trivial,by simp⟩) hnM (by simp) λq=> .inl ⟨trivial,_,_,iz hc r1 v1 (og hrun) rfl,⟨_,rfl,?_⟩,?_,by simp⟩
  .rw [List.length_map];exact ez
  .rw [List.map_map];rfl
 |gown e=>exact absurd rfl (g5 e)
 |mown e=>
  cases out with
  |nil=>exact iV hM ht hn (λ_=>⟨trivial,by simp⟩) hnM (by simp) λq=> .inr ⟨by simp [KB.there],_,iz hc r1 v1 (og hrun) rfl,⟨_,rfl,cZ (k:=q)⟩⟩
  |cons y l=>
   refine iV hM ht hn (λ_=>⟨trivial,by simp⟩) hnM (by simp) λq=> .inl ⟨by simp [KB.there],_,_,iz hc r1 v1 (og hrun) rfl,⟨_,rfl,?_⟩,?_⟩
   .rw [List.length_map];exact cZ (k:=q)
   .rw [List.map_map];rfl
theorem uc{c:Call}(hc:∀b,c.callee= .builtin b->False):aV (.call c)=some c:=by
 unfold aV;simp only
theorem rK(hG:GOk G E D0)(hD:D0<=n)(hr:Rel F ks V f h)(ht:ks.nx<=tag)(hn:ks.nx<=nid)(htM:tag<M)(hnM:nid<M)(hs:bq G F ks tag nid op κ=some r):∃eff,κ eff=some r/\bG E n F ks V f h M tag nid op eff:=by
 cases op with
 |move x=>exact Ad hr ht hn htM (.inl rfl) hs
 |assign x=>exact Ad hr ht hn htM (.inr rfl) hs
 |alloc t=>exact Ew hG ht hn htM hnM hs
 |box t x=>exact IV hG hr ht hn htM hnM hs
 |build t parts=>exact EB hG hr ht hn htM hs
 |buildSlice t len parts=>exact BX hG hr ht hn htM hnM hs
 |load t a=>exact Gx hG hr ht hn htM hs
 |store t a x=>exact Eu hG hr ht hn htM hs
 |binOp o t x y s=>exact IX hG hr ht hn htM hs
 |unOp o t x=>exact Gy hr ht hn htM hs
 |convert s t x=>exact yZ hG hr ht hn htM hs
 |makeFunc fn a b=>exact xB hr ht hn htM hs
 |makeSlice t l c=>exact vS hG hr ht hn htM hnM hs
 |slice t x a b c=>exact ED hG hr ht hn htM hs
 |fieldAddr t x m=>exact vQ hG hr ht hn htM hs
 |field t x m=>exact Ey hG hr ht hn htM hs
 |indexAddr t x i=>exact vT hG hr ht hn htM hs
 |index t x i=>exact EE hG hr ht hn htM hs
 |extract x i=>exact yY hr ht hn htM hs
 |call c=>
  simp only [bq]at hs;split at hs
  .rename_i b hc;simp only [zbE]at hs;obtain⟨args,g1,g2⟩:=hs;exact za hG hr ht hn htM hnM hc g1 g2
  .rename_i hc;split at hs
   .rename_i k args hres;split at hs
    .rename_i en hen;exact GC hG hD hr ht hn htM hnM (uc hc) hres hen hs
    .simp at hs
   .simp at hs
 |_=>simp [bq]at hs
end
end K
end Ev
end
noncomputable section
namespace Ev
namespace K
open Go Go.RowKit
structure Ext(F:KF)(ks:KS)(V:Vl)(ks':KS)(V':Vl):Prop where
 nx:ks.nx<=ks'.nx
 agree:Agree ks.nx V V'
 le:LeB ks.nx (am F ks) (am F ks')
 dom:∀p,p<ks.nx->ai ks.bl p=none->ai ks'.bl p=none
theorem Ext.refl(F:KF)(ks:KS)(V:Vl):Ext F ks V ks V:=⟨Nat.le_refl _,Agree.refl _ _,LeB.refl _ _,λp hp h=>h⟩
theorem Ext.trans{F:KF}{ks ks' ks'':KS}{V V' V'':Vl}(h:Ext F ks V ks' V')(h':Ext F ks' V' ks'' V''):Ext F ks V ks'' V'':=
 ⟨Nat.le_trans h.nx h'.nx,h.agree.trans h'.agree h.nx,h.le.trans h'.le h.nx,λp hp hl=>h'.dom p (Nat.lt_of_lt_of_le hp h.nx) (h.dom p hp hl)⟩
def Hc:Blk->Option (Nat×List (List C))
 | .own sz es=>some (sz,es)
 |_=>none
structure KI(h:ak)(u:List (Nat×Blk))(h':ak):Prop where
 out:∀q,(∀x∈u,x.1≠q)->ao h' q=ao h q
 in_:∀x∈u,ao h' x.1=Hc x.2
section
variable {E : Env} {n : Nat} {F : KF} {ks : KS} {V : Vl} {f : Nat → D} {h : ak} {M tag nid : Nat} {op : Op} {G : KG} {D0 : Nat} {R : Type} {r : R}
theorem lO{B:BK}{k:Nat}{b:KB}(hb:RB B V h k b)(ht:b.there):∃z,ao h k=some z:=by
 cases b with
 |box cs=>obtain⟨sz,cs',h1,_⟩:=hb;exact⟨_,h1⟩
 |rows e ne l=>exact⟨_,hb.1⟩
 |mrows e l=>exact⟨_,hb ht⟩
 |dead=>exact ht.elim
theorem Hd{B:BK}{k:Nat}{b:KB}{x:Blk}(hx:BlkIs B V x b)(hg:ao h k=Hc x):RB B V h k b:=by
 cases b with
 |box cs=>obtain⟨sz,cs',rfl,h2⟩:=hx;exact⟨sz,cs',hg,h2⟩
 |rows e ne l=>obtain⟨rfl,h2⟩:=hx;exact⟨hg,h2⟩
 |mrows e l=>rw [show x=_ from hx]at hg;exact λ_=>hg
 |dead=>trivial
theorem rL{e:KE}{p:Nat}{b:KB}(hnew:∀b,e.new=some b->b≠ .dead)(hb:Be F ks nid e p=some b):(p=nid/\e.new=some b)∨(e.upd=some (p,b))∨((∀b',e.new=some b'->p≠nid)/\(∀q b',e.upd=some (q,b')->p≠q)/\am F ks p=some b):=by
 have h1:∀p b,am F {ks with bl:=blU e ks.bl} p=some b->(e.upd=some (p,b))∨((∀q b',e.upd=some (q,b')->p≠q)/\am F ks p=some b):=by
  intro p b hb;unfold blU at hb
  cases hu:e.upd with
  |none=>rw [hu]at hb;exact .inr ⟨λq b' h=>by simp at h,hb⟩
  |some x=>
   obtain⟨q,b'⟩:=x;rw [hu]at hb;simp only at hb;by_cases hd:b'= .dead
   .subst hd;rw [tX]at hb;split at hb
    .simp at hb
    .rename_i hpq;exact .inr ⟨λq' b2 h=>by simp at h;obtain⟨rfl,rfl⟩:=h;exact hpq,hb⟩
   .rw [fj hd]at hb;split at hb
    .rename_i hpq;subst hpq;cases hb;exact .inl rfl
    .rename_i hpq;exact .inr ⟨λq' b2 h=>by simp at h;obtain⟨rfl,rfl⟩:=h;exact hpq,hb⟩
 unfold Be blE at hb
 cases hn:e.new with
 |none=>
  rw [hn]at hb;rcases h1 p b hb with h|h
  .exact .inr (.inl h)
  .exact .inr (.inr ⟨λb' h=>by simp at h,h.1,h.2⟩)
 |some b0=>
  rw [hn]at hb;simp only [fj (hnew b0 hn)]at hb;split at hb
  .rename_i hp;cases hb;exact .inl ⟨hp,rfl⟩
  .rename_i hp;rcases h1 p b hb with h|h
   .exact .inr (.inl h)
   .exact .inr (.inr ⟨λb' h=>hp,h.1,h.2⟩)
def upO(dst:Option Tmp)(v:D)(f:Nat->D):Nat->D:=
 match dst with
 |some d=>up f d v
 |none=>f
theorem rM(hr:Rel F ks V f h){e:KE}{dst:Option Tmp}{k:Nat}{bo:Bool}{v:D}{u:List (Nat×Blk)}{h':ak}(ht:ks.nx<=tag)(hn:ks.nx<=nid)(htM:tag<M)(hnM:nid<M)(hdst:fx F dst=true)
  (hupd:∀p b,e.upd=some (p,b)->∃b0,ai ks.bl p=some b0/\b0≠ .dead/\ScB ks.nx b/\b0.like b) (hnew:∀b,e.new=some b->ScB ks.nx b/\b≠ .dead) (hsc:ScD M (jg tag e.v))
  (hrd:RD (Be F ks nid e) (V.set nid k tag bo) (jg tag e.v) v) (hreal:Es (Be F ks nid e) (V.set nid k tag bo) V ks k e u) (hk:(∃b,e.new=some b)->ao h k=none) (hh:KI h u h'):
  Rel F {yQ dst tag nid e ks with nx:=M} (V.set nid k tag bo) (upO dst v f) h'/\Ext F ks V {yQ dst tag nid e ks with nx:=M} (V.set nid k tag bo):=by
 have hM:ks.nx<=M:=by omega
 have hle:LeB ks.nx (am F ks) (Be F ks nid e):=vN hn (λp b hb=>by obtain⟨b0,h1,h2,_,h4⟩:=hupd p b hb;exact⟨b0,h1,h2,h4⟩) (λb hb=>(hnew b hb).2);have hag:Agree ks.nx V (V.set nid k tag bo):=Vl.set_agree hn ht;obtain⟨uo,un,hu,huo,hun⟩:=hreal;have hblold:∀p b,am F ks p=some b->p<ks.nx/\ScB ks.nx b/\RB (am F ks) V h (V.id p) b:=hr.bl
 have hupdthere:∀p b,e.upd=some (p,b)->b.there->∃b0,am F ks p=some b0/\b0.there:=by
  intro p b hb hth;obtain⟨b0,g1,g2,_,_⟩:=hupd p b hb;rw [hb]at huo;rcases huo with⟨x,_,_,h3⟩|⟨_,h2,_⟩
  .exact⟨b0,ah g1 g2,h3 b0 g1⟩
  .exact absurd hth h2
 -- a block that is there is not the new one
 have hnk:(∃b,e.new=some b)->∀p b,am F ks p=some b->b.there->V.id p≠k:=by
  intro hex p b hb hth he;obtain⟨z,hz⟩:=lO (hblold p b hb).2.2 hth;rw [he,hk hex]at hz;simp at hz
 -- what is not turned
 have hkeep:∀p b,am F ks p=some b->(∀q b',e.upd=some (q,b')->p≠q)->b.there->ao h' (V.id p)=ao h (V.id p):=by
  intro p b hb hq hth;refine hh.out _ λx hx=> ?_;rw [hu,List.mem_append]at hx;rcases hx with hx|hx
  .cases he:e.upd with
   |none=>rw [he]at huo;rw [show uo= []from huo]at hx;simp at hx
   |some y=>
    obtain⟨q,b'⟩:=y;rw [he]at huo;rcases huo with⟨y,h1,h2,h3⟩|⟨h1,_⟩
    .rw [h1,List.mem_singleton]at hx;subst hx;intro heq;obtain⟨b0,g1,g2,_,_⟩:=hupd q b' he;exact hq q b' he (hr.inj p q b b0 hb (ah g1 g2) hth (h3 b0 g1) heq.symm)
    .rw [h1]at hx;simp at hx
  .cases he:e.new with
   |none=>rw [he]at hun;rw [show un= []from hun]at hx;simp at hx
   |some b'=>
    rw [he]at hun;rcases hun with⟨y,h1,_⟩|⟨h1,_⟩
    .rw [h1,List.mem_singleton]at hx;subst hx;exact λheq=>hnk ⟨b',he⟩ p b hb hth heq.symm
    .rw [h1]at hx;simp at hx
 have hidold:∀p,p<ks.nx->(V.set nid k tag bo).id p=V.id p:=λp hp=>(hag p hp).1;refine⟨⟨?_,?_,?_⟩,⟨hM,hag,hle,?_⟩⟩
 .intro i d hd
  have hold:dX F ks i=some d->(∀j,dst=some j->i≠j)->i<F.nt/\ScD M d/\RD (Be F ks nid e) (V.set nid k tag bo) d (upO dst v f i):=by
   intro h1 h2;obtain⟨g1,g2,g3⟩:=hr.sl i d h1;refine⟨g1,g2.mono hM,?_⟩;have g4:=g3.mono g2 hle hag
   cases dst with
   |none=>exact g4
   |some j=>
    show RD _ _ d (up f j v i);unfold up
    have:=h2 j rfl
    rw [show Nat.beq i j=false by cases hb:Nat.beq i j with|true=>exact absurd (Nat.eq_of_beq_eq_true hb) this|false=>rfl];exact g4
  cases dst with
  |none=>exact hold hd (λj hj=>by simp at hj)
  |some j=>
   have hd':aI ((j,jg tag e.v)::ks.sl) F.sl i=some d:=hd;unfold aI at hd';rw [aj]at hd';by_cases hij:i=j
   .subst hij;rw [if_pos rfl]at hd';cases hd';refine⟨by simpa [fx]using hdst,hsc,?_⟩;show RD _ _ _ (up f i v i);unfold up;rw [show Nat.beq i i=true from Nat.beq_refl i];exact hrd
   .rw [if_neg hij]at hd';exact hold hd' (λj' hj'=>by cases hj';exact hij)
 .intro p b hb;have hb':Be F ks nid e p=some b:=hb;rcases rL (λb hb=>(hnew b hb).2) hb' with⟨rfl,h1⟩|h1|⟨h1,h2,h3⟩
  .refine⟨hnM,((hnew b h1).1).mono hM,?_⟩;show RB (Be F ks p e) _ h' ((V.set p k tag bo).id p) b;rw [Vl.set_id];rw [h1]at hun;rcases hun with⟨x,g1,g2,g3⟩|⟨g1,g2⟩
   .exact Hd g2 (hh.in_ (k,x) (by rw [hu,g1];simp))
   .cases b with
    |mrows e l=>exact λhl=>absurd hl g2
    |dead=>trivial
    |box cs=>exact absurd trivial g2
    |rows e ne l=>exact absurd trivial g2
  .obtain⟨b0,g1,g2,g3,g4⟩:=hupd p b h1;obtain⟨e1,e2,e3⟩:=hblold p b0 (ah g1 g2);refine⟨Nat.lt_of_lt_of_le e1 hM,g3.mono hM,?_⟩;show RB (Be F ks nid e) _ h' ((V.set nid k tag bo).id p) b;rw [hidold p e1];rw [h1]at huo;rcases huo with⟨x,k1,k2,k3⟩|⟨k1,k2,k3⟩
   .exact Hd k2 (hh.in_ (V.id p,x) (by rw [hu,k1];simp))
   .cases b with
    |mrows e l=>exact λhl=>absurd hl k2
    |dead=>trivial
    |box cs=>exact absurd trivial k2
    |rows e ne l=>exact absurd trivial k2
  .obtain⟨e1,e2,e3⟩:=hblold p b h3;refine⟨Nat.lt_of_lt_of_le e1 hM,e2.mono hM,?_⟩;show RB (Be F ks nid e) _ h' ((V.set nid k tag bo).id p) b;rw [hidold p e1];have e4:=e3.mono e2 hle hag;by_cases hth:b.there
   .exact e4.heap (hkeep p b h3 h2 hth)
   .cases b with
    |mrows e l=>exact λhl=>absurd hl hth
    |dead=>trivial
    |box cs=>exact absurd trivial hth
    |rows e ne l=>exact absurd trivial hth
 .intro p q b b' hp hq tp tq hid
  have key:∀p b,Be F ks nid e p=some b->b.there->(p=nid/\(V.set nid k tag bo).id p=k/\∃b,e.new=some b)∨(p<ks.nx/\(V.set nid k tag bo).id p=V.id p/\∃b0,am F ks p=some b0/\b0.there):=by
   intro p b hb hth;rcases rL (λb hb=>(hnew b hb).2) hb with⟨rfl,h1⟩|h1|⟨h1,h2,h3⟩
   .exact .inl ⟨rfl,Vl.set_id,b,h1⟩
   .obtain⟨b0,g1,g2⟩:=hupdthere p b h1 hth;exact .inr ⟨(hblold p b0 g1).1,hidold p (hblold p b0 g1).1,b0,g1,g2⟩
   .exact .inr ⟨(hblold p b h3).1,hidold p (hblold p b h3).1,b,h3,hth⟩
  rcases key p b hp tp with⟨rfl,e1,hx1⟩|⟨l1,e1,b0,g1,g2⟩
  .rcases key q b' hq tq with⟨rfl,e2,hx2⟩|⟨l2,e2,b1,g3,g4⟩
   .rfl
   .rw [e1,e2]at hid;exact absurd hid.symm (hnk hx1 q b1 g3 g4)
  .rcases key q b' hq tq with⟨rfl,e2,hx2⟩|⟨l2,e2,b1,g3,g4⟩
   .rw [e1,e2]at hid;exact absurd hid (hnk hx2 p b0 g1 g2)
   .rw [e1,e2]at hid;exact hr.inj p q b0 b1 g1 g3 g2 g4 hid
 .intro p hp hl;show ai (blE e nid ks.bl) p=none
  have h1:ai (blU e ks.bl) p=none:=by
   unfold blU
   cases hu':e.upd with
   |none=>exact hl
   |some x=>
    obtain⟨q,b'⟩:=x;obtain⟨b0,g1,_⟩:=hupd q b' hu';simp only [aj];rw [if_neg (λhe=>by subst he;rw [g1]at hl;simp at hl)];exact hl
  unfold blE
  cases hn':e.new with
  |none=>exact h1
  |some b=>simp only [aj];rw [if_neg (by omega)];exact h1
end
end K
end Ev
end
noncomputable section
namespace Ev
namespace K
open Go Go.RowKit
theorem lP:∀(u:List (Nat×Blk)) (h:ak),(u.map (·.1)).Nodup->KI h u (Ev.apply h u)
 | [],h,hn=>⟨λq _=>rfl,λx hx=>by simp at hx⟩
 |x::u,h,hn=>by
  rw [List.map_cons,List.nodup_cons]at hn;obtain⟨h1,h2⟩:=lP u (av h x.1 x.2) hn.2;refine⟨λq hq=> ?_,λy hy=> ?_⟩
  .show ao (Ev.apply (av h x.1 x.2) u) q=_;rw [h1 q (λy hy=>hq y (by simp [hy])),re,if_neg (λe=>hq x (by simp) e.symm)]
  .show ao (Ev.apply (av h x.1 x.2) u) y.1=_;rcases List.mem_cons.1 hy with rfl|hy
   .rw [h1 y.1 (λz hz he=>hn.1 (he▸List.mem_map_of_mem hz)),re,if_pos rfl];rfl
   .exact h2 y hy
structure EI(F:KF)(ks:KS)(V:Vl)(h:ak):Prop where
 bl:∀p b,am F ks p=some b->p<ks.nx/\ScB ks.nx b/\RB (am F ks) V h (V.id p) b
 inj:∀p q b b',am F ks p=some b->am F ks q=some b'->b.there->b'.there->V.id p=V.id q->p=q
def zc(E:Env)(n:Nat)(call:tR):Prop:=∀(R:Type) (F:KF) (k:FuncId) (args:List KD) (ks:KS) (κ:KD->KS->Option R) (r:R) (V:Vl) (h:ak) (args':List D),call R F k args ks κ=some r->EI F ks V h->(∀d∈args,ScD ks.nx d)->RDl (am F ks) V args args'->
 ∃n0 fi,n=n0+1/\E.fn k=some fi/\(E.ax k=some λ_=>none)/\args'.length<=fi.nt/\WpC E nY n0 fi.body (λe s=>(e= .normal∨e= .ret)/\∃ds,fi.results.mapM (bS E s)=some ds/\∃ks' V' v,κ v ks'=some r/\ScD ks'.nx v/\RD (am F ks') V' v (iF ds)/\EI F ks' V' s.h/\Ext F ks V ks' V') {t:=tab fi.nt (fA args'),h:=h}
section
variable {E : Env} {y : Nat → dC} {n : Nat} {F : KF} {ks : KS} {V : Vl} {f : Nat → D} {h : ak} {M tag nid : Nat} {op : Op} {G : KG} {D0 : Nat} {R : Type} {r : R}
theorem Rel.b(hr:Rel F ks V f h):EI F ks V h:=⟨hr.bl,hr.inj⟩
theorem Rel.heap{h':ak}(hr:Rel F ks V f h)(hh:∀k,ao h' k=ao h k):Rel F ks V f h':=⟨hr.sl,λp b hb=>⟨(hr.bl p b hb).1,(hr.bl p b hb).2.1,(hr.bl p b hb).2.2.heap (hh _)⟩,hr.inj⟩
theorem rN{e:KE}{B':BK}{V':Vl}{k:Nat}{u:List (Nat×Blk)}(hr:Rel F ks V f h)(hupd:∀p b,e.upd=some (p,b)->∃b0,ai ks.bl p=some b0/\b0≠ .dead/\ScB ks.nx b/\b0.like b)(hreal:Es B' V' V ks k e u)(hk:ao h k=none):(u.map (·.1)).Nodup:=by
 obtain⟨uo,un,rfl,huo,hun⟩:=hreal
 have h2:un= []∨∃x,un= [(k,x)]:=by
  cases he:e.new with
  |none=>rw [he]at hun;exact .inl hun
  |some b=>rw [he]at hun;rcases hun with⟨x,h1,_⟩|⟨h1,_⟩;exact .inr ⟨x,h1⟩;exact .inl h1
 have h1:uo= []∨∃p x,uo= [(V.id p,x)]/\V.id p≠k:=by
  cases he:e.upd with
  |none=>rw [he]at huo;exact .inl huo
  |some z=>
   obtain⟨p,b⟩:=z;rw [he]at huo;rcases huo with⟨x,g1,g2,g3⟩|⟨g1,_⟩
   .obtain⟨b0,k1,k2,_,_⟩:=hupd p b he;obtain⟨w,hw⟩:=lO (hr.bl p b0 (ah k1 k2)).2.2 (g3 b0 k1);exact .inr ⟨p,x,g1,λheq=>by rw [heq,hk]at hw;simp at hw⟩
   .exact .inl g1
 rcases h1 with rfl|⟨p,x,rfl,hp⟩
 .rcases h2 with rfl|⟨y,rfl⟩<;>simp
 .rcases h2 with rfl|⟨y,rfl⟩
  .simp
  .simp [hp]
theorem nz{α β:Type}(g:α->β):∀(l:List (Nat×α)) (i:Nat),ai (l.map λx=>(x.1,g x.2)) i=(ai l i).map g
 | [],i=>rfl
 |x::l,i=>by
  show cond (Nat.beq x.1 i) (some (g x.2)) (ai (l.map λx=>(x.1,g x.2)) i)=(cond (Nat.beq x.1 i) (some x.2) (ai l i)).map g
  cases Nat.beq x.1 i with
  |true=>rfl
  |false=>exact nz g l i
theorem iW{tag:Nat}{v:Bool}{p:Nat}:am F (subst tag v ks) p=am F ks p∨∃cs,am F ks p=some (.box cs)/\am F (subst tag v ks) p=some (.box (cs.map (jA tag v))):=by
 unfold am aI subst;simp only [nz]
 cases hl:ai ks.bl p with
 |none=>exact .inl rfl
 |some b=>
  cases b with
  |box cs=>exact .inr ⟨cs,rfl,rfl⟩
  |rows e ne l=>exact .inl rfl
  |mrows e l=>exact .inl rfl
  |dead=>exact .inl rfl
theorem BZ{tag:Nat}{v:Bool}{N:Nat}:LeB N (am F ks) (am F (subst tag v ks)):=λp hp=>by
 rcases iW (F:=F) (ks:=ks) (tag:=tag) (v:=v) (p:=p)with h1|⟨cs,h1,h2⟩
 .rw [h1];exact⟨λe ne l h=>⟨e,ne,l,h,rfl⟩,λe l h=>⟨e,l,h,rfl⟩⟩
 .rw [h2];exact⟨λe ne l h=>by simp at h,λe l h=>by simp at h⟩
theorem rO{B:BK}{tag:Nat}{v:Bool}(hv:V.bo tag=v){c:KC}{x:C}(hr:RC B V c x):RC B V (jA tag v c) x:=by
 cases c with
 |p t P d=>
  show RC B V (cond (Nat.beq t tag) (.b v) (.p t P d)) x
  cases hb:Nat.beq t tag with
  |true=>
   have:=Nat.eq_of_beq_eq_true hb
   subst this;show x=bC v;rw [hr.1,hv]
  |false=>exact hr
 |_=>exact hr
theorem ud{N tag:Nat}{v:Bool}{c:KC}(hs:Sc N c):Sc N (jA tag v c):=by
 cases c with
 |p t P d=>
  show Sc N (cond (Nat.beq t tag) (.b v) (.p t P d))
  cases Nat.beq t tag with
  |true=>trivial
  |false=>exact hs
 |_=>exact hs
theorem jE{B:BK}{tag:Nat}{v:Bool}(hv:V.bo tag=v):∀{cs:List KC} {xs:List C},RCs B V cs xs->RCs B V (cs.map (jA tag v)) xs
 | [],xs,h=>h
 |c::cs,xs,⟨x,s,e,h1,h2⟩=>⟨x,s,e,rO hv h1,jE hv h2⟩
theorem rP{N tag:Nat}{v:Bool}{cs:List KC}(hs:Scs N cs):Scs N (cs.map (jA tag v)):=λc hc=>by
 obtain⟨c0,h1,rfl⟩:=List.mem_map.1 hc;exact ud (hs c0 h1)
theorem ue{tag:Nat}{v:Bool}(hv:V.bo tag=v)(hr:Rel F ks V f h):Rel F (subst tag v ks) V f h/\Ext F ks V (subst tag v ks) V:=by
 have hle:∀N,LeB N (am F ks) (am F (subst tag v ks)):=λN=>BZ;refine⟨⟨?_,?_,?_⟩,⟨Nat.le_refl _,Agree.refl _ _,hle _,λp hp hl=>by show ai (ks.bl.map λx=>(x.1,Ek tag v x.2)) p=none;rw [nz,hl];rfl⟩⟩
 .intro i d hd;unfold dX aI subst at hd;simp only [nz]at hd
  cases hl:ai ks.sl i with
  |none=>
   rw [hl]at hd;obtain⟨g1,g2,g3⟩:=hr.sl i d (by unfold dX aI;rw [hl];exact hd);exact⟨g1,g2,g3.mono g2 (hle _) (Agree.refl _ _)⟩
  |some d0=>
   rw [hl]at hd;cases hd;obtain⟨g1,g2,g3⟩:=hr.sl i d0 (by unfold dX aI;rw [hl]);have g4:=g3.mono g2 (hle _) (Agree.refl _ _)
   cases d0 with
   |one c=>obtain⟨c',e1,e2⟩:=g4;exact⟨g1,ud g2,c',e1,rO hv e2⟩
   |agg cs=>obtain⟨c',e1,e2⟩:=g4;exact⟨g1,rP g2,c',e1,jE hv e2⟩
   |tup ts=>exact⟨g1,g2,g4⟩
 .intro p b hb;rcases iW (F:=F) (ks:=ks) (tag:=tag) (v:=v) (p:=p)with h1|⟨cs,h1,h2⟩
  .rw [h1]at hb;obtain⟨g1,g2,g3⟩:=hr.bl p b hb;exact⟨g1,g2,g3.mono g2 (hle _) (Agree.refl _ _)⟩
  .rw [h2]at hb;cases hb;obtain⟨g1,g2,g3⟩:=hr.bl p _ h1;obtain⟨sz,cs',e1,e2⟩:=g3.mono g2 (hle _) (Agree.refl _ _);exact⟨g1,rP g2,sz,cs',e1,jE hv e2⟩
 .intro p q b b' hp hq tp tq hid
  have key:∀p b,am F (subst tag v ks) p=some b->b.there->∃b0,am F ks p=some b0/\b0.there:=by
   intro p b hb ht;rcases iW (F:=F) (ks:=ks) (tag:=tag) (v:=v) (p:=p)with h1|⟨cs,h1,h2⟩
   .exact⟨b,h1▸hb,ht⟩
   .exact⟨_,h1,trivial⟩
  obtain⟨b0,g1,g2⟩:=key p b hp tp;obtain⟨b1,g3,g4⟩:=key q b' hq tq;exact hr.inj p q b0 b1 g1 g3 g2 g4 hid
def Th(F:KF)(ks ks':KS):Prop:=∀p b,am F ks' p=some b->b.there->∃b0,am F ks p=some b0/\b0.there
theorem Th.refl(F:KF)(ks:KS):Th F ks ks:=λp b h t=>⟨b,h,t⟩
theorem Th.trans{ks' ks'':KS}(h:Th F ks ks')(h':Th F ks' ks''):Th F ks ks'':=λp b hb ht=>let⟨b0,g1,g2⟩:=h' p b hb ht;h p b0 g1 g2
theorem Th.subst{tag:Nat}{v:Bool}:Th F ks (K.subst tag v ks):=λp b hb ht=>by
 rcases iW (F:=F) (ks:=ks) (tag:=tag) (v:=v) (p:=p)with h1|⟨cs,h1,h2⟩
 .exact⟨b,h1▸hb,ht⟩
 .exact⟨_,h1,trivial⟩
theorem vW{κ:Bool->KS->Option R}{c:KC}{c':C}(hr:Rel F ks V f h)(hc:RC (am F ks) V c c')(hs:kIf c ks κ=some r):∃b ks',κ b ks'=some r/\c'=bC b/\Rel F ks' V f h/\Ext F ks V ks' V/\Th F ks ks':=by
 unfold kIf at hs;split at hs
 .exact⟨_,ks,hs,hc,hr,Ext.refl _ _ _,Th.refl _ _⟩
 .rename_i tag P d;by_cases hP:P
  .rw [if_pos hP]at hs;have hb:V.bo tag=true:=by rw [hc.2,decide_eq_true hP]
   obtain⟨g1,g2⟩:=ue hb hr;exact⟨true,_,hs,by rw [hc.1,hb],g1,g2,Th.subst⟩
  .rw [if_neg hP]at hs;have hb:V.bo tag=false:=by rw [hc.2,decide_eq_false hP]
   obtain⟨g1,g2⟩:=ue hb hr;exact⟨false,_,hs,by rw [hc.1,hb],g1,g2,Th.subst⟩
 .rename_i x
  cases x with
  |true=>exact⟨true,ks,hs,hc,hr,Ext.refl _ _ _,Th.refl _ _⟩
  |false=>exact⟨false,ks,hs,hc,hr,Ext.refl _ _ _,Th.refl _ _⟩
 .simp at hs
theorem Ja{κ:Bool->KS->Option R}{c:KC}{c':C}(hr:Rel F ks V f h)(hc:RC (am F ks) V c c')(hs:kIf c ks κ=some r):∃b ks',κ b ks'=some r/\c'=bC b/\Rel F ks' V f h/\Ext F ks V ks' V:=let⟨b,ks',h1,h2,h3,h4,_⟩:=vW hr hc hs;⟨b,ks',h1,h2,h3,h4⟩
theorem uf{κ:Bool->KS->Option R}{ops:Array Oper}{o:Oper}(hr:Rel F ks V f h)(hs:tQ F ops.toList o ks κ=some r):∃b ks',κ b ks'=some r/\iw ops o F.nt f=some b/\fx F o.dst=true/\Rel F ks' V f h/\Ext F ks V ks' V/\Th F ks ks':=by
 unfold tQ at hs
 cases hd:fx F o.dst with
 |false=>rw [hd]at hs;simp at hs
 |true=>
  rw [hd]at hs;simp only [cond_true]at hs;split at hs
  .rename_i hg;exact⟨true,ks,hs,by unfold iw;rw [hg],rfl,hr,Ext.refl _ _ _,Th.refl _ _⟩
  .rename_i j w hg;split at hs
   .rename_i d hdd
    have hov:∀x,dX F ks d=some x->ov F.nt f (.tmp d)=some (f d):=λx hx=>by
     show cond (Nat.blt d F.nt) (some (f d)) none=_;rw [yW (hr.sl d x hx).1];rfl
    split at hs
    .rename_i c hx;obtain⟨c',e1,e2⟩:=(hr.sl d _ hx).2.2;obtain⟨b,ks',g1,rfl,g3,g4⟩:=vW hr e2 hs;refine⟨b==w,ks',g1,?_,rfl,g3,g4⟩;unfold iw;rw [hg];simp only [hdd,hov _ hx,e1];rfl
    .rename_i hx;obtain⟨ds,e1,e2⟩:=(hr.sl d _ hx).2.2;refine⟨false,ks,hs,?_,rfl,hr,Ext.refl _ _ _,Th.refl _ _⟩;unfold iw;rw [hg];simp only [hdd,hov _ hx,e1,show ds= []from e2];rfl
    .simp at hs
   .simp at hs
theorem xD{κ:Bool->KS->Option R}{ops:Array Oper}{o:Oper}(hr:Rel F ks V f h)(hs:tQ F ops.toList o ks κ=some r):∃b ks',κ b ks'=some r/\iw ops o F.nt f=some b/\fx F o.dst=true/\Rel F ks' V f h/\Ext F ks V ks' V:=let⟨b,ks',h1,h2,h3,h4,h5,_⟩:=uf hr hs;⟨b,ks',h1,h2,h3,h4,h5⟩
theorem ug{κ:Op->KS->Option R}{op:Op}(hr:Rel F ks V f h)(hs:tP F op ks κ=some r):∃op' ks',κ op' ks'=some r/\(∀nid H,stepG E (cpR E n) none nid op (aE (tab F.nt f)) H=stepG E (cpR E n) none nid op' (aE (tab F.nt f)) H)/\aV op=aV op'/\Rel F ks' V f h/\Ext F ks V ks' V/\Th F ks ks':=by
 unfold tP at hs;split at hs
 .rename_i c a b;split at hs
  .rename_i c0 hc;obtain⟨d,d1,d2,c',rfl,d3⟩:=aT hr hc;obtain⟨t,ks',g1,rfl,g3,g4⟩:=vW hr d3 hs;refine⟨_,ks',g1,λnid H=> ?_,rfl,g3,g4⟩;rw [Iy,DI,bm,d1,bm,bm,bm];cases t<;>rfl
  .simp at hs
 .exact⟨op,ks,hs,λ_ _=>rfl,rfl,hr,Ext.refl _ _ _,Th.refl _ _⟩
theorem xE{κ:Op->KS->Option R}{op:Op}(hr:Rel F ks V f h)(hs:tP F op ks κ=some r):∃op' ks',κ op' ks'=some r/\(∀nid H,stepG E (cpR E n) none nid op (aE (tab F.nt f)) H=stepG E (cpR E n) none nid op' (aE (tab F.nt f)) H)/\aV op=aV op'/\Rel F ks' V f h/\Ext F ks V ks' V:=let⟨b,ks',h1,h2,h3,h4,h5,_⟩:=ug hr hs;⟨b,ks',h1,h2,h3,h4,h5⟩
theorem xF{ops:Array Oper}{o:Oper}{rr:List Oper}{K:St->Prop}{d nt:Nat}{c:Call}{k:FuncId}{args:List D}{fi:FI}{H:ak}(hw:iw ops o nt f=some true)(hc:aV o.op=some c)(hr:cr c (ov nt f)=some (k,args))(hu:E.ax k=some λ_=>none)(hf:E.fn k=some fi)(hl:args.length<=fi.nt)(hd:o.dst=some d)(hn:Nat.blt d nt=true)
  (h:WpC E nY n fi.body (GY E y (n+1) nt ops rr K f d fi.results) {t:=tab fi.nt (fA args),h:=H}):gT E y (n+1) ops (o::rr) K {t:=tab nt f,h:=H}:=by
 obtain⟨e,s',⟨M,h1⟩,h2,ds,h3,h4⟩:=h;refine tI (s1:={t:=tab nt (up f d (iF ds)),h:=s'.h}) ⟨M,λm hm=> ?_⟩ h4;unfold AC
 have hs:step E (bH E y m (n+1)).1 ops H.length o (aE (tab nt f)) H=none:=by
  rw [BO hw hc];unfold fV;rw [fe,hr];simp only [zbB,zbS]
  cases args.mapM (cl H)with
  |none=>rfl
  |some vs=>
   have hn:(bH E y m (n+1)).1 k (vs.map (·.2))=none:=by
    show(match E.ax k with
     |some F=>F _
     |none=>_)=none
    rw [hu]
   simp only [zbS,hn];rfl
 simp only;rw [hs];have hev:=h1 m hm
 have hsc:zm (bH E y m (n+1)).2 ops o {t:=tab nt f,h:=H}=some {t:=tab nt (up f d (iF ds)),h:=s'.h}:=by
  unfold zm;rw [oX hw];simp only [zbB,zbS,if_true,hc]
  have hr':cr c (opnd (tab nt f))=some (k,args):=by
   show cr c (ay (aE (tab nt f)))=_;rw [fe];exact hr
  rw [hr']
  have hcall:(bH E y m (n+1)).2.f k args H=some (iF ds,s'.h):=by
   show((E.fn k).bind λf=>(uB E (aL E m n).1 ⟨(aL E m n).2.1,(aL E m n).2.2,noY⟩ m f args H).bind λx=>some (iF x.1,x.2))=_;rw [hf];simp only [zbS]
   have:uB E (aL E m n).1 ⟨(aL E m n).2.1,(aL E m n).2.2,noY⟩ m fi args H=some (ds,s'.h):=by
    unfold uB;rw [IN hl];simp only [bH]at hev;rw [hev];rcases h2 with rfl|rfl<;>simp [h3]
   rw [this];rfl
  simp only [zbS,hcall,hd,jk,nc,jx hn,if_true,pT,ri]
 rw [hsc];rfl
theorem xG{n0:Nat}{ops:Array Oper}{o:Oper}{rr:List Oper}{K:St->Prop}{d nt:Nat}{c:Call}{k:FuncId}{args:List D}{fi:FI}{H:ak}(hn0:n=n0+1)(hw:iw ops o nt f=some true)(hc:aV o.op=some c)(hr:cr c (ov nt f)=some (k,args))(hu:E.ax k=some λ_=>none)(hf:E.fn k=some fi)(hl:args.length<=fi.nt)(hd:o.dst=some d)(hn:Nat.blt d nt=true)
  (h:WpC E nY n0 fi.body (GY E y n nt ops rr K f d fi.results) {t:=tab fi.nt (fA args),h:=H}):gT E y n ops (o::rr) K {t:=tab nt f,h:=H}:=by
 subst hn0;exact xF hw hc hr hu hf hl hd hn h
def Post(F:KF)(ks:KS)(V:Vl)(κ:KS->Option R)(r:R)(s:St):Prop:=∃ks' V' f',s.t=tab F.nt f'/\Rel F ks' V' f' s.h/\κ ks'=some r/\Ext F ks V ks' V'
theorem Post.ext{κ:KS->Option R}{ks1:KS}{V1:Vl}{s:St}(he:Ext F ks V ks1 V1)(h:Post F ks1 V1 κ r s):Post F ks V κ r s:=let⟨ks',V',f',h1,h2,h3,h4⟩:=h;⟨ks',V',f',h1,h2,h3,he.trans h4⟩
theorem jX{ops:Array Oper}{l:List Oper}{K K':St->Prop}{s:St}(h:gT E y n ops l K s)(hk:∀s,K s->K' s):gT E y n ops l K' s:=let⟨s',h1,h2⟩:=h;⟨s',h1,hk _ h2⟩
theorem rQ{dst:Option Tmp}(hr:Rel F ks V f h)(hd:fx F dst=true):Rel F (tO dst ks) V (upO dst bu f) h/\Ext F ks V (tO dst ks) V:=by
 refine⟨⟨?_,hr.bl,hr.inj⟩,⟨Nat.le_refl _,Agree.refl _ _,LeB.refl _ _,λp hp hl=>hl⟩⟩;intro i d hd'
 cases dst with
 |none=>exact hr.sl i d hd'
 |some j=>
  have h1:aI ((j,kUn)::ks.sl) F.sl i=some d:=hd';unfold aI at h1;rw [aj]at h1;show i<F.nt/\_/\RD _ _ d (up f j bu i);unfold up;by_cases hij:i=j
  .subst hij;rw [if_pos rfl]at h1;cases h1;rw [show Nat.beq i i=true from Nat.beq_refl i];exact⟨by simpa [fx]using hd,(λx hx=>by simp at hx),[],rfl,rfl⟩
  .rw [if_neg hij]at h1;rw [show Nat.beq i j=false by cases hb:Nat.beq i j with|true=>exact absurd (Nat.eq_of_beq_eq_true hb) hij|false=>rfl];exact hr.sl i d h1
theorem Ca{ops:Array Oper}{o:Oper}{rr:List Oper}{K:St->Prop}(hw:iw ops o F.nt f=some false)(hd:fx F o.dst=true)(hk:gT E y n ops rr K {t:=tab F.nt (upO o.dst bu f),h:=h}):gT E y n ops (o::rr) K {t:=tab F.nt f,h:=h}:=by
 obtain⟨g,g1,g2⟩:=jw hw
 cases ho:o.dst with
 |none=>rw [ho]at hk;exact tK g1 ho (fT g2) (jS _) hk
 |some d=>
  rw [ho]at hk hd;exact xn g1 ho (jx (by simpa [fx]using hd)) (fT g2) (jS _) (by rw [ri];exact hk)
theorem GD{ops:Array Oper}{o:Oper}{rr:List Oper}{K:St->Prop}{v:D}{u:List (Nat×Blk)}(hw:iw ops o F.nt f=some true)(hd:fx F o.dst=true)(hs:stepG E (cpR E n) none h.length o.op (aE (tab F.nt f)) h=some ⟨v,u⟩)(hk:gT E y n ops rr K {t:=tab F.nt (upO o.dst v f),h:=Ev.apply h u}):gT E y n ops (o::rr) K {t:=tab F.nt f,h:=h}:=by
 obtain⟨g,g1,g2⟩:=jw hw
 cases ho:o.dst with
 |none=>rw [ho]at hk;exact tK g1 ho ((nd g2).trans hs) rfl hk
 |some d=>
  rw [ho]at hk hd;exact xn g1 ho (jx (by simpa [fx]using hd)) ((nd g2).trans hs) rfl (by rw [ri];exact hk)
theorem rR:ao h h.length=none:=by
 unfold ao;rw [List.getElem?_eq_none (Nat.le_refl _)]
theorem nA(hG:GOk G E D0)(hD:D0<=n){call:tR}(hcall:zc E n call){ops:Array Oper}{κ:KS->Option R}:∀(l:List Oper) {ks:KS} {V:Vl} {f:Nat->D} {h:ak},sL G call F ops.toList κ l ks=some r->Rel F ks V f h->gT E y n ops l (Post F ks V κ r) {t:=tab F.nt f,h:=h}
 | [],ks,V,f,h,hs,hr=>DM ⟨ks,V,f,rfl,hr,hs,Ext.refl _ _ _⟩
 |o::l,ks,V,f,h,hs,hr=>by
  unfold sL at hs;obtain⟨b,ks1,g1,g2,g3,g4,g5⟩:=xD hr hs
  cases b with
  |false=>
   simp only [cond_false]at g1;obtain⟨k1,k2⟩:=rQ g4 g3;exact Ca g2 g3 (jX (nA hG hD hcall l g1 k1) λs hs=>hs.ext (g5.trans k2))
  |true=>
   simp only [cond_true]at g1;obtain⟨op',ks2,k1,k2,k3,k4,k5⟩:=xE (E:=E) (n:=n) g4 g1;split at k1
   ·-- followed
    rename_i k args hfol;split at k1
    .rename_i d hd;unfold rt at hfol;split at hfol
     .rename_i c;split at hfol
      .simp at hfol
      .rename_i hcal;split at hfol
       .rename_i k' args' hres;split at hfol
        .rename_i fi0 hfi;simp only [zsI,Prod.mk.injEq]at hfol;obtain⟨rfl,rfl⟩:=hfol;obtain⟨zas,r1,r2,r3⟩:=nv k4 hres;obtain⟨n0,fi,hn0,e1,e2,e3,e4⟩:=hcall R F k' args' ks2 _ r V h zas k1 k4.b r2 r3;have hdn:Nat.blt d F.nt=true:=by rw [hd]at g3;simpa [fx]using g3
         refine xG hn0 g2 (k3.trans (uc hcal)) r1 e2 e1 e3 hd hdn (e4.mono λe s hs=> ?_);obtain⟨q1,ds,q2,ks',V',v,q3,q4,q5,q6,q7⟩:=hs;refine⟨q1,ds,q2,?_⟩
         have hrel:Rel F {ks' with sl:=(d,v)::ks2.sl} V' (up f d (iF ds)) s.h:=by
          refine⟨?_,q6.bl,q6.inj⟩;intro i x hx;have h1:aI ((d,v)::ks2.sl) F.sl i=some x:=hx;unfold aI at h1;rw [aj]at h1;unfold up;by_cases hij:i=d
          .subst hij;rw [if_pos rfl]at h1;cases h1;rw [show Nat.beq i i=true from Nat.beq_refl i];exact⟨by simpa using hdn,q4,q5⟩
          .rw [if_neg hij]at h1;rw [show Nat.beq i d=false by cases hb:Nat.beq i d with|true=>exact absurd (Nat.eq_of_beq_eq_true hb) hij|false=>rfl];obtain⟨w1,w2,w3⟩:=k4.sl i x h1;exact⟨w1,w2.mono q7.nx,w3.mono w2 q7.le q7.agree⟩
         exact jX (nA hG hD hcall l q3 hrel) λs hs=>hs.ext (g5.trans (k5.trans (q7.trans (show Ext F ks' V' {ks' with sl:=(d,v)::ks2.sl} V' from⟨Nat.le_refl _,Agree.refl _ _,LeB.refl _ _,λp hp hl=>hl⟩))))
        .simp at hfol
       .simp at hfol
     .simp at hfol
    .simp at k1
   .obtain⟨e,e1,e2⟩:=rK (M:=ks2.nx+2) hG hD k4 (Nat.le_refl _) (Nat.le_succ _) (by omega) (by omega) k1;obtain⟨bo,hrun⟩:=e2.run;obtain⟨v,u,s1,s2,s3⟩:=hrun h.length;obtain⟨w1,w2⟩:=rM (M:=ks2.nx+2) k4 (Nat.le_refl _) (Nat.le_succ _) (by omega) (by omega) g3 e2.upd e2.new e2.sc s2 s3 (λ_=>rR) (lP u h (rN k4 e2.upd s3 rR));exact GD g2 g3 ((k2 _ _).trans s1) (jX (nA hG hD hcall l e1 w1) λs hs=>hs.ext (g5.trans (k5.trans w2)))
theorem jY(hG:GOk G E D0)(hD:D0<=n){ops:Array Oper}{κ:KS->Option R}{b:Nat}:∀(l:List Oper) (i:Nat) {ks:KS} {V:Vl} {f:Nat->D},jB G F ops.toList κ l ks=some r->Rel F ks V f h->bP (λt=>Post F ks V κ r {t,h}) (evR E (cpR E n) ops h b i l (tab F.nt f))
 | [],i,ks,V,f,hs,hr=>⟨ks,V,f,rfl,hr,hs,Ext.refl _ _ _⟩
 |o::l,i,ks,V,f,hs,hr=>by
  unfold jB at hs;obtain⟨bb,ks1,g1,g2,g3,g4,g5⟩:=xD hr hs;obtain⟨g,gg1,gg2⟩:=jw g2
  cases bb with
  |false=>
   simp only [cond_false]at g1;obtain⟨k1,k2⟩:=rQ g4 g3;have ih:=jY (b:=b) hG hD l (i+1) g1 k1
   have ih':bP (λt=>Post F ks V κ r {t,h}) (evR E (cpR E n) ops h b (i+1) l (tab F.nt (upO o.dst bu f))):=by
    revert ih
    cases evR E (cpR E n) ops h b (i+1) l (tab F.nt (upO o.dst bu f))with
    |none=>exact id
    |some t=>exact λhp=>hp.ext (g5.trans k2)
   cases ho:o.dst with
   |none=>rw [ho]at ih';exact DE gg1 ho (fT gg2) ih'
   |some d=>
    rw [ho]at ih' g3;exact GV gg1 ho (jx (by simpa [fx]using g3)) (fT gg2) (by rw [ri];exact ih')
  |true=>
   simp only [cond_true]at g1;obtain⟨op',ks2,k1,k2,k3,k4,k5⟩:=xE (E:=E) (n:=n) g4 g1;obtain⟨e,e1,e2⟩:=rK (M:=ks2.nx+2) hG hD k4 (Nat.le_refl _) (Nat.le_succ _) (by omega) (by omega) k1;obtain⟨bo,hrun⟩:=e2.run;obtain⟨v,u,s1,s2,s3⟩:=hrun (b+i);split at e1
   .rename_i hu hn
    have hu0:u= []:=by
     obtain⟨uo,un,h1,h2,h3⟩:=s3;rw [hu]at h2;rw [hn]at h3;rw [h1,show uo= []from h2,show un= []from h3];rfl
    subst hu0
    -- nothing is made:any new number serves
    obtain⟨v',u',t1,t2,t3⟩:=hrun h.length
    have hu1:u'= []:=by
     obtain⟨uo,un,h1,h2,h3⟩:=t3;rw [hu]at h2;rw [hn]at h3;rw [h1,show uo= []from h2,show un= []from h3];rfl
    subst hu1;obtain⟨w1,w2⟩:=rM (M:=ks2.nx+2) k4 (Nat.le_refl _) (Nat.le_succ _) (by omega) (by omega) g3 e2.upd e2.new e2.sc (k:=b+i) s2 s3 (h:=h) (h':=h) (λ⟨b,hb⟩=>by rw [hn]at hb;simp at hb) ⟨λq _=>rfl,λx hx=>by simp at hx⟩;have ih:=jY (b:=b) hG hD l (i+1) e1 w1
    have ih':bP (λt=>Post F ks V κ r {t,h}) (evR E (cpR E n) ops h b (i+1) l (tab F.nt (upO o.dst v f))):=by
     revert ih
     cases evR E (cpR E n) ops h b (i+1) l (tab F.nt (upO o.dst v f))with
     |none=>exact id
     |some t=>exact λhp=>hp.ext (g5.trans (k5.trans w2))
    have hst:=(nd gg2).trans ((k2 (b+i) h).trans s1)
    cases ho:o.dst with
    |none=>rw [ho]at ih';exact DE gg1 ho hst ih'
    |some d=>
     rw [ho]at ih' g3;exact GV gg1 ho (jx (by simpa [fx]using g3)) hst (by rw [ri];exact ih')
   .simp at e1
end
end K
end Ev
end
noncomputable section
namespace Ev
namespace K
open Go Go.RowKit
def RdC(ks:KS):(h:Sh)->KC->h.T->Prop
 | .d fr t,c,x=>(fr=true->frC c=true)/\iR noB t c=some x
 | .o e,c,l=>∃e' p ne,c= .o e' p/\ai ks.bl p=some (.rows e ne l)
 | .w e,c,l=>∃e' p ne,c= .o e' p/\ai ks.bl p=some (.rows e ne l)
 | .m e,c,l=>(c= .nil/\l= [])∨(∃e' p,c= .m e' p/\ai ks.bl p=some (.mrows e l))∨∃e' p ne,c= .o e' p/\ai ks.bl p=some (.rows e ne l)/\l≠[]
def RdCs(ks:KS):(hs:List Sh)->List KC->bX hs->Prop
 | [],cs,_=>cs= []
 | [h],cs,x=>∃c,cs= [c]/\RdC ks h c x
 |h::h'::r,cs,x=>∃c s,cs=c::s/\RdC ks h c x.1/\RdCs ks (h'::r) s x.2
section
variable {ks : KS} {R : Type} {r : R}
theorem xH(hne:∀p e ne l,ai ks.bl p=some (.rows e ne l)->ne=true->l≠[]){h:Sh}{c:KC}{κ:h.T->Option R}(hs:tS ks h c κ=some r):∃x,κ x=some r/\RdC ks h c x:=by
 unfold tS at hs;split at hs
 .rename_i fr t _ κ;split at hs
  .simp at hs
  .rename_i hc;rw [zbE]at hs;obtain⟨x,h1,h2⟩:=hs;exact⟨x,h2,λhf=>by cases hb:frC c with|true=>rfl|false=>exact absurd ⟨hf,hb⟩ hc,h1⟩
 .rename_i e e1 p _ κ;split at hs
  .rename_i e' ne l hp;rw [zbE]at hs;obtain⟨l2,h1,h2⟩:=hs;obtain⟨he,h1⟩:=aQ h1;cases he;subst h1;exact⟨_,h2,_,_,_,rfl,hp⟩
  .simp at hs
 .rename_i e e1 p _ κ;split at hs
  .rename_i e' ne l hp;rw [zbE]at hs;obtain⟨l2,h1,h2⟩:=hs;obtain⟨he,h1⟩:=aQ h1;cases he;subst h1;exact⟨_,h2,_,_,_,rfl,hp⟩
  .simp at hs
 .exact⟨_,hs,.inl ⟨rfl,rfl⟩⟩
 .rename_i e e1 p _ κ;split at hs
  .rename_i e' l hp;rw [zbE]at hs;obtain⟨l2,h1,h2⟩:=hs;obtain⟨he,h1⟩:=aQ h1;cases he;subst h1;exact⟨_,h2,.inr (.inl ⟨_,_,rfl,hp⟩)⟩
  .simp at hs
 .rename_i e e1 p _ κ;split at hs
  .rename_i e' ne l hp;rw [zbE]at hs;obtain⟨l2,h1,h2⟩:=hs;obtain⟨he,h1⟩:=aQ h1;cases he;subst h1
   cases ne with
   |true=>exact⟨_,h2,.inr (.inr ⟨_,_,true,rfl,hp,hne _ _ _ _ hp rfl⟩)⟩
   |false=>
    simp only [cond_false,zbE]at h2;obtain⟨u,h3,h4⟩:=h2;refine⟨_,h4,.inr (.inr ⟨_,_,false,rfl,hp,?_⟩)⟩;intro he;change neL l=some u at h3;rw [he]at h3;simp [neL]at h3
  .simp at hs
 .simp at hs
theorem uh(hne:∀p e ne l,ai ks.bl p=some (.rows e ne l)->ne=true->l≠[]):∀{hs:List Sh} {cs:List KC} {R:Type} {r:R} {κ:bX hs->Option R},iS ks hs cs κ=some r->∃x,κ x=some r/\RdCs ks hs cs x
 | [],[],R,r,κ,h=>⟨(),h,rfl⟩
 | [h],[c],R,r,κ,hs=>by
  obtain⟨x,h1,h2⟩:=xH hne (show tS ks h c κ=some r from hs);exact⟨x,h1,c,rfl,h2⟩
 |h::h'::t,c::cs,R,r,κ,hs=>by
  obtain⟨x,h1,h2⟩:=xH hne (show tS ks h c (λx=>iS ks (h'::t) cs λy=>κ (x,y))=some r from hs);obtain⟨y,h3,h4⟩:=uh hne h1;exact⟨(x,y),h3,c,cs,rfl,h2,h4⟩
 | [],_::_,_,_,_,h=>by simp [iS]at h
 | [_],[],_,_,_,h=>by simp [iS]at h
 | [_],_::_::_,_,_,_,h=>by simp [iS]at h
 |_::_::_,[],_,_,_,h=>by simp [iS]at h
theorem RdCs.len:∀{hs:List Sh} {cs:List KC} {x:bX hs},RdCs ks hs cs x->cs.length=hs.length
 | [],cs,x,h=>by rw [show cs= []from h];rfl
 | [h],cs,x,⟨c,e,_⟩=>by rw [e];rfl
 |h::h'::r,cs,x,⟨c,s,e,_,h2⟩=>by rw [e,List.length_cons,h2.len];rfl
end
def ea:KC->Option Nat
 | .o _ p=>some p
 | .m _ p=>some p
 |_=>none
theorem gq:∀{cs:List KC} {j p:Nat} {c:KC},cs[j]? =some c->ea c=some p->p∈bj cs
 | [],j,p,c,h,_=>by simp at h
 |a::cs,0,p,c,h,h2=>by
  simp at h;subst h;cases a<;>simp [ea]at h2<;>subst h2<;>simp [bj]
 |a::cs,j+1,p,c,h,h2=>by
  have:=gq (cs:=cs) (by simpa using h) h2
  cases a<;>simp [bj,this]
theorem lR:∀{cs:List KC} {i j p:Nat} {c d:KC},fE (bj cs)=true->cs[i]? =some c->cs[j]? =some d->ea c=some p->ea d=some p->i=j
 | [],i,j,p,c,d,_,h,_,_,_=>by simp at h
 |a::cs,0,0,p,c,d,_,_,_,_,_=>rfl
 |a::cs,i+1,j+1,p,c,d,hn,h1,h2,h3,h4=>by
  have:fE (bj cs)=true:=by
   cases a<;>simp only [bj,fE,Bool.and_eq_true]at hn<;>first|exact hn|exact hn.2
  have hh:=lR (i:=i) (j:=j) this (by simpa using h1) (by simpa using h2) h3 h4;rw [hh]
 |a::cs,0,j+1,p,c,d,hn,h1,h2,h3,h4=>by
  have hm:=gq (cs:=cs) (j:=j) (by simpa using h2) h4;simp at h1;subst h1
  have key:∀q,ea a=some q->bj (a::cs)=q::bj cs:=by
   intro q hq;cases a<;>simp [ea]at hq<;>subst hq<;>rfl
  rw [key p h3]at hn;simp only [fE,Bool.and_eq_true,Bool.not_eq_true',List.any_eq_false]at hn;exact absurd (Nat.beq_refl p) (by simpa using hn.1 p hm)
 |a::cs,i+1,0,p,c,d,hn,h1,h2,h3,h4=>by
  have hm:=gq (cs:=cs) (j:=i) (by simpa using h1) h3;simp at h2;subst h2
  have key:∀q,ea a=some q->bj (a::cs)=q::bj cs:=by
   intro q hq;cases a<;>simp [ea]at hq<;>subst hq<;>rfl
  rw [key p h4]at hn;simp only [fE,Bool.and_eq_true,Bool.not_eq_true',List.any_eq_false]at hn;exact absurd (Nat.beq_refl p) (by simpa using hn.1 p hm)
def hid(V:Vl)(c:KC):Nat:=
 match ea c with
 |some p=>V.id p
 |none=>0
def hbo:(h:Sh)->h.T->Bool
 | .d _ .B,x=>x
 |_,_=>false
def zd:(hs:List Sh)->bX hs->List Bool
 | [],_=> []
 | [h],x=> [hbo h x]
 |h::h'::r,x=>hbo h x.1::zd (h'::r) x.2
def mkV(V:Vl)(N:Nat)(cs:List KC)(bs:List Bool):Vl:=⟨λq=>if q<N then V.id q else match cs[q - N]? with
 |some c=>hid V c
 |none=>0,λq=>if q<N then V.bo q else bs.getD (q - N) false⟩
theorem Cb{V:Vl}{N:Nat}{cs:List KC}{bs:List Bool}:Agree N V (mkV V N cs bs):=λq hq=>⟨if_pos hq,if_pos hq⟩
theorem EJ{V:Vl}{N j:Nat}{cs:List KC}{bs:List Bool}{c:KC}(h:cs[j]? =some c):(mkV V N cs bs).id (N+j)=hid V c:=by
 show(if N+j<N then V.id (N+j)else _)=_;rw [if_neg (by omega),Nat.add_sub_cancel_left,h]
theorem Jb{V:Vl}{N j:Nat}{cs:List KC}{bs:List Bool}{b:Bool}(h:bs[j]? =some b):(mkV V N cs bs).bo (N+j)=b:=by
 show(if N+j<N then V.bo (N+j)else _)=_;rw [if_neg (by omega),Nat.add_sub_cancel_left,List.getD_eq_getElem?_getD,h];rfl
def TrL(Ba:BK)(Va:Vl)(Bb:BK)(Vb:Vl)(M:Nat):List KC->List KC->Prop
 | [],ws=>ws= []
 |c::cs,ws=>∃w s,ws=w::s/\(∀x,RC Ba Va c x->RC Bb Vb w x)/\Sc M w/\TrL Ba Va Bb Vb M cs s
section
variable {Ba Bb : BK} {Va Vb : Vl} {M : Nat}
theorem TrL.rcs:∀{cs ws:List KC} {xs:List C},TrL Ba Va Bb Vb M cs ws->RCs Ba Va cs xs->RCs Bb Vb ws xs
 | [],ws,xs,h,hr=>by rw [show ws= []from h];exact hr
 |c::cs,ws,xs,⟨w,s,e,h1,_,h2⟩,⟨x,t,e2,h3,h4⟩=>by
  subst e;exact⟨x,t,e2,h1 x h3,TrL.rcs h2 h4⟩
theorem TrL.scs:∀{cs ws:List KC},TrL Ba Va Bb Vb M cs ws->Scs M ws
 | [],ws,h=>by rw [show ws= []from h];exact λc hc=>by simp at hc
 |c::cs,ws,⟨w,s,e,_,h1,h2⟩=>by
  subst e
  exact λd hd=>by
   rcases List.mem_cons.1 hd with rfl|hd
   .exact h1
   .exact TrL.scs h2 d hd
theorem TrL.take:∀{a b ws:List KC},TrL Ba Va Bb Vb M (a++b) ws->TrL Ba Va Bb Vb M a (ws.take a.length)
 | [],b,ws,h=>rfl
 |c::a,b,ws,⟨w,s,e,h1,h2,h3⟩=>by subst e;exact⟨w,_,rfl,h1,h2,TrL.take h3⟩
theorem TrL.drop:∀{a b ws:List KC},TrL Ba Va Bb Vb M (a++b) ws->TrL Ba Va Bb Vb M b (ws.drop a.length)
 | [],b,ws,h=>h
 |c::a,b,ws,⟨w,s,e,h1,h2,h3⟩=>by subst e;exact TrL.drop (a:=a) h3
theorem rS{ka:KS}{F:KF}{q:Nat}{h:Sh}{c:KC}{x:h.T}(hrd:RdC ka h c x)(hBa:Ba=am F ka)(hid':Vb.id q=hid Va c)(hbo':Vb.bo q=hbo h x)(hB:∀b,(q,b)∈(be q h x).2->Bb q=some b)(hw:∀e,h= .w e->∀b,Bb q≠some b)(hq:q<M):(∀y,RC Ba Va c y->RC Bb Vb (be q h x).1 y)/\Sc M (be q h x).1:=by
 subst hBa
 cases h with
 |d fr t=>
  obtain⟨h1,h2⟩:=hrd
  cases t with
  |B=>
   refine⟨λy hy=> ?_,trivial⟩
   have hy2:y=bC x:=by
    have h3:frC c=true:=by
     cases c<;>first|rfl|(simp [iR]at h2)
    have:=lL h2 h3 hy
    simpa [Ty.row,pC,bT,bC]using this
   exact hy2
  |I k=>
   refine⟨λy hy=> ?_,trivial⟩
   have h3:frC c=true:=by
    cases c<;>first|rfl|(simp [iR]at h2)
   have:=lL h2 h3 hy
   show y=iC k x;simpa [Ty.row,pC,iT,iC]using this
  |S e=>
   refine⟨λy hy=> ?_,trivial⟩;show∃f,y= .p f (Sl.t e.row x)/\(fr=true->f=true)
   cases c with
   |nil=>
    have:=Option.some.inj (show some (⟨false,0,[]⟩:Sl e.val)=some x from h2)
    subst this;exact⟨true,hy,λ_=>rfl⟩
   |s e' fr' z=>
    obtain⟨he,h3⟩:=aQ (show dW (.S e') (.S e) z=some x from h2);cases he;subst h3;obtain⟨f,g1,g2⟩:=hy;exact⟨f,g1,λhf=>g2 (h1 hf)⟩
   |o e' p=>simp [iR,noB]at h2
   |m e' p=>simp [iR,noB]at h2
   |_=>simp [iR]at h2
  |U=>cases c<;>simp [iR]at h2
  |C a b=>cases c<;>simp [iR]at h2
 |o e=>
  obtain⟨e',p,ne,rfl,h2⟩:=hrd;refine⟨λy hy=> ?_,hq⟩;intro e2 ne2 l2 hl;rw [hB (.rows e false x) (by simp [be])]at hl;simp only [zsI,KB.rows.injEq]at hl;obtain⟨rfl,_,hl⟩:=hl;rw [<-eq_of_heq hl,hid'];exact hy _ _ _ (ah h2 (by simp))
 |w e=>exact⟨λy hy e2 ne2 l2 hl=>absurd hl (hw e rfl _),hq⟩
 |m e=>
  refine⟨λy hy=> ?_,hq⟩;intro e2 l2 hl;rw [hB (.mrows e x) (by simp [be])]at hl;simp only [zsI,KB.mrows.injEq]at hl;obtain⟨rfl,hl⟩:=hl;rw [<-eq_of_heq hl,hid'];rcases hrd with⟨rfl,h2⟩|⟨e',p,rfl,h2⟩|⟨e',p,ne,rfl,h2,h3⟩
  .change x= []at h2;rw [h2];exact hy
  .exact hy _ _ (ah h2 (by simp))
  .have h4:=hy _ _ _ (ah (F:=F) h2 (by simp));rw [h4];change x≠[]at h3;show _=moC x (hid Va (.o e' p))
   cases hx:x with
   |nil=>exact absurd hx h3
   |cons a l=>rfl
theorem ph{ka:KS}{F:KF}(hBa:Ba=am F ka):∀{hs:List Sh} {cs:List KC} {x:bX hs} (q:Nat),RdCs ka hs cs x->(∀j c,cs[j]? =some c->Vb.id (q+j)=hid Va c)->(∀j b,(zd hs x)[j]? =some b->Vb.bo (q+j)=b)->(∀p b,(p,b)∈(aA hs x q).flatMap (·.2)->Bb p=some b)->(∀(j:Nat) e,hs[j]? =some (.w e)->∀b,Bb (q+j)≠some b)->q+hs.length<=M->TrL Ba Va Bb Vb M cs ((aA hs x q).map (·.1))
 | [],cs,x,q,hrd,h1,h2,h3,h5,h4=>by rw [show cs= []from hrd];exact rfl
 | [h],cs,x,q,⟨c,e,hrd⟩,h1,h2,h3,h5,h4=>by
  subst e;obtain⟨g1,g2⟩:=rS (Bb:=Bb) (Vb:=Vb) (M:=M) hrd hBa (by simpa using h1 0 c rfl) (by simpa using h2 0 (hbo h x) rfl) (λb hb=>h3 q b (by simpa [aA]using hb)) (λe he b=>by have:=h5 0 e (by rw [he];rfl) b;simpa using this) (by simp at h4;omega);exact⟨_,[],rfl,g1,g2,rfl⟩
 |h::h'::r,cs,x,q,⟨c,s,e,hrd,hrd2⟩,h1,h2,h3,h5,h4=>by
  subst e;simp only [List.length_cons]at h4;obtain⟨g1,g2⟩:=rS (Bb:=Bb) (Vb:=Vb) (M:=M) hrd hBa (by simpa using h1 0 c rfl) (by simpa using h2 0 (hbo h x.1) rfl) (λb hb=>h3 q b (by simp only [aA,List.flatMap_cons,List.mem_append];exact .inl hb)) (λe he b=>by have:=h5 0 e (by rw [he];rfl) b;simpa using this) (by omega);refine⟨_,_,rfl,g1,g2,ph hBa (q+1) hrd2 (λj c hc=> ?_) (λj b hb=> ?_) (λp b hb=>h3 p b (by simp only [aA,List.flatMap_cons,List.mem_append];exact .inr hb)) (λj e he b=>by rw [show q+1+j=q+(j+1)by omega];exact h5 (j+1) e (by simpa using he) b) (by simp only [List.length_cons];omega)⟩
  .rw [show q+1+j=q+(j+1)by omega];exact h1 (j+1) c (by simpa using hc)
  .rw [show q+1+j=q+(j+1)by omega];exact h2 (j+1) b (by simpa [zd]using hb)
end
theorem gr{q p:Nat}{h:Sh}{x:h.T}{b:KB}(hb:(p,b)∈(be q h x).2):p=q/\(be q h x).2= [(q,b)]:=by
 cases h with
 |d fr t=>cases t<;>simp [be]at hb
 |o e=>simp only [be,List.mem_singleton,Prod.mk.injEq]at hb;obtain⟨rfl,rfl⟩:=hb;exact⟨rfl,rfl⟩
 |w e=>simp [be]at hb
 |m e=>simp only [be,List.mem_singleton,Prod.mk.injEq]at hb;obtain⟨rfl,rfl⟩:=hb;exact⟨rfl,rfl⟩
theorem iA{ka:KS}:∀{hs:List Sh} {cs:List KC} {x:bX hs} {q p:Nat} {b:KB},RdCs ka hs cs x->(p,b)∈(aA hs x q).flatMap (·.2)->∃(j:Nat) (c:KC) (h:Sh) (y:h.T),p=q+j/\(j<hs.length/\hs[j]? =some h)/\cs[j]? =some c/\RdC ka h c y/\(be p h y).2= [(p,b)]
 | [],cs,x,q,p,b,hrd,hb=>by simp [aA]at hb
 | [h],cs,x,q,p,b,⟨c,e,hrd⟩,hb=>by
  subst e;obtain⟨rfl,h2⟩:=gr (show(p,b)∈(be q h x).2 by simpa [aA]using hb);exact⟨0,c,h,x,rfl,⟨by simp,rfl⟩,rfl,hrd,h2⟩
 |h::h'::r,cs,x,q,p,b,⟨c,s,e,hrd,hrd2⟩,hb=>by
  subst e;simp only [aA,List.flatMap_cons,List.mem_append]at hb;rcases hb with hb|hb
  .obtain⟨rfl,h2⟩:=gr hb;exact⟨0,c,h,x.1,rfl,⟨by simp,rfl⟩,rfl,hrd,h2⟩
  .obtain⟨j,c',h2,y,rfl,⟨g1,g0⟩,g2,g3,g4⟩:=iA hrd2 hb;exact⟨j+1,c',h2,y,by omega,⟨by simp only [List.length_cons]at g1 ⊢;omega,by simpa using g0⟩,by simpa using g2,g3,g4⟩
theorem Aj{ks:KS}:∀{hs:List Sh} {cs:List KC} {x:bX hs} {j:Nat} {c:KC} {e:Ty},RdCs ks hs cs x->cs[j]? =some c->hs[j]? =some (.w e)->∃e' p ne l,c= .o e' p/\ai ks.bl p=some (.rows e ne l)/\(wCs hs x)[j]? =some (.rows e false l)
 | [],cs,x,j,c,e,hrd,hc,hh=>by simp at hh
 | [h],cs,x,j,c,e,⟨c',e1,hrd⟩,hc,hh=>by
  subst e1
  cases j with
  |succ j=>simp at hc
  |zero=>
   simp at hc hh;subst hc hh;obtain⟨e',p,ne,rfl,h2⟩:=hrd;exact⟨e',p,ne,x,rfl,h2,rfl⟩
 |h::h'::r,cs,x,j,c,e,⟨c',s,e1,hrd,hrd2⟩,hc,hh=>by
  subst e1
  cases j with
  |succ j=>
   obtain⟨e',p,ne,l,h1,h2,h3⟩:=Aj hrd2 (by simpa using hc) (by simpa using hh);exact⟨e',p,ne,l,h1,h2,by simpa [wCs]using h3⟩
  |zero=>
   simp at hc hh;subst hc hh;obtain⟨e',p,ne,rfl,h2⟩:=hrd;exact⟨e',p,ne,x.1,rfl,h2,rfl⟩
theorem fB{α:Type}:∀{l:List (Nat×α)} {i:Nat} {a:α},ai l i=some a->(i,a)∈l
 | [],i,a,h=>by simp [ai]at h
 |x::l,i,a,h=>by
  rw [show x::l=(x.1,x.2)::l from rfl,aj]at h;split at h
  .rename_i hi;cases h;subst hi;exact List.mem_cons_self
  .exact List.mem_cons_of_mem _ (fB h)
end K
end Ev
end
noncomputable section
namespace Ev
namespace K
open Go Go.RowKit
section
variable {Fa Fb : KF} {ka kb : KS} {Va Vb : Vl} {f : Nat → D} {h : ak} {M N0 : Nat} {Bb : BK}
theorem gu:∀{vs:List (Nat×Bool×List Sh)} {a:List KC},jC Fa ka vs=some a->a.length=fO vs
 | [],a,ha=>by
  have:=Option.some.inj (show some []=some a from ha)
  subst this;rfl
 |v::r,a,ha=>by
  unfold jC at ha;have hl:fO (v::r)=v.2.2.length+fO r:=by unfold fO;rw [List.flatMap_cons,List.length_append]
  split at ha
  .split at ha
   .simp at ha
   .split at ha
    .rename_i h1;rw [Option.map_eq_some_iff]at ha;obtain⟨a',g1,rfl⟩:=ha;rw [List.length_cons,gu g1,hl,h1];omega
    .simp at ha
  .split at ha
   .split at ha
    .rename_i h1;rw [Option.map_eq_some_iff]at ha;obtain⟨a',g1,rfl⟩:=ha;rw [List.length_append,gu g1,hl,h1]
    .simp at ha
   .simp at ha
  .simp at ha
theorem ow(hr:Rel Fa ka Va f h):∀{vs:List (Nat×Bool×List Sh)} {a b wc:List KC},jC Fa ka vs=some a->TrL (am Fa ka) Va Bb Vb M (a++b) wc->∀i d,ai (fg vs wc) i=some d->i<Fa.nt/\ScD M d/\RD Bb Vb d (f i)
 | [],a,b,wc,ha,hT,i,d,hd=>by simp [fg,ai]at hd
 |v::r,a,b,wc,ha,hT,i,d,hd=>by
  unfold jC at ha;unfold fg at hd;rw [aj]at hd;split at ha
  .rename_i c hc;obtain⟨s1,s2,c',s3,s4⟩:=hr.sl _ _ hc;split at ha
   .simp at ha
   .rename_i hag;split at ha
    .rename_i h1;rw [Option.map_eq_some_iff]at ha;obtain⟨a',g1,rfl⟩:=ha;obtain⟨w,s,rfl,t1,t2,t3⟩:=hT;rw [h1,if_neg hag]at hd;split at hd
     .rename_i hi;cases hd;subst hi;exact⟨s1,t2,c',s3,t1 _ s4⟩
     .exact ow hr g1 t3 i d hd
    .simp at ha
  .rename_i cs hc;obtain⟨s1,s2,cs',s3,s4⟩:=hr.sl _ _ hc;split at ha
   .rename_i hag;split at ha
    .rename_i h1;rw [Option.map_eq_some_iff]at ha;obtain⟨a',g1,rfl⟩:=ha;rw [List.append_assoc]at hT;have t1:=TrL.take hT;have t2:=TrL.drop hT;rw [h1,if_pos hag]at hd;split at hd
     .rename_i hi;cases hd;subst hi;exact⟨s1,TrL.scs t1,cs',s3,TrL.rcs t1 s4⟩
     .exact ow hr g1 t2 i d hd
    .simp at ha
   .simp at ha
  .simp at ha
theorem ui:∀{bs:List (Nat×List Sh)} {b c wc:List KC},bi Fa ka bs=some b->TrL (am Fa ka) Va Bb Vb M (b++c) wc->∀p x,ai (cY Fa ka bs wc) p=some x->∃v∈bs,cA Fa ka v.1=some p/\∃cs0 ws,ai ka.bl p=some (.box cs0)/\x= .box ws/\Scs M ws/\∀xs,RCs (am Fa ka) Va cs0 xs->RCs Bb Vb ws xs
 | [],b,c,wc,hb,hT,p,x,hx=>by simp [cY,ai]at hx
 |v::r,b,c,wc,hb,hT,p,x,hx=>by
  unfold bi at hb;unfold cY at hx
  cases hp:cA Fa ka v.1 with
  |none=>rw [hp]at hb;simp at hb
  |some q=>
   rw [hp]at hb hx;simp only [zbS]at hb;split at hb
   .rename_i cs hcs;split at hb
    .rename_i h1;rw [Option.map_eq_some_iff]at hb;obtain⟨b',g1,rfl⟩:=hb;rw [List.append_assoc]at hT;have t1:=TrL.take hT;have t2:=TrL.drop hT;simp only [h1]at hx;rw [aj]at hx;split at hx
     .rename_i hi;cases hx;subst hi;exact⟨v,by simp,hp,cs,_,hcs,rfl,TrL.scs t1,λxs hxs=>TrL.rcs t1 hxs⟩
     .obtain⟨v',g2,g3⟩:=ui g1 t2 p x hx;exact⟨v',by simp [g2],g3⟩
    .simp at hb
   .simp at hb
theorem fC{F:KF}{ks:KS}:∀{bs:List (Nat×List Sh)} {w:List KC} {p:Nat},(∀v∈bs,cA F ks v.1≠some p)->ai (cY F ks bs w) p=none
 | [],w,p,h=>rfl
 |v::r,w,p,h=>by
  unfold cY
  cases hp:cA F ks v.1 with
  |none=>exact fC λv' hv=>h v' (by simp [hv])
  |some q=>
   simp only;rw [aj,if_neg (λe=>h v (by simp) (by rw [hp,e]))];exact fC λv' hv=>h v' (by simp [hv])
theorem ze{F:KF}{ks:KS}:∀{bs:List (Nat×List Sh)} {w:List KC} {p:Nat} {x:KB},ai (cY F ks bs w) p=some x->∃v∈bs,cA F ks v.1=some p:=by
 intro bs w p x h;refine Classical.byContradiction λhn=> ?_;rw [fC λv hv he=>hn ⟨v,hv,he⟩]at h;simp at h
theorem fZ:∀{bs:List (Nat×List Sh)} {b:List KC},bi Fa ka bs=some b->b.length=kr bs
 | [],b,hb=>by
  have:=Option.some.inj (show some []=some b from hb)
  subst this;rfl
 |v::r,b,hb=>by
  unfold bi at hb;have hl:kr (v::r)=v.2.length+kr r:=by unfold kr;rw [List.flatMap_cons,List.length_append]
  split at hb
  .split at hb
   .rename_i h1;rw [Option.map_eq_some_iff]at hb;obtain⟨b',g1,rfl⟩:=hb;rw [List.length_append,fZ g1,hl,h1]
   .simp at hb
  .simp at hb
theorem lS:∀{ws:List (BR×Ty)} {c:List KC} {j:Nat} {v:BR×Ty},ru Fa ka ws=some c->ws[j]? =some v->∃p,dY Fa ka v.1=some p/\c[j]? =some (.o v.2 p)
 | [],c,j,v,hc,hv=>by simp at hv
 |v0::r,c,j,v,hc,hv=>by
  unfold ru at hc;split at hc
  .rename_i p hp;rw [Option.map_eq_some_iff]at hc;obtain⟨c',g1,rfl⟩:=hc
   cases j with
   |zero=>simp at hv;subst hv;exact⟨p,hp,rfl⟩
   |succ j=>
    obtain⟨q,h1,h2⟩:=lS g1 (j:=j) (by simpa using hv);exact⟨q,h1,by simpa using h2⟩
  .simp at hc
theorem dB{pt:Pt}{cs:List KC}(h:cW Fa ka pt=some cs):∃a b c,jC Fa ka pt.vs=some a/\bi Fa ka pt.bs=some b/\ru Fa ka pt.ws=some c/\cs=a++(b++c):=by
 unfold cW at h;rw [zbE]at h;obtain⟨a,ha,h⟩:=h;rw [zbE]at h;obtain⟨b,hb,h⟩:=h;rw [Option.map_eq_some_iff]at h;obtain⟨c,hc,rfl⟩:=h;exact⟨a,b,c,ha,hb,hc,rfl⟩
theorem oy:∀{ws:List (BR×Ty)} {bs:List KB} {p:Nat} {x:KB},ai (dz Fa ka ws bs) p=some x->∃(j:Nat) (v:BR×Ty),ws[j]? =some v/\bs[j]? =some x/\dY Fa ka v.1=some p
 | [],bs,p,x,h=>by simp [dz,ai]at h
 |v::r,[],p,x,h=>by simp [dz,ai]at h
 |v::r,b::bs,p,x,h=>by
  unfold dz at h
  have key:ai (dz Fa ka r bs) p=some x->∃(j:Nat) (v':BR×Ty),(v::r)[j]? =some v'/\(b::bs)[j]? =some x/\dY Fa ka v'.1=some p:=λh=>by
   obtain⟨j,v',h1,h2,h3⟩:=oy h;exact⟨j+1,v',by simpa using h1,by simpa using h2,h3⟩
  split at h
  .rename_i q hq;rw [aj]at h;split at h
   .rename_i hi;cases h;subst hi;exact⟨0,v,rfl,rfl,hq⟩
   .exact key h
  .exact key h
theorem He{pt:Pt}{j:Nat}{v:BR×Ty}(h:pt.ws[j]? =some v):pt.sh[fO pt.vs+kr pt.bs+j]? =some (.w v.2):=by
 unfold Pt.sh fO kr;rw [<-List.append_assoc,List.getElem?_append_right (by rw [List.length_append];omega),List.length_append,Nat.add_sub_cancel_left,List.getElem?_map,h];rfl
theorem EK{pt:Pt}{cs:List KC}{y:bX pt.sh}(hcs:cW Fa ka pt=some cs)(hrd:RdCs ka pt.sh cs y){p:Nat}{x:KB}(h:ai (dz Fa ka pt.ws ((wCs pt.sh y).drop (fO pt.vs+kr pt.bs))) p=some x):∃(j:Nat) (v:BR×Ty) (e:Ty) (ne:Bool) (l:List e.val),v∈pt.ws/\dY Fa ka v.1=some p/\ai ka.bl p=some (.rows e ne l)/\x= .rows e false l/\cs[j]? =some (.o e p)/\pt.sh[j]? =some (.w e):=by
 obtain⟨j,v,h1,h2,h3⟩:=oy h;obtain⟨a,b,c,ha,hb,hc,rfl⟩:=dB hcs;obtain⟨p',h4,h5⟩:=lS hc h1;rw [h3]at h4;cases h4
 have hj:(a++(b++c))[fO pt.vs+kr pt.bs+j]? =some (.o v.2 p):=by
  rw [<-List.append_assoc,List.getElem?_append_right (by rw [List.length_append,gu ha,fZ hb];omega),List.length_append,gu ha,fZ hb,Nat.add_sub_cancel_left,h5]
 obtain⟨e',p',ne,l,g1,g2,g3⟩:=Aj hrd hj (He h1);cases g1;rw [List.getElem?_drop,g3]at h2;cases h2;exact⟨_,v,_,ne,l,List.mem_of_getElem? h1,h3,g2,rfl,hj,He h1⟩
theorem trans{pt:Pt}{cs:List KC}{y:bX pt.sh}(hr:Rel Fa ka Va f h)(hcs:cW Fa ka pt=some cs)(hrd:RdCs ka pt.sh cs y)(hnd:fE (bj cs)=true)(hN:N0<=ka.nx)(hnt:Fb.nt=Fa.nt)(hnx:kb.nx=N0+pt.sh.length)
  (hS:∀i d,dX Fb kb i=some d->ai (fg pt.vs ((aA pt.sh y N0).map (·.1))) i=some d∨(dX Fa ka i=some d/\ScD N0 d))
  (hB1:∀p b,am Fb kb p=some b->ai (cY Fa ka pt.bs (((aA pt.sh y N0).map (·.1)).drop (fO pt.vs))) p=some b∨ai (dz Fa ka pt.ws ((wCs pt.sh y).drop (fO pt.vs+kr pt.bs))) p=some b∨ai ((aA pt.sh y N0).flatMap (·.2)) p=some b∨(am Fa ka p=some b/\p<N0/\ScB N0 b/\p ∉ bj cs/\∀v∈pt.bs,cA Fa ka v.1≠some p))
  (hB2:∀p b,(p,b)∈(aA pt.sh y N0).flatMap (·.2)->am Fb kb p=some b) (hbx:∀v∈pt.bs,∀p,cA Fa ka v.1=some p->p<N0) (hwx:∀v∈pt.ws,∀p,dY Fa ka v.1=some p->p<N0):∃Vb,Rel Fb kb Vb f h/\Agree N0 Va Vb/\LeB N0 (am Fa ka) (am Fb kb):=by
 have hlen:=hrd.len;have hag:Agree N0 Va (mkV Va N0 cs (zd pt.sh y)):=Cb;obtain⟨a,b,cw,ha,hb,hcw,hcse⟩:=dB hcs;have hbox0:∀p x,ai (cY Fa ka pt.bs (((aA pt.sh y N0).map (·.1)).drop (fO pt.vs))) p=some x->∃v∈pt.bs,cA Fa ka v.1=some p:=λp x hx=>ze hx;have hrow:∀p x,ai (dz Fa ka pt.ws ((wCs pt.sh y).drop (fO pt.vs+kr pt.bs))) p=some x->∃(j:Nat) (v:BR×Ty) (e:Ty) (ne:Bool) (l:List e.val),v∈pt.ws/\dY Fa ka v.1=some p/\ai ka.bl p=some (.rows e ne l)/\x= .rows e false l/\cs[j]? =some (.o e p)/\pt.sh[j]? =some (.w e):=λp x hx=>EK hcs hrd hx
 have hvac:∀(j:Nat) e,pt.sh[j]? =some (.w e)->∀x,am Fb kb (N0+j)≠some x:=by
  intro j e hj x hx;rcases hB1 _ _ hx with h1|h1|h1|h1
  .obtain⟨v,g1,g2⟩:=hbox0 _ _ h1
   have:=hbx v g1 _ g2;omega
  .obtain⟨_,v,_,_,_,g1,g2,_⟩:=hrow _ _ h1
   have:=hwx v g1 _ g2;omega
  .obtain⟨j',c,hh,yy,e1,⟨_,g0⟩,_,_,g4⟩:=iA hrd (fB h1);obtain rfl:j=j':=by omega
   rw [hj]at g0;cases g0;simp [be]at g4
  .omega
 have hT:TrL (am Fa ka) Va (am Fb kb) (mkV Va N0 cs (zd pt.sh y)) kb.nx cs ((aA pt.sh y N0).map (·.1)):=
  ph rfl N0 hrd (λj c hc=>EJ hc) (λj b hb=>Jb hb) hB2 hvac (by omega)
 have hids:∀(j:Nat) (c:KC),cs[j]? =some c->(mkV Va N0 cs (zd pt.sh y)).id (N0+j)=hid Va c:=λj c hc=>EJ hc;generalize mkV Va N0 cs (zd pt.sh y)=Vb at hag hT hids;rw [hcse]at hT;have hT2:=TrL.drop hT;rw [gu ha]at hT2;have hbox:=ui (M:=kb.nx) (c:=cw) hb hT2
 have hle:LeB N0 (am Fa ka) (am Fb kb):=by
  intro p hp
  have key:∀x,am Fb kb p=some x->(∀cs,x≠ .box cs)->am Fa ka p=some x∨∃e ne l,am Fa ka p=some (.rows e ne l)/\x= .rows e false l:=by
   intro x hx hnb;rcases hB1 p x hx with h1|h1|h1|h1
   .obtain⟨v,_,_,cs0,ws,_,e,_⟩:=hbox p x h1;exact absurd e (hnb ws)
   .obtain⟨_,v,e,ne,l,_,_,g3,g4,_⟩:=hrow p x h1;exact .inr ⟨e,ne,l,ah g3 (by simp),g4⟩
   .obtain⟨j,c,hh,yy,e,_⟩:=iA hrd (fB h1);omega
   .exact .inl h1.1
  refine⟨λe ne l hl=> ?_,λe l hl=> ?_⟩
  .rcases key _ hl (by simp)with h1|⟨e0,n0,l0,h1,h2⟩
   .exact⟨e,ne,l,h1,rfl⟩
   .cases h2;exact⟨_,_,_,h1,rfl⟩
  .rcases key _ hl (by simp)with h1|⟨e0,n0,l0,h1,h2⟩
   .exact⟨e,l,h1,rfl⟩
   .cases h2
 -- where a block comes from
 have horg:∀p x,am Fb kb p=some x->x.there->∃o x0,am Fa ka o=some x0/\x0.there/\Vb.id p=Va.id o/\((∃j c hh,p=N0+j/\cs[j]? =some c/\ea c=some o/\(∀cs0,x0≠ .box cs0)/\pt.sh[j]? =some hh/\∀e,hh≠ .w e)∨(o=p/\((∃cs0,x0= .box cs0)∨(∃(j:Nat) (e:Ty),cs[j]? =some (.o e p)/\pt.sh[j]? =some (.w e))∨p ∉ bj cs))):=by
  intro p x hx ht;rcases hB1 p x hx with h1|h1|h1|⟨h1,h2,h3,h4,h5⟩
  .obtain⟨v,g1,g2,cs0,ws,g3,e,_⟩:=hbox p x h1;exact⟨p,.box cs0,ah g3 (by simp),trivial,(hag p (hbx v g1 p g2)).1,.inr ⟨rfl,.inl ⟨cs0,rfl⟩⟩⟩
  .obtain⟨j,v,e,ne,l,g1,g2,g3,g4,g5,g6⟩:=hrow p x h1;exact⟨p,_,ah g3 (by simp),trivial,(hag p (hwx v g1 p g2)).1,.inr ⟨rfl,.inr (.inl ⟨j,e,g5,g6⟩)⟩⟩
  .obtain⟨j,c,hh,yy,rfl,⟨g1,g0⟩,g2,g3,g4⟩:=iA hrd (fB h1);have hidj:Vb.id (N0+j)=hid Va c:=hids j c g2
   cases hh with
   |d fr t=>cases t<;>simp [be]at g4
   |w e=>simp [be]at g4
   |o e=>
    obtain⟨e',o,ne,rfl,g5⟩:=g3;exact⟨o,_,ah g5 (by simp),trivial,hidj,.inl ⟨j,_,_,rfl,g2,rfl,by simp,g0,by simp⟩⟩
   |m e=>
    simp only [be,List.cons.injEq,Prod.mk.injEq,true_and,and_true]at g4;subst g4;rcases g3 with⟨rfl,g5⟩|⟨e',o,rfl,g5⟩|⟨e',o,ne,rfl,g5,g6⟩
    .exact absurd g5 ht
    .exact⟨o,_,ah g5 (by simp),ht,hidj,.inl ⟨j,_,_,rfl,g2,rfl,by simp,g0,by simp⟩⟩
    .exact⟨o,_,ah g5 (by simp),trivial,hidj,.inl ⟨j,_,_,rfl,g2,rfl,by simp,g0,by simp⟩⟩
  .exact⟨p,x,h1,ht,(hag p h2).1,.inr ⟨rfl,.inr (.inr h4)⟩⟩
 refine⟨Vb,⟨?_,?_,?_⟩,hag,hle⟩
 .intro i d hd;rcases hS i d hd with h1|⟨h1,h2⟩
  .obtain⟨g1,g2,g3⟩:=ow (M:=kb.nx) hr ha hT i d h1;exact⟨by rw [hnt];exact g1,g2,g3⟩
  .obtain⟨g1,g2,g3⟩:=hr.sl i d h1;exact⟨by rw [hnt];exact g1,h2.mono (by omega),g3.mono h2 hle hag⟩
 .intro p x hx;rcases hB1 p x hx with h1|h1|h1|⟨h1,h2,h3,h4,h5⟩
  .obtain⟨v,g1,g2,cs0,ws,g3,rfl,g4,g5⟩:=hbox p x h1;obtain⟨k1,k2,sz,cs',k3,k4⟩:=hr.bl p _ (ah g3 (by simp));have hp:=hbx v g1 p g2;exact⟨by omega,g4,sz,cs',by rw [(hag p hp).1];exact k3,g5 _ k4⟩
  .obtain⟨j,v,e,ne,l,g1,g2,g3,rfl,_,_⟩:=hrow p x h1;obtain⟨k1,k2,k3,k4⟩:=hr.bl p _ (ah g3 (by simp));have hp:=hwx v g1 p g2;exact⟨by omega,trivial,by rw [(hag p hp).1];exact k3,by simp⟩
  .obtain⟨j,c,hh,yy,rfl,⟨g1,g0⟩,g2,g3,g4⟩:=iA hrd (fB h1);have hidj:Vb.id (N0+j)=hid Va c:=hids j c g2;refine⟨by omega,?_⟩;rw [hidj]
   cases hh with
   |d fr t=>cases t<;>simp [be]at g4
   |w e=>simp [be]at g4
   |o e=>
    simp only [be,List.cons.injEq,Prod.mk.injEq,true_and,and_true]at g4;subst g4;obtain⟨e',o,ne,rfl,g5⟩:=g3;obtain⟨k1,k2,k3,k4⟩:=hr.bl o _ (ah g5 (by simp));exact⟨trivial,k3,by simp⟩
   |m e=>
    simp only [be,List.cons.injEq,Prod.mk.injEq,true_and,and_true]at g4;subst g4;refine⟨trivial,λhne=> ?_⟩;rcases g3 with⟨rfl,g5⟩|⟨e',o,rfl,g5⟩|⟨e',o,ne,rfl,g5,g6⟩
    .exact absurd g5 hne
    .exact(hr.bl o _ (ah g5 (by simp))).2.2 hne
    .exact(hr.bl o _ (ah g5 (by simp))).2.2.1
  .obtain⟨k1,k2,k3⟩:=hr.bl p x h1;exact⟨by omega,h3.mono (by omega),by rw [(hag p h2).1];exact k3.mono h3 hle hag⟩
 .intro p q x x' hp hq tp tq hid;obtain⟨o,x0,g1,g2,g3,g4⟩:=horg p x hp tp;obtain⟨o',x0',g1',g2',g3',g4'⟩:=horg q x' hq tq;rw [g3,g3']at hid;have ho:=hr.inj o o' x0 x0' g1 g1' g2 g2' hid;subst ho;rw [g1]at g1';cases g1'
  have cross:∀(p q:Nat),(∃(j:Nat) (c:KC) (hh:Sh),p=N0+j/\cs[j]? =some c/\ea c=some o/\(∀cs0,x0≠ .box cs0)/\pt.sh[j]? =some hh/\∀e,hh≠ .w e)->(o=q/\((∃cs0,x0= .box cs0)∨(∃(j:Nat) (e:Ty),cs[j]? =some (.o e q)/\pt.sh[j]? =some (.w e))∨q ∉ bj cs))->False:=by
   intro p q ⟨j,c,hh,_,w2,w3,w4,w5,w6⟩ ⟨v1,v2⟩;subst v1;rcases v2 with⟨cs0,v2⟩|⟨j',e,v2,v3⟩|v2
   .exact w4 cs0 v2
   .obtain rfl:=lR hnd w2 v2 w3 rfl;rw [v3]at w5;cases w5;exact w6 e rfl
   .exact v2 (gq w2 w3)
  rcases g4 with⟨j,c,hh,w1,w2,w3,w4,w5,w6⟩|w
  .rcases g4' with⟨j',c',hh',v1,v2,v3,v4,v5,v6⟩|v
   .have:=lR hnd w2 v2 w3 v3
    rw [w1,v1,this]
   .exact(cross _ _ ⟨j,c,hh,w1,w2,w3,w4,w5,w6⟩ v).elim
  .rcases g4' with v|v
   .exact(cross _ _ v w).elim
   .rw [<-w.1,<-v.1]
end
end K
end Ev
end
end Go.Proofs.Ytkmbihigeeclbaa
