/- Texts of a claim, joined. -/
import Derived.Test.YtpcmabdifkoihaaDoorZA6
set_option linter.unusedVariables false
set_option linter.unusedSimpArgs false
namespace Go.Proofs.YtpcmabdifkoihaaDoor
noncomputable section
namespace Ev
namespace K
open Go Go.RowKit
def Vl.set(V:Vl)(nid k tag:Nat)(bo:Bool):Vl:=⟨λq=>if q=nid then k else V.id q,λq=>if q=tag then bo else V.bo q⟩
theorem Vl.set_agree{N nid tag k:Nat}{bo:Bool}{V:Vl}(h1:N<=nid)(h2:N<=tag):Agree N V (V.set nid k tag bo):=λq hq=>⟨if_neg (by omega),if_neg (by omega)⟩
theorem Vl.set_id{nid tag k:Nat}{bo:Bool}{V:Vl}:(V.set nid k tag bo).id nid=k:=if_pos rfl
theorem Vl.set_bo{nid tag k:Nat}{bo:Bool}{V:Vl}:(V.set nid k tag bo).bo tag=bo:=if_pos rfl
def Be(F:KF)(ks:KS)(nid:Nat)(e:KE):BK:=aE F {ks with bl:=blE e nid ks.bl}
def KB.like(b0 b:KB):Prop:=
 match b with
 | .rows _ _ l=>∃e0 n0 l0,b0= .rows e0 n0 l0/\l0.length=l.length
 | .mrows _ l=>∃e0 l0,b0= .mrows e0 l0/\l0.length=l.length
 |_=>True
structure KH(B':BK)(V' V:Vl)(ks:KS)(k:Nat)(e:KE)(u:List (Nat×Blk)):Prop where
 real:∃uo un,u=uo++un/\
  (match e.upd with
   |none=>uo= []
   |some (p,b)=>(∃x,uo= [(V.id p,x)]/\BlkIs B' V' x b/\∀b0,az ks.bl p=some b0->b0.there)∨(uo= []/\¬b.there/\∀b0,az ks.bl p=some b0->¬b0.there))/\
  (match e.new with
   |none=>un= []
   |some b=>(∃x,un= [(k,x)]/\BlkIs B' V' x b/\b.there)∨(un= []/\¬b.there))
structure dq(E:Env)(n:Nat)(F:KF)(ks:KS)(V:Vl)(f:Nat->D)(h:aC)(M tag nid:Nat)(op:Op)(e:KE):Prop where
 upd:∀p b,e.upd=some (p,b)->∃b0,az ks.bl p=some b0/\b0≠ .dead/\ScB ks.nx b/\b0.like b
 new:∀b,e.new=some b->ScB ks.nx b/\b≠ .dead
 sc:ScD M (ns tag e.v)
 run:∃bo,∀k,∃v u,stepG E (cpR E n) none k op (aU (tab F.nt f)) h=some ⟨v,u⟩/\RD (Be F ks nid e) (V.set nid k tag bo) (ns tag e.v) v/\KH (Be F ks nid e) (V.set nid k tag bo) V ks k e u
def MK(P:Program)(ty:TypeId)(kinds:List IntKind):Prop:=∀(x y:Operand) (l:List (Int×Int)),l.length=kinds.length->
 aq P (do eqGuard .eql ty x y (.agg ((kinds.zip l).map λz=>Value.int z.1 z.2.1).toArray) (.agg ((kinds.zip l).map λz=>Value.int z.1 z.2.2).toArray);binOp .eql ty (.agg ((kinds.zip l).map λz=>Value.int z.1 z.2.1).toArray) (.agg ((kinds.zip l).map λz=>Value.int z.1 z.2.2).toArray))=some (.bool (@decide (eqP l) (eqD l)))/\
 aq P (do eqGuard .neq ty x y (.agg ((kinds.zip l).map λz=>Value.int z.1 z.2.1).toArray) (.agg ((kinds.zip l).map λz=>Value.int z.1 z.2.2).toArray);binOp .neq ty (.agg ((kinds.zip l).map λz=>Value.int z.1 z.2.1).toArray) (.agg ((kinds.zip l).map λz=>Value.int z.1 z.2.2).toArray))=some (.bool (!(@decide (eqP l) (eqD l))))
def Gp(E:Env)(n:Nat)(k:FuncId)(vs:List TD):(o:OutK)->o.val->Prop
 | .data true ts,x=>RunsP E n k vs (.fresh,fp ts x)
 | .data false ts,x=>CO E n k vs (fp ts x)
 | .own e,l=>RunsP E n k vs (.own,[.one (.s true e.size (l.map e.row))])
 | .mown e,l=>RunsP E n k vs (Kd e.size e.row l)
 | .gown e,s=>RunsP E n k vs (bif s.nn then .own else .fresh,[.one (.s s.nn s.sz (s.l.map e.row))])
def je(E:Env)(en:eh):Prop:=∀m a out,en.f a=some out->Gp E (m+en.d) en.k (fp en.ins a) en.out out
structure GOk(G:KG)(E:Env)(D:Nat):Prop where
 ok:E.Ok
 ti:∀t i,az G.ti t=some i->E.ti t=some i
 eqs:∀ty kinds,az G.eqs ty=some kinds->MK E.P ty kinds
 fns:∀en∈G.fns,en.d<=D/\je E en
 fi:∀k f,az G.fi k=some f->E.fn k=some f/\E.ax k=some λ_=>none
section
variable {E : Env} {n : Nat} {F : KF} {ks : KS} {V : Vl} {f : Nat → D} {h : aC} {M tag nid : Nat} {op : Op} {G : KG} {D0 : Nat}
theorem ML{nid:Nat}{v:KD}:Be F ks nid ⟨v,none,none⟩=aE F ks:=rfl
theorem aB{α:Type}{q:Nat}{b:α}{l:List (Nat×α)}{p:Nat}:az ((q,b)::l) p=if p=q then some b else az l p:=by
 show cond (Nat.beq q p) (some b) (az l p)=_;by_cases h:p=q
 .subst h;rw [if_pos rfl,show Nat.beq p p=true from Nat.beq_refl p];rfl
 .rw [if_neg h]
  cases hb:Nat.beq q p with
  |true=>exact absurd (Nat.eq_of_beq_eq_true hb).symm h
  |false=>rfl
theorem jy{q:Nat}{b:KB}{bl:List (Nat×KB)}{p:Nat}(hb:b≠ .dead):aE F {ks with bl:=(q,b)::bl} p=if p=q then some b else aE F {ks with bl:=bl} p:=by
 by_cases hp:p=q
 .subst hp;rw [if_pos rfl];unfold aE bA;simp only [aB,if_true]
  cases b with
  |dead=>exact absurd rfl hb
  |_=>rfl
 .rw [if_neg hp];unfold aE bA;simp only [aB,if_neg hp]
theorem yZ{q:Nat}{bl:List (Nat×KB)}{p:Nat}:aE F {ks with bl:=(q,.dead)::bl} p=if p=q then none else aE F {ks with bl:=bl} p:=by
 by_cases hp:p=q
 .subst hp;rw [if_pos rfl];unfold aE bA;simp only [aB,if_true]
 .rw [if_neg hp];unfold aE bA;simp only [aB,if_neg hp]
theorem aA{p:Nat}{b:KB}(h:az ks.bl p=some b)(hb:b≠ .dead):aE F ks p=some b:=by
 unfold aE bA;rw [h]
 cases b with
 |dead=>exact absurd rfl hb
 |_=>rfl
theorem AU(hn:ks.nx<=nid){e:KE}(hu:∀p b,e.upd=some (p,b)->∃b0,az ks.bl p=some b0/\b0≠ .dead/\b0.like b)(hnew:∀b,e.new=some b->b≠ .dead):LeB ks.nx (aE F ks) (Be F ks nid e):=by
 have h1:LeB ks.nx (aE F ks) (aE F {ks with bl:=blU e ks.bl}):=by
  unfold blU
  cases hx:e.upd with
  |none=>exact LeB.refl _ _
  |some x=>
   obtain⟨p0,b⟩:=x;obtain⟨b0,g1,g2,g3⟩:=hu p0 b hx;have g1':=aA (F:=F) g1 g2;intro p hp;by_cases hb:b= .dead
   .subst hb;simp only [yZ];by_cases hpp:p=p0
    .simp [hpp]
    .simp only [if_neg hpp];exact⟨λe ne l h=>⟨e,ne,l,h,rfl⟩,λe l h=>⟨e,l,h,rfl⟩⟩
   .simp only [jy hb];by_cases hpp:p=p0
    .subst hpp;simp only [if_pos rfl];refine⟨λe ne l h=> ?_,λe l h=> ?_⟩
     .have:=Option.some.inj h
      subst this;obtain⟨e0,n0,l0,k1,k2⟩:=g3;exact⟨e0,n0,l0,by rw [g1',k1],k2⟩
     .have:=Option.some.inj h
      subst this;obtain⟨e0,l0,k1,k2⟩:=g3;exact⟨e0,l0,by rw [g1',k1],k2⟩
    .simp only [if_neg hpp];exact⟨λe ne l h=>⟨e,ne,l,h,rfl⟩,λe l h=>⟨e,l,h,rfl⟩⟩
 unfold Be blE
 cases hx:e.new with
 |none=>exact h1
 |some b=>
  intro p hp;simp only [jy (hnew b hx),if_neg (show¬p=nid by omega)];exact h1 p hp
theorem jV{d:KD}(h:∀x,d≠ .one (.bv x)):ns tag d=d:=by
 unfold ns;split
 .exact absurd rfl (h _)
 .rfl
theorem ba{d:KD}{v:D}(ht:ks.nx<=tag)(hn:ks.nx<=nid)(htM:tag<M)(hv:∀k,stepG E (cpR E n) none k op (aU (tab F.nt f)) h=some ⟨v,[]⟩)(hs:ScD ks.nx d)(hd:RD (aE F ks) V d v):dq E n F ks V f h M tag nid op ⟨d,none,none⟩:=by
 have hM:ks.nx<=M:=by omega
 refine⟨λp b hb=>by simp at hb,λb hb=>by simp at hb,?_,?_⟩
 .unfold ns;split
  .exact htM
  .exact hs.mono hM
 .refine⟨match d with
   | .one (.bv x)=>x
   |_=>false,λk=>⟨v,[],hv k,?_,⟨[],[],rfl,rfl,rfl⟩⟩⟩
  rw [ML];by_cases hb:∃x,d= .one (.bv x)
  .obtain⟨x,rfl⟩:=hb;obtain⟨c,rfl,hc⟩:=hd;refine⟨_,rfl,?_,?_⟩
   .rw [Vl.set_bo];exact hc
   .rw [Vl.set_bo];cases x<;>rfl
  .rw [jV (λx hx=>hb ⟨x,hx⟩)];exact hd.mono hs (LeB.refl _ _) (Vl.set_agree hn ht)
theorem fq{P:Prop}{d:Decidable P}{b:Bool}(ht:ks.nx<=tag)(hn:ks.nx<=nid)(htM:tag<M)(hv:∀k,stepG E (cpR E n) none k op (aU (tab F.nt f)) h=some ⟨bD b,[]⟩)(hb:b= @decide P d):dq E n F ks V f h M tag nid op ⟨.one (.p tag P d),none,none⟩:=by
 refine⟨λp b hb=>by simp at hb,λb hb=>by simp at hb,htM,b,λk=>⟨_,[],hv k,⟨_,rfl,?_,?_⟩,⟨[],[],rfl,rfl,rfl⟩⟩⟩
 .rw [Vl.set_bo]
 .rw [Vl.set_bo];exact hb
theorem nk{d:KD}{b:KB}(hM:ks.nx<=M)(ht:ks.nx<=tag)(hn:ks.nx<=nid)(hb:ks.nx<=nid->ScB ks.nx b/\b≠ .dead)(hd:ScD M d)(hnb:∀x,d≠ .one (.bv x))
  (hv:∀k,(b.there/\∃v x,stepG E (cpR E n) none k op (aU (tab F.nt f)) h=some ⟨v,[(k,x)]⟩/\RD (Be F ks nid ⟨d,none,some b⟩) (V.set nid k tag false) d v/\BlkIs (Be F ks nid ⟨d,none,some b⟩) (V.set nid k tag false) x b)∨(¬b.there/\∃v,stepG E (cpR E n) none k op (aU (tab F.nt f)) h=some ⟨v,[]⟩/\RD (Be F ks nid ⟨d,none,some b⟩) (V.set nid k tag false) d v)):dq E n F ks V f h M tag nid op ⟨d,none,some b⟩:=by
 refine⟨λp b hb=>by simp at hb,λb' hb'=>by simp at hb';subst hb';exact hb hn,by rw [jV hnb];exact hd,false,λk=> ?_⟩;rcases hv k with⟨h0,v,x,h1,h2,h3⟩|⟨h0,v,h1,h2⟩
 .exact⟨v,_,h1,by rw [jV hnb];exact h2,⟨[],[(k,x)],rfl,rfl,.inl ⟨x,rfl,h3,h0⟩⟩⟩
 .exact⟨v,_,h1,by rw [jV hnb];exact h2,⟨[],[],rfl,rfl,.inr ⟨rfl,h0⟩⟩⟩
theorem AV{d:KD}{v:D}{p:Nat}{b0 b:KB}{x:Blk}(ht:ks.nx<=tag)(hn:ks.nx<=nid)(hM:ks.nx<=M)(hp:az ks.bl p=some b0)(h0:b0≠ .dead)(hth:b0.there)(hsc:ScB ks.nx b)(hl:b0.like b)(hd:ScD ks.nx d)(hnb:∀x,d≠ .one (.bv x))
  (hv:∀k,stepG E (cpR E n) none k op (aU (tab F.nt f)) h=some ⟨v,[(V.id p,x)]⟩) (hrd:RD (aE F ks) V d v) (hx:BlkIs (aE F ks) V x b):dq E n F ks V f h M tag nid op ⟨d,some (p,b),none⟩:=by
 have hle:LeB ks.nx (aE F ks) (Be F ks nid ⟨d,some (p,b),none⟩):=AU hn (λp' b' hb'=>by simp at hb';obtain⟨rfl,rfl⟩:=hb';exact⟨b0,hp,h0,hl⟩) (λb hb=>by simp at hb);refine⟨λp' b' hb'=>by simp at hb';obtain⟨rfl,rfl⟩:=hb';exact⟨b0,hp,h0,hsc,hl⟩,λb' hb'=>by simp at hb',by rw [jV hnb];exact hd.mono hM,false,λk=>⟨v,_,hv k,by rw [jV hnb];exact hrd.mono hd hle (Vl.set_agree hn ht),⟨[(V.id p,x)],[],rfl,.inl ⟨x,rfl,?_,λb1 hb1=>by rw [hp]at hb1;cases hb1;exact hth⟩,rfl⟩⟩⟩
 cases b with
 |box cs=>obtain⟨sz,cs',g1,g2⟩:=hx;exact⟨sz,cs',g1,g2.mono hsc hle (Vl.set_agree hn ht)⟩
 |rows e ne l=>exact hx
 |mrows e l=>exact hx
 |dead=>exact hx
theorem AW(hG:GOk G E D0){t:TypeId}{z:Nat×Bool}(h:Ks G.ti t=some z):dM E.ti t=some z:=by
 unfold Ks at h;split at h
 .rename_i i hi;unfold dM;rw [hG.ti _ _ hi];exact h
 .simp at h
theorem uy(hG:GOk G E D0){t:TypeId}{m:Nat}{z:Nat×Nat×Bool}(h:MH G.ti t m=some z):fieldAt E.ti t m=some z:=by
 unfold MH at h;split at h
 .rename_i i hi;split at h
  .rename_i fd hfd;split at h
   .rename_i ft hft;unfold fieldAt;rw [hG.ti _ _ hi];simp only [zbS,hfd,hG.ti _ _ hft];exact h
   .simp at h
  .simp at h
 .simp at h
theorem dU(hG:GOk G E D0){ty te z:Nat}{e:Ty}(h:G.elem ty=some (te,e,z)):∃t i2,E.ti ty=some t/\bn t=some te/\E.ti te=some i2/\i2.size=z/\az G.ti te=some i2/\cZ E.ti ty=some z/\t.desc= .slice te:=by
 unfold KG.elem at h;split at h
 .rename_i t ht;split at h
  .rename_i e1 he1;split at h
   .rename_i i2 hi2;simp only [Option.map_eq_some_iff,Prod.mk.injEq]at h;obtain⟨x,_,rfl,rfl,rfl⟩:=h;refine⟨t,i2,hG.ti _ _ ht,he1,hG.ti _ _ hi2,rfl,hi2,?_,?_⟩
    .unfold cZ;rw [hG.ti _ _ ht];simp only [zbS,he1,hG.ti _ _ hi2]
    .unfold bn at he1;split at he1
     .rename_i e2 hd;rw [hd];cases he1;rfl
     .simp at he1
   .simp at h
  .simp at h
 .simp at h
theorem AX{α:Type}{l:List α}{i:Int}{y:α}(h:atL l i=some y):l≠[]:=by
 obtain⟨_,h2⟩:=fM h;intro he;rw [he]at h2;simp at h2
theorem wP(e:Ty)(x:e.val):(aL e.row x).length=e.size:=by
 unfold aL;rw [List.length_map,nj]
theorem oS{e:Ty}{l:List e.val}{i:Int}{y:e.val}(h:atL l i=some y):0<=i/\(l.map (aL e.row))[i.toNat]? =some ((e.row y).map (pC true)):=by
 obtain⟨h1,h2⟩:=fM h;exact⟨h1,aG h2⟩
end
end K
end Ev
end
noncomputable section
namespace Ev
namespace K
open Go Go.RowKit
section
variable {E : Env} {n : Nat} {F : KF} {ks : KS} {V : Vl} {f : Nat → D} {h : aC} {M tag nid : Nat} {op : Op} {G : KG} {D0 : Nat} {R : Type} {κ : KE → Option R} {r : R}
theorem wQ{B:BK}{N:Nat}{d:KD}{cs:List KC}{d':D}(hk:kCs d=some cs)(hs:ScD N d)(hd:RD B V d d'):∃cs',gU d'=some cs'/\RCs B V cs cs'/\Scs N cs:=by
 cases d with
 |one c=>
  have:=Option.some.inj (show some [c]=some cs from hk)
  subst this;obtain⟨c',rfl,hc⟩:=hd;exact⟨[c'],rfl,.one hc,λx hx=>by rw [List.mem_singleton.1 hx];exact hs⟩
 |agg l=>
  have:=Option.some.inj (show some l=some cs from hk)
  subst this;obtain⟨c',rfl,hc⟩:=hd;exact⟨c',rfl,hc,hs⟩
 |tup ts=>simp [kCs]at hk
theorem ik{B:BK}{ag:Bool}{cs:List KC}{cs':List C}{d:KD}{N:Nat}(hk:kOf ag cs=some d)(hs:Scs N cs)(hr:RCs B V cs cs'):∃d',dr ag cs'=some d'/\RD B V d d'/\ScD N d:=by
 unfold kOf at hk
 cases ag with
 |true=>
  have:=Option.some.inj (by simpa using hk)
  subst this;exact⟨.agg cs',rfl,⟨_,rfl,hr⟩,hs⟩
 |false=>
  cases cs with
  |nil=>simp at hk
  |cons c l=>cases l with
   |nil=>
    have:=Option.some.inj (by simpa using hk)
    subst this;obtain⟨y,rfl,hy⟩:=hr.one_inv;exact⟨.one y,rfl,⟨_,rfl,hy⟩,hs c (by simp)⟩
   |cons c2 l=>simp at hk
theorem Gq{e:Ty}{l:List e.val}{i:Nat}{y:e.val}:(l.map (aL e.row)).set i ((e.row y).map (pC true))=(l.set i y).map (aL e.row):=map_set (r:=aL e.row)
theorem MM(hG:GOk G E D0)(hr:Rel F ks V f h)(ht:ks.nx<=tag)(hn:ks.nx<=nid)(htM:tag<M){t:TypeId}{a:Operand}(hs:cW G F ks tag nid (.load t a) κ=some r):∃e,κ e=some r/\dq E n F ks V f h M tag nid (.load t a) e:=by
 simp only [cW]at hs;split at hs
 .rename_i z d hz hd;have hz':=AW hG hz;obtain⟨d',h1,h2,h3⟩:=bX hr hd
  cases d with
  |tup ts=>simp [iX]at hs
  |agg cs=>simp [iX]at hs
  |one c=>
   obtain⟨c',rfl,hc⟩:=h3
   cases c with
   |ptr p j=>
    simp only [iX]at hs;split at hs
    .rename_i cs hp;simp only [zbE]at hs;obtain⟨d2,⟨cs2,g1,g2⟩,g3⟩:=hs;obtain⟨g4,g5,sz,cs',g6,g7⟩:=hr.bl p _ hp;obtain⟨c2,g8,g9⟩:=g7.cut g1;obtain⟨d3,k1,k2,k3⟩:=ik g2 (jF g5 g1) g9;rw [show c'=_ from hc]at h1;exact⟨_,g3,ba ht hn htM (λk=>fC (L:= [[(V.id p,sz,[cs'])]]) 0 h1 hz' rfl rfl g8 k1 h k (jx g6)) k3 k2⟩
    .simp at hs
   |ip e fr x i y j=>
    simp only [iX,zbE]at hs;obtain⟨d2,⟨cs2,g1,g2⟩,g3⟩:=hs;obtain⟨fl,e1,e2,e3⟩:=hc;obtain⟨c2,g8,g9⟩:=(eK (B:=aE F ks) (V:=V) e3 e y).cut g1;obtain⟨d3,k1,k2,k3⟩:=ik g2 (jF (gd ks.nx fr e y) g1) g9;rw [e1]at h1;exact⟨_,g3,ba ht hn htM (λk=>bq (L:= []) h1 hz' (aG e2) g8 k1 h k bk) k3 k2⟩
   |pe p i j=>
    simp only [iX]at hs;rw [hc.2]at h1;split at hs
    .rename_i e ne l hp;simp only [zbE]at hs;obtain⟨y,g0,d2,⟨cs2,g1,g2⟩,g3⟩:=hs;obtain⟨g4,g5,g6,_⟩:=hr.bl p _ hp;obtain⟨c2,g8,g9⟩:=(eK (B:=aE F ks) (V:=V) (λ_=>rfl) e y).cut g1;obtain⟨d3,k1,k2,k3⟩:=ik g2 (jF (gd ks.nx true e y) g1) g9;exact⟨_,g3,ba ht hn htM (λk=>fC (L:= [[(V.id p,_,_)]]) 0 h1 hz' rfl (oS g0).2 g8 k1 h k (jx g6)) k3 k2⟩
    .rename_i e l hp;simp only [zbE]at hs;obtain⟨y,g0,d2,⟨cs2,g1,g2⟩,g3⟩:=hs;obtain⟨g4,g5,g6⟩:=hr.bl p _ hp;have g6:=g6 (AX g0);obtain⟨c2,g8,g9⟩:=(eK (B:=aE F ks) (V:=V) (λ_=>rfl) e y).cut g1;obtain⟨d3,k1,k2,k3⟩:=ik g2 (jF (gd ks.nx true e y) g1) g9;exact⟨_,g3,ba ht hn htM (λk=>fC (L:= [[(V.id p,_,_)]]) 0 h1 hz' rfl (oS g0).2 g8 k1 h k (jx g6)) k3 k2⟩
    .simp at hs
   |_=>simp [iX]at hs
 .simp at hs
theorem KI(hG:GOk G E D0)(hr:Rel F ks V f h)(ht:ks.nx<=tag)(hn:ks.nx<=nid)(htM:tag<M){t:TypeId}{a x:Operand}(hs:cW G F ks tag nid (.store t a x) κ=some r):∃e,κ e=some r/\dq E n F ks V f h M tag nid (.store t a x) e:=by
 have hM:ks.nx<=M:=by omega
 simp only [cW]at hs;split at hs
 .rename_i z d v hz hd hx;have hz':=AW hG hz;obtain⟨d',h1,h2,h3⟩:=bX hr hd;obtain⟨v',x1,x2,x3⟩:=bX hr hx;unfold wq at hs;split at hs
  .simp at hs
  .rename_i cs hcs;obtain⟨cs',y1,y2,y3⟩:=wQ hcs x2 x3;split at hs
   .rename_i hlen;have hlen':Nat.beq cs'.length z.1=true:=by rw [y2.len,hlen];exact Nat.beq_refl _
    split at hs
    .rename_i p j;obtain⟨c',rfl,hc⟩:=h3;rw [show c'=_ from hc]at h1;split at hs
     .rename_i es hp;simp only [zbE]at hs;obtain⟨es',g1,g2⟩:=hs;obtain⟨g4,g5,sz,es2,g6,g7⟩:=hr.bl p _ (aA hp (by simp));obtain⟨e3,k1,k2⟩:=g7.patch y2 g1;exact⟨_,g2,AV ht hn hM hp (by simp) trivial (yX g5 y3 g1) trivial (by intro z hz;simp at hz) (by intro z hz;simp [kUn]at hz) (λk=>(bI (L:= [[(V.id p,sz,[es2])]]) 0 h1 x1 y1 hz' hlen' rfl rfl k1 rfl).2 h k (jx g6)) ⟨[],rfl,rfl⟩ ⟨sz,e3,rfl,k2⟩⟩
     .simp at hs
    .rename_i p i j;obtain⟨c',rfl,hc⟩:=h3;rw [hc.2]at h1;split at hs
     .rename_i e ne l hp;split at hs
      .rename_i hfr;simp only [zbE]at hs;obtain⟨y,g0,es',g1,y',g2,g3⟩:=hs;obtain⟨g4,g5,g6,g7⟩:=hr.bl p _ (aA hp (by simp));obtain⟨e3,k1,k2⟩:=(eK (B:=aE F ks) (V:=V) (λ_=>rfl) e y).patch y2 g1
       have hfr2:es'.all frC=true:=by
        have hk:∀c∈dG true e y,frC c=true:=fr_kcells e y;unfold Ev.patch at g1;split at g1
        .rw [<-Option.some.inj g1,List.all_append,List.all_append,hfr];rw [List.all_eq_true.2 λc hc=>hk c (List.mem_of_mem_take hc),List.all_eq_true.2 λc hc=>hk c (List.mem_of_mem_drop hc)];rfl
        .simp at g1
       have:=oO g2 hfr2 k2
       subst this;refine⟨_,g3,AV ht hn hM hp (by simp) trivial trivial ⟨_,_,_,rfl,by rw [List.length_set]⟩ (by intro z hz;simp at hz) (by intro z hz;simp [kUn]at hz) (λk=>(bI (L:= [[(V.id p,_,_)]]) 0 h1 x1 y1 hz' hlen' rfl (oS g0).2 k1 rfl).2 h k (jx g6)) ⟨[],rfl,rfl⟩ ⟨by rw [Gq],λhne=> ?_⟩⟩
       have:=g7 hne
       intro he;exact this (by have:=congrArg List.length he;rw [List.length_set]at this;exact List.length_eq_zero_iff.1 this)
      .simp at hs
     .rename_i e l hp;split at hs
      .rename_i hfr;simp only [zbE]at hs;obtain⟨y,g0,es',g1,y',g2,g3⟩:=hs;obtain⟨g4,g5,g6⟩:=hr.bl p _ (aA hp (by simp));have hne:=AX g0;have g6:=g6 hne;obtain⟨e3,k1,k2⟩:=(eK (B:=aE F ks) (V:=V) (λ_=>rfl) e y).patch y2 g1
       have hfr2:es'.all frC=true:=by
        have hk:∀c∈dG true e y,frC c=true:=fr_kcells e y;unfold Ev.patch at g1;split at g1
        .rw [<-Option.some.inj g1,List.all_append,List.all_append,hfr];rw [List.all_eq_true.2 λc hc=>hk c (List.mem_of_mem_take hc),List.all_eq_true.2 λc hc=>hk c (List.mem_of_mem_drop hc)];rfl
        .simp at g1
       have:=oO g2 hfr2 k2
       subst this;exact⟨_,g3,AV ht hn hM hp (by simp) hne trivial ⟨_,_,rfl,by rw [List.length_set]⟩ (by intro z hz;simp at hz) (by intro z hz;simp [kUn]at hz) (λk=>(bI (L:= [[(V.id p,_,_)]]) 0 h1 x1 y1 hz' hlen' rfl (oS g0).2 k1 rfl).2 h k (jx g6)) ⟨[],rfl,rfl⟩ (by rw [Gq];rfl)⟩
      .simp at hs
     .simp at hs
    .simp at hs
   .simp at hs
 .simp at hs
where
 fr_kcells:∀(e:Ty) (y:e.val),∀c∈dG true e y,frC c=true
  | .I _,_=>λc hc=>by rw [List.mem_singleton.1 hc];rfl
  | .B,_=>λc hc=>by rw [List.mem_singleton.1 hc];rfl
  | .S _,_=>λc hc=>by rw [List.mem_singleton.1 hc];rfl
  | .U,_=>λc hc=>by simp [dG]at hc
  | .C a b,x=>λc hc=>by
   rcases List.mem_append.1 (show c∈dG true a x.1++dG true b x.2 from hc)with h|h
   .exact fr_kcells a x.1 c h
   .exact fr_kcells b x.2 c h
theorem Gr(hr:Rel F ks V f h)(ht:ks.nx<=tag)(hn:ks.nx<=nid)(htM:tag<M){x:Operand}{o:Op}(ho:o= .move x∨o= .assign x)(hs:(kO F ks x).bind (λd=>κ ⟨d,none,none⟩)=some r):∃e,κ e=some r/\dq E n F ks V f h M tag nid o e:=by
 simp only [zbE]at hs;obtain⟨d,hx,hk⟩:=hs;obtain⟨d',h1,h2,h3⟩:=bX hr hx;rcases ho with rfl|rfl
 .exact⟨_,hk,ba ht hn htM (λk=>JV (L:= []) h1 h k bk) h2 h3⟩
 .exact⟨_,hk,ba ht hn htM (λk=>CL (L:= []) h1 h k bk) h2 h3⟩
theorem KJ(hG:GOk G E D0)(ht:ks.nx<=tag)(hn:ks.nx<=nid)(htM:tag<M)(hnM:nid<M){t:TypeId}(hs:cW G F ks tag nid (.alloc t) κ=some r):∃e,κ e=some r/\dq E n F ks V f h M tag nid (.alloc t) e:=by
 simp only [cW]at hs;split at hs
 .rename_i i hi;refine⟨_,hs,nk (by omega) ht hn (λ_=>⟨AT _ _,by simp⟩) hnM (by simp) λk=> .inl ⟨trivial,_,_,aX (L:= []) (hG.ti _ _ hi) rfl rfl h k bk,⟨_,rfl,?_⟩,_,_,rfl,oQ _⟩⟩;show C.ptr k 0 0= .ptr _ 0 0;rw [Vl.set_id]
 .simp at hs
theorem Pi(hG:GOk G E D0)(hr:Rel F ks V f h)(ht:ks.nx<=tag)(hn:ks.nx<=nid)(htM:tag<M)(hnM:nid<M){t:TypeId}{x:Operand}(hs:cW G F ks tag nid (.box t x) κ=some r):∃e,κ e=some r/\dq E n F ks V f h M tag nid (.box t x) e:=by
 simp only [cW]at hs;split at hs
 .rename_i i cs hi hcs;simp only [zbE]at hcs;obtain⟨d,hd,hcs⟩:=hcs;obtain⟨d',h1,h2,h3⟩:=bX hr hd;obtain⟨cs',y1,y2,y3⟩:=wQ hcs h2 h3;refine⟨_,hs,nk (by omega) ht hn (λ_=>⟨y3,by simp⟩) hnM (by simp) λk=> .inl ⟨trivial,_,_,dN (L:= []) (hG.ti _ _ hi) h1 y1 rfl h k bk,⟨_,rfl,?_⟩,_,_,rfl,y2.mono y3 (AU hn (λp b hb=>by simp at hb) (λb hb=>by simp at hb;subst hb;simp)) (Vl.set_agree hn ht)⟩⟩;show C.ptr k 0 0= .ptr _ 0 0;rw [Vl.set_id]
 .simp at hs
theorem AY(hG:GOk G E D0)(hr:Rel F ks V f h)(ht:ks.nx<=tag)(hn:ks.nx<=nid)(htM:tag<M){t:TypeId}{x:Operand}{m:Nat}(hs:cW G F ks tag nid (.fieldAddr t x m) κ=some r):∃e,κ e=some r/\dq E n F ks V f h M tag nid (.fieldAddr t x m) e:=by
 simp only [cW]at hs;split at hs
 .rename_i off sz ag p j hf hx;obtain⟨d',h1,h2,c',rfl,hc⟩:=bX hr hx;split at hs
  .simp at hs
  .rename_i hz;rw [show c'=_ from hc]at h1;exact⟨_,hs,ba ht hn htM (λk=>ah (L:= []) h1 (uy hG hf) (by cases hb:Nat.beq sz 0 with|true=>exact absurd (Nat.eq_of_beq_eq_true hb) hz|false=>rfl) h k bk) h2 ⟨_,rfl,rfl⟩⟩
 .rename_i off sz ag p i j hf hx;obtain⟨d',h1,h2,c',rfl,hc⟩:=bX hr hx;split at hs
  .simp at hs
  .rename_i hz;rw [hc.2]at h1;exact⟨_,hs,ba ht hn htM (λk=>ah (L:= []) h1 (uy hG hf) (by cases hb:Nat.beq sz 0 with|true=>exact absurd (Nat.eq_of_beq_eq_true hb) hz|false=>rfl) h k bk) h2 ⟨_,rfl,hc.1,rfl⟩⟩
 .rename_i off sz ag e fr s i y j hf hx;obtain⟨d',h1,h2,c',rfl,fl,hc,hc2,hc3⟩:=bX hr hx;split at hs
  .simp at hs
  .rename_i hz;rw [hc]at h1;exact⟨_,hs,ba ht hn htM (λk=>dw (L:= []) h1 (uy hG hf) (by cases hb:Nat.beq sz 0 with|true=>exact absurd (Nat.eq_of_beq_eq_true hb) hz|false=>rfl) h k bk) h2 ⟨_,rfl,fl,rfl,hc2,hc3⟩⟩
 .simp at hs
theorem KL(hG:GOk G E D0)(hr:Rel F ks V f h)(ht:ks.nx<=tag)(hn:ks.nx<=nid)(htM:tag<M){t:TypeId}{x:Operand}{m:Nat}(hs:cW G F ks tag nid (.field t x m) κ=some r):∃e,κ e=some r/\dq E n F ks V f h M tag nid (.field t x m) e:=by
 simp only [cW]at hs;split at hs
 .rename_i off sz ag cs hf hx;simp only [zbE]at hs;obtain⟨d2,⟨cs2,g1,g2⟩,g3⟩:=hs;obtain⟨d',h1,h2,cs',rfl,hc⟩:=bX hr hx;obtain⟨c2,g8,g9⟩:=hc.cut g1;obtain⟨d3,k1,k2,k3⟩:=ik g2 (jF h2 g1) g9;exact⟨_,g3,ba ht hn htM (λk=>CM (L:= []) h1 (uy hG hf) g8 k1 h k bk) k3 k2⟩
 .simp at hs
theorem Gs{B:BK}:∀{l:List (Bool×List KC)} {ds:List D} {i:Nat} {x:Bool×List KC},RTs B V l ds->l[i]? =some x->∃d,ds[i]? =some d/\RD1 B V (mkD x) d
 | [],ds,i,x,hr,hx=>by simp at hx
 |y::l,ds,0,x,⟨d,s,hd,h1,h2⟩,hx=>by simp at hx;subst hx hd;exact⟨d,rfl,h1⟩
 |y::l,ds,i+1,x,⟨d,s,hd,h1,h2⟩,hx=>by subst hd;simpa using Gs h2 (by simpa using hx)
theorem Fg{B:BK}{k:KD}{d:D}(h:RD1 B V k d):RD B V k d:=by
 cases k with
 |one c=>exact h
 |agg cs=>exact h
 |tup ts=>exact h.elim
theorem Fh(hr:Rel F ks V f h)(ht:ks.nx<=tag)(hn:ks.nx<=nid)(htM:tag<M){x:Operand}{i:Nat}(hs:cW G F ks tag nid (.extract x i) κ=some r):∃e,κ e=some r/\dq E n F ks V f h M tag nid (.extract x i) e:=by
 simp only [cW]at hs;split at hs
 .rename_i ds hx;simp only [zbE]at hs;obtain⟨d,g1,g2⟩:=hs;obtain⟨d',h1,h2,ds',rfl,hc⟩:=bX hr hx;obtain⟨d3,k1,k2⟩:=Gs hc g1;exact⟨_,g2,ba ht hn htM (λk=>jR (L:= []) h1 k1 h k bk) (ux (h2 _ (List.mem_of_getElem? g1))) (Fg k2)⟩
 .simp at hs
theorem MN(hr:Rel F ks V f h)(ht:ks.nx<=tag)(hn:ks.nx<=nid)(htM:tag<M){o:UnOp}{t:TypeId}{x:Operand}(hs:cW G F ks tag nid (.unOp o t x) κ=some r):∃e,κ e=some r/\dq E n F ks V f h M tag nid (.unOp o t x) e:=by
 simp only [cW]at hs;split at hs
 .rename_i v hx;obtain⟨d',h1,h2,c',rfl,hc⟩:=bX hr hx;rw [show c'=_ from hc]at h1;exact⟨_,hs,ba ht hn htM (λk=>eg (L:= []) h1 h k bk) trivial ⟨_,rfl,rfl⟩⟩
 .rename_i tg P d hx;obtain⟨d',h1,h2,c',rfl,hc,hc2⟩:=bX hr hx;rw [hc]at h1;refine⟨_,hs,fq ht hn htM (λk=>eg (L:= []) h1 h k bk) ?_⟩;rw [hc2];by_cases hP:P<;>simp [hP]
 .rename_i v hx;obtain⟨d',h1,h2,c',rfl,hc⟩:=bX hr hx;rw [show c'=_ from hc]at h1;refine⟨_,hs,fq ht hn htM (λk=>eg (L:= []) h1 h k bk) ?_⟩;cases v<;>rfl
 .rename_i k v hx;obtain⟨d',h1,h2,c',rfl,hc⟩:=bX hr hx;rw [show c'=_ from hc]at h1;exact⟨_,hs,ba ht hn htM (λk=>NP (L:= []) h1 h k bk) trivial ⟨_,rfl,rfl⟩⟩
 .rename_i k v hx;obtain⟨d',h1,h2,c',rfl,hc⟩:=bX hr hx;rw [show c'=_ from hc]at h1;exact⟨_,hs,ba ht hn htM (λk=>MB (L:= []) h1 h k bk) trivial ⟨_,rfl,rfl⟩⟩
 .simp at hs
theorem KN{P:Program}{src dst:TypeId}{d1:TypeDesc}{k k2:IntKind}{a:Int}(h1:P.underlying src=some d1)(h2:P.underlying dst=some (.int k2)):aq P (Go.convert src dst (.int k a))=some (.int k2 (k2.wrap a)):=by
 unfold Go.convert;simp only [dh,rn h1,rn h2,zbS];cases d1<;>rfl
theorem Fi(hG:GOk G E D0)(hr:Rel F ks V f h)(ht:ks.nx<=tag)(hn:ks.nx<=nid)(htM:tag<M){s t:TypeId}{x:Operand}(hs:cW G F ks tag nid (.convert s t x) κ=some r):∃e,κ e=some r/\dq E n F ks V f h M tag nid (.convert s t x) e:=by
 simp only [cW]at hs;split at hs
 .rename_i si di k a h1 h2 hx;split at hs
  .rename_i k1 k2 g1 g2;split at hs
   .obtain⟨d',e1,e2,c',rfl,hc⟩:=bX hr hx;rw [show c'=_ from hc]at e1;have u1:=hG.ok.1.1 _ _ (hG.ti _ _ h1);have u2:=hG.ok.1.1 _ _ (hG.ti _ _ h2);rw [g2]at u2;exact⟨_,hs,ba ht hn htM (λk=>nf (L:= []) e1 (KN u1 u2) rfl h k bk) trivial ⟨_,rfl,rfl⟩⟩
   .simp at hs
  .simp at hs
 .simp at hs
end
end K
end Ev
end
noncomputable section
namespace Ev
namespace K
open Go Go.RowKit
section
variable {E : Env} {n : Nat} {F : KF} {ks : KS} {V : Vl} {f : Nat → D} {h : aC} {M tag nid : Nat} {op : Op} {G : KG} {D0 : Nat} {R : Type} {κ : KE → Option R} {r : R}
theorem AZ{L:BL}{nt:Nat}{bop:BinOp}{ty sh e:TypeId}{x:Operand}{t:TI}{fr nn:Bool}{sz:Nat}{l:List (List T)}(hx:ov nt f x=some (.one (.p fr (.s nn sz l))))(ht:E.ti ty=some t)(he:bn t=some e):PS E n nt f L (.binOp .eql ty x (.const (.slice none 0 0)) sh) (bD (!nn))/\PS E n nt f L (.binOp .neq ty x (.const (.slice none 0 0)) sh) (bD nn):=by
 constructor<;>intro h nid hb
 all_goals
  rw [CH,bV,hx];show((E.ti ty).bind λt=>(bn t).bind λe=>_)=_;rw [ht];simp only [zbS,he];rfl
theorem KO{L:BL}{nt:Nat}{bop:BinOp}{ty sh e:TypeId}{x:Operand}{t:TI}{k i m:Nat}(hx:ov nt f x=some (.one (.own k i m)))(ht:E.ti ty=some t)(he:bn t=some e):PS E n nt f L (.binOp .eql ty x (.const (.slice none 0 0)) sh) (bD false)/\PS E n nt f L (.binOp .neq ty x (.const (.slice none 0 0)) sh) (bD true):=by
 constructor<;>intro h nid hb
 all_goals
  rw [CH,bV,hx];show((E.ti ty).bind λt=>(bn t).bind λe=>_)=_;rw [ht];simp only [zbS,he];rfl
theorem wR{y:Operand}(h:wB y=true):y= .const (.slice none 0 0):=by
 unfold wB at h;split at h
 .rfl
 .simp at h
theorem za{B:BK}:∀{kinds:List IntKind} {cs ds:List KC} {l:List (Int×Int)} {cs' ds':List C},gQ kinds cs ds=some l->RCs B V cs cs'->RCs B V ds ds'->gp cs'=some ((kinds.zip l).map λz=>Value.int z.1 z.2.1)/\gp ds'=some ((kinds.zip l).map λz=>Value.int z.1 z.2.2)/\l.length=kinds.length
 | [],[],[],l,cs',ds',hz,hc,hd=>by
  have:=Option.some.inj (show some []=some l from hz)
  subst this;rw [show cs'= []from hc,show ds'= []from hd];exact⟨rfl,rfl,rfl⟩
 |k::ks,.n k1 x::r,.n k2 y::s,l,cs',ds',hz,⟨c,c2,e1,h1,h2⟩,⟨d,d2,e2,h3,h4⟩=>by
  simp only [gQ]at hz;split at hz
  .rename_i hk;obtain⟨rfl,rfl⟩:=hk;rw [Option.map_eq_some_iff]at hz;obtain⟨l2,g1,rfl⟩:=hz;obtain⟨k1,k2,k3⟩:=za g1 h2 h4;subst e1 e2;rw [show c=_ from h1,show d=_ from h3];refine⟨?_,?_,by simp [k3]⟩
   .show(do some ((<-pE (iC _ x))::(<-gp c2)))=_;rw [k1];rfl
   .show(do some ((<-pE (iC _ y))::(<-gp d2)))=_;rw [k2];rfl
  .simp at hz
 | [],c::_,_,_,_,_,hz,_,_=>by simp [gQ]at hz
 | [],[],_::_,_,_,_,hz,_,_=>by simp [gQ]at hz
 |_::_,[],_,_,_,_,hz,_,_=>by simp [gQ]at hz
 |_::_,.n _ _::_,[],_,_,_,hz,_,_=>by simp [gQ]at hz
 |_::_,.n _ _::_,.b _::_,_,_,_,hz,_,_=>by simp [gQ]at hz
 |_::_,.n _ _::_,.p _ _ _::_,_,_,_,hz,_,_=>by simp [gQ]at hz
 |_::_,.n _ _::_,.bv _::_,_,_,_,hz,_,_=>by simp [gQ]at hz
 |_::_,.n _ _::_,.v _::_,_,_,_,hz,_,_=>by simp [gQ]at hz
 |_::_,.n _ _::_,.nil::_,_,_,_,hz,_,_=>by simp [gQ]at hz
 |_::_,.n _ _::_,.s _ _ _::_,_,_,_,hz,_,_=>by simp [gQ]at hz
 |_::_,.n _ _::_,.o _ _::_,_,_,_,hz,_,_=>by simp [gQ]at hz
 |_::_,.n _ _::_,.m _ _::_,_,_,_,hz,_,_=>by simp [gQ]at hz
 |_::_,.n _ _::_,.ptr _ _::_,_,_,_,hz,_,_=>by simp [gQ]at hz
 |_::_,.n _ _::_,.pe _ _ _::_,_,_,_,hz,_,_=>by simp [gQ]at hz
 |_::_,.n _ _::_,.ip _ _ _ _ _ _::_,_,_,_,hz,_,_=>by simp [gQ]at hz
 |_::_,.n _ _::_,.clo _ _::_,_,_,_,hz,_,_=>by simp [gQ]at hz
 |_::_,.n _ _::_,.yld _::_,_,_,_,hz,_,_=>by simp [gQ]at hz
 |_::_,.b _::_,_,_,_,_,hz,_,_=>by simp [gQ]at hz
 |_::_,.p _ _ _::_,_,_,_,_,hz,_,_=>by simp [gQ]at hz
 |_::_,.bv _::_,_,_,_,_,hz,_,_=>by simp [gQ]at hz
 |_::_,.v _::_,_,_,_,_,hz,_,_=>by simp [gQ]at hz
 |_::_,.nil::_,_,_,_,_,hz,_,_=>by simp [gQ]at hz
 |_::_,.s _ _ _::_,_,_,_,_,hz,_,_=>by simp [gQ]at hz
 |_::_,.o _ _::_,_,_,_,_,hz,_,_=>by simp [gQ]at hz
 |_::_,.m _ _::_,_,_,_,_,hz,_,_=>by simp [gQ]at hz
 |_::_,.ptr _ _::_,_,_,_,_,hz,_,_=>by simp [gQ]at hz
 |_::_,.pe _ _ _::_,_,_,_,_,hz,_,_=>by simp [gQ]at hz
 |_::_,.ip _ _ _ _ _ _::_,_,_,_,_,hz,_,_=>by simp [gQ]at hz
 |_::_,.clo _ _::_,_,_,_,_,hz,_,_=>by simp [gQ]at hz
 |_::_,.yld _::_,_,_,_,_,hz,_,_=>by simp [gQ]at hz
theorem io{P:Prop}{d:Decidable P}{b:Bool}(h:b=true↔P):b= @decide P d:=by
 by_cases hP:P
 .rw [h.2 hP,decide_eq_true hP]
 .cases b with
  |true=>exact absurd (h.1 rfl) hP
  |false=>rw [decide_eq_false hP]
theorem Pj(ht:ks.nx<=tag)(hn:ks.nx<=nid)(htM:tag<M){bop:BinOp}{ty sh:TypeId}{x y:Operand}{k k':IntKind}{a b:Int}(hx:ov F.nt f x=some (.one (iC k a)))(hy:ov F.nt f y=some (.one (iC k' b)))(hs:Pc tag bop k k' a b κ=some r):∃e,κ e=some r/\dq E n F ks V f h M tag nid (.binOp bop ty x y sh) e:=by
 unfold Pc at hs;split at hs
 .simp only [zbE]at hs;obtain⟨z,h1,h2⟩:=hs;exact⟨_,h2,ba ht hn htM (λq=>cG (L:= []) hx hy (NR h1) rfl h q bk) trivial ⟨_,rfl,rfl⟩⟩
 .simp only [zbE]at hs;obtain⟨z,h1,h2⟩:=hs;exact⟨_,h2,ba ht hn htM (λq=>cG (L:= []) hx hy (Kb h1) rfl h q bk) trivial ⟨_,rfl,rfl⟩⟩
 .split at hs
  .rename_i hk;subst hk;split at hs
   .exact⟨_,hs,ba ht hn htM (λq=>cG (L:= []) hx hy (NK _ _ _ _ _ _ _) rfl h q bk) trivial ⟨_,rfl,rfl⟩⟩
   .exact⟨_,hs,ba ht hn htM (λq=>cG (L:= []) hx hy (NL _ _ _ _ _ _ _) rfl h q bk) trivial ⟨_,rfl,rfl⟩⟩
   .exact⟨_,hs,ba ht hn htM (λq=>cG (L:= []) hx hy (NM _ _ _ _ _ _ _) rfl h q bk) trivial ⟨_,rfl,rfl⟩⟩
   .exact⟨_,hs,ba ht hn htM (λq=>cG (L:= []) hx hy (CP _ _ _ _ _ _ _) rfl h q bk) trivial ⟨_,rfl,rfl⟩⟩
   .exact⟨_,hs,ba ht hn htM (λq=>cG (L:= []) hx hy (MA _ _ _ _ _ _ _) rfl h q bk) trivial ⟨_,rfl,rfl⟩⟩
   .exact⟨_,hs,ba ht hn htM (λq=>cG (L:= []) hx hy (Si _ _ _ _ _ _ _) rfl h q bk) trivial ⟨_,rfl,rfl⟩⟩
   .exact⟨_,hs,ba ht hn htM (λq=>cG (L:= []) hx hy (CQ _ _ _ _ _ _ _) rfl h q bk) trivial ⟨_,rfl,rfl⟩⟩
   .simp only [zbE]at hs;obtain⟨z,h1,h2⟩:=hs;exact⟨_,h2,ba ht hn htM (λq=>cG (L:= []) hx hy (mh h1) rfl h q bk) trivial ⟨_,rfl,rfl⟩⟩
   .simp only [zbE]at hs;obtain⟨z,h1,h2⟩:=hs;exact⟨_,h2,ba ht hn htM (λq=>cG (L:= []) hx hy (wu h1) rfl h q bk) trivial ⟨_,rfl,rfl⟩⟩
   .exact⟨_,hs,fq ht hn htM (λq=>cG (L:= []) hx hy (JG _ _ _ _ _ _ _) rfl h q bk) (io (by simp))⟩
   .exact⟨_,hs,fq ht hn htM (λq=>cG (L:= []) hx hy (JH _ _ _ _ _ _ _) rfl h q bk) (io (by simp))⟩
   .exact⟨_,hs,fq ht hn htM (λq=>cG (L:= []) hx hy (JB _ _ _ _ _ _ _) rfl h q bk) (io (by simp))⟩
   .exact⟨_,hs,fq ht hn htM (λq=>cG (L:= []) hx hy (JC _ _ _ _ _ _ _) rfl h q bk) (io (by simp))⟩
   .exact⟨_,hs,fq ht hn htM (λq=>cG (L:= []) hx hy (JD _ _ _ _ _ _ _) rfl h q bk) (io (by simp))⟩
   .exact⟨_,hs,fq ht hn htM (λq=>cG (L:= []) hx hy (JF _ _ _ _ _ _ _) rfl h q bk) (io (by simp))⟩
   .simp at hs
  .simp at hs
theorem MO{P:Program}{t:TypeId}(hu:P.underlying t=some .bool)(x y:Operand)(a b:Bool):aq P (do eqGuard .eql t x y (.bool a) (.bool b);binOp .eql t (.bool a) (.bool b))=some (.bool (a==b))/\aq P (do eqGuard .neq t x y (.bool a) (.bool b);binOp .neq t (.bool a) (.bool b))=some (.bool (!(a==b))):=by
 have h0:∀d,aq P (Op.equalIn (d+1) t (.bool a) (.bool b))=some (a==b):=λd=>by
  simp only [Op.equalIn,dh,rn hu,zbS];rfl
 have h:aq P (Op.equalIn 10000 t (.bool a) (.bool b))=some (a==b):=h0 9999;constructor
 .have h1:aq P (eqGuard .eql t x y (.bool a) (.bool b))=some ():=rfl;rw [dh,h1];show aq P (binOp .eql t (.bool a) (.bool b))=_;have h2:binOp .eql t (.bool a) (.bool b)=(do pure (.bool (<-Op.equal t (.bool a) (.bool b)))):=rfl;rw [h2,dh];unfold Op.equal Op.maxDepth;rw [h];rfl
 .have h1:aq P (eqGuard .neq t x y (.bool a) (.bool b))=some ():=rfl;rw [dh,h1];show aq P (binOp .neq t (.bool a) (.bool b))=_;have h2:binOp .neq t (.bool a) (.bool b)=(do pure (.bool (!(<-Op.equal t (.bool a) (.bool b))))):=rfl;rw [h2,dh];unfold Op.equal Op.maxDepth;rw [h];rfl
theorem Ih(hG:GOk G E D0){t:TypeId}(h:AN G.ti t=true):E.P.underlying t=some .bool:=by
 unfold AN at h;split at h
 .rename_i i hi;have hu:=hG.ok.ti.und _ _ (hG.ti _ _ hi);split at h
  .rename_i hd;rw [hu,hd]
  .simp at h
 .simp at h
theorem De{B:BK}{V:Vl}{c:KC}{c':C}{x:Bool}(h:Gi c=some x)(hr:RC B V c c'):c'=bC x:=by
 cases c with
 |b v=>cases h;exact hr
 |p tag P d=>cases h;obtain⟨h1,h2⟩:=hr;rw [h1,h2]
 |bv v=>cases h;exact hr
 |_=>simp [Gi]at h
theorem Pk(hG:GOk G E D0)(hr:Rel F ks V f h)(ht:ks.nx<=tag)(hn:ks.nx<=nid)(htM:tag<M){bop:BinOp}{ty sh:TypeId}{x y:Operand}(hs:cW G F ks tag nid (.binOp bop ty x y sh) κ=some r):∃e,κ e=some r/\dq E n F ks V f h M tag nid (.binOp bop ty x y sh) e:=by
 simp only [cW]at hs;split at hs
 .rename_i a b hx hy;obtain⟨a',x1,x2,x3⟩:=bX hr hx;obtain⟨b',y1,y2,y3⟩:=bX hr hy;unfold LZ at hs;split at hs
  .obtain⟨c1,rfl,e1⟩:=x3;obtain⟨c2,rfl,e2⟩:=y3;rw [show c1=_ from e1]at x1;rw [show c2=_ from e2]at y1;exact Pj ht hn htM x1 y1 hs
  .split at hs
   .rename_i z hn1 hel;obtain⟨te,e,zz⟩:=z;obtain⟨t,i2,g1,g2,_⟩:=dU hG hel
    have:=wR hn1
    subst this;obtain⟨c1,rfl,fl,e1,e2⟩:=x3;rw [e1]at x1;simp only [zbE]at hs;obtain⟨c,k1,k2⟩:=hs;unfold sN at k1;split at k1
    .cases k1;exact⟨_,k2,fq ht hn htM (λq=>(AZ (bop:= .eql) (L:= []) x1 g1 g2).1 h q bk) (io (by simp))⟩
    .cases k1;exact⟨_,k2,fq ht hn htM (λq=>(AZ (bop:= .eql) (L:= []) x1 g1 g2).2 h q bk) (io (by simp))⟩
    .simp at k1
   .simp at hs
  .split at hs
   .rename_i z e1 ne l hn1 hel hB;obtain⟨te,e,zz⟩:=z;obtain⟨t,i2,g1,g2,_⟩:=dU hG hel
    have:=wR hn1
    subst this;obtain⟨c1,rfl,e1⟩:=x3;rw [e1 _ _ _ hB]at x1;simp only [zbE]at hs;obtain⟨c,k1,k2⟩:=hs;unfold Gh at k1;split at k1
    .cases k1;exact⟨_,k2,ba ht hn htM (λq=>(KO (bop:= .eql) (L:= []) x1 g1 g2).1 h q bk) trivial ⟨_,rfl,rfl⟩⟩
    .cases k1;exact⟨_,k2,ba ht hn htM (λq=>(KO (bop:= .eql) (L:= []) x1 g1 g2).2 h q bk) trivial ⟨_,rfl,rfl⟩⟩
    .simp at k1
   .simp at hs
  .split at hs
   .rename_i z hn1 hel;obtain⟨te,e,zz⟩:=z;obtain⟨t,i2,g1,g2,_⟩:=dU hG hel
    have:=wR hn1
    subst this;obtain⟨c1,rfl,e1⟩:=x3;rw [show c1=_ from e1]at x1;simp only [zbE]at hs;obtain⟨c,k1,k2⟩:=hs;unfold Gh at k1;split at k1
    .cases k1;exact⟨_,k2,ba ht hn htM (λq=>(AZ (bop:= .eql) (L:= []) x1 g1 g2).1 h q bk) trivial ⟨_,rfl,rfl⟩⟩
    .cases k1;exact⟨_,k2,ba ht hn htM (λq=>(AZ (bop:= .eql) (L:= []) x1 g1 g2).2 h q bk) trivial ⟨_,rfl,rfl⟩⟩
    .simp at k1
   .simp at hs
  .rename_i cs ds;split at hs
   .rename_i kinds hk;split at hs
    .rename_i l hz;obtain⟨cs',rfl,e1⟩:=x3;obtain⟨ds',rfl,e2⟩:=y3;obtain⟨p1,p2,p3⟩:=za hz e1 e2;obtain⟨q1,q2⟩:=hG.eqs _ _ hk x y l p3
     have a1:plain (.agg cs')=some (.agg ((kinds.zip l).map λz=>Value.int z.1 z.2.1).toArray):=by
      show(gp cs').bind (λa=>some (Value.agg a.toArray))=_;rw [p1];rfl
     have a2:plain (.agg ds')=some (.agg ((kinds.zip l).map λz=>Value.int z.1 z.2.2).toArray):=by
      show(gp ds').bind (λa=>some (Value.agg a.toArray))=_;rw [p2];rfl
     simp only [zbE]at hs;obtain⟨c,k1,k2⟩:=hs;unfold sN at k1;split at k1
     .cases k1;exact⟨_,k2,fq ht hn htM (λq=>kr (L:= []) x1 y1 a1 a2 q1 rfl h q bk) rfl⟩
     .cases k1;refine⟨_,k2,fq ht hn htM (λq=>kr (L:= []) x1 y1 a1 a2 q2 rfl h q bk) (io ?_)⟩
      have:= @decide_eq_true_iff (eqP l) (eqD l)
      by_cases hp:eqP l
      .simp [hp]
      .simp [hp]
     .simp at k1
    .simp at hs
   .simp at hs
  .split at hs
   .rename_i u v hT hu hv;have hb:=MO (Ih hG hT) x y u v;obtain⟨c1,rfl,e1⟩:=x3;obtain⟨c2,rfl,e2⟩:=y3;rw [De hu e1]at x1;rw [De hv e2]at y1;simp only [zbE]at hs;obtain⟨c,k1,k2⟩:=hs;unfold sN at k1;split at k1
    .cases k1;exact⟨_,k2,fq ht hn htM (λq=>sG (L:= []) x1 y1 hb.1 rfl h q bk) (io (by simp))⟩
    .cases k1;exact⟨_,k2,fq ht hn htM (λq=>sG (L:= []) x1 y1 hb.2 rfl h q bk) (io (by simp))⟩
    .simp at k1
   .simp at hs
  .simp at hs
 .simp at hs
end
end K
end Ev
end
noncomputable section
namespace Ev
namespace K
open Go Go.RowKit
section
variable {E : Env} {n : Nat} {F : KF} {ks : KS} {V : Vl} {f : Nat → D} {h : aC} {M tag nid : Nat} {op : Op} {G : KG} {D0 : Nat} {R : Type} {κ : KE → Option R} {r : R}
theorem wS{B:BK}{N:Nat}{pl:Nat->Option (Nat×Nat)}:∀{ps:List (Nat×KD)} {ps':List (Nat×D)} {cs cs2:List KC} {cs':List C},CZ pl cs ps=some cs2->RCs B V cs cs'->Scs N cs->(∀x∈ps,ScD N x.2)->ps'.map (·.1)=ps.map (·.1)->RDl B V (ps.map (·.2)) (ps'.map (·.2))->∃cs3,fill pl cs' ps'=some cs3/\RCs B V cs2 cs3/\Scs N cs2
 | [],[],cs,cs2,cs',hk,hr,hs,hps,h1,h2=>by
  have:=Option.some.inj (show some cs=some cs2 from hk)
  subst this;exact⟨cs',rfl,hr,hs⟩
 | [],y::ps',cs,cs2,cs',hk,hr,hs,hps,h1,h2=>by simp at h1
 |x::ps,[],cs,cs2,cs',hk,hr,hs,hps,h1,h2=>by simp at h1
 |(i,d)::ps,(j,d')::ps',cs,cs2,cs',hk,hr,hs,hps,h1,h2=>by
  simp only [List.map_cons,List.cons.injEq]at h1;obtain⟨rfl,h1⟩:=h1;obtain⟨d2,s,h3,h4,h5⟩:=h2;simp only [List.map_cons,List.cons.injEq]at h3;obtain⟨rfl,rfl⟩:=h3;simp only [CZ]at hk;split at hk
  .rename_i off size c hpl hc;split at hk
   .rename_i hlen;simp only [zbE]at hk;obtain⟨c2,g1,g2⟩:=hk;obtain⟨c',e1,e2,e3⟩:=wQ hc (hps (j,d) (by simp)) h4;obtain⟨c3,k1,k2⟩:=hr.patch e2 g1;obtain⟨c4,k3,k4,k5⟩:=wS g2 k2 (yX hs e3 g1) (λx hx=>hps x (by simp [hx])) h1 h5;refine⟨c4,?_,k4,k5⟩;simp only [fill,zbB,hpl,zbS,e1];rw [if_pos (by rw [e2.len];exact hlen),k1];exact k3
   .simp at hk
  .simp at hk
theorem zb{α:Type}{g g':α->Option (Nat×Nat)}(hg:∀a b,g a=some b->g' a=some b):∀{l:List α} {r:List (Nat×Nat)},kPlaces.seqP (l.map g)=some r->l.mapM g'=some r
 | [],r,hs=>by
  have:=Option.some.inj (show some []=some r from hs)
  subst this;rfl
 |a::l,r,hs=>by
  simp only [List.map_cons]at hs
  cases hga:g a with
  |none=>rw [hga]at hs;simp [kPlaces.seqP]at hs
  |some b=>
   rw [hga]at hs;simp only [kPlaces.seqP,Option.map_eq_some_iff]at hs;obtain⟨r2,h1,rfl⟩:=hs;rw [List.mapM_cons,hg a b hga,zb hg h1];rfl
theorem Df(hG:GOk G E D0){t:TypeId}{i:TI}{pl:Nat->Option (Nat×Nat)}(hi:az G.ti t=some i)(hp:kPlaces G.ti t=some pl):jY E.ti i=some pl:=by
 unfold kPlaces at hp;rw [hi]at hp;simp only at hp;unfold jY;split at hp
 .rename_i fs hd;rw [Option.map_eq_some_iff]at hp;obtain⟨l,h1,h2⟩:=hp;rw [hd];simp only
  rw [zb (g':=λf=>(E.ti f.type).map λi=>(f.offset,i.size)) (λa b hab=>by
   split at hab
   .rename_i q hq;rw [hG.ti _ _ hq];exact hab
   .simp at hab) h1]
  rw [Option.map_some,h2]
 .rename_i m e hd;rw [hd];simp only;split at hp
  .rename_i te hte;rw [hG.ti _ _ hte,Option.map_some];exact hp
  .simp at hp
 .simp at hp
theorem KP(hG:GOk G E D0)(hr:Rel F ks V f h)(ht:ks.nx<=tag)(hn:ks.nx<=nid)(htM:tag<M){t:TypeId}{parts:Array (Nat×Operand)}(hs:cW G F ks tag nid (.build t parts) κ=some r):∃e,κ e=some r/\dq E n F ks V f h M tag nid (.build t parts) e:=by
 simp only [cW]at hs;split at hs
 .rename_i i pl ps hi hpl hps;simp only [zbE]at hs;obtain⟨cs,g1,g2⟩:=hs;obtain⟨ps',e1,e2,e3,e4⟩:=sP hr hps;obtain⟨c3,k1,k2,k3⟩:=wS g1 (oQ i.zero) (AT ks.nx i.zero) e2 e3 e4;exact⟨_,g2,ba ht hn htM (λk=>bj (L:= []) (hG.ti _ _ hi) e1 (Df hG hi hpl) k1 h k bk) k3 ⟨_,rfl,k2⟩⟩
 .simp at hs
theorem KQ{te:TI}(hz:te.zero.length=te.size):∀len:Nat,pg te len=(List.replicate len (te.zero.map kA)).flatten:=by
 have hl:(jG te).length=te.size:=by unfold jG;rw [List.length_map,hz]
 intro len;unfold pg;refine List.ext_getElem? λi=> ?_
 induction len generalizing i with
 |zero=>simp
 |succ m ih=>
  have e2:(List.replicate (m+1) (te.zero.map kA)).flatten=(jG te)++(List.replicate m (te.zero.map kA)).flatten:=by rw [List.replicate_succ,List.flatten_cons];rfl
  rw [e2,List.getElem?_append,hl];by_cases hi:i<te.size
  .rw [if_pos hi,List.getElem?_map,List.getElem?_range (by rw [Nat.succ_mul];omega)];simp only [Option.map_some];rw [Nat.mod_eq_of_lt hi,List.getD_eq_getElem?_getD,List.getElem?_eq_getElem (by omega)]
   try rfl
  .rw [if_neg hi,<-ih (i - te.size),List.getElem?_map,List.getElem?_map];by_cases h2:i<(m+1)*te.size
   .have h3:i - te.size<m*te.size:=by rw [Nat.succ_mul]at h2;omega
    rw [List.getElem?_range h2,List.getElem?_range h3];simp only [Option.map_some]
    have:i % te.size=(i - te.size)% te.size:=by
     conv=>lhs;rw [show i=(i - te.size)+te.size by omega,Nat.add_mod_right]
    rw [this]
   .have h3:¬i - te.size<m*te.size:=by rw [Nat.succ_mul]at h2;omega
    rw [List.getElem?_eq_none (by simpa using h2),List.getElem?_eq_none (by simpa using h3)];try rfl
theorem Gt{B:BK}{k:List KC}{c:List C}(hr:RCs B V k c):∀m:Nat,RCs B V (List.replicate m k).flatten (List.replicate m c).flatten
 |0=>rfl
 |m+1=>by
  rw [List.replicate_succ,List.replicate_succ,List.flatten_cons,List.flatten_cons];exact hr.append (Gt hr m)
theorem Pm{N:Nat}{k:List KC}(hs:Scs N k)(m:Nat):Scs N (List.replicate m k).flatten:=λc hc=>by
 obtain⟨l,h1,h2⟩:=List.mem_flatten.1 hc;rw [(List.mem_replicate.1 h1).2]at h2;exact hs c h2
theorem Dg{B:BK}{e:Ty}{z:Nat}{cs:List KC}{cs':List C}(hr:RCs B V cs cs'):∀(m i:Nat) {rs:List (List KC)} {l:List e.val},yP z cs m i=some rs->oM e rs=some l->(List.range' i m).mapM (λi=>Ev.cut cs' (i*z) z)=some (l.map (aL e.row))
 |0,i,rs,l,h1,h2=>by
  have:=Option.some.inj (show some []=some rs from h1)
  subst this
  have:=Option.some.inj (show some []=some l from h2)
  subst this;rfl
 |m+1,i,rs,l,h1,h2=>by
  simp only [yP,zbE]at h1;obtain⟨a,g1,l1,g2,g3⟩:=h1
  have:=Option.some.inj g3
  subst this;simp only [oM]at h2;split at h2
  .rename_i hfr;simp only [zbE]at h2;obtain⟨x,k1,l2,k2,k3⟩:=h2
   have:=Option.some.inj k3
   subst this;obtain⟨c2,e1,e2⟩:=hr.cut g1
   have:=oO k1 hfr e2
   subst this;rw [List.range'_succ,List.mapM_cons,e1,Dg hr m (i+1) g2 k2];rfl
  .simp at h2
theorem zc{z:Nat}{cs:List KC}:∀(m i:Nat) {rs:List (List KC)},yP z cs m i=some rs->rs.length=m
 |0,i,rs,h1=>by
  have:=Option.some.inj (show some []=some rs from h1)
  subst this;rfl
 |m+1,i,rs,h1=>by
  simp only [yP,zbE]at h1;obtain⟨a,g1,l1,g2,g3⟩:=h1
  have:=Option.some.inj g3
  subst this;rw [List.length_cons,zc m (i+1) g2]
theorem tN{e:Ty}:∀{rs:List (List KC)} {l:List e.val},oM e rs=some l->l.length=rs.length
 | [],l,h2=>by
  have:=Option.some.inj (show some []=some l from h2)
  subst this;rfl
 |c::rs,l,h2=>by
  simp only [oM]at h2;split at h2
  .simp only [zbE]at h2;obtain⟨x,k1,l2,k2,k3⟩:=h2
   have:=Option.some.inj k3
   subst this;rw [List.length_cons,List.length_cons,tN k2]
  .simp at h2
theorem Ii(hG:GOk G E D0)(hr:Rel F ks V f h)(ht:ks.nx<=tag)(hn:ks.nx<=nid)(htM:tag<M)(hnM:nid<M){t:TypeId}{len:Nat}{parts:Array (Nat×Operand)}(hs:cW G F ks tag nid (.buildSlice t len parts) κ=some r):∃e,κ e=some r/\dq E n F ks V f h M tag nid (.buildSlice t len parts) e:=by
 simp only [cW]at hs;split at hs
 .rename_i te e z ps hel hps;obtain⟨ti,i2,t1,t2,t3,t4,t5,t6,t7⟩:=dU hG hel;rw [t5]at hs;simp only at hs;split at hs
  .rename_i hz;obtain⟨hz1,hz2⟩:=hz;simp only [zbE]at hs;obtain⟨cs,g1,rs,g2,l,g3,g4⟩:=hs;obtain⟨ps',e1,e2,e3,e4⟩:=sP hr hps;obtain⟨c3,k1,k2,k3⟩:=wS g1 (Gt (oQ i2.zero) len) (Pm (AT ks.nx i2.zero) len) e2 e3 e4;rw [<-KQ (hG.ok.ti.zero _ _ t3).2.1]at k1;have k4:=Dg k2 len 0 g2 g3;rw [<-List.range_eq_range']at k4;have h0:l.length=len:=(tN g3).trans (zc len 0 g2);refine⟨_,g4,nk (by omega) ht hn (λ_=>⟨trivial,by simp⟩) hnM (by simp) λk=> .inl ⟨trivial,_,_,ia (L:= []) t1 t2 t3 t4 e1 k1 k4 (Nat.ble_eq_true_of_le (by rw [Nat.mul_comm];omega)) h k bk,⟨_,rfl,?_⟩,?_,?_⟩⟩
   .intro e' ne l' hl';unfold Be blE blU at hl';simp only [jy (show KB.rows e (Nat.blt 0 len) l≠ .dead by simp),if_true,zsI,KB.rows.injEq]at hl';obtain⟨rfl,rfl,hl'⟩:=hl';rw [<-eq_of_heq hl',h0,Vl.set_id]
   .rw [hz1]
   .intro hb he;rw [he]at h0
    have:(0:Nat)<len:=by simpa using hb
    simp at h0;omega
  .simp at hs
 .simp at hs
theorem iH{e:Ty}{ne:Bool}{l:List e.val}{d:KD}{V:Vl}{k tag:Nat}{bo:Bool}{u:Option (Nat×KB)}:RC (Be F ks nid ⟨d,u,some (.rows e ne l)⟩) (V.set nid k tag bo) (.o e nid) (.own k 0 l.length):=by
 intro e' ne' l' hl';unfold Be blE at hl';simp only [jy (show KB.rows e ne l≠ .dead by simp),if_true,zsI,KB.rows.injEq]at hl';obtain⟨rfl,rfl,hl'⟩:=hl';rw [<-eq_of_heq hl',Vl.set_id]
theorem fZ{e:Ty}{l:List e.val}{d:KD}{V:Vl}{k tag:Nat}{bo:Bool}{u:Option (Nat×KB)}:RC (Be F ks nid ⟨d,u,some (.mrows e l)⟩) (V.set nid k tag bo) (.m e nid) (moC l k):=by
 intro e' l' hl';unfold Be blE at hl';simp only [jy (show KB.mrows e l≠ .dead by simp),if_true,zsI,KB.mrows.injEq]at hl';obtain⟨rfl,hl'⟩:=hl';rw [<-eq_of_heq hl',Vl.set_id]
theorem Bc(hG:GOk G E D0)(hr:Rel F ks V f h)(ht:ks.nx<=tag)(hn:ks.nx<=nid)(htM:tag<M)(hnM:nid<M){t:TypeId}{l c:Operand}(hs:cW G F ks tag nid (.makeSlice t l c) κ=some r):∃e,κ e=some r/\dq E n F ks V f h M tag nid (.makeSlice t l c) e:=by
 simp only [cW]at hs;split at hs
 .rename_i te e z ki i kj j hel hl hc;obtain⟨ti,i2,t1,t2,t3,t4,t5,t6,t7⟩:=dU hG hel;rw [t5]at hs;simp only at hs;split at hs
  .rename_i hz;obtain⟨hz1,hz2⟩:=hz;simp only [zbE]at hs;obtain⟨u0,g0,u,g1,x,g2,g3⟩:=hs;obtain⟨b1,b2⟩:=bU g1;have hcp:=EP g0;obtain⟨dl,l1,l2,c1,rfl,lc⟩:=bX hr hl;obtain⟨dc,l3,l4,c2,rfl,lc2⟩:=bX hr hc;rw [show c1=_ from lc]at l1;rw [show c2=_ from lc2]at l3
   have hrow:jG i2=aL e.row x:=by
    have hf:(i2.zero.map kC).all frC=true:=List.all_eq_true.2 λc hc=>by
     obtain⟨v,_,rfl⟩:=List.mem_map.1 hc;unfold kC;split<;>rfl
    exact oO (B:=noB) (V:=V) g2 hf (oQ i2.zero)
   refine⟨_,g3,nk (by omega) ht hn (λ_=>⟨trivial,by simp⟩) hnM (by simp) λk=> .inl ⟨trivial,_,_,Mk (L:= []) (r:=aL e.row) t1 t2 t3 l1 l3 b1 (by rcases hcp with hij|⟨hij,_⟩<;>omega) (by rcases hcp with hij|⟨_,hij⟩;rw [<-hij];exact b2;exact hij) hrow t4 h k bk,⟨_,rfl,iH⟩,?_,by simp⟩⟩;rw [hz1]
  .simp at hs
 .simp at hs
theorem qn(hr:Rel F ks V f h){o:Option Operand}{m:Nat}{i:Int}(hk:wG F ks o ((m:Nat):Int)=some i)(h0:0<=i):fD (ov F.nt f) o m=some i.toNat:=by
 cases o with
 |none=>
  have:=Option.some.inj (show some ((m:Nat):Int)=some i from hk)
  subst this;exact Ge m
 |some x=>
  simp only [wG]at hk;split at hk
  .rename_i k j hx
   have:=Option.some.inj hk
   subst this;obtain⟨d,g1,g2,c,rfl,g3⟩:=bX hr hx;rw [show c=_ from g3]at g1;exact jD g1 h0 m
  .simp at hk
theorem KR(hG:GOk G E D0)(hr:Rel F ks V f h)(ht:ks.nx<=tag)(hn:ks.nx<=nid)(htM:tag<M){t:TypeId}{x:Operand}{lo hi mx:Option Operand}(hs:cW G F ks tag nid (.slice t x lo hi mx) κ=some r):∃e,κ e=some r/\dq E n F ks V f h M tag nid (.slice t x lo hi mx) e:=by
 simp only [cW]at hs;split at hs
 .rename_i te e z e' fr s hnh hel hx;obtain⟨ti,i2,t1,t2,t3,t4,t5,t6,t7⟩:=dU hG hel;split at hs
  .rename_i i j m hi hj hm;obtain⟨hs,hcm⟩:=Ie hs;simp only [zbE]at hs;obtain⟨s',g1,g2⟩:=hs;obtain⟨d,l1,l2,c,rfl,fl,lc,lc2⟩:=bX hr hx;rw [lc]at l1;subst t4;obtain⟨⟨b1,b2,b3,b4⟩,_⟩:=dj g1
   have hmm:j<=m/\m<=(s.l.length:Int):=by
    cases mx with
    |none=>have:=Option.some.inj (show some ((s.l.length:Nat):Int)=some m from hm);omega
    |some z=>exact hcm rfl
   exact⟨_,g2,ba ht hn htM (λk=>CR (L:= []) (r:=e'.row) g1 l1 t1 t2 t3 (qn hr (m:=0) hi b1) (qn hr hj (by omega)) (qn hr hm (by omega)) hnh (by omega) (by omega) h k bk) trivial ⟨_,rfl,fl,rfl,lc2⟩⟩
  .simp at hs
 .simp at hs
theorem Bd(hG:GOk G E D0)(hr:Rel F ks V f h)(ht:ks.nx<=tag)(hn:ks.nx<=nid)(htM:tag<M){t:TypeId}{x ix:Operand}(hs:cW G F ks tag nid (.indexAddr t x ix) κ=some r):∃e,κ e=some r/\dq E n F ks V f h M tag nid (.indexAddr t x ix) e:=by
 simp only [cW]at hs;split at hs
 .rename_i e fr s k i hx hi;obtain⟨d,l1,l2,c,rfl,fl,lc,lc2⟩:=bX hr hx;obtain⟨d2,l3,l4,c2,rfl,lc3⟩:=bX hr hi;rw [lc]at l1;rw [show c2=_ from lc3]at l3;split at hs
  .rename_i te e2 z hel;obtain⟨ti,i2,t1,t2,t3,t4,t5,t6,t7⟩:=dU hG hel;simp only [zbE]at hs;obtain⟨y,g1,g2⟩:=hs;obtain⟨b1,b2,b3⟩:=bw g1;subst b2;exact⟨_,g2,ba ht hn htM (λk=>de (L:= []) (r:=e.row) l1 l3 b1 b3 t6 h k bk) trivial ⟨_,rfl,fl,rfl,b3,lc2⟩⟩
  .simp at hs
 .rename_i e p k i hx hi;obtain⟨d,l1,l2,c,rfl,lc⟩:=bX hr hx;obtain⟨d2,l3,l4,c2,rfl,lc3⟩:=bX hr hi;rw [show c2=_ from lc3]at l3;split at hs
  .rename_i te e2 z e' ne l hel hB;split at hs
   .rename_i hz;subst hz;obtain⟨ti,i2,t1,t2,t3,t4,t5,t6,t7⟩:=dU hG hel;simp only [zbE]at hs;obtain⟨y,g1,g2⟩:=hs;rw [lc _ _ _ hB]at l1;obtain⟨b1,b2⟩:=fM g1;obtain⟨b3,b4,b5,b6⟩:=hr.bl p _ hB;exact⟨_,g2,ba ht hn htM (λk=>kD (L:= [[(V.id p,_,_)]]) (r:=aL _) 0 l1 l3 b1 b2 rfl t6 h k (jx b5)) l2 ⟨_,rfl,b1,rfl⟩⟩
   .simp at hs
  .simp at hs
 .rename_i e p k i hx hi;obtain⟨d,l1,l2,c,rfl,lc⟩:=bX hr hx;obtain⟨d2,l3,l4,c2,rfl,lc3⟩:=bX hr hi;rw [show c2=_ from lc3]at l3;split at hs
  .rename_i te e2 z e' l hel hB;split at hs
   .rename_i hz;subst hz;obtain⟨ti,i2,t1,t2,t3,t4,t5,t6,t7⟩:=dU hG hel;simp only [zbE]at hs;obtain⟨y,g1,g2⟩:=hs;rw [lc _ _ hB]at l1;have hne:=AX g1;obtain⟨b1,b2⟩:=fM g1;obtain⟨b3,b4,b5⟩:=hr.bl p _ hB;have b5:=b5 hne;rw [show moC l (V.id p)= .own (V.id p) 0 l.length by cases l with|nil=>exact absurd rfl hne|cons a l=>rfl]at l1;exact⟨_,g2,ba ht hn htM (λk=>kD (L:= [[(V.id p,_,_)]]) (r:=aL _) 0 l1 l3 b1 b2 rfl t6 h k (jx b5)) l2 ⟨_,rfl,b1,rfl⟩⟩
   .simp at hs
  .simp at hs
 .rename_i p j k a hx hi;obtain⟨d,l1,l2,c,rfl,lc⟩:=bX hr hx;obtain⟨d2,l3,l4,c2,rfl,lc3⟩:=bX hr hi;rw [show c=_ from lc]at l1;rw [show c2=_ from lc3]at l3;split at hs
  .rename_i ti hti;split at hs
   .rename_i m e hd;split at hs
    .rename_i te hte;split at hs
     .rename_i hlt;exact⟨_,hs,ba ht hn htM (λk=>iZ (L:= []) (hG.ti _ _ hti) hd (hG.ti _ _ hte) rfl l1 l3 (Ff hlt) h k bk) l2 ⟨_,rfl,rfl⟩⟩
     .simp at hs
    .simp at hs
   .simp at hs
  .simp at hs
 .rename_i e fr s i y j k a hx hi;obtain⟨d,l1,l2,c,rfl,fl,lc,lc2⟩:=bX hr hx;obtain⟨d2,l3,l4,c2,rfl,lc3⟩:=bX hr hi;rw [lc]at l1;rw [show c2=_ from lc3]at l3;split at hs
  .rename_i ti hti;split at hs
   .rename_i m e' hd;split at hs
    .rename_i te hte;split at hs
     .rename_i hlt;exact⟨_,hs,ba ht hn htM (λk=>q_ixAI (hG.ti _ _ hti) hd (hG.ti _ _ hte) l1 l3 hlt k) trivial ⟨_,rfl,fl,rfl,lc2⟩⟩
     .simp at hs
    .simp at hs
   .simp at hs
  .simp at hs
 .simp at hs
where
 q_ixAI {ty e:TypeId} {t te:TI} {m:Nat} {x ix:Operand} {fr fb:Bool} {kb:IntKind} {sz i j a:Nat} {l:List (List T)} (ht:E.ti ty=some t) (hd:t.desc= .array m e) (hte:E.ti e=some te) (hx:ov F.nt f x=some (.one (.iptr fr sz l i j))) (hi:ov F.nt f ix=some (.one (.p fb (.v (.int kb (a:Int)))))) (ha:a<m) (nid:Nat):stepG E (cpR E n) none nid (.indexAddr ty x ix) (aU (tab F.nt f)) h=some ⟨.one (.iptr fr sz l i (j+a*te.size)),[]⟩:=by
  rw [ur,bV,hx,bV,hi];refine Eq.trans (b:=CG E.ti ty h a (.one (.iptr fr sz l i j))) rfl ?_
  show((E.ti ty).bind λt=>match t.desc with
   | .array n e=>(E.ti e).bind λte=>if a<n then some (⟨.one (.iptr fr sz l i (j+a*te.size)),[]⟩:Eff)else none
   |_=>none)=_
  rw [ht];simp only [zbS,hd,hte];rw [if_pos ha]
theorem KU(hG:GOk G E D0)(hr:Rel F ks V f h)(ht:ks.nx<=tag)(hn:ks.nx<=nid)(htM:tag<M){t:TypeId}{x ix:Operand}(hs:cW G F ks tag nid (.index t x ix) κ=some r):∃e,κ e=some r/\dq E n F ks V f h M tag nid (.index t x ix) e:=by
 simp only [cW]at hs;split at hs
 .rename_i ti cs k a hti hx hi;obtain⟨d,l1,l2,c,rfl,lc⟩:=bX hr hx;obtain⟨d2,l3,l4,c2,rfl,lc3⟩:=bX hr hi;rw [show c2=_ from lc3]at l3;split at hs
  .rename_i m e hd;split at hs
   .rename_i te hte;split at hs
    .rename_i hlt;simp only [zbE]at hs;obtain⟨d2,⟨cs2,g1,g2⟩,g3⟩:=hs;obtain⟨c2,g8,g9⟩:=lc.cut g1;obtain⟨d3,k1,k2,k3⟩:=ik g2 (jF l2 g1) g9;refine⟨_,g3,ba ht hn htM (λk=> ?_) k3 k2⟩
     show((E.ti t).bind λt'=>(aS (aU (tab F.nt f)) ix).bind λdi=>(gY di).bind λi=>(aS (aU (tab F.nt f)) x).bind λdx=>match dx with
      | .agg cs=>match t'.desc with
       | .array n e=>(E.ti e).bind λte=>if i<n then(Ev.cut cs (i*te.size) (if br te.desc then te.size else 1)).bind λc=>(dr (br te.desc) c).bind λv=>some (⟨v,[]⟩:Eff)else none
       |_=>none
      |_=>none)=_
     rw [hG.ti _ _ hti,bV,bV,l3,l1];simp only [zbS];rw [show gY (.one (iC _ (Int.ofNat a)))=some a from rfl];simp only [zbS,hd,hG.ti _ _ hte];rw [if_pos hlt]
     have hc':Ev.cut c (a*te.size) (if br te.desc then te.size else 1)=some c2:=by
      rw [<-g8];unfold wd;cases br te.desc<;>rfl
     rw [hc'];simp only [zbS,k1]
    .simp at hs
   .simp at hs
  .simp at hs
 .simp at hs
theorem zd(hr:Rel F ks V f h):∀{l:List Operand} {ds:List KD} {ps:List Nat},kE F ks l=some ds->Gj ds=some ps->AJ F.nt f l=some (ps.map λp=> .ptr (V.id p) 0 0)/\∀p∈ps,p<ks.nx
 | [],ds,ps,h1,h2=>by
  have:=Option.some.inj (show some []=some ds from h1)
  subst this
  have:=Option.some.inj (show some []=some ps from h2)
  subst this;exact⟨rfl,by simp⟩
 |x::l,ds,ps,h1,h2=>by
  simp only [kE,zbE]at h1;obtain⟨d,g1,r,g2,g3⟩:=h1
  have:=Option.some.inj g3
  subst this;unfold Gj at h2;split at h2
  .rename_i heq;simp at heq
  .rename_i p j r' heq;cases heq;split at h2
   .rename_i hj;subst hj;rw [Option.map_eq_some_iff]at h2;obtain⟨ps2,k1,rfl⟩:=h2;obtain⟨e1,e2⟩:=zd hr g2 k1;obtain⟨d',f1,f2,c,rfl,f3⟩:=bX hr g1;refine⟨?_,λq hq=>by rcases List.mem_cons.1 hq with rfl|hq;exact f2;exact e2 q hq⟩;unfold AJ at e1 ⊢;rw [List.mapM_cons,e1,f1,show c=_ from f3];rfl
   .simp at h2
  .simp at h2
theorem Dh(hr:Rel F ks V f h)(ht:ks.nx<=tag)(hn:ks.nx<=nid)(htM:tag<M){fn:Fn}{first cap:Array Operand}(hs:cW G F ks tag nid (.makeFunc fn first cap) κ=some r):∃e,κ e=some r/\dq E n F ks V f h M tag nid (.makeFunc fn first cap) e:=by
 simp only [cW]at hs;split at hs
 .rename_i k ps hf hcap;simp only [zbE]at hcap;obtain⟨ds,g1,g2⟩:=hcap;obtain⟨e1,e2⟩:=zd hr g1 g2;exact⟨_,hs,ba ht hn htM (λq=>rt (L:= []) (fs:= []) (by rw [hf];rfl) e1 h q bk) e2 ⟨_,rfl,rfl⟩⟩
 .simp at hs
end
end K
end Ev
end
noncomputable section
namespace Ev
namespace K
open Go Go.RowKit
section
variable {E : Env} {n : Nat} {F : KF} {ks : KS} {V : Vl} {f : Nat → D} {h : aC} {M tag nid : Nat} {op : Op} {G : KG} {D0 : Nat} {R : Type} {κ : KE → Option R} {r : R}
theorem KV{l:List Operand}{d:KD}(hk:kE F ks l=some [d]):∃a,l= [a]/\kO F ks a=some d:=by
 cases l with
 |nil=>simp [kE]at hk
 |cons a l=>
  simp only [kE,zbE]at hk;obtain⟨x,h1,s,h2,h3⟩:=hk
  have:=Option.some.inj h3
  simp only [List.cons.injEq]at this;obtain⟨rfl,rfl⟩:=this
  cases l with
  |nil=>exact⟨a,rfl,h1⟩
  |cons b l=>
   simp only [kE,zbE]at h2;obtain⟨y,_,t,_,h4⟩:=h2;simp at h4
theorem Bf{l:List Operand}{d e:KD}(hk:kE F ks l=some [d,e]):∃a b,l= [a,b]/\kO F ks a=some d/\kO F ks b=some e:=by
 cases l with
 |nil=>simp [kE]at hk
 |cons a l=>
  simp only [kE,zbE]at hk;obtain⟨x,h1,s,h2,h3⟩:=hk
  have:=Option.some.inj h3
  simp only [List.cons.injEq]at this;obtain⟨rfl,rfl⟩:=this;obtain⟨b,rfl,h4⟩:=KV h2;exact⟨a,b,rfl,h1,h4⟩
theorem sQ{fl:Bool}:∀{e:Ty} (y:e.val),e.plain=true->(e.row y).map (pC fl)=(e.row y).map (pC true)
 | .I _,_,_=>rfl
 | .B,_,_=>rfl
 | .S _,_,hp=>by simp [Ty.plain]at hp
 | .U,_,_=>rfl
 | .C a b,x,hp=>by
  simp only [Ty.plain,Bool.and_eq_true]at hp;show(a.row x.1++b.row x.2).map _=(a.row x.1++b.row x.2).map _;rw [List.map_append,List.map_append,sQ x.1 hp.1,sQ x.2 hp.2]
theorem wU(hr:Rel F ks V f h){e:Ty}{x:KC}{xs:List e.val}{ne:Bool}{c:C}(hk:AO F ks e x=some (xs,ne))(hc:RC (aE F ks) V x c):lA h (.one c)=some (xs.map (aL e.row))/\(ne=true->xs≠[]):=by
 unfold AO at hk;split at hk
 .simp only [zsI,Prod.mk.injEq]at hk;obtain⟨rfl,rfl⟩:=hk;rw [show c=_ from hc];exact⟨rfl,by simp⟩
 .rename_i e' fr s;split at hk
  .rename_i hp;simp only [Option.map_eq_some_iff,Prod.mk.injEq]at hk;obtain⟨y,h1,rfl,rfl⟩:=hk;obtain⟨he,h2⟩:=bP h1;cases he;obtain⟨fl,h3,h4⟩:=hc;refine⟨?_,by simp⟩;rw [h3,<-h2];show some ((s.l.map e.row).map (·.map (pC fl)))=_;rw [List.map_map];congr 1;refine List.map_congr_left λy _=> ?_;show(e.row y).map (pC fl)=(e.row y).map (pC true);rw [Bool.or_eq_true]at hp;rcases hp with hp|hp
   .rw [h4 hp]
   .exact sQ y hp
  .simp at hk
 .rename_i e' p;split at hk
  .rename_i e2 ne2 l hB;simp only [Option.map_eq_some_iff,Prod.mk.injEq]at hk;obtain⟨y,h1,rfl,rfl⟩:=hk;obtain⟨he,h2⟩:=bP h1;cases he;obtain⟨g1,g2,g3,g4⟩:=hr.bl p _ hB;rw [hc _ _ _ hB,<-h2];exact⟨iY (L:= [[(V.id p,_,_)]]) (r:=aL _) 0 rfl h (jx g3),g4⟩
  .simp at hk
 .rename_i e' p;split at hk
  .rename_i e2 l hB;simp only [Option.map_eq_some_iff,Prod.mk.injEq]at hk;obtain⟨y,h1,rfl,rfl⟩:=hk;obtain⟨he,h2⟩:=bP h1;cases he;obtain⟨g1,g2,g3⟩:=hr.bl p _ hB;rw [hc _ _ hB,<-h2];refine⟨?_,by simp⟩
   cases l with
   |nil=>rfl
   |cons a l=>exact iY (L:= [[(V.id p,_,_)]]) (r:=aL _) 0 rfl h (jx (g3 (by simp)))
  .simp at hk
 .simp at hk
theorem wV{d:KD}{b b0:KB}{p:Nat}(hM:ks.nx<=M)(hp:az ks.bl p=some b0)(h0:b0≠ .dead)(hb:ScB ks.nx b/\b≠ .dead)(hbt:b.there)(hd:ScD M d)(hnb:∀x,d≠ .one (.bv x))
  (hv:∀k,∃v x uo,(uo= [(V.id p,Blk.dead)]/\b0.there∨uo= []/\¬b0.there)/\stepG E (cpR E n) none k op (aU (tab F.nt f)) h=some ⟨v,uo++ [(k,x)]⟩/\RD (Be F ks nid ⟨d,some (p,.dead),some b⟩) (V.set nid k tag false) d v/\BlkIs (Be F ks nid ⟨d,some (p,.dead),some b⟩) (V.set nid k tag false) x b):dq E n F ks V f h M tag nid op ⟨d,some (p,.dead),some b⟩:=by
 refine⟨λp' b' hb'=>by simp at hb';obtain⟨rfl,rfl⟩:=hb';exact⟨b0,hp,h0,trivial,trivial⟩,λb' hb'=>by simp at hb';subst hb';exact hb,by rw [jV hnb];exact hd,false,λk=> ?_⟩;obtain⟨v,x,uo,h0,h1,h2,h3⟩:=hv k;refine⟨v,_,h1,by rw [jV hnb];exact h2,⟨uo,_,rfl,?_,.inl ⟨x,rfl,h3,hbt⟩⟩⟩;rcases h0 with⟨rfl,ht⟩|⟨rfl,ht⟩
 .exact .inl ⟨.dead,rfl,rfl,λb1 hb1=>by rw [hp]at hb1;cases hb1;exact ht⟩
 .exact .inr ⟨rfl,id,λb1 hb1=>by rw [hp]at hb1;cases hb1;exact ht⟩
theorem Gu{α:Type}{l m:List α}(h:app [] l=some m):m=l/\l.length<=cE:=by
 obtain⟨h1,h2⟩:=dv h;exact⟨by simpa using h2,by simpa using h1⟩
theorem Pn{c:Call}{a x:Operand}{ty ty1 z e1:TypeId}{t1:TI}{fr:Bool}{bz n:Nat}{h:aC}{d:D}{xs:List (List C)}(ha:ov F.nt f a=some (.one (.p fr (.s false bz []))))(hx:ov F.nt f x=some d)(hxs:lA h d=some xs)(hne:∃y ys,xs=y::ys)(hb:xs.length<=cE)(hall:xs.all (·.length==z)=true)(hz:cZ E.ti ty=some z)(ht1:E.ti ty1=some t1)(he1:bn t1=some e1)
  (hc:c.callee= .builtin .append) (hargs:c.args.toList= [a,x]) (hty:c.argTypes[0]? =some ty) (hty1:c.argTypes[1]? =some ty1) (nid:Nat):stepG E (cpR E n) none nid (.call c) (aU (tab F.nt f)) h=some ⟨.one (.own nid 0 xs.length),[(nid,.own z xs)]⟩:=by
 obtain⟨t,e,te,g1,g2,g3,g4⟩:=fc hz;have h1:bi (.call c)=none:=by unfold bi;simp only [hc]
 rw [ju,h1];unfold sem sD;simp only [hc,hty,g1,hargs,dY,zbB,zbS,List.mapM_cons,List.mapM_nil,ha,hx,Option.pure_def,g2,g3,hty1,ht1,he1,g4];unfold Ev.append;simp only [hxs,zbB,zbS];obtain⟨y,ys,rfl⟩:=hne;rw [if_neg (by simp),if_neg (by simp),if_pos hb,if_pos hall]
theorem Gv{c:Call}{a x:Operand}{ty ty1 z e1:TypeId}{t1:TI}{fr:Bool}{bz n:Nat}{h:aC}{d:D}(ha:ov F.nt f a=some (.one (.p fr (.s false bz []))))(hx:ov F.nt f x=some d)(hxs:lA h d=some [])(hz:cZ E.ti ty=some z)(ht1:E.ti ty1=some t1)(he1:bn t1=some e1)
  (hc:c.callee= .builtin .append) (hargs:c.args.toList= [a,x]) (hty:c.argTypes[0]? =some ty) (hty1:c.argTypes[1]? =some ty1) (nid:Nat):stepG E (cpR E n) none nid (.call c) (aU (tab F.nt f)) h=some ⟨.one (.p fr (.s false bz [])),[]⟩:=by
 obtain⟨t,e,te,g1,g2,g3,g4⟩:=fc hz;have h1:bi (.call c)=none:=by unfold bi;simp only [hc]
 rw [ju,h1];unfold sem sD;simp only [hc,hty,g1,hargs,dY,zbB,zbS,List.mapM_cons,List.mapM_nil,ha,hx,Option.pure_def,g2,g3,hty1,ht1,he1,g4];unfold Ev.append;simp only [hxs,zbB,zbS];rw [if_neg (by simp),if_pos (show([]:List (List C)).length=0 from rfl)]
theorem KW{e:Ty}{c:Call}{a x:Operand}{ty ty1 e1:TypeId}{t1:TI}{k n:Nat}{h:aC}{l xs lm:List e.val}{d:D}(ha:ov F.nt f a=some (.one (.own k 0 l.length)))(hx:ov F.nt f x=some d)(hxs:lA h d=some (xs.map (aL e.row)))(hb:aJ h k=some (e.size,l.map (aL e.row)))(hlm:app l xs=some lm)(hz:cZ E.ti ty=some e.size)(ht1:E.ti ty1=some t1)(he1:bn t1=some e1)
  (hc:c.callee= .builtin .append) (hargs:c.args.toList= [a,x]) (hty:c.argTypes[0]? =some ty) (hty1:c.argTypes[1]? =some ty1) (hz0:Nat.beq e.size 0=false) (nid:Nat):stepG E (cpR E n) none nid (.call c) (aU (tab F.nt f)) h=some ⟨.one (.own nid 0 lm.length),[(k,.dead)]++ [(nid,.own e.size (lm.map (aL e.row)))]⟩:=by
 obtain⟨t,e2,te,g1,g2,g3,g4⟩:=fc hz;obtain⟨hbd,rfl⟩:=dv hlm;have h1:bi (.call c)=none:=by unfold bi;simp only [hc]
 rw [ju,h1];unfold sem sD;simp only [hc,hty,g1,hargs,dY,zbB,zbS,List.mapM_cons,List.mapM_nil,ha,hx,Option.pure_def,g2,g3,hty1,ht1,he1,g4];unfold Ev.append;simp only [hxs,zbB,zbS,hb];rw [if_pos ⟨trivial,by simp,by simpa using hbd,trivial,by simp [wP],Nat.ne_of_beq_eq_false hz0⟩];simp
theorem Ij(hG:GOk G E D0)(hr:Rel F ks V f h)(ht:ks.nx<=tag)(hn:ks.nx<=nid)(htM:tag<M)(hnM:nid<M){c:Call}{a x:Operand}{ty ty1 te z:Nat}{e:Ty}{ka kx:KC}{z1:TypeId×Ty×Nat}(hc:c.callee= .builtin .append)(hargs:c.args.toList= [a,x])(hty:c.argTypes[0]? =some ty)(hel:G.elem ty=some (te,e,z))(hel1:(c.argTypes[1]?).bind G.elem=some z1)(hz:e.size=z)(hz0:z≠0)(ha:kO F ks a=some (.one ka))(hx:kO F ks x=some (.one kx))(hs:AP F ks nid e ka kx κ=some r):∃eff,κ eff=some r/\dq E n F ks V f h M tag nid (.call c) eff:=by
 have hM:ks.nx<=M:=by omega
 obtain⟨ti,i2,t1,t2,t3,t4,t5,t6,t7⟩:=dU hG hel;rw [zbE]at hel1;obtain⟨ty1,hty1,hel1⟩:=hel1;obtain⟨te1,e1,zz1⟩:=z1;obtain⟨ti1,i21,s1,s2,_⟩:=dU hG hel1;obtain⟨da,a1,a2,ca,rfl,a3⟩:=bX hr ha;obtain⟨dx,x1,x2,cx,rfl,x3⟩:=bX hr hx
 have hz0':Nat.beq z 0=false:=by cases hb:Nat.beq z 0 with|true=>exact absurd (Nat.eq_of_beq_eq_true hb) hz0|false=>rfl
 unfold AP at hs;split at hs
 .simp at hs
 .rename_i xs ne hxs;obtain⟨hel2,hne⟩:=wU hr hxs x3
  -- what is appended,in any heap that agrees
  have key0:∀{fr:Bool} {bz:Nat},ov F.nt f a=some (.one (.p fr (.s false bz [])))->∀(y:e.val) (ys:List e.val),xs=y::ys->xs.length<=cE->∀k,stepG E (cpR E n) none k (.call c) (aU (tab F.nt f)) h=some ⟨.one (.own k 0 xs.length),[(k,.own z (xs.map (aL e.row)))]⟩:=by
   intro fr bz ha y ys he hb k
   have:=Pn (n:=n) (h:=h) ha x1 hel2 ⟨aL e.row y,ys.map (aL e.row),by rw [he];rfl⟩ (by simpa using hb) (by simp [wP,hz]) t6 s1 s2 hc hargs hty hty1 k
   rw [List.length_map]at this;exact this
  split at hs
  ·-- to nothing
   simp only [zbE]at hs;obtain⟨lm,g1,g2⟩:=hs;obtain⟨rfl,hb⟩:=Gu g1;rw [show ca=_ from a3]at a1
   cases ne with
   |true=>
    have hx0:=hne rfl
    match lm,hx0 with
    |y::ys,_=>
     refine⟨_,g2,nk hM ht hn (λ_=>⟨trivial,by simp⟩) hnM (by simp) λk=> .inl ⟨trivial,_,_,key0 a1 y ys rfl hb k,⟨_,rfl,iH⟩,by rw [<-hz],by simp⟩⟩
   |false=>
    refine⟨_,g2,nk hM ht hn (λ_=>⟨trivial,by simp⟩) hnM (by simp) λk=> ?_⟩
    match lm with
    | []=>
     refine .inr ⟨by simp [KB.there],_,Gv (n:=n) a1 x1 hel2 t6 s1 s2 hc hargs hty hty1 k,⟨_,rfl,?_⟩⟩;exact fZ (k:=k)
    |y::ys=>
     refine .inl ⟨by simp [KB.there],_,_,key0 a1 y ys rfl hb k,⟨_,rfl,?_⟩,by rw [<-hz];rfl⟩;exact fZ (k:=k)
  ·-- to rows
   rename_i e' p;split at hs
   .rename_i e2 ne2 l hp;simp only [zbE]at hs;obtain⟨l2,g0,lm,g1,g2⟩:=hs;obtain⟨he,g0⟩:=bP g0;cases he;subst g0;have hB:=aA (F:=F) hp (by simp);obtain⟨b1,b2,b3,b4⟩:=hr.bl p _ hB;rw [a3 _ _ _ hB]at a1;subst hz;refine⟨_,g2,wV hM hp (by simp) ⟨trivial,by simp⟩ trivial hnM (by simp) λk=>⟨_,_,_,.inl ⟨rfl,trivial⟩,?_,⟨_,rfl,iH⟩,rfl,λhne2=> ?_⟩⟩
    .exact KW (n:=n) (h:=h) a1 x1 hel2 b3 g1 t6 s1 s2 hc hargs hty hty1 hz0' k
    .obtain⟨_,rfl⟩:=dv g1;rw [Bool.or_eq_true]at hne2;rcases hne2 with h1|h1
     .intro he;exact hne h1 (List.append_eq_nil_iff.1 he).2
     .intro he;exact b4 h1 (List.append_eq_nil_iff.1 he).1
   .simp at hs
  .rename_i e' p;split at hs
   .rename_i e2 l hp;simp only [zbE]at hs;obtain⟨l2,g0,lm,g1,g2⟩:=hs;obtain⟨he,g0⟩:=bP g0;cases he;subst g0;have hB:=aA (F:=F) hp (by simp);obtain⟨b1,b2,b3⟩:=hr.bl p _ hB;rw [a3 _ _ hB]at a1;subst hz
    match l,b3,a1,g1,hp,hB with
    | [],b3,a1,g1,hp,hB=>
     obtain⟨rfl,hb⟩:=Gu g1
     cases ne with
     |true=>
      have hx0:=hne rfl
      match lm,hx0 with
      |y::ys,_=>
       refine⟨_,g2,wV hM hp (by simp) ⟨trivial,by simp⟩ trivial hnM (by simp) λk=>⟨_,_,_,.inr ⟨rfl,by simp [KB.there]⟩,?_,⟨_,rfl,iH⟩,rfl,by simp⟩⟩;exact key0 a1 y ys rfl hb k
     |false=>
      match lm with
      | []=>
       refine⟨_,g2,?_⟩;refine⟨λp' b' hb'=>by simp at hb';obtain⟨rfl,rfl⟩:=hb';exact⟨_,hp,by simp,trivial,trivial⟩,λb' hb'=>by simp at hb';subst hb';exact⟨trivial,by simp⟩,hnM,false,λk=>⟨_,_,Gv (n:=n) a1 x1 hel2 t6 s1 s2 hc hargs hty hty1 k,⟨_,rfl,?_⟩,⟨[],[],rfl,.inr ⟨rfl,id,λb1 hb1=>by rw [hp]at hb1;cases hb1;simp [KB.there]⟩,.inr ⟨rfl,by simp [KB.there]⟩⟩⟩⟩;exact fZ (k:=k)
      |y::ys=>
       refine⟨_,g2,wV hM hp (by simp) ⟨trivial,by simp⟩ (by simp [KB.there]) hnM (by simp) λk=>⟨.one (.own k 0 (y::ys).length),_,_,.inr ⟨rfl,by simp [KB.there]⟩,key0 a1 y ys rfl hb k,⟨_,rfl,fZ (k:=k)⟩,rfl⟩⟩
    |q::l,b3,a1,g1,hp,hB=>
     have b3:=b3 (by simp);have hlm:lm≠[]:=by obtain⟨_,rfl⟩:=dv g1;simp
     have hst:=KW (n:=n) (h:=h) (l:=q::l) a1 x1 hel2 b3 g1 t6 s1 s2 hc hargs hty hty1 hz0'
     cases ne with
     |true=>
      refine⟨_,g2,wV hM hp (by simp) ⟨trivial,by simp⟩ trivial hnM (by simp) λk=>⟨_,_,_,.inl ⟨rfl,by simp [KB.there]⟩,?_,⟨_,rfl,iH⟩,rfl,λ_=>hlm⟩⟩;exact hst k
     |false=>
      have hmm:∀k,RC (Be F ks nid ⟨.one (.m e nid),some (p,.dead),some (.mrows e lm)⟩) (V.set nid k tag false) (.m e nid) (.own k 0 lm.length):=λk=>by
       have:=fZ (F:=F) (ks:=ks) (nid:=nid) (V:=V) (k:=k) (tag:=tag) (bo:=false) (l:=lm) (d:= .one (.m e nid)) (u:=some (p,.dead))
       rw [show moC lm k= .own k 0 lm.length by cases lm with|nil=>exact absurd rfl hlm|cons a l=>rfl]at this;exact this
      exact⟨_,g2,wV hM hp (by simp) ⟨trivial,by simp⟩ hlm hnM (by simp) λk=>⟨.one (.own k 0 lm.length),_,_,.inl ⟨rfl,by simp [KB.there]⟩,hst k,⟨_,rfl,hmm k⟩,rfl⟩⟩
   .simp at hs
  .simp at hs
end
end K
end Ev
end
noncomputable section
namespace Ev
namespace K
open Go Go.RowKit
section
variable {E : Env} {n : Nat} {F : KF} {ks : KS} {V : Vl} {f : Nat → D} {h : aC} {M tag nid : Nat} {op : Op} {G : KG} {D0 : Nat} {R : Type} {κ : KE → Option R} {r : R}
theorem KX(hr:Rel F ks V f h){x:KC}{i:Int}{c:C}(hk:Pd F ks x=some i)(hc:RC (aE F ks) V x c):∃m:Nat,xp (.one c)=some m/\i=(m:Int):=by
 unfold Pd at hk;split at hk
 .cases hk;rw [show c=_ from hc];exact⟨0,rfl,rfl⟩
 .cases hk;obtain⟨fl,h1,h2⟩:=hc;rw [h1];exact⟨_,EO,rfl⟩
 .split at hk
  .rename_i e ne l hB;cases hk;rw [hc _ _ _ hB];exact⟨_,rfl,rfl⟩
  .simp at hk
 .split at hk
  .rename_i e l hB;cases hk;rw [hc _ _ hB];exact⟨_,Ke,rfl⟩
  .simp at hk
 .simp at hk
theorem MP{e:Ty}{c:Call}{a x:Operand}{ty ty1 e1:TypeId}{t1:TI}{k n:Nat}{h:aC}{l xs lm:List e.val}{d:D}(ha:ov F.nt f a=some (.one (.own k 0 l.length)))(hx:ov F.nt f x=some d)(hxs:lA h d=some (xs.map (aL e.row)))(hb:aJ h k=some (e.size,l.map (aL e.row)))(hlm:cpL l xs=some lm)(hz:cZ E.ti ty=some e.size)(ht1:E.ti ty1=some t1)(he1:bn t1=some e1)
  (hc:c.callee= .builtin .copy) (hargs:c.args.toList= [a,x]) (hty:c.argTypes[0]? =some ty) (hty1:c.argTypes[1]? =some ty1) (hz0:e.size≠0) (nid:Nat):stepG E (cpR E n) none nid (.call c) (aU (tab F.nt f)) h=some ⟨iD .i64 ((xs.length:Nat):Int),[(k,.own e.size (lm.map (aL e.row)))]⟩:=by
 obtain⟨t,e2,te,g1,g2,g3,g4⟩:=fc hz;obtain⟨hbd,rfl⟩:=wt hlm;have h1:bi (.call c)=none:=by unfold bi;simp only [hc]
 rw [ju,h1];unfold sem sD;simp only [hc,hty,g1,hargs,dY,zbB,zbS,List.mapM_cons,List.mapM_nil,ha,hx,Option.pure_def,g2,g3,hty1,ht1,he1,g4];unfold qC;simp only [hxs,zbB,zbS,hb]
 have hpt:patch (l.map (aL e.row)) 0 (xs.map (aL e.row))=some ((xs++l.drop xs.length).map (aL e.row)):=by
  unfold patch;rw [if_pos (by simpa using hbd)];simp
 rw [hpt];simp only [zbS];rw [if_pos ⟨trivial,by simpa using hbd,by simp [wP],hz0⟩];simp [iD,mk]
theorem Fj(hG:GOk G E D0)(hr:Rel F ks V f h)(ht:ks.nx<=tag)(hn:ks.nx<=nid)(htM:tag<M)(hnM:nid<M){c:Call}{b:Builtin}{args:List KD}(hc:c.callee= .builtin b)(hargs:kE F ks c.args.toList=some args)(hs:wE G F ks nid c b args κ=some r):∃eff,κ eff=some r/\dq E n F ks V f h M tag nid (.call c) eff:=by
 have hM:ks.nx<=M:=by omega
 unfold wE at hs;split at hs
 .simp at hs
 .rename_i ty hty;split at hs
  .rename_i x;obtain⟨a,ha,ha2⟩:=KV hargs;obtain⟨d,d1,d2,cx,rfl,d3⟩:=bX hr ha2;split at hs
   .rename_i z hel;obtain⟨te,e,zz⟩:=z;obtain⟨ti,i2,t1,t2,t3,t4,t5,t6,t7⟩:=dU hG hel;simp only [zbE]at hs;obtain⟨i,g1,g2⟩:=hs;obtain⟨m,k1,rfl⟩:=KX hr g1 d3;exact⟨_,g2,ba ht hn htM (λk=>EN (L:= []) hc ha hty t1 t7 d1 k1 h k bk) trivial ⟨_,rfl,rfl⟩⟩
   .simp at hs
  .rename_i k1 x k2 y;obtain⟨a,a',ha,ha2,ha3⟩:=Bf hargs;obtain⟨d,d1,d2,cx,rfl,d3⟩:=bX hr ha2;obtain⟨d',e1,e2,cy,rfl,e3⟩:=bX hr ha3;rw [show cx=_ from d3]at d1;rw [show cy=_ from e3]at e1;split at hs
   .rename_i ti hti;exact⟨_,hs,ba ht hn htM (λk=>(ic (L:= []) d1 e1 (hG.ti _ _ hti) ha hty).1 hc h k bk) trivial ⟨_,rfl,rfl⟩⟩
   .simp at hs
  .rename_i k1 x k2 y;obtain⟨a,a',ha,ha2,ha3⟩:=Bf hargs;obtain⟨d,d1,d2,cx,rfl,d3⟩:=bX hr ha2;obtain⟨d',e1,e2,cy,rfl,e3⟩:=bX hr ha3;rw [show cx=_ from d3]at d1;rw [show cy=_ from e3]at e1;split at hs
   .rename_i ti hti;exact⟨_,hs,ba ht hn htM (λk=>(ic (L:= []) d1 e1 (hG.ti _ _ hti) ha hty).2 hc h k bk) trivial ⟨_,rfl,rfl⟩⟩
   .simp at hs
  .rename_i a x;obtain⟨oa,ox,ha,ha2,ha3⟩:=Bf hargs;split at hs
   .rename_i te e z z1 hel hel1;split at hs
    .rename_i hz;exact Ij (ty1:=0) hG hr ht hn htM hnM hc ha hty hel hel1 hz.1 hz.2 ha2 ha3 hs
    .simp at hs
   .simp at hs
  .rename_i e0 p x;obtain⟨oa,ox,ha,ha2,ha3⟩:=Bf hargs;split at hs
   .rename_i te e z z1 e' ne l hel hel1 hp;split at hs
    .rename_i hz;obtain⟨rfl,hz0⟩:=hz;obtain⟨ti,i2,t1,t2,t3,t4,t5,t6,t7⟩:=dU hG hel;rw [zbE]at hel1;obtain⟨ty1,hty1,hel1⟩:=hel1;obtain⟨te1,e1,zz1⟩:=z1;obtain⟨ti1,i21,s1,s2,_⟩:=dU hG hel1;split at hs
     .rename_i xs ne2 hxs;simp only [zbE]at hs;obtain⟨l2,g0,lm,g1,g2⟩:=hs;obtain⟨he,g0⟩:=bP g0;cases he;subst g0;obtain⟨d,d1,d2,cx,rfl,d3⟩:=bX hr ha2;obtain⟨d',f1,f2,cy,rfl,f3⟩:=bX hr ha3;have hB:=aA (F:=F) hp (by simp);obtain⟨b1,b2,b3,b4⟩:=hr.bl p _ hB;rw [d3 _ _ _ hB]at d1;obtain⟨x1,x2⟩:=wU hr hxs f3;refine⟨_,g2,AV ht hn hM hp (by simp) trivial trivial ⟨_,_,_,rfl,(AE g1).symm⟩ trivial (by simp) (λk=>MP (n:=n) (h:=h) d1 f1 x1 b3 g1 t6 s1 s2 hc ha hty hty1 hz0 k) ⟨_,rfl,rfl⟩ ⟨rfl,λhne=> ?_⟩⟩
      have:=b4 hne
      intro he;have h2:=AE g1;rw [he]at h2;exact this (List.length_eq_zero_iff.1 h2.symm)
     .simp at hs
    .simp at hs
   .simp at hs
  .simp at hs
theorem RDl.append{B:BK}:∀{k1 k2:List KD} {c1 c2:List D},RDl B V k1 c1->RDl B V k2 c2->RDl B V (k1++k2) (c1++c2)
 | [],k2,c1,c2,h1,h2=>by rw [show c1= []from h1];exact h2
 |k::k1,k2,c1,c2,⟨c,s,e1,h1,h3⟩,h2=>⟨c,s++c2,by rw [e1];rfl,h1,h3.append h2⟩
theorem Di{B:BK}:∀ps:List Nat,RDl B V (ps.map λp=> .one (.ptr p 0)) (ps.map λp=> .one (.ptr (V.id p) 0 0))
 | []=>rfl
 |p::ps=>⟨_,_,rfl,⟨_,rfl,rfl⟩,Di ps⟩
theorem rG(hr:Rel F ks V f h){c:Call}{k:FuncId}{args:List KD}(hk:og F ks c=some (k,args)):∃args',bB c (ov F.nt f)=some (k,args')/\(∀d∈args,ScD ks.nx d)/\RDl (aE F ks) V args args':=by
 unfold og at hk;split at hk
 .rename_i fo hcal;split at hk
  .rename_i k' first cap args0 hf ha;split at hk
   .rename_i hz;simp only [zsI,Prod.mk.injEq]at hk;obtain⟨rfl,rfl⟩:=hk;obtain⟨d,d1,d2,c1,rfl,d3⟩:=bX hr hf;obtain⟨zas,a1,a2,a3⟩:=wM hr ha;rw [show c1=_ from d3]at d1;refine⟨zas,?_,a2,a3⟩;unfold bB;rw [hcal];simp only [a1,d1,zbB,zbS];rw [if_pos hz]
   .simp at hk
  .rename_i k' ps args0 hf ha;simp only [zsI,Prod.mk.injEq]at hk;obtain⟨rfl,rfl⟩:=hk;obtain⟨d,d1,d2,c1,rfl,d3⟩:=bX hr hf;obtain⟨zas,a1,a2,a3⟩:=wM hr ha;rw [show c1=_ from d3]at d1;refine⟨zas++ps.map λp=> .one (.ptr (V.id p) 0 0),?_,?_,a3.append (Di ps)⟩
   .unfold bB;rw [hcal];simp only [a1,d1,zbB,zbS];simp
   .intro x hx;rcases List.mem_append.1 hx with hx|hx
    .exact a2 x hx
    .obtain⟨p,hp,rfl⟩:=List.mem_map.1 hx;exact d2 p hp
  .simp at hk
 .simp at hk
def Gw(kind:Kind)(rs:List TD)(vs:List (Bool×TD))(args:List D)(nid:Nat):Option Eff:=
 match kind with
 | .own=>match rs with
  | [.one (.s true sz l)]=>some {v:= .one (.own nid 0 l.length),upd:= [(nid,.own sz (l.map (·.map (pC true))))]}
  |_=>none
 | .fresh=>some {v:=gV (rs.map (cR true))}
 | .any=>if args.any jZ then none else some {v:=gV (rs.map (cR (vs.all (·.1))))}
theorem mL{c:Call}{k:FuncId}{args:List D}{vs:List (Bool×TD)}{kind:Kind}{rs:List TD}{nid:Nat}{e:Eff}(hc:bi (.call c)=some c)(hr:bB c (ov F.nt f)=some (k,args))(hv:args.mapM (cz h)=some vs)(hk:cpR E n k (vs.map (·.2))=some (kind,rs))
  (he:Gw kind rs vs args nid=some e):stepG E (cpR E n) none nid (.call c) (aU (tab F.nt f)) h=some e:=by
 rw [ju,hc];show iv (cpR E n) nid c (aU (tab F.nt f)) h=_;unfold iv;rw [dY,hr];simp only [zbB,zbS,hv,hk];exact he
theorem Bg{B:BK}{l:List (Bool×List KC)}{ds:List D}(hr:RTs B V l ds):RD B V (Kt l) (gV ds):=by
 match l,hr with
 | [],hr=>rw [show ds= []from hr];exact⟨[],rfl,rfl⟩
 | [x],⟨d,s,e,h1,h2⟩=>rw [e,show s= []from h2];exact Fg h1
 |x::y::l,⟨d,s,e,h1,d2,s2,e2,h3,h4⟩=>exact⟨ds,by rw [e,e2];rfl,d,s,e,h1,d2,s2,e2,h3,h4⟩
theorem Fk{N:Nat}{l:List (Bool×List KC)}(hs:∀x∈l,Scs N x.2):ScD N (Kt l):=by
 match l,hs with
 | [],hs=>exact hs
 | [x],hs=>exact ux (hs x (by simp))
 |x::y::l,hs=>exact hs
theorem tO{B:BK}{c:KC}{x:C}(hu:ry c=true)(hr:RC B V c x):jA x=false:=by
 cases c with
 |n k y=>rw [show x=_ from hr];rfl
 |b v=>rw [show x=_ from hr];rfl
 |p t P d=>rw [hr.1];rfl
 |bv y=>rw [show x=_ from hr];rfl
 |v y=>rw [show x=_ from hr];rfl
 |nil=>rw [show x=_ from hr];rfl
 |s e fr y=>obtain⟨fl,h1,_⟩:=hr;rw [h1];rfl
 |_=>simp [ry]at hu
theorem rH{B:BK}:∀{cs:List KC} {xs:List C},cs.all ry=true->RCs B V cs xs->xs.any jA=false
 | [],xs,_,h=>by rw [show xs= []from h];rfl
 |c::cs,xs,hu,⟨x,s,e,h1,h2⟩=>by
  simp only [List.all_cons,Bool.and_eq_true]at hu;rw [e,List.any_cons,tO hu.1 h1,rH hu.2 h2];rfl
theorem pD{B:BK}:∀{ds:List KD} {xs:List D},ds.all rz=true->RDl B V ds xs->xs.any jZ=false
 | [],xs,_,h=>by rw [show xs= []from h];rfl
 |d::ds,xs,hu,⟨x,s,e,h1,h2⟩=>by
  simp only [List.all_cons,Bool.and_eq_true]at hu;rw [e,List.any_cons,pD hu.2 h2]
  cases d with
  |one c=>obtain⟨c',rfl,hc⟩:=h1;rw [show jZ (.one c')=jA c' from rfl,tO hu.1 hc];rfl
  |agg cs=>obtain⟨c',rfl,hc⟩:=h1;rw [show jZ (.agg c')=c'.any jA from rfl,rH hu.1 hc];rfl
  |tup ts=>simp [rz]at hu
theorem MQ(hG:GOk G E D0)(hD:D0<=n)(hr:Rel F ks V f h)(ht:ks.nx<=tag)(hn:ks.nx<=nid)(htM:tag<M)(hnM:nid<M){c:Call}{k:FuncId}{args:List KD}{en:eh}(hc:bi (.call c)=some c)(hres:og F ks c=some (k,args))(hen:G.fn k=some en)(hs:EX F ks nid en args κ=some r):∃eff,κ eff=some r/\dq E n F ks V f h M tag nid (.call c) eff:=by
 have hM:ks.nx<=M:=by omega
 obtain⟨args',r1,r2,r3⟩:=rG hr hres
 have hmem:en∈G.fns/\en.k=k:=by
  unfold KG.fn at hen;have h2:=List.find?_some (p:=λe:eh=>Nat.beq e.k k) hen;exact⟨List.mem_of_find?_eq_some hen,Nat.eq_of_beq_eq_true h2⟩
 obtain⟨hd,hok⟩:=hG.fns en hmem.1
 have key:∃a out,lU (aE F ks) en.ins args=some a/\en.f a=some out/\κ (Pe nid en.out out)=some r/\(∀ts,en.out= .data false ts->args.all rz=true)/\(∀e,en.out≠ .gown e):=by
  unfold EX at hs;split at hs
  .rename_i ts ho;split at hs
   .rename_i hu;simp only [zbE]at hs;obtain⟨a,g1,out,g2,g3⟩:=hs;exact⟨a,out,g1,g2,g3,λ_ _=>hu,λe h=>by rw [ho]at h;cases h⟩
   .simp at hs
  .simp at hs
  .rename_i ho ho2;simp only [zbE]at hs;obtain⟨a,g1,out,g2,g3⟩:=hs;exact⟨a,out,g1,g2,g3,λts h=>absurd h (ho ts),λe h=>absurd h (ho2 e)⟩
 obtain⟨a,out,g1,g2,g3,g4,g5⟩:=key;obtain⟨vs,v1,v2,v3⟩:=qk hr.bls g1 r3;have hrun:=hok (n - en.d) a out g2;rw [Nat.sub_add_cancel (by omega),hmem.2,<-v2]at hrun;refine⟨_,g3,?_⟩;obtain⟨ek,eins,eout,ef,ed⟩:=en;simp only at hrun g4 g5 ⊢
 cases eout with
 |data fr ts=>
  cases fr with
  |true=>exact ba ht hn htM (λq=>mL hc r1 v1 (ln hrun) rfl) (Fk (wO _ _ ts out)) (Bg (rF (λ_=>rfl) ts out))
  |false=>
   obtain⟨fl,hrun⟩:=hrun;have hu:=pD (g4 ts rfl) r3
   cases fl with
   |true=>exact ba ht hn htM (λq=>mL hc r1 v1 (ln hrun) rfl) (Fk (wO _ _ ts out)) (Bg (rF (λ_=>rfl) ts out))
   |false=>exact ba ht hn htM (λq=>mL hc r1 v1 (ln hrun) (by unfold Gw;simp only [hu];rfl)) (Fk (wO _ _ ts out)) (Bg (rF (fl:=vs.all (·.1)) (λh=>by simp at h) ts out))
 |own e=>
  refine nk hM ht hn (λ_=>⟨trivial,by simp⟩) hnM (by simp) λq=> .inl ⟨trivial,_,_,mL hc r1 v1 (ln hrun) rfl,⟨_,rfl,?_⟩,?_,by simp⟩
  .rw [List.length_map];exact iH
  .rw [List.map_map];rfl
 |gown e=>exact absurd rfl (g5 e)
 |mown e=>
  cases out with
  |nil=>exact nk hM ht hn (λ_=>⟨trivial,by simp⟩) hnM (by simp) λq=> .inr ⟨by simp [KB.there],_,mL hc r1 v1 (ln hrun) rfl,⟨_,rfl,fZ (k:=q)⟩⟩
  |cons y l=>
   refine nk hM ht hn (λ_=>⟨trivial,by simp⟩) hnM (by simp) λq=> .inl ⟨by simp [KB.there],_,_,mL hc r1 v1 (ln hrun) rfl,⟨_,rfl,?_⟩,?_⟩
   .rw [List.length_map];exact fZ (k:=q)
   .rw [List.map_map];rfl
theorem ze{c:Call}(hc:∀b,c.callee= .builtin b->False):bi (.call c)=some c:=by
 unfold bi;simp only
theorem wW(hG:GOk G E D0)(hD:D0<=n)(hr:Rel F ks V f h)(ht:ks.nx<=tag)(hn:ks.nx<=nid)(htM:tag<M)(hnM:nid<M)(hs:cW G F ks tag nid op κ=some r):∃eff,κ eff=some r/\dq E n F ks V f h M tag nid op eff:=by
 cases op with
 |move x=>exact Gr hr ht hn htM (.inl rfl) hs
 |assign x=>exact Gr hr ht hn htM (.inr rfl) hs
 |alloc t=>exact KJ hG ht hn htM hnM hs
 |box t x=>exact Pi hG hr ht hn htM hnM hs
 |build t parts=>exact KP hG hr ht hn htM hs
 |buildSlice t len parts=>exact Ii hG hr ht hn htM hnM hs
 |load t a=>exact MM hG hr ht hn htM hs
 |store t a x=>exact KI hG hr ht hn htM hs
 |binOp o t x y s=>exact Pk hG hr ht hn htM hs
 |unOp o t x=>exact MN hr ht hn htM hs
 |convert s t x=>exact Fi hG hr ht hn htM hs
 |makeFunc fn a b=>exact Dh hr ht hn htM hs
 |makeSlice t l c=>exact Bc hG hr ht hn htM hnM hs
 |slice t x a b c=>exact KR hG hr ht hn htM hs
 |fieldAddr t x m=>exact AY hG hr ht hn htM hs
 |field t x m=>exact KL hG hr ht hn htM hs
 |indexAddr t x i=>exact Bd hG hr ht hn htM hs
 |index t x i=>exact KU hG hr ht hn htM hs
 |extract x i=>exact Fh hr ht hn htM hs
 |call c=>
  simp only [cW]at hs;split at hs
  .rename_i b hc;simp only [zbE]at hs;obtain⟨args,g1,g2⟩:=hs;exact Fj hG hr ht hn htM hnM hc g1 g2
  .rename_i hc;split at hs
   .rename_i k args hres;split at hs
    .rename_i en hen;exact MQ hG hD hr ht hn htM hnM (ze hc) hres hen hs
    .simp at hs
   .simp at hs
 |_=>simp [cW]at hs
end
end K
end Ev
end
end Go.Proofs.YtpcmabdifkoihaaDoor
