/- Texts of a claim, joined. -/
import Derived.Test.YtjjbpdldbdmoeaaZM7
set_option linter.unusedVariables false
set_option linter.unusedSimpArgs false
namespace Go.Proofs.Ytjjbpdldbdmoeaa
noncomputable section
namespace Ev
namespace K
open Go Go.RowKit
section
variable {E : Env} {n : Nat} {F : KF} {ks : KS} {V : Vl} {f : Nat → D} {h : Heap} {M tag nid : Nat} {op : Op} {G : KG} {D0 : Nat} {R : Type} {κ : KE → Option R} {r : R}
theorem rl{B:BK}{N:Nat}{pl:Nat->Option (Nat×Nat)}:∀{ps:List (Nat×KD)} {ps':List (Nat×D)} {cs cs2:List KC} {cs':List C},xG pl cs ps=some cs2->RCs B V cs cs'->Scs N cs->(∀x∈ps,ScD N x.2)->ps'.map (·.1)=ps.map (·.1)->RDl B V (ps.map (·.2)) (ps'.map (·.2))->∃cs3,fill pl cs' ps'=some cs3/\RCs B V cs2 cs3/\Scs N cs2
 | [],[],cs,cs2,cs',hk,hr,hs,hps,h1,h2=>by
  have:=Option.some.inj (show some cs=some cs2 from hk)
  subst this;exact⟨cs',rfl,hr,hs⟩
 | [],y::ps',cs,cs2,cs',hk,hr,hs,hps,h1,h2=>by simp at h1
 |x::ps,[],cs,cs2,cs',hk,hr,hs,hps,h1,h2=>by simp at h1
 |(i,d)::ps,(j,d')::ps',cs,cs2,cs',hk,hr,hs,hps,h1,h2=>by
  simp only [List.map_cons,List.cons.injEq]at h1;obtain⟨rfl,h1⟩:=h1;obtain⟨d2,s,h3,h4,h5⟩:=h2;simp only [List.map_cons,List.cons.injEq]at h3;obtain⟨rfl,rfl⟩:=h3;simp only [xG]at hk;split at hk
  .rename_i off size c hpl hc;split at hk
   .rename_i hlen;simp only [zbE]at hk;obtain⟨c2,g1,g2⟩:=hk;obtain⟨c',e1,e2,e3⟩:=rh hc (hps (j,d) (by simp)) h4;obtain⟨c3,k1,k2⟩:=hr.patch e2 g1;obtain⟨c4,k3,k4,k5⟩:=rl g2 k2 (tJ hs e3 g1) (λx hx=>hps x (by simp [hx])) h1 h5;refine⟨c4,?_,k4,k5⟩;simp only [fill,zbB,hpl,zbS,e1];rw [if_pos (by rw [e2.len];exact hlen),k1];exact k3
   .simp at hk
  .simp at hk
theorem tN{α:Type}{g g':α->Option (Nat×Nat)}(hg:∀a b,g a=some b->g' a=some b):∀{l:List α} {r:List (Nat×Nat)},kPlaces.seqP (l.map g)=some r->l.mapM g'=some r
 | [],r,hs=>by
  have:=Option.some.inj (show some []=some r from hs)
  subst this;rfl
 |a::l,r,hs=>by
  simp only [List.map_cons]at hs
  cases hga:g a with
  |none=>rw [hga]at hs;simp [kPlaces.seqP]at hs
  |some b=>
   rw [hga]at hs;simp only [kPlaces.seqP,Option.map_eq_some_iff]at hs;obtain⟨r2,h1,rfl⟩:=hs;rw [List.mapM_cons,hg a b hga,tN hg h1];rfl
theorem xL(hG:GOk G E D0){t:TypeId}{i:TI}{pl:Nat->Option (Nat×Nat)}(hi:af G.ti t=some i)(hp:kPlaces G.ti t=some pl):iG E.ti i=some pl:=by
 unfold kPlaces at hp;rw [hi]at hp;simp only at hp;unfold iG;split at hp
 .rename_i fs hd;rw [Option.map_eq_some_iff]at hp;obtain⟨l,h1,h2⟩:=hp;rw [hd];simp only
  rw [tN (g':=λf=>(E.ti f.type).map λi=>(f.offset,i.size)) (λa b hab=>by
   split at hab
   .rename_i q hq;rw [hG.ti _ _ hq];exact hab
   .simp at hab) h1]
  rw [Option.map_some,h2]
 .rename_i m e hd;rw [hd];simp only;split at hp
  .rename_i te hte;rw [hG.ti _ _ hte,Option.map_some];exact hp
  .simp at hp
 .simp at hp
theorem FO(hG:GOk G E D0)(hr:Rel F ks V f h)(ht:ks.nx<=tag)(hn:ks.nx<=nid)(htM:tag<M){t:TypeId}{parts:Array (Nat×Operand)}(hs:bp G F ks tag nid (.build t parts) κ=some r):∃e,κ e=some r/\bF E n F ks V f h M tag nid (.build t parts) e:=by
 simp only [bp]at hs;split at hs
 .rename_i i pl ps hi hpl hps;simp only [zbE]at hs;obtain⟨cs,g1,g2⟩:=hs;obtain⟨ps',e1,e2,e3,e4⟩:=nF hr hps;obtain⟨c3,k1,k2,k3⟩:=rl g1 (jz i.zero) (vD ks.nx i.zero) e2 e3 e4;exact⟨_,g2,ap ht hn htM (λk=>vi (L:= []) (hG.ti _ _ hi) e1 (xL hG hi hpl) k1 h k aw) k3 ⟨_,rfl,k2⟩⟩
 .simp at hs
theorem FP{te:TI}(hz:te.zero.length=te.size):∀len:Nat,jI te len=(List.replicate len (te.zero.map fw)).flatten:=by
 have hl:(fC te).length=te.size:=by unfold fC;rw [List.length_map,hz]
 intro len;unfold jI;refine List.ext_getElem? λi=> ?_
 induction len generalizing i with
 |zero=>simp
 |succ m ih=>
  have e2:(List.replicate (m+1) (te.zero.map fw)).flatten=(fC te)++(List.replicate m (te.zero.map fw)).flatten:=by rw [List.replicate_succ,List.flatten_cons];rfl
  rw [e2,List.getElem?_append,hl];by_cases hi:i<te.size
  .rw [if_pos hi,List.getElem?_map,List.getElem?_range (by rw [Nat.succ_mul];omega)];simp only [Option.map_some];rw [Nat.mod_eq_of_lt hi,List.getD_eq_getElem?_getD,List.getElem?_eq_getElem (by omega)]
   try rfl
  .rw [if_neg hi,<-ih (i - te.size),List.getElem?_map,List.getElem?_map];by_cases h2:i<(m+1)*te.size
   .have h3:i - te.size<m*te.size:=by rw [Nat.succ_mul]at h2;omega
    rw [List.getElem?_range h2,List.getElem?_range h3];simp only [Option.map_some]
    have:i % te.size=(i - te.size)% te.size:=by
     conv=>lhs;rw [show i=(i - te.size)+te.size by omega,Nat.add_mod_right]
    rw [this]
   .have h3:¬i - te.size<m*te.size:=by rw [Nat.succ_mul]at h2;omega
    rw [List.getElem?_eq_none (by simpa using h2),List.getElem?_eq_none (by simpa using h3)];try rfl
theorem AJ{B:BK}{k:List KC}{c:List C}(hr:RCs B V k c):∀m:Nat,RCs B V (List.replicate m k).flatten (List.replicate m c).flatten
 |0=>rfl
 |m+1=>by
  rw [List.replicate_succ,List.replicate_succ,List.flatten_cons,List.flatten_cons];exact hr.append (AJ hr m)
theorem LB{N:Nat}{k:List KC}(hs:Scs N k)(m:Nat):Scs N (List.replicate m k).flatten:=λc hc=>by
 obtain⟨l,h1,h2⟩:=List.mem_flatten.1 hc;rw [(List.mem_replicate.1 h1).2]at h2;exact hs c h2
theorem xM{B:BK}{e:Ty}{z:Nat}{cs:List KC}{cs':List C}(hr:RCs B V cs cs'):∀(m i:Nat) {rs:List (List KC)} {l:List e.val},tB z cs m i=some rs->jx e rs=some l->(List.range' i m).mapM (λi=>Ev.cut cs' (i*z) z)=some (l.map (aZ e.row))
 |0,i,rs,l,h1,h2=>by
  have:=Option.some.inj (show some []=some rs from h1)
  subst this
  have:=Option.some.inj (show some []=some l from h2)
  subst this;rfl
 |m+1,i,rs,l,h1,h2=>by
  simp only [tB,zbE]at h1;obtain⟨a,g1,l1,g2,g3⟩:=h1
  have:=Option.some.inj g3
  subst this;simp only [jx]at h2;split at h2
  .rename_i hfr;simp only [zbE]at h2;obtain⟨x,k1,l2,k2,k3⟩:=h2
   have:=Option.some.inj k3
   subst this;obtain⟨c2,e1,e2⟩:=hr.cut g1
   have:=jy k1 hfr e2
   subst this;rw [List.range'_succ,List.mapM_cons,e1,xM hr m (i+1) g2 k2];rfl
  .simp at h2
theorem tO{z:Nat}{cs:List KC}:∀(m i:Nat) {rs:List (List KC)},tB z cs m i=some rs->rs.length=m
 |0,i,rs,h1=>by
  have:=Option.some.inj (show some []=some rs from h1)
  subst this;rfl
 |m+1,i,rs,h1=>by
  simp only [tB,zbE]at h1;obtain⟨a,g1,l1,g2,g3⟩:=h1
  have:=Option.some.inj g3
  subst this;rw [List.length_cons,tO m (i+1) g2]
theorem oB{e:Ty}:∀{rs:List (List KC)} {l:List e.val},jx e rs=some l->l.length=rs.length
 | [],l,h2=>by
  have:=Option.some.inj (show some []=some l from h2)
  subst this;rfl
 |c::rs,l,h2=>by
  simp only [jx]at h2;split at h2
  .simp only [zbE]at h2;obtain⟨x,k1,l2,k2,k3⟩:=h2
   have:=Option.some.inj k3
   subst this;rw [List.length_cons,List.length_cons,oB k2]
  .simp at h2
theorem BZ(hG:GOk G E D0)(hr:Rel F ks V f h)(ht:ks.nx<=tag)(hn:ks.nx<=nid)(htM:tag<M)(hnM:nid<M){t:TypeId}{len:Nat}{parts:Array (Nat×Operand)}(hs:bp G F ks tag nid (.buildSlice t len parts) κ=some r):∃e,κ e=some r/\bF E n F ks V f h M tag nid (.buildSlice t len parts) e:=by
 simp only [bp]at hs;split at hs
 .rename_i te e z ps hel hps;obtain⟨ti,i2,t1,t2,t3,t4,t5,t6,t7⟩:=ce hG hel;rw [t5]at hs;simp only at hs;split at hs
  .rename_i hz;obtain⟨hz1,hz2⟩:=hz;simp only [zbE]at hs;obtain⟨cs,g1,rs,g2,l,g3,g4⟩:=hs;obtain⟨ps',e1,e2,e3,e4⟩:=nF hr hps;obtain⟨c3,k1,k2,k3⟩:=rl g1 (AJ (jz i2.zero) len) (LB (vD ks.nx i2.zero) len) e2 e3 e4;rw [<-FP (hG.ok.ti.zero _ _ t3).2.1]at k1;have k4:=xM k2 len 0 g2 g3;rw [<-List.range_eq_range']at k4;have h0:l.length=len:=(oB g3).trans (tO len 0 g2);refine⟨_,g4,io (by omega) ht hn (λ_=>⟨trivial,by simp⟩) hnM (by simp) λk=> .inl ⟨trivial,_,_,cE (L:= []) t1 t2 t3 t4 e1 k1 k4 (Nat.ble_eq_true_of_le (by rw [Nat.mul_comm];omega)) h k aw,⟨_,rfl,?_⟩,?_,?_⟩⟩
   .intro e' ne l' hl';unfold Be blE blU at hl';simp only [eY (show KB.rows e (Nat.blt 0 len) l≠ .dead by simp),if_true,zsI,KB.rows.injEq]at hl';obtain⟨rfl,rfl,hl'⟩:=hl';rw [<-eq_of_heq hl',h0,Vl.set_id]
   .rw [hz1]
   .intro hb he;rw [he]at h0
    have:(0:Nat)<len:=by simpa using hb
    simp at h0;omega
  .simp at hs
 .simp at hs
theorem eA{e:Ty}{ne:Bool}{l:List e.val}{d:KD}{V:Vl}{k tag:Nat}{bo:Bool}{u:Option (Nat×KB)}:RC (Be F ks nid ⟨d,u,some (.rows e ne l)⟩) (V.set nid k tag bo) (.o e nid) (.own k 0 l.length):=by
 intro e' ne' l' hl';unfold Be blE at hl';simp only [eY (show KB.rows e ne l≠ .dead by simp),if_true,zsI,KB.rows.injEq]at hl';obtain⟨rfl,rfl,hl'⟩:=hl';rw [<-eq_of_heq hl',Vl.set_id]
theorem de{e:Ty}{l:List e.val}{d:KD}{V:Vl}{k tag:Nat}{bo:Bool}{u:Option (Nat×KB)}:RC (Be F ks nid ⟨d,u,some (.mrows e l)⟩) (V.set nid k tag bo) (.m e nid) (moC l k):=by
 intro e' l' hl';unfold Be blE at hl';simp only [eY (show KB.mrows e l≠ .dead by simp),if_true,zsI,KB.mrows.injEq]at hl';obtain⟨rfl,hl'⟩:=hl';rw [<-eq_of_heq hl',Vl.set_id]
theorem vK(hG:GOk G E D0)(hr:Rel F ks V f h)(ht:ks.nx<=tag)(hn:ks.nx<=nid)(htM:tag<M)(hnM:nid<M){t:TypeId}{l c:Operand}(hs:bp G F ks tag nid (.makeSlice t l c) κ=some r):∃e,κ e=some r/\bF E n F ks V f h M tag nid (.makeSlice t l c) e:=by
 simp only [bp]at hs;split at hs
 .rename_i te e z ki i kj j hel hl hc;obtain⟨ti,i2,t1,t2,t3,t4,t5,t6,t7⟩:=ce hG hel;rw [t5]at hs;simp only at hs;split at hs
  .rename_i hz;obtain⟨hz1,hz2⟩:=hz;simp only [zbE]at hs;obtain⟨u0,g0,u,g1,x,g2,g3⟩:=hs;obtain⟨b1,b2⟩:=ze g1;have hcp:=zd g0;obtain⟨dl,l1,l2,c1,rfl,lc⟩:=aO hr hl;obtain⟨dc,l3,l4,c2,rfl,lc2⟩:=aO hr hc;rw [show c1=_ from lc]at l1;rw [show c2=_ from lc2]at l3
   have hrow:fC i2=aZ e.row x:=by
    have hf:(i2.zero.map kC).all frC=true:=List.all_eq_true.2 λc hc=>by
     obtain⟨v,_,rfl⟩:=List.mem_map.1 hc;unfold kC;split<;>rfl
    exact jy (B:=noB) (V:=V) g2 hf (jz i2.zero)
   refine⟨_,g3,io (by omega) ht hn (λ_=>⟨trivial,by simp⟩) hnM (by simp) λk=> .inl ⟨trivial,_,_,He (L:= []) (r:=aZ e.row) t1 t2 t3 l1 l3 b1 (by rcases hcp with hij|⟨hij,_⟩<;>omega) (by rcases hcp with hij|⟨_,hij⟩;rw [<-hij];exact b2;exact hij) hrow t4 h k aw,⟨_,rfl,eA⟩,?_,by simp⟩⟩;rw [hz1]
  .simp at hs
 .simp at hs
theorem kW(hr:Rel F ks V f h){o:Option Operand}{m:Nat}{i:Int}(hk:qW F ks o ((m:Nat):Int)=some i)(h0:0<=i):cJ (ov F.nt f) o m=some i.toNat:=by
 cases o with
 |none=>
  have:=Option.some.inj (show some ((m:Nat):Int)=some i from hk)
  subst this;exact Hw m
 |some x=>
  simp only [qW]at hk;split at hk
  .rename_i k j hx
   have:=Option.some.inj hk
   subst this;obtain⟨d,g1,g2,c,rfl,g3⟩:=aO hr hx;rw [show c=_ from g3]at g1;exact pg g1 h0 m
  .simp at hk
theorem FQ(hG:GOk G E D0)(hr:Rel F ks V f h)(ht:ks.nx<=tag)(hn:ks.nx<=nid)(htM:tag<M){t:TypeId}{x:Operand}{lo hi mx:Option Operand}(hs:bp G F ks tag nid (.slice t x lo hi mx) κ=some r):∃e,κ e=some r/\bF E n F ks V f h M tag nid (.slice t x lo hi mx) e:=by
 simp only [bp]at hs;split at hs
 .rename_i te e z e' fr s hnh hel hx;obtain⟨ti,i2,t1,t2,t3,t4,t5,t6,t7⟩:=ce hG hel;split at hs
  .rename_i i j m hi hj hm;obtain⟨hs,hcm⟩:=BV hs;simp only [zbE]at hs;obtain⟨s',g1,g2⟩:=hs;obtain⟨d,l1,l2,c,rfl,fl,lc,lc2⟩:=aO hr hx;rw [lc]at l1;subst t4;obtain⟨⟨b1,b2,b3,b4⟩,_⟩:=dN g1
   have hmm:j<=m/\m<=(s.l.length:Int):=by
    cases mx with
    |none=>have:=Option.some.inj (show some ((s.l.length:Nat):Int)=some m from hm);omega
    |some z=>exact hcm rfl
   exact⟨_,g2,ap ht hn htM (λk=>xv (L:= []) (r:=e'.row) g1 l1 t1 t2 t3 (kW hr (m:=0) hi b1) (kW hr hj (by omega)) (kW hr hm (by omega)) hnh (by omega) (by omega) h k aw) trivial ⟨_,rfl,fl,rfl,lc2⟩⟩
  .simp at hs
 .simp at hs
theorem vL(hG:GOk G E D0)(hr:Rel F ks V f h)(ht:ks.nx<=tag)(hn:ks.nx<=nid)(htM:tag<M){t:TypeId}{x ix:Operand}(hs:bp G F ks tag nid (.indexAddr t x ix) κ=some r):∃e,κ e=some r/\bF E n F ks V f h M tag nid (.indexAddr t x ix) e:=by
 simp only [bp]at hs;split at hs
 .rename_i e fr s k i hx hi;obtain⟨d,l1,l2,c,rfl,fl,lc,lc2⟩:=aO hr hx;obtain⟨d2,l3,l4,c2,rfl,lc3⟩:=aO hr hi;rw [lc]at l1;rw [show c2=_ from lc3]at l3;split at hs
  .rename_i te e2 z hel;obtain⟨ti,i2,t1,t2,t3,t4,t5,t6,t7⟩:=ce hG hel;simp only [zbE]at hs;obtain⟨y,g1,g2⟩:=hs;obtain⟨b1,b2,b3⟩:=ck g1;subst b2;exact⟨_,g2,ap ht hn htM (λk=>cB (L:= []) (r:=e.row) l1 l3 b1 b3 t6 h k aw) trivial ⟨_,rfl,fl,rfl,b3,lc2⟩⟩
  .simp at hs
 .rename_i e p k i hx hi;obtain⟨d,l1,l2,c,rfl,lc⟩:=aO hr hx;obtain⟨d2,l3,l4,c2,rfl,lc3⟩:=aO hr hi;rw [show c2=_ from lc3]at l3;split at hs
  .rename_i te e2 z e' ne l hel hB;split at hs
   .rename_i hz;subst hz;obtain⟨ti,i2,t1,t2,t3,t4,t5,t6,t7⟩:=ce hG hel;simp only [zbE]at hs;obtain⟨y,g1,g2⟩:=hs;rw [lc _ _ _ hB]at l1;obtain⟨b1,b2⟩:=mq g1;obtain⟨b3,b4,b5,b6⟩:=hr.bl p _ hB;exact⟨_,g2,ap ht hn htM (λk=>Ix (L:= [[(V.id p,_,_)]]) (r:=aZ _) 0 l1 l3 b1 b2 rfl t6 h k (eX b5)) l2 ⟨_,rfl,b1,rfl⟩⟩
   .simp at hs
  .simp at hs
 .rename_i e p k i hx hi;obtain⟨d,l1,l2,c,rfl,lc⟩:=aO hr hx;obtain⟨d2,l3,l4,c2,rfl,lc3⟩:=aO hr hi;rw [show c2=_ from lc3]at l3;split at hs
  .rename_i te e2 z e' l hel hB;split at hs
   .rename_i hz;subst hz;obtain⟨ti,i2,t1,t2,t3,t4,t5,t6,t7⟩:=ce hG hel;simp only [zbE]at hs;obtain⟨y,g1,g2⟩:=hs;rw [lc _ _ hB]at l1;have hne:=vH g1;obtain⟨b1,b2⟩:=mq g1;obtain⟨b3,b4,b5⟩:=hr.bl p _ hB;have b5:=b5 hne;rw [show moC l (V.id p)= .own (V.id p) 0 l.length by cases l with|nil=>exact absurd rfl hne|cons a l=>rfl]at l1;exact⟨_,g2,ap ht hn htM (λk=>Ix (L:= [[(V.id p,_,_)]]) (r:=aZ _) 0 l1 l3 b1 b2 rfl t6 h k (eX b5)) l2 ⟨_,rfl,b1,rfl⟩⟩
   .simp at hs
  .simp at hs
 .rename_i p j k a hx hi;obtain⟨d,l1,l2,c,rfl,lc⟩:=aO hr hx;obtain⟨d2,l3,l4,c2,rfl,lc3⟩:=aO hr hi;rw [show c=_ from lc]at l1;rw [show c2=_ from lc3]at l3;split at hs
  .rename_i ti hti;split at hs
   .rename_i m e hd;split at hs
    .rename_i te hte;split at hs
     .rename_i hlt;exact⟨_,hs,ap ht hn htM (λk=>Oe (L:= []) (hG.ti _ _ hti) hd (hG.ti _ _ hte) rfl l1 l3 (zA hlt) h k aw) l2 ⟨_,rfl,rfl⟩⟩
     .simp at hs
    .simp at hs
   .simp at hs
  .simp at hs
 .rename_i e fr s i y j k a hx hi;obtain⟨d,l1,l2,c,rfl,fl,lc,lc2⟩:=aO hr hx;obtain⟨d2,l3,l4,c2,rfl,lc3⟩:=aO hr hi;rw [lc]at l1;rw [show c2=_ from lc3]at l3;split at hs
  .rename_i ti hti;split at hs
   .rename_i m e' hd;split at hs
    .rename_i te hte;split at hs
     .rename_i hlt;exact⟨_,hs,ap ht hn htM (λk=>q_ixAI (hG.ti _ _ hti) hd (hG.ti _ _ hte) l1 l3 hlt k) trivial ⟨_,rfl,fl,rfl,lc2⟩⟩
     .simp at hs
    .simp at hs
   .simp at hs
  .simp at hs
 .simp at hs
where
 q_ixAI {ty e:TypeId} {t te:TI} {m:Nat} {x ix:Operand} {fr fb:Bool} {kb:IntKind} {sz i j a:Nat} {l:List (List T)} (ht:E.ti ty=some t) (hd:t.desc= .array m e) (hte:E.ti e=some te) (hx:ov F.nt f x=some (.one (.iptr fr sz l i j))) (hi:ov F.nt f ix=some (.one (.p fb (.v (.int kb (a:Int)))))) (ha:a<m) (nid:Nat):stepG E (cpR E n) none nid (.indexAddr ty x ix) (ar (tab F.nt f)) h=some ⟨.one (.iptr fr sz l i (j+a*te.size)),[]⟩:=by
  rw [pd,aQ,hx,aQ,hi];refine Eq.trans (b:=xh E.ti ty h a (.one (.iptr fr sz l i j))) rfl ?_
  show((E.ti ty).bind λt=>match t.desc with
   | .array n e=>(E.ti e).bind λte=>if a<n then some (⟨.one (.iptr fr sz l i (j+a*te.size)),[]⟩:Eff)else none
   |_=>none)=_
  rw [ht];simp only [zbS,hd,hte];rw [if_pos ha]
theorem FS(hG:GOk G E D0)(hr:Rel F ks V f h)(ht:ks.nx<=tag)(hn:ks.nx<=nid)(htM:tag<M){t:TypeId}{x ix:Operand}(hs:bp G F ks tag nid (.index t x ix) κ=some r):∃e,κ e=some r/\bF E n F ks V f h M tag nid (.index t x ix) e:=by
 simp only [bp]at hs;split at hs
 .rename_i ti cs k a hti hx hi;obtain⟨d,l1,l2,c,rfl,lc⟩:=aO hr hx;obtain⟨d2,l3,l4,c2,rfl,lc3⟩:=aO hr hi;rw [show c2=_ from lc3]at l3;split at hs
  .rename_i m e hd;split at hs
   .rename_i te hte;split at hs
    .rename_i hlt;simp only [zbE]at hs;obtain⟨d2,⟨cs2,g1,g2⟩,g3⟩:=hs;obtain⟨c2,g8,g9⟩:=lc.cut g1;obtain⟨d3,k1,k2,k3⟩:=dX g2 (fe l2 g1) g9;refine⟨_,g3,ap ht hn htM (λk=> ?_) k3 k2⟩
     show((E.ti t).bind λt'=>(am (ar (tab F.nt f)) ix).bind λdi=>(eB di).bind λi=>(am (ar (tab F.nt f)) x).bind λdx=>match dx with
      | .agg cs=>match t'.desc with
       | .array n e=>(E.ti e).bind λte=>if i<n then(Ev.cut cs (i*te.size) (if aE te.desc then te.size else 1)).bind λc=>(bY (aE te.desc) c).bind λv=>some (⟨v,[]⟩:Eff)else none
       |_=>none
      |_=>none)=_
     rw [hG.ti _ _ hti,aQ,aQ,l3,l1];simp only [zbS];rw [show eB (.one (iC _ (Int.ofNat a)))=some a from rfl];simp only [zbS,hd,hG.ti _ _ hte];rw [if_pos hlt]
     have hc':Ev.cut c (a*te.size) (if aE te.desc then te.size else 1)=some c2:=by
      rw [<-g8];unfold wd;cases aE te.desc<;>rfl
     rw [hc'];simp only [zbS,k1]
    .simp at hs
   .simp at hs
  .simp at hs
 .simp at hs
theorem tP(hr:Rel F ks V f h):∀{l:List Operand} {ds:List KD} {ps:List Nat},fB F ks l=some ds->AA ds=some ps->vp F.nt f l=some (ps.map λp=> .ptr (V.id p) 0 0)/\∀p∈ps,p<ks.nx
 | [],ds,ps,h1,h2=>by
  have:=Option.some.inj (show some []=some ds from h1)
  subst this
  have:=Option.some.inj (show some []=some ps from h2)
  subst this;exact⟨rfl,by simp⟩
 |x::l,ds,ps,h1,h2=>by
  simp only [fB,zbE]at h1;obtain⟨d,g1,r,g2,g3⟩:=h1
  have:=Option.some.inj g3
  subst this;unfold AA at h2;split at h2
  .rename_i heq;simp at heq
  .rename_i p j r' heq;cases heq;split at h2
   .rename_i hj;subst hj;rw [Option.map_eq_some_iff]at h2;obtain⟨ps2,k1,rfl⟩:=h2;obtain⟨e1,e2⟩:=tP hr g2 k1;obtain⟨d',f1,f2,c,rfl,f3⟩:=aO hr g1;refine⟨?_,λq hq=>by rcases List.mem_cons.1 hq with rfl|hq;exact f2;exact e2 q hq⟩;unfold vp at e1 ⊢;rw [List.mapM_cons,e1,f1,show c=_ from f3];rfl
   .simp at h2
  .simp at h2
theorem xN(hr:Rel F ks V f h)(ht:ks.nx<=tag)(hn:ks.nx<=nid)(htM:tag<M){fn:Fn}{first cap:Array Operand}(hs:bp G F ks tag nid (.makeFunc fn first cap) κ=some r):∃e,κ e=some r/\bF E n F ks V f h M tag nid (.makeFunc fn first cap) e:=by
 simp only [bp]at hs;split at hs
 .rename_i k ps hf hcap;simp only [zbE]at hcap;obtain⟨ds,g1,g2⟩:=hcap;obtain⟨e1,e2⟩:=tP hr g1 g2;exact⟨_,hs,ap ht hn htM (λq=>Hx (L:= []) (fs:= []) (by rw [hf];rfl) e1 h q aw) e2 ⟨_,rfl,rfl⟩⟩
 .simp at hs
end
end K
end Ev
end
noncomputable section
namespace Ev
namespace K
open Go Go.RowKit
section
variable {E : Env} {n : Nat} {F : KF} {ks : KS} {V : Vl} {f : Nat → D} {h : Heap} {M tag nid : Nat} {op : Op} {G : KG} {D0 : Nat} {R : Type} {κ : KE → Option R} {r : R}
theorem FT{l:List Operand}{d:KD}(hk:fB F ks l=some [d]):∃a,l= [a]/\kO F ks a=some d:=by
 cases l with
 |nil=>simp [fB]at hk
 |cons a l=>
  simp only [fB,zbE]at hk;obtain⟨x,h1,s,h2,h3⟩:=hk
  have:=Option.some.inj h3
  simp only [List.cons.injEq]at this;obtain⟨rfl,rfl⟩:=this
  cases l with
  |nil=>exact⟨a,rfl,h1⟩
  |cons b l=>
   simp only [fB,zbE]at h2;obtain⟨y,_,t,_,h4⟩:=h2;simp at h4
theorem vM{l:List Operand}{d e:KD}(hk:fB F ks l=some [d,e]):∃a b,l= [a,b]/\kO F ks a=some d/\kO F ks b=some e:=by
 cases l with
 |nil=>simp [fB]at hk
 |cons a l=>
  simp only [fB,zbE]at hk;obtain⟨x,h1,s,h2,h3⟩:=hk
  have:=Option.some.inj h3
  simp only [List.cons.injEq]at this;obtain⟨rfl,rfl⟩:=this;obtain⟨b,rfl,h4⟩:=FT h2;exact⟨a,b,rfl,h1,h4⟩
theorem nG{fl:Bool}:∀{e:Ty} (y:e.val),e.plain=true->(e.row y).map (pC fl)=(e.row y).map (pC true)
 | .I _,_,_=>rfl
 | .B,_,_=>rfl
 | .S _,_,hp=>by simp [Ty.plain]at hp
 | .U,_,_=>rfl
 | .C a b,x,hp=>by
  simp only [Ty.plain,Bool.and_eq_true]at hp;show(a.row x.1++b.row x.2).map _=(a.row x.1++b.row x.2).map _;rw [List.map_append,List.map_append,nG x.1 hp.1,nG x.2 hp.2]
theorem rm(hr:Rel F ks V f h){e:Ty}{x:KC}{xs:List e.val}{ne:Bool}{c:C}(hk:vy F ks e x=some (xs,ne))(hc:RC (aj F ks) V x c):gb h (.one c)=some (xs.map (aZ e.row))/\(ne=true->xs≠[]):=by
 unfold vy at hk;split at hk
 .simp only [zsI,Prod.mk.injEq]at hk;obtain⟨rfl,rfl⟩:=hk;rw [show c=_ from hc];exact⟨rfl,by simp⟩
 .rename_i e' fr s;split at hk
  .rename_i hp;simp only [Option.map_eq_some_iff,Prod.mk.injEq]at hk;obtain⟨y,h1,rfl,rfl⟩:=hk;obtain⟨he,h2⟩:=aI h1;cases he;obtain⟨fl,h3,h4⟩:=hc;refine⟨?_,by simp⟩;rw [h3,<-h2];show some ((s.l.map e.row).map (·.map (pC fl)))=_;rw [List.map_map];congr 1;refine List.map_congr_left λy _=> ?_;show(e.row y).map (pC fl)=(e.row y).map (pC true);rw [Bool.or_eq_true]at hp;rcases hp with hp|hp
   .rw [h4 hp]
   .exact nG y hp
  .simp at hk
 .rename_i e' p;split at hk
  .rename_i e2 ne2 l hB;simp only [Option.map_eq_some_iff,Prod.mk.injEq]at hk;obtain⟨y,h1,rfl,rfl⟩:=hk;obtain⟨he,h2⟩:=aI h1;cases he;obtain⟨g1,g2,g3,g4⟩:=hr.bl p _ hB;rw [hc _ _ _ hB,<-h2];exact⟨cX (L:= [[(V.id p,_,_)]]) (r:=aZ _) 0 rfl h (eX g3),g4⟩
  .simp at hk
 .rename_i e' p;split at hk
  .rename_i e2 l hB;simp only [Option.map_eq_some_iff,Prod.mk.injEq]at hk;obtain⟨y,h1,rfl,rfl⟩:=hk;obtain⟨he,h2⟩:=aI h1;cases he;obtain⟨g1,g2,g3⟩:=hr.bl p _ hB;rw [hc _ _ hB,<-h2];refine⟨?_,by simp⟩
   cases l with
   |nil=>rfl
   |cons a l=>exact cX (L:= [[(V.id p,_,_)]]) (r:=aZ _) 0 rfl h (eX (g3 (by simp)))
  .simp at hk
 .simp at hk
theorem rn{d:KD}{b b0:KB}{p:Nat}(hM:ks.nx<=M)(hp:af ks.bl p=some b0)(h0:b0≠ .dead)(hb:ScB ks.nx b/\b≠ .dead)(hbt:b.there)(hd:ScD M d)(hnb:∀x,d≠ .one (.bv x))
  (hv:∀k,∃v x uo,(uo= [(V.id p,Blk.dead)]/\b0.there∨uo= []/\¬b0.there)/\stepG E (cpR E n) none k op (ar (tab F.nt f)) h=some ⟨v,uo++ [(k,x)]⟩/\RD (Be F ks nid ⟨d,some (p,.dead),some b⟩) (V.set nid k tag false) d v/\BlkIs (Be F ks nid ⟨d,some (p,.dead),some b⟩) (V.set nid k tag false) x b):bF E n F ks V f h M tag nid op ⟨d,some (p,.dead),some b⟩:=by
 refine⟨λp' b' hb'=>by simp at hb';obtain⟨rfl,rfl⟩:=hb';exact⟨b0,hp,h0,trivial,trivial⟩,λb' hb'=>by simp at hb';subst hb';exact hb,by rw [fm hnb];exact hd,false,λk=> ?_⟩;obtain⟨v,x,uo,h0,h1,h2,h3⟩:=hv k;refine⟨v,_,h1,by rw [fm hnb];exact h2,⟨uo,_,rfl,?_,.inl ⟨x,rfl,h3,hbt⟩⟩⟩;rcases h0 with⟨rfl,ht⟩|⟨rfl,ht⟩
 .exact .inl ⟨.dead,rfl,rfl,λb1 hb1=>by rw [hp]at hb1;cases hb1;exact ht⟩
 .exact .inr ⟨rfl,id,λb1 hb1=>by rw [hp]at hb1;cases hb1;exact ht⟩
theorem AK{α:Type}{l m:List α}(h:app [] l=some m):m=l/\l.length<=cQ:=by
 obtain⟨h1,h2⟩:=aT h;exact⟨by simpa using h2,by simpa using h1⟩
theorem LC{c:Call}{a x:Operand}{ty ty1 z e1:TypeId}{t1:TI}{fr:Bool}{bz n:Nat}{h:Heap}{d:D}{xs:List (List C)}(ha:ov F.nt f a=some (.one (.p fr (.s false bz []))))(hx:ov F.nt f x=some d)(hxs:gb h d=some xs)(hne:∃y ys,xs=y::ys)(hb:xs.length<=cQ)(hall:xs.all (·.length==z)=true)(hz:cu E.ti ty=some z)(ht1:E.ti ty1=some t1)(he1:aA t1=some e1)
  (hc:c.callee= .builtin .append) (hargs:c.args.toList= [a,x]) (hty:c.argTypes[0]? =some ty) (hty1:c.argTypes[1]? =some ty1) (nid:Nat):stepG E (cpR E n) none nid (.call c) (ar (tab F.nt f)) h=some ⟨.one (.own nid 0 xs.length),[(nid,.own z xs)]⟩:=by
 obtain⟨t,e,te,g1,g2,g3,g4⟩:=dE hz;have h1:aB (.call c)=none:=by unfold aB;simp only [hc]
 rw [fP,h1];unfold sem qy;simp only [hc,hty,g1,hargs,dA,zbB,zbS,List.mapM_cons,List.mapM_nil,ha,hx,Option.pure_def,g2,g3,hty1,ht1,he1,g4];unfold Ev.append;simp only [hxs,zbB,zbS];obtain⟨y,ys,rfl⟩:=hne;rw [if_neg (by simp),if_neg (by simp),if_pos hb,if_pos hall]
theorem AL{c:Call}{a x:Operand}{ty ty1 z e1:TypeId}{t1:TI}{fr:Bool}{bz n:Nat}{h:Heap}{d:D}(ha:ov F.nt f a=some (.one (.p fr (.s false bz []))))(hx:ov F.nt f x=some d)(hxs:gb h d=some [])(hz:cu E.ti ty=some z)(ht1:E.ti ty1=some t1)(he1:aA t1=some e1)
  (hc:c.callee= .builtin .append) (hargs:c.args.toList= [a,x]) (hty:c.argTypes[0]? =some ty) (hty1:c.argTypes[1]? =some ty1) (nid:Nat):stepG E (cpR E n) none nid (.call c) (ar (tab F.nt f)) h=some ⟨.one (.p fr (.s false bz [])),[]⟩:=by
 obtain⟨t,e,te,g1,g2,g3,g4⟩:=dE hz;have h1:aB (.call c)=none:=by unfold aB;simp only [hc]
 rw [fP,h1];unfold sem qy;simp only [hc,hty,g1,hargs,dA,zbB,zbS,List.mapM_cons,List.mapM_nil,ha,hx,Option.pure_def,g2,g3,hty1,ht1,he1,g4];unfold Ev.append;simp only [hxs,zbB,zbS];rw [if_neg (by simp),if_pos (show([]:List (List C)).length=0 from rfl)]
theorem FU{e:Ty}{c:Call}{a x:Operand}{ty ty1 e1:TypeId}{t1:TI}{k n:Nat}{h:Heap}{l xs lm:List e.val}{d:D}(ha:ov F.nt f a=some (.one (.own k 0 l.length)))(hx:ov F.nt f x=some d)(hxs:gb h d=some (xs.map (aZ e.row)))(hb:ai h k=some (e.size,l.map (aZ e.row)))(hlm:app l xs=some lm)(hz:cu E.ti ty=some e.size)(ht1:E.ti ty1=some t1)(he1:aA t1=some e1)
  (hc:c.callee= .builtin .append) (hargs:c.args.toList= [a,x]) (hty:c.argTypes[0]? =some ty) (hty1:c.argTypes[1]? =some ty1) (hz0:Nat.beq e.size 0=false) (nid:Nat):stepG E (cpR E n) none nid (.call c) (ar (tab F.nt f)) h=some ⟨.one (.own nid 0 lm.length),[(k,.dead)]++ [(nid,.own e.size (lm.map (aZ e.row)))]⟩:=by
 obtain⟨t,e2,te,g1,g2,g3,g4⟩:=dE hz;obtain⟨hbd,rfl⟩:=aT hlm;have h1:aB (.call c)=none:=by unfold aB;simp only [hc]
 rw [fP,h1];unfold sem qy;simp only [hc,hty,g1,hargs,dA,zbB,zbS,List.mapM_cons,List.mapM_nil,ha,hx,Option.pure_def,g2,g3,hty1,ht1,he1,g4];unfold Ev.append;simp only [hxs,zbB,zbS,hb];rw [if_pos ⟨trivial,by simp,by simpa using hbd,trivial,by simp [rg],Nat.ne_of_beq_eq_false hz0⟩];simp
theorem Ca(hG:GOk G E D0)(hr:Rel F ks V f h)(ht:ks.nx<=tag)(hn:ks.nx<=nid)(htM:tag<M)(hnM:nid<M){c:Call}{a x:Operand}{ty ty1 te z:Nat}{e:Ty}{ka kx:KC}{z1:TypeId×Ty×Nat}(hc:c.callee= .builtin .append)(hargs:c.args.toList= [a,x])(hty:c.argTypes[0]? =some ty)(hel:G.elem ty=some (te,e,z))(hel1:(c.argTypes[1]?).bind G.elem=some z1)(hz:e.size=z)(hz0:z≠0)(ha:kO F ks a=some (.one ka))(hx:kO F ks x=some (.one kx))(hs:vz F ks nid e ka kx κ=some r):∃eff,κ eff=some r/\bF E n F ks V f h M tag nid (.call c) eff:=by
 have hM:ks.nx<=M:=by omega
 obtain⟨ti,i2,t1,t2,t3,t4,t5,t6,t7⟩:=ce hG hel;rw [zbE]at hel1;obtain⟨ty1,hty1,hel1⟩:=hel1;obtain⟨te1,e1,zz1⟩:=z1;obtain⟨ti1,i21,s1,s2,_⟩:=ce hG hel1;obtain⟨da,a1,a2,ca,rfl,a3⟩:=aO hr ha;obtain⟨dx,x1,x2,cx,rfl,x3⟩:=aO hr hx
 have hz0':Nat.beq z 0=false:=by cases hb:Nat.beq z 0 with|true=>exact absurd (Nat.eq_of_beq_eq_true hb) hz0|false=>rfl
 unfold vz at hs;split at hs
 .simp at hs
 .rename_i xs ne hxs;obtain⟨hel2,hne⟩:=rm hr hxs x3
  -- what is appended,in any heap that agrees
  have key0:∀{fr:Bool} {bz:Nat},ov F.nt f a=some (.one (.p fr (.s false bz [])))->∀(y:e.val) (ys:List e.val),xs=y::ys->xs.length<=cQ->∀k,stepG E (cpR E n) none k (.call c) (ar (tab F.nt f)) h=some ⟨.one (.own k 0 xs.length),[(k,.own z (xs.map (aZ e.row)))]⟩:=by
   intro fr bz ha y ys he hb k
   have:=LC (n:=n) (h:=h) ha x1 hel2 ⟨aZ e.row y,ys.map (aZ e.row),by rw [he];rfl⟩ (by simpa using hb) (by simp [rg,hz]) t6 s1 s2 hc hargs hty hty1 k
   rw [List.length_map]at this;exact this
  split at hs
  ·-- to nothing
   simp only [zbE]at hs;obtain⟨lm,g1,g2⟩:=hs;obtain⟨rfl,hb⟩:=AK g1;rw [show ca=_ from a3]at a1
   cases ne with
   |true=>
    have hx0:=hne rfl
    match lm,hx0 with
    |y::ys,_=>
     refine⟨_,g2,io hM ht hn (λ_=>⟨trivial,by simp⟩) hnM (by simp) λk=> .inl ⟨trivial,_,_,key0 a1 y ys rfl hb k,⟨_,rfl,eA⟩,by rw [<-hz],by simp⟩⟩
   |false=>
    refine⟨_,g2,io hM ht hn (λ_=>⟨trivial,by simp⟩) hnM (by simp) λk=> ?_⟩
    match lm with
    | []=>
     refine .inr ⟨by simp [KB.there],_,AL (n:=n) a1 x1 hel2 t6 s1 s2 hc hargs hty hty1 k,⟨_,rfl,?_⟩⟩;exact de (k:=k)
    |y::ys=>
     refine .inl ⟨by simp [KB.there],_,_,key0 a1 y ys rfl hb k,⟨_,rfl,?_⟩,by rw [<-hz];rfl⟩;exact de (k:=k)
  ·-- to rows
   rename_i e' p;split at hs
   .rename_i e2 ne2 l hp;simp only [zbE]at hs;obtain⟨l2,g0,lm,g1,g2⟩:=hs;obtain⟨he,g0⟩:=aI g0;cases he;subst g0;have hB:=ah (F:=F) hp (by simp);obtain⟨b1,b2,b3,b4⟩:=hr.bl p _ hB;rw [a3 _ _ _ hB]at a1;subst hz;refine⟨_,g2,rn hM hp (by simp) ⟨trivial,by simp⟩ trivial hnM (by simp) λk=>⟨_,_,_,.inl ⟨rfl,trivial⟩,?_,⟨_,rfl,eA⟩,rfl,λhne2=> ?_⟩⟩
    .exact FU (n:=n) (h:=h) a1 x1 hel2 b3 g1 t6 s1 s2 hc hargs hty hty1 hz0' k
    .obtain⟨_,rfl⟩:=aT g1;rw [Bool.or_eq_true]at hne2;rcases hne2 with h1|h1
     .intro he;exact hne h1 (List.append_eq_nil_iff.1 he).2
     .intro he;exact b4 h1 (List.append_eq_nil_iff.1 he).1
   .simp at hs
  .rename_i e' p;split at hs
   .rename_i e2 l hp;simp only [zbE]at hs;obtain⟨l2,g0,lm,g1,g2⟩:=hs;obtain⟨he,g0⟩:=aI g0;cases he;subst g0;have hB:=ah (F:=F) hp (by simp);obtain⟨b1,b2,b3⟩:=hr.bl p _ hB;rw [a3 _ _ hB]at a1;subst hz
    match l,b3,a1,g1,hp,hB with
    | [],b3,a1,g1,hp,hB=>
     obtain⟨rfl,hb⟩:=AK g1
     cases ne with
     |true=>
      have hx0:=hne rfl
      match lm,hx0 with
      |y::ys,_=>
       refine⟨_,g2,rn hM hp (by simp) ⟨trivial,by simp⟩ trivial hnM (by simp) λk=>⟨_,_,_,.inr ⟨rfl,by simp [KB.there]⟩,?_,⟨_,rfl,eA⟩,rfl,by simp⟩⟩;exact key0 a1 y ys rfl hb k
     |false=>
      match lm with
      | []=>
       refine⟨_,g2,?_⟩;refine⟨λp' b' hb'=>by simp at hb';obtain⟨rfl,rfl⟩:=hb';exact⟨_,hp,by simp,trivial,trivial⟩,λb' hb'=>by simp at hb';subst hb';exact⟨trivial,by simp⟩,hnM,false,λk=>⟨_,_,AL (n:=n) a1 x1 hel2 t6 s1 s2 hc hargs hty hty1 k,⟨_,rfl,?_⟩,⟨[],[],rfl,.inr ⟨rfl,id,λb1 hb1=>by rw [hp]at hb1;cases hb1;simp [KB.there]⟩,.inr ⟨rfl,by simp [KB.there]⟩⟩⟩⟩;exact de (k:=k)
      |y::ys=>
       refine⟨_,g2,rn hM hp (by simp) ⟨trivial,by simp⟩ (by simp [KB.there]) hnM (by simp) λk=>⟨.one (.own k 0 (y::ys).length),_,_,.inr ⟨rfl,by simp [KB.there]⟩,key0 a1 y ys rfl hb k,⟨_,rfl,de (k:=k)⟩,rfl⟩⟩
    |q::l,b3,a1,g1,hp,hB=>
     have b3:=b3 (by simp);have hlm:lm≠[]:=by obtain⟨_,rfl⟩:=aT g1;simp
     have hst:=FU (n:=n) (h:=h) (l:=q::l) a1 x1 hel2 b3 g1 t6 s1 s2 hc hargs hty hty1 hz0'
     cases ne with
     |true=>
      refine⟨_,g2,rn hM hp (by simp) ⟨trivial,by simp⟩ trivial hnM (by simp) λk=>⟨_,_,_,.inl ⟨rfl,by simp [KB.there]⟩,?_,⟨_,rfl,eA⟩,rfl,λ_=>hlm⟩⟩;exact hst k
     |false=>
      have hmm:∀k,RC (Be F ks nid ⟨.one (.m e nid),some (p,.dead),some (.mrows e lm)⟩) (V.set nid k tag false) (.m e nid) (.own k 0 lm.length):=λk=>by
       have:=de (F:=F) (ks:=ks) (nid:=nid) (V:=V) (k:=k) (tag:=tag) (bo:=false) (l:=lm) (d:= .one (.m e nid)) (u:=some (p,.dead))
       rw [show moC lm k= .own k 0 lm.length by cases lm with|nil=>exact absurd rfl hlm|cons a l=>rfl]at this;exact this
      exact⟨_,g2,rn hM hp (by simp) ⟨trivial,by simp⟩ hlm hnM (by simp) λk=>⟨.one (.own k 0 lm.length),_,_,.inl ⟨rfl,by simp [KB.there]⟩,hst k,⟨_,rfl,hmm k⟩,rfl⟩⟩
   .simp at hs
  .simp at hs
end
end K
end Ev
end
noncomputable section
namespace Ev
namespace K
open Go Go.RowKit
section
variable {E : Env} {n : Nat} {F : KF} {ks : KS} {V : Vl} {f : Nat → D} {h : Heap} {M tag nid : Nat} {op : Op} {G : KG} {D0 : Nat} {R : Type} {κ : KE → Option R} {r : R}
theorem FW(hr:Rel F ks V f h){x:KC}{i:Int}{c:C}(hk:Lt F ks x=some i)(hc:RC (aj F ks) V x c):∃m:Nat,rJ (.one c)=some m/\i=(m:Int):=by
 unfold Lt at hk;split at hk
 .cases hk;rw [show c=_ from hc];exact⟨0,rfl,rfl⟩
 .cases hk;obtain⟨fl,h1,h2⟩:=hc;rw [h1];exact⟨_,zc,rfl⟩
 .split at hk
  .rename_i e ne l hB;cases hk;rw [hc _ _ _ hB];exact⟨_,rfl,rfl⟩
  .simp at hk
 .split at hk
  .rename_i e l hB;cases hk;rw [hc _ _ hB];exact⟨_,Lj,rfl⟩
  .simp at hk
 .simp at hk
theorem Ib{e:Ty}{c:Call}{a x:Operand}{ty ty1 e1:TypeId}{t1:TI}{k n:Nat}{h:Heap}{l xs lm:List e.val}{d:D}(ha:ov F.nt f a=some (.one (.own k 0 l.length)))(hx:ov F.nt f x=some d)(hxs:gb h d=some (xs.map (aZ e.row)))(hb:ai h k=some (e.size,l.map (aZ e.row)))(hlm:cpL l xs=some lm)(hz:cu E.ti ty=some e.size)(ht1:E.ti ty1=some t1)(he1:aA t1=some e1)
  (hc:c.callee= .builtin .copy) (hargs:c.args.toList= [a,x]) (hty:c.argTypes[0]? =some ty) (hty1:c.argTypes[1]? =some ty1) (hz0:e.size≠0) (nid:Nat):stepG E (cpR E n) none nid (.call c) (ar (tab F.nt f)) h=some ⟨iD .i64 ((xs.length:Nat):Int),[(k,.own e.size (lm.map (aZ e.row)))]⟩:=by
 obtain⟨t,e2,te,g1,g2,g3,g4⟩:=dE hz;obtain⟨hbd,rfl⟩:=xn hlm;have h1:aB (.call c)=none:=by unfold aB;simp only [hc]
 rw [fP,h1];unfold sem qy;simp only [hc,hty,g1,hargs,dA,zbB,zbS,List.mapM_cons,List.mapM_nil,ha,hx,Option.pure_def,g2,g3,hty1,ht1,he1,g4];unfold pn;simp only [hxs,zbB,zbS,hb]
 have hpt:patch (l.map (aZ e.row)) 0 (xs.map (aZ e.row))=some ((xs++l.drop xs.length).map (aZ e.row)):=by
  unfold patch;rw [if_pos (by simpa using hbd)];simp
 rw [hpt];simp only [zbS];rw [if_pos ⟨trivial,by simpa using hbd,by simp [rg],hz0⟩];simp [iD,mk]
theorem zE(hG:GOk G E D0)(hr:Rel F ks V f h)(ht:ks.nx<=tag)(hn:ks.nx<=nid)(htM:tag<M)(hnM:nid<M){c:Call}{b:Builtin}{args:List KD}(hc:c.callee= .builtin b)(hargs:fB F ks c.args.toList=some args)(hs:qV G F ks nid c b args κ=some r):∃eff,κ eff=some r/\bF E n F ks V f h M tag nid (.call c) eff:=by
 have hM:ks.nx<=M:=by omega
 unfold qV at hs;split at hs
 .simp at hs
 .rename_i ty hty;split at hs
  .rename_i x;obtain⟨a,ha,ha2⟩:=FT hargs;obtain⟨d,d1,d2,cx,rfl,d3⟩:=aO hr ha2;split at hs
   .rename_i z hel;obtain⟨te,e,zz⟩:=z;obtain⟨ti,i2,t1,t2,t3,t4,t5,t6,t7⟩:=ce hG hel;simp only [zbE]at hs;obtain⟨i,g1,g2⟩:=hs;obtain⟨m,k1,rfl⟩:=FW hr g1 d3;exact⟨_,g2,ap ht hn htM (λk=>EY (L:= []) hc ha hty t1 t7 d1 k1 h k aw) trivial ⟨_,rfl,rfl⟩⟩
   .simp at hs
  .rename_i k1 x k2 y;obtain⟨a,a',ha,ha2,ha3⟩:=vM hargs;obtain⟨d,d1,d2,cx,rfl,d3⟩:=aO hr ha2;obtain⟨d',e1,e2,cy,rfl,e3⟩:=aO hr ha3;rw [show cx=_ from d3]at d1;rw [show cy=_ from e3]at e1;split at hs
   .rename_i ti hti;exact⟨_,hs,ap ht hn htM (λk=>(xw (L:= []) d1 e1 (hG.ti _ _ hti) ha hty).1 hc h k aw) trivial ⟨_,rfl,rfl⟩⟩
   .simp at hs
  .rename_i k1 x k2 y;obtain⟨a,a',ha,ha2,ha3⟩:=vM hargs;obtain⟨d,d1,d2,cx,rfl,d3⟩:=aO hr ha2;obtain⟨d',e1,e2,cy,rfl,e3⟩:=aO hr ha3;rw [show cx=_ from d3]at d1;rw [show cy=_ from e3]at e1;split at hs
   .rename_i ti hti;exact⟨_,hs,ap ht hn htM (λk=>(xw (L:= []) d1 e1 (hG.ti _ _ hti) ha hty).2 hc h k aw) trivial ⟨_,rfl,rfl⟩⟩
   .simp at hs
  .rename_i a x;obtain⟨oa,ox,ha,ha2,ha3⟩:=vM hargs;split at hs
   .rename_i te e z z1 hel hel1;split at hs
    .rename_i hz;exact Ca (ty1:=0) hG hr ht hn htM hnM hc ha hty hel hel1 hz.1 hz.2 ha2 ha3 hs
    .simp at hs
   .simp at hs
  .rename_i e0 p x;obtain⟨oa,ox,ha,ha2,ha3⟩:=vM hargs;split at hs
   .rename_i te e z z1 e' ne l hel hel1 hp;split at hs
    .rename_i hz;obtain⟨rfl,hz0⟩:=hz;obtain⟨ti,i2,t1,t2,t3,t4,t5,t6,t7⟩:=ce hG hel;rw [zbE]at hel1;obtain⟨ty1,hty1,hel1⟩:=hel1;obtain⟨te1,e1,zz1⟩:=z1;obtain⟨ti1,i21,s1,s2,_⟩:=ce hG hel1;split at hs
     .rename_i xs ne2 hxs;simp only [zbE]at hs;obtain⟨l2,g0,lm,g1,g2⟩:=hs;obtain⟨he,g0⟩:=aI g0;cases he;subst g0;obtain⟨d,d1,d2,cx,rfl,d3⟩:=aO hr ha2;obtain⟨d',f1,f2,cy,rfl,f3⟩:=aO hr ha3;have hB:=ah (F:=F) hp (by simp);obtain⟨b1,b2,b3,b4⟩:=hr.bl p _ hB;rw [d3 _ _ _ hB]at d1;obtain⟨x1,x2⟩:=rm hr hxs f3;refine⟨_,g2,vF ht hn hM hp (by simp) trivial trivial ⟨_,_,_,rfl,(Ar g1).symm⟩ trivial (by simp) (λk=>Ib (n:=n) (h:=h) d1 f1 x1 b3 g1 t6 s1 s2 hc ha hty hty1 hz0 k) ⟨_,rfl,rfl⟩ ⟨rfl,λhne=> ?_⟩⟩
      have:=b4 hne
      intro he;have h2:=Ar g1;rw [he]at h2;exact this (List.length_eq_zero_iff.1 h2.symm)
     .simp at hs
    .simp at hs
   .simp at hs
  .simp at hs
theorem RDl.append{B:BK}:∀{k1 k2:List KD} {c1 c2:List D},RDl B V k1 c1->RDl B V k2 c2->RDl B V (k1++k2) (c1++c2)
 | [],k2,c1,c2,h1,h2=>by rw [show c1= []from h1];exact h2
 |k::k1,k2,c1,c2,⟨c,s,e1,h1,h3⟩,h2=>⟨c,s++c2,by rw [e1];rfl,h1,h3.append h2⟩
theorem xO{B:BK}:∀ps:List Nat,RDl B V (ps.map λp=> .one (.ptr p 0)) (ps.map λp=> .one (.ptr (V.id p) 0 0))
 | []=>rfl
 |p::ps=>⟨_,_,rfl,⟨_,rfl,rfl⟩,xO ps⟩
theorem mF(hr:Rel F ks V f h){c:Call}{k:FuncId}{args:List KD}(hk:jd F ks c=some (k,args)):∃args',bh c (ov F.nt f)=some (k,args')/\(∀d∈args,ScD ks.nx d)/\RDl (aj F ks) V args args':=by
 unfold jd at hk;split at hk
 .rename_i fo hcal;split at hk
  .rename_i k' first cap args0 hf ha;split at hk
   .rename_i hz;simp only [zsI,Prod.mk.injEq]at hk;obtain⟨rfl,rfl⟩:=hk;obtain⟨d,d1,d2,c1,rfl,d3⟩:=aO hr hf;obtain⟨zas,a1,a2,a3⟩:=rb hr ha;rw [show c1=_ from d3]at d1;refine⟨zas,?_,a2,a3⟩;unfold bh;rw [hcal];simp only [a1,d1,zbB,zbS];rw [if_pos hz]
   .simp at hk
  .rename_i k' ps args0 hf ha;simp only [zsI,Prod.mk.injEq]at hk;obtain⟨rfl,rfl⟩:=hk;obtain⟨d,d1,d2,c1,rfl,d3⟩:=aO hr hf;obtain⟨zas,a1,a2,a3⟩:=rb hr ha;rw [show c1=_ from d3]at d1;refine⟨zas++ps.map λp=> .one (.ptr (V.id p) 0 0),?_,?_,a3.append (xO ps)⟩
   .unfold bh;rw [hcal];simp only [a1,d1,zbB,zbS];simp
   .intro x hx;rcases List.mem_append.1 hx with hx|hx
    .exact a2 x hx
    .obtain⟨p,hp,rfl⟩:=List.mem_map.1 hx;exact d2 p hp
  .simp at hk
 .simp at hk
def AM(kind:Kind)(rs:List TD)(vs:List (Bool×TD))(args:List D)(nid:Nat):Option Eff:=
 match kind with
 | .own=>match rs with
  | [.one (.s true sz l)]=>some {v:= .one (.own nid 0 l.length),upd:= [(nid,.own sz (l.map (·.map (pC true))))]}
  |_=>none
 | .fresh=>some {v:=fK (rs.map (bu true))}
 | .any=>if args.any go then none else some {v:=fK (rs.map (bu (vs.all (·.1))))}
theorem gP{c:Call}{k:FuncId}{args:List D}{vs:List (Bool×TD)}{kind:Kind}{rs:List TD}{nid:Nat}{e:Eff}(hc:aB (.call c)=some c)(hr:bh c (ov F.nt f)=some (k,args))(hv:args.mapM (br h)=some vs)(hk:cpR E n k (vs.map (·.2))=some (kind,rs))
  (he:AM kind rs vs args nid=some e):stepG E (cpR E n) none nid (.call c) (ar (tab F.nt f)) h=some e:=by
 rw [fP,hc];show fg (cpR E n) nid c (ar (tab F.nt f)) h=_;unfold fg;rw [dA,hr];simp only [zbB,zbS,hv,hk];exact he
theorem vN{B:BK}{l:List (Bool×List KC)}{ds:List D}(hr:RTs B V l ds):RD B V (Fy l) (fK ds):=by
 match l,hr with
 | [],hr=>rw [show ds= []from hr];exact⟨[],rfl,rfl⟩
 | [x],⟨d,s,e,h1,h2⟩=>rw [e,show s= []from h2];exact zB h1
 |x::y::l,⟨d,s,e,h1,d2,s2,e2,h3,h4⟩=>exact⟨ds,by rw [e,e2];rfl,d,s,e,h1,d2,s2,e2,h3,h4⟩
theorem zF{N:Nat}{l:List (Bool×List KC)}(hs:∀x∈l,Scs N x.2):ScD N (Fy l):=by
 match l,hs with
 | [],hs=>exact hs
 | [x],hs=>exact pk (hs x (by simp))
 |x::y::l,hs=>exact hs
theorem oC{B:BK}{c:KC}{x:C}(hu:mw c=true)(hr:RC B V c x):fc x=false:=by
 cases c with
 |n k y=>rw [show x=_ from hr];rfl
 |b v=>rw [show x=_ from hr];rfl
 |p t P d=>rw [hr.1];rfl
 |bv y=>rw [show x=_ from hr];rfl
 |v y=>rw [show x=_ from hr];rfl
 |nil=>rw [show x=_ from hr];rfl
 |s e fr y=>obtain⟨fl,h1,_⟩:=hr;rw [h1];rfl
 |_=>simp [mw]at hu
theorem mG{B:BK}:∀{cs:List KC} {xs:List C},cs.all mw=true->RCs B V cs xs->xs.any fc=false
 | [],xs,_,h=>by rw [show xs= []from h];rfl
 |c::cs,xs,hu,⟨x,s,e,h1,h2⟩=>by
  simp only [List.all_cons,Bool.and_eq_true]at hu;rw [e,List.any_cons,oC hu.1 h1,mG hu.2 h2];rfl
theorem jT{B:BK}:∀{ds:List KD} {xs:List D},ds.all my=true->RDl B V ds xs->xs.any go=false
 | [],xs,_,h=>by rw [show xs= []from h];rfl
 |d::ds,xs,hu,⟨x,s,e,h1,h2⟩=>by
  simp only [List.all_cons,Bool.and_eq_true]at hu;rw [e,List.any_cons,jT hu.2 h2]
  cases d with
  |one c=>obtain⟨c',rfl,hc⟩:=h1;rw [show go (.one c')=fc c' from rfl,oC hu.1 hc];rfl
  |agg cs=>obtain⟨c',rfl,hc⟩:=h1;rw [show go (.agg c')=c'.any fc from rfl,mG hu.1 hc];rfl
  |tup ts=>simp [my]at hu
theorem Ic(hG:GOk G E D0)(hD:D0<=n)(hr:Rel F ks V f h)(ht:ks.nx<=tag)(hn:ks.nx<=nid)(htM:tag<M)(hnM:nid<M){c:Call}{k:FuncId}{args:List KD}{en:cK}(hc:aB (.call c)=some c)(hres:jd F ks c=some (k,args))(hen:G.fn k=some en)(hs:zt F ks nid en args κ=some r):∃eff,κ eff=some r/\bF E n F ks V f h M tag nid (.call c) eff:=by
 have hM:ks.nx<=M:=by omega
 obtain⟨args',r1,r2,r3⟩:=mF hr hres
 have hmem:en∈G.fns/\en.k=k:=by
  unfold KG.fn at hen;have h2:=List.find?_some (p:=λe:cK=>Nat.beq e.k k) hen;exact⟨List.mem_of_find?_eq_some hen,Nat.eq_of_beq_eq_true h2⟩
 obtain⟨hd,hok⟩:=hG.fns en hmem.1
 have key:∃a out,gn (aj F ks) en.ins args=some a/\en.f a=some out/\κ (Lu nid en.out out)=some r/\(∀ts,en.out= .data false ts->args.all my=true)/\(∀e,en.out≠ .gown e):=by
  unfold zt at hs;split at hs
  .rename_i ts ho;split at hs
   .rename_i hu;simp only [zbE]at hs;obtain⟨a,g1,out,g2,g3⟩:=hs;exact⟨a,out,g1,g2,g3,λ_ _=>hu,λe h=>by rw [ho]at h;cases h⟩
   .simp at hs
  .simp at hs
  .rename_i ho ho2;simp only [zbE]at hs;obtain⟨a,g1,out,g2,g3⟩:=hs;exact⟨a,out,g1,g2,g3,λts h=>absurd h (ho ts),λe h=>absurd h (ho2 e)⟩
 obtain⟨a,out,g1,g2,g3,g4,g5⟩:=key;obtain⟨vs,v1,v2,v3⟩:=kV hr.bls g1 r3;have hrun:=hok (n - en.d) a out g2;rw [Nat.sub_add_cancel (by omega),hmem.2,<-v2]at hrun;refine⟨_,g3,?_⟩;obtain⟨ek,eins,eout,ef,ed⟩:=en;simp only at hrun g4 g5 ⊢
 cases eout with
 |data fr ts=>
  cases fr with
  |true=>exact ap ht hn htM (λq=>gP hc r1 v1 (fO hrun) rfl) (zF (re _ _ ts out)) (vN (mE (λ_=>rfl) ts out))
  |false=>
   obtain⟨fl,hrun⟩:=hrun;have hu:=jT (g4 ts rfl) r3
   cases fl with
   |true=>exact ap ht hn htM (λq=>gP hc r1 v1 (fO hrun) rfl) (zF (re _ _ ts out)) (vN (mE (λ_=>rfl) ts out))
   |false=>exact ap ht hn htM (λq=>gP hc r1 v1 (fO hrun) (by unfold AM;simp only [hu];rfl)) (zF (re _ _ ts out)) (vN (mE (fl:=vs.all (·.1)) (λh=>by simp at h) ts out))
 |own e=>
  refine io hM ht hn (λ_=>⟨trivial,by simp⟩) hnM (by simp) λq=> .inl ⟨trivial,_,_,gP hc r1 v1 (fO hrun) rfl,⟨_,rfl,?_⟩,?_,by simp⟩
  .rw [List.length_map];exact eA
  .rw [List.map_map];rfl
 |gown e=>exact absurd rfl (g5 e)
 |mown e=>
  cases out with
  |nil=>exact io hM ht hn (λ_=>⟨trivial,by simp⟩) hnM (by simp) λq=> .inr ⟨by simp [KB.there],_,gP hc r1 v1 (fO hrun) rfl,⟨_,rfl,de (k:=q)⟩⟩
  |cons y l=>
   refine io hM ht hn (λ_=>⟨trivial,by simp⟩) hnM (by simp) λq=> .inl ⟨by simp [KB.there],_,_,gP hc r1 v1 (fO hrun) rfl,⟨_,rfl,?_⟩,?_⟩
   .rw [List.length_map];exact de (k:=q)
   .rw [List.map_map];rfl
theorem tQ{c:Call}(hc:∀b,c.callee= .builtin b->False):aB (.call c)=some c:=by
 unfold aB;simp only
theorem rp(hG:GOk G E D0)(hD:D0<=n)(hr:Rel F ks V f h)(ht:ks.nx<=tag)(hn:ks.nx<=nid)(htM:tag<M)(hnM:nid<M)(hs:bp G F ks tag nid op κ=some r):∃eff,κ eff=some r/\bF E n F ks V f h M tag nid op eff:=by
 cases op with
 |move x=>exact AH hr ht hn htM (.inl rfl) hs
 |assign x=>exact AH hr ht hn htM (.inr rfl) hs
 |alloc t=>exact FJ hG ht hn htM hnM hs
 |box t x=>exact Ly hG hr ht hn htM hnM hs
 |build t parts=>exact FO hG hr ht hn htM hs
 |buildSlice t len parts=>exact BZ hG hr ht hn htM hnM hs
 |load t a=>exact HX hG hr ht hn htM hs
 |store t a x=>exact FH hG hr ht hn htM hs
 |binOp o t x y s=>exact LA hG hr ht hn htM hs
 |unOp o t x=>exact HZ hr ht hn htM hs
 |convert s t x=>exact zD hG hr ht hn htM hs
 |makeFunc fn a b=>exact xN hr ht hn htM hs
 |makeSlice t l c=>exact vK hG hr ht hn htM hnM hs
 |slice t x a b c=>exact FQ hG hr ht hn htM hs
 |fieldAddr t x m=>exact vI hG hr ht hn htM hs
 |field t x m=>exact FK hG hr ht hn htM hs
 |indexAddr t x i=>exact vL hG hr ht hn htM hs
 |index t x i=>exact FS hG hr ht hn htM hs
 |extract x i=>exact zC hr ht hn htM hs
 |call c=>
  simp only [bp]at hs;split at hs
  .rename_i b hc;simp only [zbE]at hs;obtain⟨args,g1,g2⟩:=hs;exact zE hG hr ht hn htM hnM hc g1 g2
  .rename_i hc;split at hs
   .rename_i k args hres;split at hs
    .rename_i en hen;exact Ic hG hD hr ht hn htM hnM (tQ hc) hres hen hs
    .simp at hs
   .simp at hs
 |_=>simp [bp]at hs
end
end K
end Ev
end
noncomputable section
namespace Ev
namespace K
open Go Go.RowKit
structure Ext(F:KF)(ks:KS)(V:Vl)(ks':KS)(V':Vl):Prop where
 nx:ks.nx<=ks'.nx
 agree:Agree ks.nx V V'
 le:LeB ks.nx (aj F ks) (aj F ks')
 dom:∀p,p<ks.nx->af ks.bl p=none->af ks'.bl p=none
theorem Ext.refl(F:KF)(ks:KS)(V:Vl):Ext F ks V ks V:=⟨Nat.le_refl _,Agree.refl _ _,LeB.refl _ _,λp hp h=>h⟩
theorem Ext.trans{F:KF}{ks ks' ks'':KS}{V V' V'':Vl}(h:Ext F ks V ks' V')(h':Ext F ks' V' ks'' V''):Ext F ks V ks'' V'':=
 ⟨Nat.le_trans h.nx h'.nx,h.agree.trans h'.agree h.nx,h.le.trans h'.le h.nx,λp hp hl=>h'.dom p (Nat.lt_of_lt_of_le hp h.nx) (h.dom p hp hl)⟩
def IF:Blk->Option (Nat×List (List C))
 | .own sz es=>some (sz,es)
 |_=>none
structure Ox(h:Heap)(u:List (Nat×Blk))(h':Heap):Prop where
 out:∀q,(∀x∈u,x.1≠q)->ai h' q=ai h q
 in_:∀x∈u,ai h' x.1=IF x.2
section
variable {E : Env} {n : Nat} {F : KF} {ks : KS} {V : Vl} {f : Nat → D} {h : Heap} {M tag nid : Nat} {op : Op} {G : KG} {D0 : Nat} {R : Type} {r : R}
theorem kX{B:BK}{k:Nat}{b:KB}(hb:RB B V h k b)(ht:b.there):∃z,ai h k=some z:=by
 cases b with
 |box cs=>obtain⟨sz,cs',h1,_⟩:=hb;exact⟨_,h1⟩
 |rows e ne l=>exact⟨_,hb.1⟩
 |mrows e l=>exact⟨_,hb ht⟩
 |dead=>exact ht.elim
theorem IG{B:BK}{k:Nat}{b:KB}{x:Blk}(hx:BlkIs B V x b)(hg:ai h k=IF x):RB B V h k b:=by
 cases b with
 |box cs=>obtain⟨sz,cs',rfl,h2⟩:=hx;exact⟨sz,cs',hg,h2⟩
 |rows e ne l=>obtain⟨rfl,h2⟩:=hx;exact⟨hg,h2⟩
 |mrows e l=>rw [show x=_ from hx]at hg;exact λ_=>hg
 |dead=>trivial
theorem rq{e:KE}{p:Nat}{b:KB}(hnew:∀b,e.new=some b->b≠ .dead)(hb:Be F ks nid e p=some b):(p=nid/\e.new=some b)∨(e.upd=some (p,b))∨((∀b',e.new=some b'->p≠nid)/\(∀q b',e.upd=some (q,b')->p≠q)/\aj F ks p=some b):=by
 have h1:∀p b,aj F {ks with bl:=blU e ks.bl} p=some b->(e.upd=some (p,b))∨((∀q b',e.upd=some (q,b')->p≠q)/\aj F ks p=some b):=by
  intro p b hb;unfold blU at hb
  cases hu:e.upd with
  |none=>rw [hu]at hb;exact .inr ⟨λq b' h=>by simp at h,hb⟩
  |some x=>
   obtain⟨q,b'⟩:=x;rw [hu]at hb;simp only at hb;by_cases hd:b'= .dead
   .subst hd;rw [tL]at hb;split at hb
    .simp at hb
    .rename_i hpq;exact .inr ⟨λq' b2 h=>by simp at h;obtain⟨rfl,rfl⟩:=h;exact hpq,hb⟩
   .rw [eY hd]at hb;split at hb
    .rename_i hpq;subst hpq;cases hb;exact .inl rfl
    .rename_i hpq;exact .inr ⟨λq' b2 h=>by simp at h;obtain⟨rfl,rfl⟩:=h;exact hpq,hb⟩
 unfold Be blE at hb
 cases hn:e.new with
 |none=>
  rw [hn]at hb;rcases h1 p b hb with h|h
  .exact .inr (.inl h)
  .exact .inr (.inr ⟨λb' h=>by simp at h,h.1,h.2⟩)
 |some b0=>
  rw [hn]at hb;simp only [eY (hnew b0 hn)]at hb;split at hb
  .rename_i hp;cases hb;exact .inl ⟨hp,rfl⟩
  .rename_i hp;rcases h1 p b hb with h|h
   .exact .inr (.inl h)
   .exact .inr (.inr ⟨λb' h=>hp,h.1,h.2⟩)
def upO(dst:Option Tmp)(v:D)(f:Nat->D):Nat->D:=
 match dst with
 |some d=>up f d v
 |none=>f
theorem rt(hr:Rel F ks V f h){e:KE}{dst:Option Tmp}{k:Nat}{bo:Bool}{v:D}{u:List (Nat×Blk)}{h':Heap}(ht:ks.nx<=tag)(hn:ks.nx<=nid)(htM:tag<M)(hnM:nid<M)(hdst:fk F dst=true)
  (hupd:∀p b,e.upd=some (p,b)->∃b0,af ks.bl p=some b0/\b0≠ .dead/\ScB ks.nx b/\b0.like b) (hnew:∀b,e.new=some b->ScB ks.nx b/\b≠ .dead) (hsc:ScD M (iA tag e.v))
  (hrd:RD (Be F ks nid e) (V.set nid k tag bo) (iA tag e.v) v) (hreal:FG (Be F ks nid e) (V.set nid k tag bo) V ks k e u) (hk:(∃b,e.new=some b)->ai h k=none) (hh:Ox h u h'):
  Rel F {zu dst tag nid e ks with nx:=M} (V.set nid k tag bo) (upO dst v f) h'/\Ext F ks V {zu dst tag nid e ks with nx:=M} (V.set nid k tag bo):=by
 have hM:ks.nx<=M:=by omega
 have hle:LeB ks.nx (aj F ks) (Be F ks nid e):=vE hn (λp b hb=>by obtain⟨b0,h1,h2,_,h4⟩:=hupd p b hb;exact⟨b0,h1,h2,h4⟩) (λb hb=>(hnew b hb).2);have hag:Agree ks.nx V (V.set nid k tag bo):=Vl.set_agree hn ht;obtain⟨uo,un,hu,huo,hun⟩:=hreal;have hblold:∀p b,aj F ks p=some b->p<ks.nx/\ScB ks.nx b/\RB (aj F ks) V h (V.id p) b:=hr.bl
 have hupdthere:∀p b,e.upd=some (p,b)->b.there->∃b0,aj F ks p=some b0/\b0.there:=by
  intro p b hb hth;obtain⟨b0,g1,g2,_,_⟩:=hupd p b hb;rw [hb]at huo;rcases huo with⟨x,_,_,h3⟩|⟨_,h2,_⟩
  .exact⟨b0,ah g1 g2,h3 b0 g1⟩
  .exact absurd hth h2
 -- a block that is there is not the new one
 have hnk:(∃b,e.new=some b)->∀p b,aj F ks p=some b->b.there->V.id p≠k:=by
  intro hex p b hb hth he;obtain⟨z,hz⟩:=kX (hblold p b hb).2.2 hth;rw [he,hk hex]at hz;simp at hz
 -- what is not turned
 have hkeep:∀p b,aj F ks p=some b->(∀q b',e.upd=some (q,b')->p≠q)->b.there->ai h' (V.id p)=ai h (V.id p):=by
  intro p b hb hq hth;refine hh.out _ λx hx=> ?_;rw [hu,List.mem_append]at hx;rcases hx with hx|hx
  .cases he:e.upd with
   |none=>rw [he]at huo;rw [show uo= []from huo]at hx;simp at hx
   |some y=>
    obtain⟨q,b'⟩:=y;rw [he]at huo;rcases huo with⟨y,h1,h2,h3⟩|⟨h1,_⟩
    .rw [h1,List.mem_singleton]at hx;subst hx;intro heq;obtain⟨b0,g1,g2,_,_⟩:=hupd q b' he;exact hq q b' he (hr.inj p q b b0 hb (ah g1 g2) hth (h3 b0 g1) heq.symm)
    .rw [h1]at hx;simp at hx
  .cases he:e.new with
   |none=>rw [he]at hun;rw [show un= []from hun]at hx;simp at hx
   |some b'=>
    rw [he]at hun;rcases hun with⟨y,h1,_⟩|⟨h1,_⟩
    .rw [h1,List.mem_singleton]at hx;subst hx;exact λheq=>hnk ⟨b',he⟩ p b hb hth heq.symm
    .rw [h1]at hx;simp at hx
 have hidold:∀p,p<ks.nx->(V.set nid k tag bo).id p=V.id p:=λp hp=>(hag p hp).1;refine⟨⟨?_,?_,?_⟩,⟨hM,hag,hle,?_⟩⟩
 .intro i d hd
  have hold:fT F ks i=some d->(∀j,dst=some j->i≠j)->i<F.nt/\ScD M d/\RD (Be F ks nid e) (V.set nid k tag bo) d (upO dst v f i):=by
   intro h1 h2;obtain⟨g1,g2,g3⟩:=hr.sl i d h1;refine⟨g1,g2.mono hM,?_⟩;have g4:=g3.mono g2 hle hag
   cases dst with
   |none=>exact g4
   |some j=>
    show RD _ _ d (up f j v i);unfold up
    have:=h2 j rfl
    rw [show Nat.beq i j=false by cases hb:Nat.beq i j with|true=>exact absurd (Nat.eq_of_beq_eq_true hb) this|false=>rfl];exact g4
  cases dst with
  |none=>exact hold hd (λj hj=>by simp at hj)
  |some j=>
   have hd':aH ((j,iA tag e.v)::ks.sl) F.sl i=some d:=hd;unfold aH at hd';rw [av]at hd';by_cases hij:i=j
   .subst hij;rw [if_pos rfl]at hd';cases hd';refine⟨by simpa [fk]using hdst,hsc,?_⟩;show RD _ _ _ (up f i v i);unfold up;rw [show Nat.beq i i=true from Nat.beq_refl i];exact hrd
   .rw [if_neg hij]at hd';exact hold hd' (λj' hj'=>by cases hj';exact hij)
 .intro p b hb;have hb':Be F ks nid e p=some b:=hb;rcases rq (λb hb=>(hnew b hb).2) hb' with⟨rfl,h1⟩|h1|⟨h1,h2,h3⟩
  .refine⟨hnM,((hnew b h1).1).mono hM,?_⟩;show RB (Be F ks p e) _ h' ((V.set p k tag bo).id p) b;rw [Vl.set_id];rw [h1]at hun;rcases hun with⟨x,g1,g2,g3⟩|⟨g1,g2⟩
   .exact IG g2 (hh.in_ (k,x) (by rw [hu,g1];simp))
   .cases b with
    |mrows e l=>exact λhl=>absurd hl g2
    |dead=>trivial
    |box cs=>exact absurd trivial g2
    |rows e ne l=>exact absurd trivial g2
  .obtain⟨b0,g1,g2,g3,g4⟩:=hupd p b h1;obtain⟨e1,e2,e3⟩:=hblold p b0 (ah g1 g2);refine⟨Nat.lt_of_lt_of_le e1 hM,g3.mono hM,?_⟩;show RB (Be F ks nid e) _ h' ((V.set nid k tag bo).id p) b;rw [hidold p e1];rw [h1]at huo;rcases huo with⟨x,k1,k2,k3⟩|⟨k1,k2,k3⟩
   .exact IG k2 (hh.in_ (V.id p,x) (by rw [hu,k1];simp))
   .cases b with
    |mrows e l=>exact λhl=>absurd hl k2
    |dead=>trivial
    |box cs=>exact absurd trivial k2
    |rows e ne l=>exact absurd trivial k2
  .obtain⟨e1,e2,e3⟩:=hblold p b h3;refine⟨Nat.lt_of_lt_of_le e1 hM,e2.mono hM,?_⟩;show RB (Be F ks nid e) _ h' ((V.set nid k tag bo).id p) b;rw [hidold p e1];have e4:=e3.mono e2 hle hag;by_cases hth:b.there
   .exact e4.heap (hkeep p b h3 h2 hth)
   .cases b with
    |mrows e l=>exact λhl=>absurd hl hth
    |dead=>trivial
    |box cs=>exact absurd trivial hth
    |rows e ne l=>exact absurd trivial hth
 .intro p q b b' hp hq tp tq hid
  have key:∀p b,Be F ks nid e p=some b->b.there->(p=nid/\(V.set nid k tag bo).id p=k/\∃b,e.new=some b)∨(p<ks.nx/\(V.set nid k tag bo).id p=V.id p/\∃b0,aj F ks p=some b0/\b0.there):=by
   intro p b hb hth;rcases rq (λb hb=>(hnew b hb).2) hb with⟨rfl,h1⟩|h1|⟨h1,h2,h3⟩
   .exact .inl ⟨rfl,Vl.set_id,b,h1⟩
   .obtain⟨b0,g1,g2⟩:=hupdthere p b h1 hth;exact .inr ⟨(hblold p b0 g1).1,hidold p (hblold p b0 g1).1,b0,g1,g2⟩
   .exact .inr ⟨(hblold p b h3).1,hidold p (hblold p b h3).1,b,h3,hth⟩
  rcases key p b hp tp with⟨rfl,e1,hx1⟩|⟨l1,e1,b0,g1,g2⟩
  .rcases key q b' hq tq with⟨rfl,e2,hx2⟩|⟨l2,e2,b1,g3,g4⟩
   .rfl
   .rw [e1,e2]at hid;exact absurd hid.symm (hnk hx1 q b1 g3 g4)
  .rcases key q b' hq tq with⟨rfl,e2,hx2⟩|⟨l2,e2,b1,g3,g4⟩
   .rw [e1,e2]at hid;exact absurd hid (hnk hx2 p b0 g1 g2)
   .rw [e1,e2]at hid;exact hr.inj p q b0 b1 g1 g3 g2 g4 hid
 .intro p hp hl;show af (blE e nid ks.bl) p=none
  have h1:af (blU e ks.bl) p=none:=by
   unfold blU
   cases hu':e.upd with
   |none=>exact hl
   |some x=>
    obtain⟨q,b'⟩:=x;obtain⟨b0,g1,_⟩:=hupd q b' hu';simp only [av];rw [if_neg (λhe=>by subst he;rw [g1]at hl;simp at hl)];exact hl
  unfold blE
  cases hn':e.new with
  |none=>exact h1
  |some b=>simp only [av];rw [if_neg (by omega)];exact h1
end
end K
end Ev
end
noncomputable section
namespace Ev
namespace K
open Go Go.RowKit
theorem kY:∀(u:List (Nat×Blk)) (h:Heap),(u.map (·.1)).Nodup->Ox h u (Ev.apply h u)
 | [],h,hn=>⟨λq _=>rfl,λx hx=>by simp at hx⟩
 |x::u,h,hn=>by
  rw [List.map_cons,List.nodup_cons]at hn;obtain⟨h1,h2⟩:=kY u (ak h x.1 x.2) hn.2;refine⟨λq hq=> ?_,λy hy=> ?_⟩
  .show ai (Ev.apply (ak h x.1 x.2) u) q=_;rw [h1 q (λy hy=>hq y (by simp [hy])),ec,if_neg (λe=>hq x (by simp) e.symm)]
  .show ai (Ev.apply (ak h x.1 x.2) u) y.1=_;rcases List.mem_cons.1 hy with rfl|hy
   .rw [h1 y.1 (λz hz he=>hn.1 (he▸List.mem_map_of_mem hz)),ec,if_pos rfl];rfl
   .exact h2 y hy
structure FX(F:KF)(ks:KS)(V:Vl)(h:Heap):Prop where
 bl:∀p b,aj F ks p=some b->p<ks.nx/\ScB ks.nx b/\RB (aj F ks) V h (V.id p) b
 inj:∀p q b b',aj F ks p=some b->aj F ks q=some b'->b.there->b'.there->V.id p=V.id q->p=q
def zG(E:Env)(n:Nat)(call:tF):Prop:=∀(R:Type) (F:KF) (k:FuncId) (args:List KD) (ks:KS) (κ:KD->KS->Option R) (r:R) (V:Vl) (h:Heap) (args':List D),call R F k args ks κ=some r->FX F ks V h->(∀d∈args,ScD ks.nx d)->RDl (aj F ks) V args args'->
 ∃n0 fi,n=n0+1/\E.fn k=some fi/\(E.ax k=some λ_=>none)/\args'.length<=fi.nt/\WpC E nY n0 fi.body (λe s=>(e= .normal∨e= .ret)/\∃ds,fi.results.mapM (bw E s)=some ds/\∃ks' V' v,κ v ks'=some r/\ScD ks'.nx v/\RD (aj F ks') V' v (fK ds)/\FX F ks' V' s.h/\Ext F ks V ks' V') {t:=tab fi.nt (fA args'),h:=h}
section
variable {E : Env} {y : Nat → cM} {n : Nat} {F : KF} {ks : KS} {V : Vl} {f : Nat → D} {h : Heap} {M tag nid : Nat} {op : Op} {G : KG} {D0 : Nat} {R : Type} {r : R}
theorem Rel.b(hr:Rel F ks V f h):FX F ks V h:=⟨hr.bl,hr.inj⟩
theorem Rel.heap{h':Heap}(hr:Rel F ks V f h)(hh:∀k,ai h' k=ai h k):Rel F ks V f h':=⟨hr.sl,λp b hb=>⟨(hr.bl p b hb).1,(hr.bl p b hb).2.1,(hr.bl p b hb).2.2.heap (hh _)⟩,hr.inj⟩
theorem ru{e:KE}{B':BK}{V':Vl}{k:Nat}{u:List (Nat×Blk)}(hr:Rel F ks V f h)(hupd:∀p b,e.upd=some (p,b)->∃b0,af ks.bl p=some b0/\b0≠ .dead/\ScB ks.nx b/\b0.like b)(hreal:FG B' V' V ks k e u)(hk:ai h k=none):(u.map (·.1)).Nodup:=by
 obtain⟨uo,un,rfl,huo,hun⟩:=hreal
 have h2:un= []∨∃x,un= [(k,x)]:=by
  cases he:e.new with
  |none=>rw [he]at hun;exact .inl hun
  |some b=>rw [he]at hun;rcases hun with⟨x,h1,_⟩|⟨h1,_⟩;exact .inr ⟨x,h1⟩;exact .inl h1
 have h1:uo= []∨∃p x,uo= [(V.id p,x)]/\V.id p≠k:=by
  cases he:e.upd with
  |none=>rw [he]at huo;exact .inl huo
  |some z=>
   obtain⟨p,b⟩:=z;rw [he]at huo;rcases huo with⟨x,g1,g2,g3⟩|⟨g1,_⟩
   .obtain⟨b0,k1,k2,_,_⟩:=hupd p b he;obtain⟨w,hw⟩:=kX (hr.bl p b0 (ah k1 k2)).2.2 (g3 b0 k1);exact .inr ⟨p,x,g1,λheq=>by rw [heq,hk]at hw;simp at hw⟩
   .exact .inl g1
 rcases h1 with rfl|⟨p,x,rfl,hp⟩
 .rcases h2 with rfl|⟨y,rfl⟩<;>simp
 .rcases h2 with rfl|⟨y,rfl⟩
  .simp
  .simp [hp]
theorem mH{α β:Type}(g:α->β):∀(l:List (Nat×α)) (i:Nat),af (l.map λx=>(x.1,g x.2)) i=(af l i).map g
 | [],i=>rfl
 |x::l,i=>by
  show cond (Nat.beq x.1 i) (some (g x.2)) (af (l.map λx=>(x.1,g x.2)) i)=(cond (Nat.beq x.1 i) (some x.2) (af l i)).map g
  cases Nat.beq x.1 i with
  |true=>rfl
  |false=>exact mH g l i
theorem iq{tag:Nat}{v:Bool}{p:Nat}:aj F (subst tag v ks) p=aj F ks p∨∃cs,aj F ks p=some (.box cs)/\aj F (subst tag v ks) p=some (.box (cs.map (je tag v))):=by
 unfold aj aH subst;simp only [mH]
 cases hl:af ks.bl p with
 |none=>exact .inl rfl
 |some b=>
  cases b with
  |box cs=>exact .inr ⟨cs,rfl,rfl⟩
  |rows e ne l=>exact .inl rfl
  |mrows e l=>exact .inl rfl
  |dead=>exact .inl rfl
theorem Cb{tag:Nat}{v:Bool}{N:Nat}:LeB N (aj F ks) (aj F (subst tag v ks)):=λp hp=>by
 rcases iq (F:=F) (ks:=ks) (tag:=tag) (v:=v) (p:=p)with h1|⟨cs,h1,h2⟩
 .rw [h1];exact⟨λe ne l h=>⟨e,ne,l,h,rfl⟩,λe l h=>⟨e,l,h,rfl⟩⟩
 .rw [h2];exact⟨λe ne l h=>by simp at h,λe l h=>by simp at h⟩
theorem rx{B:BK}{tag:Nat}{v:Bool}(hv:V.bo tag=v){c:KC}{x:C}(hr:RC B V c x):RC B V (je tag v c) x:=by
 cases c with
 |p t P d=>
  show RC B V (cond (Nat.beq t tag) (.b v) (.p t P d)) x
  cases hb:Nat.beq t tag with
  |true=>
   have:=Nat.eq_of_beq_eq_true hb
   subst this;show x=bC v;rw [hr.1,hv]
  |false=>exact hr
 |_=>exact hr
theorem tR{N tag:Nat}{v:Bool}{c:KC}(hs:Sc N c):Sc N (je tag v c):=by
 cases c with
 |p t P d=>
  show Sc N (cond (Nat.beq t tag) (.b v) (.p t P d))
  cases Nat.beq t tag with
  |true=>trivial
  |false=>exact hs
 |_=>exact hs
theorem ji{B:BK}{tag:Nat}{v:Bool}(hv:V.bo tag=v):∀{cs:List KC} {xs:List C},RCs B V cs xs->RCs B V (cs.map (je tag v)) xs
 | [],xs,h=>h
 |c::cs,xs,⟨x,s,e,h1,h2⟩=>⟨x,s,e,rx hv h1,ji hv h2⟩
theorem ry{N tag:Nat}{v:Bool}{cs:List KC}(hs:Scs N cs):Scs N (cs.map (je tag v)):=λc hc=>by
 obtain⟨c0,h1,rfl⟩:=List.mem_map.1 hc;exact tR (hs c0 h1)
theorem tS{tag:Nat}{v:Bool}(hv:V.bo tag=v)(hr:Rel F ks V f h):Rel F (subst tag v ks) V f h/\Ext F ks V (subst tag v ks) V:=by
 have hle:∀N,LeB N (aj F ks) (aj F (subst tag v ks)):=λN=>Cb;refine⟨⟨?_,?_,?_⟩,⟨Nat.le_refl _,Agree.refl _ _,hle _,λp hp hl=>by show af (ks.bl.map λx=>(x.1,Fz tag v x.2)) p=none;rw [mH,hl];rfl⟩⟩
 .intro i d hd;unfold fT aH subst at hd;simp only [mH]at hd
  cases hl:af ks.sl i with
  |none=>
   rw [hl]at hd;obtain⟨g1,g2,g3⟩:=hr.sl i d (by unfold fT aH;rw [hl];exact hd);exact⟨g1,g2,g3.mono g2 (hle _) (Agree.refl _ _)⟩
  |some d0=>
   rw [hl]at hd;cases hd;obtain⟨g1,g2,g3⟩:=hr.sl i d0 (by unfold fT aH;rw [hl]);have g4:=g3.mono g2 (hle _) (Agree.refl _ _)
   cases d0 with
   |one c=>obtain⟨c',e1,e2⟩:=g4;exact⟨g1,tR g2,c',e1,rx hv e2⟩
   |agg cs=>obtain⟨c',e1,e2⟩:=g4;exact⟨g1,ry g2,c',e1,ji hv e2⟩
   |tup ts=>exact⟨g1,g2,g4⟩
 .intro p b hb;rcases iq (F:=F) (ks:=ks) (tag:=tag) (v:=v) (p:=p)with h1|⟨cs,h1,h2⟩
  .rw [h1]at hb;obtain⟨g1,g2,g3⟩:=hr.bl p b hb;exact⟨g1,g2,g3.mono g2 (hle _) (Agree.refl _ _)⟩
  .rw [h2]at hb;cases hb;obtain⟨g1,g2,g3⟩:=hr.bl p _ h1;obtain⟨sz,cs',e1,e2⟩:=g3.mono g2 (hle _) (Agree.refl _ _);exact⟨g1,ry g2,sz,cs',e1,ji hv e2⟩
 .intro p q b b' hp hq tp tq hid
  have key:∀p b,aj F (subst tag v ks) p=some b->b.there->∃b0,aj F ks p=some b0/\b0.there:=by
   intro p b hb ht;rcases iq (F:=F) (ks:=ks) (tag:=tag) (v:=v) (p:=p)with h1|⟨cs,h1,h2⟩
   .exact⟨b,h1▸hb,ht⟩
   .exact⟨_,h1,trivial⟩
  obtain⟨b0,g1,g2⟩:=key p b hp tp;obtain⟨b1,g3,g4⟩:=key q b' hq tq;exact hr.inj p q b0 b1 g1 g3 g2 g4 hid
def Th(F:KF)(ks ks':KS):Prop:=∀p b,aj F ks' p=some b->b.there->∃b0,aj F ks p=some b0/\b0.there
theorem Th.refl(F:KF)(ks:KS):Th F ks ks:=λp b h t=>⟨b,h,t⟩
theorem Th.trans{ks' ks'':KS}(h:Th F ks ks')(h':Th F ks' ks''):Th F ks ks'':=λp b hb ht=>let⟨b0,g1,g2⟩:=h' p b hb ht;h p b0 g1 g2
theorem Th.subst{tag:Nat}{v:Bool}:Th F ks (K.subst tag v ks):=λp b hb ht=>by
 rcases iq (F:=F) (ks:=ks) (tag:=tag) (v:=v) (p:=p)with h1|⟨cs,h1,h2⟩
 .exact⟨b,h1▸hb,ht⟩
 .exact⟨_,h1,trivial⟩
theorem vO{κ:Bool->KS->Option R}{c:KC}{c':C}(hr:Rel F ks V f h)(hc:RC (aj F ks) V c c')(hs:kIf c ks κ=some r):∃b ks',κ b ks'=some r/\c'=bC b/\Rel F ks' V f h/\Ext F ks V ks' V/\Th F ks ks':=by
 unfold kIf at hs;split at hs
 .exact⟨_,ks,hs,hc,hr,Ext.refl _ _ _,Th.refl _ _⟩
 .rename_i tag P d;by_cases hP:P
  .rw [if_pos hP]at hs;have hb:V.bo tag=true:=by rw [hc.2,decide_eq_true hP]
   obtain⟨g1,g2⟩:=tS hb hr;exact⟨true,_,hs,by rw [hc.1,hb],g1,g2,Th.subst⟩
  .rw [if_neg hP]at hs;have hb:V.bo tag=false:=by rw [hc.2,decide_eq_false hP]
   obtain⟨g1,g2⟩:=tS hb hr;exact⟨false,_,hs,by rw [hc.1,hb],g1,g2,Th.subst⟩
 .rename_i x
  cases x with
  |true=>exact⟨true,ks,hs,hc,hr,Ext.refl _ _ _,Th.refl _ _⟩
  |false=>exact⟨false,ks,hs,hc,hr,Ext.refl _ _ _,Th.refl _ _⟩
 .simp at hs
theorem LE{κ:Bool->KS->Option R}{c:KC}{c':C}(hr:Rel F ks V f h)(hc:RC (aj F ks) V c c')(hs:kIf c ks κ=some r):∃b ks',κ b ks'=some r/\c'=bC b/\Rel F ks' V f h/\Ext F ks V ks' V:=let⟨b,ks',h1,h2,h3,h4,_⟩:=vO hr hc hs;⟨b,ks',h1,h2,h3,h4⟩
theorem tT{κ:Bool->KS->Option R}{ops:Array Oper}{o:Oper}(hr:Rel F ks V f h)(hs:tE F ops.toList o ks κ=some r):∃b ks',κ b ks'=some r/\cv ops o F.nt f=some b/\fk F o.dst=true/\Rel F ks' V f h/\Ext F ks V ks' V/\Th F ks ks':=by
 unfold tE at hs
 cases hd:fk F o.dst with
 |false=>rw [hd]at hs;simp at hs
 |true=>
  rw [hd]at hs;simp only [cond_true]at hs;split at hs
  .rename_i hg;exact⟨true,ks,hs,by unfold cv;rw [hg],rfl,hr,Ext.refl _ _ _,Th.refl _ _⟩
  .rename_i j w hg;split at hs
   .rename_i d hdd
    have hov:∀x,fT F ks d=some x->ov F.nt f (.tmp d)=some (f d):=λx hx=>by
     show cond (Nat.blt d F.nt) (some (f d)) none=_;rw [zA (hr.sl d x hx).1];rfl
    split at hs
    .rename_i c hx;obtain⟨c',e1,e2⟩:=(hr.sl d _ hx).2.2;obtain⟨b,ks',g1,rfl,g3,g4⟩:=vO hr e2 hs;refine⟨b==w,ks',g1,?_,rfl,g3,g4⟩;unfold cv;rw [hg];simp only [hdd,hov _ hx,e1];rfl
    .rename_i hx;obtain⟨ds,e1,e2⟩:=(hr.sl d _ hx).2.2;refine⟨false,ks,hs,?_,rfl,hr,Ext.refl _ _ _,Th.refl _ _⟩;unfold cv;rw [hg];simp only [hdd,hov _ hx,e1,show ds= []from e2];rfl
    .simp at hs
   .simp at hs
theorem xP{κ:Bool->KS->Option R}{ops:Array Oper}{o:Oper}(hr:Rel F ks V f h)(hs:tE F ops.toList o ks κ=some r):∃b ks',κ b ks'=some r/\cv ops o F.nt f=some b/\fk F o.dst=true/\Rel F ks' V f h/\Ext F ks V ks' V:=let⟨b,ks',h1,h2,h3,h4,h5,_⟩:=tT hr hs;⟨b,ks',h1,h2,h3,h4,h5⟩
theorem tU{κ:Op->KS->Option R}{op:Op}(hr:Rel F ks V f h)(hs:tD F op ks κ=some r):∃op' ks',κ op' ks'=some r/\(∀nid H,stepG E (cpR E n) none nid op (ar (tab F.nt f)) H=stepG E (cpR E n) none nid op' (ar (tab F.nt f)) H)/\aB op=aB op'/\Rel F ks' V f h/\Ext F ks V ks' V/\Th F ks ks':=by
 unfold tD at hs;split at hs
 .rename_i c a b;split at hs
  .rename_i c0 hc;obtain⟨d,d1,d2,c',rfl,d3⟩:=aO hr hc;obtain⟨t,ks',g1,rfl,g3,g4⟩:=vO hr d3 hs;refine⟨_,ks',g1,λnid H=> ?_,rfl,g3,g4⟩;rw [yW,EK,aQ,d1,aQ,aQ,aQ];cases t<;>rfl
  .simp at hs
 .exact⟨op,ks,hs,λ_ _=>rfl,rfl,hr,Ext.refl _ _ _,Th.refl _ _⟩
theorem xQ{κ:Op->KS->Option R}{op:Op}(hr:Rel F ks V f h)(hs:tD F op ks κ=some r):∃op' ks',κ op' ks'=some r/\(∀nid H,stepG E (cpR E n) none nid op (ar (tab F.nt f)) H=stepG E (cpR E n) none nid op' (ar (tab F.nt f)) H)/\aB op=aB op'/\Rel F ks' V f h/\Ext F ks V ks' V:=let⟨b,ks',h1,h2,h3,h4,h5,_⟩:=tU hr hs;⟨b,ks',h1,h2,h3,h4,h5⟩
theorem xR{ops:Array Oper}{o:Oper}{rr:List Oper}{K:St->Prop}{d nt:Nat}{c:Call}{k:FuncId}{args:List D}{fi:FI}{H:Heap}(hw:cv ops o nt f=some true)(hc:aB o.op=some c)(hr:bh c (ov nt f)=some (k,args))(hu:E.ax k=some λ_=>none)(hf:E.fn k=some fi)(hl:args.length<=fi.nt)(hd:o.dst=some d)(hn:Nat.blt d nt=true)
  (h:WpC E nY n fi.body (Iz E y (n+1) nt ops rr K f d fi.results) {t:=tab fi.nt (fA args),h:=H}):fZ E y (n+1) ops (o::rr) K {t:=tab nt f,h:=H}:=by
 obtain⟨e,s',⟨M,h1⟩,h2,ds,h3,h4⟩:=h;refine tc (s1:={t:=tab nt (up f d (fK ds)),h:=s'.h}) ⟨M,λm hm=> ?_⟩ h4;unfold AR
 have hs:step E (bI E y m (n+1)).1 ops H.length o (ar (tab nt f)) H=none:=by
  rw [BN hw hc];unfold fg;rw [dA,hr];simp only [zbB,zbS]
  cases args.mapM (br H)with
  |none=>rfl
  |some vs=>
   have hn:(bI E y m (n+1)).1 k (vs.map (·.2))=none:=by
    show(match E.ax k with
     |some F=>F _
     |none=>_)=none
    rw [hu]
   simp only [zbS,hn];rfl
 simp only;rw [hs];have hev:=h1 m hm
 have hsc:zO (bI E y m (n+1)).2 ops o {t:=tab nt f,h:=H}=some {t:=tab nt (up f d (fK ds)),h:=s'.h}:=by
  unfold zO;rw [ot hw];simp only [zbB,zbS,if_true,hc]
  have hr':bh c (opnd (tab nt f))=some (k,args):=by
   show bh c (am (ar (tab nt f)))=_;rw [dA];exact hr
  rw [hr']
  have hcall:(bI E y m (n+1)).2.f k args H=some (fK ds,s'.h):=by
   show((E.fn k).bind λf=>(ub E (aC E m n).1 ⟨(aC E m n).2.1,(aC E m n).2.2,noY⟩ m f args H).bind λx=>some (fK x.1,x.2))=_;rw [hf];simp only [zbS]
   have:ub E (aC E m n).1 ⟨(aC E m n).2.1,(aC E m n).2.2,noY⟩ m fi args H=some (ds,s'.h):=by
    unfold ub;rw [Lm hl];simp only [bI]at hev;rw [hev];rcases h2 with rfl|rfl<;>simp [h3]
   rw [this];rfl
  simp only [zbS,hcall,hd,iH,ml,cV hn,if_true,pc,fy]
 rw [hsc];rfl
theorem xS{n0:Nat}{ops:Array Oper}{o:Oper}{rr:List Oper}{K:St->Prop}{d nt:Nat}{c:Call}{k:FuncId}{args:List D}{fi:FI}{H:Heap}(hn0:n=n0+1)(hw:cv ops o nt f=some true)(hc:aB o.op=some c)(hr:bh c (ov nt f)=some (k,args))(hu:E.ax k=some λ_=>none)(hf:E.fn k=some fi)(hl:args.length<=fi.nt)(hd:o.dst=some d)(hn:Nat.blt d nt=true)
  (h:WpC E nY n0 fi.body (Iz E y n nt ops rr K f d fi.results) {t:=tab fi.nt (fA args),h:=H}):fZ E y n ops (o::rr) K {t:=tab nt f,h:=H}:=by
 subst hn0;exact xR hw hc hr hu hf hl hd hn h
def Post(F:KF)(ks:KS)(V:Vl)(κ:KS->Option R)(r:R)(s:St):Prop:=∃ks' V' f',s.t=tab F.nt f'/\Rel F ks' V' f' s.h/\κ ks'=some r/\Ext F ks V ks' V'
theorem Post.ext{κ:KS->Option R}{ks1:KS}{V1:Vl}{s:St}(he:Ext F ks V ks1 V1)(h:Post F ks1 V1 κ r s):Post F ks V κ r s:=let⟨ks',V',f',h1,h2,h3,h4⟩:=h;⟨ks',V',f',h1,h2,h3,he.trans h4⟩
theorem jA{ops:Array Oper}{l:List Oper}{K K':St->Prop}{s:St}(h:fZ E y n ops l K s)(hk:∀s,K s->K' s):fZ E y n ops l K' s:=let⟨s',h1,h2⟩:=h;⟨s',h1,hk _ h2⟩
theorem rz{dst:Option Tmp}(hr:Rel F ks V f h)(hd:fk F dst=true):Rel F (tC dst ks) V (upO dst aX f) h/\Ext F ks V (tC dst ks) V:=by
 refine⟨⟨?_,hr.bl,hr.inj⟩,⟨Nat.le_refl _,Agree.refl _ _,LeB.refl _ _,λp hp hl=>hl⟩⟩;intro i d hd'
 cases dst with
 |none=>exact hr.sl i d hd'
 |some j=>
  have h1:aH ((j,kUn)::ks.sl) F.sl i=some d:=hd';unfold aH at h1;rw [av]at h1;show i<F.nt/\_/\RD _ _ d (up f j aX i);unfold up;by_cases hij:i=j
  .subst hij;rw [if_pos rfl]at h1;cases h1;rw [show Nat.beq i i=true from Nat.beq_refl i];exact⟨by simpa [fk]using hd,(λx hx=>by simp at hx),[],rfl,rfl⟩
  .rw [if_neg hij]at h1;rw [show Nat.beq i j=false by cases hb:Nat.beq i j with|true=>exact absurd (Nat.eq_of_beq_eq_true hb) hij|false=>rfl];exact hr.sl i d h1
theorem Cc{ops:Array Oper}{o:Oper}{rr:List Oper}{K:St->Prop}(hw:cv ops o F.nt f=some false)(hd:fk F o.dst=true)(hk:fZ E y n ops rr K {t:=tab F.nt (upO o.dst aX f),h:=h}):fZ E y n ops (o::rr) K {t:=tab F.nt f,h:=h}:=by
 obtain⟨g,g1,g2⟩:=cC hw
 cases ho:o.dst with
 |none=>rw [ho]at hk;exact tl g1 ho (eo g2) (eT _) hk
 |some d=>
  rw [ho]at hk hd;exact gK g1 ho (cV (by simpa [fk]using hd)) (eo g2) (eT _) (by rw [fy];exact hk)
theorem Id{ops:Array Oper}{o:Oper}{rr:List Oper}{K:St->Prop}{v:D}{u:List (Nat×Blk)}(hw:cv ops o F.nt f=some true)(hd:fk F o.dst=true)(hs:stepG E (cpR E n) none h.length o.op (ar (tab F.nt f)) h=some ⟨v,u⟩)(hk:fZ E y n ops rr K {t:=tab F.nt (upO o.dst v f),h:=Ev.apply h u}):fZ E y n ops (o::rr) K {t:=tab F.nt f,h:=h}:=by
 obtain⟨g,g1,g2⟩:=cC hw
 cases ho:o.dst with
 |none=>rw [ho]at hk;exact tl g1 ho ((dC g2).trans hs) rfl hk
 |some d=>
  rw [ho]at hk hd;exact gK g1 ho (cV (by simpa [fk]using hd)) ((dC g2).trans hs) rfl (by rw [fy];exact hk)
theorem rA:ai h h.length=none:=by
 unfold ai;rw [List.getElem?_eq_none (Nat.le_refl _)]
theorem mI(hG:GOk G E D0)(hD:D0<=n){call:tF}(hcall:zG E n call){ops:Array Oper}{κ:KS->Option R}:∀(l:List Oper) {ks:KS} {V:Vl} {f:Nat->D} {h:Heap},sf G call F ops.toList κ l ks=some r->Rel F ks V f h->fZ E y n ops l (Post F ks V κ r) {t:=tab F.nt f,h:=h}
 | [],ks,V,f,h,hs,hr=>xj ⟨ks,V,f,rfl,hr,hs,Ext.refl _ _ _⟩
 |o::l,ks,V,f,h,hs,hr=>by
  unfold sf at hs;obtain⟨b,ks1,g1,g2,g3,g4,g5⟩:=xP hr hs
  cases b with
  |false=>
   simp only [cond_false]at g1;obtain⟨k1,k2⟩:=rz g4 g3;exact Cc g2 g3 (jA (mI hG hD hcall l g1 k1) λs hs=>hs.ext (g5.trans k2))
  |true=>
   simp only [cond_true]at g1;obtain⟨op',ks2,k1,k2,k3,k4,k5⟩:=xQ (E:=E) (n:=n) g4 g1;split at k1
   ·-- followed
    rename_i k args hfol;split at k1
    .rename_i d hd;unfold qX at hfol;split at hfol
     .rename_i c;split at hfol
      .simp at hfol
      .rename_i hcal;split at hfol
       .rename_i k' args' hres;split at hfol
        .rename_i fi0 hfi;simp only [zsI,Prod.mk.injEq]at hfol;obtain⟨rfl,rfl⟩:=hfol;obtain⟨zas,r1,r2,r3⟩:=mF k4 hres;obtain⟨n0,fi,hn0,e1,e2,e3,e4⟩:=hcall R F k' args' ks2 _ r V h zas k1 k4.b r2 r3;have hdn:Nat.blt d F.nt=true:=by rw [hd]at g3;simpa [fk]using g3
         refine xS hn0 g2 (k3.trans (tQ hcal)) r1 e2 e1 e3 hd hdn (e4.mono λe s hs=> ?_);obtain⟨q1,ds,q2,ks',V',v,q3,q4,q5,q6,q7⟩:=hs;refine⟨q1,ds,q2,?_⟩
         have hrel:Rel F {ks' with sl:=(d,v)::ks2.sl} V' (up f d (fK ds)) s.h:=by
          refine⟨?_,q6.bl,q6.inj⟩;intro i x hx;have h1:aH ((d,v)::ks2.sl) F.sl i=some x:=hx;unfold aH at h1;rw [av]at h1;unfold up;by_cases hij:i=d
          .subst hij;rw [if_pos rfl]at h1;cases h1;rw [show Nat.beq i i=true from Nat.beq_refl i];exact⟨by simpa using hdn,q4,q5⟩
          .rw [if_neg hij]at h1;rw [show Nat.beq i d=false by cases hb:Nat.beq i d with|true=>exact absurd (Nat.eq_of_beq_eq_true hb) hij|false=>rfl];obtain⟨w1,w2,w3⟩:=k4.sl i x h1;exact⟨w1,w2.mono q7.nx,w3.mono w2 q7.le q7.agree⟩
         exact jA (mI hG hD hcall l q3 hrel) λs hs=>hs.ext (g5.trans (k5.trans (q7.trans (show Ext F ks' V' {ks' with sl:=(d,v)::ks2.sl} V' from⟨Nat.le_refl _,Agree.refl _ _,LeB.refl _ _,λp hp hl=>hl⟩))))
        .simp at hfol
       .simp at hfol
     .simp at hfol
    .simp at k1
   .obtain⟨e,e1,e2⟩:=rp (M:=ks2.nx+2) hG hD k4 (Nat.le_refl _) (Nat.le_succ _) (by omega) (by omega) k1;obtain⟨bo,hrun⟩:=e2.run;obtain⟨v,u,s1,s2,s3⟩:=hrun h.length;obtain⟨w1,w2⟩:=rt (M:=ks2.nx+2) k4 (Nat.le_refl _) (Nat.le_succ _) (by omega) (by omega) g3 e2.upd e2.new e2.sc s2 s3 (λ_=>rA) (kY u h (ru k4 e2.upd s3 rA));exact Id g2 g3 ((k2 _ _).trans s1) (jA (mI hG hD hcall l e1 w1) λs hs=>hs.ext (g5.trans (k5.trans w2)))
theorem jB(hG:GOk G E D0)(hD:D0<=n){ops:Array Oper}{κ:KS->Option R}{b:Nat}:∀(l:List Oper) (i:Nat) {ks:KS} {V:Vl} {f:Nat->D},jf G F ops.toList κ l ks=some r->Rel F ks V f h->bm (λt=>Post F ks V κ r {t,h}) (evR E (cpR E n) ops h b i l (tab F.nt f))
 | [],i,ks,V,f,hs,hr=>⟨ks,V,f,rfl,hr,hs,Ext.refl _ _ _⟩
 |o::l,i,ks,V,f,hs,hr=>by
  unfold jf at hs;obtain⟨bb,ks1,g1,g2,g3,g4,g5⟩:=xP hr hs;obtain⟨g,gg1,gg2⟩:=cC g2
  cases bb with
  |false=>
   simp only [cond_false]at g1;obtain⟨k1,k2⟩:=rz g4 g3;have ih:=jB (b:=b) hG hD l (i+1) g1 k1
   have ih':bm (λt=>Post F ks V κ r {t,h}) (evR E (cpR E n) ops h b (i+1) l (tab F.nt (upO o.dst aX f))):=by
    revert ih
    cases evR E (cpR E n) ops h b (i+1) l (tab F.nt (upO o.dst aX f))with
    |none=>exact id
    |some t=>exact λhp=>hp.ext (g5.trans k2)
   cases ho:o.dst with
   |none=>rw [ho]at ih';exact EG gg1 ho (eo gg2) ih'
   |some d=>
    rw [ho]at ih' g3;exact An gg1 ho (cV (by simpa [fk]using g3)) (eo gg2) (by rw [fy];exact ih')
  |true=>
   simp only [cond_true]at g1;obtain⟨op',ks2,k1,k2,k3,k4,k5⟩:=xQ (E:=E) (n:=n) g4 g1;obtain⟨e,e1,e2⟩:=rp (M:=ks2.nx+2) hG hD k4 (Nat.le_refl _) (Nat.le_succ _) (by omega) (by omega) k1;obtain⟨bo,hrun⟩:=e2.run;obtain⟨v,u,s1,s2,s3⟩:=hrun (b+i);split at e1
   .rename_i hu hn
    have hu0:u= []:=by
     obtain⟨uo,un,h1,h2,h3⟩:=s3;rw [hu]at h2;rw [hn]at h3;rw [h1,show uo= []from h2,show un= []from h3];rfl
    subst hu0
    -- nothing is made:any new number serves
    obtain⟨v',u',t1,t2,t3⟩:=hrun h.length
    have hu1:u'= []:=by
     obtain⟨uo,un,h1,h2,h3⟩:=t3;rw [hu]at h2;rw [hn]at h3;rw [h1,show uo= []from h2,show un= []from h3];rfl
    subst hu1;obtain⟨w1,w2⟩:=rt (M:=ks2.nx+2) k4 (Nat.le_refl _) (Nat.le_succ _) (by omega) (by omega) g3 e2.upd e2.new e2.sc (k:=b+i) s2 s3 (h:=h) (h':=h) (λ⟨b,hb⟩=>by rw [hn]at hb;simp at hb) ⟨λq _=>rfl,λx hx=>by simp at hx⟩;have ih:=jB (b:=b) hG hD l (i+1) e1 w1
    have ih':bm (λt=>Post F ks V κ r {t,h}) (evR E (cpR E n) ops h b (i+1) l (tab F.nt (upO o.dst v f))):=by
     revert ih
     cases evR E (cpR E n) ops h b (i+1) l (tab F.nt (upO o.dst v f))with
     |none=>exact id
     |some t=>exact λhp=>hp.ext (g5.trans (k5.trans w2))
    have hst:=(dC gg2).trans ((k2 (b+i) h).trans s1)
    cases ho:o.dst with
    |none=>rw [ho]at ih';exact EG gg1 ho hst ih'
    |some d=>
     rw [ho]at ih' g3;exact An gg1 ho (cV (by simpa [fk]using g3)) hst (by rw [fy];exact ih')
   .simp at e1
end
end K
end Ev
end
end Go.Proofs.Ytjjbpdldbdmoeaa
