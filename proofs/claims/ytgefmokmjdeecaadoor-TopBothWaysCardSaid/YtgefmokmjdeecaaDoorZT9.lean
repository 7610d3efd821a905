/- Texts of a claim, joined. -/
import Derived.Test.YtgefmokmjdeecaaDoorZT8
import Derived.Test.YtgefmokmjdeecaaDoorProg
set_option linter.unusedVariables false
set_option linter.unusedSimpArgs false
namespace Go.Proofs.YtgefmokmjdeecaaDoor
noncomputable section
namespace Ev
namespace K
open Go Go.RowKit
theorem FU{ids:List Nat}{p:Nat}(h:(!(ids.any (Nat.beq p)))=true):p ∉ ids:=by
 intro hp
 have:ids.any (Nat.beq p)=true:=List.any_eq_true.2 ⟨p,hp,Nat.beq_refl p⟩
 rw [this]at h;simp at h
theorem Qw{e:KE}{nid p:Nat}{bl bl':List (Nat×KB)}(h:aC bl p=aC bl' p):aC (blE e nid bl) p=aC (blE e nid bl') p:=by
 have h1:aC (blU e bl) p=aC (blU e bl') p:=by
  unfold blU
  cases e.upd with
  |none=>exact h
  |some x=>show aC ((x.1,x.2)::bl) p=aC ((x.1,x.2)::bl') p;rw [bq,bq,h]
 unfold blE
 cases e.new with
 |none=>exact h1
 |some b=>simp only [bq,h1]
section free
variable {B B' : BK} {V : Vl} {ids : List Nat} (hb : ∀ p, p ∉ ids → B' p = B p)
include hb
theorem RC.free{c:KC}{x:C}(hf:xB ids c=true)(h:RC B V c x):RC B' V c x:=by
 cases c with
 |o e p=>intro e' ne l hl;rw [hb p (FU (ids:=ids) (p:=p) hf)]at hl;exact h e' ne l hl
 |m e p=>intro e' l hl;rw [hb p (FU (ids:=ids) (p:=p) hf)]at hl;exact h e' l hl
 |_=>exact h
theorem RCs.free:∀{l:List KC} {xs:List C},l.all (xB ids)=true→RCs B V l xs→RCs B' V l xs
 | [],xs,hf,h=>h
 |c::l,xs,hf,⟨x,s,e,h1,h2⟩=>by
  rw [List.all_cons,Bool.and_eq_true]at hf;exact⟨x,s,e,RC.free hb hf.1 h1,RCs.free hf.2 h2⟩
theorem RD1.free{k:KD}{d:D}(hf:Av ids k=true)(h:RD1 B V k d):RD1 B' V k d:=by
 cases k with
 |one c=>obtain⟨c',h1,h2⟩:=h;exact⟨c',h1,RC.free hb hf h2⟩
 |agg cs=>obtain⟨c',h1,h2⟩:=h;exact⟨c',h1,RCs.free hb hf h2⟩
 |tup ts=>exact h
omit hb in
theorem Qx{x:Bool×List KC}(hf:x.2.all (xB ids)=true):Av ids (mkD x)=true:=by
 obtain⟨b,cs⟩:=x
 cases b with
 |true=>exact hf
 |false=>match cs,hf with
  | [],hf=>exact hf
  | [c],hf=>simpa [mkD,Av]using hf
  |c::d::r,hf=>exact hf
theorem RTs.free:∀{l:List (Bool×List KC)} {xs:List D},(l.all fun x=>x.2.all (xB ids))=true→RTs B V l xs→RTs B' V l xs
 | [],xs,hf,h=>h
 |c::l,xs,hf,⟨x,s,e,h1,h2⟩=>by
  rw [List.all_cons,Bool.and_eq_true]at hf;exact⟨x,s,e,RD1.free hb (Qx hf.1) h1,RTs.free hf.2 h2⟩
theorem RD.free{k:KD}{d:D}(hf:Av ids k=true)(h:RD B V k d):RD B' V k d:=by
 cases k with
 |one c=>exact RD1.free (k:= .one c) hb hf h
 |agg cs=>exact RD1.free (k:= .agg cs) hb hf h
 |tup ts=>obtain⟨ds,h1,h2⟩:=h;exact⟨ds,h1,RTs.free hb hf h2⟩
theorem BlkIs.free{b:KB}{x:Blk}(hf:Qa ids b=true)(h:BlkIs B V x b):BlkIs B' V x b:=by
 cases b with
 |box cs=>obtain⟨sz,cs',g1,g2⟩:=h;exact⟨sz,cs',g1,RCs.free hb hf g2⟩
 |rows e ne l=>exact h
 |mrows e l=>exact h
 |dead=>exact h
end free
theorem KQ{ids:List Nat}{tag:Nat}{d:KD}:Av ids (qw tag d)=Av ids d:=by
 unfold qw;split<;>rfl
section
variable {E : Env} {y : Nat → fH} {n : Nat} {F : KF} {ks : KS} {V : Vl} {f : Nat → D} {h : aE} {M tag nid : Nat} {op : Op} {G : KG} {D0 : Nat} {R : Type} {r : R}
theorem nh{ids:List Nat}{p:Nat}:aC (vr ids ks).bl p=if p∈ids then some .dead else aC ks.bl p:=by
 show aC (ids.map (fun p=>(p,KB.dead))++ks.bl) p=_;rw [bM];unfold bS;rcases wu (l:=ids) (p:=p)with⟨h1,h2⟩|⟨h1,h2⟩
 ·rw [h1,if_neg h2]
 ·rw [h1,if_pos h2]
theorem tV{ids:List Nat}{p:Nat}:aT F (vr ids ks) p=if p∈ids then none else aT F ks p:=by
 unfold aT bS;rw [nh];by_cases hp:p∈ids
 ·rw [if_pos hp,if_pos hp]
 ·rw [if_neg hp,if_neg hp]
theorem Sy{ids:List Nat}{e:KE}{p:Nat}(hp:p ∉ ids):Be F (vr ids ks) nid e p=Be F ks nid e p:=by
 have:=Qw (e:=e) (nid:=nid) (show aC (vr ids ks).bl p=aC ks.bl p by rw [nh,if_neg hp])
 unfold Be aT bS;simp only [this]
theorem Qy{ids ms:List Nat}(hr:Rel F ks V f h)(hm:∀p b,aT F ks p=some b→b.there→V.id p∈ms→p∈ids):Rel F (vr ids ks) V f (mask h ms):=by
 have hle:LeB ks.nx (aT F ks) (aT F (vr ids ks)):=fun p hp=>by
  rw [tV];split
  ·exact⟨fun e ne l h=>by simp at h,fun e l h=>by simp at h⟩
  ·exact⟨fun e ne l h=>⟨e,ne,l,h,rfl⟩,fun e l h=>⟨e,l,h,rfl⟩⟩
 refine⟨fun i d hd=> ?_,fun p b hb=> ?_,fun p q b b' hp hq=> ?_⟩
 ·obtain⟨g1,g2,g3⟩:=hr.sl i d hd;exact⟨g1,g2,g3.mono g2 hle (Agree.refl _ _)⟩
 ·rw [tV]at hb;split at hb
  ·simp at hb
  ·rename_i hp;obtain⟨g1,g2,g3⟩:=hr.bl p b hb;refine⟨g1,g2,?_⟩;have g4:=g3.mono g2 hle (Agree.refl _ _);by_cases ht:b.there
   ·exact g4.heap (by rw [xy,if_neg fun hh=>hp (hm p b hb ht hh)])
   ·cases b with
    |mrows e l=>exact fun hl=>absurd hl ht
    |dead=>trivial
    |box cs=>exact absurd trivial ht
    |rows e ne l=>exact absurd trivial ht
 ·rw [tV]at hp hq;split at hp
  ·simp at hp
  ·split at hq
   ·simp at hq
   ·exact hr.inj p q b b' hp hq
open Classical in
def oId(ks:KS)(V:Vl)(p:Nat):List Nat:=if∃b,aC ks.bl p=some b∧b.there then [V.id p]else []
def ww(ks:KS)(V:Vl)(l:List Nat):List Nat:=l.flatMap (oId ks V)
def vB(ks:KS)(V:Vl)(O:List (List Nat)):List (List Nat):=O.map (ww ks V)
theorem rU{O:List (List Nat)}{j:Nat}:(vB ks V O).getD j []=ww ks V (O.getD j []):=by
 unfold vB;rw [List.getD_eq_getElem?_getD,List.getElem?_map,List.getD_eq_getElem?_getD];cases O[j]? <;>rfl
theorem ry{l:List Nat}{x:Nat}(h:x∈ww ks V l):∃p∈l,∃b,aC ks.bl p=some b∧b.there∧x=V.id p:=by
 unfold ww at h;obtain⟨p,hp,hx⟩:=List.mem_flatMap.1 h;unfold oId at hx;split at hx
 ·rename_i hh;obtain⟨b,h1,h2⟩:=hh;exact⟨p,hp,b,h1,h2,by simpa using hx⟩
 ·simp at hx
theorem rz{b:KB}(h:b.there):b≠ .dead:=by rintro rfl;exact h
theorem vC(hr:Rel F ks V f h){p:Nat}{b:KB}(hp:aT F ks p=some b)(ht:b.there):V.id p<h.length:=
 let⟨_,hz⟩:=tL (hr.bl p b hp).2.2 ht;CG hz
theorem Ma(hr:Rel F ks V f h):∀{os rs O:List (List Nat)},djB os rs O=true→DJ (vB ks V os) rs (vB ks V O)
 | [],rs,O,_=>by cases rs<;>trivial
 |o::os,[],O,_=>trivial
 |o::os,r::rs,O,hd=>by
  have hd':((r.all fun j=>Qc o (O.getD j []))&& djB os rs O)=true:=hd;rw [Bool.and_eq_true]at hd';refine⟨fun j hj x hx=> ?_,Ma hr hd'.2⟩;rw [rU];intro hx2;obtain⟨p,p1,b,p2,p3,rfl⟩:=ry hx;obtain⟨q,q1,b',q2,q3,q4⟩:=ry hx2
  have:=hr.inj p q b b' (aH p2 (rz p3)) (aH q2 (rz q3)) p3 q3 q4
  subst this;have h1:=List.all_eq_true.1 hd'.1 j hj;unfold Qc at h1;exact FU (List.all_eq_true.1 h1 p p1) q1
theorem Sz(hr:Rel F ks V f h){O:List (List Nat)}:∀l∈vB ks V O,∀k∈l,k<h.length:=by
 intro l hl k hk;obtain⟨o,h1,rfl⟩:=List.mem_map.1 hl;obtain⟨p,_,b,p2,p3,rfl⟩:=ry hk;exact vC hr (aH p2 (rz p3)) p3
section
variable {Rl O : List (List Nat)} {N : List (Bool × List Nat)} {nw : List (Nat × Nat)} {i j p q : Nat}
theorem IA(hj:j∈Rl.getD i [])(hp:p∈O.getD j []):p∈iS Rl O N nw i:=List.mem_flatMap.2 ⟨j,hj,List.mem_append.2 (.inl hp)⟩
theorem IB(hj:j∈Rl.getD i [])(hq:q∈(N.getD j (false,[])).2)(hp:aC nw q=some p):p∈iS Rl O N nw i:=List.mem_flatMap.2 ⟨j,hj,List.mem_append.2 (.inr (List.mem_append.2 (.inl (List.mem_flatMap.2 ⟨q,hq,by rw [hp];exact List.mem_singleton.2 rfl⟩))))⟩
theorem IC(hj:j∈Rl.getD i [])(hn:(N.getD j (false,[])).1=true)(hp:aC nw j=some p):p∈iS Rl O N nw i:=List.mem_flatMap.2 ⟨j,hj,List.mem_append.2 (.inr (List.mem_append.2 (.inr (by rw [hn,hp];exact List.mem_singleton.2 rfl))))⟩
end
structure TInv(F:KF)(ks0:KS)(V0:Vl)(b w:Nat)(nw:List (Nat×Nat))(i:Nat)(ks:KS)(V:Vl)(f:Nat→D)(H:aE):Prop where
 rel:Rel F ks V f H
 ext:Ext F ks0 V0 ks V
 len:H.length=b+w
 th:∀p bl,aT F ks p=some bl→bl.there→(p<ks0.nx∧∃b0,aT F ks0 p=some b0∧b0.there)∨∃j,aC nw j=some p
 nw:∀j q,aC nw j=some q→j<i∧V.id q=b+j∧q<ks.nx
 free:∀j,i≤j→aP H (b+j)=none
section
variable {ks0 : KS} {V0 : Vl} {f0 : Nat → D} {h0 : aE} {w i : Nat} {nw : List (Nat × Nat)} {H : aE} {Rl O : List (List Nat)} {N : List (Bool × List Nat)}
theorem TInv.mask(hr0:Rel F ks0 V0 f0 h0)(hi:TInv F ks0 V0 h0.length w nw i ks V f H){p:Nat}{bl:KB}(hp:aT F ks p=some bl)(ht:bl.there)(hm:V.id p∈(Rl.getD i []).flatMap (bm h0.length (vB ks0 V0 O) N)):p∈iS Rl O N nw i:=by
 obtain⟨j,hj,hx⟩:=List.mem_flatMap.1 hm;unfold bm at hx;rw [rU]at hx;rcases hi.th p bl hp ht with⟨h1,b0,h2,h3⟩|⟨j0,h1⟩
 ·rw [(hi.ext.agree p h1).1]at hx;have hlt:=vC hr0 h2 h3;rcases List.mem_append.1 hx with hx|hx
  ·obtain⟨q,q1,b1,q2,q3,q4⟩:=ry hx
   have:=hr0.inj p q b0 b1 h2 (aH q2 (rz q3)) h3 q3 q4
   subst this;exact IA hj q1
  ·exfalso;rcases List.mem_append.1 hx with hx|hx
   ·obtain⟨k,_,hk⟩:=List.mem_map.1 hx;omega
   ·split at hx
    ·have:=List.mem_singleton.1 hx;omega
    ·simp at hx
 ·obtain⟨h2,h3,h4⟩:=hi.nw j0 p h1;rw [h3]at hx;rcases List.mem_append.1 hx with hx|hx
  ·obtain⟨q,q1,b1,q2,q3,q4⟩:=ry hx
   have:=vC hr0 (aH q2 (rz q3)) q3
   omega
  ·rcases List.mem_append.1 hx with hx|hx
   ·obtain⟨k,k1,k2⟩:=List.mem_map.1 hx
    have:k=j0:=by omega
    subst this;exact IB hj k1 h1
   ·split at hx
    ·rename_i hn
     have:=List.mem_singleton.1 hx
     have:j0=j:=by omega
     subst this;exact IC hj hn h1
    ·simp at hx
theorem rV{b:KB}(h1:isM b=false)(h2:b≠ .dead):b.there:=by
 cases b with
 |mrows e l=>simp [isM]at h1
 |dead=>exact absurd rfl h2
 |box cs=>trivial
 |rows e ne l=>trivial
theorem SA(hr0:Rel F ks0 V0 f0 h0)(hi:TInv F ks0 V0 h0.length w nw i ks V f H){p:Nat}{b0:KB}(hb:aC ks.bl p=some b0)(hd:b0≠ .dead){uo:List (Nat×Blk)}(huo:(b0.there∧∃x,uo= [(V.id p,x)])∨(¬b0.there∧uo= [])):∀(P Q:List Nat),Dc ks0 ks nw p P Q=true→uo.map (·.1)=ww ks0 V0 P++Q.map (h0.length+·)∧∀x∈ww ks0 V0 P++Q.map (h0.length+·),x<h0.length+i
 | [q],[],ho=>by
  have ho':(Nat.beq p q && Qb ks0 ks p)=true:=ho;rw [Bool.and_eq_true]at ho'
  have:=Nat.eq_of_beq_eq_true ho'.1
  subst this;have h2:=ho'.2;unfold Qb at h2;split at h2
  ·rename_i x0 y0 hx0 hy0;rw [hb]at hy0;cases hy0;have hx0d:x0≠ .dead:=by rintro rfl;simp at h2
   have hm:isM x0=isM b0:=by
    cases x0 with
    |dead=>exact absurd rfl hx0d
    |_=>simpa using h2
   have hp0:=(hr0.bl p x0 (aH hx0 hx0d)).1
   have key:x0.there↔b0.there:=by
    cases x0 with
    |dead=>exact absurd rfl hx0d
    |box cs=>exact⟨fun _=>rV hm.symm hd,fun _=>trivial⟩
    |rows e ne l=>exact⟨fun _=>rV hm.symm hd,fun _=>trivial⟩
    |mrows e l=>cases b0 with
     |mrows e' l'=>
      obtain⟨e1,l1,g1,g2⟩:=(hi.ext.le p hp0).2 e' l' (aH hb hd);rw [aH hx0 hx0d]at g1;cases g1;show l≠[]↔l'≠[];rw [←List.length_pos_iff,←List.length_pos_iff,g2]
     |_=>simp [isM]at hm
   have e1:ww ks0 V0 [p]=oId ks0 V0 p:=by simp [ww]
   rw [e1,List.map_nil,List.append_nil];rcases huo with⟨h3,x,rfl⟩|⟨h3,rfl⟩
   ·have h4:oId ks0 V0 p= [V0.id p]:=if_pos ⟨x0,hx0,key.2 h3⟩;rw [h4]
    have:=vC hr0 (aH hx0 hx0d) (key.2 h3)
    exact⟨by show [V.id p]=_;rw [(hi.ext.agree p hp0).1],fun z hz=>by have:=List.mem_singleton.1 hz;omega⟩
   ·have h4:oId ks0 V0 p= []:=if_neg fun⟨b,g1,g2⟩=>by rw [hx0]at g1;cases g1;exact h3 (key.1 g2)
    rw [h4];exact⟨rfl,fun z hz=>by simp at hz⟩
  ·simp at h2
 | [],[j],ho=>by
  have ho':Ks ks nw p j=true:=ho;unfold Ks at ho';rw [Bool.and_eq_true]at ho';obtain⟨h1,h2⟩:=ho';split at h1
  ·rename_i q hq
   have:=Nat.eq_of_beq_eq_true h1
   subst this;rw [hb]at h2;have hth:b0.there:=rV (by simpa using h2) hd;obtain⟨k1,k2,k3⟩:=hi.nw j p hq;rcases huo with⟨_,x,rfl⟩|⟨h3,_⟩
   ·refine⟨?_,fun z hz=> ?_⟩
    ·show [V.id p]=_;rw [k2];simp [ww]
    ·have:z=h0.length+j:=by simpa [ww]using hz
     omega
   ·exact absurd hth h3
  ·simp at h1
 | [],[],ho=>by simp [Dc]at ho
 | [],_::_::_,ho=>by simp [Dc]at ho
 | [_],_::_,ho=>by simp [Dc]at ho
 |_::_::_,_,ho=>by simp [Dc]at ho
theorem Qz(hr0:Rel F ks0 V0 f0 h0)(hi:TInv F ks0 V0 h0.length w nw i ks V f H){e:KE}{ids:List Nat}(hef:De ks0 ks O N nw i ids e=true)(hupd:∀p b,e.upd=some (p,b)→∃b0,aC ks.bl p=some b0∧b0≠ .dead∧ScB ks.nx b∧b0.like b)(hnew:∀b,e.new=some b→ScB ks.nx b∧b≠ .dead){B':BK}{V':Vl}{u:List (Nat×Blk)}(hreal:Qf B' V' V ks (h0.length+i) e u):
  u.map (·.1)=bm h0.length (vB ks0 V0 O) N i∧∀x∈bm h0.length (vB ks0 V0 O) N i,x<h0.length+(i+1):=by
 unfold De at hef;simp only [Bool.and_eq_true]at hef;obtain⟨⟨_,h2⟩,h3⟩:=hef;obtain⟨uo,un,rfl,huo,hun⟩:=hreal
 have hO:uo.map (·.1)=ww ks0 V0 (O.getD i [])++(N.getD i (false,[])).2.map (h0.length+·)∧∀x∈ww ks0 V0 (O.getD i [])++(N.getD i (false,[])).2.map (h0.length+·),x<h0.length+i:=by
  cases hu:e.upd with
  |none=>
   rw [hu]at huo h2;simp only [Bool.and_eq_true,List.isEmpty_iff]at h2;rw [show uo= []from huo,h2.1,h2.2];exact⟨rfl,fun x hx=>by simp [ww]at hx⟩
  |some z=>
   obtain⟨p,b⟩:=z;rw [hu]at huo h2;simp only [Bool.and_eq_true]at h2;obtain⟨b0,g1,g2,_,_⟩:=hupd p b hu;refine SA hr0 hi g1 g2 ?_ _ _ h2.2;rcases huo with⟨x,k1,_,k2⟩|⟨k1,_,k2⟩
   ·exact .inl ⟨k2 b0 g1,x,k1⟩
   ·exact .inr ⟨k2 b0 g1,k1⟩
 have hN:un.map (·.1)=(if(N.getD i (false,[])).1 then [h0.length+i]else []):=by
  cases hn:e.new with
  |none=>
   rw [hn]at hun h3;have h3':(N.getD i (false,[])).1=false:=by simpa using h3
   rw [show un= []from hun,h3'];rfl
  |some b=>
   rw [hn]at hun h3;simp only [Bool.and_eq_true]at h3;rw [h3.1.1];have hth:b.there:=rV (by simpa using h3.2) (hnew b hn).2;rcases hun with⟨x,k1,_,_⟩|⟨_,k2⟩
   ·rw [k1];rfl
   ·exact absurd hth k2
 unfold bm;rw [rU,List.map_append,hO.1,hN,List.append_assoc];refine⟨rfl,fun x hx=> ?_⟩;rw [←List.append_assoc]at hx;rcases List.mem_append.1 hx with hx|hx
 ·have:=hO.2 x hx;omega
 ·split at hx
  ·have:=List.mem_singleton.1 hx;omega
  ·simp at hx
theorem Dx:∀(u:List (Nat×Blk)) (H:aE),(∀x∈u,x.1<H.length)→(Ev.apply H u).length=H.length
 | [],H,h=>rfl
 |x::u,H,h=>by
  have h1:=jw x.2 (h x (by simp));show(Ev.apply (aQ H x.1 x.2) u).length=_;rw [Dx u _ (fun z hz=>by rw [h1];exact h z (by simp [hz])),h1]
theorem AT(hG:GOk G E D0)(hD:D0≤n){ops:Array Oper}{κ:KS→Option R}(hr0:Rel F ks0 V0 f0 h0):∀(l:List Oper) (i:Nat) (nw:List (Nat×Nat)) {ks:KS} {V:Vl} {f:Nat→D} {H:aE},i+l.length=w→xC G F ops.toList Rl O N ks0 κ i nw l ks=some r→TInv F ks0 V0 h0.length w nw i ks V f H→cZ (Post F ks0 V0 κ r) (evW E (cpR E n) ops h0.length (bm h0.length (vB ks0 V0 O) N) (fun i=>(Rl.getD i []).flatMap (bm h0.length (vB ks0 V0 O) N)) i l {t:=tab F.nt f,h:=H})
 | [],i,nw,ks,V,f,H,hl,hs,hi=>⟨ks,V,f,rfl,hi.rel,hs,hi.ext⟩
 |o::l,i,nw,ks,V,f,H,hl,hs,hi=>by
  unfold xC at hs;obtain⟨bb,ks1,g1,g2,g3,g4,g5,g6⟩:=Dq hi.rel hs;obtain⟨g,gg1,gg2⟩:=eo g2;have hl':i+1+l.length=w:=by rw [List.length_cons]at hl;omega
  cases bb with
  |false=>
   simp only [cond_false]at g1
   cases hq:Kt O N i with
   |false=>rw [hq]at g1;simp at g1
   |true=>
    rw [hq]at g1;simp only [cond_true]at g1;obtain⟨k1,k2⟩:=AN g4 g3;have hi':TInv F ks0 V0 h0.length w nw (i+1) (CX o.dst ks1) V (upO o.dst cJ f) H:=⟨k1,hi.ext.trans (g5.trans k2),hi.len,fun p bl hp ht=>let⟨b0,q1,q2⟩:=g6 p bl hp ht;hi.th p b0 q1 q2,fun j q hj=>let⟨q1,q2,q3⟩:=hi.nw j q hj;⟨by omega,q2,Nat.lt_of_lt_of_le q3 g5.nx⟩,fun j hj=>hi.free j (by omega)⟩;have ih:=AT hG hD hr0 l (i+1) nw hl' g1 hi'
    have hU:bm h0.length (vB ks0 V0 O) N i= []:=by
     unfold Kt at hq;simp only [Bool.and_eq_true,List.isEmpty_iff,Bool.not_eq_true']at hq;unfold bm;rw [rU,hq.1.1,hq.1.2,hq.2];rfl
    cases ho:o.dst with
    |none=>rw [ho]at ih;exact JY gg1 ho (jM gg2) (by rw [hU];rfl) (by rw [hU];rfl) (kH _) ih
    |some d=>
     rw [ho]at ih g3;exact HS gg1 ho (eZ (by simpa [lD]using g3)) (jM gg2) (by rw [hU];rfl) (by rw [hU];rfl) (kH _) (by rw [jL];exact ih)
  |true=>
   simp only [cond_true]at g1;obtain⟨op',ks2,k1,k2,k3,k4,k5,k6⟩:=Dr (E:=E) (n:=n) g4 g1;have hi2:TInv F ks0 V0 h0.length w nw i ks2 V f H:=⟨k4,hi.ext.trans (g5.trans k5),hi.len,fun p bl hp ht=>let⟨b0,q1,q2⟩:=(g6.trans k6) p bl hp ht;hi.th p b0 q1 q2,fun j q hj=>let⟨q1,q2,q3⟩:=hi.nw j q hj;⟨q1,q2,Nat.lt_of_lt_of_le q3 (g5.trans k5).nx⟩,hi.free⟩;have hmr:=Qy (ids:=iS Rl O N nw i) (ms:=(Rl.getD i []).flatMap (bm h0.length (vB ks0 V0 O) N)) hi2.rel fun p bl hp ht hm=>hi2.mask hr0 hp ht hm;obtain⟨e,e1,e2⟩:=AH (M:=ks2.nx+2) hG hD hmr (Nat.le_refl _) (Nat.le_succ _) (by show ks2.nx<_;omega) (by show ks2.nx+1<_;omega) k1;have e1':cond (De ks0 ks2 O N nw i (iS Rl O N nw i) e) (xC G F ops.toList Rl O N ks0 κ (i+1) (nwE e i (ks2.nx+1) nw) l (Kq o.dst ks2.nx (ks2.nx+1) e ks2)) none=some r:=e1
   cases hef:De ks0 ks2 O N nw i (iS Rl O N nw i) e with
   |false=>rw [hef]at e1';simp at e1'
   |true=>
    rw [hef]at e1';simp only [cond_true]at e1';obtain⟨bo,hrun⟩:=e2.run;obtain⟨v,u,s1,s2,s3⟩:=hrun (h0.length+i)
    have hnot:∀p b,e.upd=some (p,b)→p ∉ iS Rl O N nw i:=fun p b hb hp=>by
     obtain⟨b0,q1,q2,_⟩:=e2.upd p b hb;rw [nh,if_pos hp]at q1;cases q1;exact q2 rfl
    have hupd:∀p b,e.upd=some (p,b)→∃b0,aC ks2.bl p=some b0∧b0≠ .dead∧ScB ks2.nx b∧b0.like b:=fun p b hb=>by
     obtain⟨b0,q1,q2⟩:=e2.upd p b hb;rw [nh,if_neg (hnot p b hb)]at q1;exact⟨b0,q1,q2⟩
    have hfr:=hef;unfold De at hfr;simp only [Bool.and_eq_true]at hfr;obtain⟨⟨f1,f2⟩,f3⟩:=hfr;have hbe:∀p,p ∉ iS Rl O N nw i→Be F ks2 (ks2.nx+1) e p=Be F (vr (iS Rl O N nw i) ks2) (ks2.nx+1) e p:=fun p hp=>(Sy hp).symm;have s2':RD (Be F ks2 (ks2.nx+1) e) (V.set (ks2.nx+1) (h0.length+i) ks2.nx bo) (qw ks2.nx e.v) v:=RD.free hbe (by rw [KQ];exact f1) s2
    have s3':Qf (Be F ks2 (ks2.nx+1) e) (V.set (ks2.nx+1) (h0.length+i) ks2.nx bo) V ks2 (h0.length+i) e u:=by
     obtain⟨uo,un,q1,q2,q3⟩:=s3;refine⟨uo,un,q1,?_,?_⟩
     ·cases hu:e.upd with
      |none=>rw [hu]at q2;exact q2
      |some z=>
       obtain⟨p,b⟩:=z;have hp:=hnot p b hu;rw [hu]at q2 f2;simp only [Bool.and_eq_true]at f2;have hlk:aC (vr (iS Rl O N nw i) ks2).bl p=aC ks2.bl p:=by rw [nh,if_neg hp]
       rcases q2 with⟨x,z1,z2,z3⟩|⟨z1,z2,z3⟩
       ·exact .inl ⟨x,z1,BlkIs.free hbe f2.1 z2,fun b0 hb0=>z3 b0 (by rw [hlk];exact hb0)⟩
       ·exact .inr ⟨z1,z2,fun b0 hb0=>z3 b0 (by rw [hlk];exact hb0)⟩
     ·cases hn:e.new with
      |none=>rw [hn]at q3;exact q3
      |some b=>
       rw [hn]at q3 f3;simp only [Bool.and_eq_true]at f3;rcases q3 with⟨x,z1,z2,z3⟩|⟨z1,z2⟩
       ·exact .inl ⟨x,z1,BlkIs.free hbe f3.1.2 z2,z3⟩
       ·exact .inr ⟨z1,z2⟩
    obtain⟨t1,t2⟩:=Qz hr0 hi2 hef hupd e2.new s3';have hnone:aP H (h0.length+i)=none:=hi2.free i (Nat.le_refl _);have hh:=tM u H (AK k4 hupd s3' hnone);obtain⟨w1,w2⟩:=AJ (M:=ks2.nx+2) k4 (Nat.le_refl _) (Nat.le_succ _) (by omega) (by omega) g3 hupd e2.new e2.sc s2' s3' (fun _=>hnone) hh;have hult:∀x∈u,x.1<h0.length+(i+1):=fun x hx=>t2 x.1 (t1▸List.mem_map_of_mem hx)
    have hi':TInv F ks0 V0 h0.length w (nwE e i (ks2.nx+1) nw) (i+1) (Kq o.dst ks2.nx (ks2.nx+1) e ks2) (V.set (ks2.nx+1) (h0.length+i) ks2.nx bo) (upO o.dst v f) (Ev.apply H u):=by
     have hnwl:∀j q,aC nw j=some q→aC (nwE e i (ks2.nx+1) nw) j=some q:=fun j q hj=>by
      unfold nwE;split
      ·rw [bq,if_neg (by have:=(hi2.nw j q hj).1;omega)];exact hj
      ·exact hj
     refine⟨w1,hi2.ext.trans w2,?_,?_,?_,?_⟩
     ·rw [Dx u H (fun x hx=>by have:=hult x hx;rw [hi2.len];omega),hi2.len]
     ·intro p bl hp ht
      have hold:∀b0,aT F ks2 p=some b0→b0.there→(p<ks0.nx∧∃b0,aT F ks0 p=some b0∧b0.there)∨∃j,aC (nwE e i (ks2.nx+1) nw) j=some p:=fun b0 z1 z2=>by
       rcases hi2.th p b0 z1 z2 with h1|⟨j,hj⟩
       ·exact .inl h1
       ·exact .inr ⟨j,hnwl j p hj⟩
      have hp':Be F ks2 (ks2.nx+1) e p=some bl:=hp;rcases AI (fun b hb=>(e2.new b hb).2) hp' with⟨rfl,h1⟩|h1|⟨h1,h2,h3⟩
      ·refine .inr ⟨i,?_⟩;unfold nwE;rw [h1];simp only [bq,if_true]
      ·obtain⟨b0,z1,z2,_,_⟩:=hupd p bl h1;refine hold b0 (aH z1 z2) ?_;obtain⟨uo,un,q1,q2,q3⟩:=s3';rw [h1]at q2;rcases q2 with⟨x,_,_,z3⟩|⟨_,z3,_⟩
       ·exact z3 b0 z1
       ·exact absurd ht z3
      ·exact hold bl h3 ht
     ·intro j q hj
      have hcase:(j=i∧q=ks2.nx+1)∨aC nw j=some q:=by
       unfold nwE at hj;split at hj
       ·rw [bq]at hj;split at hj
        ·rename_i hji;cases hj;exact .inl ⟨hji,rfl⟩
        ·exact .inr hj
       ·exact .inr hj
      rcases hcase with⟨rfl,rfl⟩|hj
      ·exact⟨Nat.lt_succ_self _,Vl.set_id,by show _<ks2.nx+2;omega⟩
      ·obtain⟨z1,z2,z3⟩:=hi2.nw j q hj;exact⟨by omega,by rw [(w2.agree q z3).1,z2],by show _<ks2.nx+2;omega⟩
     ·intro j hj;rw [hh.out _ fun x hx=>by have:=hult x hx;omega];exact hi2.free j (by omega)
    have ih:=AT hG hD hr0 l (i+1) _ hl' e1' hi';have hst:=(gd gg2).trans ((k2 (h0.length+i) _).trans s1)
    have hall:(bm h0.length (vB ks0 V0 O) N i).all (·<H.length)=true:=List.all_eq_true.2 fun x hx=>by
     have:=t2 x hx
     have h3:=hi2.len;exact decide_eq_true (by omega)
    cases ho:o.dst with
    |none=>rw [ho]at ih;exact JY gg1 ho hst t1 hall rfl ih
    |some d=>
     rw [ho]at ih g3;exact HS gg1 ho (eZ (by simpa [lD]using g3)) hst t1 hall rfl (by rw [jL];exact ih)
theorem Ns(hG:GOk G E D0)(hD:D0≤n){id:Nat}{l:List Oper}{κ:Ex→KS→Option R}(hq:fT ⟨l⟩=true)(hn:pd ⟨l⟩ N=true)(hdj:djB O (io ⟨l⟩) O=true)(hold:FD ks O=true)(hs:xC G F l (io ⟨l⟩) O N ks (κ .normal) 0 [] l ks=some r)(hr:Rel F ks V f h):WpC E y n (.region id ⟨l⟩ true) (fun e s=>∃ks' V' f',s.t=tab F.nt f'∧Rel F ks' V' f' s.h∧κ e ks'=some r∧Ext F ks V ks' V') {t:=tab F.nt f,h:=h}:=by
 refine CM l.length rfl (vB ks V O) N (io ⟨l⟩) hq hn rfl (Ma hr hdj) (Sz hr) fun h' h1 h2=> ?_;refine AT (ops:=⟨l⟩) (w:=l.length) hG hD hr l 0 [] (by omega) hs ⟨hr.heap h2,Ext.refl _ _ _,h1,fun p bl hp ht=> .inl ⟨(hr.bl p bl hp).1,bl,hp,ht⟩,fun j q hj=>by simp [aC]at hj,fun j hj=> ?_⟩;rw [h2];unfold aP;rw [List.getElem?_eq_none (by omega)]
end
end
end K
end Ev
end
noncomputable section
namespace Ev
namespace K
open Go Go.RowKit
section
variable {E : Env} {y : Nat → fH} {n : Nat} {G : KG} {D0 : Nat}
section loop
variable {F : KF} {ks : KS} {V : Vl} {f : Nat → D} {h : aE} {a : Ii} {cs : List KC} {x0 : ec a.head.sh} {ks2 : KS} {V1 V2 : Vl} {f2 : Nat → D} {x1 : ec a.head.sh}
theorem tW{F:KF}{ks:KS}:∀{bs:List (Nat×List Sh)} {p:Nat},p∈rq F ks bs→∃v∈bs,fF F ks v.1=some p
 | [],p,h=>by simp [rq]at h
 |v::r,p,h=>by
  unfold rq at h;split at h
  ·rename_i q hq;rcases List.mem_cons.1 h with rfl|h
   ·exact⟨v,by simp,hq⟩
   ·obtain⟨w,h1,h2⟩:=tW h;exact⟨w,by simp [h1],h2⟩
  ·obtain⟨w,h1,h2⟩:=tW h;exact⟨w,by simp [h1],h2⟩
theorem AU(hr:Rel F ks V f h)(hok:jO F ks=true)(hcs:gB F ks a.head=some cs)(hrd:RdCs ks a.head.sh cs x0)(ha1:Agree ks.nx V V1)(hl1:LeB ks.nx (aT F ks) (aT (aY F ks a cs) (cu F ks a.head x1))){s:St}(hst:s.t=tab F.nt f2)(hr2:Rel (aY F ks a cs) ks2 V2 f2 s.h)(hok2:jO (aY F ks a cs) ks2=true)(hext:Ext (aY F ks a cs) (cu F ks a.head x1) V1 ks2 V2){e:Ex}:∀{l:List (Ex×Pt)} {R:Type} {r:R} {κ:XT l→Option R},(∀x∈l,sb F ks (aY F ks a cs) x.2=true)→vp (aY F ks a cs) ks2 e l κ=some r→∃v,κ v=some r∧JX F ks V a.keep (ee F ks a cs) l v e s
 | [],R,r,κ,hb,hs=>by simp [vp]at hs
 |x::l,R,r,κ,hb,hs=>by
  unfold vp at hs
  cases hx:vo e x.1 with
  |false=>
   rw [hx]at hs;obtain⟨v,h1,h2⟩:=AU hr hok hcs hrd ha1 hl1 hst hr2 hok2 hext (fun z hz=>hb z (by simp [hz])) hs;exact⟨.inr v,h1,h2⟩
  |true=>
   rw [hx]at hs;obtain⟨cs2,v,g1,g2,g3,g4⟩:=qj hr2 hs;have hbs:=hb x (by simp)
   have hkb:∀p,bS (Au F ks a.keep (ee F ks a cs) x.2 v).bl F.bl p=aC ((cu F ks x.2 v).bl++((ee F ks a cs).map (fun p=>(p,KB.dead))++(ks.bl++F.bl))) p:=fun p=>by
    rw [←bM];show aC ((cu F ks x.2 v).bl++((ee F ks a cs).map (fun p=>(p,KB.dead))++ks.bl)++F.bl) p=_;rw [List.append_assoc,List.append_assoc]
   obtain⟨V3,hr3,ha3,hl3⟩:=LZ (Fb:=F) (kb:=Au F ks a.keep (ee F ks a cs) x.2 v) hr hok hcs hr2 hok2 hext hbs g1 g2 g3 rfl rfl (fun i d hd=>by
    have hd':bS (kM x.2.vs ((bi x.2.sh v ks.nx).map (·.1))++sB F ks a.keep) F.sl i=some d:=hd;rw [←bM,List.append_assoc,bM]at hd';unfold bS at hd'
    cases hl:aC (kM x.2.vs ((bi x.2.sh v ks.nx).map (·.1))) i with
    |some d'=>rw [hl]at hd';cases hd';exact .inl rfl
    |none=>rw [hl]at hd';exact .inr hd') hkb
   have hnx1:ks.nx≤(cu F ks a.head x1).nx:=by show ks.nx≤ks.nx+_;omega
   refine⟨.inl v,g4,LY hx,V3,f2,hst,hr3,⟨by show ks.nx≤ks.nx+_;omega,?_,?_,?_⟩⟩
   ·exact(ha1.trans hext.agree hnx1).trans ha3 (Nat.le_refl _)
   ·exact(hl1.trans hext.le hnx1).trans hl3 (Nat.le_refl _)
   ·intro p hp hl;have h2:=VH hcs hrd hext hp hl;show aC ((cu F ks x.2 v).bl++((ee F ks a cs).map (fun p=>(p,KB.dead))++ks.bl)) p=none;obtain⟨ca,cb,cw,_,hcb2,_,_⟩:=iz g1
    have e1:aC (cu F ks x.2 v).bl p=none:=by
     refine rx (fun w hw he=> ?_) (fun w hw he=> ?_) hp
     ·obtain⟨q,c,j1,j2⟩:=ng hcb2 w hw;rw [Du hok hok2 hbs w hw,he]at j1;cases j1;rw [h2]at j2;simp at j2
     ·obtain⟨q,j1,j2⟩:=Dw hr hok2 hcs hext hbs w hw;rw [he]at j2;cases j2;obtain⟨q,k1,k2⟩:=tT g1 hw;rw [j1]at k1;cases k1;obtain⟨b,k3,_⟩:=vA g3 k2;rw [h2]at k3;simp at k3
    rw [bM];unfold bS;rw [e1];simp only [bM];unfold bS;rcases wu (l:=ee F ks a cs) (p:=p)with⟨h1,h2⟩|⟨h1,h2⟩
    ·rw [h1];exact hl
    ·exfalso;rcases List.mem_append.1 h2 with h2|h2
     ·obtain⟨b',k1,_⟩:=vA hrd h2;rw [hl]at k1;simp at k1
     ·obtain⟨w,hw,hpw⟩:=tW h2;obtain⟨ca,cb,cw,_,hcb,_,_⟩:=iz hcs;obtain⟨p'',c'',j1,j2⟩:=ng hcb w hw;rw [hpw]at j1;cases j1;rw [hl]at j2;simp at j2
end loop
theorem ID(hG:GOk G E D0)(hD:D0≤n){A:Sk}{call:Da}(hcall:KI E n call):∀(c:Code) (R:Type) (F:KF) (ks:KS) (κ:Ex→KS→Option R) (r:R) (V:Vl) (f:Nat→D) (h:aE),iV G A call c R F ks κ=some r→Rel F ks V f h→WpC E y n c (PostC F ks V κ r) {t:=tab F.nt f,h:=h}:=by
 intro c
 induction c with
 |skip=>intro R F ks κ r V f h hs hr;exact HQ ⟨ks,V,f,rfl,hr,hs,Ext.refl _ _ _⟩
 |region id ops draw=>
  intro R F ks κ r V f h hs hr;obtain⟨l⟩:=ops
  cases draw with
  |false=>
   have hs':BV G call F (Array.toList ⟨l⟩) (κ .normal) l ks=some r:=hs;exact HW (vz (ops:=⟨l⟩) hG hD hcall l hs' hr)
  |true=>
   have hs':cond (fT ⟨l⟩) (match aC A.tn id with
    |none=>rn G F l (κ .normal) l ks
    |some T=>match Kr F ks T.old with
     |some O=>cond (pd ⟨l⟩ T.new && djB O (io ⟨l⟩) O && FD ks O) (xC G F l (io ⟨l⟩) O T.new ks (κ .normal) 0 [] l ks) none
     |none=>none) (match qk ⟨l⟩with
    |some m=>cond (nM ⟨l⟩) (rn G F l (BV G call F l (κ .normal) (l.drop m)) (l.take m) ks) none
    |none=>none)=some r:=hs
   cases hq:fT ⟨l⟩with
   |true=>
    rw [hq]at hs';simp only [cond_true]at hs';split at hs'
    ·exact Ad l.length rfl hq fun h' h1 h2=>rT (ops:=⟨l⟩) (κ:=κ .normal) hG hD l 0 hs' (hr.heap h2)
    ·split at hs'
     ·rename_i T hT _ O hO
      cases hc:(pd ⟨l⟩ T.new && djB O (io ⟨l⟩) O && FD ks O)with
      |false=>rw [hc]at hs';simp at hs'
      |true=>
       rw [hc]at hs';simp only [Bool.and_eq_true]at hc;exact Ns hG hD hq hc.1.1 hc.1.2 hc.2 hs' hr
     ·simp at hs'
   |false=>
    rw [hq]at hs';simp only [cond_false]at hs';split at hs'
    ·rename_i m hc
     cases hp:nM ⟨l⟩with
     |false=>rw [hp]at hs';simp at hs'
     |true=>
      rw [hp]at hs';have hr':Rel F ks V f (h++List.replicate (Array.mk l).size .no):=hr.heap fun k=>pT _ _ _;refine Qv m hc hp (Iz (rT (ops:=⟨l⟩) (b:=h.length) (κ:=BV G call F l (κ .normal) (l.drop m)) hG hD (l.take m) 0 hs' hr') fun t ht=> ?_);obtain⟨ks',V',f',h1,h2,h3,h4⟩:=ht;simp only at h1 h2;subst h1;exact rS (vz (ops:=⟨l⟩) hG hD hcall (l.drop m) h3 h2) fun s hs=>Post.ext h4 hs
    ·simp at hs'
 |seq a b iha ihb=>
  intro R F ks κ r V f h hs hr
  have hs':(match A.lp.find? fun z=>z.join &&(some z.key==iw a && Nat.beq z.sz (vq a))with
   |none=>iV G A call a R F ks fun e ks=>match e with
    | .normal=>iV G A call b R F ks κ
    |e=>κ e ks
   |some z=>match gB F ks z.head,jO F ks with
    |some cs,true=>cond (sb F ks (aY F ks z cs) z.head && z.exs.all fun x=>sb F ks (aY F ks z cs) x.2) (vn F ks z.head fun x0=>
     (iV G A call a (XT z.exs) (aY F ks z cs) (cu F ks z.head x0) fun e ks2=>cond (jO (aY F ks z cs) ks2) (vp (aY F ks z cs) ks2 e z.exs some) none).bind fun y=>afterX F ks z.keep (ee F ks z cs) z.exs y fun e ks=>match e with
      | .normal=>iV G A call b R F ks κ
      |e=>κ e ks) none
    |_,_=>none)=some r:=hs
  have key:∀e s,PostC F ks V (fun e ks=>match e with
    | .normal=>iV G A call b R F ks κ
    |e=>κ e ks) r e s→rd (WpC E y n b (PostC F ks V κ r)) (PostC F ks V κ r) e s:=by
   intro e s hp;obtain⟨ks',V',f',h1,h2,h3,h4⟩:=hp;obtain⟨t,hh⟩:=s;simp only at h1 h2;subst h1
   cases e with
   |normal=>exact(ihb R F ks' κ r V' f' hh h3 h2).mono fun e s hp=>hp.ext h4
   |ret=>exact⟨ks',V',f',rfl,h2,h3,h4⟩
   |exit id=>exact⟨ks',V',f',rfl,h2,h3,h4⟩
  split at hs'
  ·exact Fm ((iha R F ks _ r V f h hs' hr).mono key)
  ·rename_i z hz;split at hs'
   ·rename_i cs hcs hok
    cases hbs:(sb F ks (aY F ks z cs) z.head && z.exs.all fun x=>sb F ks (aY F ks z cs) x.2)with
    |false=>rw [hbs]at hs';simp at hs'
    |true=>
     rw [hbs]at hs';rw [Bool.and_eq_true]at hbs;obtain⟨hbs0,hbsx⟩:=hbs;obtain⟨cs',x0,g1,g2,g3,g4⟩:=qj hr hs';rw [hcs]at g1;cases g1;rw [zbE]at g4;obtain⟨out,g4,g5⟩:=g4;obtain⟨V1,hr1,ha1,hl1⟩:=yd hr hok hcs g2 g3;refine Fm ((iha _ (aY F ks z cs) (cu F ks z.head x0) _ out V1 f h g4 hr1).mono fun e s hp=>key e s ?_);obtain⟨ks2,V2,f2,t1,r2,k1,ext⟩:=hp;dsimp only at k1
     cases hok2:jO (aY F ks z cs) ks2 with
     |false=>rw [hok2]at k1;simp at k1
     |true=>
      rw [hok2]at k1;obtain⟨v,j1,j2⟩:=AU hr hok hcs g3 ha1 hl1 t1 r2 hok2 ext (fun w hw=>List.all_eq_true.1 hbsx w hw) k1;cases j1;exact wv g5 j2
   ·simp at hs'
 |cond c a b iha ihb=>
  intro R F ks κ r V f h hs hr
  have hs':(match kO F ks c with
   |some (.one c)=>kIf c ks fun t ks=>cond t (iV G A call a R F ks κ) (iV G A call b R F ks κ)
   |_=>none)=some r:=hs
  split at hs'
  ·rename_i c0 hc;obtain⟨d,d1,d2,c',rfl,d3⟩:=cm hr hc;obtain⟨t,ks',g1,rfl,g3,g4⟩:=VF hr d3 hs';have e1:opnd (tab F.nt f) c=some (.one (bC t)):=(bZ F.nt f c).trans d1;refine zZ e1 rfl ?_
   cases t with
   |true=>exact(iha R F ks' κ r V f h g1 g3).mono fun e s hp=>hp.ext g4
   |false=>exact(ihb R F ks' κ r V f h g1 g3).mono fun e s hp=>hp.ext g4
  ·simp at hs'
 |block id b ih=>
  intro R F ks κ r V f h hs hr;have hs':iV G A call b R F ks (fun e ks=>κ (cond (vo e (.exit id)) .normal e) ks)=some r:=hs;refine CF ((ih R F ks _ r V f h hs' hr).mono fun e s hp=> ?_);obtain⟨ks',V',f',h1,h2,h3,h4⟩:=hp;refine⟨ks',V',f',h1,h2,?_,h4⟩;rw [←h3]
  have:(if e= .exit id then Ex.normal else e)=cond (vo e (.exit id)) .normal e:=by
   cases hx:vo e (.exit id)with
   |true=>rw [if_pos (LY hx)];rfl
   |false=>rw [if_neg (fun he=>by subst he;simp [vo]at hx)];rfl
  rw [this]
 |loop b ih=>
  intro R F ks κ r V f h hs hr
  have hs':(match A.lp.find? fun a=> !a.join && some a.key==iw b with
   |none=>none
   |some a=>match gB F ks a.head,jO F ks with
    |some cs,true=>cond (sb F ks (aY F ks a cs) a.head && a.exs.all fun x=>sb F ks (aY F ks a cs) x.2 && !vo x.1 .normal) (vn F ks a.head fun x0=>
     (aL (fun x=>iV G A call b (ec a.head.sh ⊕ XT a.exs) (aY F ks a cs) (cu F ks a.head x) fun e ks2=>cond (jO (aY F ks a cs) ks2) (match e with
      | .normal=>vn (aY F ks a cs) ks2 a.head fun y=>some (.inl y)
      |e=>vp (aY F ks a cs) ks2 e a.exs fun y=>some (.inr y)) none) x0).bind fun y=>afterX F ks a.keep (ee F ks a cs) a.exs y κ) none
    |_,_=>none)=some r:=hs
  split at hs'
  ·simp at hs'
  ·rename_i a ha;split at hs'
   ·rename_i cs hcs hok
    cases hbs:(sb F ks (aY F ks a cs) a.head && a.exs.all fun x=>sb F ks (aY F ks a cs) x.2 && !vo x.1 .normal)with
    |false=>rw [hbs]at hs';simp at hs'
    |true=>
     rw [hbs]at hs';rw [Bool.and_eq_true]at hbs;obtain⟨hbs0,hbsx⟩:=hbs;obtain⟨cs',x0,g1,g2,g3,g4⟩:=qj hr hs';rw [hcs]at g1;cases g1;rw [zbE]at g4;obtain⟨out,g4,g5⟩:=g4;obtain⟨V1,hr1,ha1,hl1⟩:=yd hr hok hcs g2 g3;refine WpC.mono (CQ _ (fun x s=>∃V1 f1,s.t=tab F.nt f1∧Rel (aY F ks a cs) (cu F ks a.head x) V1 f1 s.h∧Agree ks.nx V V1∧LeB ks.nx (aT F ks) (aT (aY F ks a cs) (cu F ks a.head x))) (fun o e s=>JX F ks V a.keep (ee F ks a cs) a.exs o e s) (fun r s=>gH (fun z hz=>by have:=List.all_eq_true.1 hbsx z hz;rw [Bool.and_eq_true]at this;simpa using this.2) r s) ?_ x0 out _ g4 ⟨V1,f,rfl,hr1,ha1,hl1⟩) fun e s hj=>wv g5 hj;intro x o s hb hI;obtain⟨W1,f1,e1,r1,a1,l1⟩:=hI;obtain⟨t,hh⟩:=s;simp only at e1 r1;subst e1;refine(ih _ (aY F ks a cs) (cu F ks a.head x) _ o W1 f1 hh hb r1).mono fun e s hp=> ?_;obtain⟨ks2,V2,f2,t1,r2,k1,ext⟩:=hp;dsimp only at k1
     cases hok2:jO (aY F ks a cs) ks2 with
     |false=>rw [hok2]at k1;simp at k1
     |true=>
      rw [hok2]at k1;simp only [cond_true]at k1
      have hx:e≠ .normal→vp (aY F ks a cs) ks2 e a.exs (fun y=>some (.inr y))=some o→∃v,o= .inr v∧JX F ks V a.keep (ee F ks a cs) a.exs v e s:=by
       intro hne hk;obtain⟨v,j1,j2⟩:=AU hr hok hcs g3 a1 l1 t1 r2 hok2 ext (fun z hz=>by have:=List.all_eq_true.1 hbsx z hz;rw [Bool.and_eq_true]at this;exact this.1) hk;exact⟨v,(Option.some.inj j1).symm,j2⟩
      cases e with
      |normal=>
       obtain⟨cs2,v,w1,w2,w3,w4⟩:=qj r2 k1;cases w4
       obtain⟨V3,hr3,ha3,hl3⟩:=LZ (Fb:=aY F ks a cs) (kb:=cu F ks a.head v) hr hok hcs r2 hok2 ext hbs0 w1 w2 w3 rfl rfl (fun i d hd=>by
        have hd':bS (kM a.head.vs ((bi a.head.sh v ks.nx).map (·.1))) (aY F ks a cs).sl i=some d:=hd;unfold bS at hd'
        cases hl:aC (kM a.head.vs ((bi a.head.sh v ks.nx).map (·.1))) i with
        |some d'=>rw [hl]at hd';cases hd';exact .inl rfl
        |none=>rw [hl]at hd';exact .inr hd') (fun p=>(bM _ _ p).symm)
       exact⟨rfl,V3,f2,t1,hr3,(a1.trans ext.agree (by show ks.nx≤ks.nx+_;omega)).trans ha3 (Nat.le_refl _),(l1.trans ext.le (by show ks.nx≤ks.nx+_;omega)).trans hl3 (Nat.le_refl _)⟩
      |ret=>obtain⟨v,rfl,j⟩:=hx (by simp) k1;exact j
      |exit id=>obtain⟨v,rfl,j⟩:=hx (by simp) k1;exact j
   ·simp at hs'
 |exit id=>intro R F ks κ r V f h hs hr;exact HR ⟨ks,V,f,rfl,hr,hs,Ext.refl _ _ _⟩
 |ret=>intro R F ks κ r V f h hs hr;exact Ls ⟨ks,V,f,rfl,hr,hs,Ext.refl _ _ _⟩
 |label l=>intro R F ks κ r V f h hs hr;exact MV ⟨ks,V,f,rfl,hr,hs,Ext.refl _ _ _⟩
 |scope b ih=>
  intro R F ks κ r V f h hs hr;exact MW (ih R F ks κ r V f h hs hr)
 |_=>intro R F ks κ r V f h hs hr;simp [iV]at hs
end
end K
end Ev
end
noncomputable section
namespace Ev
namespace K
open Go Go.RowKit
section
variable {E : Env} {n : Nat} {F : KF} {ks : KS} {V : Vl} {f : Nat → D} {h : aE} {G : KG} {D0 : Nat}
theorem AV{k i j bz:Nat}{ag:Bool}{sz:Nat}{es:List (List C)}{e cs:List C}{d:D}(hg:aP h k=some (bz,es))(he:es[i]? =some e)(hc:Ev.cut e j sz=some cs)(hv:dC ag cs=some d):load h ag sz (.one (.ptr k i j))=some d:=by
 simp only [load,hg,zbB,zbS,he,hc,hv]
theorem QA(hr:Rel F ks V f h){z:Nat×Bool}{a:KD}{a':D}{R:Type}{r:R}{κ:KD→Option R}(hs:kp F ks z a κ=some r)(ha:RD (aT F ks) V a a'):∃d d',κ d=some r∧load h z.2 (if z.2 then z.1 else 1) a'=some d'∧RD (aT F ks) V d d'∧ScD ks.nx d:=by
 have hz:wd z=if z.2 then z.1 else 1:=by unfold wd;cases z.2<;>rfl
 cases a with
 |tup ts=>simp [kp]at hs
 |agg cs=>simp [kp]at hs
 |one c=>
  obtain⟨c',rfl,hc⟩:=ha
  cases c with
  |ptr p j=>
   simp only [kp]at hs;split at hs
   ·rename_i cs hp;simp only [zbE]at hs;obtain⟨d2,⟨cs2,g1,g2⟩,g3⟩:=hs;obtain⟨g4,g5,sz,cs',g6,g7⟩:=hr.bl p _ hp;obtain⟨c2,g8,g9⟩:=g7.cut g1;obtain⟨d3,k1,k2,k3⟩:=jm g2 (kZ g5 g1) g9;rw [show c'=_ from hc];exact⟨_,d3,g3,AV g6 rfl (by rw [←hz];exact g8) k1,k2,k3⟩
   ·simp at hs
  |ip e fr x i y j=>
   simp only [kp,zbE]at hs;obtain⟨d2,⟨cs2,g1,g2⟩,g3⟩:=hs;obtain⟨fl,e1,e2,e3⟩:=hc;obtain⟨c2,g8,g9⟩:=(eN (B:=aT F ks) (V:=V) e3 e y).cut g1;obtain⟨d3,k1,k2,k3⟩:=jm g2 (kZ (gN ks.nx fr e y) g1) g9;refine⟨_,d3,g3,?_,k2,k3⟩;rw [e1];simp only [load,zbB,aG (r:=e.row) e2,zbS];rw [←hz,g8];exact k1
  |pe p i j=>
   simp only [kp]at hs;rw [hc.2];split at hs
   ·rename_i e ne l hp;simp only [zbE]at hs;obtain⟨y,g0,d2,⟨cs2,g1,g2⟩,g3⟩:=hs;obtain⟨g4,g5,g6,_⟩:=hr.bl p _ hp;obtain⟨c2,g8,g9⟩:=(eN (B:=aT F ks) (V:=V) (fun _=>rfl) e y).cut g1;obtain⟨d3,k1,k2,k3⟩:=jm g2 (kZ (gN ks.nx true e y) g1) g9;exact⟨_,d3,g3,AV g6 (rR g0).2 (by rw [←hz];exact g8) k1,k2,k3⟩
   ·rename_i e l hp;simp only [zbE]at hs;obtain⟨y,g0,d2,⟨cs2,g1,g2⟩,g3⟩:=hs;obtain⟨g4,g5,g6⟩:=hr.bl p _ hp;obtain⟨c2,g8,g9⟩:=(eN (B:=aT F ks) (V:=V) (fun _=>rfl) e y).cut g1;obtain⟨d3,k1,k2,k3⟩:=jm g2 (kZ (gN ks.nx true e y) g1) g9;exact⟨_,d3,g3,AV (g6 (FL g0)) (rR g0).2 (by rw [←hz];exact g8) k1,k2,k3⟩
   ·simp at hs
  |_=>simp [kp]at hs
theorem yk(hG:GOk G E D0)(hr:Rel F ks V f h):∀{rv:List ResultVar} {R:Type} {r:R} {κ:List KD→Option R},FE G F ks rv κ=some r→∃ds ds',rv.mapM (dh E {t:=tab F.nt f,h:=h})=some ds'∧RDl (aT F ks) V ds ds'∧(∀d∈ds,ScD ks.nx d)∧κ ds=some r
 | [],R,r,κ,hs=>⟨[],[],rfl,rfl,by simp,hs⟩
 | .tmp t::rv,R,r,κ,hs=>by
  simp only [FE,zbE]at hs;obtain⟨d,g1,g2⟩:=hs;obtain⟨k1,k2,k3⟩:=hr.sl t d g1;obtain⟨ds,ds',e1,e2,e3,e4⟩:=yk hG hr g2;refine⟨d::ds,f t::ds',?_,⟨_,_,rfl,k3,e2⟩,fun x hx=> ?_,e4⟩
  ·rw [List.mapM_cons,e1];show((tab F.nt f)[t]?).bind _=_;rw [kX,if_pos k1];rfl
  ·rcases List.mem_cons.1 hx with rfl|hx
   ·exact k2
   ·exact e3 x hx
 | .cell a ty::rv,R,r,κ,hs=>by
  simp only [FE]at hs;split at hs
  ·rename_i z d hz hd;have hz':=FK hG hz;obtain⟨k1,k2,k3⟩:=hr.sl a d hd;obtain⟨v,v',g1,g2,g3,g4⟩:=QA hr hs k3;obtain⟨ds,ds',e1,e2,e3,e4⟩:=yk hG hr g1;refine⟨v::ds,v'::ds',?_,⟨_,_,rfl,g3,e2⟩,fun x hx=> ?_,e4⟩
   ·unfold bX at hz';simp only [zbE,zsI]at hz';obtain⟨ti,w1,w2⟩:=hz';rw [List.mapM_cons,e1];show(((E.ti ty).bind fun t'=>((tab F.nt f)[a]?).bind fun d=>load h (bI t'.desc) (if bI t'.desc then t'.size else 1) d).bind _)=_;rw [w1,kX,if_pos k1];subst w2;simp only [zbS];rw [g2];rfl
   ·rcases List.mem_cons.1 hx with rfl|hx
    ·exact g4
    ·exact e3 x hx
  ·simp at hs
theorem FV:∀{ds:List KD} {ds':List D} {ts:List (Bool×List KC)},tupK.tups ds=some ts→RDl (aT F ks) V ds ds'→(∀d∈ds,ScD ks.nx d)→RTs (aT F ks) V ts ds'∧∀x∈ts,Scs ks.nx x.2
 | [],ds',ts,h,hr,hs=>by
  have:=Option.some.inj (show some []=some ts from h)
  subst this;exact⟨hr,by simp⟩
 | .one c::r,ds',ts,h,⟨d,s,e,h1,h2⟩,hs=>by
  simp only [tupK.tups,Option.map_eq_some_iff]at h;obtain⟨ts',g1,rfl⟩:=h;obtain⟨k1,k2⟩:=FV g1 h2 fun x hx=>hs x (by simp [hx]);refine⟨⟨d,s,e,h1,k1⟩,fun x hx=> ?_⟩;rcases List.mem_cons.1 hx with rfl|hx
  ·exact fun y hy=>by rw [List.mem_singleton.1 hy];exact hs (.one c) (by simp)
  ·exact k2 x hx
 | .agg cs::r,ds',ts,h,⟨d,s,e,h1,h2⟩,hs=>by
  simp only [tupK.tups,Option.map_eq_some_iff]at h;obtain⟨ts',g1,rfl⟩:=h;obtain⟨k1,k2⟩:=FV g1 h2 fun x hx=>hs x (by simp [hx]);refine⟨⟨d,s,e,h1,k1⟩,fun x hx=> ?_⟩;rcases List.mem_cons.1 hx with rfl|hx
  ·exact hs (.agg cs) (by simp)
  ·exact k2 x hx
 | .tup ts'::r,ds',ts,h,hr,hs=>by simp [tupK.tups]at h
theorem SB{ds:List KD}{ds':List D}{d:KD}(h:tupK ds=some d)(hr:RDl (aT F ks) V ds ds')(hs:∀d∈ds,ScD ks.nx d):RD (aT F ks) V d (iY ds')∧ScD ks.nx d:=by
 match ds,h,hr,hs with
 | [x],h,⟨d',s,e,h1,h2⟩,hs=>
  cases h;rw [e,show s= []from h2];exact⟨h1,hs d (by simp)⟩
 | [],h,hr,hs=>
  cases h;rw [show ds'= []from hr];exact⟨⟨[],rfl,rfl⟩,fun x hx=>by simp at hx⟩
 |x::x'::r,h,hr,hs=>
  have h':(tupK.tups (x::x'::r)).map KD.tup=some d:=h;rw [Option.map_eq_some_iff]at h';obtain⟨ts,g1,rfl⟩:=h';obtain⟨k1,k2⟩:=FV g1 hr hs;obtain⟨d1,s1,e1,_,d2,s2,e2,_,_⟩:=hr;refine⟨⟨ds',?_,k1⟩,k2⟩;rw [e1,e2];rfl
theorem Dy:∀{l:List KD} {q i:Nat} {d:KD},aC (BW q l) i=some d→∃j,i=q+j∧l[j]? =some d
 | [],q,i,d,h=>by simp [BW,aC]at h
 |a::l,q,i,d,h=>by
  unfold BW at h;rw [bq]at h;split at h
  ·rename_i hi;cases h;exact⟨0,by omega,rfl⟩
  ·obtain⟨j,h1,h2⟩:=Dy h;exact⟨j+1,by omega,by simpa using h2⟩
theorem Mb{B:BK}:∀{l:List KD} {l':List D} {j:Nat} {d:KD},RDl B V l l'→l[j]? =some d→∃d',l'[j]? =some d'∧RD B V d d'
 | [],l',j,d,h,hj=>by simp at hj
 |a::l,l',0,d,⟨x,s,e,h1,h2⟩,hj=>by simp at hj;subst hj e;exact⟨x,rfl,h1⟩
 |a::l,l',j+1,d,⟨x,s,e,h1,h2⟩,hj=>by subst e;simpa using Mb h2 (by simpa using hj)
theorem Mc{B:BK}:∀{l:List KD} {l':List D},RDl B V l l'→l'.length=l.length
 | [],l',h=>by rw [show l'= []from h];rfl
 |a::l,l',⟨x,s,e,h1,h2⟩=>by rw [e,List.length_cons,List.length_cons,Mc h2]
theorem Dz{nt nx:Nat}{bl:List (Nat×KB)}{args:List KD}{args':List D}(hb:Qs F {sl:= [],bl:=bl,nx:=nx} V h)(hs:∀d∈args,ScD nx d)(hr:RDl (aT F {sl:= [],bl:=bl,nx:=nx}) V args args')(hl:args.length≤nt):Rel {F with sl:= [],nt:=nt} {sl:=BW 0 args,bl:=bl,nx:=nx} V (fA args') h:=by
 refine⟨?_,hb.bl,hb.inj⟩;intro i d hd;have hd':bS (BW 0 args) [] i=some d:=hd;unfold bS at hd'
 cases hl':aC (BW 0 args) i with
 |none=>rw [hl']at hd';simp [aC]at hd'
 |some d0=>
  rw [hl']at hd';cases hd';obtain⟨j,h1,h2⟩:=Dy hl';rw [Nat.zero_add]at h1;subst h1;obtain⟨d',h3,h4⟩:=Mb hr h2;have hi:i<args.length:=(List.getElem?_eq_some_iff.1 h2).1;refine⟨Nat.lt_of_lt_of_le hi hl,hs d (List.mem_of_getElem? h2),?_⟩;show RD _ _ d (args'.getD i cJ);rw [List.getD_eq_getElem?_getD,h3];exact h4
theorem IE{e:Ex}(h:xD e=true):e= .normal∨e= .ret:=by
 cases e with
 |normal=>exact .inl rfl
 |ret=>exact .inr rfl
 |exit id=>simp [xD]at h
theorem IF(hG:GOk G E D0)(A:iy):∀(c n:Nat),D0+c≤n→KI E n (Ij G A c)
 |0,n,hn=>fun R F k args ks κ r V h args' hs hb hsc hr=>by simp [Ij]at hs
 |c+1,n,hn=>fun R F k args ks κ r V h args' hs hb hsc hr=>by
  unfold Ij at hs;split at hs
  ·rename_i fi hfi;obtain⟨g1,g2⟩:=hG.fi k fi hfi;split at hs
   ·rename_i hlen
    match n,hn with
    |n0+1,hn=>
     refine⟨n0,fi,rfl,g1,g2,by rw [Mc hr];exact hlen,?_⟩;have hrel:Rel {F with sl:= [],nt:=fi.nt} {ks with sl:=BW 0 args} V (fA args') h:=Dz ⟨hb.bl,hb.inj⟩ hsc hr hlen;refine(ID (y:=nY) hG (by omega) (IF hG A c n0 (by omega)) fi.body R _ _ _ r V _ h hs hrel).mono fun e s hp=> ?_;obtain⟨ks',V',f',h1,h2,h3,h4⟩:=hp;obtain⟨t,hh⟩:=s;simp only at h1 h2;subst h1;dsimp only at h3
     cases he:xD e with
     |false=>rw [he]at h3;simp at h3
     |true=>
      rw [he]at h3;obtain⟨ds,ds',e1,e2,e3,e4⟩:=yk hG h2 h3;rw [zbE]at e4;obtain⟨d,e5,e6⟩:=e4;obtain⟨k1,k2⟩:=SB e5 e2 e3;exact⟨IE he,ds',e1,ks',V',d,e6,k2,k1,⟨h2.bl,h2.inj⟩,⟨h4.nx,h4.agree,h4.le,h4.dom⟩⟩
   ·simp at hs
  ·simp at hs
theorem tX:∀{e:Ty} (x:e.val),e.plain=true→(be e.row x).all sH=true
 | .I _,_,_=>rfl
 | .B,_,_=>rfl
 | .S _,_,hp=>by simp [Ty.plain]at hp
 | .U,_,_=>rfl
 | .C a b,x,hp=>by
  simp only [Ty.plain,Bool.and_eq_true]at hp;unfold be;show((a.row x.1++b.row x.2).map (pC true)).all sH=true;rw [List.map_append,List.all_append];have h1:=tX x.1 hp.1;have h2:=tX x.2 hp.2;unfold be at h1 h2;rw [h1,h2];rfl
theorem AW{B:BK}:∀{l:List (Bool×List KC)} {ds:List D},RTs B V l ds→RDl B V (l.map mkD) ds
 | [],ds,h=>h
 |x::l,ds,⟨d,s,e,h1,h2⟩=>⟨d,s,e,Kw h1,AW h2⟩
theorem Md(fr:Bool):∀(ts:List TyD) (x:vals ts),(rk fr ts x).length=ts.length
 | [],_=>rfl
 | [t],x=>rfl
 |t::t'::r,x=>by show(rk fr (t'::r) x.2).length+1=_;rw [Md fr (t'::r)];rfl
theorem FW:∀(ts:List TyD) (x:vals ts),(pm ts x).length=ts.length
 | [],_=>rfl
 | [t],x=>rfl
 |t::t'::r,x=>by show(pm (t'::r) x.2).length+1=_;rw [FW (t'::r)];rfl
theorem Nt{B:BK}{ts:List TyD}{ds:List KD}{ds':List D}{x:vals ts}(hd:nN B ts ds=some x)(hr:RDl B V ds ds')(hno:wn ds=false):cQ h ds'=false:=by
 unfold cQ;split
 ·rename_i k m
  match ds,hr,hno,hd with
  | [d],⟨y,s,e,h1,h2⟩,hno,hd=>
   rw [show s= []from h2]at e;simp only [List.cons.injEq,and_true]at e;subst e
   match ts,x,hd with
   | [t],x,hd=>
    have hd':Fz B t d=some x:=hd
    cases d with
    |one c=>
     obtain⟨c',e1,e2⟩:=h1;cases e1
     cases c with
     |o e p=>simp [wn]at hno
     |m e p=>simp [wn]at hno
     |n k y=>exact absurd (show C.own _ 0 _=_ from e2) (by simp)
     |b v=>exact absurd (show C.own _ 0 _=_ from e2) (by simp)
     |p t P d=>exact absurd e2.1 (by simp)
     |bv y=>exact absurd (show C.own _ 0 _=_ from e2) (by simp)
     |v y=>exact absurd (show C.own _ 0 _=_ from e2) (by simp)
     |nil=>exact absurd (show C.own _ 0 _=_ from e2) (by simp)
     |s e fr y=>obtain⟨fl,e3,_⟩:=e2;exact absurd e3 (by simp)
     |ptr p j=>exact absurd (show C.own _ 0 _=_ from e2) (by simp)
     |pe p i j=>exact absurd e2.2 (by simp)
     |ip e fr y i z j=>obtain⟨fl,e3,_⟩:=e2;exact absurd e3 (by simp)
     |clo fn ps=>exact absurd (show C.own _ 0 _=_ from e2) (by simp)
     |yld p=>exact absurd (show C.own _ 0 _=_ from e2) (by simp)
    |agg cs=>obtain⟨c',e1,_⟩:=h1;simp at e1
    |tup ts=>simp [Fz]at hd'
   | [],x,hd=>simp [nN]at hd
   |_::_::_,x,hd=>simp [nN]at hd
  | [],hr,_,_=>exact absurd (show [_]=_ from hr) (by simp)
  |_::_::_,⟨y,s,e,h1,y2,s2,e2,_,_⟩,_,_=>rw [e2]at e;simp at e
 ·rfl
theorem vD{rv:List ResultVar}{e:Ty}{l:List e.val}{k:Nat}{ex:Ex}{s:St}(he:ex= .normal∨ex= .ret)(hres:rv.mapM (dh E s)=some [.one (.own k 0 l.length)])(hg:aP s.h k=some (e.size,l.map (be e.row)))(hp:e.plain=true):gv E rv (.own,[.one (.s true e.size (l.map e.row))]) ex s:=by
 have ho:cQ s.h [.one (.own k 0 l.length)]=true:=by
  simp only [cQ,hg,List.length_map,BEq.rfl,Bool.true_and,List.all_map];rw [List.all_eq_true];exact fun x _=>tX x hp
 have hv:cP s.h (.one (.own k 0 l.length))=some (true,.one (.s true e.size (l.map e.row))):=by
  show(eQ s.h 6 _).bind _=_;rw [fN (r:=e.row) (L:= [[(k,e.size,l.map (be e.row))]]) 0 rfl (fun x h m=>Ay m) s.h (kN hg) 4];rfl
 have key:cZ (fun q:Kind×List TD=>q=(.own,[.one (.s true e.size (l.map e.row))])) ((rv.mapM (dh E s)).bind fun rs=>(rs.mapM (cP s.h)).map fun l=>(if cQ s.h rs then .own else if l.all (·.1)then .fresh else .any,l.map (·.2))):=by
  rw [hres];simp only [zbS,List.mapM_cons,hv,List.mapM_nil,Option.pure_def,zbB,Option.map_some,ho];rfl
 rcases he with rfl|rfl<;>exact key
theorem pr{rv:List ResultVar}{ds':List D}{l:List (Bool×TD)}{ex:Ex}{s:St}(he:ex= .normal∨ex= .ret)(hres:rv.mapM (dh E s)=some ds')(hv:ds'.mapM (cP s.h)=some l)(ho:cQ s.h ds'=false):gv E rv (cond (l.all (·.1)) .fresh .any,l.map (·.2)) ex s:=by
 have key:cZ (fun q:Kind×List TD=>q=(cond (l.all (·.1)) .fresh .any,l.map (·.2))) ((rv.mapM (dh E s)).bind fun rs=>(rs.mapM (cP s.h)).map fun l=>(if cQ s.h rs then .own else if l.all (·.1)then .fresh else .any,l.map (·.2))):=by
  rw [hres];simp only [zbS,hv,Option.map_some,ho];show(_,_)=(_,_);cases l.all (·.1)<;>rfl
 rcases he with rfl|rfl<;>exact key
theorem SC(hG:GOk G E D0)(A:iy){fi:FI}{k:FuncId}{c:Nat}{ins:List TyD}{ok:OutK}{x:vals ins}{out:ok.val}(hax:E.ax k=none)(hf:E.fn k=some fi)(hl:ins.length≤fi.nt)(hs:jy G A fi k c ins ok x=some out)(m:Nat):LO E (m+(D0+c)+1) k (pm ins x) ok out:=by
 unfold jy at hs;have hb:Qs {nt:=fi.nt} {sl:= [],bl:= [],nx:=0} ⟨fun _=>0,fun _=>false⟩ []:=⟨fun p b hb=>by simp [aT,bS,aC]at hb,fun p q b b' hb=>by simp [aT,bS,aC]at hb⟩;have hargs:RDl (aT {nt:=fi.nt} {sl:= [],bl:= [],nx:=0}) ⟨fun _=>0,fun _=>false⟩ ((rk false ins x).map mkD) ((pm ins x).map (dj false)):=AW (vt (fun h=>h) ins x)
 have hsc:∀d∈(rk false ins x).map mkD,ScD 0 d:=fun d hd=>by
  obtain⟨y,h1,rfl⟩:=List.mem_map.1 hd;exact yh (Az 0 false ins x y h1)
 have hrel:Rel {nt:=fi.nt} {sl:=LM ins x,bl:= [],nx:=0} ⟨fun _=>0,fun _=>false⟩ (fA ((pm ins x).map (dj false))) []:=Dz (F:={nt:=fi.nt}) hb hsc hargs (by rw [List.length_map,Md];exact hl);have hw:=ID (y:=nY) (n:=m+(D0+c)) hG (by omega) (IF hG A c _ (by omega)) fi.body ok.val _ _ _ out _ _ [] hs hrel;have hend:∀r,(∀e s,PostC {nt:=fi.nt} {sl:=LM ins x,bl:= [],nx:=0} ⟨fun _=>0,fun _=>false⟩ (fun e ks=>cond (xD e) (FE G {nt:=fi.nt} ks fi.results fun ds=>FF (aT {nt:=fi.nt} ks) ok ds) none) out e s→gv E fi.results r e s)→RunsP E (m+(D0+c)+1) k (pm ins x) r:=fun r hq=>pf hax hf (by rw [FW];exact hl) (hw.mono hq)
 have hopen:∀e s,PostC {nt:=fi.nt} {sl:=LM ins x,bl:= [],nx:=0} ⟨fun _=>0,fun _=>false⟩ (fun e ks=>cond (xD e) (FE G {nt:=fi.nt} ks fi.results fun ds=>FF (aT {nt:=fi.nt} ks) ok ds) none) out e s→∃ks' V' f' ds ds',(e= .normal∨e= .ret)∧Rel {nt:=fi.nt} ks' V' f' s.h∧fi.results.mapM (dh E s)=some ds'∧RDl (aT {nt:=fi.nt} ks') V' ds ds'∧FF (aT {nt:=fi.nt} ks') ok ds=some out:=by
  intro e s hp;obtain⟨ks',V',f',h1,h2,h3,h4⟩:=hp;obtain⟨t,hh⟩:=s;simp only at h1 h2;subst h1;dsimp only at h3
  cases he:xD e with
  |false=>rw [he]at h3;simp at h3
  |true=>
   rw [he]at h3;obtain⟨ds,ds',e1,e2,e3,e4⟩:=yk hG h2 h3;exact⟨ks',V',f',ds,ds',IE he,h2,e1,e2,e4⟩
 cases ok with
 |data fr ts=>
  have hdata:∀(ks':KS) (V':Vl) (ds:List KD) (ds':List D) (hh:aE) (f':Nat→D),Rel {nt:=fi.nt} ks' V' f' hh→RDl (aT {nt:=fi.nt} ks') V' ds ds'→FF (aT {nt:=fi.nt} ks') (.data fr ts) ds=some out→∃l,ds'.mapM (cP hh)=some l∧l.map (·.2)=pm ts out∧(fr=true→l.all (·.1)=true)∧cQ hh ds'=false:=by
   intro ks' V' ds ds' hh f' h2 e2 e4;unfold FF at e4;simp only at e4;split at e4
   ·simp at e4
   ·rename_i hc;obtain⟨l,l1,l2,l3⟩:=tJ h2.bls e4 e2
    have hno:wn ds=false:=by cases ho:wn ds with|true=>simp [ho]at hc|false=>rfl
    refine⟨l,l1,l2,fun hfr=>l3 ?_,Nt e4 e2 hno⟩
    cases ha:ds.all frD with
    |true=>rfl
    |false=>simp [hfr,ha]at hc
  cases fr with
  |true=>
   refine hend _ fun e s hp=> ?_;obtain⟨ks',V',f',ds,ds',he,h2,e1,e2,e4⟩:=hopen e s hp;obtain⟨l,l1,l2,l3,l4⟩:=hdata ks' V' ds ds' s.h f' h2 e2 e4
   have:=pr (E:=E) he e1 l1 l4
   rw [l3 rfl,l2]at this;exact this
  |false=>
   -- is it new? that is settled when it has run
   obtain⟨e,s,hrun,hp⟩:=hw;obtain⟨ks',V',f',ds,ds',he,h2,e1,e2,e4⟩:=hopen e s hp;obtain⟨l,l1,l2,_,l4⟩:=hdata ks' V' ds ds' s.h f' h2 e2 e4
   have:=pr (E:=E) he e1 l1 l4
   rw [l2]at this;exact⟨l.all (·.1),pf hax hf (by rw [FW];exact hl) ⟨e,s,hrun,this⟩⟩
 |own ty=>
  refine hend _ fun e s hp=> ?_;obtain⟨ks',V',f',ds,ds',he,h2,e1,e2,e4⟩:=hopen e s hp;unfold FF at e4;simp only at e4;unfold Qd at e4;split at e4
  ·rename_i e0 p;split at e4
   ·rename_i e' ne l hB;split at e4
    ·rename_i hpl;rw [Option.map_eq_some_iff]at e4;obtain⟨l2,g0,rfl⟩:=e4;obtain⟨hty,g0⟩:=bU g0;cases hty;subst g0;obtain⟨y,s',e5,⟨c',e6,e7⟩,e8⟩:=e2;rw [show s'= []from e8]at e5;rw [e5,e6,e7 _ _ _ hB]at e1;exact vD he e1 (h2.bl p _ hB).2.2.1 hpl
    ·simp at e4
   ·simp at e4
  ·simp at e4
 |mown ty=>
  refine hend _ fun e s hp=> ?_;obtain⟨ks',V',f',ds,ds',he,h2,e1,e2,e4⟩:=hopen e s hp
  have hnil:∀{ds'':List D},RDl (aT {nt:=fi.nt} ks') V' [.one .nil] ds''→fi.results.mapM (dh E s)=some ds''→gv E fi.results (PH ty.size ty.row []) e s:=by
   intro ds'' e2 e1;obtain⟨y,s',e5,⟨c',e6,e7⟩,e8⟩:=e2;rw [show s'= []from e8]at e5;rw [e5,e6,show c'=_ from e7]at e1;exact pr (E:=E) (l:= [(true,.one (.s false 0 []))]) he e1 rfl rfl
  unfold FF at e4;simp only at e4;unfold LK at e4;split at e4
  ·cases e4;exact hnil e2 e1
  ·rename_i e0 p;split at e4
   ·rename_i e' l hB;split at e4
    ·rename_i hpl;rw [Option.map_eq_some_iff]at e4;obtain⟨l2,g0,rfl⟩:=e4;obtain⟨hty,g0⟩:=bU g0;cases hty;subst g0;obtain⟨y,s',e5,⟨c',e6,e7⟩,e8⟩:=e2;rw [show s'= []from e8]at e5;rw [e5,e6,e7 _ _ hB]at e1
     cases l with
     |nil=>exact pr (E:=E) (l:= [(true,.one (.s false 0 []))]) he e1 rfl rfl
     |cons a l=>exact vD he e1 ((h2.bl p _ hB).2.2 (by simp)) hpl
    ·simp at e4
   ·simp at e4
  ·rename_i e0 p;split at e4
   ·rename_i e' ne l hB;split at e4
    ·rename_i hpl;rw [Bool.and_eq_true]at hpl;rw [Option.map_eq_some_iff]at e4;obtain⟨l2,g0,rfl⟩:=e4;obtain⟨hty,g0⟩:=bU g0;cases hty;subst g0;obtain⟨y,s',e5,⟨c',e6,e7⟩,e8⟩:=e2;rw [show s'= []from e8]at e5;rw [e5,e6,e7 _ _ _ hB]at e1;obtain⟨w1,w2,w3,w4⟩:=h2.bl p _ hB
     cases l with
     |nil=>exact absurd rfl (w4 hpl.2)
     |cons a l=>exact vD he e1 w3 hpl.1
    ·simp at e4
   ·simp at e4
  ·simp at e4
 |gown ty=>
  refine hend _ fun e s hp=> ?_;obtain⟨ks',V',f',ds,ds',he,h2,e1,e2,e4⟩:=hopen e s hp;unfold FF at e4;simp only at e4;unfold LL at e4;split at e4
  ·cases e4;obtain⟨y,s',e5,⟨c',e6,e7⟩,e8⟩:=e2;rw [show s'= []from e8]at e5;rw [e5,e6,show c'=_ from e7]at e1;exact pr (E:=E) (l:= [(true,.one (.s false 0 []))]) he e1 rfl rfl
  ·rename_i e0 p;split at e4
   ·rename_i e' l hB;split at e4
    ·rename_i hpl;rw [Option.map_eq_some_iff]at e4;obtain⟨l2,g0,rfl⟩:=e4;obtain⟨hty,g0⟩:=bU g0;cases hty;subst g0;obtain⟨y,s',e5,⟨c',e6,e7⟩,e8⟩:=e2;rw [show s'= []from e8]at e5;rw [e5,e6,e7 _ _ hB]at e1
     cases l with
     |nil=>exact pr (E:=E) (l:= [(true,.one (.s false 0 []))]) he e1 rfl rfl
     |cons a l=>exact vD he e1 ((h2.bl p _ hB).2.2 (by simp)) hpl
    ·simp at e4
   ·simp at e4
  ·rename_i e0 p;split at e4
   ·rename_i e' ne l hB;split at e4
    ·rename_i hpl;rw [Option.map_eq_some_iff]at e4;obtain⟨l2,g0,rfl⟩:=e4;obtain⟨hty,g0⟩:=bU g0;cases hty;subst g0;obtain⟨y,s',e5,⟨c',e6,e7⟩,e8⟩:=e2;rw [show s'= []from e8]at e5;rw [e5,e6,e7 _ _ _ hB]at e1;exact vD he e1 (h2.bl p _ hB).2.2.1 hpl
    ·simp at e4
   ·simp at e4
  ·simp at e4
end
end K
end Ev
end
noncomputable section
namespace Ev
namespace K
open Go Go.RowKit
def VI(E:Env)(D:Nat):List dv→Prop
 | []=>True
 |e::r=>(e.d≤D∧bV E e)∧VI E D r
def VJ(E:Env):List (FuncId×FI)→Prop
 | []=>True
 |x::r=>(E.fn x.1=some x.2∧E.ax x.1=some fun _=>none)∧VJ E r
def SD(E:Env):List (Nat×TI)→Prop
 | []=>True
 |x::r=>E.ti x.1=some x.2∧SD E r
def SE(P:Program):List (Nat×List IntKind)→Prop
 | []=>True
 |x::r=>So P x.1 x.2∧SE P r
theorem IG{E:Env}{D:Nat}:∀{l:List dv},VI E D l→∀e∈l,e.d≤D∧bV E e
 | [],_,e,h=>by simp at h
 |a::l,⟨h1,h2⟩,e,h=>by
  rcases List.mem_cons.1 h with rfl|h
  ·exact h1
  ·exact IG h2 e h
theorem DA{E:Env}:∀{l:List (FuncId×FI)},VJ E l→∀k f,aC l k=some f→E.fn k=some f∧E.ax k=some fun _=>none
 | [],_,k,f,h=>by simp [aC]at h
 |a::l,⟨h1,h2⟩,k,f,h=>by
  rw [show a::l=(a.1,a.2)::l from rfl,bq]at h;split at h
  ·rename_i hk;cases h;subst hk;exact h1
  ·exact DA h2 k f h
theorem DB{E:Env}:∀{l:List (Nat×TI)},SD E l→∀k f,aC l k=some f→E.ti k=some f
 | [],_,k,f,h=>by simp [aC]at h
 |a::l,⟨h1,h2⟩,k,f,h=>by
  rw [show a::l=(a.1,a.2)::l from rfl,bq]at h;split at h
  ·rename_i hk;cases h;subst hk;exact h1
  ·exact DB h2 k f h
theorem DC{P:Program}:∀{l:List (Nat×List IntKind)},SE P l→∀k f,aC l k=some f→So P k f
 | [],_,k,f,h=>by simp [aC]at h
 |a::l,⟨h1,h2⟩,k,f,h=>by
  rw [show a::l=(a.1,a.2)::l from rfl,bq]at h;split at h
  ·rename_i hk;cases h;subst hk;exact h1
  ·exact DC h2 k f h
theorem gok{E:Env}{D:Nat}{tt:List (Nat×TI)}{eqs:List (Nat×List IntKind)}{fns:List dv}{fi:List (FuncId×FI)}(hE:E.Ok)(ht:SD E tt)(hq:SE E.P eqs)(hf:VI E D fns)(hi:VJ E fi):GOk ⟨tt,eqs,fns,fi⟩ E D:=⟨hE,DB ht,DC hq,IG hf,DA hi⟩
def mkE(G:KG)(A:iy)(fi:FI)(k:FuncId)(c:Nat)(ins:List TyD)(out:OutK)(d:Nat):dv:=⟨k,ins,out,jy G A fi k c ins out,d⟩
theorem dB{E:Env}{D:Nat}{G:KG}{A:iy}{fi:FI}{k:FuncId}{c:Nat}{ins:List TyD}{out:OutK}{d:Nat}(hG:GOk G E D)(hax:E.ax k=none)(hf:E.fn k=some fi)(hl:Nat.ble ins.length fi.nt=true)(hd:D+c+1=d):bV E (mkE G A fi k c ins out d):=fun m a o h=>by
 subst hd;exact SC hG A hax hf (Nat.le_of_ble_eq_true hl) h m
def fiF(f:Func):FI:=⟨f.ntmps,f.results.toList,f.body.getD .skip⟩
theorem eO{P:Program}{k:FuncId}{f:Func}{b:Code}(h:P.funcs[k]? =some f)(hb:f.body=some b):aU P k=some (fiF f):=by
 unfold aU fiF;rw [h];simp only [hb];rfl
theorem XJ{P:Program}{ty:TypeId}{k0 k1:IntKind}(h:∀(x y:Operand) (a0 b0 a1 b1:Int),az P (do eqGuard .eql ty x y (.agg #[.int k0 a0,.int k1 a1]) (.agg #[.int k0 b0,.int k1 b1]);binOp .eql ty (.agg #[.int k0 a0,.int k1 a1]) (.agg #[.int k0 b0,.int k1 b1]))=some (.bool (a0==b0 &&(a1==b1 && true))))
  (h':∀(x y:Operand) (a0 b0 a1 b1:Int),az P (do eqGuard .neq ty x y (.agg #[.int k0 a0,.int k1 a1]) (.agg #[.int k0 b0,.int k1 b1]);binOp .neq ty (.agg #[.int k0 a0,.int k1 a1]) (.agg #[.int k0 b0,.int k1 b1]))=some (.bool (!(a0==b0 &&(a1==b1 && true))))):So P ty [k0,k1]:=fun x y l hl=>by
 match l,hl with
 | [(a0,b0),(a1,b1)],_=>
  have e:(a0==b0 &&(a1==b1 && true))= @decide (eqP [(a0,b0),(a1,b1)]) (eqD [(a0,b0),(a1,b1)]):=jr (by simp [eqP]);exact⟨(h x y a0 b0 a1 b1).trans (by rw [e]),(h' x y a0 b0 a1 b1).trans (by rw [e])⟩
end K
@[reducible] def nE {R:Type} (v:Empty):Option R:=K.afterX.match_1 (fun _=>Option R) v
end Ev
end
noncomputable section
namespace Ev
namespace K
open Go Go.RowKit
set_option maxRecDepth 100000
set_option maxHeartbeats 1000000
def i1:TI:=(⟨.func #[] #[] false,[.nilFunc],1,8⟩:TI)
def i4:TI:=(⟨.bool,[.bool false],1,1⟩:TI)
def i7:TI:=(⟨.struct (bE Tryd.prog 7),[.int .i64 0,.int .i64 0,.bool false,.int .u8 0],4,24⟩:TI)
def i8:TI:=(⟨.struct (bE Tryd.prog 8),[.int .i64 0,.int .i64 0,.bool false,.int .u8 0],4,24⟩:TI)
def i15:TI:=(⟨.pointer 149,[.pointer none],1,8⟩:TI)
def i16:TI:=(⟨.pointer 152,[.pointer none],1,8⟩:TI)
def i17:TI:=(⟨.pointer 162,[.pointer none],1,8⟩:TI)
def i18:TI:=(⟨.struct (bE Tryd.prog 18),[.pointer none],1,8⟩:TI)
def i19:TI:=(⟨.struct (bE Tryd.prog 19),[.pointer none],1,8⟩:TI)
def i23:TI:=(⟨.array 2 5,[.int .u8 0,.int .u8 0],2,2⟩:TI)
def i24:TI:=(⟨.slice 87,[.slice none 0 0],1,24⟩:TI)
def i25:TI:=(⟨.slice 66,[.slice none 0 0],1,24⟩:TI)
def i26:TI:=(⟨.slice 50,[.slice none 0 0],1,24⟩:TI)
def i27:TI:=(⟨.struct (bE Tryd.prog 27),[.int .i64 0,.int .u8 0,.int .u8 0,.slice none 0 0,.slice none 0 0,.slice none 0 0,.slice none 0 0,.bool false],8,120⟩:TI)
def i28:TI:=(⟨.struct (bE Tryd.prog 28),[.int .i64 0,.int .u8 0,.int .u8 0,.slice none 0 0,.slice none 0 0,.slice none 0 0,.slice none 0 0,.bool false],8,120⟩:TI)
def i29:TI:=(⟨.func #[22] #[22] false,[.nilFunc],1,8⟩:TI)
def i30:TI:=(⟨.slice 3,[.slice none 0 0],1,24⟩:TI)
def i31:TI:=(⟨.slice 2,[.slice none 0 0],1,24⟩:TI)
def i32:TI:=(⟨.struct (bE Tryd.prog 32),[.int .i64 0,.int .i64 0,.slice none 0 0,.slice none 0 0,.slice none 0 0],5,88⟩:TI)
def i33:TI:=(⟨.struct (bE Tryd.prog 33),[.int .i64 0,.int .i64 0,.slice none 0 0,.slice none 0 0,.slice none 0 0],5,88⟩:TI)
def i34:TI:=(⟨.func #[] #[33] false,[.nilFunc],1,8⟩:TI)
def i35:TI:=(⟨.struct (bE Tryd.prog 35),[.int .i64 0,.slice none 0 0],2,32⟩:TI)
def i36:TI:=(⟨.struct (bE Tryd.prog 36),[.int .i64 0,.slice none 0 0],2,32⟩:TI)
def i37:TI:=(⟨.func #[25] #[36] false,[.nilFunc],1,8⟩:TI)
def i38:TI:=(⟨.func #[] #[26] false,[.nilFunc],1,8⟩:TI)
def i39:TI:=(⟨.struct (bE Tryd.prog 39),[.int .i64 0,.int .i64 0,.slice none 0 0,.slice none 0 0,.slice none 0 0,.slice none 0 0],6,112⟩:TI)
def i40:TI:=(⟨.struct (bE Tryd.prog 40),[.int .i64 0,.int .i64 0,.slice none 0 0,.slice none 0 0,.slice none 0 0,.slice none 0 0],6,112⟩:TI)
def i41:TI:=(⟨.func #[33] #[40] false,[.nilFunc],1,8⟩:TI)
def i44:TI:=(⟨.func #[22,40,36,26,4] #[36,42] false,[.nilFunc],1,8⟩:TI)
def i45:TI:=(⟨.func #[22,33,47,26,4] #[36,42] false,[.nilFunc],1,8⟩:TI)
def i46:TI:=(⟨.struct (bE Tryd.prog 46),[.int .i64 0,.slice none 0 0,.slice none 0 0],3,56⟩:TI)
def i47:TI:=(⟨.struct (bE Tryd.prog 47),[.int .i64 0,.slice none 0 0,.slice none 0 0],3,56⟩:TI)
def i48:TI:=(⟨.func #[36] #[47] false,[.nilFunc],1,8⟩:TI)
def i49:TI:=(⟨.func #[22,3,55] #[36,42] false,[.nilFunc],1,8⟩:TI)
def i51:TI:=(⟨.struct (bE Tryd.prog 51),[.int .i64 0,.int .u64 0],2,16⟩:TI)
def i52:TI:=(⟨.struct (bE Tryd.prog 52),[.int .i64 0,.int .u64 0],2,16⟩:TI)
def i53:TI:=(⟨.struct (bE Tryd.prog 53),[.int .i64 0,.int .i64 0,.int .u64 0],3,24⟩:TI)
def i54:TI:=(⟨.struct (bE Tryd.prog 54),[.int .i64 0,.int .i64 0,.int .u64 0],3,24⟩:TI)
def i55:TI:=(⟨.slice 54,[.slice none 0 0],1,24⟩:TI)
def i56:TI:=(⟨.func #[36,36] #[4] false,[.nilFunc],1,8⟩:TI)
def i57:TI:=(⟨.func #[40,36] #[3] false,[.nilFunc],1,8⟩:TI)
def i58:TI:=(⟨.func #[3,2] #[36] false,[.nilFunc],1,8⟩:TI)
def i59:TI:=(⟨.func #[33] #[3] false,[.nilFunc],1,8⟩:TI)
def i60:TI:=(⟨.func #[28] #[4] false,[.nilFunc],1,8⟩:TI)
def i61:TI:=(⟨.func #[23,24] #[33] false,[.nilFunc],1,8⟩:TI)
def i62:TI:=(⟨.func #[22,2] #[2] false,[.nilFunc],1,8⟩:TI)
def i63:TI:=(⟨.func #[5,25] #[36] false,[.nilFunc],1,8⟩:TI)
def i64:TI:=(⟨.func #[5] #[3] false,[.nilFunc],1,8⟩:TI)
def i65:TI:=(⟨.struct (bE Tryd.prog 65),[.int .i64 0,.int .i64 0],2,16⟩:TI)
def i66:TI:=(⟨.struct (bE Tryd.prog 66),[.int .i64 0,.int .i64 0],2,16⟩:TI)
def i67:TI:=(⟨.func #[33] #[33] false,[.nilFunc],1,8⟩:TI)
def i70:TI:=(⟨.func #[30] #[69] false,[.nilFunc],1,8⟩:TI)
def i72:TI:=(⟨.func #[22,40,36,26,4] #[55,42] false,[.nilFunc],1,8⟩:TI)
def i73:TI:=(⟨.func #[40] #[40] false,[.nilFunc],1,8⟩:TI)
def i74:TI:=(⟨.func #[22,33,47,26,4] #[55,42] false,[.nilFunc],1,8⟩:TI)
def i75:TI:=(⟨.func #[36] #[4] false,[.nilFunc],1,8⟩:TI)
def i76:TI:=(⟨.func #[3] #[47] false,[.nilFunc],1,8⟩:TI)
def i77:TI:=(⟨.func #[3,30] #[26] true,[.nilFunc],1,8⟩:TI)
def i78:TI:=(⟨.func #[36] #[30] false,[.nilFunc],1,8⟩:TI)
def i79:TI:=(⟨.func #[22,3,55] #[42] false,[.nilFunc],1,8⟩:TI)
def i81:TI:=(⟨.func #[22,52] #[2,4] false,[.nilFunc],1,8⟩:TI)
def i82:TI:=(⟨.func #[22] #[2] false,[.nilFunc],1,8⟩:TI)
def i83:TI:=(⟨.func #[25,25] #[4] false,[.nilFunc],1,8⟩:TI)
def i84:TI:=(⟨.func #[40,30] #[3] false,[.nilFunc],1,8⟩:TI)
def i85:TI:=(⟨.func #[24] #[24] false,[.nilFunc],1,8⟩:TI)
def i86:TI:=(⟨.struct (bE Tryd.prog 86),[.int .i64 0,.int .i64 0,.int .i64 0],3,24⟩:TI)
def i87:TI:=(⟨.struct (bE Tryd.prog 87),[.int .i64 0,.int .i64 0,.int .i64 0],3,24⟩:TI)
def i89:TI:=(⟨.func #[22,3,3,24] #[33,42] false,[.nilFunc],1,8⟩:TI)
def i90:TI:=(⟨.func #[3,3] #[33] false,[.nilFunc],1,8⟩:TI)
def i91:TI:=(⟨.func #[22,3,25] #[36,42] false,[.nilFunc],1,8⟩:TI)
def i92:TI:=(⟨.func #[30] #[] false,[.nilFunc],1,8⟩:TI)
def i93:TI:=(⟨.func #[30] #[30] false,[.nilFunc],1,8⟩:TI)
def i95:TI:=(⟨.func #[33,3] #[30,31] false,[.nilFunc],1,8⟩:TI)
def i96:TI:=(⟨.func #[3,3] #[4] false,[.nilFunc],1,8⟩:TI)
def i97:TI:=(⟨.func #[22] #[4] false,[.nilFunc],1,8⟩:TI)
def i98:TI:=(⟨.slice 104,[.slice none 0 0],1,24⟩:TI)
def XK:TI:=(⟨.func #[40,36] #[100] false,[.nilFunc],1,8⟩:TI)
def XL:TI:=(⟨.pointer 104,[.pointer none],1,8⟩:TI)
def XM:TI:=(⟨.struct (bE Tryd.prog 103),[.int .i64 0,.int .u64 0,.bool false],3,24⟩:TI)
def XN:TI:=(⟨.struct (bE Tryd.prog 104),[.int .i64 0,.int .u64 0,.bool false],3,24⟩:TI)
def XO:TI:=(⟨.func #[22,2,2] #[52] false,[.nilFunc],1,8⟩:TI)
def XP:TI:=(⟨.func #[22,52,52] #[52] false,[.nilFunc],1,8⟩:TI)
def XQ:TI:=(⟨.func #[26,3] #[4] false,[.nilFunc],1,8⟩:TI)
def XR:TI:=(⟨.func #[40] #[4] false,[.nilFunc],1,8⟩:TI)
def XS:TI:=(⟨.func #[47] #[4] false,[.nilFunc],1,8⟩:TI)
def XU:TI:=(⟨.func #[3] #[52,4] false,[.nilFunc],1,8⟩:TI)
def XV:TI:=(⟨.func #[3,26,4] #[112] false,[.nilFunc],1,8⟩:TI)
def XW:TI:=(⟨.func #[33] #[4] false,[.nilFunc],1,8⟩:TI)
def XX:TI:=(⟨.func #[3] #[4] false,[.nilFunc],1,8⟩:TI)
def XY:TI:=(⟨.func #[3] #[26] false,[.nilFunc],1,8⟩:TI)
def XZ:TI:=(⟨.func #[3] #[50] false,[.nilFunc],1,8⟩:TI)
def Ya:TI:=(⟨.func #[36] #[36] false,[.nilFunc],1,8⟩:TI)
def Yb:TI:=(⟨.func #[52] #[2,4] false,[.nilFunc],1,8⟩:TI)
def Yc:TI:=(⟨.func #[40,3] #[3,3] false,[.nilFunc],1,8⟩:TI)
def Yd:TI:=(⟨.func #[3,3,24] #[33] false,[.nilFunc],1,8⟩:TI)
def Ye:TI:=(⟨.slice 126,[.slice none 0 0],1,24⟩:TI)
def Yf:TI:=(⟨.struct (bE Tryd.prog 125),[.int .i64 0,.int .i64 0,.int .i64 0],3,24⟩:TI)
def Yg:TI:=(⟨.struct (bE Tryd.prog 126),[.int .i64 0,.int .i64 0,.int .i64 0],3,24⟩:TI)
def Yh:TI:=(⟨.func #[22,124] #[124,42] false,[.nilFunc],1,8⟩:TI)
def Yi:TI:=(⟨.func #[3,2] #[4] false,[.nilFunc],1,8⟩:TI)
def Yj:TI:=(⟨.func #[2] #[52] false,[.nilFunc],1,8⟩:TI)
def Yk:TI:=(⟨.func #[52,52] #[52] false,[.nilFunc],1,8⟩:TI)
def Yl:TI:=(⟨.func #[4] #[52] false,[.nilFunc],1,8⟩:TI)
def Ym:TI:=(⟨.func #[2,2] #[52] false,[.nilFunc],1,8⟩:TI)
def Yn:TI:=(⟨.func #[30,3] #[4] false,[.nilFunc],1,8⟩:TI)
def Yo:TI:=(⟨.func #[3] #[3] false,[.nilFunc],1,8⟩:TI)
def Yp:TI:=(⟨.slice 52,[.slice none 0 0],1,24⟩:TI)
def Yq:TI:=(⟨.func #[126,126] #[4] false,[.nilFunc],1,8⟩:TI)
def Yr:TI:=(⟨.func #[52,52] #[3] false,[.nilFunc],1,8⟩:TI)
def Ys:TI:=(⟨.array 4 50,[.int .u64 0,.int .u64 0,.int .u64 0,.int .u64 0],4,32⟩:TI)
def Yt:TI:=(⟨.func #[50,50] #[140] false,[.nilFunc],1,8⟩:TI)
def Yu:TI:=(⟨.func #[52,3] #[52] false,[.nilFunc],1,8⟩:TI)
def Yv:TI:=(⟨.func #[26,3] #[3] false,[.nilFunc],1,8⟩:TI)
def Yw:TI:=(⟨.func #[50] #[3] false,[.nilFunc],1,8⟩:TI)
def Yx:TI:=(⟨.func #[26] #[112] false,[.nilFunc],1,8⟩:TI)
def Yy:TI:=(⟨.array 0 16,[],0,0⟩:TI)
def Yz:TI:=(⟨.struct (bE Tryd.prog 151),[],0,0⟩:TI)
def YA:TI:=(⟨.struct (bE Tryd.prog 152),[],0,0⟩:TI)
def YB:TI:=(⟨.int .u32,[.int .u32 0],1,4⟩:TI)
def YC:TI:=(⟨.func #[163,163] #[4] false,[.nilFunc],1,8⟩:TI)
def YD:TI:=(⟨.pointer 5,[.pointer none],1,8⟩:TI)
def YE:TI:=(⟨.struct (bE Tryd.prog 161),[.int .u64 0,.int .u64 0,.int .u32 0,.int .u8 0,.int .u8 0,.int .u8 0,.int .u8 0,.nilFunc,.pointer none,.int .i32 0,.int .i32 0],11,48⟩:TI)
def YF:TI:=(⟨.struct (bE Tryd.prog 162),[.int .u64 0,.int .u64 0,.int .u32 0,.int .u8 0,.int .u8 0,.int .u8 0,.int .u8 0,.nilFunc,.pointer none,.int .i32 0,.int .i32 0],11,48⟩:TI)
def TT:List (Nat×TI):= [(1,i1),
 (2,(⟨.int .i64,[.int .i64 0],1,8⟩:TI)),
 (3,(⟨.int .i64,[.int .i64 0],1,8⟩:TI)),
 (4,i4),
 (5,(⟨.int .u8,[.int .u8 0],1,1⟩:TI)),
 (6,(⟨.int .u8,[.int .u8 0],1,1⟩:TI)),
 (7,i7),
 (8,i8),
 (12,(⟨.int .u64,[.int .u64 0],1,8⟩:TI)),
 (15,i15),
 (16,i16),
 (17,i17),
 (18,i18),
 (19,i19),
 (21,(⟨.int .i32,[.int .i32 0],1,4⟩:TI)),
 (22,(⟨.int .i64,[.int .i64 0],1,8⟩:TI)),
 (23,i23),
 (24,i24),
 (25,i25),
 (26,i26),
 (27,i27),
 (28,i28),
 (29,i29),
 (30,i30),
 (31,i31),
 (32,i32),
 (33,i33),
 (34,i34),
 (35,i35),
 (36,i36),
 (37,i37),
 (38,i38),
 (39,i39),
 (40,i40),
 (41,i41),
 (42,(⟨.int .i64,[.int .i64 0],1,8⟩:TI)),
 (44,i44),
 (45,i45),
 (46,i46),
 (47,i47),
 (48,i48),
 (49,i49),
 (50,(⟨.int .u64,[.int .u64 0],1,8⟩:TI)),
 (51,i51),
 (52,i52),
 (53,i53),
 (54,i54),
 (55,i55),
 (56,i56),
 (57,i57),
 (58,i58),
 (59,i59),
 (60,i60),
 (61,i61),
 (62,i62),
 (63,i63),
 (64,i64),
 (65,i65),
 (66,i66),
 (67,i67),
 (68,(⟨.func #[96] #[] false,[.nilFunc],1,8⟩:TI)),
 (69,(⟨.func #[96] #[] false,[.nilFunc],1,8⟩:TI)),
 (70,i70),
 (72,i72),
 (73,i73),
 (74,i74),
 (75,i75),
 (76,i76),
 (77,i77),
 (78,i78),
 (79,i79),
 (81,i81),
 (82,i82),
 (83,i83),
 (84,i84),
 (85,i85),
 (86,i86),
 (87,i87),
 (89,i89),
 (90,i90),
 (91,i91),
 (92,i92),
 (93,i93),
 (95,i95),
 (96,i96),
 (97,i97),
 (98,i98),
 (99,(⟨.func #[129] #[] false,[.nilFunc],1,8⟩:TI)),
 (100,(⟨.func #[129] #[] false,[.nilFunc],1,8⟩:TI)),
 (101,XK),
 (102,XL),
 (103,XM),
 (104,XN),
 (105,XO),
 (106,XP),
 (107,XQ),
 (108,XR),
 (109,XS),
 (110,XU),
 (111,(⟨.func #[116] #[] false,[.nilFunc],1,8⟩:TI)),
 (112,(⟨.func #[116] #[] false,[.nilFunc],1,8⟩:TI)),
 (113,XV),
 (115,XW),
 (116,XX),
 (117,XY),
 (118,XZ),
 (119,Ya),
 (120,Yb),
 (122,Yc),
 (123,Yd),
 (124,Ye),
 (125,Yf),
 (126,Yg),
 (128,Yh),
 (129,Yi),
 (130,Yj),
 (131,Yk),
 (132,Yl),
 (133,Ym),
 (134,Yn),
 (135,Yo),
 (136,(⟨.int .u64,[.int .u64 0],1,8⟩:TI)),
 (137,Yp),
 (138,Yq),
 (139,Yr),
 (140,Ys),
 (141,Yt),
 (142,Yu),
 (143,Yv),
 (144,Yw),
 (145,Yx),
 (150,Yy),
 (151,Yz),
 (152,YA),
 (154,YB),
 (155,(⟨.int .u8,[.int .u8 0],1,1⟩:TI)),
 (156,(⟨.int .u8,[.int .u8 0],1,1⟩:TI)),
 (157,YC),
 (158,YD),
 (159,(⟨.int .i32,[.int .i32 0],1,4⟩:TI)),
 (160,(⟨.int .i32,[.int .i32 0],1,4⟩:TI)),
 (161,YE),
 (162,YF)]
theorem tz1:ao Tryd.prog 1=some i1:=by kernel_rfl
theorem tz2:ao Tryd.prog 2=some (⟨.int .i64,[.int .i64 0],1,8⟩:TI):=by kernel_rfl
theorem tz3:ao Tryd.prog 3=some (⟨.int .i64,[.int .i64 0],1,8⟩:TI):=by kernel_rfl
theorem tz4:ao Tryd.prog 4=some i4:=by kernel_rfl
theorem tz5:ao Tryd.prog 5=some (⟨.int .u8,[.int .u8 0],1,1⟩:TI):=by kernel_rfl
theorem tz6:ao Tryd.prog 6=some (⟨.int .u8,[.int .u8 0],1,1⟩:TI):=by kernel_rfl
theorem tz7:ao Tryd.prog 7=some i7:=by kernel_rfl
theorem tz8:ao Tryd.prog 8=some i8:=by kernel_rfl
theorem VP:ao Tryd.prog 12=some (⟨.int .u64,[.int .u64 0],1,8⟩:TI):=by kernel_rfl
theorem VQ:ao Tryd.prog 15=some i15:=by kernel_rfl
theorem VR:ao Tryd.prog 16=some i16:=by kernel_rfl
theorem VS:ao Tryd.prog 17=some i17:=by kernel_rfl
theorem VT:ao Tryd.prog 18=some i18:=by kernel_rfl
theorem VU:ao Tryd.prog 19=some i19:=by kernel_rfl
theorem VV:ao Tryd.prog 21=some (⟨.int .i32,[.int .i32 0],1,4⟩:TI):=by kernel_rfl
theorem Un:ao Tryd.prog 22=some (⟨.int .i64,[.int .i64 0],1,8⟩:TI):=by kernel_rfl
theorem Uo:ao Tryd.prog 23=some i23:=by kernel_rfl
theorem VW:ao Tryd.prog 24=some i24:=by kernel_rfl
theorem Uq:ao Tryd.prog 25=some i25:=by kernel_rfl
theorem Ur:ao Tryd.prog 26=some i26:=by kernel_rfl
theorem VX:ao Tryd.prog 27=some i27:=by kernel_rfl
theorem Us:ao Tryd.prog 28=some i28:=by kernel_rfl
theorem VY:ao Tryd.prog 29=some i29:=by kernel_rfl
theorem Ut:ao Tryd.prog 30=some i30:=by kernel_rfl
theorem Uu:ao Tryd.prog 31=some i31:=by kernel_rfl
theorem VZ:ao Tryd.prog 32=some i32:=by kernel_rfl
theorem Uv:ao Tryd.prog 33=some i33:=by kernel_rfl
theorem Wa:ao Tryd.prog 34=some i34:=by kernel_rfl
theorem Wb:ao Tryd.prog 35=some i35:=by kernel_rfl
theorem Uw:ao Tryd.prog 36=some i36:=by kernel_rfl
theorem Wc:ao Tryd.prog 37=some i37:=by kernel_rfl
theorem We:ao Tryd.prog 38=some i38:=by kernel_rfl
theorem Wf:ao Tryd.prog 39=some i39:=by kernel_rfl
theorem Ux:ao Tryd.prog 40=some i40:=by kernel_rfl
theorem Wh:ao Tryd.prog 41=some i41:=by kernel_rfl
theorem Wi:ao Tryd.prog 42=some (⟨.int .i64,[.int .i64 0],1,8⟩:TI):=by kernel_rfl
theorem Wj:ao Tryd.prog 44=some i44:=by kernel_rfl
theorem Wk:ao Tryd.prog 45=some i45:=by kernel_rfl
theorem Wl:ao Tryd.prog 46=some i46:=by kernel_rfl
theorem Uy:ao Tryd.prog 47=some i47:=by kernel_rfl
theorem Wm:ao Tryd.prog 48=some i48:=by kernel_rfl
theorem Wn:ao Tryd.prog 49=some i49:=by kernel_rfl
theorem Uz:ao Tryd.prog 50=some (⟨.int .u64,[.int .u64 0],1,8⟩:TI):=by kernel_rfl
theorem Wo:ao Tryd.prog 51=some i51:=by kernel_rfl
theorem UA:ao Tryd.prog 52=some i52:=by kernel_rfl
theorem Wp:ao Tryd.prog 53=some i53:=by kernel_rfl
theorem UB:ao Tryd.prog 54=some i54:=by kernel_rfl
theorem UC:ao Tryd.prog 55=some i55:=by kernel_rfl
theorem Wq:ao Tryd.prog 56=some i56:=by kernel_rfl
theorem Wr:ao Tryd.prog 57=some i57:=by kernel_rfl
theorem Ws:ao Tryd.prog 58=some i58:=by kernel_rfl
theorem Wt:ao Tryd.prog 59=some i59:=by kernel_rfl
theorem Wu:ao Tryd.prog 60=some i60:=by kernel_rfl
theorem Wv:ao Tryd.prog 61=some i61:=by kernel_rfl
theorem Ww:ao Tryd.prog 62=some i62:=by kernel_rfl
theorem Wx:ao Tryd.prog 63=some i63:=by kernel_rfl
theorem Wy:ao Tryd.prog 64=some i64:=by kernel_rfl
theorem Wz:ao Tryd.prog 65=some i65:=by kernel_rfl
theorem UD:ao Tryd.prog 66=some i66:=by kernel_rfl
theorem WA:ao Tryd.prog 67=some i67:=by kernel_rfl
theorem WB:ao Tryd.prog 68=some (⟨.func #[96] #[] false,[.nilFunc],1,8⟩:TI):=by kernel_rfl
theorem WC:ao Tryd.prog 69=some (⟨.func #[96] #[] false,[.nilFunc],1,8⟩:TI):=by kernel_rfl
theorem WD:ao Tryd.prog 70=some i70:=by kernel_rfl
theorem WE:ao Tryd.prog 72=some i72:=by kernel_rfl
theorem WF:ao Tryd.prog 73=some i73:=by kernel_rfl
theorem WG:ao Tryd.prog 74=some i74:=by kernel_rfl
theorem WH:ao Tryd.prog 75=some i75:=by kernel_rfl
theorem WI:ao Tryd.prog 76=some i76:=by kernel_rfl
theorem WJ:ao Tryd.prog 77=some i77:=by kernel_rfl
theorem WK:ao Tryd.prog 78=some i78:=by kernel_rfl
theorem WL:ao Tryd.prog 79=some i79:=by kernel_rfl
theorem WM:ao Tryd.prog 81=some i81:=by kernel_rfl
theorem WN:ao Tryd.prog 82=some i82:=by kernel_rfl
theorem WO:ao Tryd.prog 83=some i83:=by kernel_rfl
theorem WP:ao Tryd.prog 84=some i84:=by kernel_rfl
theorem WQ:ao Tryd.prog 85=some i85:=by kernel_rfl
theorem WR:ao Tryd.prog 86=some i86:=by kernel_rfl
theorem WS:ao Tryd.prog 87=some i87:=by kernel_rfl
theorem WT:ao Tryd.prog 89=some i89:=by kernel_rfl
theorem WU:ao Tryd.prog 90=some i90:=by kernel_rfl
theorem WV:ao Tryd.prog 91=some i91:=by kernel_rfl
theorem WW:ao Tryd.prog 92=some i92:=by kernel_rfl
theorem WX:ao Tryd.prog 93=some i93:=by kernel_rfl
theorem WY:ao Tryd.prog 95=some i95:=by kernel_rfl
theorem WZ:ao Tryd.prog 96=some i96:=by kernel_rfl
theorem Xa:ao Tryd.prog 97=some i97:=by kernel_rfl
theorem UE:ao Tryd.prog 98=some i98:=by kernel_rfl
theorem Xc:ao Tryd.prog 99=some (⟨.func #[129] #[] false,[.nilFunc],1,8⟩:TI):=by kernel_rfl
theorem SH:ao Tryd.prog 100=some (⟨.func #[129] #[] false,[.nilFunc],1,8⟩:TI):=by kernel_rfl
theorem SI:ao Tryd.prog 101=some XK:=by kernel_rfl
theorem SJ:ao Tryd.prog 102=some XL:=by kernel_rfl
theorem SK:ao Tryd.prog 103=some XM:=by kernel_rfl
theorem ND:ao Tryd.prog 104=some XN:=by kernel_rfl
theorem SN:ao Tryd.prog 105=some XO:=by kernel_rfl
theorem SO:ao Tryd.prog 106=some XP:=by kernel_rfl
theorem SP:ao Tryd.prog 107=some XQ:=by kernel_rfl
theorem SQ:ao Tryd.prog 108=some XR:=by kernel_rfl
theorem SR:ao Tryd.prog 109=some XS:=by kernel_rfl
theorem NE:ao Tryd.prog 110=some XU:=by kernel_rfl
theorem SS:ao Tryd.prog 111=some (⟨.func #[116] #[] false,[.nilFunc],1,8⟩:TI):=by kernel_rfl
theorem ST:ao Tryd.prog 112=some (⟨.func #[116] #[] false,[.nilFunc],1,8⟩:TI):=by kernel_rfl
theorem SU:ao Tryd.prog 113=some XV:=by kernel_rfl
theorem SV:ao Tryd.prog 115=some XW:=by kernel_rfl
theorem SW:ao Tryd.prog 116=some XX:=by kernel_rfl
theorem SX:ao Tryd.prog 117=some XY:=by kernel_rfl
theorem SY:ao Tryd.prog 118=some XZ:=by kernel_rfl
theorem SZ:ao Tryd.prog 119=some Ya:=by kernel_rfl
theorem Ta:ao Tryd.prog 120=some Yb:=by kernel_rfl
theorem Tb:ao Tryd.prog 122=some Yc:=by kernel_rfl
theorem Tc:ao Tryd.prog 123=some Yd:=by kernel_rfl
theorem NF:ao Tryd.prog 124=some Ye:=by kernel_rfl
theorem Td:ao Tryd.prog 125=some Yf:=by kernel_rfl
theorem NG:ao Tryd.prog 126=some Yg:=by kernel_rfl
theorem Te:ao Tryd.prog 128=some Yh:=by kernel_rfl
theorem Tf:ao Tryd.prog 129=some Yi:=by kernel_rfl
theorem Tg:ao Tryd.prog 130=some Yj:=by kernel_rfl
theorem Ti:ao Tryd.prog 131=some Yk:=by kernel_rfl
theorem Tj:ao Tryd.prog 132=some Yl:=by kernel_rfl
theorem Tl:ao Tryd.prog 133=some Ym:=by kernel_rfl
theorem Tm:ao Tryd.prog 134=some Yn:=by kernel_rfl
theorem Tn:ao Tryd.prog 135=some Yo:=by kernel_rfl
theorem To:ao Tryd.prog 136=some (⟨.int .u64,[.int .u64 0],1,8⟩:TI):=by kernel_rfl
theorem Tp:ao Tryd.prog 137=some Yp:=by kernel_rfl
theorem Tq:ao Tryd.prog 138=some Yq:=by kernel_rfl
theorem Tr:ao Tryd.prog 139=some Yr:=by kernel_rfl
theorem NH:ao Tryd.prog 140=some Ys:=by kernel_rfl
theorem Ts:ao Tryd.prog 141=some Yt:=by kernel_rfl
theorem Tt:ao Tryd.prog 142=some Yu:=by kernel_rfl
theorem Tu:ao Tryd.prog 143=some Yv:=by kernel_rfl
theorem Tv:ao Tryd.prog 144=some Yw:=by kernel_rfl
theorem Tw:ao Tryd.prog 145=some Yx:=by kernel_rfl
theorem Tx:ao Tryd.prog 150=some Yy:=by kernel_rfl
theorem Tz:ao Tryd.prog 151=some Yz:=by kernel_rfl
theorem TA:ao Tryd.prog 152=some YA:=by kernel_rfl
theorem TB:ao Tryd.prog 154=some YB:=by kernel_rfl
theorem TC:ao Tryd.prog 155=some (⟨.int .u8,[.int .u8 0],1,1⟩:TI):=by kernel_rfl
theorem TE:ao Tryd.prog 156=some (⟨.int .u8,[.int .u8 0],1,1⟩:TI):=by kernel_rfl
theorem TF:ao Tryd.prog 157=some YC:=by kernel_rfl
theorem TG:ao Tryd.prog 158=some YD:=by kernel_rfl
theorem TH:ao Tryd.prog 159=some (⟨.int .i32,[.int .i32 0],1,4⟩:TI):=by kernel_rfl
theorem TJ:ao Tryd.prog 160=some (⟨.int .i32,[.int .i32 0],1,4⟩:TI):=by kernel_rfl
theorem TK:ao Tryd.prog 161=some YE:=by kernel_rfl
theorem TL:ao Tryd.prog 162=some YF:=by kernel_rfl
theorem IU:Tryd.prog.follows .mixedOrders=true:=by kernel_rfl
theorem IV:Fl Tryd.prog=true:=by kernel_rfl
def gn:List TD→Option (Kind×List TD):=fun _=>none
theorem SF(x y:Operand)(a0 b0 a1 b1:Int):az Tryd.prog (do eqGuard .eql 52 x y (.agg #[.int .i64 a0,.int .u64 a1]) (.agg #[.int .i64 b0,.int .u64 b1]);binOp .eql 52 (.agg #[.int .i64 a0,.int .u64 a1]) (.agg #[.int .i64 b0,.int .u64 b1]))=some (.bool ((a0==b0 &&(a1==b1 && true)))):=by
 refine Id (by kernel_rfl) ((mY 9999 52 #[.int .i64 a0,.int .u64 a1] #[.int .i64 b0,.int .u64 b1] (fs:=bE Tryd.prog 51) (by kernel_rfl) (by kernel_rfl)).trans ?_);rw [show(bE Tryd.prog 51).toList= [fld Tryd.prog 51 0,fld Tryd.prog 51 1]by kernel_rfl];exact((gM (k:= .i64) (k':= .i64) (by kernel_rfl) (by kernel_rfl) (by kernel_rfl) (by kernel_rfl)).trans (oc ((gM (k:= .u64) (k':= .u64) (by kernel_rfl) (by kernel_rfl) (by kernel_rfl) (by kernel_rfl)).trans (oc ly))))
theorem SG(x y:Operand)(a0 b0 a1 b1:Int):az Tryd.prog (do eqGuard .neq 52 x y (.agg #[.int .i64 a0,.int .u64 a1]) (.agg #[.int .i64 b0,.int .u64 b1]);binOp .neq 52 (.agg #[.int .i64 a0,.int .u64 a1]) (.agg #[.int .i64 b0,.int .u64 b1]))=some (.bool (!(a0==b0 &&(a1==b1 && true)))):=by
 refine Al (by kernel_rfl) ((mY 9999 52 #[.int .i64 a0,.int .u64 a1] #[.int .i64 b0,.int .u64 b1] (fs:=bE Tryd.prog 51) (by kernel_rfl) (by kernel_rfl)).trans ?_);rw [show(bE Tryd.prog 51).toList= [fld Tryd.prog 51 0,fld Tryd.prog 51 1]by kernel_rfl];exact((gM (k:= .i64) (k':= .i64) (by kernel_rfl) (by kernel_rfl) (by kernel_rfl) (by kernel_rfl)).trans (oc ((gM (k:= .u64) (k':= .u64) (by kernel_rfl) (by kernel_rfl) (by kernel_rfl) (by kernel_rfl)).trans (oc ly))))
def EQS:List (Nat×List IntKind):= [(52,[.i64,.u64])]
def YG:FI:=fiF Tryd.f16
def YH:FI:=fiF Tryd.f17
def YI:FI:=fiF Tryd.f20
def YJ:FI:=fiF Tryd.f22
def YK:FI:=fiF Tryd.f36
def YL:FI:=fiF Tryd.f37
def YM:FI:=fiF Tryd.f38
def YN:FI:=fiF Tryd.f39
def VK:FI:=fiF Tryd.f40
def VL:FI:=fiF Tryd.f42
def YO:FI:=fiF Tryd.f43
def YP:FI:=fiF Tryd.f44
def YQ:FI:=fiF Tryd.f51
def YR:FI:=fiF Tryd.f55
def YS:FI:=fiF Tryd.f61
def YT:FI:=fiF Tryd.f62
def YU:FI:=fiF Tryd.f63
def YV:FI:=fiF Tryd.f64
def YW:FI:=fiF Tryd.f65
def YX:FI:=fiF Tryd.f66
def YY:FI:=fiF Tryd.f74
def YZ:FI:=fiF Tryd.f75
def Za:FI:=fiF Tryd.f78
def Zb:FI:=fiF Tryd.f79
def Zc:FI:=fiF Tryd.f81
def Zd:FI:=fiF Tryd.f82
def Ze:FI:=fiF Tryd.f83
def Zf:FI:=fiF Tryd.f84
def Zg:FI:=fiF Tryd.f89
def Zh:FI:=fiF Tryd.f90
def Zi:FI:=fiF Tryd.f91
abbrev yD5:TyD:=(true,.C (.I .u8) (.I .u8))
abbrev yD4:TyD:=(true,.C (.I .i64) (.I .u64))
abbrev yD3:TyD:=(true,.C (.I .i64) (.C (.I .i64) (.I .i64)))
abbrev yD2:TyD:=(false,.S (.C (.I .i64) (.C (.I .i64) (.I .i64))))
abbrev yD1:TyD:=(true,.C (.I .i64) (.C (.I .i64) (.C (.S (.I .i64)) (.C (.S (.I .i64)) (.S (.I .i64))))))
abbrev yD0:TyD:=(true,.C (.I .i64) (.C (.I .i64) (.C (.S (.I .i64)) (.C (.S (.I .i64)) (.C (.S (.I .i64)) (.S (.I .i64)))))))
end K
end Ev
end
noncomputable section
namespace Ev
namespace K
open Go Go.RowKit
end K
end Ev
end
end Go.Proofs.YtgefmokmjdeecaaDoor
