/- Texts of a claim, joined. -/
import Derived.Test.YtjjbpdldbdmoeaaGreatDoorZP8
set_option linter.unusedVariables false
set_option linter.unusedSimpArgs false
namespace Go.Proofs.YtjjbpdldbdmoeaaGreatDoor
noncomputable section
namespace Ev
namespace K
open Go Go.RowKit
theorem Iz{ids:List Nat}{p:Nat}(h:(!(ids.any (Nat.beq p)))=true):p ∉ ids:=by
 intro hp
 have:ids.any (Nat.beq p)=true:=List.any_eq_true.2 ⟨p,hp,Nat.beq_refl p⟩
 rw [this]at h;simp at h
theorem WM{e:KE}{nid p:Nat}{bl bl':List (Nat×KB)}(h:au bl p=au bl' p):au (blE e nid bl) p=au (blE e nid bl') p:=by
 have h1:au (blU e bl) p=au (blU e bl') p:=by
  unfold blU
  cases e.upd with
  |none=>exact h
  |some x=>show au ((x.1,x.2)::bl) p=au ((x.1,x.2)::bl') p;rw [bm,bm,h]
 unfold blE
 cases e.new with
 |none=>exact h1
 |some b=>simp only [bm,h1]
section free
variable {B B' : BK} {V : Vl} {ids : List Nat} (hb : ∀ p, p ∉ ids → B' p = B p)
include hb
theorem RC.free{c:KC}{x:C}(hf:yR ids c=true)(h:RC B V c x):RC B' V c x:=by
 cases c with
 |o e p=>intro e' ne l hl;rw [hb p (Iz (ids:=ids) (p:=p) hf)]at hl;exact h e' ne l hl
 |m e p=>intro e' l hl;rw [hb p (Iz (ids:=ids) (p:=p) hf)]at hl;exact h e' l hl
 |_=>exact h
theorem RCs.free:∀{l:List KC} {xs:List C},l.all (yR ids)=true->RCs B V l xs->RCs B' V l xs
 | [],xs,hf,h=>h
 |c::l,xs,hf,⟨x,s,e,h1,h2⟩=>by
  rw [List.all_cons,Bool.and_eq_true]at hf;exact⟨x,s,e,RC.free hb hf.1 h1,RCs.free hf.2 h2⟩
theorem RD1.free{k:KD}{d:D}(hf:Cv ids k=true)(h:RD1 B V k d):RD1 B' V k d:=by
 cases k with
 |one c=>obtain⟨c',h1,h2⟩:=h;exact⟨c',h1,RC.free hb hf h2⟩
 |agg cs=>obtain⟨c',h1,h2⟩:=h;exact⟨c',h1,RCs.free hb hf h2⟩
 |tup ts=>exact h
omit hb in
theorem WN{x:Bool×List KC}(hf:x.2.all (yR ids)=true):Cv ids (mkD x)=true:=by
 obtain⟨b,cs⟩:=x
 cases b with
 |true=>exact hf
 |false=>match cs,hf with
  | [],hf=>exact hf
  | [c],hf=>simpa [mkD,Cv]using hf
  |c::d::r,hf=>exact hf
theorem RTs.free:∀{l:List (Bool×List KC)} {xs:List D},(l.all λx=>x.2.all (yR ids))=true->RTs B V l xs->RTs B' V l xs
 | [],xs,hf,h=>h
 |c::l,xs,hf,⟨x,s,e,h1,h2⟩=>by
  rw [List.all_cons,Bool.and_eq_true]at hf;exact⟨x,s,e,RD1.free hb (WN hf.1) h1,RTs.free hf.2 h2⟩
theorem RD.free{k:KD}{d:D}(hf:Cv ids k=true)(h:RD B V k d):RD B' V k d:=by
 cases k with
 |one c=>exact RD1.free (k:= .one c) hb hf h
 |agg cs=>exact RD1.free (k:= .agg cs) hb hf h
 |tup ts=>obtain⟨ds,h1,h2⟩:=h;exact⟨ds,h1,RTs.free hb hf h2⟩
theorem BlkIs.free{b:KB}{x:Blk}(hf:Wq ids b=true)(h:BlkIs B V x b):BlkIs B' V x b:=by
 cases b with
 |box cs=>obtain⟨sz,cs',g1,g2⟩:=h;exact⟨sz,cs',g1,RCs.free hb hf g2⟩
 |rows e ne l=>exact h
 |mrows e l=>exact h
 |dead=>exact h
end free
theorem On{ids:List Nat}{tag:Nat}{d:KD}:Cv ids (qH tag d)=Cv ids d:=by
 unfold qH;split<;>rfl
section
variable {E : Env} {y : Nat → fP} {n : Nat} {F : KF} {ks : KS} {V : Vl} {f : Nat → D} {h : Heap} {M tag nid : Nat} {op : Op} {G : KG} {D0 : Nat} {R : Type} {r : R}
theorem np{ids:List Nat}{p:Nat}:au (wz ids ks).bl p=if p∈ids then some .dead else au ks.bl p:=by
 show au (ids.map (λp=>(p,KB.dead))++ks.bl) p=_;rw [bK];unfold bS;rcases xN (l:=ids) (p:=p)with⟨h1,h2⟩|⟨h1,h2⟩
 .rw [h1,if_neg h2]
 .rw [h1,if_pos h2]
theorem uU{ids:List Nat}{p:Nat}:aI F (wz ids ks) p=if p∈ids then none else aI F ks p:=by
 unfold aI bS;rw [np];by_cases hp:p∈ids
 .rw [if_pos hp,if_pos hp]
 .rw [if_neg hp,if_neg hp]
theorem ZF{ids:List Nat}{e:KE}{p:Nat}(hp:p ∉ ids):Be F (wz ids ks) nid e p=Be F ks nid e p:=by
 have:=WM (e:=e) (nid:=nid) (show au (wz ids ks).bl p=au ks.bl p by rw [np,if_neg hp])
 unfold Be aI bS;simp only [this]
theorem WO{ids ms:List Nat}(hr:Rel F ks V f h)(hm:∀p b,aI F ks p=some b->b.there->V.id p∈ms->p∈ids):Rel F (wz ids ks) V f (mask h ms):=by
 have hle:LeB ks.nx (aI F ks) (aI F (wz ids ks)):=λp hp=>by
  rw [uU];split
  .exact⟨λe ne l h=>by simp at h,λe l h=>by simp at h⟩
  .exact⟨λe ne l h=>⟨e,ne,l,h,rfl⟩,λe l h=>⟨e,l,h,rfl⟩⟩
 refine⟨λi d hd=> ?_,λp b hb=> ?_,λp q b b' hp hq=> ?_⟩
 .obtain⟨g1,g2,g3⟩:=hr.sl i d hd;exact⟨g1,g2,g3.mono g2 hle (Agree.refl _ _)⟩
 .rw [uU]at hb;split at hb
  .simp at hb
  .rename_i hp;obtain⟨g1,g2,g3⟩:=hr.bl p b hb;refine⟨g1,g2,?_⟩;have g4:=g3.mono g2 hle (Agree.refl _ _);by_cases ht:b.there
   .exact g4.heap (by rw [yO,if_neg λhh=>hp (hm p b hb ht hh)])
   .cases b with
    |mrows e l=>exact λhl=>absurd hl ht
    |dead=>trivial
    |box cs=>exact absurd trivial ht
    |rows e ne l=>exact absurd trivial ht
 .rw [uU]at hp hq;split at hp
  .simp at hp
  .split at hq
   .simp at hq
   .exact hr.inj p q b b' hp hq
open Classical in
def oId(ks:KS)(V:Vl)(p:Nat):List Nat:=if∃b,au ks.bl p=some b/\b.there then [V.id p]else []
def xP(ks:KS)(V:Vl)(l:List Nat):List Nat:=l.flatMap (oId ks V)
def wI(ks:KS)(V:Vl)(O:List (List Nat)):List (List Nat):=O.map (xP ks V)
theorem sL{O:List (List Nat)}{j:Nat}:(wI ks V O).getD j []=xP ks V (O.getD j []):=by
 unfold wI;rw [List.getD_eq_getElem?_getD,List.getElem?_map,List.getD_eq_getElem?_getD];cases O[j]? <;>rfl
theorem rY{l:List Nat}{x:Nat}(h:x∈xP ks V l):∃p∈l,∃b,au ks.bl p=some b/\b.there/\x=V.id p:=by
 unfold xP at h;obtain⟨p,hp,hx⟩:=List.mem_flatMap.1 h;unfold oId at hx;split at hx
 .rename_i hh;obtain⟨b,h1,h2⟩:=hh;exact⟨p,hp,b,h1,h2,by simpa using hx⟩
 .simp at hx
theorem rZ{b:KB}(h:b.there):b≠ .dead:=by rintro rfl;exact h
theorem wJ(hr:Rel F ks V f h){p:Nat}{b:KB}(hp:aI F ks p=some b)(ht:b.there):V.id p<h.length:=
 let⟨_,hz⟩:=uK (hr.bl p b hp).2.2 ht;EO hz
theorem PO(hr:Rel F ks V f h):∀{os rs O:List (List Nat)},djB os rs O=true->DJ (wI ks V os) rs (wI ks V O)
 | [],rs,O,_=>by cases rs<;>trivial
 |o::os,[],O,_=>trivial
 |o::os,r::rs,O,hd=>by
  have hd':((r.all λj=>Ws o (O.getD j []))&& djB os rs O)=true:=hd;rw [Bool.and_eq_true]at hd';refine⟨λj hj x hx=> ?_,PO hr hd'.2⟩;rw [sL];intro hx2;obtain⟨p,p1,b,p2,p3,rfl⟩:=rY hx;obtain⟨q,q1,b',q2,q3,q4⟩:=rY hx2
  have:=hr.inj p q b b' (aC p2 (rZ p3)) (aC q2 (rZ q3)) p3 q3 q4
  subst this;have h1:=List.all_eq_true.1 hd'.1 j hj;unfold Ws at h1;exact Iz (List.all_eq_true.1 h1 p p1) q1
theorem ZG(hr:Rel F ks V f h){O:List (List Nat)}:∀l∈wI ks V O,∀k∈l,k<h.length:=by
 intro l hl k hk;obtain⟨o,h1,rfl⟩:=List.mem_map.1 hl;obtain⟨p,_,b,p2,p3,rfl⟩:=rY hk;exact wJ hr (aC p2 (rZ p3)) p3
section
variable {Rl O : List (List Nat)} {N : List (Bool × List Nat)} {nw : List (Nat × Nat)} {i j p q : Nat}
theorem LI(hj:j∈Rl.getD i [])(hp:p∈O.getD j []):p∈iL Rl O N nw i:=List.mem_flatMap.2 ⟨j,hj,List.mem_append.2 (.inl hp)⟩
theorem LJ(hj:j∈Rl.getD i [])(hq:q∈(N.getD j (false,[])).2)(hp:au nw q=some p):p∈iL Rl O N nw i:=List.mem_flatMap.2 ⟨j,hj,List.mem_append.2 (.inr (List.mem_append.2 (.inl (List.mem_flatMap.2 ⟨q,hq,by rw [hp];exact List.mem_singleton.2 rfl⟩))))⟩
theorem LK(hj:j∈Rl.getD i [])(hn:(N.getD j (false,[])).1=true)(hp:au nw j=some p):p∈iL Rl O N nw i:=List.mem_flatMap.2 ⟨j,hj,List.mem_append.2 (.inr (List.mem_append.2 (.inr (by rw [hn,hp];exact List.mem_singleton.2 rfl))))⟩
end
structure TInv(F:KF)(ks0:KS)(V0:Vl)(b w:Nat)(nw:List (Nat×Nat))(i:Nat)(ks:KS)(V:Vl)(f:Nat->D)(H:Heap):Prop where
 rel:Rel F ks V f H
 ext:Ext F ks0 V0 ks V
 len:H.length=b+w
 th:∀p bl,aI F ks p=some bl->bl.there->(p<ks0.nx/\∃b0,aI F ks0 p=some b0/\b0.there)∨∃j,au nw j=some p
 nw:∀j q,au nw j=some q->j<i/\V.id q=b+j/\q<ks.nx
 free:∀j,i<=j->aE H (b+j)=none
section
variable {ks0 : KS} {V0 : Vl} {f0 : Nat → D} {h0 : Heap} {w i : Nat} {nw : List (Nat × Nat)} {H : Heap} {Rl O : List (List Nat)} {N : List (Bool × List Nat)}
theorem TInv.mask(hr0:Rel F ks0 V0 f0 h0)(hi:TInv F ks0 V0 h0.length w nw i ks V f H){p:Nat}{bl:KB}(hp:aI F ks p=some bl)(ht:bl.there)(hm:V.id p∈(Rl.getD i []).flatMap (bh h0.length (wI ks0 V0 O) N)):p∈iL Rl O N nw i:=by
 obtain⟨j,hj,hx⟩:=List.mem_flatMap.1 hm;unfold bh at hx;rw [sL]at hx;rcases hi.th p bl hp ht with⟨h1,b0,h2,h3⟩|⟨j0,h1⟩
 .rw [(hi.ext.agree p h1).1]at hx;have hlt:=wJ hr0 h2 h3;rcases List.mem_append.1 hx with hx|hx
  .obtain⟨q,q1,b1,q2,q3,q4⟩:=rY hx
   have:=hr0.inj p q b0 b1 h2 (aC q2 (rZ q3)) h3 q3 q4
   subst this;exact LI hj q1
  .exfalso;rcases List.mem_append.1 hx with hx|hx
   .obtain⟨k,_,hk⟩:=List.mem_map.1 hx;omega
   .split at hx
    .have:=List.mem_singleton.1 hx;omega
    .simp at hx
 .obtain⟨h2,h3,h4⟩:=hi.nw j0 p h1;rw [h3]at hx;rcases List.mem_append.1 hx with hx|hx
  .obtain⟨q,q1,b1,q2,q3,q4⟩:=rY hx
   have:=wJ hr0 (aC q2 (rZ q3)) q3
   omega
  .rcases List.mem_append.1 hx with hx|hx
   .obtain⟨k,k1,k2⟩:=List.mem_map.1 hx
    have:k=j0:=by omega
    subst this;exact LJ hj k1 h1
   .split at hx
    .rename_i hn
     have:=List.mem_singleton.1 hx
     have:j0=j:=by omega
     subst this;exact LK hj hn h1
    .simp at hx
theorem sM{b:KB}(h1:isM b=false)(h2:b≠ .dead):b.there:=by
 cases b with
 |mrows e l=>simp [isM]at h1
 |dead=>exact absurd rfl h2
 |box cs=>trivial
 |rows e ne l=>trivial
theorem ZH(hr0:Rel F ks0 V0 f0 h0)(hi:TInv F ks0 V0 h0.length w nw i ks V f H){p:Nat}{b0:KB}(hb:au ks.bl p=some b0)(hd:b0≠ .dead){uo:List (Nat×Blk)}(huo:(b0.there/\∃x,uo= [(V.id p,x)])∨(¬b0.there/\uo= [])):∀(P Q:List Nat),Fk ks0 ks nw p P Q=true->uo.map (·.1)=xP ks0 V0 P++Q.map (h0.length+·)/\∀x∈xP ks0 V0 P++Q.map (h0.length+·),x<h0.length+i
 | [q],[],ho=>by
  have ho':(Nat.beq p q && Wr ks0 ks p)=true:=ho;rw [Bool.and_eq_true]at ho'
  have:=Nat.eq_of_beq_eq_true ho'.1
  subst this;have h2:=ho'.2;unfold Wr at h2;split at h2
  .rename_i x0 y0 hx0 hy0;rw [hb]at hy0;cases hy0;have hx0d:x0≠ .dead:=by rintro rfl;simp at h2
   have hm:isM x0=isM b0:=by
    cases x0 with
    |dead=>exact absurd rfl hx0d
    |_=>simpa using h2
   have hp0:=(hr0.bl p x0 (aC hx0 hx0d)).1
   have key:x0.there↔b0.there:=by
    cases x0 with
    |dead=>exact absurd rfl hx0d
    |box cs=>exact⟨λ_=>sM hm.symm hd,λ_=>trivial⟩
    |rows e ne l=>exact⟨λ_=>sM hm.symm hd,λ_=>trivial⟩
    |mrows e l=>cases b0 with
     |mrows e' l'=>
      obtain⟨e1,l1,g1,g2⟩:=(hi.ext.le p hp0).2 e' l' (aC hb hd);rw [aC hx0 hx0d]at g1;cases g1;show l≠[]↔l'≠[];rw [<-List.length_pos_iff,<-List.length_pos_iff,g2]
     |_=>simp [isM]at hm
   have e1:xP ks0 V0 [p]=oId ks0 V0 p:=by simp [xP]
   rw [e1,List.map_nil,List.append_nil];rcases huo with⟨h3,x,rfl⟩|⟨h3,rfl⟩
   .have h4:oId ks0 V0 p= [V0.id p]:=if_pos ⟨x0,hx0,key.2 h3⟩;rw [h4]
    have:=wJ hr0 (aC hx0 hx0d) (key.2 h3)
    exact⟨by show [V.id p]=_;rw [(hi.ext.agree p hp0).1],λz hz=>by have:=List.mem_singleton.1 hz;omega⟩
   .have h4:oId ks0 V0 p= []:=if_neg λ⟨b,g1,g2⟩=>by rw [hx0]at g1;cases g1;exact h3 (key.1 g2)
    rw [h4];exact⟨rfl,λz hz=>by simp at hz⟩
  .simp at h2
 | [],[j],ho=>by
  have ho':NX ks nw p j=true:=ho;unfold NX at ho';rw [Bool.and_eq_true]at ho';obtain⟨h1,h2⟩:=ho';split at h1
  .rename_i q hq
   have:=Nat.eq_of_beq_eq_true h1
   subst this;rw [hb]at h2;have hth:b0.there:=sM (by simpa using h2) hd;obtain⟨k1,k2,k3⟩:=hi.nw j p hq;rcases huo with⟨_,x,rfl⟩|⟨h3,_⟩
   .refine⟨?_,λz hz=> ?_⟩
    .show [V.id p]=_;rw [k2];simp [xP]
    .have:z=h0.length+j:=by simpa [xP]using hz
     omega
   .exact absurd hth h3
  .simp at h1
 | [],[],ho=>by simp [Fk]at ho
 | [],_::_::_,ho=>by simp [Fk]at ho
 | [_],_::_,ho=>by simp [Fk]at ho
 |_::_::_,_,ho=>by simp [Fk]at ho
theorem WP(hr0:Rel F ks0 V0 f0 h0)(hi:TInv F ks0 V0 h0.length w nw i ks V f H){e:KE}{ids:List Nat}(hef:Fl ks0 ks O N nw i ids e=true)(hupd:∀p b,e.upd=some (p,b)->∃b0,au ks.bl p=some b0/\b0≠ .dead/\ScB ks.nx b/\b0.like b)(hnew:∀b,e.new=some b->ScB ks.nx b/\b≠ .dead){B':BK}{V':Vl}{u:List (Nat×Blk)}(hreal:Wv B' V' V ks (h0.length+i) e u):
  u.map (·.1)=bh h0.length (wI ks0 V0 O) N i/\∀x∈bh h0.length (wI ks0 V0 O) N i,x<h0.length+(i+1):=by
 unfold Fl at hef;simp only [Bool.and_eq_true]at hef;obtain⟨⟨_,h2⟩,h3⟩:=hef;obtain⟨uo,un,rfl,huo,hun⟩:=hreal
 have hO:uo.map (·.1)=xP ks0 V0 (O.getD i [])++(N.getD i (false,[])).2.map (h0.length+·)/\∀x∈xP ks0 V0 (O.getD i [])++(N.getD i (false,[])).2.map (h0.length+·),x<h0.length+i:=by
  cases hu:e.upd with
  |none=>
   rw [hu]at huo h2;simp only [Bool.and_eq_true,List.isEmpty_iff]at h2;rw [show uo= []from huo,h2.1,h2.2];exact⟨rfl,λx hx=>by simp [xP]at hx⟩
  |some z=>
   obtain⟨p,b⟩:=z;rw [hu]at huo h2;simp only [Bool.and_eq_true]at h2;obtain⟨b0,g1,g2,_,_⟩:=hupd p b hu;refine ZH hr0 hi g1 g2 ?_ _ _ h2.2;rcases huo with⟨x,k1,_,k2⟩|⟨k1,_,k2⟩
   .exact .inl ⟨k2 b0 g1,x,k1⟩
   .exact .inr ⟨k2 b0 g1,k1⟩
 have hN:un.map (·.1)=(if(N.getD i (false,[])).1 then [h0.length+i]else []):=by
  cases hn:e.new with
  |none=>
   rw [hn]at hun h3;have h3':(N.getD i (false,[])).1=false:=by simpa using h3
   rw [show un= []from hun,h3'];rfl
  |some b=>
   rw [hn]at hun h3;simp only [Bool.and_eq_true]at h3;rw [h3.1.1];have hth:b.there:=sM (by simpa using h3.2) (hnew b hn).2;rcases hun with⟨x,k1,_,_⟩|⟨_,k2⟩
   .rw [k1];rfl
   .exact absurd hth k2
 unfold bh;rw [sL,List.map_append,hO.1,hN,List.append_assoc];refine⟨rfl,λx hx=> ?_⟩;rw [<-List.append_assoc]at hx;rcases List.mem_append.1 hx with hx|hx
 .have:=hO.2 x hx;omega
 .split at hx
  .have:=List.mem_singleton.1 hx;omega
  .simp at hx
theorem FF:∀(u:List (Nat×Blk)) (H:Heap),(∀x∈u,x.1<H.length)->(Ev.apply H u).length=H.length
 | [],H,h=>rfl
 |x::u,H,h=>by
  have h1:=ju x.2 (h x (by simp));show(Ev.apply (aF H x.1 x.2) u).length=_;rw [FF u _ (λz hz=>by rw [h1];exact h z (by simp [hz])),h1]
theorem CT(hG:GOk G E D0)(hD:D0<=n){ops:Array Oper}{κ:KS->Option R}(hr0:Rel F ks0 V0 f0 h0):∀(l:List Oper) (i:Nat) (nw:List (Nat×Nat)) {ks:KS} {V:Vl} {f:Nat->D} {H:Heap},i+l.length=w->yS G F ops.toList Rl O N ks0 κ i nw l ks=some r->TInv F ks0 V0 h0.length w nw i ks V f H->dq (Post F ks0 V0 κ r) (evW E (cpR E n) ops h0.length (bh h0.length (wI ks0 V0 O) N) (λi=>(Rl.getD i []).flatMap (bh h0.length (wI ks0 V0 O) N)) i l {t:=tab F.nt f,h:=H})
 | [],i,nw,ks,V,f,H,hl,hs,hi=>⟨ks,V,f,rfl,hi.rel,hs,hi.ext⟩
 |o::l,i,nw,ks,V,f,H,hl,hs,hi=>by
  unfold yS at hs;obtain⟨bb,ks1,g1,g2,g3,g4,g5,g6⟩:=Fx hi.rel hs;obtain⟨g,gg1,gg2⟩:=eN g2;have hl':i+1+l.length=w:=by rw [List.length_cons]at hl;omega
  cases bb with
  |false=>
   simp only [cond_false]at g1
   cases hq:NY O N i with
   |false=>rw [hq]at g1;simp at g1
   |true=>
    rw [hq]at g1;simp only [cond_true]at g1;obtain⟨k1,k2⟩:=CN g4 g3;have hi':TInv F ks0 V0 h0.length w nw (i+1) (Ff o.dst ks1) V (upO o.dst cK f) H:=⟨k1,hi.ext.trans (g5.trans k2),hi.len,λp bl hp ht=>let⟨b0,q1,q2⟩:=g6 p bl hp ht;hi.th p b0 q1 q2,λj q hj=>let⟨q1,q2,q3⟩:=hi.nw j q hj;⟨by omega,q2,Nat.lt_of_lt_of_le q3 g5.nx⟩,λj hj=>hi.free j (by omega)⟩;have ih:=CT hG hD hr0 l (i+1) nw hl' g1 hi'
    have hU:bh h0.length (wI ks0 V0 O) N i= []:=by
     unfold NY at hq;simp only [Bool.and_eq_true,List.isEmpty_iff,Bool.not_eq_true']at hq;unfold bh;rw [sL,hq.1.1,hq.1.2,hq.2];rfl
    cases ho:o.dst with
    |none=>rw [ho]at ih;exact NA gg1 ho (jG gg2) (by rw [hU];rfl) (by rw [hU];rfl) (kF _) ih
    |some d=>
     rw [ho]at ih g3;exact Lb gg1 ho (fB (by simpa [lD]using g3)) (jG gg2) (by rw [hU];rfl) (by rw [hU];rfl) (kF _) (by rw [jF];exact ih)
  |true=>
   simp only [cond_true]at g1;obtain⟨op',ks2,k1,k2,k3,k4,k5,k6⟩:=Fy (E:=E) (n:=n) g4 g1;have hi2:TInv F ks0 V0 h0.length w nw i ks2 V f H:=⟨k4,hi.ext.trans (g5.trans k5),hi.len,λp bl hp ht=>let⟨b0,q1,q2⟩:=(g6.trans k6) p bl hp ht;hi.th p b0 q1 q2,λj q hj=>let⟨q1,q2,q3⟩:=hi.nw j q hj;⟨q1,q2,Nat.lt_of_lt_of_le q3 (g5.trans k5).nx⟩,hi.free⟩;have hmr:=WO (ids:=iL Rl O N nw i) (ms:=(Rl.getD i []).flatMap (bh h0.length (wI ks0 V0 O) N)) hi2.rel λp bl hp ht hm=>hi2.mask hr0 hp ht hm;obtain⟨e,e1,e2⟩:=CH (M:=ks2.nx+2) hG hD hmr (Nat.le_refl _) (Nat.le_succ _) (by show ks2.nx<_;omega) (by show ks2.nx+1<_;omega) k1;have e1':cond (Fl ks0 ks2 O N nw i (iL Rl O N nw i) e) (yS G F ops.toList Rl O N ks0 κ (i+1) (nwE e i (ks2.nx+1) nw) l (NV o.dst ks2.nx (ks2.nx+1) e ks2)) none=some r:=e1
   cases hef:Fl ks0 ks2 O N nw i (iL Rl O N nw i) e with
   |false=>rw [hef]at e1';simp at e1'
   |true=>
    rw [hef]at e1';simp only [cond_true]at e1';obtain⟨bo,hrun⟩:=e2.run;obtain⟨v,u,s1,s2,s3⟩:=hrun (h0.length+i)
    have hnot:∀p b,e.upd=some (p,b)->p ∉ iL Rl O N nw i:=λp b hb hp=>by
     obtain⟨b0,q1,q2,_⟩:=e2.upd p b hb;rw [np,if_pos hp]at q1;cases q1;exact q2 rfl
    have hupd:∀p b,e.upd=some (p,b)->∃b0,au ks2.bl p=some b0/\b0≠ .dead/\ScB ks2.nx b/\b0.like b:=λp b hb=>by
     obtain⟨b0,q1,q2⟩:=e2.upd p b hb;rw [np,if_neg (hnot p b hb)]at q1;exact⟨b0,q1,q2⟩
    have hfr:=hef;unfold Fl at hfr;simp only [Bool.and_eq_true]at hfr;obtain⟨⟨f1,f2⟩,f3⟩:=hfr;have hbe:∀p,p ∉ iL Rl O N nw i->Be F ks2 (ks2.nx+1) e p=Be F (wz (iL Rl O N nw i) ks2) (ks2.nx+1) e p:=λp hp=>(ZF hp).symm;have s2':RD (Be F ks2 (ks2.nx+1) e) (V.set (ks2.nx+1) (h0.length+i) ks2.nx bo) (qH ks2.nx e.v) v:=RD.free hbe (by rw [On];exact f1) s2
    have s3':Wv (Be F ks2 (ks2.nx+1) e) (V.set (ks2.nx+1) (h0.length+i) ks2.nx bo) V ks2 (h0.length+i) e u:=by
     obtain⟨uo,un,q1,q2,q3⟩:=s3;refine⟨uo,un,q1,?_,?_⟩
     .cases hu:e.upd with
      |none=>rw [hu]at q2;exact q2
      |some z=>
       obtain⟨p,b⟩:=z;have hp:=hnot p b hu;rw [hu]at q2 f2;simp only [Bool.and_eq_true]at f2;have hlk:au (wz (iL Rl O N nw i) ks2).bl p=au ks2.bl p:=by rw [np,if_neg hp]
       rcases q2 with⟨x,z1,z2,z3⟩|⟨z1,z2,z3⟩
       .exact .inl ⟨x,z1,BlkIs.free hbe f2.1 z2,λb0 hb0=>z3 b0 (by rw [hlk];exact hb0)⟩
       .exact .inr ⟨z1,z2,λb0 hb0=>z3 b0 (by rw [hlk];exact hb0)⟩
     .cases hn:e.new with
      |none=>rw [hn]at q3;exact q3
      |some b=>
       rw [hn]at q3 f3;simp only [Bool.and_eq_true]at f3;rcases q3 with⟨x,z1,z2,z3⟩|⟨z1,z2⟩
       .exact .inl ⟨x,z1,BlkIs.free hbe f3.1.2 z2,z3⟩
       .exact .inr ⟨z1,z2⟩
    obtain⟨t1,t2⟩:=WP hr0 hi2 hef hupd e2.new s3';have hnone:aE H (h0.length+i)=none:=hi2.free i (Nat.le_refl _);have hh:=uL u H (CK k4 hupd s3' hnone);obtain⟨w1,w2⟩:=CJ (M:=ks2.nx+2) k4 (Nat.le_refl _) (Nat.le_succ _) (by omega) (by omega) g3 hupd e2.new e2.sc s2' s3' (λ_=>hnone) hh;have hult:∀x∈u,x.1<h0.length+(i+1):=λx hx=>t2 x.1 (t1▸List.mem_map_of_mem hx)
    have hi':TInv F ks0 V0 h0.length w (nwE e i (ks2.nx+1) nw) (i+1) (NV o.dst ks2.nx (ks2.nx+1) e ks2) (V.set (ks2.nx+1) (h0.length+i) ks2.nx bo) (upO o.dst v f) (Ev.apply H u):=by
     have hnwl:∀j q,au nw j=some q->au (nwE e i (ks2.nx+1) nw) j=some q:=λj q hj=>by
      unfold nwE;split
      .rw [bm,if_neg (by have:=(hi2.nw j q hj).1;omega)];exact hj
      .exact hj
     refine⟨w1,hi2.ext.trans w2,?_,?_,?_,?_⟩
     .rw [FF u H (λx hx=>by have:=hult x hx;rw [hi2.len];omega),hi2.len]
     .intro p bl hp ht
      have hold:∀b0,aI F ks2 p=some b0->b0.there->(p<ks0.nx/\∃b0,aI F ks0 p=some b0/\b0.there)∨∃j,au (nwE e i (ks2.nx+1) nw) j=some p:=λb0 z1 z2=>by
       rcases hi2.th p b0 z1 z2 with h1|⟨j,hj⟩
       .exact .inl h1
       .exact .inr ⟨j,hnwl j p hj⟩
      have hp':Be F ks2 (ks2.nx+1) e p=some bl:=hp;rcases CI (λb hb=>(e2.new b hb).2) hp' with⟨rfl,h1⟩|h1|⟨h1,h2,h3⟩
      .refine .inr ⟨i,?_⟩;unfold nwE;rw [h1];simp only [bm,if_true]
      .obtain⟨b0,z1,z2,_,_⟩:=hupd p bl h1;refine hold b0 (aC z1 z2) ?_;obtain⟨uo,un,q1,q2,q3⟩:=s3';rw [h1]at q2;rcases q2 with⟨x,_,_,z3⟩|⟨_,z3,_⟩
       .exact z3 b0 z1
       .exact absurd ht z3
      .exact hold bl h3 ht
     .intro j q hj
      have hcase:(j=i/\q=ks2.nx+1)∨au nw j=some q:=by
       unfold nwE at hj;split at hj
       .rw [bm]at hj;split at hj
        .rename_i hji;cases hj;exact .inl ⟨hji,rfl⟩
        .exact .inr hj
       .exact .inr hj
      rcases hcase with⟨rfl,rfl⟩|hj
      .exact⟨Nat.lt_succ_self _,Vl.set_id,by show _<ks2.nx+2;omega⟩
      .obtain⟨z1,z2,z3⟩:=hi2.nw j q hj;exact⟨by omega,by rw [(w2.agree q z3).1,z2],by show _<ks2.nx+2;omega⟩
     .intro j hj;rw [hh.out _ λx hx=>by have:=hult x hx;omega];exact hi2.free j (by omega)
    have ih:=CT hG hD hr0 l (i+1) _ hl' e1' hi';have hst:=(gn gg2).trans ((k2 (h0.length+i) _).trans s1)
    have hall:(bh h0.length (wI ks0 V0 O) N i).all (·<H.length)=true:=List.all_eq_true.2 λx hx=>by
     have:=t2 x hx
     have h3:=hi2.len;exact decide_eq_true (by omega)
    cases ho:o.dst with
    |none=>rw [ho]at ih;exact NA gg1 ho hst t1 hall rfl ih
    |some d=>
     rw [ho]at ih g3;exact Lb gg1 ho (fB (by simpa [lD]using g3)) hst t1 hall rfl (by rw [jF];exact ih)
theorem RM(hG:GOk G E D0)(hD:D0<=n){id:Nat}{l:List Oper}{κ:Ex->KS->Option R}(hq:fW ⟨l⟩=true)(hn:pu ⟨l⟩ N=true)(hdj:djB O (ie ⟨l⟩) O=true)(hold:Ii ks O=true)(hs:yS G F l (ie ⟨l⟩) O N ks (κ .normal) 0 [] l ks=some r)(hr:Rel F ks V f h):WpC E y n (.region id ⟨l⟩ true) (λe s=>∃ks' V' f',s.t=tab F.nt f'/\Rel F ks' V' f' s.h/\κ e ks'=some r/\Ext F ks V ks' V') {t:=tab F.nt f,h:=h}:=by
 refine EU l.length rfl (wI ks V O) N (ie ⟨l⟩) hq hn rfl (PO hr hdj) (ZG hr) λh' h1 h2=> ?_;refine CT (ops:=⟨l⟩) (w:=l.length) hG hD hr l 0 [] (by omega) hs ⟨hr.heap h2,Ext.refl _ _ _,h1,λp bl hp ht=> .inl ⟨(hr.bl p bl hp).1,bl,hp,ht⟩,λj q hj=>by simp [au]at hj,λj hj=> ?_⟩;rw [h2];unfold aE;rw [List.getElem?_eq_none (by omega)]
end
end
end K
end Ev
end
noncomputable section
namespace Ev
namespace K
open Go Go.RowKit
section
variable {E : Env} {y : Nat → fP} {n : Nat} {G : KG} {D0 : Nat}
section loop
variable {F : KF} {ks : KS} {V : Vl} {f : Nat → D} {h : Heap} {a : Lr} {cs : List KC} {x0 : eG a.head.sh} {ks2 : KS} {V1 V2 : Vl} {f2 : Nat → D} {x1 : eG a.head.sh}
theorem uV{F:KF}{ks:KS}:∀{bs:List (Nat×List Sh)} {p:Nat},p∈rU F ks bs->∃v∈bs,fN F ks v.1=some p
 | [],p,h=>by simp [rU]at h
 |v::r,p,h=>by
  unfold rU at h;split at h
  .rename_i q hq;rcases List.mem_cons.1 h with rfl|h
   .exact⟨v,by simp,hq⟩
   .obtain⟨w,h1,h2⟩:=uV h;exact⟨w,by simp [h1],h2⟩
  .obtain⟨w,h1,h2⟩:=uV h;exact⟨w,by simp [h1],h2⟩
theorem CU(hr:Rel F ks V f h)(hok:jL F ks=true)(hcs:gJ F ks a.head=some cs)(hrd:RdCs ks a.head.sh cs x0)(ha1:Agree ks.nx V V1)(hl1:LeB ks.nx (aI F ks) (aI (aN F ks a cs) (cz F ks a.head x1))){s:St}(hst:s.t=tab F.nt f2)(hr2:Rel (aN F ks a cs) ks2 V2 f2 s.h)(hok2:jL (aN F ks a cs) ks2=true)(hext:Ext (aN F ks a cs) (cz F ks a.head x1) V1 ks2 V2){e:Ex}:∀{l:List (Ex×Pt)} {R:Type} {r:R} {κ:XT l->Option R},(∀x∈l,sY F ks (aN F ks a cs) x.2=true)->wx (aN F ks a cs) ks2 e l κ=some r->∃v,κ v=some r/\JX F ks V a.keep (eH F ks a cs) l v e s
 | [],R,r,κ,hb,hs=>by simp [wx]at hs
 |x::l,R,r,κ,hb,hs=>by
  unfold wx at hs
  cases hx:ww e x.1 with
  |false=>
   rw [hx]at hs;obtain⟨v,h1,h2⟩:=CU hr hok hcs hrd ha1 hl1 hst hr2 hok2 hext (λz hz=>hb z (by simp [hz])) hs;exact⟨.inr v,h1,h2⟩
  |true=>
   rw [hx]at hs;obtain⟨cs2,v,g1,g2,g3,g4⟩:=qu hr2 hs;have hbs:=hb x (by simp)
   have hkb:∀p,bS (Cu F ks a.keep (eH F ks a cs) x.2 v).bl F.bl p=au ((cz F ks x.2 v).bl++((eH F ks a cs).map (λp=>(p,KB.dead))++(ks.bl++F.bl))) p:=λp=>by
    rw [<-bK];show au ((cz F ks x.2 v).bl++((eH F ks a cs).map (λp=>(p,KB.dead))++ks.bl)++F.bl) p=_;rw [List.append_assoc,List.append_assoc]
   obtain⟨V3,hr3,ha3,hl3⟩:=PM (Fb:=F) (kb:=Cu F ks a.keep (eH F ks a cs) x.2 v) hr hok hcs hr2 hok2 hext hbs g1 g2 g3 rfl rfl (λi d hd=>by
    have hd':bS (kL x.2.vs ((aY x.2.sh v ks.nx).map (·.1))++tN F ks a.keep) F.sl i=some d:=hd;rw [<-bK,List.append_assoc,bK]at hd';unfold bS at hd'
    cases hl:au (kL x.2.vs ((aY x.2.sh v ks.nx).map (·.1))) i with
    |some d'=>rw [hl]at hd';cases hd';exact .inl rfl
    |none=>rw [hl]at hd';exact .inr hd') hkb
   have hnx1:ks.nx<=(cz F ks a.head x1).nx:=by show ks.nx<=ks.nx+_;omega
   refine⟨.inl v,g4,PL hx,V3,f2,hst,hr3,⟨by show ks.nx<=ks.nx+_;omega,?_,?_,?_⟩⟩
   .exact(ha1.trans hext.agree hnx1).trans ha3 (Nat.le_refl _)
   .exact(hl1.trans hext.le hnx1).trans hl3 (Nat.le_refl _)
   .intro p hp hl;have h2:=acv hcs hrd hext hp hl;show au ((cz F ks x.2 v).bl++((eH F ks a cs).map (λp=>(p,KB.dead))++ks.bl)) p=none;obtain⟨ca,cb,cw,_,hcb2,_,_⟩:=io g1
    have e1:au (cz F ks x.2 v).bl p=none:=by
     refine rX (λw hw he=> ?_) (λw hw he=> ?_) hp
     .obtain⟨q,c,j1,j2⟩:=nm hcb2 w hw;rw [FC hok hok2 hbs w hw,he]at j1;cases j1;rw [h2]at j2;simp at j2
     .obtain⟨q,j1,j2⟩:=FE hr hok2 hcs hext hbs w hw;rw [he]at j2;cases j2;obtain⟨q,k1,k2⟩:=uS g1 hw;rw [j1]at k1;cases k1;obtain⟨b,k3,_⟩:=wH g3 k2;rw [h2]at k3;simp at k3
    rw [bK];unfold bS;rw [e1];simp only [bK];unfold bS;rcases xN (l:=eH F ks a cs) (p:=p)with⟨h1,h2⟩|⟨h1,h2⟩
    .rw [h1];exact hl
    .exfalso;rcases List.mem_append.1 h2 with h2|h2
     .obtain⟨b',k1,_⟩:=wH hrd h2;rw [hl]at k1;simp at k1
     .obtain⟨w,hw,hpw⟩:=uV h2;obtain⟨ca,cb,cw,_,hcb,_,_⟩:=io hcs;obtain⟨p'',c'',j1,j2⟩:=nm hcb w hw;rw [hpw]at j1;cases j1;rw [hl]at j2;simp at j2
end loop
theorem LL(hG:GOk G E D0)(hD:D0<=n){A:Zu}{call:Fi}(hcall:Og E n call):∀(c:Code) (R:Type) (F:KF) (ks:KS) (κ:Ex->KS->Option R) (r:R) (V:Vl) (f:Nat->D) (h:Heap),iP G A call c R F ks κ=some r->Rel F ks V f h->WpC E y n c (PostC F ks V κ r) {t:=tab F.nt f,h:=h}:=by
 intro c
 induction c with
 |skip=>intro R F ks κ r V f h hs hr;exact KZ ⟨ks,V,f,rfl,hr,hs,Ext.refl _ _ _⟩
 |region id ops draw=>
  intro R F ks κ r V f h hs hr;obtain⟨l⟩:=ops
  cases draw with
  |false=>
   have hs':Eb G call F (Array.toList ⟨l⟩) (κ .normal) l ks=some r:=hs;exact Lg (wG (ops:=⟨l⟩) hG hD hcall l hs' hr)
  |true=>
   have hs':cond (fW ⟨l⟩) (match au A.tn id with
    |none=>rS G F l (κ .normal) l ks
    |some T=>match NW F ks T.old with
     |some O=>cond (pu ⟨l⟩ T.new && djB O (ie ⟨l⟩) O && Ii ks O) (yS G F l (ie ⟨l⟩) O T.new ks (κ .normal) 0 [] l ks) none
     |none=>none) (match qv ⟨l⟩with
    |some m=>cond (nT ⟨l⟩) (rS G F l (Eb G call F l (κ .normal) (l.drop m)) (l.take m) ks) none
    |none=>none)=some r:=hs
   cases hq:fW ⟨l⟩with
   |true=>
    rw [hq]at hs';simp only [cond_true]at hs';split at hs'
    .exact Cf l.length rfl hq λh' h1 h2=>sK (ops:=⟨l⟩) (κ:=κ .normal) hG hD l 0 hs' (hr.heap h2)
    .split at hs'
     .rename_i T hT _ O hO
      cases hc:(pu ⟨l⟩ T.new && djB O (ie ⟨l⟩) O && Ii ks O)with
      |false=>rw [hc]at hs';simp at hs'
      |true=>
       rw [hc]at hs';simp only [Bool.and_eq_true]at hc;exact RM hG hD hq hc.1.1 hc.1.2 hc.2 hs' hr
     .simp at hs'
   |false=>
    rw [hq]at hs';simp only [cond_false]at hs';split at hs'
    .rename_i m hc
     cases hp:nT ⟨l⟩with
     |false=>rw [hp]at hs';simp at hs'
     |true=>
      rw [hp]at hs';have hr':Rel F ks V f (h++List.replicate (Array.mk l).size .no):=hr.heap λk=>pZ _ _ _;refine WL m hc hp (LH (sK (ops:=⟨l⟩) (b:=h.length) (κ:=Eb G call F l (κ .normal) (l.drop m)) hG hD (l.take m) 0 hs' hr') λt ht=> ?_);obtain⟨ks',V',f',h1,h2,h3,h4⟩:=ht;simp only at h1 h2;subst h1;exact sJ (wG (ops:=⟨l⟩) hG hD hcall (l.drop m) h3 h2) λs hs=>Post.ext h4 hs
    .simp at hs'
 |seq a b iha ihb=>
  intro R F ks κ r V f h hs hr
  have hs':(match A.lp.find? λz=>z.join &&(some z.key==im a && Nat.beq z.sz (wy a))with
   |none=>iP G A call a R F ks λe ks=>match e with
    | .normal=>iP G A call b R F ks κ
    |e=>κ e ks
   |some z=>match gJ F ks z.head,jL F ks with
    |some cs,true=>cond (sY F ks (aN F ks z cs) z.head && z.exs.all λx=>sY F ks (aN F ks z cs) x.2) (wv F ks z.head λx0=>
     (iP G A call a (XT z.exs) (aN F ks z cs) (cz F ks z.head x0) λe ks2=>cond (jL (aN F ks z cs) ks2) (wx (aN F ks z cs) ks2 e z.exs some) none).bind λy=>afterX F ks z.keep (eH F ks z cs) z.exs y λe ks=>match e with
      | .normal=>iP G A call b R F ks κ
      |e=>κ e ks) none
    |_,_=>none)=some r:=hs
  have key:∀e s,PostC F ks V (λe ks=>match e with
    | .normal=>iP G A call b R F ks κ
    |e=>κ e ks) r e s->rI (WpC E y n b (PostC F ks V κ r)) (PostC F ks V κ r) e s:=by
   intro e s hp;obtain⟨ks',V',f',h1,h2,h3,h4⟩:=hp;obtain⟨t,hh⟩:=s;simp only at h1 h2;subst h1
   cases e with
   |normal=>exact(ihb R F ks' κ r V' f' hh h3 h2).mono λe s hp=>hp.ext h4
   |ret=>exact⟨ks',V',f',rfl,h2,h3,h4⟩
   |exit id=>exact⟨ks',V',f',rfl,h2,h3,h4⟩
  split at hs'
  .exact HF ((iha R F ks _ r V f h hs' hr).mono key)
  .rename_i z hz;split at hs'
   .rename_i cs hcs hok
    cases hbs:(sY F ks (aN F ks z cs) z.head && z.exs.all λx=>sY F ks (aN F ks z cs) x.2)with
    |false=>rw [hbs]at hs';simp at hs'
    |true=>
     rw [hbs]at hs';rw [Bool.and_eq_true]at hbs;obtain⟨hbs0,hbsx⟩:=hbs;obtain⟨cs',x0,g1,g2,g3,g4⟩:=qu hr hs';rw [hcs]at g1;cases g1;rw [zbE]at g4;obtain⟨out,g4,g5⟩:=g4;obtain⟨V1,hr1,ha1,hl1⟩:=zH hr hok hcs g2 g3;refine HF ((iha _ (aN F ks z cs) (cz F ks z.head x0) _ out V1 f h g4 hr1).mono λe s hp=>key e s ?_);obtain⟨ks2,V2,f2,t1,r2,k1,ext⟩:=hp;dsimp only at k1
     cases hok2:jL (aN F ks z cs) ks2 with
     |false=>rw [hok2]at k1;simp at k1
     |true=>
      rw [hok2]at k1;obtain⟨v,j1,j2⟩:=CU hr hok hcs g3 ha1 hl1 t1 r2 hok2 ext (λw hw=>List.all_eq_true.1 hbsx w hw) k1;cases j1;exact xO g5 j2
   .simp at hs'
 |cond c a b iha ihb=>
  intro R F ks κ r V f h hs hr
  have hs':(match kO F ks c with
   |some (.one c)=>kIf c ks λt ks=>cond t (iP G A call a R F ks κ) (iP G A call b R F ks κ)
   |_=>none)=some r:=hs
  split at hs'
  .rename_i c0 hc;obtain⟨d,d1,d2,c',rfl,d3⟩:=ct hr hc;obtain⟨t,ks',g1,rfl,g3,g4⟩:=act hr d3 hs';have e1:opnd (tab F.nt f) c=some (.one (bC t)):=(cj F.nt f c).trans d1;refine Cc e1 rfl ?_
   cases t with
   |true=>exact(iha R F ks' κ r V f h g1 g3).mono λe s hp=>hp.ext g4
   |false=>exact(ihb R F ks' κ r V f h g1 g3).mono λe s hp=>hp.ext g4
  .simp at hs'
 |block id b ih=>
  intro R F ks κ r V f h hs hr;have hs':iP G A call b R F ks (λe ks=>κ (cond (ww e (.exit id)) .normal e) ks)=some r:=hs;refine EN ((ih R F ks _ r V f h hs' hr).mono λe s hp=> ?_);obtain⟨ks',V',f',h1,h2,h3,h4⟩:=hp;refine⟨ks',V',f',h1,h2,?_,h4⟩;rw [<-h3]
  have:(if e= .exit id then Ex.normal else e)=cond (ww e (.exit id)) .normal e:=by
   cases hx:ww e (.exit id)with
   |true=>rw [if_pos (PL hx)];rfl
   |false=>rw [if_neg (λhe=>by subst he;simp [ww]at hx)];rfl
  rw [this]
 |loop b ih=>
  intro R F ks κ r V f h hs hr
  have hs':(match A.lp.find? λa=> !a.join && some a.key==im b with
   |none=>none
   |some a=>match gJ F ks a.head,jL F ks with
    |some cs,true=>cond (sY F ks (aN F ks a cs) a.head && a.exs.all λx=>sY F ks (aN F ks a cs) x.2 && !ww x.1 .normal) (wv F ks a.head λx0=>
     (aK (λx=>iP G A call b (eG a.head.sh ⊕ XT a.exs) (aN F ks a cs) (cz F ks a.head x) λe ks2=>cond (jL (aN F ks a cs) ks2) (match e with
      | .normal=>wv (aN F ks a cs) ks2 a.head λy=>some (.inl y)
      |e=>wx (aN F ks a cs) ks2 e a.exs λy=>some (.inr y)) none) x0).bind λy=>afterX F ks a.keep (eH F ks a cs) a.exs y κ) none
    |_,_=>none)=some r:=hs
  split at hs'
  .simp at hs'
  .rename_i a ha;split at hs'
   .rename_i cs hcs hok
    cases hbs:(sY F ks (aN F ks a cs) a.head && a.exs.all λx=>sY F ks (aN F ks a cs) x.2 && !ww x.1 .normal)with
    |false=>rw [hbs]at hs';simp at hs'
    |true=>
     rw [hbs]at hs';rw [Bool.and_eq_true]at hbs;obtain⟨hbs0,hbsx⟩:=hbs;obtain⟨cs',x0,g1,g2,g3,g4⟩:=qu hr hs';rw [hcs]at g1;cases g1;rw [zbE]at g4;obtain⟨out,g4,g5⟩:=g4;obtain⟨V1,hr1,ha1,hl1⟩:=zH hr hok hcs g2 g3;refine WpC.mono (EZ _ (λx s=>∃V1 f1,s.t=tab F.nt f1/\Rel (aN F ks a cs) (cz F ks a.head x) V1 f1 s.h/\Agree ks.nx V V1/\LeB ks.nx (aI F ks) (aI (aN F ks a cs) (cz F ks a.head x))) (λo e s=>JX F ks V a.keep (eH F ks a cs) a.exs o e s) (λr s=>ja (λz hz=>by have:=List.all_eq_true.1 hbsx z hz;rw [Bool.and_eq_true]at this;simpa using this.2) r s) ?_ x0 out _ g4 ⟨V1,f,rfl,hr1,ha1,hl1⟩) λe s hj=>xO g5 hj;intro x o s hb hI;obtain⟨W1,f1,e1,r1,a1,l1⟩:=hI;obtain⟨t,hh⟩:=s;simp only at e1 r1;subst e1;refine(ih _ (aN F ks a cs) (cz F ks a.head x) _ o W1 f1 hh hb r1).mono λe s hp=> ?_;obtain⟨ks2,V2,f2,t1,r2,k1,ext⟩:=hp;dsimp only at k1
     cases hok2:jL (aN F ks a cs) ks2 with
     |false=>rw [hok2]at k1;simp at k1
     |true=>
      rw [hok2]at k1;simp only [cond_true]at k1
      have hx:e≠ .normal->wx (aN F ks a cs) ks2 e a.exs (λy=>some (.inr y))=some o->∃v,o= .inr v/\JX F ks V a.keep (eH F ks a cs) a.exs v e s:=by
       intro hne hk;obtain⟨v,j1,j2⟩:=CU hr hok hcs g3 a1 l1 t1 r2 hok2 ext (λz hz=>by have:=List.all_eq_true.1 hbsx z hz;rw [Bool.and_eq_true]at this;exact this.1) hk;exact⟨v,(Option.some.inj j1).symm,j2⟩
      cases e with
      |normal=>
       obtain⟨cs2,v,w1,w2,w3,w4⟩:=qu r2 k1;cases w4
       obtain⟨V3,hr3,ha3,hl3⟩:=PM (Fb:=aN F ks a cs) (kb:=cz F ks a.head v) hr hok hcs r2 hok2 ext hbs0 w1 w2 w3 rfl rfl (λi d hd=>by
        have hd':bS (kL a.head.vs ((aY a.head.sh v ks.nx).map (·.1))) (aN F ks a cs).sl i=some d:=hd;unfold bS at hd'
        cases hl:au (kL a.head.vs ((aY a.head.sh v ks.nx).map (·.1))) i with
        |some d'=>rw [hl]at hd';cases hd';exact .inl rfl
        |none=>rw [hl]at hd';exact .inr hd') (λp=>(bK _ _ p).symm)
       exact⟨rfl,V3,f2,t1,hr3,(a1.trans ext.agree (by show ks.nx<=ks.nx+_;omega)).trans ha3 (Nat.le_refl _),(l1.trans ext.le (by show ks.nx<=ks.nx+_;omega)).trans hl3 (Nat.le_refl _)⟩
      |ret=>obtain⟨v,rfl,j⟩:=hx (by simp) k1;exact j
      |exit id=>obtain⟨v,rfl,j⟩:=hx (by simp) k1;exact j
   .simp at hs'
 |exit id=>intro R F ks κ r V f h hs hr;exact La ⟨ks,V,f,rfl,hr,hs,Ext.refl _ _ _⟩
 |ret=>intro R F ks κ r V f h hs hr;exact Pd ⟨ks,V,f,rfl,hr,hs,Ext.refl _ _ _⟩
 |label l=>intro R F ks κ r V f h hs hr;exact Rk ⟨ks,V,f,rfl,hr,hs,Ext.refl _ _ _⟩
 |scope b ih=>
  intro R F ks κ r V f h hs hr;exact Rm (ih R F ks κ r V f h hs hr)
 |_=>intro R F ks κ r V f h hs hr;simp [iP]at hs
end
end K
end Ev
end
noncomputable section
namespace Ev
namespace K
open Go Go.RowKit
section
variable {E : Env} {n : Nat} {F : KF} {ks : KS} {V : Vl} {f : Nat → D} {h : Heap} {G : KG} {D0 : Nat}
theorem CV{k i j bz:Nat}{ag:Bool}{sz:Nat}{es:List (List C)}{e cs:List C}{d:D}(hg:aE h k=some (bz,es))(he:es[i]? =some e)(hc:Ev.cut e j sz=some cs)(hv:dX ag cs=some d):load h ag sz (.one (.ptr k i j))=some d:=by
 simp only [load,hg,zbB,zbS,he,hc,hv]
theorem WQ(hr:Rel F ks V f h){z:Nat×Bool}{a:KD}{a':D}{R:Type}{r:R}{κ:KD->Option R}(hs:kd F ks z a κ=some r)(ha:RD (aI F ks) V a a'):∃d d',κ d=some r/\load h z.2 (if z.2 then z.1 else 1) a'=some d'/\RD (aI F ks) V d d'/\ScD ks.nx d:=by
 have hz:wd z=if z.2 then z.1 else 1:=by unfold wd;cases z.2<;>rfl
 cases a with
 |tup ts=>simp [kd]at hs
 |agg cs=>simp [kd]at hs
 |one c=>
  obtain⟨c',rfl,hc⟩:=ha
  cases c with
  |ptr p j=>
   simp only [kd]at hs;split at hs
   .rename_i cs hp;simp only [zbE]at hs;obtain⟨d2,⟨cs2,g1,g2⟩,g3⟩:=hs;obtain⟨g4,g5,sz,cs',g6,g7⟩:=hr.bl p _ hp;obtain⟨c2,g8,g9⟩:=g7.cut g1;obtain⟨d3,k1,k2,k3⟩:=jf g2 (kZ g5 g1) g9;rw [show c'=_ from hc];exact⟨_,d3,g3,CV g6 rfl (by rw [<-hz];exact g8) k1,k2,k3⟩
   .simp at hs
  |ip e fr x i y j=>
   simp only [kd,zbE]at hs;obtain⟨d2,⟨cs2,g1,g2⟩,g3⟩:=hs;obtain⟨fl,e1,e2,e3⟩:=hc;obtain⟨c2,g8,g9⟩:=(fv (B:=aI F ks) (V:=V) e3 e y).cut g1;obtain⟨d3,k1,k2,k3⟩:=jf g2 (kZ (gS ks.nx fr e y) g1) g9;refine⟨_,d3,g3,?_,k2,k3⟩;rw [e1];simp only [load,zbB,aD (r:=e.row) e2,zbS];rw [<-hz,g8];exact k1
  |pe p i j=>
   simp only [kd]at hs;rw [hc.2];split at hs
   .rename_i e ne l hp;simp only [zbE]at hs;obtain⟨y,g0,d2,⟨cs2,g1,g2⟩,g3⟩:=hs;obtain⟨g4,g5,g6,_⟩:=hr.bl p _ hp;obtain⟨c2,g8,g9⟩:=(fv (B:=aI F ks) (V:=V) (λ_=>rfl) e y).cut g1;obtain⟨d3,k1,k2,k3⟩:=jf g2 (kZ (gS ks.nx true e y) g1) g9;exact⟨_,d3,g3,CV g6 (sI g0).2 (by rw [<-hz];exact g8) k1,k2,k3⟩
   .rename_i e l hp;simp only [zbE]at hs;obtain⟨y,g0,d2,⟨cs2,g1,g2⟩,g3⟩:=hs;obtain⟨g4,g5,g6⟩:=hr.bl p _ hp;obtain⟨c2,g8,g9⟩:=(fv (B:=aI F ks) (V:=V) (λ_=>rfl) e y).cut g1;obtain⟨d3,k1,k2,k3⟩:=jf g2 (kZ (gS ks.nx true e y) g1) g9;exact⟨_,d3,g3,CV (g6 (Ip g0)) (sI g0).2 (by rw [<-hz];exact g8) k1,k2,k3⟩
   .simp at hs
  |_=>simp [kd]at hs
theorem zQ(hG:GOk G E D0)(hr:Rel F ks V f h):∀{rv:List ResultVar} {R:Type} {r:R} {κ:List KD->Option R},Ij G F ks rv κ=some r->∃ds ds',rv.mapM (dB E {t:=tab F.nt f,h:=h})=some ds'/\RDl (aI F ks) V ds ds'/\(∀d∈ds,ScD ks.nx d)/\κ ds=some r
 | [],R,r,κ,hs=>⟨[],[],rfl,rfl,by simp,hs⟩
 | .tmp t::rv,R,r,κ,hs=>by
  simp only [Ij,zbE]at hs;obtain⟨d,g1,g2⟩:=hs;obtain⟨k1,k2,k3⟩:=hr.sl t d g1;obtain⟨ds,ds',e1,e2,e3,e4⟩:=zQ hG hr g2;refine⟨d::ds,f t::ds',?_,⟨_,_,rfl,k3,e2⟩,λx hx=> ?_,e4⟩
  .rw [List.mapM_cons,e1];show((tab F.nt f)[t]?).bind _=_;rw [kX,if_pos k1];rfl
  .rcases List.mem_cons.1 hx with rfl|hx
   .exact k2
   .exact e3 x hx
 | .cell a ty::rv,R,r,κ,hs=>by
  simp only [Ij]at hs;split at hs
  .rename_i z d hz hd;have hz':=Io hG hz;obtain⟨k1,k2,k3⟩:=hr.sl a d hd;obtain⟨v,v',g1,g2,g3,g4⟩:=WQ hr hs k3;obtain⟨ds,ds',e1,e2,e3,e4⟩:=zQ hG hr g1;refine⟨v::ds,v'::ds',?_,⟨_,_,rfl,g3,e2⟩,λx hx=> ?_,e4⟩
   .unfold bZ at hz';simp only [zbE,zsI]at hz';obtain⟨ti,w1,w2⟩:=hz';rw [List.mapM_cons,e1];show(((E.ti ty).bind λt'=>((tab F.nt f)[a]?).bind λd=>load h (bG t'.desc) (if bG t'.desc then t'.size else 1) d).bind _)=_;rw [w1,kX,if_pos k1];subst w2;simp only [zbS];rw [g2];rfl
   .rcases List.mem_cons.1 hx with rfl|hx
    .exact g4
    .exact e3 x hx
  .simp at hs
theorem IA:∀{ds:List KD} {ds':List D} {ts:List (Bool×List KC)},tupK.tups ds=some ts->RDl (aI F ks) V ds ds'->(∀d∈ds,ScD ks.nx d)->RTs (aI F ks) V ts ds'/\∀x∈ts,Scs ks.nx x.2
 | [],ds',ts,h,hr,hs=>by
  have:=Option.some.inj (show some []=some ts from h)
  subst this;exact⟨hr,by simp⟩
 | .one c::r,ds',ts,h,⟨d,s,e,h1,h2⟩,hs=>by
  simp only [tupK.tups,Option.map_eq_some_iff]at h;obtain⟨ts',g1,rfl⟩:=h;obtain⟨k1,k2⟩:=IA g1 h2 λx hx=>hs x (by simp [hx]);refine⟨⟨d,s,e,h1,k1⟩,λx hx=> ?_⟩;rcases List.mem_cons.1 hx with rfl|hx
  .exact λy hy=>by rw [List.mem_singleton.1 hy];exact hs (.one c) (by simp)
  .exact k2 x hx
 | .agg cs::r,ds',ts,h,⟨d,s,e,h1,h2⟩,hs=>by
  simp only [tupK.tups,Option.map_eq_some_iff]at h;obtain⟨ts',g1,rfl⟩:=h;obtain⟨k1,k2⟩:=IA g1 h2 λx hx=>hs x (by simp [hx]);refine⟨⟨d,s,e,h1,k1⟩,λx hx=> ?_⟩;rcases List.mem_cons.1 hx with rfl|hx
  .exact hs (.agg cs) (by simp)
  .exact k2 x hx
 | .tup ts'::r,ds',ts,h,hr,hs=>by simp [tupK.tups]at h
theorem ZI{ds:List KD}{ds':List D}{d:KD}(h:tupK ds=some d)(hr:RDl (aI F ks) V ds ds')(hs:∀d∈ds,ScD ks.nx d):RD (aI F ks) V d (iR ds')/\ScD ks.nx d:=by
 match ds,h,hr,hs with
 | [x],h,⟨d',s,e,h1,h2⟩,hs=>
  cases h;rw [e,show s= []from h2];exact⟨h1,hs d (by simp)⟩
 | [],h,hr,hs=>
  cases h;rw [show ds'= []from hr];exact⟨⟨[],rfl,rfl⟩,λx hx=>by simp at hx⟩
 |x::x'::r,h,hr,hs=>
  have h':(tupK.tups (x::x'::r)).map KD.tup=some d:=h;rw [Option.map_eq_some_iff]at h';obtain⟨ts,g1,rfl⟩:=h';obtain⟨k1,k2⟩:=IA g1 hr hs;obtain⟨d1,s1,e1,_,d2,s2,e2,_,_⟩:=hr;refine⟨⟨ds',?_,k1⟩,k2⟩;rw [e1,e2];rfl
theorem FG:∀{l:List KD} {q i:Nat} {d:KD},au (Ec q l) i=some d->∃j,i=q+j/\l[j]? =some d
 | [],q,i,d,h=>by simp [Ec,au]at h
 |a::l,q,i,d,h=>by
  unfold Ec at h;rw [bm]at h;split at h
  .rename_i hi;cases h;exact⟨0,by omega,rfl⟩
  .obtain⟨j,h1,h2⟩:=FG h;exact⟨j+1,by omega,by simpa using h2⟩
theorem PP{B:BK}:∀{l:List KD} {l':List D} {j:Nat} {d:KD},RDl B V l l'->l[j]? =some d->∃d',l'[j]? =some d'/\RD B V d d'
 | [],l',j,d,h,hj=>by simp at hj
 |a::l,l',0,d,⟨x,s,e,h1,h2⟩,hj=>by simp at hj;subst hj e;exact⟨x,rfl,h1⟩
 |a::l,l',j+1,d,⟨x,s,e,h1,h2⟩,hj=>by subst e;simpa using PP h2 (by simpa using hj)
theorem PQ{B:BK}:∀{l:List KD} {l':List D},RDl B V l l'->l'.length=l.length
 | [],l',h=>by rw [show l'= []from h];rfl
 |a::l,l',⟨x,s,e,h1,h2⟩=>by rw [e,List.length_cons,List.length_cons,PQ h2]
theorem FH{nt nx:Nat}{bl:List (Nat×KB)}{args:List KD}{args':List D}(hb:WI F {sl:= [],bl:=bl,nx:=nx} V h)(hs:∀d∈args,ScD nx d)(hr:RDl (aI F {sl:= [],bl:=bl,nx:=nx}) V args args')(hl:args.length<=nt):Rel {F with sl:= [],nt:=nt} {sl:=Ec 0 args,bl:=bl,nx:=nx} V (fA args') h:=by
 refine⟨?_,hb.bl,hb.inj⟩;intro i d hd;have hd':bS (Ec 0 args) [] i=some d:=hd;unfold bS at hd'
 cases hl':au (Ec 0 args) i with
 |none=>rw [hl']at hd';simp [au]at hd'
 |some d0=>
  rw [hl']at hd';cases hd';obtain⟨j,h1,h2⟩:=FG hl';rw [Nat.zero_add]at h1;subst h1;obtain⟨d',h3,h4⟩:=PP hr h2;have hi:i<args.length:=(List.getElem?_eq_some_iff.1 h2).1;refine⟨Nat.lt_of_lt_of_le hi hl,hs d (List.mem_of_getElem? h2),?_⟩;show RD _ _ d (args'.getD i cK);rw [List.getD_eq_getElem?_getD,h3];exact h4
theorem LM{e:Ex}(h:yU e=true):e= .normal∨e= .ret:=by
 cases e with
 |normal=>exact .inl rfl
 |ret=>exact .inr rfl
 |exit id=>simp [yU]at h
theorem LN(hG:GOk G E D0)(A:dh):∀(c n:Nat),D0+c<=n->Og E n (Ls G A c)
 |0,n,hn=>λR F k args ks κ r V h args' hs hb hsc hr=>by simp [Ls]at hs
 |c+1,n,hn=>λR F k args ks κ r V h args' hs hb hsc hr=>by
  unfold Ls at hs;split at hs
  .rename_i fi hfi;obtain⟨g1,g2⟩:=hG.fi k fi hfi;split at hs
   .rename_i hlen
    match n,hn with
    |n0+1,hn=>
     refine⟨n0,fi,rfl,g1,g2,by rw [PQ hr];exact hlen,?_⟩;have hrel:Rel {F with sl:= [],nt:=fi.nt} {ks with sl:=Ec 0 args} V (fA args') h:=FH ⟨hb.bl,hb.inj⟩ hsc hr hlen;refine(LL (y:=nY) hG (by omega) (LN hG A c n0 (by omega)) fi.body R _ _ _ r V _ h hs hrel).mono λe s hp=> ?_;obtain⟨ks',V',f',h1,h2,h3,h4⟩:=hp;obtain⟨t,hh⟩:=s;simp only at h1 h2;subst h1;dsimp only at h3
     cases he:yU e with
     |false=>rw [he]at h3;simp at h3
     |true=>
      rw [he]at h3;obtain⟨ds,ds',e1,e2,e3,e4⟩:=zQ hG h2 h3;rw [zbE]at e4;obtain⟨d,e5,e6⟩:=e4;obtain⟨k1,k2⟩:=ZI e5 e2 e3;exact⟨LM he,ds',e1,ks',V',d,e6,k2,k1,⟨h2.bl,h2.inj⟩,⟨h4.nx,h4.agree,h4.le,h4.dom⟩⟩
   .simp at hs
  .simp at hs
theorem uW:∀{e:Ty} (x:e.val),e.plain=true->(aU e.row x).all tR=true
 | .I _,_,_=>rfl
 | .B,_,_=>rfl
 | .S _,_,hp=>by simp [Ty.plain]at hp
 | .U,_,_=>rfl
 | .C a b,x,hp=>by
  simp only [Ty.plain,Bool.and_eq_true]at hp;unfold aU;show((a.row x.1++b.row x.2).map (pC true)).all tR=true;rw [List.map_append,List.all_append];have h1:=uW x.1 hp.1;have h2:=uW x.2 hp.2;unfold aU at h1 h2;rw [h1,h2];rfl
theorem CW{B:BK}:∀{l:List (Bool×List KC)} {ds:List D},RTs B V l ds->RDl B V (l.map mkD) ds
 | [],ds,h=>h
 |x::l,ds,⟨d,s,e,h1,h2⟩=>⟨d,s,e,Ob h1,CW h2⟩
theorem PU(fr:Bool):∀(ts:List TyD) (x:vals ts),(rP fr ts x).length=ts.length
 | [],_=>rfl
 | [t],x=>rfl
 |t::t'::r,x=>by show(rP fr (t'::r) x.2).length+1=_;rw [PU fr (t'::r)];rfl
theorem IB:∀(ts:List TyD) (x:vals ts),(jK ts x).length=ts.length
 | [],_=>rfl
 | [t],x=>rfl
 |t::t'::r,x=>by show(jK (t'::r) x.2).length+1=_;rw [IB (t'::r)];rfl
theorem RN{B:BK}{ts:List TyD}{ds:List KD}{ds':List D}{x:vals ts}(hd:nV B ts ds=some x)(hr:RDl B V ds ds')(hno:xI ds=false):cV h ds'=false:=by
 unfold cV;split
 .rename_i k m
  match ds,hr,hno,hd with
  | [d],⟨y,s,e,h1,h2⟩,hno,hd=>
   rw [show s= []from h2]at e;simp only [List.cons.injEq,and_true]at e;subst e
   match ts,x,hd with
   | [t],x,hd=>
    have hd':Ie B t d=some x:=hd
    cases d with
    |one c=>
     obtain⟨c',e1,e2⟩:=h1;cases e1
     cases c with
     |o e p=>simp [xI]at hno
     |m e p=>simp [xI]at hno
     |n k y=>exact absurd (show C.own _ 0 _=_ from e2) (by simp)
     |b v=>exact absurd (show C.own _ 0 _=_ from e2) (by simp)
     |p t P d=>exact absurd e2.1 (by simp)
     |bv y=>exact absurd (show C.own _ 0 _=_ from e2) (by simp)
     |v y=>exact absurd (show C.own _ 0 _=_ from e2) (by simp)
     |nil=>exact absurd (show C.own _ 0 _=_ from e2) (by simp)
     |s e fr y=>obtain⟨fl,e3,_⟩:=e2;exact absurd e3 (by simp)
     |ptr p j=>exact absurd (show C.own _ 0 _=_ from e2) (by simp)
     |pe p i j=>exact absurd e2.2 (by simp)
     |ip e fr y i z j=>obtain⟨fl,e3,_⟩:=e2;exact absurd e3 (by simp)
     |clo fn ps=>exact absurd (show C.own _ 0 _=_ from e2) (by simp)
     |yld p=>exact absurd (show C.own _ 0 _=_ from e2) (by simp)
    |agg cs=>obtain⟨c',e1,_⟩:=h1;simp at e1
    |tup ts=>simp [Ie]at hd'
   | [],x,hd=>simp [nV]at hd
   |_::_::_,x,hd=>simp [nV]at hd
  | [],hr,_,_=>exact absurd (show [_]=_ from hr) (by simp)
  |_::_::_,⟨y,s,e,h1,y2,s2,e2,_,_⟩,_,_=>rw [e2]at e;simp at e
 .rfl
theorem wK{rv:List ResultVar}{e:Ty}{l:List e.val}{k:Nat}{ex:Ex}{s:St}(he:ex= .normal∨ex= .ret)(hres:rv.mapM (dB E s)=some [.one (.own k 0 l.length)])(hg:aE s.h k=some (e.size,l.map (aU e.row)))(hp:e.plain=true):iS E rv (.own,[.one (.s true e.size (l.map e.row))]) ex s:=by
 have ho:cV s.h [.one (.own k 0 l.length)]=true:=by
  simp only [cV,hg,List.length_map,BEq.rfl,Bool.true_and,List.all_map];rw [List.all_eq_true];exact λx _=>uW x hp
 have hv:cU s.h (.one (.own k 0 l.length))=some (true,.one (.s true e.size (l.map e.row))):=by
  show(fw s.h 6 _).bind _=_;rw [gG (r:=e.row) (L:= [[(k,e.size,l.map (aU e.row))]]) 0 rfl (λx h m=>Cy m) s.h (kM hg) 4];rfl
 have key:dq (λq:Kind×List TD=>q=(.own,[.one (.s true e.size (l.map e.row))])) ((rv.mapM (dB E s)).bind λrs=>(rs.mapM (cU s.h)).map λl=>(if cV s.h rs then .own else if l.all (·.1)then .fresh else .any,l.map (·.2))):=by
  rw [hres];simp only [zbS,List.mapM_cons,hv,List.mapM_nil,Option.pure_def,zbB,Option.map_some,ho];rfl
 rcases he with rfl|rfl<;>exact key
theorem pE{rv:List ResultVar}{ds':List D}{l:List (Bool×TD)}{ex:Ex}{s:St}(he:ex= .normal∨ex= .ret)(hres:rv.mapM (dB E s)=some ds')(hv:ds'.mapM (cU s.h)=some l)(ho:cV s.h ds'=false):iS E rv (cond (l.all (·.1)) .fresh .any,l.map (·.2)) ex s:=by
 have key:dq (λq:Kind×List TD=>q=(cond (l.all (·.1)) .fresh .any,l.map (·.2))) ((rv.mapM (dB E s)).bind λrs=>(rs.mapM (cU s.h)).map λl=>(if cV s.h rs then .own else if l.all (·.1)then .fresh else .any,l.map (·.2))):=by
  rw [hres];simp only [zbS,hv,Option.map_some,ho];show(_,_)=(_,_);cases l.all (·.1)<;>rfl
 rcases he with rfl|rfl<;>exact key
theorem ZJ(hG:GOk G E D0)(A:dh){fi:FI}{k:FuncId}{c:Nat}{ins:List TyD}{ok:OutK}{x:vals ins}{out:ok.val}(hax:E.ax k=none)(hf:E.fn k=some fi)(hl:ins.length<=fi.nt)(hs:dI G A fi k c ins ok x=some out)(m:Nat):PB E (m+(D0+c)+1) k (jK ins x) ok out:=by
 unfold dI at hs;have hb:WI {nt:=fi.nt} {sl:= [],bl:= [],nx:=0} ⟨λ_=>0,λ_=>false⟩ []:=⟨λp b hb=>by simp [aI,bS,au]at hb,λp q b b' hb=>by simp [aI,bS,au]at hb⟩;have hargs:RDl (aI {nt:=fi.nt} {sl:= [],bl:= [],nx:=0}) ⟨λ_=>0,λ_=>false⟩ ((rP false ins x).map mkD) ((jK ins x).map (dD false)):=CW (wA (λh=>h) ins x)
 have hsc:∀d∈(rP false ins x).map mkD,ScD 0 d:=λd hd=>by
  obtain⟨y,h1,rfl⟩:=List.mem_map.1 hd;exact zN (Cz 0 false ins x y h1)
 have hrel:Rel {nt:=fi.nt} {sl:=Py ins x,bl:= [],nx:=0} ⟨λ_=>0,λ_=>false⟩ (fA ((jK ins x).map (dD false))) []:=FH (F:={nt:=fi.nt}) hb hsc hargs (by rw [List.length_map,PU];exact hl);have hw:=LL (y:=nY) (n:=m+(D0+c)) hG (by omega) (LN hG A c _ (by omega)) fi.body ok.val _ _ _ out _ _ [] hs hrel;have hend:∀r,(∀e s,PostC {nt:=fi.nt} {sl:=Py ins x,bl:= [],nx:=0} ⟨λ_=>0,λ_=>false⟩ (λe ks=>cond (yU e) (Ij G {nt:=fi.nt} ks fi.results λds=>Ik (aI {nt:=fi.nt} ks) ok ds) none) out e s->iS E fi.results r e s)->RunsP E (m+(D0+c)+1) k (jK ins x) r:=λr hq=>pw hax hf (by rw [IB];exact hl) (hw.mono hq)
 have hopen:∀e s,PostC {nt:=fi.nt} {sl:=Py ins x,bl:= [],nx:=0} ⟨λ_=>0,λ_=>false⟩ (λe ks=>cond (yU e) (Ij G {nt:=fi.nt} ks fi.results λds=>Ik (aI {nt:=fi.nt} ks) ok ds) none) out e s->∃ks' V' f' ds ds',(e= .normal∨e= .ret)/\Rel {nt:=fi.nt} ks' V' f' s.h/\fi.results.mapM (dB E s)=some ds'/\RDl (aI {nt:=fi.nt} ks') V' ds ds'/\Ik (aI {nt:=fi.nt} ks') ok ds=some out:=by
  intro e s hp;obtain⟨ks',V',f',h1,h2,h3,h4⟩:=hp;obtain⟨t,hh⟩:=s;simp only at h1 h2;subst h1;dsimp only at h3
  cases he:yU e with
  |false=>rw [he]at h3;simp at h3
  |true=>
   rw [he]at h3;obtain⟨ds,ds',e1,e2,e3,e4⟩:=zQ hG h2 h3;exact⟨ks',V',f',ds,ds',LM he,h2,e1,e2,e4⟩
 cases ok with
 |data fr ts=>
  have hdata:∀(ks':KS) (V':Vl) (ds:List KD) (ds':List D) (hh:Heap) (f':Nat->D),Rel {nt:=fi.nt} ks' V' f' hh->RDl (aI {nt:=fi.nt} ks') V' ds ds'->Ik (aI {nt:=fi.nt} ks') (.data fr ts) ds=some out->∃l,ds'.mapM (cU hh)=some l/\l.map (·.2)=jK ts out/\(fr=true->l.all (·.1)=true)/\cV hh ds'=false:=by
   intro ks' V' ds ds' hh f' h2 e2 e4;unfold Ik at e4;simp only at e4;split at e4
   .simp at e4
   .rename_i hc;obtain⟨l,l1,l2,l3⟩:=uH h2.bls e4 e2
    have hno:xI ds=false:=by cases ho:xI ds with|true=>simp [ho]at hc|false=>rfl
    refine⟨l,l1,l2,λhfr=>l3 ?_,RN e4 e2 hno⟩
    cases ha:ds.all frD with
    |true=>rfl
    |false=>simp [hfr,ha]at hc
  cases fr with
  |true=>
   refine hend _ λe s hp=> ?_;obtain⟨ks',V',f',ds,ds',he,h2,e1,e2,e4⟩:=hopen e s hp;obtain⟨l,l1,l2,l3,l4⟩:=hdata ks' V' ds ds' s.h f' h2 e2 e4
   have:=pE (E:=E) he e1 l1 l4
   rw [l3 rfl,l2]at this;exact this
  |false=>
   -- is it new? that is settled when it has run
   obtain⟨e,s,hrun,hp⟩:=hw;obtain⟨ks',V',f',ds,ds',he,h2,e1,e2,e4⟩:=hopen e s hp;obtain⟨l,l1,l2,_,l4⟩:=hdata ks' V' ds ds' s.h f' h2 e2 e4
   have:=pE (E:=E) he e1 l1 l4
   rw [l2]at this;exact⟨l.all (·.1),pw hax hf (by rw [IB];exact hl) ⟨e,s,hrun,this⟩⟩
 |own ty=>
  refine hend _ λe s hp=> ?_;obtain⟨ks',V',f',ds,ds',he,h2,e1,e2,e4⟩:=hopen e s hp;unfold Ik at e4;simp only at e4;unfold Wt at e4;split at e4
  .rename_i e0 p;split at e4
   .rename_i e' ne l hB;split at e4
    .rename_i hpl;rw [Option.map_eq_some_iff]at e4;obtain⟨l2,g0,rfl⟩:=e4;obtain⟨hty,g0⟩:=bU g0;cases hty;subst g0;obtain⟨y,s',e5,⟨c',e6,e7⟩,e8⟩:=e2;rw [show s'= []from e8]at e5;rw [e5,e6,e7 _ _ _ hB]at e1;exact wK he e1 (h2.bl p _ hB).2.2.1 hpl
    .simp at e4
   .simp at e4
  .simp at e4
 |mown ty=>
  refine hend _ λe s hp=> ?_;obtain⟨ks',V',f',ds,ds',he,h2,e1,e2,e4⟩:=hopen e s hp
  have hnil:∀{ds'':List D},RDl (aI {nt:=fi.nt} ks') V' [.one .nil] ds''->fi.results.mapM (dB E s)=some ds''->iS E fi.results (VZ ty.size ty.row []) e s:=by
   intro ds'' e2 e1;obtain⟨y,s',e5,⟨c',e6,e7⟩,e8⟩:=e2;rw [show s'= []from e8]at e5;rw [e5,e6,show c'=_ from e7]at e1;exact pE (E:=E) (l:= [(true,.one (.s false 0 []))]) he e1 rfl rfl
  unfold Ik at e4;simp only at e4;unfold Pw at e4;split at e4
  .cases e4;exact hnil e2 e1
  .rename_i e0 p;split at e4
   .rename_i e' l hB;split at e4
    .rename_i hpl;rw [Option.map_eq_some_iff]at e4;obtain⟨l2,g0,rfl⟩:=e4;obtain⟨hty,g0⟩:=bU g0;cases hty;subst g0;obtain⟨y,s',e5,⟨c',e6,e7⟩,e8⟩:=e2;rw [show s'= []from e8]at e5;rw [e5,e6,e7 _ _ hB]at e1
     cases l with
     |nil=>exact pE (E:=E) (l:= [(true,.one (.s false 0 []))]) he e1 rfl rfl
     |cons a l=>exact wK he e1 ((h2.bl p _ hB).2.2 (by simp)) hpl
    .simp at e4
   .simp at e4
  .rename_i e0 p;split at e4
   .rename_i e' ne l hB;split at e4
    .rename_i hpl;rw [Bool.and_eq_true]at hpl;rw [Option.map_eq_some_iff]at e4;obtain⟨l2,g0,rfl⟩:=e4;obtain⟨hty,g0⟩:=bU g0;cases hty;subst g0;obtain⟨y,s',e5,⟨c',e6,e7⟩,e8⟩:=e2;rw [show s'= []from e8]at e5;rw [e5,e6,e7 _ _ _ hB]at e1;obtain⟨w1,w2,w3,w4⟩:=h2.bl p _ hB
     cases l with
     |nil=>exact absurd rfl (w4 hpl.2)
     |cons a l=>exact wK he e1 w3 hpl.1
    .simp at e4
   .simp at e4
  .simp at e4
 |gown ty=>
  refine hend _ λe s hp=> ?_;obtain⟨ks',V',f',ds,ds',he,h2,e1,e2,e4⟩:=hopen e s hp;unfold Ik at e4;simp only at e4;unfold Px at e4;split at e4
  .cases e4;obtain⟨y,s',e5,⟨c',e6,e7⟩,e8⟩:=e2;rw [show s'= []from e8]at e5;rw [e5,e6,show c'=_ from e7]at e1;exact pE (E:=E) (l:= [(true,.one (.s false 0 []))]) he e1 rfl rfl
  .rename_i e0 p;split at e4
   .rename_i e' l hB;split at e4
    .rename_i hpl;rw [Option.map_eq_some_iff]at e4;obtain⟨l2,g0,rfl⟩:=e4;obtain⟨hty,g0⟩:=bU g0;cases hty;subst g0;obtain⟨y,s',e5,⟨c',e6,e7⟩,e8⟩:=e2;rw [show s'= []from e8]at e5;rw [e5,e6,e7 _ _ hB]at e1
     cases l with
     |nil=>exact pE (E:=E) (l:= [(true,.one (.s false 0 []))]) he e1 rfl rfl
     |cons a l=>exact wK he e1 ((h2.bl p _ hB).2.2 (by simp)) hpl
    .simp at e4
   .simp at e4
  .rename_i e0 p;split at e4
   .rename_i e' ne l hB;split at e4
    .rename_i hpl;rw [Option.map_eq_some_iff]at e4;obtain⟨l2,g0,rfl⟩:=e4;obtain⟨hty,g0⟩:=bU g0;cases hty;subst g0;obtain⟨y,s',e5,⟨c',e6,e7⟩,e8⟩:=e2;rw [show s'= []from e8]at e5;rw [e5,e6,e7 _ _ _ hB]at e1;exact wK he e1 (h2.bl p _ hB).2.2.1 hpl
    .simp at e4
   .simp at e4
  .simp at e4
end
end K
end Ev
end
noncomputable section
namespace Ev
namespace K
open Go Go.RowKit
def acw(E:Env)(D:Nat):List bJ->Prop
 | []=>True
 |e::r=>(e.d<=D/\aS E e)/\acw E D r
def acx(E:Env):List (FuncId×FI)->Prop
 | []=>True
 |x::r=>(E.fn x.1=some x.2/\E.ax x.1=some λ_=>none)/\acx E r
def WR(E:Env):List (Nat×TI)->Prop
 | []=>True
 |x::r=>E.ti x.1=some x.2/\WR E r
def WS(P:Program):List (Nat×List IntKind)->Prop
 | []=>True
 |x::r=>Zw P x.1 x.2/\WS P r
theorem LO{E:Env}{D:Nat}:∀{l:List bJ},acw E D l->∀e∈l,e.d<=D/\aS E e
 | [],_,e,h=>by simp at h
 |a::l,⟨h1,h2⟩,e,h=>by
  rcases List.mem_cons.1 h with rfl|h
  .exact h1
  .exact LO h2 e h
theorem FJ{E:Env}:∀{l:List (FuncId×FI)},acx E l->∀k f,au l k=some f->E.fn k=some f/\E.ax k=some λ_=>none
 | [],_,k,f,h=>by simp [au]at h
 |a::l,⟨h1,h2⟩,k,f,h=>by
  rw [show a::l=(a.1,a.2)::l from rfl,bm]at h;split at h
  .rename_i hk;cases h;subst hk;exact h1
  .exact FJ h2 k f h
theorem FK{E:Env}:∀{l:List (Nat×TI)},WR E l->∀k f,au l k=some f->E.ti k=some f
 | [],_,k,f,h=>by simp [au]at h
 |a::l,⟨h1,h2⟩,k,f,h=>by
  rw [show a::l=(a.1,a.2)::l from rfl,bm]at h;split at h
  .rename_i hk;cases h;subst hk;exact h1
  .exact FK h2 k f h
theorem FM{P:Program}:∀{l:List (Nat×List IntKind)},WS P l->∀k f,au l k=some f->Zw P k f
 | [],_,k,f,h=>by simp [au]at h
 |a::l,⟨h1,h2⟩,k,f,h=>by
  rw [show a::l=(a.1,a.2)::l from rfl,bm]at h;split at h
  .rename_i hk;cases h;subst hk;exact h1
  .exact FM h2 k f h
theorem gok{E:Env}{D:Nat}{tt:List (Nat×TI)}{eqs:List (Nat×List IntKind)}{fns:List bJ}{fi:List (FuncId×FI)}(hE:E.Ok)(ht:WR E tt)(hq:WS E.P eqs)(hf:acw E D fns)(hi:acx E fi):GOk ⟨tt,eqs,fns,fi⟩ E D:=⟨hE,FK ht,FM hq,LO hf,FJ hi⟩
def mkE(G:KG)(A:dh)(fi:FI)(k:FuncId)(c:Nat)(ins:List TyD)(out:OutK)(d:Nat):bJ:=⟨k,ins,out,dI G A fi k c ins out,d⟩
theorem bF{E:Env}{D:Nat}{G:KG}{A:dh}{fi:FI}{k:FuncId}{c:Nat}{ins:List TyD}{out:OutK}{d:Nat}(hG:GOk G E D)(hax:E.ax k=none)(hf:E.fn k=some fi)(hl:Nat.ble ins.length fi.nt=true)(hd:D+c+1=d):aS E (mkE G A fi k c ins out d):=λm a o h=>by
 subst hd;exact ZJ hG A hax hf (Nat.le_of_ble_eq_true hl) h m
def fiF(f:Func):FI:=⟨f.ntmps,f.results.toList,f.body.getD .skip⟩
theorem cv{P:Program}{k:FuncId}{f:Func}{b:Code}(h:P.funcs[k]? =some f)(hb:f.body=some b):bB P k=some (fiF f):=by
 unfold bB fiF;rw [h];simp only [hb];rfl
theorem aae{P:Program}{ty:TypeId}{k0 k1:IntKind}(h:∀(x y:Operand) (a0 b0 a1 b1:Int),am P (do eqGuard .eql ty x y (.agg #[.int k0 a0,.int k1 a1]) (.agg #[.int k0 b0,.int k1 b1]);binOp .eql ty (.agg #[.int k0 a0,.int k1 a1]) (.agg #[.int k0 b0,.int k1 b1]))=some (.bool (a0==b0 &&(a1==b1 && true))))
  (h':∀(x y:Operand) (a0 b0 a1 b1:Int),am P (do eqGuard .neq ty x y (.agg #[.int k0 a0,.int k1 a1]) (.agg #[.int k0 b0,.int k1 b1]);binOp .neq ty (.agg #[.int k0 a0,.int k1 a1]) (.agg #[.int k0 b0,.int k1 b1]))=some (.bool (!(a0==b0 &&(a1==b1 && true))))):Zw P ty [k0,k1]:=λx y l hl=>by
 match l,hl with
 | [(a0,b0),(a1,b1)],_=>
  have e:(a0==b0 &&(a1==b1 && true))= @decide (eqP [(a0,b0),(a1,b1)]) (eqD [(a0,b0),(a1,b1)]):=jk (by simp [eqP]);exact⟨(h x y a0 b0 a1 b1).trans (by rw [e]),(h' x y a0 b0 a1 b1).trans (by rw [e])⟩
end K
@[reducible] def nE {R:Type} (v:Empty):Option R:=K.afterX.match_1 (λ_=>Option R) v
end Ev
end
end Go.Proofs.YtjjbpdldbdmoeaaGreatDoor
