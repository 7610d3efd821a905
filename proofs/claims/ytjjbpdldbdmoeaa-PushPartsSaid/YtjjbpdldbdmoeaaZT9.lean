/- Texts of a claim, joined. -/
import Derived.Test.YtjjbpdldbdmoeaaZT8
set_option linter.unusedVariables false
set_option linter.unusedSimpArgs false
namespace Go.Proofs.Ytjjbpdldbdmoeaa
noncomputable section
namespace Ev
namespace K
open Go Go.RowKit
theorem Hk{ids:List Nat}{p:Nat}(h:(!(ids.any (Nat.beq p)))=true):p ∉ ids:=by
 intro hp
 have:ids.any (Nat.beq p)=true:=List.any_eq_true.2 ⟨p,hp,Nat.beq_refl p⟩
 rw [this]at h;simp at h
theorem UJ{e:KE}{nid p:Nat}{bl bl':List (Nat×KB)}(h:am bl p=am bl' p):am (blE e nid bl) p=am (blE e nid bl') p:=by
 have h1:am (blU e bl) p=am (blU e bl') p:=by
  unfold blU
  cases e.upd with
  |none=>exact h
  |some x=>show am ((x.1,x.2)::bl) p=am ((x.1,x.2)::bl') p;rw [aV,aV,h]
 unfold blE
 cases e.new with
 |none=>exact h1
 |some b=>simp only [aV,h1]
section free
variable {B B' : BK} {V : Vl} {ids : List Nat} (hb : ∀ p, p ∉ ids → B' p = B p)
include hb
theorem RC.free{c:KC}{x:C}(hf:xI ids c=true)(h:RC B V c x):RC B' V c x:=by
 cases c with
 |o e p=>intro e' ne l hl;rw [hb p (Hk (ids:=ids) (p:=p) hf)]at hl;exact h e' ne l hl
 |m e p=>intro e' l hl;rw [hb p (Hk (ids:=ids) (p:=p) hf)]at hl;exact h e' l hl
 |_=>exact h
theorem RCs.free:∀{l:List KC} {xs:List C},l.all (xI ids)=true→RCs B V l xs→RCs B' V l xs
 | [],xs,hf,h=>h
 |c::l,xs,hf,⟨x,s,e,h1,h2⟩=>by
  rw [List.all_cons,Bool.and_eq_true]at hf;exact⟨x,s,e,RC.free hb hf.1 h1,RCs.free hf.2 h2⟩
theorem RD1.free{k:KD}{d:D}(hf:Bs ids k=true)(h:RD1 B V k d):RD1 B' V k d:=by
 cases k with
 |one c=>obtain⟨c',h1,h2⟩:=h;exact⟨c',h1,RC.free hb hf h2⟩
 |agg cs=>obtain⟨c',h1,h2⟩:=h;exact⟨c',h1,RCs.free hb hf h2⟩
 |tup ts=>exact h
omit hb in
theorem UK{x:Bool×List KC}(hf:x.2.all (xI ids)=true):Bs ids (mkD x)=true:=by
 obtain⟨b,cs⟩:=x
 cases b with
 |true=>exact hf
 |false=>match cs,hf with
  | [],hf=>exact hf
  | [c],hf=>simpa [mkD,Bs]using hf
  |c::d::r,hf=>exact hf
theorem RTs.free:∀{l:List (Bool×List KC)} {xs:List D},(l.all fun x=>x.2.all (xI ids))=true→RTs B V l xs→RTs B' V l xs
 | [],xs,hf,h=>h
 |c::l,xs,hf,⟨x,s,e,h1,h2⟩=>by
  rw [List.all_cons,Bool.and_eq_true]at hf;exact⟨x,s,e,RD1.free hb (UK hf.1) h1,RTs.free hf.2 h2⟩
theorem RD.free{k:KD}{d:D}(hf:Bs ids k=true)(h:RD B V k d):RD B' V k d:=by
 cases k with
 |one c=>exact RD1.free (k:= .one c) hb hf h
 |agg cs=>exact RD1.free (k:= .agg cs) hb hf h
 |tup ts=>obtain⟨ds,h1,h2⟩:=h;exact⟨ds,h1,RTs.free hb hf h2⟩
theorem BlkIs.free{b:KB}{x:Blk}(hf:Um ids b=true)(h:BlkIs B V x b):BlkIs B' V x b:=by
 cases b with
 |box cs=>obtain⟨sz,cs',g1,g2⟩:=h;exact⟨sz,cs',g1,RCs.free hb hf g2⟩
 |rows e ne l=>exact h
 |mrows e l=>exact h
 |dead=>exact h
end free
theorem MU{ids:List Nat}{tag:Nat}{d:KD}:Bs ids (pV tag d)=Bs ids d:=by
 unfold pV;split<;>rfl
section
variable {E : Env} {y : Nat → fG} {n : Nat} {F : KF} {ks : KS} {V : Vl} {f : Nat → D} {h : Heap} {M tag nid : Nat} {op : Op} {G : KG} {D0 : Nat} {R : Type} {r : R}
theorem mX{ids:List Nat}{p:Nat}:am (vq ids ks).bl p=if p∈ids then some .dead else am ks.bl p:=by
 show am (ids.map (fun p=>(p,KB.dead))++ks.bl) p=_;rw [bp];unfold bF;rcases wI (l:=ids) (p:=p)with⟨h1,h2⟩|⟨h1,h2⟩
 ·rw [h1,if_neg h2]
 ·rw [h1,if_pos h2]
theorem tQ{ids:List Nat}{p:Nat}:aF F (vq ids ks) p=if p∈ids then none else aF F ks p:=by
 unfold aF bF;rw [mX];by_cases hp:p∈ids
 ·rw [if_pos hp,if_pos hp]
 ·rw [if_neg hp,if_neg hp]
theorem Xp{ids:List Nat}{e:KE}{p:Nat}(hp:p ∉ ids):Be F (vq ids ks) nid e p=Be F ks nid e p:=by
 have:=UJ (e:=e) (nid:=nid) (show am (vq ids ks).bl p=am ks.bl p by rw [mX,if_neg hp])
 unfold Be aF bF;simp only [this]
theorem UL{ids ms:List Nat}(hr:Rel F ks V f h)(hm:∀p b,aF F ks p=some b→b.there→V.id p∈ms→p∈ids):Rel F (vq ids ks) V f (mask h ms):=by
 have hle:LeB ks.nx (aF F ks) (aF F (vq ids ks)):=fun p hp=>by
  rw [tQ];split
  ·exact⟨fun e ne l h=>by simp at h,fun e l h=>by simp at h⟩
  ·exact⟨fun e ne l h=>⟨e,ne,l,h,rfl⟩,fun e l h=>⟨e,l,h,rfl⟩⟩
 refine⟨fun i d hd=> ?_,fun p b hb=> ?_,fun p q b b' hp hq=> ?_⟩
 ·obtain⟨g1,g2,g3⟩:=hr.sl i d hd;exact⟨g1,g2,g3.mono g2 hle (Agree.refl _ _)⟩
 ·rw [tQ]at hb;split at hb
  ·simp at hb
  ·rename_i hp;obtain⟨g1,g2,g3⟩:=hr.bl p b hb;refine⟨g1,g2,?_⟩;have g4:=g3.mono g2 hle (Agree.refl _ _);by_cases ht:b.there
   ·exact g4.heap (by rw [xF,if_neg fun hh=>hp (hm p b hb ht hh)])
   ·cases b with
    |mrows e l=>exact fun hl=>absurd hl ht
    |dead=>trivial
    |box cs=>exact absurd trivial ht
    |rows e ne l=>exact absurd trivial ht
 ·rw [tQ]at hp hq;split at hp
  ·simp at hp
  ·split at hq
   ·simp at hq
   ·exact hr.inj p q b b' hp hq
open Classical in
def oId(ks:KS)(V:Vl)(p:Nat):List Nat:=if∃b,am ks.bl p=some b∧b.there then [V.id p]else []
def wK(ks:KS)(V:Vl)(l:List Nat):List Nat:=l.flatMap (oId ks V)
def vA(ks:KS)(V:Vl)(O:List (List Nat)):List (List Nat):=O.map (wK ks V)
theorem rD{O:List (List Nat)}{j:Nat}:(vA ks V O).getD j []=wK ks V (O.getD j []):=by
 unfold vA;rw [List.getD_eq_getElem?_getD,List.getElem?_map,List.getD_eq_getElem?_getD];cases O[j]? <;>rfl
theorem qX{l:List Nat}{x:Nat}(h:x∈wK ks V l):∃p∈l,∃b,am ks.bl p=some b∧b.there∧x=V.id p:=by
 unfold wK at h;obtain⟨p,hp,hx⟩:=List.mem_flatMap.1 h;unfold oId at hx;split at hx
 ·rename_i hh;obtain⟨b,h1,h2⟩:=hh;exact⟨p,hp,b,h1,h2,by simpa using hx⟩
 ·simp at hx
theorem qY{b:KB}(h:b.there):b≠ .dead:=by rintro rfl;exact h
theorem vB(hr:Rel F ks V f h){p:Nat}{b:KB}(hp:aF F ks p=some b)(ht:b.there):V.id p<h.length:=
 let⟨_,hz⟩:=tG (hr.bl p b hp).2.2 ht;DM hz
theorem Oo(hr:Rel F ks V f h):∀{os rs O:List (List Nat)},djB os rs O=true→DJ (vA ks V os) rs (vA ks V O)
 | [],rs,O,_=>by cases rs<;>trivial
 |o::os,[],O,_=>trivial
 |o::os,r::rs,O,hd=>by
  have hd':((r.all fun j=>Uo o (O.getD j []))&& djB os rs O)=true:=hd;rw [Bool.and_eq_true]at hd';refine⟨fun j hj x hx=> ?_,Oo hr hd'.2⟩;rw [rD];intro hx2;obtain⟨p,p1,b,p2,p3,rfl⟩:=qX hx;obtain⟨q,q1,b',q2,q3,q4⟩:=qX hx2
  have:=hr.inj p q b b' (ay p2 (qY p3)) (ay q2 (qY q3)) p3 q3 q4
  subst this;have h1:=List.all_eq_true.1 hd'.1 j hj;unfold Uo at h1;exact Hk (List.all_eq_true.1 h1 p p1) q1
theorem Xq(hr:Rel F ks V f h){O:List (List Nat)}:∀l∈vA ks V O,∀k∈l,k<h.length:=by
 intro l hl k hk;obtain⟨o,h1,rfl⟩:=List.mem_map.1 hl;obtain⟨p,_,b,p2,p3,rfl⟩:=qX hk;exact vB hr (ay p2 (qY p3)) p3
section
variable {Rl O : List (List Nat)} {N : List (Bool × List Nat)} {nw : List (Nat × Nat)} {i j p q : Nat}
theorem Ki(hj:j∈Rl.getD i [])(hp:p∈O.getD j []):p∈iQ Rl O N nw i:=List.mem_flatMap.2 ⟨j,hj,List.mem_append.2 (.inl hp)⟩
theorem Kj(hj:j∈Rl.getD i [])(hq:q∈(N.getD j (false,[])).2)(hp:am nw q=some p):p∈iQ Rl O N nw i:=List.mem_flatMap.2 ⟨j,hj,List.mem_append.2 (.inr (List.mem_append.2 (.inl (List.mem_flatMap.2 ⟨q,hq,by rw [hp];exact List.mem_singleton.2 rfl⟩))))⟩
theorem Kk(hj:j∈Rl.getD i [])(hn:(N.getD j (false,[])).1=true)(hp:am nw j=some p):p∈iQ Rl O N nw i:=List.mem_flatMap.2 ⟨j,hj,List.mem_append.2 (.inr (List.mem_append.2 (.inr (by rw [hn,hp];exact List.mem_singleton.2 rfl))))⟩
end
structure TInv(F:KF)(ks0:KS)(V0:Vl)(b w:Nat)(nw:List (Nat×Nat))(i:Nat)(ks:KS)(V:Vl)(f:Nat→D)(H:Heap):Prop where
 rel:Rel F ks V f H
 ext:Ext F ks0 V0 ks V
 len:H.length=b+w
 th:∀p bl,aF F ks p=some bl→bl.there→(p<ks0.nx∧∃b0,aF F ks0 p=some b0∧b0.there)∨∃j,am nw j=some p
 nw:∀j q,am nw j=some q→j<i∧V.id q=b+j∧q<ks.nx
 free:∀j,i≤j→az H (b+j)=none
section
variable {ks0 : KS} {V0 : Vl} {f0 : Nat → D} {h0 : Heap} {w i : Nat} {nw : List (Nat × Nat)} {H : Heap} {Rl O : List (List Nat)} {N : List (Bool × List Nat)}
theorem TInv.mask(hr0:Rel F ks0 V0 f0 h0)(hi:TInv F ks0 V0 h0.length w nw i ks V f H){p:Nat}{bl:KB}(hp:aF F ks p=some bl)(ht:bl.there)(hm:V.id p∈(Rl.getD i []).flatMap (aX h0.length (vA ks0 V0 O) N)):p∈iQ Rl O N nw i:=by
 obtain⟨j,hj,hx⟩:=List.mem_flatMap.1 hm;unfold aX at hx;rw [rD]at hx;rcases hi.th p bl hp ht with⟨h1,b0,h2,h3⟩|⟨j0,h1⟩
 ·rw [(hi.ext.agree p h1).1]at hx;have hlt:=vB hr0 h2 h3;rcases List.mem_append.1 hx with hx|hx
  ·obtain⟨q,q1,b1,q2,q3,q4⟩:=qX hx
   have:=hr0.inj p q b0 b1 h2 (ay q2 (qY q3)) h3 q3 q4
   subst this;exact Ki hj q1
  ·exfalso;rcases List.mem_append.1 hx with hx|hx
   ·obtain⟨k,_,hk⟩:=List.mem_map.1 hx;omega
   ·split at hx
    ·have:=List.mem_singleton.1 hx;omega
    ·simp at hx
 ·obtain⟨h2,h3,h4⟩:=hi.nw j0 p h1;rw [h3]at hx;rcases List.mem_append.1 hx with hx|hx
  ·obtain⟨q,q1,b1,q2,q3,q4⟩:=qX hx
   have:=vB hr0 (ay q2 (qY q3)) q3
   omega
  ·rcases List.mem_append.1 hx with hx|hx
   ·obtain⟨k,k1,k2⟩:=List.mem_map.1 hx
    have:k=j0:=by omega
    subst this;exact Kj hj k1 h1
   ·split at hx
    ·rename_i hn
     have:=List.mem_singleton.1 hx
     have:j0=j:=by omega
     subst this;exact Kk hj hn h1
    ·simp at hx
theorem rE{b:KB}(h1:isM b=false)(h2:b≠ .dead):b.there:=by
 cases b with
 |mrows e l=>simp [isM]at h1
 |dead=>exact absurd rfl h2
 |box cs=>trivial
 |rows e ne l=>trivial
theorem Xr(hr0:Rel F ks0 V0 f0 h0)(hi:TInv F ks0 V0 h0.length w nw i ks V f H){p:Nat}{b0:KB}(hb:am ks.bl p=some b0)(hd:b0≠ .dead){uo:List (Nat×Blk)}(huo:(b0.there∧∃x,uo= [(V.id p,x)])∨(¬b0.there∧uo= [])):∀(P Q:List Nat),Em ks0 ks nw p P Q=true→uo.map (·.1)=wK ks0 V0 P++Q.map (h0.length+·)∧∀x∈wK ks0 V0 P++Q.map (h0.length+·),x<h0.length+i
 | [q],[],ho=>by
  have ho':(Nat.beq p q && Un ks0 ks p)=true:=ho;rw [Bool.and_eq_true]at ho'
  have:=Nat.eq_of_beq_eq_true ho'.1
  subst this;have h2:=ho'.2;unfold Un at h2;split at h2
  ·rename_i x0 y0 hx0 hy0;rw [hb]at hy0;cases hy0;have hx0d:x0≠ .dead:=by rintro rfl;simp at h2
   have hm:isM x0=isM b0:=by
    cases x0 with
    |dead=>exact absurd rfl hx0d
    |_=>simpa using h2
   have hp0:=(hr0.bl p x0 (ay hx0 hx0d)).1
   have key:x0.there↔b0.there:=by
    cases x0 with
    |dead=>exact absurd rfl hx0d
    |box cs=>exact⟨fun _=>rE hm.symm hd,fun _=>trivial⟩
    |rows e ne l=>exact⟨fun _=>rE hm.symm hd,fun _=>trivial⟩
    |mrows e l=>cases b0 with
     |mrows e' l'=>
      obtain⟨e1,l1,g1,g2⟩:=(hi.ext.le p hp0).2 e' l' (ay hb hd);rw [ay hx0 hx0d]at g1;cases g1;show l≠[]↔l'≠[];rw [←List.length_pos_iff,←List.length_pos_iff,g2]
     |_=>simp [isM]at hm
   have e1:wK ks0 V0 [p]=oId ks0 V0 p:=by simp [wK]
   rw [e1,List.map_nil,List.append_nil];rcases huo with⟨h3,x,rfl⟩|⟨h3,rfl⟩
   ·have h4:oId ks0 V0 p= [V0.id p]:=if_pos ⟨x0,hx0,key.2 h3⟩;rw [h4]
    have:=vB hr0 (ay hx0 hx0d) (key.2 h3)
    exact⟨by show [V.id p]=_;rw [(hi.ext.agree p hp0).1],fun z hz=>by have:=List.mem_singleton.1 hz;omega⟩
   ·have h4:oId ks0 V0 p= []:=if_neg fun⟨b,g1,g2⟩=>by rw [hx0]at g1;cases g1;exact h3 (key.1 g2)
    rw [h4];exact⟨rfl,fun z hz=>by simp at hz⟩
  ·simp at h2
 | [],[j],ho=>by
  have ho':ME ks nw p j=true:=ho;unfold ME at ho';rw [Bool.and_eq_true]at ho';obtain⟨h1,h2⟩:=ho';split at h1
  ·rename_i q hq
   have:=Nat.eq_of_beq_eq_true h1
   subst this;rw [hb]at h2;have hth:b0.there:=rE (by simpa using h2) hd;obtain⟨k1,k2,k3⟩:=hi.nw j p hq;rcases huo with⟨_,x,rfl⟩|⟨h3,_⟩
   ·refine⟨?_,fun z hz=> ?_⟩
    ·show [V.id p]=_;rw [k2];simp [wK]
    ·have:z=h0.length+j:=by simpa [wK]using hz
     omega
   ·exact absurd hth h3
  ·simp at h1
 | [],[],ho=>by simp [Em]at ho
 | [],_::_::_,ho=>by simp [Em]at ho
 | [_],_::_,ho=>by simp [Em]at ho
 |_::_::_,_,ho=>by simp [Em]at ho
theorem UM(hr0:Rel F ks0 V0 f0 h0)(hi:TInv F ks0 V0 h0.length w nw i ks V f H){e:KE}{ids:List Nat}(hef:En ks0 ks O N nw i ids e=true)(hupd:∀p b,e.upd=some (p,b)→∃b0,am ks.bl p=some b0∧b0≠ .dead∧ScB ks.nx b∧b0.like b)(hnew:∀b,e.new=some b→ScB ks.nx b∧b≠ .dead){B':BK}{V':Vl}{u:List (Nat×Blk)}(hreal:Us B' V' V ks (h0.length+i) e u):
  u.map (·.1)=aX h0.length (vA ks0 V0 O) N i∧∀x∈aX h0.length (vA ks0 V0 O) N i,x<h0.length+(i+1):=by
 unfold En at hef;simp only [Bool.and_eq_true]at hef;obtain⟨⟨_,h2⟩,h3⟩:=hef;obtain⟨uo,un,rfl,huo,hun⟩:=hreal
 have hO:uo.map (·.1)=wK ks0 V0 (O.getD i [])++(N.getD i (false,[])).2.map (h0.length+·)∧∀x∈wK ks0 V0 (O.getD i [])++(N.getD i (false,[])).2.map (h0.length+·),x<h0.length+i:=by
  cases hu:e.upd with
  |none=>
   rw [hu]at huo h2;simp only [Bool.and_eq_true,List.isEmpty_iff]at h2;rw [show uo= []from huo,h2.1,h2.2];exact⟨rfl,fun x hx=>by simp [wK]at hx⟩
  |some z=>
   obtain⟨p,b⟩:=z;rw [hu]at huo h2;simp only [Bool.and_eq_true]at h2;obtain⟨b0,g1,g2,_,_⟩:=hupd p b hu;refine Xr hr0 hi g1 g2 ?_ _ _ h2.2;rcases huo with⟨x,k1,_,k2⟩|⟨k1,_,k2⟩
   ·exact .inl ⟨k2 b0 g1,x,k1⟩
   ·exact .inr ⟨k2 b0 g1,k1⟩
 have hN:un.map (·.1)=(if(N.getD i (false,[])).1 then [h0.length+i]else []):=by
  cases hn:e.new with
  |none=>
   rw [hn]at hun h3;have h3':(N.getD i (false,[])).1=false:=by simpa using h3
   rw [show un= []from hun,h3'];rfl
  |some b=>
   rw [hn]at hun h3;simp only [Bool.and_eq_true]at h3;rw [h3.1.1];have hth:b.there:=rE (by simpa using h3.2) (hnew b hn).2;rcases hun with⟨x,k1,_,_⟩|⟨_,k2⟩
   ·rw [k1];rfl
   ·exact absurd hth k2
 unfold aX;rw [rD,List.map_append,hO.1,hN,List.append_assoc];refine⟨rfl,fun x hx=> ?_⟩;rw [←List.append_assoc]at hx;rcases List.mem_append.1 hx with hx|hx
 ·have:=hO.2 x hx;omega
 ·split at hx
  ·have:=List.mem_singleton.1 hx;omega
  ·simp at hx
theorem EI:∀(u:List (Nat×Blk)) (H:Heap),(∀x∈u,x.1<H.length)→(Ev.apply H u).length=H.length
 | [],H,h=>rfl
 |x::u,H,h=>by
  have h1:=jq x.2 (h x (by simp));show(Ev.apply (aA H x.1 x.2) u).length=_;rw [EI u _ (fun z hz=>by rw [h1];exact h z (by simp [hz])),h1]
theorem BQ(hG:GOk G E D0)(hD:D0≤n){ops:Array Oper}{κ:KS→Option R}(hr0:Rel F ks0 V0 f0 h0):∀(l:List Oper) (i:Nat) (nw:List (Nat×Nat)) {ks:KS} {V:Vl} {f:Nat→D} {H:Heap},i+l.length=w→xJ G F ops.toList Rl O N ks0 κ i nw l ks=some r→TInv F ks0 V0 h0.length w nw i ks V f H→dp (Post F ks0 V0 κ r) (evW E (cpR E n) ops h0.length (aX h0.length (vA ks0 V0 O) N) (fun i=>(Rl.getD i []).flatMap (aX h0.length (vA ks0 V0 O) N)) i l {t:=tab F.nt f,h:=H})
 | [],i,nw,ks,V,f,H,hl,hs,hi=>⟨ks,V,f,rfl,hi.rel,hs,hi.ext⟩
 |o::l,i,nw,ks,V,f,H,hl,hs,hi=>by
  unfold xJ at hs;obtain⟨bb,ks1,g1,g2,g3,g4,g5,g6⟩:=EB hi.rel hs;obtain⟨g,gg1,gg2⟩:=eD g2;have hl':i+1+l.length=w:=by rw [List.length_cons]at hl;omega
  cases bb with
  |false=>
   simp only [cond_false]at g1
   cases hq:MF O N i with
   |false=>rw [hq]at g1;simp at g1
   |true=>
    rw [hq]at g1;simp only [cond_true]at g1;obtain⟨k1,k2⟩:=BI g4 g3;have hi':TInv F ks0 V0 h0.length w nw (i+1) (Eh o.dst ks1) V (upO o.dst cB f) H:=⟨k1,hi.ext.trans (g5.trans k2),hi.len,fun p bl hp ht=>let⟨b0,q1,q2⟩:=g6 p bl hp ht;hi.th p b0 q1 q2,fun j q hj=>let⟨q1,q2,q3⟩:=hi.nw j q hj;⟨by omega,q2,Nat.lt_of_lt_of_le q3 g5.nx⟩,fun j hj=>hi.free j (by omega)⟩;have ih:=BQ hG hD hr0 l (i+1) nw hl' g1 hi'
    have hU:aX h0.length (vA ks0 V0 O) N i= []:=by
     unfold MF at hq;simp only [Bool.and_eq_true,List.isEmpty_iff,Bool.not_eq_true']at hq;unfold aX;rw [rD,hq.1.1,hq.1.2,hq.2];rfl
    cases ho:o.dst with
    |none=>rw [ho]at ih;exact Mh gg1 ho (jA gg2) (by rw [hU];rfl) (by rw [hU];rfl) (kG _) ih
    |some d=>
     rw [ho]at ih g3;exact JA gg1 ho (fK (by simpa [lD]using g3)) (jA gg2) (by rw [hU];rfl) (by rw [hU];rfl) (kG _) (by rw [ke];exact ih)
  |true=>
   simp only [cond_true]at g1;obtain⟨op',ks2,k1,k2,k3,k4,k5,k6⟩:=EC (E:=E) (n:=n) g4 g1;have hi2:TInv F ks0 V0 h0.length w nw i ks2 V f H:=⟨k4,hi.ext.trans (g5.trans k5),hi.len,fun p bl hp ht=>let⟨b0,q1,q2⟩:=(g6.trans k6) p bl hp ht;hi.th p b0 q1 q2,fun j q hj=>let⟨q1,q2,q3⟩:=hi.nw j q hj;⟨q1,q2,Nat.lt_of_lt_of_le q3 (g5.trans k5).nx⟩,hi.free⟩;have hmr:=UL (ids:=iQ Rl O N nw i) (ms:=(Rl.getD i []).flatMap (aX h0.length (vA ks0 V0 O) N)) hi2.rel fun p bl hp ht hm=>hi2.mask hr0 hp ht hm;obtain⟨e,e1,e2⟩:=BC (M:=ks2.nx+2) hG hD hmr (Nat.le_refl _) (Nat.le_succ _) (by show ks2.nx<_;omega) (by show ks2.nx+1<_;omega) k1;have e1':cond (En ks0 ks2 O N nw i (iQ Rl O N nw i) e) (xJ G F ops.toList Rl O N ks0 κ (i+1) (nwE e i (ks2.nx+1) nw) l (MC o.dst ks2.nx (ks2.nx+1) e ks2)) none=some r:=e1
   cases hef:En ks0 ks2 O N nw i (iQ Rl O N nw i) e with
   |false=>rw [hef]at e1';simp at e1'
   |true=>
    rw [hef]at e1';simp only [cond_true]at e1';obtain⟨bo,hrun⟩:=e2.run;obtain⟨v,u,s1,s2,s3⟩:=hrun (h0.length+i)
    have hnot:∀p b,e.upd=some (p,b)→p ∉ iQ Rl O N nw i:=fun p b hb hp=>by
     obtain⟨b0,q1,q2,_⟩:=e2.upd p b hb;rw [mX,if_pos hp]at q1;cases q1;exact q2 rfl
    have hupd:∀p b,e.upd=some (p,b)→∃b0,am ks2.bl p=some b0∧b0≠ .dead∧ScB ks2.nx b∧b0.like b:=fun p b hb=>by
     obtain⟨b0,q1,q2⟩:=e2.upd p b hb;rw [mX,if_neg (hnot p b hb)]at q1;exact⟨b0,q1,q2⟩
    have hfr:=hef;unfold En at hfr;simp only [Bool.and_eq_true]at hfr;obtain⟨⟨f1,f2⟩,f3⟩:=hfr;have hbe:∀p,p ∉ iQ Rl O N nw i→Be F ks2 (ks2.nx+1) e p=Be F (vq (iQ Rl O N nw i) ks2) (ks2.nx+1) e p:=fun p hp=>(Xp hp).symm;have s2':RD (Be F ks2 (ks2.nx+1) e) (V.set (ks2.nx+1) (h0.length+i) ks2.nx bo) (pV ks2.nx e.v) v:=RD.free hbe (by rw [MU];exact f1) s2
    have s3':Us (Be F ks2 (ks2.nx+1) e) (V.set (ks2.nx+1) (h0.length+i) ks2.nx bo) V ks2 (h0.length+i) e u:=by
     obtain⟨uo,un,q1,q2,q3⟩:=s3;refine⟨uo,un,q1,?_,?_⟩
     ·cases hu:e.upd with
      |none=>rw [hu]at q2;exact q2
      |some z=>
       obtain⟨p,b⟩:=z;have hp:=hnot p b hu;rw [hu]at q2 f2;simp only [Bool.and_eq_true]at f2;have hlk:am (vq (iQ Rl O N nw i) ks2).bl p=am ks2.bl p:=by rw [mX,if_neg hp]
       rcases q2 with⟨x,z1,z2,z3⟩|⟨z1,z2,z3⟩
       ·exact .inl ⟨x,z1,BlkIs.free hbe f2.1 z2,fun b0 hb0=>z3 b0 (by rw [hlk];exact hb0)⟩
       ·exact .inr ⟨z1,z2,fun b0 hb0=>z3 b0 (by rw [hlk];exact hb0)⟩
     ·cases hn:e.new with
      |none=>rw [hn]at q3;exact q3
      |some b=>
       rw [hn]at q3 f3;simp only [Bool.and_eq_true]at f3;rcases q3 with⟨x,z1,z2,z3⟩|⟨z1,z2⟩
       ·exact .inl ⟨x,z1,BlkIs.free hbe f3.1.2 z2,z3⟩
       ·exact .inr ⟨z1,z2⟩
    obtain⟨t1,t2⟩:=UM hr0 hi2 hef hupd e2.new s3';have hnone:az H (h0.length+i)=none:=hi2.free i (Nat.le_refl _);have hh:=tH u H (BF k4 hupd s3' hnone);obtain⟨w1,w2⟩:=BE (M:=ks2.nx+2) k4 (Nat.le_refl _) (Nat.le_succ _) (by omega) (by omega) g3 hupd e2.new e2.sc s2' s3' (fun _=>hnone) hh;have hult:∀x∈u,x.1<h0.length+(i+1):=fun x hx=>t2 x.1 (t1▸List.mem_map_of_mem hx)
    have hi':TInv F ks0 V0 h0.length w (nwE e i (ks2.nx+1) nw) (i+1) (MC o.dst ks2.nx (ks2.nx+1) e ks2) (V.set (ks2.nx+1) (h0.length+i) ks2.nx bo) (upO o.dst v f) (Ev.apply H u):=by
     have hnwl:∀j q,am nw j=some q→am (nwE e i (ks2.nx+1) nw) j=some q:=fun j q hj=>by
      unfold nwE;split
      ·rw [aV,if_neg (by have:=(hi2.nw j q hj).1;omega)];exact hj
      ·exact hj
     refine⟨w1,hi2.ext.trans w2,?_,?_,?_,?_⟩
     ·rw [EI u H (fun x hx=>by have:=hult x hx;rw [hi2.len];omega),hi2.len]
     ·intro p bl hp ht
      have hold:∀b0,aF F ks2 p=some b0→b0.there→(p<ks0.nx∧∃b0,aF F ks0 p=some b0∧b0.there)∨∃j,am (nwE e i (ks2.nx+1) nw) j=some p:=fun b0 z1 z2=>by
       rcases hi2.th p b0 z1 z2 with h1|⟨j,hj⟩
       ·exact .inl h1
       ·exact .inr ⟨j,hnwl j p hj⟩
      have hp':Be F ks2 (ks2.nx+1) e p=some bl:=hp;rcases BD (fun b hb=>(e2.new b hb).2) hp' with⟨rfl,h1⟩|h1|⟨h1,h2,h3⟩
      ·refine .inr ⟨i,?_⟩;unfold nwE;rw [h1];simp only [aV,if_true]
      ·obtain⟨b0,z1,z2,_,_⟩:=hupd p bl h1;refine hold b0 (ay z1 z2) ?_;obtain⟨uo,un,q1,q2,q3⟩:=s3';rw [h1]at q2;rcases q2 with⟨x,_,_,z3⟩|⟨_,z3,_⟩
       ·exact z3 b0 z1
       ·exact absurd ht z3
      ·exact hold bl h3 ht
     ·intro j q hj
      have hcase:(j=i∧q=ks2.nx+1)∨am nw j=some q:=by
       unfold nwE at hj;split at hj
       ·rw [aV]at hj;split at hj
        ·rename_i hji;cases hj;exact .inl ⟨hji,rfl⟩
        ·exact .inr hj
       ·exact .inr hj
      rcases hcase with⟨rfl,rfl⟩|hj
      ·exact⟨Nat.lt_succ_self _,Vl.set_id,by show _<ks2.nx+2;omega⟩
      ·obtain⟨z1,z2,z3⟩:=hi2.nw j q hj;exact⟨by omega,by rw [(w2.agree q z3).1,z2],by show _<ks2.nx+2;omega⟩
     ·intro j hj;rw [hh.out _ fun x hx=>by have:=hult x hx;omega];exact hi2.free j (by omega)
    have ih:=BQ hG hD hr0 l (i+1) _ hl' e1' hi';have hst:=(fY gg2).trans ((k2 (h0.length+i) _).trans s1)
    have hall:(aX h0.length (vA ks0 V0 O) N i).all (·<H.length)=true:=List.all_eq_true.2 fun x hx=>by
     have:=t2 x hx
     have h3:=hi2.len;exact decide_eq_true (by omega)
    cases ho:o.dst with
    |none=>rw [ho]at ih;exact Mh gg1 ho hst t1 hall rfl ih
    |some d=>
     rw [ho]at ih g3;exact JA gg1 ho (fK (by simpa [lD]using g3)) hst t1 hall rfl (by rw [ke];exact ih)
theorem Qh(hG:GOk G E D0)(hD:D0≤n){id:Nat}{l:List Oper}{κ:Ex→KS→Option R}(hq:fN ⟨l⟩=true)(hn:oH ⟨l⟩ N=true)(hdj:djB O (ig ⟨l⟩) O=true)(hold:GT ks O=true)(hs:xJ G F l (ig ⟨l⟩) O N ks (κ .normal) 0 [] l ks=some r)(hr:Rel F ks V f h):WpC E y n (.region id ⟨l⟩ true) (fun e s=>∃ks' V' f',s.t=tab F.nt f'∧Rel F ks' V' f' s.h∧κ e ks'=some r∧Ext F ks V ks' V') {t:=tab F.nt f,h:=h}:=by
 refine DS l.length rfl (vA ks V O) N (ig ⟨l⟩) hq hn rfl (Oo hr hdj) (Xq hr) fun h' h1 h2=> ?_;refine BQ (ops:=⟨l⟩) (w:=l.length) hG hD hr l 0 [] (by omega) hs ⟨hr.heap h2,Ext.refl _ _ _,h1,fun p bl hp ht=> .inl ⟨(hr.bl p bl hp).1,bl,hp,ht⟩,fun j q hj=>by simp [am]at hj,fun j hj=> ?_⟩;rw [h2];unfold az;rw [List.getElem?_eq_none (by omega)]
end
end
end K
end Ev
end
noncomputable section
namespace Ev
namespace K
open Go Go.RowKit
section
variable {E : Env} {y : Nat → fG} {n : Nat} {G : KG} {D0 : Nat}
section loop
variable {F : KF} {ks : KS} {V : Vl} {f : Nat → D} {h : Heap} {a : JR} {cs : List KC} {x0 : eg a.head.sh} {ks2 : KS} {V1 V2 : Vl} {f2 : Nat → D} {x1 : eg a.head.sh}
theorem tR{F:KF}{ks:KS}:∀{bs:List (Nat×List Sh)} {p:Nat},p∈qT F ks bs→∃v∈bs,fE F ks v.1=some p
 | [],p,h=>by simp [qT]at h
 |v::r,p,h=>by
  unfold qT at h;split at h
  ·rename_i q hq;rcases List.mem_cons.1 h with rfl|h
   ·exact⟨v,by simp,hq⟩
   ·obtain⟨w,h1,h2⟩:=tR h;exact⟨w,by simp [h1],h2⟩
  ·obtain⟨w,h1,h2⟩:=tR h;exact⟨w,by simp [h1],h2⟩
theorem BS(hr:Rel F ks V f h)(hok:jC F ks=true)(hcs:gw F ks a.head=some cs)(hrd:RdCs ks a.head.sh cs x0)(ha1:Agree ks.nx V V1)(hl1:LeB ks.nx (aF F ks) (aF (aG F ks a cs) (ck F ks a.head x1))){s:St}(hst:s.t=tab F.nt f2)(hr2:Rel (aG F ks a cs) ks2 V2 f2 s.h)(hok2:jC (aG F ks a cs) ks2=true)(hext:Ext (aG F ks a cs) (ck F ks a.head x1) V1 ks2 V2){e:Ex}:∀{l:List (Ex×Pt)} {R:Type} {r:R} {κ:XT l→Option R},(∀x∈l,rO F ks (aG F ks a cs) x.2=true)→vo (aG F ks a cs) ks2 e l κ=some r→∃v,κ v=some r∧JX F ks V a.keep (eh F ks a cs) l v e s
 | [],R,r,κ,hb,hs=>by simp [vo]at hs
 |x::l,R,r,κ,hb,hs=>by
  unfold vo at hs
  cases hx:vn e x.1 with
  |false=>
   rw [hx]at hs;obtain⟨v,h1,h2⟩:=BS hr hok hcs hrd ha1 hl1 hst hr2 hok2 hext (fun z hz=>hb z (by simp [hz])) hs;exact⟨.inr v,h1,h2⟩
  |true=>
   rw [hx]at hs;obtain⟨cs2,v,g1,g2,g3,g4⟩:=pL hr2 hs;have hbs:=hb x (by simp)
   have hkb:∀p,bF (Br F ks a.keep (eh F ks a cs) x.2 v).bl F.bl p=am ((ck F ks x.2 v).bl++((eh F ks a cs).map (fun p=>(p,KB.dead))++(ks.bl++F.bl))) p:=fun p=>by
    rw [←bp];show am ((ck F ks x.2 v).bl++((eh F ks a cs).map (fun p=>(p,KB.dead))++ks.bl)++F.bl) p=_;rw [List.append_assoc,List.append_assoc]
   obtain⟨V3,hr3,ha3,hl3⟩:=On (Fb:=F) (kb:=Br F ks a.keep (eh F ks a cs) x.2 v) hr hok hcs hr2 hok2 hext hbs g1 g2 g3 rfl rfl (fun i d hd=>by
    have hd':bF (kJ x.2.vs ((aP x.2.sh v ks.nx).map (·.1))++sr F ks a.keep) F.sl i=some d:=hd;rw [←bp,List.append_assoc,bp]at hd';unfold bF at hd'
    cases hl:am (kJ x.2.vs ((aP x.2.sh v ks.nx).map (·.1))) i with
    |some d'=>rw [hl]at hd';cases hd';exact .inl rfl
    |none=>rw [hl]at hd';exact .inr hd') hkb
   have hnx1:ks.nx≤(ck F ks a.head x1).nx:=by show ks.nx≤ks.nx+_;omega
   refine⟨.inl v,g4,Om hx,V3,f2,hst,hr3,⟨by show ks.nx≤ks.nx+_;omega,?_,?_,?_⟩⟩
   ·exact(ha1.trans hext.agree hnx1).trans ha3 (Nat.le_refl _)
   ·exact(hl1.trans hext.le hnx1).trans hl3 (Nat.le_refl _)
   ·intro p hp hl;have h2:=aao hcs hrd hext hp hl;show am ((ck F ks x.2 v).bl++((eh F ks a cs).map (fun p=>(p,KB.dead))++ks.bl)) p=none;obtain⟨ca,cb,cw,_,hcb2,_,_⟩:=ir g1
    have e1:am (ck F ks x.2 v).bl p=none:=by
     refine qW (fun w hw he=> ?_) (fun w hw he=> ?_) hp
     ·obtain⟨q,c,j1,j2⟩:=mW hcb2 w hw;rw [EF hok hok2 hbs w hw,he]at j1;cases j1;rw [h2]at j2;simp at j2
     ·obtain⟨q,j1,j2⟩:=EH hr hok2 hcs hext hbs w hw;rw [he]at j2;cases j2;obtain⟨q,k1,k2⟩:=tO g1 hw;rw [j1]at k1;cases k1;obtain⟨b,k3,_⟩:=vz g3 k2;rw [h2]at k3;simp at k3
    rw [bp];unfold bF;rw [e1];simp only [bp];unfold bF;rcases wI (l:=eh F ks a cs) (p:=p)with⟨h1,h2⟩|⟨h1,h2⟩
    ·rw [h1];exact hl
    ·exfalso;rcases List.mem_append.1 h2 with h2|h2
     ·obtain⟨b',k1,_⟩:=vz hrd h2;rw [hl]at k1;simp at k1
     ·obtain⟨w,hw,hpw⟩:=tR h2;obtain⟨ca,cb,cw,_,hcb,_,_⟩:=ir hcs;obtain⟨p'',c'',j1,j2⟩:=mW hcb w hw;rw [hpw]at j1;cases j1;rw [hl]at j2;simp at j2
end loop
theorem Kl(hG:GOk G E D0)(hD:D0≤n){A:Xe}{call:Ek}(hcall:MN E n call):∀(c:Code) (R:Type) (F:KF) (ks:KS) (κ:Ex→KS→Option R) (r:R) (V:Vl) (f:Nat→D) (h:Heap),iS G A call c R F ks κ=some r→Rel F ks V f h→WpC E y n c (PostC F ks V κ r) {t:=tab F.nt f,h:=h}:=by
 intro c
 induction c with
 |skip=>intro R F ks κ r V f h hs hr;exact Jy ⟨ks,V,f,rfl,hr,hs,Ext.refl _ _ _⟩
 |region id ops draw=>
  intro R F ks κ r V f h hs hr;obtain⟨l⟩:=ops
  cases draw with
  |false=>
   have hs':CY G call F (Array.toList ⟨l⟩) (κ .normal) l ks=some r:=hs;exact JE (vy (ops:=⟨l⟩) hG hD hcall l hs' hr)
  |true=>
   have hs':cond (fN ⟨l⟩) (match am A.tn id with
    |none=>qR G F l (κ .normal) l ks
    |some T=>match MD F ks T.old with
     |some O=>cond (oH ⟨l⟩ T.new && djB O (ig ⟨l⟩) O && GT ks O) (xJ G F l (ig ⟨l⟩) O T.new ks (κ .normal) 0 [] l ks) none
     |none=>none) (match pM ⟨l⟩with
    |some m=>cond (nu ⟨l⟩) (qR G F l (CY G call F l (κ .normal) (l.drop m)) (l.take m) ks) none
    |none=>none)=some r:=hs
   cases hq:fN ⟨l⟩with
   |true=>
    rw [hq]at hs';simp only [cond_true]at hs';split at hs'
    ·exact AY l.length rfl hq fun h' h1 h2=>rC (ops:=⟨l⟩) (κ:=κ .normal) hG hD l 0 hs' (hr.heap h2)
    ·split at hs'
     ·rename_i T hT _ O hO
      cases hc:(oH ⟨l⟩ T.new && djB O (ig ⟨l⟩) O && GT ks O)with
      |false=>rw [hc]at hs';simp at hs'
      |true=>
       rw [hc]at hs';simp only [Bool.and_eq_true]at hc;exact Qh hG hD hq hc.1.1 hc.1.2 hc.2 hs' hr
     ·simp at hs'
   |false=>
    rw [hq]at hs';simp only [cond_false]at hs';split at hs'
    ·rename_i m hc
     cases hp:nu ⟨l⟩with
     |false=>rw [hp]at hs';simp at hs'
     |true=>
      rw [hp]at hs';have hr':Rel F ks V f (h++List.replicate (Array.mk l).size .no):=hr.heap fun k=>pz _ _ _;refine UI m hc hp (Kh (rC (ops:=⟨l⟩) (b:=h.length) (κ:=CY G call F l (κ .normal) (l.drop m)) hG hD (l.take m) 0 hs' hr') fun t ht=> ?_);obtain⟨ks',V',f',h1,h2,h3,h4⟩:=ht;simp only at h1 h2;subst h1;exact rB (vy (ops:=⟨l⟩) hG hD hcall (l.drop m) h3 h2) fun s hs=>Post.ext h4 hs
    ·simp at hs'
 |seq a b iha ihb=>
  intro R F ks κ r V f h hs hr
  have hs':(match A.lp.find? fun z=>z.join &&(some z.key==iq a && Nat.beq z.sz (vp a))with
   |none=>iS G A call a R F ks fun e ks=>match e with
    | .normal=>iS G A call b R F ks κ
    |e=>κ e ks
   |some z=>match gw F ks z.head,jC F ks with
    |some cs,true=>cond (rO F ks (aG F ks z cs) z.head && z.exs.all fun x=>rO F ks (aG F ks z cs) x.2) (vm F ks z.head fun x0=>
     (iS G A call a (XT z.exs) (aG F ks z cs) (ck F ks z.head x0) fun e ks2=>cond (jC (aG F ks z cs) ks2) (vo (aG F ks z cs) ks2 e z.exs some) none).bind fun y=>afterX F ks z.keep (eh F ks z cs) z.exs y fun e ks=>match e with
      | .normal=>iS G A call b R F ks κ
      |e=>κ e ks) none
    |_,_=>none)=some r:=hs
  have key:∀e s,PostC F ks V (fun e ks=>match e with
    | .normal=>iS G A call b R F ks κ
    |e=>κ e ks) r e s→qJ (WpC E y n b (PostC F ks V κ r)) (PostC F ks V κ r) e s:=by
   intro e s hp;obtain⟨ks',V',f',h1,h2,h3,h4⟩:=hp;obtain⟨t,hh⟩:=s;simp only at h1 h2;subst h1
   cases e with
   |normal=>exact(ihb R F ks' κ r V' f' hh h3 h2).mono fun e s hp=>hp.ext h4
   |ret=>exact⟨ks',V',f',rfl,h2,h3,h4⟩
   |exit id=>exact⟨ks',V',f',rfl,h2,h3,h4⟩
  split at hs'
  ·exact GD ((iha R F ks _ r V f h hs' hr).mono key)
  ·rename_i z hz;split at hs'
   ·rename_i cs hcs hok
    cases hbs:(rO F ks (aG F ks z cs) z.head && z.exs.all fun x=>rO F ks (aG F ks z cs) x.2)with
    |false=>rw [hbs]at hs';simp at hs'
    |true=>
     rw [hbs]at hs';rw [Bool.and_eq_true]at hbs;obtain⟨hbs0,hbsx⟩:=hbs;obtain⟨cs',x0,g1,g2,g3,g4⟩:=pL hr hs';rw [hcs]at g1;cases g1;rw [zbE]at g4;obtain⟨out,g4,g5⟩:=g4;obtain⟨V1,hr1,ha1,hl1⟩:=yB hr hok hcs g2 g3;refine GD ((iha _ (aG F ks z cs) (ck F ks z.head x0) _ out V1 f h g4 hr1).mono fun e s hp=>key e s ?_);obtain⟨ks2,V2,f2,t1,r2,k1,ext⟩:=hp;dsimp only at k1
     cases hok2:jC (aG F ks z cs) ks2 with
     |false=>rw [hok2]at k1;simp at k1
     |true=>
      rw [hok2]at k1;obtain⟨v,j1,j2⟩:=BS hr hok hcs g3 ha1 hl1 t1 r2 hok2 ext (fun w hw=>List.all_eq_true.1 hbsx w hw) k1;cases j1;exact wJ g5 j2
   ·simp at hs'
 |cond c a b iha ihb=>
  intro R F ks κ r V f h hs hr
  have hs':(match kO F ks c with
   |some (.one c)=>kIf c ks fun t ks=>cond t (iS G A call a R F ks κ) (iS G A call b R F ks κ)
   |_=>none)=some r:=hs
  split at hs'
  ·rename_i c0 hc;obtain⟨d,d1,d2,c',rfl,d3⟩:=ci hr hc;obtain⟨t,ks',g1,rfl,g3,g4⟩:=aam hr d3 hs';have e1:opnd (tab F.nt f) c=some (.one (bC t)):=(bY F.nt f c).trans d1;refine AV e1 rfl ?_
   cases t with
   |true=>exact(iha R F ks' κ r V f h g1 g3).mono fun e s hp=>hp.ext g4
   |false=>exact(ihb R F ks' κ r V f h g1 g3).mono fun e s hp=>hp.ext g4
  ·simp at hs'
 |block id b ih=>
  intro R F ks κ r V f h hs hr;have hs':iS G A call b R F ks (fun e ks=>κ (cond (vn e (.exit id)) .normal e) ks)=some r:=hs;refine DL ((ih R F ks _ r V f h hs' hr).mono fun e s hp=> ?_);obtain⟨ks',V',f',h1,h2,h3,h4⟩:=hp;refine⟨ks',V',f',h1,h2,?_,h4⟩;rw [←h3]
  have:(if e= .exit id then Ex.normal else e)=cond (vn e (.exit id)) .normal e:=by
   cases hx:vn e (.exit id)with
   |true=>rw [if_pos (Om hx)];rfl
   |false=>rw [if_neg (fun he=>by subst he;simp [vn]at hx)];rfl
  rw [this]
 |loop b ih=>
  intro R F ks κ r V f h hs hr
  have hs':(match A.lp.find? fun a=> !a.join && some a.key==iq b with
   |none=>none
   |some a=>match gw F ks a.head,jC F ks with
    |some cs,true=>cond (rO F ks (aG F ks a cs) a.head && a.exs.all fun x=>rO F ks (aG F ks a cs) x.2 && !vn x.1 .normal) (vm F ks a.head fun x0=>
     (aN (fun x=>iS G A call b (eg a.head.sh ⊕ XT a.exs) (aG F ks a cs) (ck F ks a.head x) fun e ks2=>cond (jC (aG F ks a cs) ks2) (match e with
      | .normal=>vm (aG F ks a cs) ks2 a.head fun y=>some (.inl y)
      |e=>vo (aG F ks a cs) ks2 e a.exs fun y=>some (.inr y)) none) x0).bind fun y=>afterX F ks a.keep (eh F ks a cs) a.exs y κ) none
    |_,_=>none)=some r:=hs
  split at hs'
  ·simp at hs'
  ·rename_i a ha;split at hs'
   ·rename_i cs hcs hok
    cases hbs:(rO F ks (aG F ks a cs) a.head && a.exs.all fun x=>rO F ks (aG F ks a cs) x.2 && !vn x.1 .normal)with
    |false=>rw [hbs]at hs';simp at hs'
    |true=>
     rw [hbs]at hs';rw [Bool.and_eq_true]at hbs;obtain⟨hbs0,hbsx⟩:=hbs;obtain⟨cs',x0,g1,g2,g3,g4⟩:=pL hr hs';rw [hcs]at g1;cases g1;rw [zbE]at g4;obtain⟨out,g4,g5⟩:=g4;obtain⟨V1,hr1,ha1,hl1⟩:=yB hr hok hcs g2 g3;refine WpC.mono (DW _ (fun x s=>∃V1 f1,s.t=tab F.nt f1∧Rel (aG F ks a cs) (ck F ks a.head x) V1 f1 s.h∧Agree ks.nx V V1∧LeB ks.nx (aF F ks) (aF (aG F ks a cs) (ck F ks a.head x))) (fun o e s=>JX F ks V a.keep (eh F ks a cs) a.exs o e s) (fun r s=>pW (fun z hz=>by have:=List.all_eq_true.1 hbsx z hz;rw [Bool.and_eq_true]at this;simpa using this.2) r s) ?_ x0 out _ g4 ⟨V1,f,rfl,hr1,ha1,hl1⟩) fun e s hj=>wJ g5 hj;intro x o s hb hI;obtain⟨W1,f1,e1,r1,a1,l1⟩:=hI;obtain⟨t,hh⟩:=s;simp only at e1 r1;subst e1;refine(ih _ (aG F ks a cs) (ck F ks a.head x) _ o W1 f1 hh hb r1).mono fun e s hp=> ?_;obtain⟨ks2,V2,f2,t1,r2,k1,ext⟩:=hp;dsimp only at k1
     cases hok2:jC (aG F ks a cs) ks2 with
     |false=>rw [hok2]at k1;simp at k1
     |true=>
      rw [hok2]at k1;simp only [cond_true]at k1
      have hx:e≠ .normal→vo (aG F ks a cs) ks2 e a.exs (fun y=>some (.inr y))=some o→∃v,o= .inr v∧JX F ks V a.keep (eh F ks a cs) a.exs v e s:=by
       intro hne hk;obtain⟨v,j1,j2⟩:=BS hr hok hcs g3 a1 l1 t1 r2 hok2 ext (fun z hz=>by have:=List.all_eq_true.1 hbsx z hz;rw [Bool.and_eq_true]at this;exact this.1) hk;exact⟨v,(Option.some.inj j1).symm,j2⟩
      cases e with
      |normal=>
       obtain⟨cs2,v,w1,w2,w3,w4⟩:=pL r2 k1;cases w4
       obtain⟨V3,hr3,ha3,hl3⟩:=On (Fb:=aG F ks a cs) (kb:=ck F ks a.head v) hr hok hcs r2 hok2 ext hbs0 w1 w2 w3 rfl rfl (fun i d hd=>by
        have hd':bF (kJ a.head.vs ((aP a.head.sh v ks.nx).map (·.1))) (aG F ks a cs).sl i=some d:=hd;unfold bF at hd'
        cases hl:am (kJ a.head.vs ((aP a.head.sh v ks.nx).map (·.1))) i with
        |some d'=>rw [hl]at hd';cases hd';exact .inl rfl
        |none=>rw [hl]at hd';exact .inr hd') (fun p=>(bp _ _ p).symm)
       exact⟨rfl,V3,f2,t1,hr3,(a1.trans ext.agree (by show ks.nx≤ks.nx+_;omega)).trans ha3 (Nat.le_refl _),(l1.trans ext.le (by show ks.nx≤ks.nx+_;omega)).trans hl3 (Nat.le_refl _)⟩
      |ret=>obtain⟨v,rfl,j⟩:=hx (by simp) k1;exact j
      |exit id=>obtain⟨v,rfl,j⟩:=hx (by simp) k1;exact j
   ·simp at hs'
 |exit id=>intro R F ks κ r V f h hs hr;exact Jz ⟨ks,V,f,rfl,hr,hs,Ext.refl _ _ _⟩
 |ret=>intro R F ks κ r V f h hs hr;exact NF ⟨ks,V,f,rfl,hr,hs,Ext.refl _ _ _⟩
 |label l=>intro R F ks κ r V f h hs hr;exact PJ ⟨ks,V,f,rfl,hr,hs,Ext.refl _ _ _⟩
 |scope b ih=>
  intro R F ks κ r V f h hs hr;exact PK (ih R F ks κ r V f h hs hr)
 |_=>intro R F ks κ r V f h hs hr;simp [iS]at hs
end
end K
end Ev
end
noncomputable section
namespace Ev
namespace K
open Go Go.RowKit
section
variable {E : Env} {n : Nat} {F : KF} {ks : KS} {V : Vl} {f : Nat → D} {h : Heap} {G : KG} {D0 : Nat}
theorem BT{k i j bz:Nat}{ag:Bool}{sz:Nat}{es:List (List C)}{e cs:List C}{d:D}(hg:az h k=some (bz,es))(he:es[i]? =some e)(hc:Ev.cut e j sz=some cs)(hv:dH ag cs=some d):load h ag sz (.one (.ptr k i j))=some d:=by
 simp only [load,hg,zbB,zbS,he,hc,hv]
theorem UN(hr:Rel F ks V f h){z:Nat×Bool}{a:KD}{a':D}{R:Type}{r:R}{κ:KD→Option R}(hs:kd F ks z a κ=some r)(ha:RD (aF F ks) V a a'):∃d d',κ d=some r∧load h z.2 (if z.2 then z.1 else 1) a'=some d'∧RD (aF F ks) V d d'∧ScD ks.nx d:=by
 have hz:wd z=if z.2 then z.1 else 1:=by unfold wd;cases z.2<;>rfl
 cases a with
 |tup ts=>simp [kd]at hs
 |agg cs=>simp [kd]at hs
 |one c=>
  obtain⟨c',rfl,hc⟩:=ha
  cases c with
  |ptr p j=>
   simp only [kd]at hs;split at hs
   ·rename_i cs hp;simp only [zbE]at hs;obtain⟨d2,⟨cs2,g1,g2⟩,g3⟩:=hs;obtain⟨g4,g5,sz,cs',g6,g7⟩:=hr.bl p _ hp;obtain⟨c2,g8,g9⟩:=g7.cut g1;obtain⟨d3,k1,k2,k3⟩:=jd g2 (ld g5 g1) g9;rw [show c'=_ from hc];exact⟨_,d3,g3,BT g6 rfl (by rw [←hz];exact g8) k1,k2,k3⟩
   ·simp at hs
  |ip e fr x i y j=>
   simp only [kd,zbE]at hs;obtain⟨d2,⟨cs2,g1,g2⟩,g3⟩:=hs;obtain⟨fl,e1,e2,e3⟩:=hc;obtain⟨c2,g8,g9⟩:=(eY (B:=aF F ks) (V:=V) e3 e y).cut g1;obtain⟨d3,k1,k2,k3⟩:=jd g2 (ld (gN ks.nx fr e y) g1) g9;refine⟨_,d3,g3,?_,k2,k3⟩;rw [e1];simp only [load,zbB,ba (r:=e.row) e2,zbS];rw [←hz,g8];exact k1
  |pe p i j=>
   simp only [kd]at hs;rw [hc.2];split at hs
   ·rename_i e ne l hp;simp only [zbE]at hs;obtain⟨y,g0,d2,⟨cs2,g1,g2⟩,g3⟩:=hs;obtain⟨g4,g5,g6,_⟩:=hr.bl p _ hp;obtain⟨c2,g8,g9⟩:=(eY (B:=aF F ks) (V:=V) (fun _=>rfl) e y).cut g1;obtain⟨d3,k1,k2,k3⟩:=jd g2 (ld (gN ks.nx true e y) g1) g9;exact⟨_,d3,g3,BT g6 (ph g0).2 (by rw [←hz];exact g8) k1,k2,k3⟩
   ·rename_i e l hp;simp only [zbE]at hs;obtain⟨y,g0,d2,⟨cs2,g1,g2⟩,g3⟩:=hs;obtain⟨g4,g5,g6⟩:=hr.bl p _ hp;obtain⟨c2,g8,g9⟩:=(eY (B:=aF F ks) (V:=V) (fun _=>rfl) e y).cut g1;obtain⟨d3,k1,k2,k3⟩:=jd g2 (ld (gN ks.nx true e y) g1) g9;exact⟨_,d3,g3,BT (g6 (Ha g0)) (ph g0).2 (by rw [←hz];exact g8) k1,k2,k3⟩
   ·simp at hs
  |_=>simp [kd]at hs
theorem yI(hG:GOk G E D0)(hr:Rel F ks V f h):∀{rv:List ResultVar} {R:Type} {r:R} {κ:List KD→Option R},GU G F ks rv κ=some r→∃ds ds',rv.mapM (dv E {t:=tab F.nt f,h:=h})=some ds'∧RDl (aF F ks) V ds ds'∧(∀d∈ds,ScD ks.nx d)∧κ ds=some r
 | [],R,r,κ,hs=>⟨[],[],rfl,rfl,by simp,hs⟩
 | .tmp t::rv,R,r,κ,hs=>by
  simp only [GU,zbE]at hs;obtain⟨d,g1,g2⟩:=hs;obtain⟨k1,k2,k3⟩:=hr.sl t d g1;obtain⟨ds,ds',e1,e2,e3,e4⟩:=yI hG hr g2;refine⟨d::ds,f t::ds',?_,⟨_,_,rfl,k3,e2⟩,fun x hx=> ?_,e4⟩
  ·rw [List.mapM_cons,e1];show((tab F.nt f)[t]?).bind _=_;rw [kZ,if_pos k1];rfl
  ·rcases List.mem_cons.1 hx with rfl|hx
   ·exact k2
   ·exact e3 x hx
 | .cell a ty::rv,R,r,κ,hs=>by
  simp only [GU]at hs;split at hs
  ·rename_i z d hz hd;have hz':=GZ hG hz;obtain⟨k1,k2,k3⟩:=hr.sl a d hd;obtain⟨v,v',g1,g2,g3,g4⟩:=UN hr hs k3;obtain⟨ds,ds',e1,e2,e3,e4⟩:=yI hG hr g1;refine⟨v::ds,v'::ds',?_,⟨_,_,rfl,g3,e2⟩,fun x hx=> ?_,e4⟩
   ·unfold cj at hz';simp only [zbE,zsI]at hz';obtain⟨ti,w1,w2⟩:=hz';rw [List.mapM_cons,e1];show(((E.ti ty).bind fun t'=>((tab F.nt f)[a]?).bind fun d=>load h (bn t'.desc) (if bn t'.desc then t'.size else 1) d).bind _)=_;rw [w1,kZ,if_pos k1];subst w2;simp only [zbS];rw [g2];rfl
   ·rcases List.mem_cons.1 hx with rfl|hx
    ·exact g4
    ·exact e3 x hx
  ·simp at hs
theorem Hl:∀{ds:List KD} {ds':List D} {ts:List (Bool×List KC)},tupK.tups ds=some ts→RDl (aF F ks) V ds ds'→(∀d∈ds,ScD ks.nx d)→RTs (aF F ks) V ts ds'∧∀x∈ts,Scs ks.nx x.2
 | [],ds',ts,h,hr,hs=>by
  have:=Option.some.inj (show some []=some ts from h)
  subst this;exact⟨hr,by simp⟩
 | .one c::r,ds',ts,h,⟨d,s,e,h1,h2⟩,hs=>by
  simp only [tupK.tups,Option.map_eq_some_iff]at h;obtain⟨ts',g1,rfl⟩:=h;obtain⟨k1,k2⟩:=Hl g1 h2 fun x hx=>hs x (by simp [hx]);refine⟨⟨d,s,e,h1,k1⟩,fun x hx=> ?_⟩;rcases List.mem_cons.1 hx with rfl|hx
  ·exact fun y hy=>by rw [List.mem_singleton.1 hy];exact hs (.one c) (by simp)
  ·exact k2 x hx
 | .agg cs::r,ds',ts,h,⟨d,s,e,h1,h2⟩,hs=>by
  simp only [tupK.tups,Option.map_eq_some_iff]at h;obtain⟨ts',g1,rfl⟩:=h;obtain⟨k1,k2⟩:=Hl g1 h2 fun x hx=>hs x (by simp [hx]);refine⟨⟨d,s,e,h1,k1⟩,fun x hx=> ?_⟩;rcases List.mem_cons.1 hx with rfl|hx
  ·exact hs (.agg cs) (by simp)
  ·exact k2 x hx
 | .tup ts'::r,ds',ts,h,hr,hs=>by simp [tupK.tups]at h
theorem Xu{ds:List KD}{ds':List D}{d:KD}(h:tupK ds=some d)(hr:RDl (aF F ks) V ds ds')(hs:∀d∈ds,ScD ks.nx d):RD (aF F ks) V d (jH ds')∧ScD ks.nx d:=by
 match ds,h,hr,hs with
 | [x],h,⟨d',s,e,h1,h2⟩,hs=>
  cases h;rw [e,show s= []from h2];exact⟨h1,hs d (by simp)⟩
 | [],h,hr,hs=>
  cases h;rw [show ds'= []from hr];exact⟨⟨[],rfl,rfl⟩,fun x hx=>by simp at hx⟩
 |x::x'::r,h,hr,hs=>
  have h':(tupK.tups (x::x'::r)).map KD.tup=some d:=h;rw [Option.map_eq_some_iff]at h';obtain⟨ts,g1,rfl⟩:=h';obtain⟨k1,k2⟩:=Hl g1 hr hs;obtain⟨d1,s1,e1,_,d2,s2,e2,_,_⟩:=hr;refine⟨⟨ds',?_,k1⟩,k2⟩;rw [e1,e2];rfl
theorem EJ:∀{l:List KD} {q i:Nat} {d:KD},am (CZ q l) i=some d→∃j,i=q+j∧l[j]? =some d
 | [],q,i,d,h=>by simp [CZ,am]at h
 |a::l,q,i,d,h=>by
  unfold CZ at h;rw [aV]at h;split at h
  ·rename_i hi;cases h;exact⟨0,by omega,rfl⟩
  ·obtain⟨j,h1,h2⟩:=EJ h;exact⟨j+1,by omega,by simpa using h2⟩
theorem Oq{B:BK}:∀{l:List KD} {l':List D} {j:Nat} {d:KD},RDl B V l l'→l[j]? =some d→∃d',l'[j]? =some d'∧RD B V d d'
 | [],l',j,d,h,hj=>by simp at hj
 |a::l,l',0,d,⟨x,s,e,h1,h2⟩,hj=>by simp at hj;subst hj e;exact⟨x,rfl,h1⟩
 |a::l,l',j+1,d,⟨x,s,e,h1,h2⟩,hj=>by subst e;simpa using Oq h2 (by simpa using hj)
theorem Ot{B:BK}:∀{l:List KD} {l':List D},RDl B V l l'→l'.length=l.length
 | [],l',h=>by rw [show l'= []from h];rfl
 |a::l,l',⟨x,s,e,h1,h2⟩=>by rw [e,List.length_cons,List.length_cons,Ot h2]
theorem EK{nt nx:Nat}{bl:List (Nat×KB)}{args:List KD}{args':List D}(hb:UF F {sl:= [],bl:=bl,nx:=nx} V h)(hs:∀d∈args,ScD nx d)(hr:RDl (aF F {sl:= [],bl:=bl,nx:=nx}) V args args')(hl:args.length≤nt):Rel {F with sl:= [],nt:=nt} {sl:=CZ 0 args,bl:=bl,nx:=nx} V (fA args') h:=by
 refine⟨?_,hb.bl,hb.inj⟩;intro i d hd;have hd':bF (CZ 0 args) [] i=some d:=hd;unfold bF at hd'
 cases hl':am (CZ 0 args) i with
 |none=>rw [hl']at hd';simp [am]at hd'
 |some d0=>
  rw [hl']at hd';cases hd';obtain⟨j,h1,h2⟩:=EJ hl';rw [Nat.zero_add]at h1;subst h1;obtain⟨d',h3,h4⟩:=Oq hr h2;have hi:i<args.length:=(List.getElem?_eq_some_iff.1 h2).1;refine⟨Nat.lt_of_lt_of_le hi hl,hs d (List.mem_of_getElem? h2),?_⟩;show RD _ _ d (args'.getD i cB);rw [List.getD_eq_getElem?_getD,h3];exact h4
theorem Km{e:Ex}(h:xK e=true):e= .normal∨e= .ret:=by
 cases e with
 |normal=>exact .inl rfl
 |ret=>exact .inr rfl
 |exit id=>simp [xK]at h
theorem Kn(hG:GOk G E D0)(A:dt):∀(c n:Nat),D0+c≤n→MN E n (JS G A c)
 |0,n,hn=>fun R F k args ks κ r V h args' hs hb hsc hr=>by simp [JS]at hs
 |c+1,n,hn=>fun R F k args ks κ r V h args' hs hb hsc hr=>by
  unfold JS at hs;split at hs
  ·rename_i fi hfi;obtain⟨g1,g2⟩:=hG.fi k fi hfi;split at hs
   ·rename_i hlen
    match n,hn with
    |n0+1,hn=>
     refine⟨n0,fi,rfl,g1,g2,by rw [Ot hr];exact hlen,?_⟩;have hrel:Rel {F with sl:= [],nt:=fi.nt} {ks with sl:=CZ 0 args} V (fA args') h:=EK ⟨hb.bl,hb.inj⟩ hsc hr hlen;refine(Kl (y:=nY) hG (by omega) (Kn hG A c n0 (by omega)) fi.body R _ _ _ r V _ h hs hrel).mono fun e s hp=> ?_;obtain⟨ks',V',f',h1,h2,h3,h4⟩:=hp;obtain⟨t,hh⟩:=s;simp only at h1 h2;subst h1;dsimp only at h3
     cases he:xK e with
     |false=>rw [he]at h3;simp at h3
     |true=>
      rw [he]at h3;obtain⟨ds,ds',e1,e2,e3,e4⟩:=yI hG h2 h3;rw [zbE]at e4;obtain⟨d,e5,e6⟩:=e4;obtain⟨k1,k2⟩:=Xu e5 e2 e3;exact⟨Km he,ds',e1,ks',V',d,e6,k2,k1,⟨h2.bl,h2.inj⟩,⟨h4.nx,h4.agree,h4.le,h4.dom⟩⟩
   ·simp at hs
  ·simp at hs
theorem tS:∀{e:Ty} (x:e.val),e.plain=true→(bI e.row x).all yL=true
 | .I _,_,_=>rfl
 | .B,_,_=>rfl
 | .S _,_,hp=>by simp [Ty.plain]at hp
 | .U,_,_=>rfl
 | .C a b,x,hp=>by
  simp only [Ty.plain,Bool.and_eq_true]at hp;unfold bI;show((a.row x.1++b.row x.2).map (pC true)).all yL=true;rw [List.map_append,List.all_append];have h1:=tS x.1 hp.1;have h2:=tS x.2 hp.2;unfold bI at h1 h2;rw [h1,h2];rfl
theorem BU{B:BK}:∀{l:List (Bool×List KC)} {ds:List D},RTs B V l ds→RDl B V (l.map mkD) ds
 | [],ds,h=>h
 |x::l,ds,⟨d,s,e,h1,h2⟩=>⟨d,s,e,MI h1,BU h2⟩
theorem Ou(fr:Bool):∀(ts:List TyD) (x:vals ts),(qO fr ts x).length=ts.length
 | [],_=>rfl
 | [t],x=>rfl
 |t::t'::r,x=>by show(qO fr (t'::r) x.2).length+1=_;rw [Ou fr (t'::r)];rfl
theorem Hm:∀(ts:List TyD) (x:vals ts),(im ts x).length=ts.length
 | [],_=>rfl
 | [t],x=>rfl
 |t::t'::r,x=>by show(im (t'::r) x.2).length+1=_;rw [Hm (t'::r)];rfl
theorem Qi{B:BK}{ts:List TyD}{ds:List KD}{ds':List D}{x:vals ts}(hd:nz B ts ds=some x)(hr:RDl B V ds ds')(hno:wB ds=false):dF h ds'=false:=by
 unfold dF;split
 ·rename_i k m
  match ds,hr,hno,hd with
  | [d],⟨y,s,e,h1,h2⟩,hno,hd=>
   rw [show s= []from h2]at e;simp only [List.cons.injEq,and_true]at e;subst e
   match ts,x,hd with
   | [t],x,hd=>
    have hd':GP B t d=some x:=hd
    cases d with
    |one c=>
     obtain⟨c',e1,e2⟩:=h1;cases e1
     cases c with
     |o e p=>simp [wB]at hno
     |m e p=>simp [wB]at hno
     |n k y=>exact absurd (show C.own _ 0 _=_ from e2) (by simp)
     |b v=>exact absurd (show C.own _ 0 _=_ from e2) (by simp)
     |p t P d=>exact absurd e2.1 (by simp)
     |bv y=>exact absurd (show C.own _ 0 _=_ from e2) (by simp)
     |v y=>exact absurd (show C.own _ 0 _=_ from e2) (by simp)
     |nil=>exact absurd (show C.own _ 0 _=_ from e2) (by simp)
     |s e fr y=>obtain⟨fl,e3,_⟩:=e2;exact absurd e3 (by simp)
     |ptr p j=>exact absurd (show C.own _ 0 _=_ from e2) (by simp)
     |pe p i j=>exact absurd e2.2 (by simp)
     |ip e fr y i z j=>obtain⟨fl,e3,_⟩:=e2;exact absurd e3 (by simp)
     |clo fn ps=>exact absurd (show C.own _ 0 _=_ from e2) (by simp)
     |yld p=>exact absurd (show C.own _ 0 _=_ from e2) (by simp)
    |agg cs=>obtain⟨c',e1,_⟩:=h1;simp at e1
    |tup ts=>simp [GP]at hd'
   | [],x,hd=>simp [nz]at hd
   |_::_::_,x,hd=>simp [nz]at hd
  | [],hr,_,_=>exact absurd (show [_]=_ from hr) (by simp)
  |_::_::_,⟨y,s,e,h1,y2,s2,e2,_,_⟩,_,_=>rw [e2]at e;simp at e
 ·rfl
theorem vC{rv:List ResultVar}{e:Ty}{l:List e.val}{k:Nat}{ex:Ex}{s:St}(he:ex= .normal∨ex= .ret)(hres:rv.mapM (dv E s)=some [.one (.own k 0 l.length)])(hg:az s.h k=some (e.size,l.map (bI e.row)))(hp:e.plain=true):nb E rv (.own,[.one (.s true e.size (l.map e.row))]) ex s:=by
 have ho:dF s.h [.one (.own k 0 l.length)]=true:=by
  simp only [dF,hg,List.length_map,BEq.rfl,Bool.true_and,List.all_map];rw [List.all_eq_true];exact fun x _=>tS x hp
 have hv:du s.h (.one (.own k 0 l.length))=some (true,.one (.s true e.size (l.map e.row))):=by
  show(fO s.h 6 _).bind _=_;rw [tA (r:=e.row) (L:= [[(k,e.size,l.map (bI e.row))]]) 0 rfl (fun x h m=>Bu m) s.h (kK hg) 4];rfl
 have key:dp (fun q:Kind×List TD=>q=(.own,[.one (.s true e.size (l.map e.row))])) ((rv.mapM (dv E s)).bind fun rs=>(rs.mapM (du s.h)).map fun l=>(if dF s.h rs then .own else if l.all (·.1)then .fresh else .any,l.map (·.2))):=by
  rw [hres];simp only [zbS,List.mapM_cons,hv,List.mapM_nil,Option.pure_def,zbB,Option.map_some,ho];rfl
 rcases he with rfl|rfl<;>exact key
theorem oM{rv:List ResultVar}{ds':List D}{l:List (Bool×TD)}{ex:Ex}{s:St}(he:ex= .normal∨ex= .ret)(hres:rv.mapM (dv E s)=some ds')(hv:ds'.mapM (du s.h)=some l)(ho:dF s.h ds'=false):nb E rv (cond (l.all (·.1)) .fresh .any,l.map (·.2)) ex s:=by
 have key:dp (fun q:Kind×List TD=>q=(cond (l.all (·.1)) .fresh .any,l.map (·.2))) ((rv.mapM (dv E s)).bind fun rs=>(rs.mapM (du s.h)).map fun l=>(if dF s.h rs then .own else if l.all (·.1)then .fresh else .any,l.map (·.2))):=by
  rw [hres];simp only [zbS,hv,Option.map_some,ho];show(_,_)=(_,_);cases l.all (·.1)<;>rfl
 rcases he with rfl|rfl<;>exact key
theorem Xv(hG:GOk G E D0)(A:dt){fi:FI}{k:FuncId}{c:Nat}{ins:List TyD}{ok:OutK}{x:vals ins}{out:ok.val}(hax:E.ax k=none)(hf:E.fn k=some fi)(hl:ins.length≤fi.nt)(hs:dJ G A fi k c ins ok x=some out)(m:Nat):Oc E (m+(D0+c)+1) k (im ins x) ok out:=by
 unfold dJ at hs;have hb:UF {nt:=fi.nt} {sl:= [],bl:= [],nx:=0} ⟨fun _=>0,fun _=>false⟩ []:=⟨fun p b hb=>by simp [aF,bF,am]at hb,fun p q b b' hb=>by simp [aF,bF,am]at hb⟩;have hargs:RDl (aF {nt:=fi.nt} {sl:= [],bl:= [],nx:=0}) ⟨fun _=>0,fun _=>false⟩ ((qO false ins x).map mkD) ((im ins x).map (dm false)):=BU (vr (fun h=>h) ins x)
 have hsc:∀d∈(qO false ins x).map mkD,ScD 0 d:=fun d hd=>by
  obtain⟨y,h1,rfl⟩:=List.mem_map.1 hd;exact yG (Bv 0 false ins x y h1)
 have hrel:Rel {nt:=fi.nt} {sl:=Oa ins x,bl:= [],nx:=0} ⟨fun _=>0,fun _=>false⟩ (fA ((im ins x).map (dm false))) []:=EK (F:={nt:=fi.nt}) hb hsc hargs (by rw [List.length_map,Ou];exact hl);have hw:=Kl (y:=nY) (n:=m+(D0+c)) hG (by omega) (Kn hG A c _ (by omega)) fi.body ok.val _ _ _ out _ _ [] hs hrel;have hend:∀r,(∀e s,PostC {nt:=fi.nt} {sl:=Oa ins x,bl:= [],nx:=0} ⟨fun _=>0,fun _=>false⟩ (fun e ks=>cond (xK e) (GU G {nt:=fi.nt} ks fi.results fun ds=>GV (aF {nt:=fi.nt} ks) ok ds) none) out e s→nb E fi.results r e s)→RunsP E (m+(D0+c)+1) k (im ins x) r:=fun r hq=>uW hax hf (by rw [Hm];exact hl) (hw.mono hq)
 have hopen:∀e s,PostC {nt:=fi.nt} {sl:=Oa ins x,bl:= [],nx:=0} ⟨fun _=>0,fun _=>false⟩ (fun e ks=>cond (xK e) (GU G {nt:=fi.nt} ks fi.results fun ds=>GV (aF {nt:=fi.nt} ks) ok ds) none) out e s→∃ks' V' f' ds ds',(e= .normal∨e= .ret)∧Rel {nt:=fi.nt} ks' V' f' s.h∧fi.results.mapM (dv E s)=some ds'∧RDl (aF {nt:=fi.nt} ks') V' ds ds'∧GV (aF {nt:=fi.nt} ks') ok ds=some out:=by
  intro e s hp;obtain⟨ks',V',f',h1,h2,h3,h4⟩:=hp;obtain⟨t,hh⟩:=s;simp only at h1 h2;subst h1;dsimp only at h3
  cases he:xK e with
  |false=>rw [he]at h3;simp at h3
  |true=>
   rw [he]at h3;obtain⟨ds,ds',e1,e2,e3,e4⟩:=yI hG h2 h3;exact⟨ks',V',f',ds,ds',Km he,h2,e1,e2,e4⟩
 cases ok with
 |data fr ts=>
  have hdata:∀(ks':KS) (V':Vl) (ds:List KD) (ds':List D) (hh:Heap) (f':Nat→D),Rel {nt:=fi.nt} ks' V' f' hh→RDl (aF {nt:=fi.nt} ks') V' ds ds'→GV (aF {nt:=fi.nt} ks') (.data fr ts) ds=some out→∃l,ds'.mapM (du hh)=some l∧l.map (·.2)=im ts out∧(fr=true→l.all (·.1)=true)∧dF hh ds'=false:=by
   intro ks' V' ds ds' hh f' h2 e2 e4;unfold GV at e4;simp only at e4;split at e4
   ·simp at e4
   ·rename_i hc;obtain⟨l,l1,l2,l3⟩:=tE h2.bls e4 e2
    have hno:wB ds=false:=by cases ho:wB ds with|true=>simp [ho]at hc|false=>rfl
    refine⟨l,l1,l2,fun hfr=>l3 ?_,Qi e4 e2 hno⟩
    cases ha:ds.all frD with
    |true=>rfl
    |false=>simp [hfr,ha]at hc
  cases fr with
  |true=>
   refine hend _ fun e s hp=> ?_;obtain⟨ks',V',f',ds,ds',he,h2,e1,e2,e4⟩:=hopen e s hp;obtain⟨l,l1,l2,l3,l4⟩:=hdata ks' V' ds ds' s.h f' h2 e2 e4
   have:=oM (E:=E) he e1 l1 l4
   rw [l3 rfl,l2]at this;exact this
  |false=>
   -- is it new? that is settled when it has run
   obtain⟨e,s,hrun,hp⟩:=hw;obtain⟨ks',V',f',ds,ds',he,h2,e1,e2,e4⟩:=hopen e s hp;obtain⟨l,l1,l2,_,l4⟩:=hdata ks' V' ds ds' s.h f' h2 e2 e4
   have:=oM (E:=E) he e1 l1 l4
   rw [l2]at this;exact⟨l.all (·.1),uW hax hf (by rw [Hm];exact hl) ⟨e,s,hrun,this⟩⟩
 |own ty=>
  refine hend _ fun e s hp=> ?_;obtain⟨ks',V',f',ds,ds',he,h2,e1,e2,e4⟩:=hopen e s hp;unfold GV at e4;simp only at e4;unfold Uq at e4;split at e4
  ·rename_i e0 p;split at e4
   ·rename_i e' ne l hB;split at e4
    ·rename_i hpl;rw [Option.map_eq_some_iff]at e4;obtain⟨l2,g0,rfl⟩:=e4;obtain⟨hty,g0⟩:=bG g0;cases hty;subst g0;obtain⟨y,s',e5,⟨c',e6,e7⟩,e8⟩:=e2;rw [show s'= []from e8]at e5;rw [e5,e6,e7 _ _ _ hB]at e1;exact vC he e1 (h2.bl p _ hB).2.2.1 hpl
    ·simp at e4
   ·simp at e4
  ·simp at e4
 |mown ty=>
  refine hend _ fun e s hp=> ?_;obtain⟨ks',V',f',ds,ds',he,h2,e1,e2,e4⟩:=hopen e s hp
  have hnil:∀{ds'':List D},RDl (aF {nt:=fi.nt} ks') V' [.one .nil] ds''→fi.results.mapM (dv E s)=some ds''→nb E fi.results (acY ty.size ty.row []) e s:=by
   intro ds'' e2 e1;obtain⟨y,s',e5,⟨c',e6,e7⟩,e8⟩:=e2;rw [show s'= []from e8]at e5;rw [e5,e6,show c'=_ from e7]at e1;exact oM (E:=E) (l:= [(true,.one (.s false 0 []))]) he e1 rfl rfl
  unfold GV at e4;simp only at e4;unfold NY at e4;split at e4
  ·cases e4;exact hnil e2 e1
  ·rename_i e0 p;split at e4
   ·rename_i e' l hB;split at e4
    ·rename_i hpl;rw [Option.map_eq_some_iff]at e4;obtain⟨l2,g0,rfl⟩:=e4;obtain⟨hty,g0⟩:=bG g0;cases hty;subst g0;obtain⟨y,s',e5,⟨c',e6,e7⟩,e8⟩:=e2;rw [show s'= []from e8]at e5;rw [e5,e6,e7 _ _ hB]at e1
     cases l with
     |nil=>exact oM (E:=E) (l:= [(true,.one (.s false 0 []))]) he e1 rfl rfl
     |cons a l=>exact vC he e1 ((h2.bl p _ hB).2.2 (by simp)) hpl
    ·simp at e4
   ·simp at e4
  ·rename_i e0 p;split at e4
   ·rename_i e' ne l hB;split at e4
    ·rename_i hpl;rw [Bool.and_eq_true]at hpl;rw [Option.map_eq_some_iff]at e4;obtain⟨l2,g0,rfl⟩:=e4;obtain⟨hty,g0⟩:=bG g0;cases hty;subst g0;obtain⟨y,s',e5,⟨c',e6,e7⟩,e8⟩:=e2;rw [show s'= []from e8]at e5;rw [e5,e6,e7 _ _ _ hB]at e1;obtain⟨w1,w2,w3,w4⟩:=h2.bl p _ hB
     cases l with
     |nil=>exact absurd rfl (w4 hpl.2)
     |cons a l=>exact vC he e1 w3 hpl.1
    ·simp at e4
   ·simp at e4
  ·simp at e4
 |gown ty=>
  refine hend _ fun e s hp=> ?_;obtain⟨ks',V',f',ds,ds',he,h2,e1,e2,e4⟩:=hopen e s hp;unfold GV at e4;simp only at e4;unfold NZ at e4;split at e4
  ·cases e4;obtain⟨y,s',e5,⟨c',e6,e7⟩,e8⟩:=e2;rw [show s'= []from e8]at e5;rw [e5,e6,show c'=_ from e7]at e1;exact oM (E:=E) (l:= [(true,.one (.s false 0 []))]) he e1 rfl rfl
  ·rename_i e0 p;split at e4
   ·rename_i e' l hB;split at e4
    ·rename_i hpl;rw [Option.map_eq_some_iff]at e4;obtain⟨l2,g0,rfl⟩:=e4;obtain⟨hty,g0⟩:=bG g0;cases hty;subst g0;obtain⟨y,s',e5,⟨c',e6,e7⟩,e8⟩:=e2;rw [show s'= []from e8]at e5;rw [e5,e6,e7 _ _ hB]at e1
     cases l with
     |nil=>exact oM (E:=E) (l:= [(true,.one (.s false 0 []))]) he e1 rfl rfl
     |cons a l=>exact vC he e1 ((h2.bl p _ hB).2.2 (by simp)) hpl
    ·simp at e4
   ·simp at e4
  ·rename_i e0 p;split at e4
   ·rename_i e' ne l hB;split at e4
    ·rename_i hpl;rw [Option.map_eq_some_iff]at e4;obtain⟨l2,g0,rfl⟩:=e4;obtain⟨hty,g0⟩:=bG g0;cases hty;subst g0;obtain⟨y,s',e5,⟨c',e6,e7⟩,e8⟩:=e2;rw [show s'= []from e8]at e5;rw [e5,e6,e7 _ _ _ hB]at e1;exact vC he e1 (h2.bl p _ hB).2.2.1 hpl
    ·simp at e4
   ·simp at e4
  ·simp at e4
end
end K
end Ev
end
noncomputable section
namespace Ev
namespace K
open Go Go.RowKit
def aap(E:Env)(D:Nat):List bA→Prop
 | []=>True
 |e::r=>(e.d≤D∧bj E e)∧aap E D r
def aaq(E:Env):List (FuncId×FI)→Prop
 | []=>True
 |x::r=>(E.fn x.1=some x.2∧E.ax x.1=some fun _=>none)∧aaq E r
def UO(E:Env):List (Nat×TI)→Prop
 | []=>True
 |x::r=>E.ti x.1=some x.2∧UO E r
def UP(P:Program):List (Nat×List IntKind)→Prop
 | []=>True
 |x::r=>Xg P x.1 x.2∧UP P r
theorem Ko{E:Env}{D:Nat}:∀{l:List bA},aap E D l→∀e∈l,e.d≤D∧bj E e
 | [],_,e,h=>by simp at h
 |a::l,⟨h1,h2⟩,e,h=>by
  rcases List.mem_cons.1 h with rfl|h
  ·exact h1
  ·exact Ko h2 e h
theorem EL{E:Env}:∀{l:List (FuncId×FI)},aaq E l→∀k f,am l k=some f→E.fn k=some f∧E.ax k=some fun _=>none
 | [],_,k,f,h=>by simp [am]at h
 |a::l,⟨h1,h2⟩,k,f,h=>by
  rw [show a::l=(a.1,a.2)::l from rfl,aV]at h;split at h
  ·rename_i hk;cases h;subst hk;exact h1
  ·exact EL h2 k f h
theorem EM{E:Env}:∀{l:List (Nat×TI)},UO E l→∀k f,am l k=some f→E.ti k=some f
 | [],_,k,f,h=>by simp [am]at h
 |a::l,⟨h1,h2⟩,k,f,h=>by
  rw [show a::l=(a.1,a.2)::l from rfl,aV]at h;split at h
  ·rename_i hk;cases h;subst hk;exact h1
  ·exact EM h2 k f h
theorem EN{P:Program}:∀{l:List (Nat×List IntKind)},UP P l→∀k f,am l k=some f→Xg P k f
 | [],_,k,f,h=>by simp [am]at h
 |a::l,⟨h1,h2⟩,k,f,h=>by
  rw [show a::l=(a.1,a.2)::l from rfl,aV]at h;split at h
  ·rename_i hk;cases h;subst hk;exact h1
  ·exact EN h2 k f h
theorem gok{E:Env}{D:Nat}{tt:List (Nat×TI)}{eqs:List (Nat×List IntKind)}{fns:List bA}{fi:List (FuncId×FI)}(hE:E.Ok)(ht:UO E tt)(hq:UP E.P eqs)(hf:aap E D fns)(hi:aaq E fi):GOk ⟨tt,eqs,fns,fi⟩ E D:=⟨hE,EM ht,EN hq,Ko hf,EL hi⟩
def mkE(G:KG)(A:dt)(fi:FI)(k:FuncId)(c:Nat)(ins:List TyD)(out:OutK)(d:Nat):bA:=⟨k,ins,out,dJ G A fi k c ins out,d⟩
theorem cQ{E:Env}{D:Nat}{G:KG}{A:dt}{fi:FI}{k:FuncId}{c:Nat}{ins:List TyD}{out:OutK}{d:Nat}(hG:GOk G E D)(hax:E.ax k=none)(hf:E.fn k=some fi)(hl:Nat.ble ins.length fi.nt=true)(hd:D+c+1=d):bj E (mkE G A fi k c ins out d):=fun m a o h=>by
 subst hd;exact Xv hG A hax hf (Nat.le_of_ble_eq_true hl) h m
def fiF(f:Func):FI:=⟨f.ntmps,f.results.toList,f.body.getD .skip⟩
theorem eE{P:Program}{k:FuncId}{f:Func}{b:Code}(h:P.funcs[k]? =some f)(hb:f.body=some b):bZ P k=some (fiF f):=by
 unfold bZ fiF;rw [h];simp only [hb];rfl
theorem XV{P:Program}{ty:TypeId}{k0 k1:IntKind}(h:∀(x y:Operand) (a0 b0 a1 b1:Int),ak P (do eqGuard .eql ty x y (.agg #[.int k0 a0,.int k1 a1]) (.agg #[.int k0 b0,.int k1 b1]);binOp .eql ty (.agg #[.int k0 a0,.int k1 a1]) (.agg #[.int k0 b0,.int k1 b1]))=some (.bool (a0==b0 &&(a1==b1 && true))))
  (h':∀(x y:Operand) (a0 b0 a1 b1:Int),ak P (do eqGuard .neq ty x y (.agg #[.int k0 a0,.int k1 a1]) (.agg #[.int k0 b0,.int k1 b1]);binOp .neq ty (.agg #[.int k0 a0,.int k1 a1]) (.agg #[.int k0 b0,.int k1 b1]))=some (.bool (!(a0==b0 &&(a1==b1 && true))))):Xg P ty [k0,k1]:=fun x y l hl=>by
 match l,hl with
 | [(a0,b0),(a1,b1)],_=>
  have e:(a0==b0 &&(a1==b1 && true))= @decide (eqP [(a0,b0),(a1,b1)]) (eqD [(a0,b0),(a1,b1)]):=ji (by simp [eqP]);exact⟨(h x y a0 b0 a1 b1).trans (by rw [e]),(h' x y a0 b0 a1 b1).trans (by rw [e])⟩
end K
@[reducible] def nE {R:Type} (v:Empty):Option R:=K.afterX.match_1 (fun _=>Option R) v
end Ev
end
end Go.Proofs.Ytjjbpdldbdmoeaa
